/- What an instruction's octets tell, and what may be: plain facts; the contract of Check over any instruction; the front of a slice of octets that came in. Conditions: the variable 'rows' lies as it is laid. -/
import Derived.Test.YtfadfdfpocpelaaDoorPChecks
import Derived.DataShut
namespace Go.Proofs.YtfadfdfpocpelaaDoor.P
open Go.RowKit

theorem shapes_four (k : Nat) (h1 : 1 ≤ k) (h2 : k ≤ 25) : (shapeAt k).length = 4 :=
  (by decide : ∀ k, k < 26 → 1 ≤ k → (shapeAt k).length = 4) k (by omega) h1
/-- Of an instruction's A, B and C the letter is never n. -/
theorem shapes_abc (k : Nat) (h1 : 1 ≤ k) (h2 : k ≤ 25) : ∀ i, i < 3 → (shapeAt k).getD i 0 ≠ 110 :=
  (by decide +kernel : ∀ k, k < 26 → 1 ≤ k → ∀ i, i < 3 → (shapeAt k).getD i 0 ≠ 110) k (by omega) h1
theorem shape_cases (o : Int) : (isOp o = false ∧ shapeZ o = []) ∨ (isOp o = true ∧ ∃ k l0 l1 l2 l3, 1 ≤ k ∧ k ≤ 25 ∧ shapeZ o = shapeAt k ∧ shapeAt k = [l0, l1, l2, l3]) := by
  cases ho : isOp o with
  | false => exact .inl ⟨rfl, by simp [shapeZ, ho]⟩
  | true =>
    have hb : 1 ≤ o ∧ o ≤ 25 := of_decide_eq_true ho
    have h4 := shapes_four o.toNat (by omega) (by omega)
    have e : shapeZ o = shapeAt o.toNat := by simp [shapeZ, ho]
    match hs : shapeAt o.toNat, h4 with
    | [l0, l1, l2, l3], _ => exact .inr ⟨rfl, o.toNat, l0, l1, l2, l3, by omega, by omega, e, hs⟩
theorem check_any (o a b c n r q s k : Int) (A : Option Addr) (l m : Nat) (w : World) (hL : Laid w) :
    Calls Tryd.prog 43 #[.agg #[.int .i64 o, .int .i64 a, .int .i64 b, .int .i64 c, .int .i64 n], .agg #[.int .i64 r, .int .i64 q, .int .i64 s, .slice A l m], .int .i64 k] w
      fun e w' => e = .returned (.int .i64 (chk o a b c n r s k)) ∧ Below w.heap.size w w' := by
  unfold chk
  rcases shape_cases o with ⟨_, h⟩ | ⟨_, i, l0, l1, l2, l3, _, _, h, h4⟩
  · rw [h]
    exact check_none o a b c n r q s k A l m w hL h
  · rw [h, h4]
    exact check_some o a b c n r q s k l0 l1 l2 l3 A l m w hL (h.trans h4)

/-! ### octets -/
/-! ### a slice of octets that came in -/
end Go.Proofs.YtfadfdfpocpelaaDoor.P
namespace Go.Proofs.YtfadfdfpocpelaaDoor.P
open Go.RowKit

/-- An instruction. -/
structure Ins where
  o : Int
  a : Int
  b : Int
  c : Int
  n : Int
/-- It lies in block g from cell k on. -/
structure AtI (w : World) (g k : Nat) (x : Ins) : Prop where
  c0 : w.cell? ⟨g, k, none⟩ = some (.int .i64 x.o)
  c1 : w.cell? ⟨g, k + 1, none⟩ = some (.int .i64 x.a)
  c2 : w.cell? ⟨g, k + 2, none⟩ = some (.int .i64 x.b)
  c3 : w.cell? ⟨g, k + 3, none⟩ = some (.int .i64 x.c)
  c4 : w.cell? ⟨g, k + 4, none⟩ = some (.int .i64 x.n)
theorem AtI.lt {w : World} {g k : Nat} {x : Ins} (h : AtI w g k x) : g < w.heap.size := World.block_lt_of_cell? w _ h.c0
theorem AtI.keep {w w' : World} {g k : Nat} {x : Ins} (h : AtI w g k x) (hk : ∀ p : Addr, p.block = g → w'.cell? p = w.cell? p) : AtI w' g k x :=
  ⟨(hk _ rfl).trans h.c0, (hk _ rfl).trans h.c1, (hk _ rfl).trans h.c2, (hk _ rfl).trans h.c3, (hk _ rfl).trans h.c4⟩

/-- The slice value '.slice A n cap' holds the instructions xs, in a block of S. -/
structure Lst (w : World) (S : Nat → Prop) (A : Option Addr) (n cap : Nat) (xs : List Ins) : Prop where
  len : xs.length = n
  room : n ≤ cap
  most : cap ≤ maxLen
  none_ : A = none → cap = 0
  cell : ∀ ad, A = some ad → ∀ (i : Nat) (x : Ins), xs[i]? = some x → ∃ g off, ad = ⟨g, off, none⟩ ∧ S g ∧ AtI w g (off + i * 5) x
/-- The slice value '.slice A n cap' holds the threads' code xss, all of it in blocks of S. -/
structure Mat (w : World) (S : Nat → Prop) (A : Option Addr) (n cap : Nat) (xss : List (List Ins)) : Prop where
  len : xss.length = n
  room : n ≤ cap
  most : cap ≤ maxLen
  none_ : A = none → cap = 0
  cell : ∀ ad, A = some ad → ∀ (i : Nat) (xs : List Ins), xss[i]? = some xs → ∃ g off A' n' cap', ad = ⟨g, off, none⟩ ∧ S g ∧ w.cell? ⟨g, off + i, none⟩ = some (.slice A' n' cap') ∧ Lst w S A' n' cap' xs
theorem len_i64 {n cap : Nat} (h : n ≤ cap) (hm : cap ≤ maxLen) : (n : Int) ≤ 9223372036854775807 := by
  unfold maxLen at hm
  omega
section
variable {w w' : World} {S S' : Nat → Prop} {n cap : Nat} {A : Option Addr} {xs : List Ins} {xss : List (List Ins)}
theorem Lst.nil (w : World) (S : Nat → Prop) : Lst w S none 0 0 [] := ⟨rfl, Nat.le_refl _, Nat.zero_le _, fun _ => rfl, fun _ h => (by cases h)⟩
theorem Mat.nil (w : World) (S : Nat → Prop) : Mat w S none 0 0 [] := ⟨rfl, Nat.le_refl _, Nat.zero_le _, fun _ => rfl, fun _ h => (by cases h)⟩
theorem Lst.keep (h : Lst w S A n cap xs) (hk : ∀ p : Addr, S p.block → w'.cell? p = w.cell? p) : Lst w' S A n cap xs :=
  ⟨h.len, h.room, h.most, h.none_, fun ad ha i x hx => by
    obtain ⟨g, off, e, hg, hc⟩ := h.cell ad ha i x hx
    exact ⟨g, off, e, hg, hc.keep fun p hp => hk p (by rw [hp]; exact hg)⟩⟩
theorem Mat.keep (h : Mat w S A n cap xss) (hk : ∀ p : Addr, S p.block → w'.cell? p = w.cell? p) : Mat w' S A n cap xss :=
  ⟨h.len, h.room, h.most, h.none_, fun ad ha i x hx => by
    obtain ⟨g, off, A', n', cap', e, hg, hc, hl⟩ := h.cell ad ha i x hx
    exact ⟨g, off, A', n', cap', e, hg, (hk _ hg).trans hc, hl.keep hk⟩⟩
theorem Lst.more (h : Lst w S A n cap xs) (hS : ∀ g, S g → S' g) : Lst w S' A n cap xs :=
  ⟨h.len, h.room, h.most, h.none_, fun ad ha i x hx => by
    obtain ⟨g, off, e, hg, hc⟩ := h.cell ad ha i x hx
    exact ⟨g, off, e, hS _ hg, hc⟩⟩
theorem Mat.more (h : Mat w S A n cap xss) (hS : ∀ g, S g → S' g) : Mat w S' A n cap xss :=
  ⟨h.len, h.room, h.most, h.none_, fun ad ha i x hx => by
    obtain ⟨g, off, A', n', cap', e, hg, hc, hl⟩ := h.cell ad ha i x hx
    exact ⟨g, off, A', n', cap', e, hS _ hg, hc, hl.more hS⟩⟩
theorem Lst.below {B : Nat} (h : Lst w S A n cap xs) (hb : Below B w w') (hS : ∀ g, S g → g < B) : Lst w' S A n cap xs := h.keep fun _ hp => hb.cell (hS _ hp)
theorem Mat.below {B : Nat} (h : Mat w S A n cap xss) (hb : Below B w w') (hS : ∀ g, S g → g < B) : Mat w' S A n cap xss := h.keep fun _ hp => hb.cell (hS _ hp)
theorem Lst.zero (h : Lst w S none n cap xs) : n = 0 ∧ cap = 0 ∧ xs = [] := by
  have hc := h.none_ rfl
  have hr := h.room
  have hl := h.len
  exact ⟨by omega, hc, List.eq_nil_of_length_eq_zero (by omega)⟩
theorem Mat.zero (h : Mat w S none n cap xss) : n = 0 ∧ cap = 0 ∧ xss = [] := by
  have hc := h.none_ rfl
  have hr := h.room
  have hl := h.len
  exact ⟨by omega, hc, List.eq_nil_of_length_eq_zero (by omega)⟩
theorem Lst.at_ (h : Lst w S A n cap xs) (i : Nat) (hi : i < n) : ∃ g off x, A = some ⟨g, off, none⟩ ∧ S g ∧ xs[i]? = some x ∧ AtI w g (off + i * 5) x := by
  have hx : xs[i]? = some (xs[i]'(by rw [h.len]; exact hi)) := List.getElem?_eq_getElem _
  cases A with
  | none => have := h.zero.1; omega
  | some ad =>
    obtain ⟨g, off, rfl, hg, hc⟩ := h.cell ad rfl i _ hx
    exact ⟨g, off, _, rfl, hg, hx, hc⟩
theorem Mat.at_ (h : Mat w S A n cap xss) (i : Nat) (hi : i < n) : ∃ g off A' n' cap' xs, A = some ⟨g, off, none⟩ ∧ S g ∧ xss[i]? = some xs ∧ w.cell? ⟨g, off + i, none⟩ = some (.slice A' n' cap') ∧ Lst w S A' n' cap' xs := by
  have hx : xss[i]? = some (xss[i]'(by rw [h.len]; exact hi)) := List.getElem?_eq_getElem _
  cases A with
  | none => have := h.zero.1; omega
  | some ad =>
    obtain ⟨g, off, A', n', cap', rfl, hg, hc, hl⟩ := h.cell ad rfl i _ hx
    exact ⟨g, off, A', n', cap', _, rfl, hg, hx, hc, hl⟩
end
end Go.Proofs.YtfadfdfpocpelaaDoor.P
