/- Lists of instructions, and of threads' code, that a call makes itself. Conditions: none. -/
import Derived.Test.YtodklfjoeehinaaDoorRefProg
namespace Go.Proofs.YtodklfjoeehinaaDoor
open Go.RowKit

theorem info46 : (Tryd.prog.info? 50).map (fun i => (i.zero, i.size, i.bytes)) = some (some (.slice none 0 0), 1, 24) := by kernel_rfl
theorem info45 : (Tryd.prog.info? 25).map (fun i => (i.zero, i.size, i.bytes)) = some (some (.agg #[.int .i64 0, .int .i64 0, .int .i64 0, .int .i64 0, .int .i64 0]), 5, 40) := by kernel_rfl
/-- Instructions as cells. -/
def flat5 (xs : List Ins) : List Value := xs.flatMap fun x => [.int .i64 x.o, .int .i64 x.a, .int .i64 x.b, .int .i64 x.c, .int .i64 x.n]
theorem flat5_snoc (xs : List Ins) (x : Ins) : flat5 (xs ++ [x]) = flat5 xs ++ [.int .i64 x.o, .int .i64 x.a, .int .i64 x.b, .int .i64 x.c, .int .i64 x.n] := by simp [flat5]
theorem flat5_len : ∀ (xs : List Ins), (flat5 xs).length = xs.length * 5
  | [] => rfl
  | x :: t => by
    have := flat5_len t
    unfold flat5 at *
    rw [List.flatMap_cons, List.length_append, this]
    simp
    omega
theorem flat5_get : ∀ (xs : List Ins) (j : Nat) (x : Ins), xs[j]? = some x → (flat5 xs)[j * 5]? = some (.int .i64 x.o) ∧ (flat5 xs)[j * 5 + 1]? = some (.int .i64 x.a) ∧ (flat5 xs)[j * 5 + 2]? = some (.int .i64 x.b) ∧ (flat5 xs)[j * 5 + 3]? = some (.int .i64 x.c) ∧ (flat5 xs)[j * 5 + 4]? = some (.int .i64 x.n)
  | [], j, x, h => by simp at h
  | y :: r, 0, x, h => by
    simp at h
    subst h
    simp [flat5]
  | y :: r, j + 1, x, h => by
    have e1 : (j + 1) * 5 = j * 5 + 5 := by omega
    have e2 : flat5 (y :: r) = .int .i64 y.o :: .int .i64 y.a :: .int .i64 y.b :: .int .i64 y.c :: .int .i64 y.n :: flat5 r := by simp [flat5]
    have ih := flat5_get r j x (by simpa using h)
    rw [e1, e2]
    exact ih
/-- What the call owns from block base on. -/
def From (w : World) (base : Nat) : Nat → Prop := fun g => base ≤ g ∧ g < w.heap.size
theorem own_lst {w : World} {base n : Nat} {v : Value} {xs : List Ins} (h : w.ownsRow base 25 5 v n (flat5 xs)) : ∃ A cap, v = .slice A n cap ∧ Lst w (From w base) A n cap xs := by
  have hl : xs.length = n := by have := h.1; rw [flat5_len] at this; omega
  rcases h.2 with ⟨rfl, rfl⟩ | ⟨g, cap, cur, rfl, hb, hg, hnc, hcm, hcs, ht⟩
  · obtain rfl : xs = [] := List.eq_nil_of_length_eq_zero hl
    exact ⟨none, 0, rfl, Lst.nil _ _⟩
  · refine ⟨_, cap, rfl, hl, hnc, hcm, fun hh => (by cases hh), fun ad ha i x hx => ?_⟩
    injection ha with ha
    subst ha
    obtain ⟨f0, f1, f2, f3, f4⟩ := flat5_get xs i x hx
    have hi : i < n := by rw [← hl]; exact (List.getElem?_eq_some_iff.1 hx).1
    refine ⟨g, 0, rfl, ⟨hb, (Array.getElem?_eq_some_iff.1 hg).1⟩, ?_⟩
    rw [Nat.zero_add]
    exact ⟨(h.cellAt (g := g) _ (by omega)).trans f0, (h.cellAt (g := g) _ (by omega)).trans f1, (h.cellAt (g := g) _ (by omega)).trans f2, (h.cellAt (g := g) _ (by omega)).trans f3, (h.cellAt (g := g) _ (by omega)).trans f4⟩

/-- A list of lists that the call owns; what it leads to lies in blocks of S. -/
structure OwnM (w : World) (base : Nat) (S : Nat → Prop) (v : Value) (n : Nat) (xss : List (List Ins)) : Prop where
  len : xss.length = n
  ex : ∃ vs, w.ownsRow base 50 1 v n vs ∧ ∀ (i : Nat) (xs : List Ins), xss[i]? = some xs → ∃ A' n' cap', vs[i]? = some (.slice A' n' cap') ∧ Lst w S A' n' cap' xs
theorem OwnM.nil (w : World) (base : Nat) (S : Nat → Prop) : OwnM w base S (.slice none 0 0) 0 [] := ⟨rfl, [], World.ownsRow_nil _ _ _ _, fun i xs h => by simp at h⟩
theorem OwnM.mat {w : World} {base n : Nat} {S : Nat → Prop} {v : Value} {xss : List (List Ins)} (h : OwnM w base S v n xss) : ∃ A cap, v = .slice A n cap ∧ Mat w (fun g => S g ∨ From w base g) A n cap xss := by
  obtain ⟨hl, vs, ho, hall⟩ := h
  rcases id ho.2 with ⟨rfl, rfl⟩ | ⟨g, cap, cur, rfl, hb, hg, hnc, hcm, hcs, ht⟩
  · obtain rfl : xss = [] := List.eq_nil_of_length_eq_zero hl
    exact ⟨none, 0, rfl, Mat.nil _ _⟩
  · refine ⟨_, cap, rfl, hl, hnc, hcm, fun hh => (by cases hh), fun ad ha i xs hx => ?_⟩
    injection ha with ha
    subst ha
    have hi : i < n := by rw [← hl]; exact (List.getElem?_eq_some_iff.1 hx).1
    obtain ⟨A', n', cap', hv, hL⟩ := hall i xs hx
    refine ⟨g, 0, A', n', cap', rfl, .inr ⟨hb, (Array.getElem?_eq_some_iff.1 hg).1⟩, ?_, hL.more fun g hg => .inl hg⟩
    rw [Nat.zero_add]
    exact (ho.cellAt (g := g) i (by omega)).trans hv
theorem OwnM.lt {w : World} {base n : Nat} {S : Nat → Prop} {v : Value} {xss : List (List Ins)} (h : OwnM w base S v n xss) : ∀ g, v.ownBlock = some g → base ≤ g := by
  obtain ⟨_, vs, ho, _⟩ := h
  exact fun g hv => (ho.lt g hv).1
theorem OwnM.below {w w' : World} {base n : Nat} {S : Nat → Prop} {v : Value} {xss : List (List Ins)} (h : OwnM w base S v n xss) (hb : Below w.heap.size w w') (hS : ∀ g, S g → g < w.heap.size) : OwnM w' base S v n xss := by
  obtain ⟨hl, vs, ho, hall⟩ := h
  refine ⟨hl, vs, own_below ho hb, fun i xs hx => ?_⟩
  obtain ⟨A', n', cap', hv, hL⟩ := hall i xs hx
  exact ⟨A', n', cap', hv, hL.below hb hS⟩
theorem OwnM.more {w : World} {base n : Nat} {S S' : Nat → Prop} {v : Value} {xss : List (List Ins)} (h : OwnM w base S v n xss) (hS : ∀ g, S g → S' g) : OwnM w base S' v n xss := by
  obtain ⟨hl, vs, ho, hall⟩ := h
  refine ⟨hl, vs, ho, fun i xs hx => ?_⟩
  obtain ⟨A', n', cap', hv, hL⟩ := hall i xs hx
  exact ⟨A', n', cap', hv, hL.more hS⟩

/-- 'x[:k]', k not 0. -/
theorem under46 : Tryd.prog.underlying 50 = some (.slice (Tryd.prog.elem 50)) := by kernel_rfl
theorem size46 (w : World) : (sizeOf (Tryd.prog.elem 50)).run Tryd.prog w = .ok 5 w := by kernel_rfl
theorem cutI (A : Option Addr) (n cap : Nat) (hc : 20 ≤ cap) (w : World) :
    (Instr.slice 50 (.slice A n cap) none (some (.int .i64 20)) none).run Tryd.prog w = .ok (.slice A 20 cap) w := by
  rw [run_slice_h w 50 A n cap under46 .i64 _ (by omega) (by omega), size46]
  have e3 : ¬ cap = 0 := by omega
  simp only [Result.andThen, sliced, show (20 : Int).toNat = 20 from rfl, if_neg e3, Nat.sub_zero, Nat.zero_mul]
  rcases A with _ | ad
  · rfl
  · simp [Addr.add]
theorem Lst.front {w : World} {S : Nat → Prop} {A : Option Addr} {n cap : Nat} {xs : List Ins} (h : Lst w S A n cap xs) {k : Nat} (hk : k ≤ n) : Lst w S A k cap (xs.take k) :=
  ⟨by rw [List.length_take, h.len]; omega, Nat.le_trans hk h.room, h.most, h.none_, fun ad ha i x hx => by
    rw [List.getElem?_take] at hx
    split at hx
    · exact h.cell ad ha i x hx
    · cases hx⟩

end Go.Proofs.YtodklfjoeehinaaDoor
