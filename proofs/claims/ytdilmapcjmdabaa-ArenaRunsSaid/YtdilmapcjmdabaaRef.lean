/- The reference's lists in memory; a copy of them. Conditions: at most 1000 elements. -/
import Derived.Test.YtdilmapcjmdabaaStore
import Derived.Test.YtdilmapcjmdabaaCopies
import Derived.Laws.AppendOwnNone
namespace Go.Proofs.Ytdilmapcjmdabaa
open Go.ChangeShapes Go.WideShapes Go.RowKit

/-- A slice that reads as such cells, however it came to be. -/
structure Sees (w : World) (k : Nat) (A : Option Addr) (n cap : Nat) (vs : List Value) : Prop where
  len : vs.length = n * k
  room : n ≤ cap
  most : cap ≤ maxLen
  none_ : A = none → cap = 0
  cell : ∀ ad, A = some ad → ∃ g o, ad = ⟨g, o, none⟩ ∧ g < w.heap.size ∧ w.rangeAt g o vs
section
variable {w w' : World} {k n cap : Nat} {A : Option Addr} {vs : List Value} {t : TypeId}
theorem own_sees {B : Nat} (h : w.ownsRow B t k (.slice A n cap) n vs) : Sees w k A n cap vs := by
  obtain ⟨h1, h2, h3⟩ := own_cap (own_low h)
  refine ⟨h.1, h1, h2, h3, fun ad ha => ?_⟩
  rcases id h.2 with ⟨e, _⟩ | ⟨g, c, cur, e, hb, hh, _⟩
  · injection e with e
    rw [ha] at e
    cases e
  · injection e with e
    rw [ha] at e
    injection e with e
    subst e
    refine ⟨g, 0, rfl, (Array.getElem?_eq_some_iff.1 hh).1, fun j v hv => ?_⟩
    have := h.cells (g := g) (by rw [ha]; rfl) j v hv
    rw [Addr.add_mid] at this
    exact this
theorem Sees.kept {S : Nat → Prop} (h : Sees w k A n cap vs) (hk : Kept S w w') (hS : ∀ g, lies A g → ¬ S g) : Sees w' k A n cap vs :=
  ⟨h.len, h.room, h.most, h.none_, fun ad ha => by
    obtain ⟨g, o, e, hg, hr⟩ := h.cell ad ha
    exact ⟨g, o, e, Nat.lt_of_lt_of_le hg hk.size, fun j v hv => (World.cell?_of_block (w := w) (hk.block g hg (hS g (by rw [ha, e]; rfl)))).trans (hr j v hv)⟩⟩
theorem Sees.below (h : Sees w k A n cap vs) (hb : Below w.heap.size w w') : Sees w' k A n cap vs := h.kept (kept_below (fun _ => False) hb) (fun _ _ e => e)
theorem Sees.lt (h : Sees w k A n cap vs) : ∀ g, lies A g → g < w.heap.size := fun g hg => by
  cases A with
  | none => cases hg
  | some ad =>
    obtain ⟨g', o, rfl, hg', _⟩ := h.cell ad rfl
    have : g' = g := by simpa [lies] using hg
    omega
end
theorem run_append_owned_zero {w : World} (base : Nat) (t ty e : TypeId) (i : TypeInfo) (size : Nat) (ht : Try.prog.underlying t = some (.slice e)) (hi : Try.prog.info? e = some i)
    (v : Value) (n : Nat) (xs : List Value) (hown : w.ownsRow base e size v n xs) (a : Addr) (c : Nat) :
    (Builtin.append_ #[t, t] ty #[v, .slice (some a) 0 c]).run Try.prog w = .ok v w := by
  have hl : (loadCells a 0).run Try.prog w = .ok #[] w := run_loadCells_list (P := Try.prog) w a [] (by simp)
  rcases hown.2 with ⟨rfl, rfl⟩ | ⟨g, cap, cur, rfl, _, _, hnc, _⟩
  · simp [Builtin.append_, run_underlying ht, sizeOf, typeInfo, hi, Builtin.lenOf, Builtin.firstCells, hl]
  · simp [Builtin.append_, run_underlying ht, sizeOf, typeInfo, hi, Builtin.lenOf, Builtin.firstCells, hnc, storeCells, hl]
/-- 'append(l, xs...)' onto a list of the call's own, whatever xs. -/
theorem wpList_app {w : World} {ops : Array Oper} {rest : List Oper} {o : Oper} {a : Act} {Q : Exit → Act → World → Prop} (hgd : o.guard = none) (s x : Operand) (t : TypeId)
    (ho : o.op = .call { callee := .builtin .append, args := #[s, x], argTypes := #[t, t] })
    (base : Nat) (e : TypeId) (i : TypeInfo) (z : Value) (size bytes : Nat) (ht : Try.prog.underlying t = some (.slice e)) (hi : Try.prog.info? e = some i) (hz : i.zero = some z)
    (hsize : i.size = size) (hby : i.bytes = bytes) (hzs : z.cells.size = size) (hsz : 0 < size)
    (A0 : Option Addr) (n0 c0 : Nat) (xs : List Value) (hs : a.eval s = .slice A0 n0 c0) (hown : w.ownsRow base e size (.slice A0 n0 c0) n0 xs)
    (A : Option Addr) (n cap : Nat) (vs : List Value) (hx : a.eval x = .slice A n cap) (hv : Sees w size A n cap vs) (h1 : ∀ u ∈ vs, u.oneCell' = true)
    (h63 : n0 + n ≤ maxLen) (hbytes : (n0 + n) * bytes ≤ 140737488355328) (hbase : base ≤ w.heap.size)
    (h : ∀ A' c' w', w'.ownsRow base e size (.slice A' (n0 + n) c') (n0 + n) (xs ++ vs) → w.grownBy w' (Value.slice A0 n0 c0).ownBlock → (∀ g, lies A' g → lies A0 g ∨ w.heap.size ≤ g) → wpList Try.prog ops Q rest (a.put o.dst (.slice A' (n0 + n) c')) w') : wpList Try.prog ops Q (o :: rest) a w := by
  cases A with
  | none =>
    have hc := hv.none_ rfl
    have hr := hv.room
    obtain rfl : cap = 0 := hc
    obtain rfl : n = 0 := by omega
    obtain rfl : vs = [] := List.eq_nil_of_length_eq_zero (by rw [hv.len, Nat.zero_mul])
    refine wpList_append_own_none hgd s x t ho base e i size ht hi (.slice A0 n0 c0) n0 xs hs hown hx ?_
    have := h A0 c0 w (by simpa using hown) ⟨rfl, rfl, rfl, Nat.le_refl _, fun _ _ _ => rfl⟩ (fun g hg => .inl hg)
    simpa using this
  | some ad =>
    obtain ⟨g, off, rfl, hg, hr⟩ := hv.cell ad rfl
    by_cases hn : n = 0
    · subst hn
      obtain rfl : vs = [] := List.eq_nil_of_length_eq_zero (by rw [hv.len, Nat.zero_mul])
      refine wpList_plain hgd fun K hK => ?_
      have hrun := run_append_owned_zero (w := w) base t o.type e i size ht hi (.slice A0 n0 c0) n0 xs hown ⟨g, off, none⟩ cap
      unfold Oper.wp
      simp [execOp, ho, resolve, invoke, builtin, hs, hx, hrun, Result.andThen]
      refine hK _ _ ?_
      have := h A0 c0 w (by simpa using hown) ⟨rfl, rfl, rfl, Nat.le_refl _, fun _ _ _ => rfl⟩ (fun g hg => .inl hg)
      simpa using this
    · refine wpList_append_lies w hgd s x t ho base e i z size bytes ht hi hz hsize hby hzs hsz (.slice A0 n0 c0) n0 xs hs hown ⟨g, off, none⟩ n cap vs hx hv.len (fun j u hu => by rw [Addr.add_mid]; exact hr j u hu) h1 (by omega) h63 hbytes hbase w.heap.size rfl ?_
      intro gg cp w' ho' hg' hat hlt
      refine h _ cp w' ho' hg' (fun g' hg'' => ?_)
      have e2 : gg = g' := by simpa [lies] using hg''
      subst e2
      rcases hat with hat | hat
      · exact .inl ((own_lies A0 n0 c0 _).1 hat)
      · exact .inr (by omega)

/-- Where the reference's lists lie. -/
structure Rim where
  Ac : Option Addr
  cc : Nat
  n : Nat
  Ar : Option Addr
  cr : Nat
  m : Nat
def Rim.cs (r : Rim) : Array Value := #[.slice r.Ac r.n r.cc, .slice r.Ar r.m r.cr]
def Rim.S (r : Rim) (g : Nat) : Prop := lies r.Ac g ∨ lies r.Ar g
structure Ref (w : World) (r : Rim) (s : Sta) : Prop where
  cells : w.ownsRow 0 45 10 (.slice r.Ac r.n r.cc) r.n (flatC s.C)
  row : Sees w 1 r.Ar r.m r.cr (ints s.R)
  apart : ∀ g, lies r.Ac g → ¬ lies r.Ar g
section
variable {w w' : World} {r : Rim} {s : Sta}
theorem Ref.kept {S : Nat → Prop} (h : Ref w r s) (hk : Kept S w w') (hS : ∀ g, r.S g → ¬ S g) : Ref w' r s :=
  ⟨own_kept h.cells hk (fun g hg => hS g (.inl hg)), h.row.kept hk (fun g hg => hS g (.inr hg)), h.apart⟩
theorem Ref.below (h : Ref w r s) (hb : Below w.heap.size w w') : Ref w' r s := h.kept (kept_below (fun _ => False) hb) (fun _ _ e => e)
theorem Ref.lt (h : Ref w r s) : ∀ g, r.S g → g < w.heap.size := fun g hg => hg.elim (fun e => by
  obtain ⟨cs, hb⟩ := own_blk h.cells e
  exact hb.lt) (h.row.lt g)
theorem Ref.lenC (h : Ref w r s) : s.C.length = r.n := by
  have := h.cells.1
  unfold flatC at this
  rw [flat_len Cel.len] at this
  omega
theorem Ref.lenR (h : Ref w r s) : s.R.length = r.m := by
  have := h.row.len
  unfold ints at this
  rw [flat_len int_len] at this
  omega
/-- Lists that a call made. -/
def NewR (s : Sta) (w : World) (r : Rim) (w' : World) : Prop := Ref w' r s ∧ Below w.heap.size w w' ∧ ∀ g, r.S g → w.heap.size ≤ g
end
end Go.Proofs.Ytdilmapcjmdabaa
