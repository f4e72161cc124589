/- The reference's Less and Add. Conditions: at most 1000 keys. -/
import Derived.Test.YtenobgelhkpjcaaCompact
import Derived.Test.YtenobgelhkpjcaaRounds
namespace Go.Proofs.Ytenobgelhkpjcaa
open Go.ChangeShapes Go.WideShapes Go.RowKit
set_option maxRecDepth 100000 in
theorem less_any (x y : Ky) (w : World) : Calls Try.prog 30 #[.agg x.cs.toArray, .agg y.cs.toArray] w fun e w' => e = .returned (.bool (decide (Less x y))) ∧ Below w.heap.size w w' := by
  obtain ⟨M, eM⟩ : ∃ M, M = decide (Less x y) := ⟨_, rfl⟩
  rw [← eM]
  have hB : Below w.heap.size w ((w.alloc (.cells x.cs.toArray 41)).alloc (.cells y.cs.toArray 41)) := ((Below.refl _ w).alloc (Nat.le_refl _) _).alloc (by simp) _
  have hM : (x.k ≠ y.k ∧ M = decide (x.k < y.k)) ∨ (x.k = y.k ∧ x.t ≠ y.t ∧ M = decide (x.t < y.t)) ∨ (x.k = y.k ∧ x.t = y.t ∧ M = decide (x.p < y.p)) := by
    rw [eM]
    unfold Less
    by_cases a : x.k = y.k
    · by_cases b : x.t = y.t
      · refine .inr (.inr ⟨a, b, decide_eq_decide.2 (by omega)⟩)
      · refine .inr (.inl ⟨a, b, decide_eq_decide.2 (by omega)⟩)
    · exact .inl ⟨a, decide_eq_decide.2 (by omega)⟩
  obtain ⟨a, b, c⟩ := x
  obtain ⟨a', b', c'⟩ := y
  unfold Ky.cs at hB ⊢
  dsimp only at hM
  clear eM
  rcases hM with ⟨s0, rfl⟩ | ⟨s0, s1, rfl⟩ | ⟨s0, s1, rfl⟩
  · have t0 : (a != a') = true := by simpa using s0
    clear s0
    go_enter Try.func30, Try.ntmps30
    go_wp2
    go_ret
    exact ⟨rfl, hB⟩
  · subst s0
    have t0 : (b != b') = true := by simpa using s1
    clear s1
    go_enter Try.func30, Try.ntmps30
    go_wp2
    go_ret
    exact ⟨rfl, hB⟩
  · subst s0 s1
    go_enter Try.func30, Try.ntmps30
    go_wp2
    go_ret
    exact ⟨rfl, hB⟩

/-- What is left to do comes to the whole. -/
def Adds (k : Ky) (l : List Ky) (i : Nat) (O : List Ky) (put : Bool) : Prop := (if put then O ++ l.drop i else O ++ addK k (l.drop i)) = addK k l
theorem adds_drop {l : List Ky} {i : Nat} {x : Ky} (hx : l[i]? = some x) : l.drop i = x :: l.drop (i + 1) := by
  obtain ⟨h, e⟩ := List.getElem?_eq_some_iff.1 hx
  rw [List.drop_eq_getElem_cons h, e]
theorem adds_put {k : Ky} {l O : List Ky} {i : Nat} {x : Ky} (h : Adds k l i O true) (hx : l[i]? = some x) : Adds k l (i + 1) (O ++ [x]) true := by
  unfold Adds at *
  rw [← h, adds_drop hx]
  simp only [if_true, List.append_assoc]
  rfl
theorem adds_less {k : Ky} {l O : List Ky} {i : Nat} {x : Ky} (h : Adds k l i O false) (hx : l[i]? = some x) (hl : Less k x) : Adds k l (i + 1) (O ++ [k] ++ [x]) true := by
  unfold Adds at *
  rw [← h, adds_drop hx]
  simp only [addK, if_true, if_pos hl, List.append_assoc]
  rfl
theorem adds_same {k : Ky} {l O : List Ky} {i : Nat} {x : Ky} (h : Adds k l i O false) (hx : l[i]? = some x) (hl : ¬ Less k x) (he : x = k) : Adds k l (i + 1) (O ++ [x]) true := by
  unfold Adds at *
  rw [← h, adds_drop hx]
  simp only [addK, if_true, if_neg hl, if_pos he, List.append_assoc]
  rfl
theorem adds_more {k : Ky} {l O : List Ky} {i : Nat} {x : Ky} (h : Adds k l i O false) (hx : l[i]? = some x) (hl : ¬ Less k x) (he : ¬ x = k) : Adds k l (i + 1) (O ++ [x]) false := by
  unfold Adds at *
  rw [← h, adds_drop hx]
  simp only [addK, if_neg hl, if_neg he, List.append_assoc]
  rfl
end Go.Proofs.Ytenobgelhkpjcaa
