/- Whether a place is one of a program's, by package place; whether its kind holds a word. Conditions: none. -/
import Derived.Test.YtlajjadpcaobiaaSpan
namespace Go.Proofs.Ytlajjadpcaobiaa
open Go.RowKit Go.ChangeShapes Go.WideShapes

/-- Is it one of the program's? -/
def isP (x : Pl) (p : Pg) : Bool := inB x.i (spanP x.k p).f ((spanP x.k p).f + (spanP x.k p).m - 1) && inB x.j 0 ((spanP x.k p).p - 1)
/-- Does its kind hold a word? -/
def holdsK (k : Int) : Bool := k == 1 || k == 3 || (decide (5 ≤ k) && decide (k ≤ 8))
set_option maxRecDepth 100000 in
theorem holds_1 (i j : Int) (w : World) : Calls Try.prog 37 #[.agg #[.int .i64 1, .int .i64 i, .int .i64 j]] w fun e w' => e = .returned (.bool true) ∧ Below w.heap.size w w' := by
  go_enter Try.func37, Try.ntmps37
  go_wp2
  go_ret
  exact ⟨rfl, (Below.refl _ w).alloc (Nat.le_refl _) _⟩
set_option maxRecDepth 100000 in
theorem holds_3 (i j : Int) (w : World) : Calls Try.prog 37 #[.agg #[.int .i64 3, .int .i64 i, .int .i64 j]] w fun e w' => e = .returned (.bool true) ∧ Below w.heap.size w w' := by
  go_enter Try.func37, Try.ntmps37
  go_wp2
  go_ret
  exact ⟨rfl, (Below.refl _ w).alloc (Nat.le_refl _) _⟩
set_option maxRecDepth 100000 in
theorem holds_5 (i j : Int) (w : World) : Calls Try.prog 37 #[.agg #[.int .i64 5, .int .i64 i, .int .i64 j]] w fun e w' => e = .returned (.bool true) ∧ Below w.heap.size w w' := by
  go_enter Try.func37, Try.ntmps37
  go_wp2
  go_ret
  exact ⟨rfl, (Below.refl _ w).alloc (Nat.le_refl _) _⟩
set_option maxRecDepth 100000 in
theorem holds_6 (i j : Int) (w : World) : Calls Try.prog 37 #[.agg #[.int .i64 6, .int .i64 i, .int .i64 j]] w fun e w' => e = .returned (.bool true) ∧ Below w.heap.size w w' := by
  go_enter Try.func37, Try.ntmps37
  go_wp2
  go_ret
  exact ⟨rfl, (Below.refl _ w).alloc (Nat.le_refl _) _⟩
set_option maxRecDepth 100000 in
theorem holds_7 (i j : Int) (w : World) : Calls Try.prog 37 #[.agg #[.int .i64 7, .int .i64 i, .int .i64 j]] w fun e w' => e = .returned (.bool true) ∧ Below w.heap.size w w' := by
  go_enter Try.func37, Try.ntmps37
  go_wp2
  go_ret
  exact ⟨rfl, (Below.refl _ w).alloc (Nat.le_refl _) _⟩
set_option maxRecDepth 100000 in
theorem holds_8 (i j : Int) (w : World) : Calls Try.prog 37 #[.agg #[.int .i64 8, .int .i64 i, .int .i64 j]] w fun e w' => e = .returned (.bool true) ∧ Below w.heap.size w w' := by
  go_enter Try.func37, Try.ntmps37
  go_wp2
  go_ret
  exact ⟨rfl, (Below.refl _ w).alloc (Nat.le_refl _) _⟩
set_option maxRecDepth 100000 in
theorem holds_else (k i j : Int) (h : ¬ (k = 1 ∨ k = 3 ∨ k = 5 ∨ k = 6 ∨ k = 7 ∨ k = 8)) (w : World) : Calls Try.prog 37 #[.agg #[.int .i64 k, .int .i64 i, .int .i64 j]] w fun e w' => e = .returned (.bool false) ∧ Below w.heap.size w w' := by
  obtain ⟨t1, t3, t5, t6, t7, t8⟩ : (k == 1) = false ∧ (k == 3) = false ∧ (k == 5) = false ∧ (k == 6) = false ∧ (k == 7) = false ∧ (k == 8) = false := by
    simp only [beq_eq_false_iff_ne]
    omega
  clear h
  go_enter Try.func37, Try.ntmps37
  go_wp2
  go_ret
  exact ⟨rfl, (Below.refl _ w).alloc (Nat.le_refl _) _⟩
theorem holds_any (x : Pl) (w : World) : Calls Try.prog 37 #[.agg x.cs.toArray] w fun e w' => e = .returned (.bool (holdsK x.k)) ∧ Below w.heap.size w w' := by
  obtain ⟨k, i, j⟩ := x
  by_cases h : k = 1 ∨ k = 3 ∨ k = 5 ∨ k = 6 ∨ k = 7 ∨ k = 8
  · rcases h with rfl | rfl | rfl | rfl | rfl | rfl
    · exact holds_1 i j w
    · exact holds_3 i j w
    · exact holds_5 i j w
    · exact holds_6 i j w
    · exact holds_7 i j w
    · exact holds_8 i j w
  · have e : holdsK k = false := by
      unfold holdsK
      rw [beq_eq_false_iff_ne.2 (by omega), beq_eq_false_iff_ne.2 (by omega)]
      simp
      omega
    rw [show holdsK (Pl.mk k i j).k = false from e]
    exact holds_else k i j h w
end Go.Proofs.Ytlajjadpcaobiaa
