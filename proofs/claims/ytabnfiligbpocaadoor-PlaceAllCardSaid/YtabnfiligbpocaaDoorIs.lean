/- Whether a place is one of a program's, by package place; whether its kind holds a word. Conditions: none. -/
import Derived.Test.YtabnfiligbpocaaDoorSpan
namespace Go.Proofs.YtabnfiligbpocaaDoor
open Go.RowKit Go.ChangeShapes Go.WideShapes

/-- Is it one of the program's? -/
def isP (x : Pl) (p : Pg) : Bool := inB x.i (spanP x.k p).f ((spanP x.k p).f + (spanP x.k p).m - 1) && inB x.j 0 ((spanP x.k p).p - 1)
set_option maxRecDepth 100000 in
set_option maxHeartbeats 2000000 in
theorem is_any (x : Pl) (p : Pg) (hp : p.Ok) (w : World) : Calls Tryd.prog 9 #[.agg x.cs.toArray, .agg p.cs.toArray] w fun e w' => e = .returned (.bool (isP x p)) ∧ Below w.heap.size w w' := by
  have hS := fun W => span_any x.k p hp W
  have hO := spanP_of x.k p
  obtain ⟨M, eM⟩ : ∃ M, M = isP x p := ⟨_, rfl⟩
  rw [← eM]
  unfold isP at eM
  generalize spanP x.k p = SS at hS hO eM
  obtain ⟨sf, sm, sp⟩ := SS
  replace hO : 0 ≤ sf ∧ sf ≤ 1 ∧ 0 ≤ sm ∧ sm ≤ 6 ∧ 0 ≤ sp ∧ sp ≤ 2 := hO
  obtain ⟨o1, o2, o3, o4, o5, o6⟩ := hO
  obtain ⟨k, i, j⟩ := x
  obtain ⟨r, c, s, A, n, cap⟩ := p
  replace eM : M = (inB i sf (sf + sm - 1) && inB j 0 (sp - 1)) := eM
  replace hS : ∀ W, Calls Tryd.prog 19 #[.int .i64 k, .agg #[.int .i64 r, .int .i64 c, .int .i64 s, .slice A n cap]] W fun e w' => e = .returned (.agg #[.int .i64 sf, .int .i64 sm, .int .i64 sp]) ∧ Below W.heap.size W w' := hS
  obtain ⟨W0, eW0⟩ : ∃ W, W = (w.alloc (.cells #[.int .i64 k, .int .i64 i, .int .i64 j] 23)).alloc (.cells #[.int .i64 r, .int .i64 c, .int .i64 s, .slice A n cap] 26) := ⟨_, rfl⟩
  have hb0 : Below w.heap.size w W0 := by rw [eW0]; exact ((Below.refl _ w).alloc (Nat.le_refl _) _).alloc (by simp) _
  have hx : Blk W0 w.heap.size 23 #[.int .i64 k, .int .i64 i, .int .i64 j] := by rw [eW0]; exact Blk.below (heap_alloc_new w _) ((Below.refl _ _).alloc (Nat.le_refl _) _) (by simp)
  have hs0 : W0.heap.size = w.heap.size + 2 := by rw [eW0]; simp
  obtain ⟨M1, e1⟩ : ∃ b, b = inB i sf (sf + sm - 1) := ⟨_, rfl⟩
  obtain ⟨M2, e2⟩ : ∃ b, b = inB j 0 (sp - 1) := ⟨_, rfl⟩
  have hI1 := fun W => in_any i sf (sf + sm - 1) W
  have hI2 := fun W => in_any j 0 (sp - 1) W
  rw [← e1] at hI1 eM
  rw [← e2] at hI2 eM
  clear e1 e2
  show Calls Tryd.prog 9 #[.agg #[.int .i64 k, .int .i64 i, .int .i64 j], .agg #[.int .i64 r, .int .i64 c, .int .i64 s, .slice A n cap]] w _
  go_enter Tryd.func9, Tryd.ntmps9
  go_wp2_with fail
  rw [← eW0]
  clear eW0
  refine (hS W0).mono ?_
  rintro e w1 ⟨rfl, hb1⟩
  have hx1 := hx.on hb1
  have c1 : w1.cell? ⟨w.heap.size, 1, none⟩ = some (.int .i64 i) := hx1.cell 1
  have c2 : w1.cell? ⟨w.heap.size, 2, none⟩ = some (.int .i64 j) := hx1.cell 2
  have hlt := hx1.lt
  have hb01 : Below w.heap.size w w1 := hb0.trans (hb1.mono hb0.size)
  clear hx hx1
  cases M1
  · rw [Bool.false_and] at eM
    subst eM
    go_wp2_with fail
    refine (hI1 _).mono ?_
    rintro e w' ⟨rfl, rfl⟩
    go_wp2
    go_ret
    exact ⟨rfl, hb01.alloc hb01.size _⟩
  · rw [Bool.true_and] at eM
    subst eM
    go_wp2_with fail
    refine (hI1 _).mono ?_
    rintro e w' ⟨rfl, rfl⟩
    go_wp2_with fail
    refine (hI2 _).mono ?_
    rintro e w' ⟨rfl, rfl⟩
    go_wp2
    go_ret
    exact ⟨rfl, hb01.alloc hb01.size _⟩
/-- Does its kind hold a word? -/
def holdsK (k : Int) : Bool := k == 1 || k == 3 || (decide (5 ≤ k) && decide (k ≤ 8))
set_option maxRecDepth 100000 in
theorem holds_1 (i j : Int) (w : World) : Calls Tryd.prog 11 #[.agg #[.int .i64 1, .int .i64 i, .int .i64 j]] w fun e w' => e = .returned (.bool true) ∧ Below w.heap.size w w' := by
  go_enter Tryd.func11, Tryd.ntmps11
  go_wp2
  go_ret
  exact ⟨rfl, (Below.refl _ w).alloc (Nat.le_refl _) _⟩
set_option maxRecDepth 100000 in
theorem holds_3 (i j : Int) (w : World) : Calls Tryd.prog 11 #[.agg #[.int .i64 3, .int .i64 i, .int .i64 j]] w fun e w' => e = .returned (.bool true) ∧ Below w.heap.size w w' := by
  go_enter Tryd.func11, Tryd.ntmps11
  go_wp2
  go_ret
  exact ⟨rfl, (Below.refl _ w).alloc (Nat.le_refl _) _⟩
set_option maxRecDepth 100000 in
theorem holds_5 (i j : Int) (w : World) : Calls Tryd.prog 11 #[.agg #[.int .i64 5, .int .i64 i, .int .i64 j]] w fun e w' => e = .returned (.bool true) ∧ Below w.heap.size w w' := by
  go_enter Tryd.func11, Tryd.ntmps11
  go_wp2
  go_ret
  exact ⟨rfl, (Below.refl _ w).alloc (Nat.le_refl _) _⟩
set_option maxRecDepth 100000 in
theorem holds_6 (i j : Int) (w : World) : Calls Tryd.prog 11 #[.agg #[.int .i64 6, .int .i64 i, .int .i64 j]] w fun e w' => e = .returned (.bool true) ∧ Below w.heap.size w w' := by
  go_enter Tryd.func11, Tryd.ntmps11
  go_wp2
  go_ret
  exact ⟨rfl, (Below.refl _ w).alloc (Nat.le_refl _) _⟩
set_option maxRecDepth 100000 in
theorem holds_7 (i j : Int) (w : World) : Calls Tryd.prog 11 #[.agg #[.int .i64 7, .int .i64 i, .int .i64 j]] w fun e w' => e = .returned (.bool true) ∧ Below w.heap.size w w' := by
  go_enter Tryd.func11, Tryd.ntmps11
  go_wp2
  go_ret
  exact ⟨rfl, (Below.refl _ w).alloc (Nat.le_refl _) _⟩
set_option maxRecDepth 100000 in
theorem holds_8 (i j : Int) (w : World) : Calls Tryd.prog 11 #[.agg #[.int .i64 8, .int .i64 i, .int .i64 j]] w fun e w' => e = .returned (.bool true) ∧ Below w.heap.size w w' := by
  go_enter Tryd.func11, Tryd.ntmps11
  go_wp2
  go_ret
  exact ⟨rfl, (Below.refl _ w).alloc (Nat.le_refl _) _⟩
set_option maxRecDepth 100000 in
theorem holds_else (k i j : Int) (h : ¬ (k = 1 ∨ k = 3 ∨ k = 5 ∨ k = 6 ∨ k = 7 ∨ k = 8)) (w : World) : Calls Tryd.prog 11 #[.agg #[.int .i64 k, .int .i64 i, .int .i64 j]] w fun e w' => e = .returned (.bool false) ∧ Below w.heap.size w w' := by
  obtain ⟨t1, t3, t5, t6, t7, t8⟩ : (k == 1) = false ∧ (k == 3) = false ∧ (k == 5) = false ∧ (k == 6) = false ∧ (k == 7) = false ∧ (k == 8) = false := by
    simp only [beq_eq_false_iff_ne]
    omega
  clear h
  go_enter Tryd.func11, Tryd.ntmps11
  go_wp2
  go_ret
  exact ⟨rfl, (Below.refl _ w).alloc (Nat.le_refl _) _⟩
theorem holds_any (x : Pl) (w : World) : Calls Tryd.prog 11 #[.agg x.cs.toArray] w fun e w' => e = .returned (.bool (holdsK x.k)) ∧ Below w.heap.size w w' := by
  obtain ⟨k, i, j⟩ := x
  by_cases h : k = 1 ∨ k = 3 ∨ k = 5 ∨ k = 6 ∨ k = 7 ∨ k = 8
  · rcases h with rfl | rfl | rfl | rfl | rfl | rfl
    · exact holds_1 i j w
    · exact holds_3 i j w
    · exact holds_5 i j w
    · exact holds_6 i j w
    · exact holds_7 i j w
    · exact holds_8 i j w
  · have e : holdsK k = false := by
      unfold holdsK
      rw [beq_eq_false_iff_ne.2 (by omega), beq_eq_false_iff_ne.2 (by omega)]
      simp
      omega
    rw [show holdsK (Pl.mk k i j).k = false from e]
    exact holds_else k i j h w
end Go.Proofs.YtabnfiligbpocaaDoor
