/- The law 'TagWords' returns true, for every cell, life and number. Conditions: none. -/
import Derived.Test.YthhjaikpdpchlaaAlive
namespace Go.Proofs.Ythhjaikpdpchlaa
open Go.ChangeShapes Go.WideShapes Go.RowKit

set_option maxRecDepth 100000 in
theorem words_any (c g n : Int) (w : World) : Calls Try.prog 3 #[.int .i64 c, .int .i64 g, .int .i64 n] w fun e w' => e = .returned (.bool true) ∧ Below w.heap.size w w' := by
  rcases Int.lt_or_le c 1 with hc | hc
  · have t1 : decide (c < 1) = true := decide_eq_true hc
    have t2 : decide (1 ≤ c) = false := decide_eq_false (by omega)
    have hT := fun W => to_none c g hc W
    have hI := fun W => is_any ⟨0, 0, 0⟩ W
    have hJ := fun W => is_any ⟨n, 0, 0⟩ W
    rw [show decide (1 ≤ (⟨0, 0, 0⟩ : Wd).c) = false by simp] at hI
    rw [show decide (1 ≤ (⟨n, 0, 0⟩ : Wd).c) = false by simp] at hJ
    go_enter Try.func3, Try.ntmps3
    go_wp2_with fail
    refine (alive_any w).mono ?_
    rintro e w1 ⟨rfl, b1⟩
    go_wp2_with fail
    refine (hT w1).mono ?_
    rintro e w2 ⟨rfl, b2⟩
    have q2 := b1.trans (b2.mono b1.size)
    clear b1 b2
    obtain ⟨W, eW⟩ : ∃ W, W = (w2.alloc (.cells #[.int .i64 0, .int .i64 0, .int .i64 0] 24)).alloc (.cells #[.int .i64 c, .int .i64 c, .int .i64 g] 24) := ⟨_, rfl⟩
    have hb : Below w2.heap.size w2 W := by rw [eW]; exact ((Below.refl _ w2).alloc (Nat.le_refl _) _).alloc (by simp) _
    have hx : Blk W w2.heap.size 24 #[.int .i64 0, .int .i64 0, .int .i64 0] := by rw [eW]; exact Blk.below (heap_alloc_new w2 _) ((Below.refl _ _).alloc (Nat.le_refl _) _) (by simp)
    have hy : Blk W (w2.heap.size + 1) 24 #[.int .i64 c, .int .i64 c, .int .i64 g] := by rw [eW]; exact heap_alloc2_new w2 _ _
    have sx : Blk (W.setRow (w2.heap.size + 1) #[.int .i64 0, .int .i64 0, .int .i64 0]) w2.heap.size 24 #[.int .i64 0, .int .i64 0, .int .i64 0] := (setRow_other _ _ _ _ (by omega)).trans hx
    have sy : Blk (W.setRow (w2.heap.size + 1) #[.int .i64 0, .int .i64 0, .int .i64 0]) (w2.heap.size + 1) 24 #[.int .i64 0, .int .i64 0, .int .i64 0] := setRow_heap _ _ _ _ _ _ hy
    have q3 := below_setRow (q2.trans (hb.mono q2.size)) (show w.heap.size ≤ w2.heap.size + 1 by have := q2.size; omega) #[.int .i64 0, .int .i64 0, .int .i64 0]
    go_wp2_with (rw [← eW]; refine wpList_store_row rfl 24 (.tmp 8) (.tmp 20) rfl (w2.heap.size + 1) #[.int .i64 0, .int .i64 0, .int .i64 0] rfl rfl 24 #[.int .i64 c, .int .i64 c, .int .i64 g] hy info24 rfl (by simp [Value.oneCell']) ?_; generalize W.setRow (w2.heap.size + 1) #[.int .i64 0, .int .i64 0, .int .i64 0] = V at *; clear hx hy hb eW q2; have c0 := sx.cell 0; have c1 := sx.cell 1; have c2 := sx.cell 2; have d0 := sy.cell 0; have d1 := sy.cell 1; have d2 := sy.cell 2)
    refine (hI _).mono ?_
    rintro e w4 ⟨rfl, b4⟩
    have q4 := q3.trans (b4.mono q3.size)
    go_wp2_with fail
    refine (plain_any n _).mono ?_
    rintro e w5 ⟨rfl, b5⟩
    have q5 := q4.trans (b5.mono q4.size)
    go_wp2_with fail
    refine (plain_any n _).mono ?_
    rintro e w6 ⟨rfl, b6⟩
    have q6 := q5.trans (b6.mono q5.size)
    go_wp2_with fail
    refine (hJ _).mono ?_
    rintro e w7 ⟨rfl, b7⟩
    have q7 := q6.trans (b7.mono q6.size)
    go_wp2
    go_ret
    exact ⟨by simp, q7⟩
  · have t1 : decide (c < 1) = false := decide_eq_false (by omega)
    have t2 : decide (1 ≤ c) = true := decide_eq_true hc
    have hT := fun W => to_cell c g hc W
    have hI := fun W => is_any ⟨c, c, g⟩ W
    have hJ := fun W => is_any ⟨n, 0, 0⟩ W
    rw [show decide (1 ≤ (⟨c, c, g⟩ : Wd).c) = true by simpa using t2] at hI
    rw [show decide (1 ≤ (⟨n, 0, 0⟩ : Wd).c) = false by simp] at hJ
    go_enter Try.func3, Try.ntmps3
    go_wp2_with fail
    refine (alive_any w).mono ?_
    rintro e w1 ⟨rfl, b1⟩
    go_wp2_with fail
    refine (hT w1).mono ?_
    rintro e w2 ⟨rfl, b2⟩
    have q2 := b1.trans (b2.mono b1.size)
    clear b1 b2
    have q3 : Below w.heap.size w ((w2.alloc (.cells #[.int .i64 c, .int .i64 c, .int .i64 g] 24)).alloc (.cells #[.int .i64 c, .int .i64 c, .int .i64 g] 24)) := q2.trans ((((Below.refl _ w2).alloc (Nat.le_refl _) _).alloc (by simp) _).mono q2.size)
    go_wp2_with fail
    refine (hI _).mono ?_
    rintro e w4 ⟨rfl, b4⟩
    have q4 := q3.trans (b4.mono q3.size)
    go_wp2_with fail
    refine (plain_any n _).mono ?_
    rintro e w5 ⟨rfl, b5⟩
    have q5 := q4.trans (b5.mono q4.size)
    go_wp2_with fail
    refine (plain_any n _).mono ?_
    rintro e w6 ⟨rfl, b6⟩
    have q6 := q5.trans (b6.mono q5.size)
    go_wp2_with fail
    refine (hJ _).mono ?_
    rintro e w7 ⟨rfl, b7⟩
    have q7 := q6.trans (b7.mono q6.size)
    go_wp2
    go_ret
    exact ⟨by simp, q7⟩
end Go.Proofs.Ythhjaikpdpchlaa
