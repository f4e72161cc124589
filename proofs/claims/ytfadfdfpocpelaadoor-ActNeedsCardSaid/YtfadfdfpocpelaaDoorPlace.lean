/- Places by their numbers, fields through words, acts through words. Conditions: none. -/
import Derived.Test.YtfadfdfpocpelaaDoorAct
namespace Go.Proofs.YtfadfdfpocpelaaDoor
set_option linter.unusedSimpArgs false
set_option linter.unusedVariables false
open Go.RowKit Go.ChangeShapes Go.WideShapes

theorem zero23 (w : World) : (zeroValue 23).run Tryd.prog w = .ok (.agg #[.int .i64 0, .int .i64 0, .int .i64 0]) w := by kernel_rfl
theorem size90 : (Tryd.prog.info? 90).map (·.size) = some 2 := by kernel_rfl
set_option maxRecDepth 100000 in
set_option maxHeartbeats 4000000 in
theorem at0_any (k : Int) (w : World) : Calls Tryd.prog 26 #[.int .i64 k, .slice none 0 0] w fun e w' => e = .returned (.agg (Pl.mk k 0 0).cs.toArray) ∧ Below w.heap.size w w' := by
  show Calls Tryd.prog 26 #[.int .i64 k, .slice none 0 0] w fun e w' => e = .returned (.agg #[.int .i64 k, .int .i64 0, .int .i64 0]) ∧ Below w.heap.size w w'
  obtain ⟨p1, f1⟩ : ∃ p, w.heap.size = p := ⟨_, rfl⟩
  obtain ⟨W1, ea1⟩ : ∃ W, w.alloc (.cells #[.int .i64 0, .int .i64 0, .int .i64 0] 23) = W := ⟨_, rfl⟩
  have ka1 : Below w.heap.size w W1 := by rw [← ea1]; exact (Below.refl _ w).alloc (Nat.le_refl _) _
  have b1 : Blk W1 p1 23 #[.int .i64 0, .int .i64 0, .int .i64 0] := by rw [← ea1]; exact blk_new w _ 23 _ f1
  have kk : Below w.heap.size w W1 := ka1
  have hp1 : w.heap.size ≤ p1 := Nat.le_of_eq f1
  clear ka1
  obtain ⟨p2, f2⟩ : ∃ p, W1.heap.size = p := ⟨_, rfl⟩
  obtain ⟨W2, ea2⟩ : ∃ W, W1.alloc (.cells #[.int .i64 0, .int .i64 0, .int .i64 0] 23) = W := ⟨_, rfl⟩
  have ka2 : Below W1.heap.size W1 W2 := by rw [← ea2]; exact (Below.refl _ W1).alloc (Nat.le_refl _) _
  have b2 : Blk W2 p2 23 #[.int .i64 0, .int .i64 0, .int .i64 0] := by rw [← ea2]; exact blk_new W1 _ 23 _ f2
  have q1_2 : p1 < p2 := by rw [← f2]; exact b1.lt
  replace b1 := b1.on ka2
  have kk0 := kk
  replace kk := kk.trans (ka2.mono kk.size)
  have hp2 : w.heap.size ≤ p2 := by rw [← f2]; exact kk0.size
  clear ka2 kk0
  obtain ⟨W3, es3⟩ : ∃ W, W2.setRow p2 #[.int .i64 k, .int .i64 0, .int .i64 0] = W := ⟨_, rfl⟩
  have bo2 := b2
  replace b1 := row_far b1 es3 (by omega)
  replace b2 : Blk W3 p2 23 #[.int .i64 k, .int .i64 0, .int .i64 0] := row_named b2 es3
  replace kk := kk.trans (row_below es3 hp2 kk.size)
  obtain ⟨p3, f3⟩ : ∃ p, W3.heap.size = p := ⟨_, rfl⟩
  obtain ⟨W4, ea4⟩ : ∃ W, W3.alloc (.cells #[.pointer none, .pointer none] 90) = W := ⟨_, rfl⟩
  have ka4 : Below W3.heap.size W3 W4 := by rw [← ea4]; exact (Below.refl _ W3).alloc (Nat.le_refl _) _
  have b3 : Blk W4 p3 90 #[.pointer none, .pointer none] := by rw [← ea4]; exact blk_new W3 _ 90 _ f3
  have q1_3 : p1 < p3 := by rw [← f3]; exact b1.lt
  replace b1 := b1.on ka4
  have q2_3 : p2 < p3 := by rw [← f3]; exact b2.lt
  replace b2 := b2.on ka4
  have kk0 := kk
  replace kk := kk.trans (ka4.mono kk.size)
  have hp3 : w.heap.size ≤ p3 := by rw [← f3]; exact kk0.size
  clear ka4 kk0
  obtain ⟨W5, es5⟩ : ∃ W, W4.setRow p3 #[.pointer (some ⟨p2, 1, none⟩), .pointer (some ⟨p2, 2, none⟩)] = W := ⟨_, rfl⟩
  have bo3 := b3
  replace b1 := row_far b1 es5 (by omega)
  replace b2 := row_far b2 es5 (by omega)
  replace b3 : Blk W5 p3 90 #[.pointer (some ⟨p2, 1, none⟩), .pointer (some ⟨p2, 2, none⟩)] := row_named b3 es5
  replace kk := kk.trans (row_below es5 hp3 kk.size)
  go_enter Tryd.func26, Tryd.ntmps26
  go_wp2_with (first | ((with_reducible refine at_store 23 (.tmp 5) (.tmp 10) ?_); refine wpList_store_row rfl 23 (.tmp 5) (.tmp 10) rfl p2 #[.int .i64 k, .int .i64 0, .int .i64 0] rfl rfl 23 #[.int .i64 0, .int .i64 0, .int .i64 0] bo2 size23 rfl (by simp [Value.oneCell']) ?_; rw [es3]) | ((with_reducible refine at_store 90 (.tmp 6) (.tmp 13) ?_); refine wpList_store_row rfl 90 (.tmp 6) (.tmp 13) rfl p3 #[.pointer (some ⟨p2, 1, none⟩), .pointer (some ⟨p2, 2, none⟩)] rfl rfl 90 #[.pointer none, .pointer none] bo3 size90 rfl (by simp [Value.oneCell']) ?_; rw [es5]))
  refine wp_loop_rounds 1 ?_
  rw [rounds_succ]
  have bq2 := b2
  obtain ⟨W6, es6⟩ : ∃ W, W5.setRow p1 #[.int .i64 k, .int .i64 0, .int .i64 0] = W := ⟨_, rfl⟩
  have bo1 := b1
  replace b2 := row_far b2 es6 (by omega)
  replace b3 := row_far b3 es6 (by omega)
  replace b1 : Blk W6 p1 23 #[.int .i64 k, .int .i64 0, .int .i64 0] := row_named b1 es6
  replace kk := kk.trans (row_below es6 hp1 kk.size)
  go_wp2_with (first | ((with_reducible refine at_load 23 (.tmp 5) ?_); refine wpList_load_row rfl 23 (.tmp 5) rfl p2 rfl 23 #[.int .i64 k, .int .i64 0, .int .i64 0] (0, 0) _ bq2 Tryd.underlying23 rfl size23 ?_) | ((with_reducible refine at_store 23 (.tmp 4) (.tmp 27) ?_); refine wpList_store_row rfl 23 (.tmp 4) (.tmp 27) rfl p1 #[.int .i64 k, .int .i64 0, .int .i64 0] rfl rfl 23 #[.int .i64 0, .int .i64 0, .int .i64 0] bo1 size23 rfl (by simp [Value.oneCell']) ?_; rw [es6]))
  refine bodyPost_ret (results_cell_row (cs := #[.int .i64 k, .int .i64 0, .int .i64 0]) rfl _ _ p1 23 (0, 0) _ rfl b1 Tryd.underlying23 rfl size23) rfl ?_
  exact ⟨rfl, kk⟩
set_option maxRecDepth 100000 in
set_option maxHeartbeats 4000000 in
theorem at1_any (k i : Int) {p0 : Nat} (w : World) (b0 : Blk w p0 3 #[.int .i64 i]) : Calls Tryd.prog 26 #[.int .i64 k, .slice (some ⟨p0, 0, none⟩) 1 1] w fun e w' => e = .returned (.agg (Pl.mk k i 0).cs.toArray) ∧ Below w.heap.size w w' := by
  show Calls Tryd.prog 26 #[.int .i64 k, .slice (some ⟨p0, 0, none⟩) 1 1] w fun e w' => e = .returned (.agg #[.int .i64 k, .int .i64 i, .int .i64 0]) ∧ Below w.heap.size w w'
  obtain ⟨p1, f1⟩ : ∃ p, w.heap.size = p := ⟨_, rfl⟩
  obtain ⟨W1, ea1⟩ : ∃ W, w.alloc (.cells #[.int .i64 0, .int .i64 0, .int .i64 0] 23) = W := ⟨_, rfl⟩
  have ka1 : Below w.heap.size w W1 := by rw [← ea1]; exact (Below.refl _ w).alloc (Nat.le_refl _) _
  have b1 : Blk W1 p1 23 #[.int .i64 0, .int .i64 0, .int .i64 0] := by rw [← ea1]; exact blk_new w _ 23 _ f1
  have q0_1 : p0 < p1 := by rw [← f1]; exact b0.lt
  replace b0 := b0.on ka1
  have kk : Below w.heap.size w W1 := ka1
  have hp1 : w.heap.size ≤ p1 := Nat.le_of_eq f1
  clear ka1
  obtain ⟨p2, f2⟩ : ∃ p, W1.heap.size = p := ⟨_, rfl⟩
  obtain ⟨W2, ea2⟩ : ∃ W, W1.alloc (.cells #[.int .i64 0, .int .i64 0, .int .i64 0] 23) = W := ⟨_, rfl⟩
  have ka2 : Below W1.heap.size W1 W2 := by rw [← ea2]; exact (Below.refl _ W1).alloc (Nat.le_refl _) _
  have b2 : Blk W2 p2 23 #[.int .i64 0, .int .i64 0, .int .i64 0] := by rw [← ea2]; exact blk_new W1 _ 23 _ f2
  have q0_2 : p0 < p2 := by rw [← f2]; exact b0.lt
  replace b0 := b0.on ka2
  have q1_2 : p1 < p2 := by rw [← f2]; exact b1.lt
  replace b1 := b1.on ka2
  have kk0 := kk
  replace kk := kk.trans (ka2.mono kk.size)
  have hp2 : w.heap.size ≤ p2 := by rw [← f2]; exact kk0.size
  clear ka2 kk0
  obtain ⟨W3, es3⟩ : ∃ W, W2.setRow p2 #[.int .i64 k, .int .i64 0, .int .i64 0] = W := ⟨_, rfl⟩
  have bo2 := b2
  replace b0 := row_far b0 es3 (by omega)
  replace b1 := row_far b1 es3 (by omega)
  replace b2 : Blk W3 p2 23 #[.int .i64 k, .int .i64 0, .int .i64 0] := row_named b2 es3
  replace kk := kk.trans (row_below es3 hp2 kk.size)
  obtain ⟨p3, f3⟩ : ∃ p, W3.heap.size = p := ⟨_, rfl⟩
  obtain ⟨W4, ea4⟩ : ∃ W, W3.alloc (.cells #[.pointer none, .pointer none] 90) = W := ⟨_, rfl⟩
  have ka4 : Below W3.heap.size W3 W4 := by rw [← ea4]; exact (Below.refl _ W3).alloc (Nat.le_refl _) _
  have b3 : Blk W4 p3 90 #[.pointer none, .pointer none] := by rw [← ea4]; exact blk_new W3 _ 90 _ f3
  have q0_3 : p0 < p3 := by rw [← f3]; exact b0.lt
  replace b0 := b0.on ka4
  have q1_3 : p1 < p3 := by rw [← f3]; exact b1.lt
  replace b1 := b1.on ka4
  have q2_3 : p2 < p3 := by rw [← f3]; exact b2.lt
  replace b2 := b2.on ka4
  have kk0 := kk
  replace kk := kk.trans (ka4.mono kk.size)
  have hp3 : w.heap.size ≤ p3 := by rw [← f3]; exact kk0.size
  clear ka4 kk0
  obtain ⟨W5, es5⟩ : ∃ W, W4.setRow p3 #[.pointer (some ⟨p2, 1, none⟩), .pointer (some ⟨p2, 2, none⟩)] = W := ⟨_, rfl⟩
  have bo3 := b3
  replace b0 := row_far b0 es5 (by omega)
  replace b1 := row_far b1 es5 (by omega)
  replace b2 := row_far b2 es5 (by omega)
  replace b3 : Blk W5 p3 90 #[.pointer (some ⟨p2, 1, none⟩), .pointer (some ⟨p2, 2, none⟩)] := row_named b3 es5
  replace kk := kk.trans (row_below es5 hp3 kk.size)
  go_enter Tryd.func26, Tryd.ntmps26
  go_wp2_with (first | ((with_reducible refine at_store 23 (.tmp 5) (.tmp 10) ?_); refine wpList_store_row rfl 23 (.tmp 5) (.tmp 10) rfl p2 #[.int .i64 k, .int .i64 0, .int .i64 0] rfl rfl 23 #[.int .i64 0, .int .i64 0, .int .i64 0] bo2 size23 rfl (by simp [Value.oneCell']) ?_; rw [es3]) | ((with_reducible refine at_store 90 (.tmp 6) (.tmp 13) ?_); refine wpList_store_row rfl 90 (.tmp 6) (.tmp 13) rfl p3 #[.pointer (some ⟨p2, 1, none⟩), .pointer (some ⟨p2, 2, none⟩)] rfl rfl 90 #[.pointer none, .pointer none] bo3 size90 rfl (by simp [Value.oneCell']) ?_; rw [es5]))
  refine wp_loop_rounds 2 ?_
  rw [rounds_succ]
  have c5_0_0 : W5.cell? ⟨p0, 0, none⟩ = some (.int .i64 i) := b0.cell 0
  have c5_3_0 : W5.cell? ⟨p3, 0, none⟩ = some (.pointer (some ⟨p2, 1, none⟩)) := b3.cell 0
  have c5_2_1 : W5.cell? ⟨p2, 1, none⟩ = some (.int .i64 0) := b2.cell 1
  have fr5_2_1 := b2.free 1
  obtain ⟨W6, es6⟩ : ∃ W, W5.setCell ⟨p2, 1, none⟩ (.int .i64 i) = W := ⟨_, rfl⟩
  replace b0 := set_far b0 es6 (by omega)
  replace b1 := set_far b1 es6 (by omega)
  replace b3 := set_far b3 es6 (by omega)
  replace b2 : Blk W6 p2 23 #[.int .i64 k, .int .i64 i, .int .i64 0] := set_named b2 es6 rfl
  replace kk := kk.trans (set_below es6 hp2 kk.size)
  go_wp2_with fail
  clear c5_0_0 c5_3_0 c5_2_1 fr5_2_1
  rw [rounds_succ]
  have bq2 := b2
  obtain ⟨W7, es7⟩ : ∃ W, W6.setRow p1 #[.int .i64 k, .int .i64 i, .int .i64 0] = W := ⟨_, rfl⟩
  have bo1 := b1
  replace b0 := row_far b0 es7 (by omega)
  replace b2 := row_far b2 es7 (by omega)
  replace b3 := row_far b3 es7 (by omega)
  replace b1 : Blk W7 p1 23 #[.int .i64 k, .int .i64 i, .int .i64 0] := row_named b1 es7
  replace kk := kk.trans (row_below es7 hp1 kk.size)
  go_wp2_with (first | ((with_reducible refine at_load 23 (.tmp 5) ?_); refine wpList_load_row rfl 23 (.tmp 5) rfl p2 rfl 23 #[.int .i64 k, .int .i64 i, .int .i64 0] (0, 0) _ bq2 Tryd.underlying23 rfl size23 ?_) | ((with_reducible refine at_store 23 (.tmp 4) (.tmp 27) ?_); refine wpList_store_row rfl 23 (.tmp 4) (.tmp 27) rfl p1 #[.int .i64 k, .int .i64 i, .int .i64 0] rfl rfl 23 #[.int .i64 0, .int .i64 0, .int .i64 0] bo1 size23 rfl (by simp [Value.oneCell']) ?_; rw [es7]))
  refine bodyPost_ret (results_cell_row (cs := #[.int .i64 k, .int .i64 i, .int .i64 0]) rfl _ _ p1 23 (0, 0) _ rfl b1 Tryd.underlying23 rfl size23) rfl ?_
  exact ⟨rfl, kk⟩
set_option maxRecDepth 100000 in
set_option maxHeartbeats 4000000 in
theorem at2_any (k i j : Int) {p0 : Nat} (w : World) (b0 : Blk w p0 3 #[.int .i64 i, .int .i64 j]) : Calls Tryd.prog 26 #[.int .i64 k, .slice (some ⟨p0, 0, none⟩) 2 2] w fun e w' => e = .returned (.agg (Pl.mk k i j).cs.toArray) ∧ Below w.heap.size w w' := by
  show Calls Tryd.prog 26 #[.int .i64 k, .slice (some ⟨p0, 0, none⟩) 2 2] w fun e w' => e = .returned (.agg #[.int .i64 k, .int .i64 i, .int .i64 j]) ∧ Below w.heap.size w w'
  obtain ⟨p1, f1⟩ : ∃ p, w.heap.size = p := ⟨_, rfl⟩
  obtain ⟨W1, ea1⟩ : ∃ W, w.alloc (.cells #[.int .i64 0, .int .i64 0, .int .i64 0] 23) = W := ⟨_, rfl⟩
  have ka1 : Below w.heap.size w W1 := by rw [← ea1]; exact (Below.refl _ w).alloc (Nat.le_refl _) _
  have b1 : Blk W1 p1 23 #[.int .i64 0, .int .i64 0, .int .i64 0] := by rw [← ea1]; exact blk_new w _ 23 _ f1
  have q0_1 : p0 < p1 := by rw [← f1]; exact b0.lt
  replace b0 := b0.on ka1
  have kk : Below w.heap.size w W1 := ka1
  have hp1 : w.heap.size ≤ p1 := Nat.le_of_eq f1
  clear ka1
  obtain ⟨p2, f2⟩ : ∃ p, W1.heap.size = p := ⟨_, rfl⟩
  obtain ⟨W2, ea2⟩ : ∃ W, W1.alloc (.cells #[.int .i64 0, .int .i64 0, .int .i64 0] 23) = W := ⟨_, rfl⟩
  have ka2 : Below W1.heap.size W1 W2 := by rw [← ea2]; exact (Below.refl _ W1).alloc (Nat.le_refl _) _
  have b2 : Blk W2 p2 23 #[.int .i64 0, .int .i64 0, .int .i64 0] := by rw [← ea2]; exact blk_new W1 _ 23 _ f2
  have q0_2 : p0 < p2 := by rw [← f2]; exact b0.lt
  replace b0 := b0.on ka2
  have q1_2 : p1 < p2 := by rw [← f2]; exact b1.lt
  replace b1 := b1.on ka2
  have kk0 := kk
  replace kk := kk.trans (ka2.mono kk.size)
  have hp2 : w.heap.size ≤ p2 := by rw [← f2]; exact kk0.size
  clear ka2 kk0
  obtain ⟨W3, es3⟩ : ∃ W, W2.setRow p2 #[.int .i64 k, .int .i64 0, .int .i64 0] = W := ⟨_, rfl⟩
  have bo2 := b2
  replace b0 := row_far b0 es3 (by omega)
  replace b1 := row_far b1 es3 (by omega)
  replace b2 : Blk W3 p2 23 #[.int .i64 k, .int .i64 0, .int .i64 0] := row_named b2 es3
  replace kk := kk.trans (row_below es3 hp2 kk.size)
  obtain ⟨p3, f3⟩ : ∃ p, W3.heap.size = p := ⟨_, rfl⟩
  obtain ⟨W4, ea4⟩ : ∃ W, W3.alloc (.cells #[.pointer none, .pointer none] 90) = W := ⟨_, rfl⟩
  have ka4 : Below W3.heap.size W3 W4 := by rw [← ea4]; exact (Below.refl _ W3).alloc (Nat.le_refl _) _
  have b3 : Blk W4 p3 90 #[.pointer none, .pointer none] := by rw [← ea4]; exact blk_new W3 _ 90 _ f3
  have q0_3 : p0 < p3 := by rw [← f3]; exact b0.lt
  replace b0 := b0.on ka4
  have q1_3 : p1 < p3 := by rw [← f3]; exact b1.lt
  replace b1 := b1.on ka4
  have q2_3 : p2 < p3 := by rw [← f3]; exact b2.lt
  replace b2 := b2.on ka4
  have kk0 := kk
  replace kk := kk.trans (ka4.mono kk.size)
  have hp3 : w.heap.size ≤ p3 := by rw [← f3]; exact kk0.size
  clear ka4 kk0
  obtain ⟨W5, es5⟩ : ∃ W, W4.setRow p3 #[.pointer (some ⟨p2, 1, none⟩), .pointer (some ⟨p2, 2, none⟩)] = W := ⟨_, rfl⟩
  have bo3 := b3
  replace b0 := row_far b0 es5 (by omega)
  replace b1 := row_far b1 es5 (by omega)
  replace b2 := row_far b2 es5 (by omega)
  replace b3 : Blk W5 p3 90 #[.pointer (some ⟨p2, 1, none⟩), .pointer (some ⟨p2, 2, none⟩)] := row_named b3 es5
  replace kk := kk.trans (row_below es5 hp3 kk.size)
  go_enter Tryd.func26, Tryd.ntmps26
  go_wp2_with (first | ((with_reducible refine at_store 23 (.tmp 5) (.tmp 10) ?_); refine wpList_store_row rfl 23 (.tmp 5) (.tmp 10) rfl p2 #[.int .i64 k, .int .i64 0, .int .i64 0] rfl rfl 23 #[.int .i64 0, .int .i64 0, .int .i64 0] bo2 size23 rfl (by simp [Value.oneCell']) ?_; rw [es3]) | ((with_reducible refine at_store 90 (.tmp 6) (.tmp 13) ?_); refine wpList_store_row rfl 90 (.tmp 6) (.tmp 13) rfl p3 #[.pointer (some ⟨p2, 1, none⟩), .pointer (some ⟨p2, 2, none⟩)] rfl rfl 90 #[.pointer none, .pointer none] bo3 size90 rfl (by simp [Value.oneCell']) ?_; rw [es5]))
  refine wp_loop_rounds 3 ?_
  rw [rounds_succ]
  have c5_0_0 : W5.cell? ⟨p0, 0, none⟩ = some (.int .i64 i) := b0.cell 0
  have c5_3_0 : W5.cell? ⟨p3, 0, none⟩ = some (.pointer (some ⟨p2, 1, none⟩)) := b3.cell 0
  have c5_2_1 : W5.cell? ⟨p2, 1, none⟩ = some (.int .i64 0) := b2.cell 1
  have fr5_2_1 := b2.free 1
  obtain ⟨W6, es6⟩ : ∃ W, W5.setCell ⟨p2, 1, none⟩ (.int .i64 i) = W := ⟨_, rfl⟩
  replace b0 := set_far b0 es6 (by omega)
  replace b1 := set_far b1 es6 (by omega)
  replace b3 := set_far b3 es6 (by omega)
  replace b2 : Blk W6 p2 23 #[.int .i64 k, .int .i64 i, .int .i64 0] := set_named b2 es6 rfl
  replace kk := kk.trans (set_below es6 hp2 kk.size)
  go_wp2_with fail
  clear c5_0_0 c5_3_0 c5_2_1 fr5_2_1
  rw [rounds_succ]
  have c6_0_1 : W6.cell? ⟨p0, 1, none⟩ = some (.int .i64 j) := b0.cell 1
  have c6_3_1 : W6.cell? ⟨p3, 1, none⟩ = some (.pointer (some ⟨p2, 2, none⟩)) := b3.cell 1
  have c6_2_2 : W6.cell? ⟨p2, 2, none⟩ = some (.int .i64 0) := b2.cell 2
  have fr6_2_2 := b2.free 2
  obtain ⟨W7, es7⟩ : ∃ W, W6.setCell ⟨p2, 2, none⟩ (.int .i64 j) = W := ⟨_, rfl⟩
  replace b0 := set_far b0 es7 (by omega)
  replace b1 := set_far b1 es7 (by omega)
  replace b3 := set_far b3 es7 (by omega)
  replace b2 : Blk W7 p2 23 #[.int .i64 k, .int .i64 i, .int .i64 j] := set_named b2 es7 rfl
  replace kk := kk.trans (set_below es7 hp2 kk.size)
  go_wp2_with fail
  clear c6_0_1 c6_3_1 c6_2_2 fr6_2_2
  rw [rounds_succ]
  have bq2 := b2
  obtain ⟨W8, es8⟩ : ∃ W, W7.setRow p1 #[.int .i64 k, .int .i64 i, .int .i64 j] = W := ⟨_, rfl⟩
  have bo1 := b1
  replace b0 := row_far b0 es8 (by omega)
  replace b2 := row_far b2 es8 (by omega)
  replace b3 := row_far b3 es8 (by omega)
  replace b1 : Blk W8 p1 23 #[.int .i64 k, .int .i64 i, .int .i64 j] := row_named b1 es8
  replace kk := kk.trans (row_below es8 hp1 kk.size)
  go_wp2_with (first | ((with_reducible refine at_load 23 (.tmp 5) ?_); refine wpList_load_row rfl 23 (.tmp 5) rfl p2 rfl 23 #[.int .i64 k, .int .i64 i, .int .i64 j] (0, 0) _ bq2 Tryd.underlying23 rfl size23 ?_) | ((with_reducible refine at_store 23 (.tmp 4) (.tmp 27) ?_); refine wpList_store_row rfl 23 (.tmp 4) (.tmp 27) rfl p1 #[.int .i64 k, .int .i64 i, .int .i64 j] rfl rfl 23 #[.int .i64 0, .int .i64 0, .int .i64 0] bo1 size23 rfl (by simp [Value.oneCell']) ?_; rw [es8]))
  refine bodyPost_ret (results_cell_row (cs := #[.int .i64 k, .int .i64 i, .int .i64 j]) rfl _ _ p1 23 (0, 0) _ rfl b1 Tryd.underlying23 rfl size23) rfl ?_
  exact ⟨rfl, kk⟩
end Go.Proofs.YtfadfdfpocpelaaDoor
