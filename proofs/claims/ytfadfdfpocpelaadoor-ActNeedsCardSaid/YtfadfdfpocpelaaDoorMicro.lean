/- The act of a thread between two instructions, by the program. Conditions: a program's list has room. -/
import Derived.Test.YtfadfdfpocpelaaDoorScan
namespace Go.Proofs.YtfadfdfpocpelaaDoor
set_option linter.unusedSimpArgs false
set_option linter.unusedVariables false
open Go.RowKit Go.ChangeShapes Go.WideShapes

set_option maxRecDepth 100000 in
set_option maxHeartbeats 4000000 in
theorem scan_any (p : Pg) (hp : p.Ok) (m : Mi) (h6 : m.k ≠ 6) (w : World) : Calls Tryd.prog 34 #[.agg p.cs.toArray, .agg m.cs.toArray] w fun e w' => e = .returned (.agg (scnA p m).cs.toArray) ∧ Below w.heap.size w w' := by
  have d1 := reads_any p hp m h6
  unfold scnA
  obtain ⟨v, ev⟩ : ∃ v, reaB p m = v := ⟨_, rfl⟩
  obtain ⟨⟨y0, y1, y2⟩, ey⟩ : ∃ y, reaP p m = y := ⟨_, rfl⟩
  rw [ev, ey] at d1
  rw [ev, ey]
  clear ev ey
  replace d1 : ∀ W, Calls Tryd.prog 46 #[.agg p.cs.toArray, .agg m.cs.toArray] W fun e w' => e = .returned (.tuple #[.agg #[.int .i64 y0, .int .i64 y1, .int .i64 y2], .bool v]) ∧ Below W.heap.size W w' := d1
  cases v with
  | false =>
    rw [if_neg (by decide)]
    show Calls Tryd.prog 34 #[.agg p.cs.toArray, .agg m.cs.toArray] w fun e w' => e = .returned (.agg noA.cs.toArray) ∧ Below w.heap.size w w'
    obtain ⟨p1, f1⟩ : ∃ p, w.heap.size = p := ⟨_, rfl⟩
    obtain ⟨W1, ea1⟩ : ∃ W, w.alloc (.cells p.cs.toArray 39) = W := ⟨_, rfl⟩
    have ka1 : Below w.heap.size w W1 := by rw [← ea1]; exact (Below.refl _ w).alloc (Nat.le_refl _) _
    have b1 : Blk W1 p1 39 p.cs.toArray := by rw [← ea1]; exact blk_new w _ 39 _ f1
    have kk : Below w.heap.size w W1 := ka1
    have hp1 : w.heap.size ≤ p1 := Nat.le_of_eq f1
    clear ka1
    obtain ⟨p2, f2⟩ : ∃ p, W1.heap.size = p := ⟨_, rfl⟩
    obtain ⟨W2, ea2⟩ : ∃ W, W1.alloc (.cells m.cs.toArray 43) = W := ⟨_, rfl⟩
    have ka2 : Below W1.heap.size W1 W2 := by rw [← ea2]; exact (Below.refl _ W1).alloc (Nat.le_refl _) _
    have b2 : Blk W2 p2 43 m.cs.toArray := by rw [← ea2]; exact blk_new W1 _ 43 _ f2
    have q1_2 : p1 < p2 := by rw [← f2]; exact b1.lt
    replace b1 := b1.on ka2
    have kk0 := kk
    replace kk := kk.trans (ka2.mono kk.size)
    have hp2 : w.heap.size ≤ p2 := by rw [← f2]; exact kk0.size
    clear ka2 kk0
    obtain ⟨p3, f3⟩ : ∃ p, W2.heap.size = p := ⟨_, rfl⟩
    obtain ⟨W3, ea3⟩ : ∃ W, W2.alloc (.cells #[.int .i64 0, .int .i64 0, .int .i64 0, .int .i64 0, .int .i64 0, .int .i64 0, .int .i64 0, .int .i64 0, .int .i64 0, .int .i64 0, .int .i64 0, .int .i64 0, .int .i64 0, .int .i64 0] 27) = W := ⟨_, rfl⟩
    have ka3 : Below W2.heap.size W2 W3 := by rw [← ea3]; exact (Below.refl _ W2).alloc (Nat.le_refl _) _
    have b3 : Blk W3 p3 27 #[.int .i64 0, .int .i64 0, .int .i64 0, .int .i64 0, .int .i64 0, .int .i64 0, .int .i64 0, .int .i64 0, .int .i64 0, .int .i64 0, .int .i64 0, .int .i64 0, .int .i64 0, .int .i64 0] := by rw [← ea3]; exact blk_new W2 _ 27 _ f3
    have q1_3 : p1 < p3 := by rw [← f3]; exact b1.lt
    replace b1 := b1.on ka3
    have q2_3 : p2 < p3 := by rw [← f3]; exact b2.lt
    replace b2 := b2.on ka3
    have kk0 := kk
    replace kk := kk.trans (ka3.mono kk.size)
    have hp3 : w.heap.size ≤ p3 := by rw [← f3]; exact kk0.size
    clear ka3 kk0
    go_enter Tryd.func34, Tryd.ntmps34
    go_wp2_with (first | ((with_reducible refine at_load 39 (.tmp 2) ?_); refine wpList_load_row rfl 39 (.tmp 2) rfl p1 rfl 39 p.cs.toArray (0, 0) _ b1 Tryd.underlying39 rfl size39 ?_) | ((with_reducible refine at_load 43 (.tmp 3) ?_); refine wpList_load_row rfl 43 (.tmp 3) rfl p2 rfl 43 m.cs.toArray (0, 0) _ b2 Tryd.underlying43 rfl size43 ?_))
    refine (d1 _).mono ?_
    rintro e W4 ⟨rfl, k1⟩
    replace b1 := b1.on k1
    replace b2 := b2.on k1
    replace b3 := b3.on k1
    replace kk := kk.trans (k1.mono kk.size)
    clear k1
    clear d1
    obtain ⟨p4, f4⟩ : ∃ p, W4.heap.size = p := ⟨_, rfl⟩
    obtain ⟨W5, ea5⟩ : ∃ W, W4.alloc (.cells #[.int .i64 0, .int .i64 0, .int .i64 0] 23) = W := ⟨_, rfl⟩
    have ka5 : Below W4.heap.size W4 W5 := by rw [← ea5]; exact (Below.refl _ W4).alloc (Nat.le_refl _) _
    have b4 : Blk W5 p4 23 #[.int .i64 0, .int .i64 0, .int .i64 0] := by rw [← ea5]; exact blk_new W4 _ 23 _ f4
    have q1_4 : p1 < p4 := by rw [← f4]; exact b1.lt
    replace b1 := b1.on ka5
    have q2_4 : p2 < p4 := by rw [← f4]; exact b2.lt
    replace b2 := b2.on ka5
    have q3_4 : p3 < p4 := by rw [← f4]; exact b3.lt
    replace b3 := b3.on ka5
    have kk0 := kk
    replace kk := kk.trans (ka5.mono kk.size)
    have hp4 : w.heap.size ≤ p4 := by rw [← f4]; exact kk0.size
    clear ka5 kk0
    obtain ⟨W6, es6⟩ : ∃ W, W5.setRow p4 #[.int .i64 y0, .int .i64 y1, .int .i64 y2] = W := ⟨_, rfl⟩
    have bo4 := b4
    replace b1 := row_far b1 es6 (by omega)
    replace b2 := row_far b2 es6 (by omega)
    replace b3 := row_far b3 es6 (by omega)
    replace b4 : Blk W6 p4 23 #[.int .i64 y0, .int .i64 y1, .int .i64 y2] := row_named b4 es6
    replace kk := kk.trans (row_below es6 hp4 kk.size)
    go_wp2_with (((with_reducible refine at_store 23 (.tmp 5) (.tmp 11) ?_); refine wpList_store_row rfl 23 (.tmp 5) (.tmp 11) rfl p4 #[.int .i64 y0, .int .i64 y1, .int .i64 y2] rfl rfl 23 #[.int .i64 0, .int .i64 0, .int .i64 0] bo4 size23 rfl (by simp [Value.oneCell']) ?_; rw [es6]))
    refine (none_any _).mono ?_
    rintro e W7 ⟨rfl, k1⟩
    replace b1 := b1.on k1
    replace b2 := b2.on k1
    replace b3 := b3.on k1
    replace b4 := b4.on k1
    replace kk := kk.trans (k1.mono kk.size)
    clear k1
    obtain ⟨W8, es8⟩ : ∃ W, W7.setRow p3 noA.cs.toArray = W := ⟨_, rfl⟩
    have bo3 := b3
    replace b1 := row_far b1 es8 (by omega)
    replace b2 := row_far b2 es8 (by omega)
    replace b4 := row_far b4 es8 (by omega)
    replace b3 : Blk W8 p3 27 noA.cs.toArray := row_named b3 es8
    replace kk := kk.trans (row_below es8 hp3 kk.size)
    go_wp2_with (((with_reducible refine at_store 27 (.tmp 4) (.tmp 15) ?_); refine wpList_store_row rfl 27 (.tmp 4) (.tmp 15) rfl p3 noA.cs.toArray rfl rfl 27 #[.int .i64 0, .int .i64 0, .int .i64 0, .int .i64 0, .int .i64 0, .int .i64 0, .int .i64 0, .int .i64 0, .int .i64 0, .int .i64 0, .int .i64 0, .int .i64 0, .int .i64 0, .int .i64 0] bo3 size27 rfl (Ac.onea _) ?_; rw [es8]))
    refine bodyPost_ret (results_cell_row (cs := noA.cs.toArray) rfl _ _ p3 27 (0, 0) _ rfl b3 Tryd.underlying27 rfl size27) rfl ?_
    exact ⟨rfl, kk⟩
  | true =>
    rw [if_pos rfl]
    show Calls Tryd.prog 34 #[.agg p.cs.toArray, .agg m.cs.toArray] w fun e w' => e = .returned (.agg #[.int .i64 9, .int .i64 y0, .int .i64 y1, .int .i64 y2, .int .i64 0, .int .i64 0, .int .i64 0, .int .i64 0, .int .i64 0, .int .i64 0, .int .i64 0, .int .i64 0, .int .i64 0, .int .i64 0]) ∧ Below w.heap.size w w'
    obtain ⟨p1, f1⟩ : ∃ p, w.heap.size = p := ⟨_, rfl⟩
    obtain ⟨W1, ea1⟩ : ∃ W, w.alloc (.cells p.cs.toArray 39) = W := ⟨_, rfl⟩
    have ka1 : Below w.heap.size w W1 := by rw [← ea1]; exact (Below.refl _ w).alloc (Nat.le_refl _) _
    have b1 : Blk W1 p1 39 p.cs.toArray := by rw [← ea1]; exact blk_new w _ 39 _ f1
    have kk : Below w.heap.size w W1 := ka1
    have hp1 : w.heap.size ≤ p1 := Nat.le_of_eq f1
    clear ka1
    obtain ⟨p2, f2⟩ : ∃ p, W1.heap.size = p := ⟨_, rfl⟩
    obtain ⟨W2, ea2⟩ : ∃ W, W1.alloc (.cells m.cs.toArray 43) = W := ⟨_, rfl⟩
    have ka2 : Below W1.heap.size W1 W2 := by rw [← ea2]; exact (Below.refl _ W1).alloc (Nat.le_refl _) _
    have b2 : Blk W2 p2 43 m.cs.toArray := by rw [← ea2]; exact blk_new W1 _ 43 _ f2
    have q1_2 : p1 < p2 := by rw [← f2]; exact b1.lt
    replace b1 := b1.on ka2
    have kk0 := kk
    replace kk := kk.trans (ka2.mono kk.size)
    have hp2 : w.heap.size ≤ p2 := by rw [← f2]; exact kk0.size
    clear ka2 kk0
    obtain ⟨p3, f3⟩ : ∃ p, W2.heap.size = p := ⟨_, rfl⟩
    obtain ⟨W3, ea3⟩ : ∃ W, W2.alloc (.cells #[.int .i64 0, .int .i64 0, .int .i64 0, .int .i64 0, .int .i64 0, .int .i64 0, .int .i64 0, .int .i64 0, .int .i64 0, .int .i64 0, .int .i64 0, .int .i64 0, .int .i64 0, .int .i64 0] 27) = W := ⟨_, rfl⟩
    have ka3 : Below W2.heap.size W2 W3 := by rw [← ea3]; exact (Below.refl _ W2).alloc (Nat.le_refl _) _
    have b3 : Blk W3 p3 27 #[.int .i64 0, .int .i64 0, .int .i64 0, .int .i64 0, .int .i64 0, .int .i64 0, .int .i64 0, .int .i64 0, .int .i64 0, .int .i64 0, .int .i64 0, .int .i64 0, .int .i64 0, .int .i64 0] := by rw [← ea3]; exact blk_new W2 _ 27 _ f3
    have q1_3 : p1 < p3 := by rw [← f3]; exact b1.lt
    replace b1 := b1.on ka3
    have q2_3 : p2 < p3 := by rw [← f3]; exact b2.lt
    replace b2 := b2.on ka3
    have kk0 := kk
    replace kk := kk.trans (ka3.mono kk.size)
    have hp3 : w.heap.size ≤ p3 := by rw [← f3]; exact kk0.size
    clear ka3 kk0
    go_enter Tryd.func34, Tryd.ntmps34
    go_wp2_with (first | ((with_reducible refine at_load 39 (.tmp 2) ?_); refine wpList_load_row rfl 39 (.tmp 2) rfl p1 rfl 39 p.cs.toArray (0, 0) _ b1 Tryd.underlying39 rfl size39 ?_) | ((with_reducible refine at_load 43 (.tmp 3) ?_); refine wpList_load_row rfl 43 (.tmp 3) rfl p2 rfl 43 m.cs.toArray (0, 0) _ b2 Tryd.underlying43 rfl size43 ?_))
    refine (d1 _).mono ?_
    rintro e W4 ⟨rfl, k1⟩
    replace b1 := b1.on k1
    replace b2 := b2.on k1
    replace b3 := b3.on k1
    replace kk := kk.trans (k1.mono kk.size)
    clear k1
    clear d1
    obtain ⟨p4, f4⟩ : ∃ p, W4.heap.size = p := ⟨_, rfl⟩
    obtain ⟨W5, ea5⟩ : ∃ W, W4.alloc (.cells #[.int .i64 0, .int .i64 0, .int .i64 0] 23) = W := ⟨_, rfl⟩
    have ka5 : Below W4.heap.size W4 W5 := by rw [← ea5]; exact (Below.refl _ W4).alloc (Nat.le_refl _) _
    have b4 : Blk W5 p4 23 #[.int .i64 0, .int .i64 0, .int .i64 0] := by rw [← ea5]; exact blk_new W4 _ 23 _ f4
    have q1_4 : p1 < p4 := by rw [← f4]; exact b1.lt
    replace b1 := b1.on ka5
    have q2_4 : p2 < p4 := by rw [← f4]; exact b2.lt
    replace b2 := b2.on ka5
    have q3_4 : p3 < p4 := by rw [← f4]; exact b3.lt
    replace b3 := b3.on ka5
    have kk0 := kk
    replace kk := kk.trans (ka5.mono kk.size)
    have hp4 : w.heap.size ≤ p4 := by rw [← f4]; exact kk0.size
    clear ka5 kk0
    obtain ⟨W6, es6⟩ : ∃ W, W5.setRow p4 #[.int .i64 y0, .int .i64 y1, .int .i64 y2] = W := ⟨_, rfl⟩
    have bo4 := b4
    replace b1 := row_far b1 es6 (by omega)
    replace b2 := row_far b2 es6 (by omega)
    replace b3 := row_far b3 es6 (by omega)
    replace b4 : Blk W6 p4 23 #[.int .i64 y0, .int .i64 y1, .int .i64 y2] := row_named b4 es6
    replace kk := kk.trans (row_below es6 hp4 kk.size)
    have bq4 := b4
    obtain ⟨W7, es7⟩ : ∃ W, W6.setRow p3 #[.int .i64 9, .int .i64 y0, .int .i64 y1, .int .i64 y2, .int .i64 0, .int .i64 0, .int .i64 0, .int .i64 0, .int .i64 0, .int .i64 0, .int .i64 0, .int .i64 0, .int .i64 0, .int .i64 0] = W := ⟨_, rfl⟩
    have bo3 := b3
    replace b1 := row_far b1 es7 (by omega)
    replace b2 := row_far b2 es7 (by omega)
    replace b4 := row_far b4 es7 (by omega)
    replace b3 : Blk W7 p3 27 #[.int .i64 9, .int .i64 y0, .int .i64 y1, .int .i64 y2, .int .i64 0, .int .i64 0, .int .i64 0, .int .i64 0, .int .i64 0, .int .i64 0, .int .i64 0, .int .i64 0, .int .i64 0, .int .i64 0] := row_named b3 es7
    replace kk := kk.trans (row_below es7 hp3 kk.size)
    go_wp2_with (first | ((with_reducible refine at_store 23 (.tmp 5) (.tmp 11) ?_); refine wpList_store_row rfl 23 (.tmp 5) (.tmp 11) rfl p4 #[.int .i64 y0, .int .i64 y1, .int .i64 y2] rfl rfl 23 #[.int .i64 0, .int .i64 0, .int .i64 0] bo4 size23 rfl (by simp [Value.oneCell']) ?_; rw [es6]) | ((with_reducible refine at_load 23 (.tmp 5) ?_); refine wpList_load_row rfl 23 (.tmp 5) rfl p4 rfl 23 #[.int .i64 y0, .int .i64 y1, .int .i64 y2] (0, 0) _ bq4 Tryd.underlying23 rfl size23 ?_) | ((with_reducible refine at_store 27 (.tmp 4) (.tmp 17) ?_); refine wpList_store_row rfl 27 (.tmp 4) (.tmp 17) rfl p3 #[.int .i64 9, .int .i64 y0, .int .i64 y1, .int .i64 y2, .int .i64 0, .int .i64 0, .int .i64 0, .int .i64 0, .int .i64 0, .int .i64 0, .int .i64 0, .int .i64 0, .int .i64 0, .int .i64 0] rfl rfl 27 #[.int .i64 0, .int .i64 0, .int .i64 0, .int .i64 0, .int .i64 0, .int .i64 0, .int .i64 0, .int .i64 0, .int .i64 0, .int .i64 0, .int .i64 0, .int .i64 0, .int .i64 0, .int .i64 0] bo3 size27 rfl (by simp [Value.oneCell']) ?_; rw [es7]))
    refine bodyPost_ret (results_cell_row (cs := #[.int .i64 9, .int .i64 y0, .int .i64 y1, .int .i64 y2, .int .i64 0, .int .i64 0, .int .i64 0, .int .i64 0, .int .i64 0, .int .i64 0, .int .i64 0, .int .i64 0, .int .i64 0, .int .i64 0]) rfl _ _ p3 27 (0, 0) _ rfl b3 Tryd.underlying27 rfl size27) rfl ?_
    exact ⟨rfl, kk⟩
set_option maxRecDepth 100000 in
set_option maxHeartbeats 4000000 in
theorem micro_act (p : Pg) (hp : p.Ok) (t : Int) (m : Mi) (w : World) : Calls Tryd.prog 16 #[.agg p.cs.toArray, .int .i64 t, .agg m.cs.toArray] w fun e w' => e = .returned (.agg (micA p t m).cs.toArray) ∧ Below w.heap.size w w' := by
  obtain ⟨p1, f1⟩ : ∃ p, w.heap.size = p := ⟨_, rfl⟩
  obtain ⟨W1, ea1⟩ : ∃ W, w.alloc (.cells p.cs.toArray 39) = W := ⟨_, rfl⟩
  have ka1 : Below w.heap.size w W1 := by rw [← ea1]; exact (Below.refl _ w).alloc (Nat.le_refl _) _
  have b1 : Blk W1 p1 39 p.cs.toArray := by rw [← ea1]; exact blk_new w _ 39 _ f1
  have kk : Below w.heap.size w W1 := ka1
  have hp1 : w.heap.size ≤ p1 := Nat.le_of_eq f1
  clear ka1
  obtain ⟨p2, f2⟩ : ∃ p, W1.heap.size = p := ⟨_, rfl⟩
  obtain ⟨W2, ea2⟩ : ∃ W, W1.alloc (.cells m.cs.toArray 43) = W := ⟨_, rfl⟩
  have ka2 : Below W1.heap.size W1 W2 := by rw [← ea2]; exact (Below.refl _ W1).alloc (Nat.le_refl _) _
  have b2 : Blk W2 p2 43 m.cs.toArray := by rw [← ea2]; exact blk_new W1 _ 43 _ f2
  have q1_2 : p1 < p2 := by rw [← f2]; exact b1.lt
  replace b1 := b1.on ka2
  have kk0 := kk
  replace kk := kk.trans (ka2.mono kk.size)
  have hp2 : w.heap.size ≤ p2 := by rw [← f2]; exact kk0.size
  clear ka2 kk0
  obtain ⟨p3, f3⟩ : ∃ p, W2.heap.size = p := ⟨_, rfl⟩
  obtain ⟨W3, ea3⟩ : ∃ W, W2.alloc (.cells #[.int .i64 0, .int .i64 0, .int .i64 0, .int .i64 0, .int .i64 0, .int .i64 0, .int .i64 0, .int .i64 0, .int .i64 0, .int .i64 0, .int .i64 0, .int .i64 0, .int .i64 0, .int .i64 0] 27) = W := ⟨_, rfl⟩
  have ka3 : Below W2.heap.size W2 W3 := by rw [← ea3]; exact (Below.refl _ W2).alloc (Nat.le_refl _) _
  have b3 : Blk W3 p3 27 #[.int .i64 0, .int .i64 0, .int .i64 0, .int .i64 0, .int .i64 0, .int .i64 0, .int .i64 0, .int .i64 0, .int .i64 0, .int .i64 0, .int .i64 0, .int .i64 0, .int .i64 0, .int .i64 0] := by rw [← ea3]; exact blk_new W2 _ 27 _ f3
  have q1_3 : p1 < p3 := by rw [← f3]; exact b1.lt
  replace b1 := b1.on ka3
  have q2_3 : p2 < p3 := by rw [← f3]; exact b2.lt
  replace b2 := b2.on ka3
  have kk0 := kk
  replace kk := kk.trans (ka3.mono kk.size)
  have hp3 : w.heap.size ≤ p3 := by rw [← f3]; exact kk0.size
  clear ka3 kk0
  by_cases c1 : m.k = 1
  · unfold micA
    rw [if_pos c1]
    have t1 : (m.k == 1) = true := by simpa using c1
    clear c1
    have c3_2_0 : W3.cell? ⟨p2, 0, none⟩ = some (.int .i64 m.k) := b2.cell 0
    have h13 : p1 ≠ p3 := by omega
    have h23 : p2 ≠ p3 := by omega
    go_enter Tryd.func16, Tryd.ntmps16
    go_wp2_with fail
    clear f1
    obtain ⟨wd, ed⟩ : ∃ W, W3.drew = W := ⟨_, rfl⟩
    have hd : Below W3.heap.size W3 wd := by rw [← ed]; exact (Below.refl _ _).drew
    replace b1 := b1.on hd
    replace b2 := b2.on hd
    replace b3 := b3.on hd
    replace kk := kk.trans (hd.mono kk.size)
    clear hd
    have kS : Kept (fun g => g = p3) wd wd := Kept.refl _ _
    have tS : ∀ W, Kept (fun g => g = p3) wd W → W.cell? ⟨p2, 2, none⟩ = some (.int .i64 m.n) := fun W hW => (b2.kept hW h23).cell 2
    refine wp_region_noPanic ?_
    refine wp_region_held_drew (S := (fun W => Kept (fun g => g = p3) wd W)) (by kernel_rfl) (by rw [ed]; exact kS) (fun hHeld => ?_)
    rw [ed] at hHeld ⊢
    refine wpAnyH_take (i := 0) (oi := ⟨some 11, _, _, _, _, _⟩) (v := ?_) rfl (by kernel_rfl) (by kernel_rfl) (by kernel_rfl) (fun _ _ _ h => h) (Or.inl ⟨by rfl, ?_⟩) (by assumption) ?_
    rotate_left 1
    · (intro W hSw; go_simp <;> with_reducible rfl)
    try simp only [Act.put, List.setIfInBounds_toArray, List.set_cons_zero, List.set_cons_succ]
    refine wpAnyH_take (i := 3) (oi := ⟨some 14, _, _, _, _, _⟩) (v := ?_) rfl (by kernel_rfl) (by kernel_rfl) (by kernel_rfl) (fun _ _ _ h => h) (Or.inl ⟨by rfl, ?_⟩) (by assumption) ?_
    rotate_left 1
    · (intro W hSw; go_simp <;> with_reducible rfl)
    try simp only [Act.put, List.setIfInBounds_toArray, List.set_cons_zero, List.set_cons_succ]
    refine wpAnyH_take (i := 4) (oi := ⟨some 15, _, _, _, _, _⟩) (v := ?_) rfl (by kernel_rfl) (by kernel_rfl) (by kernel_rfl) (fun _ _ _ h => h) (Or.inl ⟨by rfl, ?_⟩) (by assumption) ?_
    rotate_left 1
    · (intro W hSw; obtain q0 := tS W hSw; go_simp <;> with_reducible rfl)
    try simp only [Act.put, List.setIfInBounds_toArray, List.set_cons_zero, List.set_cons_succ]
    refine wpAnyH_ready (rs := [1]) (by kernel_rfl) (by simp) ?_
    refine AllReadyH.cons (o := ⟨some 12, _, _, _, _, _⟩) rfl (fun K hK => ?_) AllReadyH.nil
    go_simp
    obtain ⟨w1, ew1⟩ : ∃ zz, zz = wd.alloc (.cells #[.int .i64 t] 3) := ⟨_, rfl⟩
    have hb1 : Below wd.heap.size wd w1 := by rw [ew1]; exact (Below.refl _ _).alloc (Nat.le_refl _) _
    rw [← ew1]
    have ba1 : Blk w1 wd.heap.size 3 #[.int .i64 t] := by rw [ew1]; exact heap_alloc_new _ _
    have b1_1 := b1.on hb1
    have b2_1 := b2.on hb1
    have b3_1 := b3.on hb1
    have kk_1 := kk.trans (hb1.mono kk.size)
    have S1 : (fun W => Kept (fun g => g = p3) wd W) w1 := Kept.next kS (kept_below (fun _ => False) hb1) (fun _ h => h.elim)
    refine hK.out _ _ S1 (fun h1 => ?_)
    clear hHeld hK K ew1
    try simp only [Act.put, List.setIfInBounds_toArray, List.set_cons_zero, List.set_cons_succ]
    refine wpAnyH_ready (rs := [2]) (by kernel_rfl) (by simp) ?_
    refine AllReadyH.cons (o := ⟨some 13, _, _, _, _, _⟩) rfl (fun K hK => ?_) AllReadyH.nil
    go_simp
    refine (at1_any 7 t w1 ba1).mono ?_
    rintro e w2 ⟨rfl, hb2⟩
    have b1_2 := b1_1.on hb2
    have b2_2 := b2_1.on hb2
    have b3_2 := b3_1.on hb2
    have kk_2 := kk_1.trans (hb2.mono kk_1.size)
    have ba_2 := ba1.on hb2
    have S2 : (fun W => Kept (fun g => g = p3) wd W) w2 := Kept.next S1 (kept_below (fun _ => False) hb2) (fun _ h => h.elim)
    refine hK.out _ _ S2 (fun h2 => ?_)
    clear h1 hK K
    try simp only [Act.put, List.setIfInBounds_toArray, List.set_cons_zero, List.set_cons_succ]
    refine wpAnyH_ready (rs := [5]) (by kernel_rfl) (by simp) ?_
    refine AllReadyH.cons (o := ⟨some 16, _, _, _, _, _⟩) rfl (fun K hK => ?_) AllReadyH.nil
    go_simp
    refine (mark_any m.n w2).mono ?_
    rintro e w3 ⟨rfl, ew3⟩
    have hb3 : Below w2.heap.size w2 w3 := by rw [← ew3]; exact Below.refl _ _
    have b1_3 := b1_2.on hb3
    have b2_3 := b2_2.on hb3
    have b3_3 := b3_2.on hb3
    have kk_3 := kk_2.trans (hb3.mono kk_2.size)
    have ba_3 := ba_2.on hb3
    have S3 : (fun W => Kept (fun g => g = p3) wd W) w3 := Kept.next S2 (kept_below (fun _ => False) hb3) (fun _ h => h.elim)
    refine hK.out _ _ S3 (fun h3 => ?_)
    clear h2 hK K
    try simp only [Act.put, List.setIfInBounds_toArray, List.set_cons_zero, List.set_cons_succ]
    refine wpAnyH_ready (rs := [6]) (by kernel_rfl) (by simp) ?_
    refine AllReadyH.cons (o := ⟨some 17, _, _, _, _, _⟩) rfl (fun K hK => ?_) AllReadyH.nil
    go_simp
    refine (plain_any (markZ m.n) w3).mono ?_
    rintro e w4 ⟨rfl, hb4⟩
    have b1_4 := b1_3.on hb4
    have b2_4 := b2_3.on hb4
    have b3_4 := b3_3.on hb4
    have kk_4 := kk_3.trans (hb4.mono kk_3.size)
    have ba_4 := ba_3.on hb4
    have S4 : (fun W => Kept (fun g => g = p3) wd W) w4 := Kept.next S3 (kept_below (fun _ => False) hb4) (fun _ h => h.elim)
    refine hK.out _ _ S4 (fun h4 => ?_)
    clear h3 hK K
    try simp only [Act.put, List.setIfInBounds_toArray, List.set_cons_zero, List.set_cons_succ]
    refine wpAnyH_ready (rs := [7]) (by kernel_rfl) (by simp) ?_
    refine AllReadyH.cons (o := ⟨some 18, _, _, _, _, _⟩) rfl (fun K hK => ?_) AllReadyH.nil
    go_simp
    refine (write_any ⟨7, t, 0⟩ ⟨markZ m.n, 0, 0⟩ w4).mono ?_
    rintro e w5 ⟨rfl, hb5⟩
    have b1_5 := b1_4.on hb5
    have b2_5 := b2_4.on hb5
    have b3_5 := b3_4.on hb5
    have kk_5 := kk_4.trans (hb5.mono kk_4.size)
    have ba_5 := ba_4.on hb5
    have S5 : (fun W => Kept (fun g => g = p3) wd W) w5 := Kept.next S4 (kept_below (fun _ => False) hb5) (fun _ h => h.elim)
    refine hK.out _ _ S5 (fun h5 => ?_)
    clear h4 hK K
    try simp only [Act.put, List.setIfInBounds_toArray, List.set_cons_zero, List.set_cons_succ]
    refine wpAnyH_ready (rs := [8]) (by kernel_rfl) (by simp) ?_
    refine AllReadyH.cons (o := ⟨none, _, _, _, _, _⟩) rfl (fun K hK => ?_) AllReadyH.nil
    rw [if_pos (by rfl)]
    refine wp_store_row 27 (.tmp 6) (.tmp 18) rfl p3 (⟨3, ⟨7, t, 0⟩, noW, noW, ⟨markZ m.n, 0, 0⟩, 0⟩ : Ac).cs.toArray rfl rfl 27 #[.int .i64 0, .int .i64 0, .int .i64 0, .int .i64 0, .int .i64 0, .int .i64 0, .int .i64 0, .int .i64 0, .int .i64 0, .int .i64 0, .int .i64 0, .int .i64 0, .int .i64 0, .int .i64 0] b3_5 size27 rfl (Ac.onea _) ?_
    refine hK.out _ _ (Kept.next S5 (kept_row _ p3 _) (fun g h => .inl h)) (fun h6 => ?_)
    clear h5 hK K
    have S6 : Kept (fun g => g = p3) wd (w5.setRow p3 (⟨3, ⟨7, t, 0⟩, noW, noW, ⟨markZ m.n, 0, 0⟩, 0⟩ : Ac).cs.toArray) := Kept.next S5 (kept_row _ p3 _) (fun g h => .inl h)
    have b3_6 : Blk (w5.setRow p3 (⟨3, ⟨7, t, 0⟩, noW, noW, ⟨markZ m.n, 0, 0⟩, 0⟩ : Ac).cs.toArray) p3 27 (⟨3, ⟨7, t, 0⟩, noW, noW, ⟨markZ m.n, 0, 0⟩, 0⟩ : Ac).cs.toArray := row_named b3_5 rfl
    have kk_6 := kk_5.trans (row_below (W := (w5.setRow p3 (⟨3, ⟨7, t, 0⟩, noW, noW, ⟨markZ m.n, 0, 0⟩, 0⟩ : Ac).cs.toArray)) rfl hp3 kk_5.size)
    try simp only [Act.put]
    refine wpAnyH_done (by kernel_rfl) ?_ _
    refine NoPanic.normal ?_
    go_wp2_with fail
    refine bodyPost_ret (results_cell_row (cs := (⟨3, ⟨7, t, 0⟩, noW, noW, ⟨markZ m.n, 0, 0⟩, 0⟩ : Ac).cs.toArray) rfl _ _ p3 27 (0, 0) _ rfl b3_6 Tryd.underlying27 rfl size27) rfl ?_
    exact ⟨rfl, kk_6⟩
  · by_cases c6 : m.k = 6
    · unfold micA
      rw [if_neg c1]
      have t1 : (m.k == 1) = false := by simpa using c1
      rw [if_pos c6]
      have t6 : (m.k == 6) = true := by simpa using c6
      clear c1 c6
      have c3_2_0 : W3.cell? ⟨p2, 0, none⟩ = some (.int .i64 m.k) := b2.cell 0
      have h13 : p1 ≠ p3 := by omega
      have h23 : p2 ≠ p3 := by omega
      go_enter Tryd.func16, Tryd.ntmps16
      go_wp2_with fail
      clear f1
      obtain ⟨wd, ed⟩ : ∃ W, W3.drew = W := ⟨_, rfl⟩
      have hd : Below W3.heap.size W3 wd := by rw [← ed]; exact (Below.refl _ _).drew
      replace b1 := b1.on hd
      replace b2 := b2.on hd
      replace b3 := b3.on hd
      replace kk := kk.trans (hd.mono kk.size)
      clear hd
      have kS : Kept (fun g => g = p3) wd wd := Kept.refl _ _
      have tS : ∀ W, Kept (fun g => g = p3) wd W → W.cell? ⟨p2, 2, none⟩ = some (.int .i64 m.n) := fun W hW => (b2.kept hW h23).cell 2
      refine wp_region_noPanic ?_
      refine wp_region_held_drew (S := (fun W => Kept (fun g => g = p3) wd W)) (by kernel_rfl) (by rw [ed]; exact kS) (fun hHeld => ?_)
      rw [ed] at hHeld ⊢
      refine wpAnyH_take (i := 1) (oi := ⟨some 22, _, _, _, _, _⟩) (v := ?_) rfl (by kernel_rfl) (by kernel_rfl) (by kernel_rfl) (fun _ _ _ h => h) (Or.inl ⟨by rfl, ?_⟩) (by assumption) ?_
      rotate_left 1
      · (intro W hSw; go_simp <;> with_reducible rfl)
      try simp only [Act.put, List.setIfInBounds_toArray, List.set_cons_zero, List.set_cons_succ]
      refine wpAnyH_take (i := 2) (oi := ⟨some 23, _, _, _, _, _⟩) (v := ?_) rfl (by kernel_rfl) (by kernel_rfl) (by kernel_rfl) (fun _ _ _ h => h) (Or.inl ⟨by rfl, ?_⟩) (by assumption) ?_
      rotate_left 1
      · (intro W hSw; obtain q0 := tS W hSw; go_simp <;> with_reducible rfl)
      try simp only [Act.put, List.setIfInBounds_toArray, List.set_cons_zero, List.set_cons_succ]
      refine wpAnyH_take (i := 4) (oi := ⟨some 25, _, _, _, _, _⟩) (v := ?_) rfl (by kernel_rfl) (by kernel_rfl) (by kernel_rfl) (fun _ _ _ h => h) (Or.inl ⟨by rfl, ?_⟩) (by assumption) ?_
      rotate_left 1
      · (intro W hSw; go_simp <;> with_reducible rfl)
      try simp only [Act.put, List.setIfInBounds_toArray, List.set_cons_zero, List.set_cons_succ]
      refine wpAnyH_take (i := 5) (oi := ⟨some 26, _, _, _, _, _⟩) (v := ?_) rfl (by kernel_rfl) (by kernel_rfl) (by kernel_rfl) (fun _ _ _ h => h) (Or.inl ⟨by rfl, ?_⟩) (by assumption) ?_
      rotate_left 1
      · (intro W hSw; obtain q0 := tS W hSw; go_simp <;> with_reducible rfl)
      try simp only [Act.put, List.setIfInBounds_toArray, List.set_cons_zero, List.set_cons_succ]
      refine wpAnyH_ready (rs := [0]) (by kernel_rfl) (by simp) ?_
      refine AllReadyH.cons (o := ⟨some 21, _, _, _, _, _⟩) rfl (fun K hK => ?_) AllReadyH.nil
      go_simp
      refine (at0_any 6 wd).mono ?_
      rintro e w1 ⟨rfl, hb1⟩
      have b1_1 := b1.on hb1
      have b2_1 := b2.on hb1
      have b3_1 := b3.on hb1
      have kk_1 := kk.trans (hb1.mono kk.size)
      have S1 : (fun W => Kept (fun g => g = p3) wd W) w1 := Kept.next kS (kept_below (fun _ => False) hb1) (fun _ h => h.elim)
      refine hK.out _ _ S1 (fun h1 => ?_)
      clear hHeld hK K
      try simp only [Act.put, List.setIfInBounds_toArray, List.set_cons_zero, List.set_cons_succ]
      refine wpAnyH_ready (rs := [3]) (by kernel_rfl) (by simp) ?_
      refine AllReadyH.cons (o := ⟨some 24, _, _, _, _, _⟩) rfl (fun K hK => ?_) AllReadyH.nil
      go_simp
      refine (plain_any m.n w1).mono ?_
      rintro e w2 ⟨rfl, hb2⟩
      have b1_2 := b1_1.on hb2
      have b2_2 := b2_1.on hb2
      have b3_2 := b3_1.on hb2
      have kk_2 := kk_1.trans (hb2.mono kk_1.size)
      have S2 : (fun W => Kept (fun g => g = p3) wd W) w2 := Kept.next S1 (kept_below (fun _ => False) hb2) (fun _ h => h.elim)
      refine hK.out _ _ S2 (fun h2 => ?_)
      clear h1 hK K
      try simp only [Act.put, List.setIfInBounds_toArray, List.set_cons_zero, List.set_cons_succ]
      refine wpAnyH_ready (rs := [6]) (by kernel_rfl) (by simp) ?_
      refine AllReadyH.cons (o := ⟨some 27, _, _, _, _, _⟩) rfl (fun K hK => ?_) AllReadyH.nil
      go_simp
      refine (add_any m.n 1 w2).mono ?_
      rintro e w3 ⟨rfl, ew3⟩
      have hb3 : Below w2.heap.size w2 w3 := by rw [← ew3]; exact Below.refl _ _
      have b1_3 := b1_2.on hb3
      have b2_3 := b2_2.on hb3
      have b3_3 := b3_2.on hb3
      have kk_3 := kk_2.trans (hb3.mono kk_2.size)
      have S3 : (fun W => Kept (fun g => g = p3) wd W) w3 := Kept.next S2 (kept_below (fun _ => False) hb3) (fun _ h => h.elim)
      refine hK.out _ _ S3 (fun h3 => ?_)
      clear h2 hK K
      try simp only [Act.put, List.setIfInBounds_toArray, List.set_cons_zero, List.set_cons_succ]
      refine wpAnyH_ready (rs := [7]) (by kernel_rfl) (by simp) ?_
      refine AllReadyH.cons (o := ⟨some 28, _, _, _, _, _⟩) rfl (fun K hK => ?_) AllReadyH.nil
      go_simp
      refine (plain_any (wrap64 (m.n + 1)) w3).mono ?_
      rintro e w4 ⟨rfl, hb4⟩
      have b1_4 := b1_3.on hb4
      have b2_4 := b2_3.on hb4
      have b3_4 := b3_3.on hb4
      have kk_4 := kk_3.trans (hb4.mono kk_3.size)
      have S4 : (fun W => Kept (fun g => g = p3) wd W) w4 := Kept.next S3 (kept_below (fun _ => False) hb4) (fun _ h => h.elim)
      refine hK.out _ _ S4 (fun h4 => ?_)
      clear h3 hK K
      try simp only [Act.put, List.setIfInBounds_toArray, List.set_cons_zero, List.set_cons_succ]
      refine wpAnyH_ready (rs := [8]) (by kernel_rfl) (by simp) ?_
      refine AllReadyH.cons (o := ⟨some 29, _, _, _, _, _⟩) rfl (fun K hK => ?_) AllReadyH.nil
      go_simp
      refine (swap_any ⟨6, 0, 0⟩ ⟨m.n, 0, 0⟩ ⟨wrap64 (m.n + 1), 0, 0⟩ w4).mono ?_
      rintro e w5 ⟨rfl, hb5⟩
      have b1_5 := b1_4.on hb5
      have b2_5 := b2_4.on hb5
      have b3_5 := b3_4.on hb5
      have kk_5 := kk_4.trans (hb5.mono kk_4.size)
      have S5 : (fun W => Kept (fun g => g = p3) wd W) w5 := Kept.next S4 (kept_below (fun _ => False) hb5) (fun _ h => h.elim)
      refine hK.out _ _ S5 (fun h5 => ?_)
      clear h4 hK K
      try simp only [Act.put, List.setIfInBounds_toArray, List.set_cons_zero, List.set_cons_succ]
      refine wpAnyH_ready (rs := [9]) (by kernel_rfl) (by simp) ?_
      refine AllReadyH.cons (o := ⟨none, _, _, _, _, _⟩) rfl (fun K hK => ?_) AllReadyH.nil
      rw [if_pos (by rfl)]
      refine wp_store_row 27 (.tmp 6) (.tmp 29) rfl p3 (⟨4, ⟨6, 0, 0⟩, noW, ⟨m.n, 0, 0⟩, ⟨wrap64 (m.n + 1), 0, 0⟩, 0⟩ : Ac).cs.toArray rfl rfl 27 #[.int .i64 0, .int .i64 0, .int .i64 0, .int .i64 0, .int .i64 0, .int .i64 0, .int .i64 0, .int .i64 0, .int .i64 0, .int .i64 0, .int .i64 0, .int .i64 0, .int .i64 0, .int .i64 0] b3_5 size27 rfl (Ac.onea _) ?_
      refine hK.out _ _ (Kept.next S5 (kept_row _ p3 _) (fun g h => .inl h)) (fun h6 => ?_)
      clear h5 hK K
      have S6 : Kept (fun g => g = p3) wd (w5.setRow p3 (⟨4, ⟨6, 0, 0⟩, noW, ⟨m.n, 0, 0⟩, ⟨wrap64 (m.n + 1), 0, 0⟩, 0⟩ : Ac).cs.toArray) := Kept.next S5 (kept_row _ p3 _) (fun g h => .inl h)
      have b3_6 : Blk (w5.setRow p3 (⟨4, ⟨6, 0, 0⟩, noW, ⟨m.n, 0, 0⟩, ⟨wrap64 (m.n + 1), 0, 0⟩, 0⟩ : Ac).cs.toArray) p3 27 (⟨4, ⟨6, 0, 0⟩, noW, ⟨m.n, 0, 0⟩, ⟨wrap64 (m.n + 1), 0, 0⟩, 0⟩ : Ac).cs.toArray := row_named b3_5 rfl
      have kk_6 := kk_5.trans (row_below (W := (w5.setRow p3 (⟨4, ⟨6, 0, 0⟩, noW, ⟨m.n, 0, 0⟩, ⟨wrap64 (m.n + 1), 0, 0⟩, 0⟩ : Ac).cs.toArray)) rfl hp3 kk_5.size)
      try simp only [Act.put]
      refine wpAnyH_done (by kernel_rfl) ?_ _
      refine NoPanic.normal ?_
      go_wp2_with fail
      refine bodyPost_ret (results_cell_row (cs := (⟨4, ⟨6, 0, 0⟩, noW, ⟨m.n, 0, 0⟩, ⟨wrap64 (m.n + 1), 0, 0⟩, 0⟩ : Ac).cs.toArray) rfl _ _ p3 27 (0, 0) _ rfl b3_6 Tryd.underlying27 rfl size27) rfl ?_
      exact ⟨rfl, kk_6⟩
    · by_cases c3 : m.k = 3
      · unfold micA
        rw [if_neg c1]
        have t1 : (m.k == 1) = false := by simpa using c1
        rw [if_neg c6]
        have t6 : (m.k == 6) = false := by simpa using c6
        rw [if_pos c3]
        have t3 : (m.k == 3) = true := by simpa using c3
        clear c1 c6 c3
        have c3_2_0 : W3.cell? ⟨p2, 0, none⟩ = some (.int .i64 m.k) := b2.cell 0
        have h13 : p1 ≠ p3 := by omega
        have h23 : p2 ≠ p3 := by omega
        go_enter Tryd.func16, Tryd.ntmps16
        obtain ⟨W4, es4⟩ : ∃ W, W3.setRow p3 (⟨10, noP, noW, noW, noW, 0⟩ : Ac).cs.toArray = W := ⟨_, rfl⟩
        have bo3 := b3
        replace b1 := row_far b1 es4 (by omega)
        replace b2 := row_far b2 es4 (by omega)
        replace b3 : Blk W4 p3 27 (⟨10, noP, noW, noW, noW, 0⟩ : Ac).cs.toArray := row_named b3 es4
        replace kk := kk.trans (row_below es4 hp3 kk.size)
        go_wp2_with (((with_reducible refine at_store 27 (.tmp 6) (.tmp 32) ?_); refine wpList_store_row rfl 27 (.tmp 6) (.tmp 32) rfl p3 (⟨10, noP, noW, noW, noW, 0⟩ : Ac).cs.toArray rfl rfl 27 #[.int .i64 0, .int .i64 0, .int .i64 0, .int .i64 0, .int .i64 0, .int .i64 0, .int .i64 0, .int .i64 0, .int .i64 0, .int .i64 0, .int .i64 0, .int .i64 0, .int .i64 0, .int .i64 0] bo3 size27 rfl (Ac.onea _) ?_; rw [es4]))
        refine bodyPost_ret (results_cell_row (cs := (⟨10, noP, noW, noW, noW, 0⟩ : Ac).cs.toArray) rfl _ _ p3 27 (0, 0) _ rfl b3 Tryd.underlying27 rfl size27) rfl ?_
        exact ⟨rfl, kk⟩
      · unfold micA
        rw [if_neg c1]
        have t1 : (m.k == 1) = false := by simpa using c1
        rw [if_neg c6]
        have t6 : (m.k == 6) = false := by simpa using c6
        rw [if_neg c3]
        have t3 : (m.k == 3) = false := by simpa using c3
        have d1 := fun W => scan_any p hp m c6 W
        clear c1 c6 c3
        have c3_2_0 : W3.cell? ⟨p2, 0, none⟩ = some (.int .i64 m.k) := b2.cell 0
        have h13 : p1 ≠ p3 := by omega
        have h23 : p2 ≠ p3 := by omega
        go_enter Tryd.func16, Tryd.ntmps16
        go_wp2_with (first | ((with_reducible refine at_load 39 (.tmp 3) ?_); refine wpList_load_row rfl 39 (.tmp 3) rfl p1 rfl 39 p.cs.toArray (0, 0) _ b1 Tryd.underlying39 rfl size39 ?_) | ((with_reducible refine at_load 43 (.tmp 5) ?_); refine wpList_load_row rfl 43 (.tmp 5) rfl p2 rfl 43 m.cs.toArray (0, 0) _ b2 Tryd.underlying43 rfl size43 ?_))
        refine (d1 _).mono ?_
        rintro e W4 ⟨rfl, k1⟩
        clear c3_2_0
        replace b1 := b1.on k1
        replace b2 := b2.on k1
        replace b3 := b3.on k1
        replace kk := kk.trans (k1.mono kk.size)
        clear k1
        obtain ⟨W5, es5⟩ : ∃ W, W4.setRow p3 (scnA p m).cs.toArray = W := ⟨_, rfl⟩
        have bo3 := b3
        replace b1 := row_far b1 es5 (by omega)
        replace b2 := row_far b2 es5 (by omega)
        replace b3 : Blk W5 p3 27 (scnA p m).cs.toArray := row_named b3 es5
        replace kk := kk.trans (row_below es5 hp3 kk.size)
        go_wp2_with (((with_reducible refine at_store 27 (.tmp 6) (.tmp 35) ?_); refine wpList_store_row rfl 27 (.tmp 6) (.tmp 35) rfl p3 (scnA p m).cs.toArray rfl rfl 27 #[.int .i64 0, .int .i64 0, .int .i64 0, .int .i64 0, .int .i64 0, .int .i64 0, .int .i64 0, .int .i64 0, .int .i64 0, .int .i64 0, .int .i64 0, .int .i64 0, .int .i64 0, .int .i64 0] bo3 size27 rfl (Ac.onea _) ?_; rw [es5]))
        refine bodyPost_ret (results_cell_row (cs := (scnA p m).cs.toArray) rfl _ _ p3 27 (0, 0) _ rfl b3 Tryd.underlying27 rfl size27) rfl ?_
        exact ⟨rfl, kk⟩
end Go.Proofs.YtfadfdfpocpelaaDoor
