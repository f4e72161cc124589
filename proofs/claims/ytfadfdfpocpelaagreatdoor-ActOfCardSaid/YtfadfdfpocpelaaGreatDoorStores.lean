/- The plain act of an instruction that stores. Conditions: none. -/
import Derived.Test.YtfadfdfpocpelaaGreatDoorInstr
namespace Go.Proofs.YtfadfdfpocpelaaGreatDoor
set_option linter.unusedSimpArgs false
set_option linter.unusedVariables false
open Go.RowKit Go.ChangeShapes Go.WideShapes

set_option maxRecDepth 100000 in
set_option maxHeartbeats 4000000 in
theorem rthrough_any (x : Wd) (f : Int) (w : World) : Calls Tryz.prog 28 #[.agg x.cs.toArray, .int .i64 f] w fun e w' => e = .returned (.agg (thrP x f).cs.toArray) ∧ Below w.heap.size w w' := by
  obtain ⟨p1, f1⟩ : ∃ p, w.heap.size = p := ⟨_, rfl⟩
  obtain ⟨W1, ea1⟩ : ∃ W, w.alloc (.cells x.cs.toArray 26) = W := ⟨_, rfl⟩
  have ka1 : Below w.heap.size w W1 := by rw [← ea1]; exact (Below.refl _ w).alloc (Nat.le_refl _) _
  have b1 : Blk W1 p1 26 x.cs.toArray := by rw [← ea1]; exact blk_new w _ 26 _ f1
  have kk : Below w.heap.size w W1 := ka1
  have hp1 : w.heap.size ≤ p1 := Nat.le_of_eq f1
  clear ka1
  obtain ⟨p2, f2⟩ : ∃ p, W1.heap.size = p := ⟨_, rfl⟩
  obtain ⟨W2, ea2⟩ : ∃ W, W1.alloc (.cells #[.int .i64 0, .int .i64 0, .int .i64 0] 38) = W := ⟨_, rfl⟩
  have ka2 : Below W1.heap.size W1 W2 := by rw [← ea2]; exact (Below.refl _ W1).alloc (Nat.le_refl _) _
  have b2 : Blk W2 p2 38 #[.int .i64 0, .int .i64 0, .int .i64 0] := by rw [← ea2]; exact blk_new W1 _ 38 _ f2
  have q1_2 : p1 < p2 := by rw [← f2]; exact b1.lt
  replace b1 := b1.on ka2
  have kk0 := kk
  replace kk := kk.trans (ka2.mono kk.size)
  have hp2 : w.heap.size ≤ p2 := by rw [← f2]; exact kk0.size
  clear ka2 kk0
  by_cases c0 : 1 ≤ x.c
  · unfold thrP
    rw [if_pos c0]
    have t0 : decide (x.c < 1) = false := decide_eq_false (by omega)
    clear c0
    have c2_1_1 : W2.cell? ⟨p1, 1, none⟩ = some (.int .i64 x.c) := b1.cell 1
    go_enter Tryz.func28, Tryz.ntmps28
    obtain ⟨W3, es3⟩ : ∃ W, W2.setRow p2 #[.int .i64 3, .int .i64 x.c, .int .i64 f] = W := ⟨_, rfl⟩
    have bo2 := b2
    replace b1 := row_far b1 es3 (by omega)
    replace b2 : Blk W3 p2 38 #[.int .i64 3, .int .i64 x.c, .int .i64 f] := row_named b2 es3
    replace kk := kk.trans (row_below es3 hp2 kk.size)
    go_wp2_with (((with_reducible refine at_store 38 (.tmp 4) (.tmp 12) ?_); refine wpList_store_row rfl 38 (.tmp 4) (.tmp 12) rfl p2 #[.int .i64 3, .int .i64 x.c, .int .i64 f] rfl rfl 38 #[.int .i64 0, .int .i64 0, .int .i64 0] bo2 size38 rfl (by simp [Value.oneCell']) ?_; rw [es3]))
    refine bodyPost_ret (results_cell_row (cs := #[.int .i64 3, .int .i64 x.c, .int .i64 f]) rfl _ _ p2 38 (0, 0) _ rfl b2 Tryz.underlying38 rfl size38) rfl ?_
    first | exact ⟨rfl, kk⟩ | (rw [f1] at kk; exact ⟨rfl, kk⟩)
  · unfold thrP
    rw [if_neg c0]
    have t0 : decide (x.c < 1) = true := decide_eq_true (by omega)
    clear c0
    have c2_1_1 : W2.cell? ⟨p1, 1, none⟩ = some (.int .i64 x.c) := b1.cell 1
    go_enter Tryz.func28, Tryz.ntmps28
    obtain ⟨W3, es3⟩ : ∃ W, W2.setRow p2 noP.cs.toArray = W := ⟨_, rfl⟩
    have bo2 := b2
    replace b1 := row_far b1 es3 (by omega)
    replace b2 : Blk W3 p2 38 noP.cs.toArray := row_named b2 es3
    replace kk := kk.trans (row_below es3 hp2 kk.size)
    go_wp2_with (((with_reducible refine at_store 38 (.tmp 4) (.tmp 8) ?_); refine wpList_store_row rfl 38 (.tmp 4) (.tmp 8) rfl p2 noP.cs.toArray rfl rfl 38 #[.int .i64 0, .int .i64 0, .int .i64 0] bo2 size38 rfl (Pl.onea _) ?_; rw [es3]))
    refine bodyPost_ret (results_cell_row (cs := noP.cs.toArray) rfl _ _ p2 38 (0, 0) _ rfl b2 Tryz.underlying38 rfl size38) rfl ?_
    first | exact ⟨rfl, kk⟩ | (rw [f1] at kk; exact ⟨rfl, kk⟩)
/-- The plain act of an instruction that stores; of others none. -/
def stoA (t : Int) (i : Ins) (a b : Wd) (own : Int) : Ac :=
  if i.op = 12 then ⟨3, ⟨1, i.a, 0⟩, noW, noW, b, 0⟩ else if i.op = 15 then ⟨3, thrP a i.n, a, noW, b, a.g⟩ else if i.op = 21 then ⟨3, ⟨5, t, i.n⟩, noW, noW, a, 0⟩
  else if i.op = 22 then ⟨3, ⟨5, t, i.n⟩, noW, noW, noW, 0⟩ else if i.op = 24 then ⟨3, ⟨7, t, 0⟩, noW, noW, noW, 0⟩ else if i.op = 25 then ⟨3, ⟨8, t, 0⟩, noW, noW, ⟨wrap64 (own + 1), 0, 0⟩, 0⟩ else noA
set_option maxRecDepth 100000 in
set_option maxHeartbeats 4000000 in
theorem sto_12 (t : Int) (i : Ins) (a b : Wd) (own : Int) (hop : i.op = 12) (w : World) : Calls Tryz.prog 30 #[.int .i64 t, .agg i.cs.toArray, .agg a.cs.toArray, .agg b.cs.toArray, .int .i64 own] w fun e w' => e = .returned (.agg (stoA t i a b own).cs.toArray) ∧ Below w.heap.size w w' := by
  have eA : stoA t i a b own = ⟨3, ⟨1, i.a, 0⟩, noW, noW, b, 0⟩ := by unfold stoA; simp [hop]
  have t12 : (i.op == 12) = true := by rw [hop]; rfl
  rw [eA]
  clear eA hop
  obtain ⟨p1, f1⟩ : ∃ p, w.heap.size = p := ⟨_, rfl⟩
  obtain ⟨W1, ea1⟩ : ∃ W, w.alloc (.cells i.cs.toArray 49) = W := ⟨_, rfl⟩
  have ka1 : Below w.heap.size w W1 := by rw [← ea1]; exact (Below.refl _ w).alloc (Nat.le_refl _) _
  have b1 : Blk W1 p1 49 i.cs.toArray := by rw [← ea1]; exact blk_new w _ 49 _ f1
  have kk : Below w.heap.size w W1 := ka1
  have hp1 : w.heap.size ≤ p1 := Nat.le_of_eq f1
  clear ka1
  obtain ⟨p2, f2⟩ : ∃ p, W1.heap.size = p := ⟨_, rfl⟩
  obtain ⟨W2, ea2⟩ : ∃ W, W1.alloc (.cells a.cs.toArray 26) = W := ⟨_, rfl⟩
  have ka2 : Below W1.heap.size W1 W2 := by rw [← ea2]; exact (Below.refl _ W1).alloc (Nat.le_refl _) _
  have b2 : Blk W2 p2 26 a.cs.toArray := by rw [← ea2]; exact blk_new W1 _ 26 _ f2
  have q1_2 : p1 < p2 := by rw [← f2]; exact b1.lt
  replace b1 := b1.on ka2
  have kk0 := kk
  replace kk := kk.trans (ka2.mono kk.size)
  have hp2 : w.heap.size ≤ p2 := by rw [← f2]; exact kk0.size
  clear ka2 kk0
  obtain ⟨p3, f3⟩ : ∃ p, W2.heap.size = p := ⟨_, rfl⟩
  obtain ⟨W3, ea3⟩ : ∃ W, W2.alloc (.cells b.cs.toArray 26) = W := ⟨_, rfl⟩
  have ka3 : Below W2.heap.size W2 W3 := by rw [← ea3]; exact (Below.refl _ W2).alloc (Nat.le_refl _) _
  have b3 : Blk W3 p3 26 b.cs.toArray := by rw [← ea3]; exact blk_new W2 _ 26 _ f3
  have q1_3 : p1 < p3 := by rw [← f3]; exact b1.lt
  replace b1 := b1.on ka3
  have q2_3 : p2 < p3 := by rw [← f3]; exact b2.lt
  replace b2 := b2.on ka3
  have kk0 := kk
  replace kk := kk.trans (ka3.mono kk.size)
  have hp3 : w.heap.size ≤ p3 := by rw [← f3]; exact kk0.size
  clear ka3 kk0
  obtain ⟨p4, f4⟩ : ∃ p, W3.heap.size = p := ⟨_, rfl⟩
  obtain ⟨W4, ea4⟩ : ∃ W, W3.alloc (.cells #[.int .i64 0, .int .i64 0, .int .i64 0, .int .i64 0, .int .i64 0, .int .i64 0, .int .i64 0, .int .i64 0, .int .i64 0, .int .i64 0, .int .i64 0, .int .i64 0, .int .i64 0, .int .i64 0] 40) = W := ⟨_, rfl⟩
  have ka4 : Below W3.heap.size W3 W4 := by rw [← ea4]; exact (Below.refl _ W3).alloc (Nat.le_refl _) _
  have b4 : Blk W4 p4 40 #[.int .i64 0, .int .i64 0, .int .i64 0, .int .i64 0, .int .i64 0, .int .i64 0, .int .i64 0, .int .i64 0, .int .i64 0, .int .i64 0, .int .i64 0, .int .i64 0, .int .i64 0, .int .i64 0] := by rw [← ea4]; exact blk_new W3 _ 40 _ f4
  have q1_4 : p1 < p4 := by rw [← f4]; exact b1.lt
  replace b1 := b1.on ka4
  have q2_4 : p2 < p4 := by rw [← f4]; exact b2.lt
  replace b2 := b2.on ka4
  have q3_4 : p3 < p4 := by rw [← f4]; exact b3.lt
  replace b3 := b3.on ka4
  have kk0 := kk
  replace kk := kk.trans (ka4.mono kk.size)
  have hp4 : w.heap.size ≤ p4 := by rw [← f4]; exact kk0.size
  clear ka4 kk0
  obtain ⟨p5, f5⟩ : ∃ p, W4.heap.size = p := ⟨_, rfl⟩
  obtain ⟨W5, ea5⟩ : ∃ W, W4.alloc (.cells #[.int .i64 0, .int .i64 0, .int .i64 0, .int .i64 0, .int .i64 0, .int .i64 0, .int .i64 0, .int .i64 0, .int .i64 0, .int .i64 0, .int .i64 0, .int .i64 0, .int .i64 0, .int .i64 0] 40) = W := ⟨_, rfl⟩
  have ka5 : Below W4.heap.size W4 W5 := by rw [← ea5]; exact (Below.refl _ W4).alloc (Nat.le_refl _) _
  have b5 : Blk W5 p5 40 #[.int .i64 0, .int .i64 0, .int .i64 0, .int .i64 0, .int .i64 0, .int .i64 0, .int .i64 0, .int .i64 0, .int .i64 0, .int .i64 0, .int .i64 0, .int .i64 0, .int .i64 0, .int .i64 0] := by rw [← ea5]; exact blk_new W4 _ 40 _ f5
  have q1_5 : p1 < p5 := by rw [← f5]; exact b1.lt
  replace b1 := b1.on ka5
  have q2_5 : p2 < p5 := by rw [← f5]; exact b2.lt
  replace b2 := b2.on ka5
  have q3_5 : p3 < p5 := by rw [← f5]; exact b3.lt
  replace b3 := b3.on ka5
  have q4_5 : p4 < p5 := by rw [← f5]; exact b4.lt
  replace b4 := b4.on ka5
  have kk0 := kk
  replace kk := kk.trans (ka5.mono kk.size)
  have hp5 : w.heap.size ≤ p5 := by rw [← f5]; exact kk0.size
  clear ka5 kk0
  obtain ⟨W6, es6⟩ : ∃ W, W5.setRow p5 (⟨3, noP, noW, noW, noW, 0⟩ : Ac).cs.toArray = W := ⟨_, rfl⟩
  have bo5 := b5
  replace b1 := row_far b1 es6 (by omega)
  replace b2 := row_far b2 es6 (by omega)
  replace b3 := row_far b3 es6 (by omega)
  replace b4 := row_far b4 es6 (by omega)
  replace b5 : Blk W6 p5 40 (⟨3, noP, noW, noW, noW, 0⟩ : Ac).cs.toArray := row_named b5 es6
  replace kk := kk.trans (row_below es6 hp5 kk.size)
  have bz5 := bo5
  have c6_1_0 : W6.cell? ⟨p1, 0, none⟩ = some (.int .i64 i.op) := b1.cell 0
  have c6_1_1 : W6.cell? ⟨p1, 1, none⟩ = some (.int .i64 i.a) := b1.cell 1
  obtain ⟨W7, es7⟩ : ∃ W, W6.setCells p5 1 (Pl.mk 1 i.a 0).cs.toArray.toList = W := ⟨_, rfl⟩
  have bm5 := b5
  replace b1 := mid_far b1 es7 (by omega)
  replace b2 := mid_far b2 es7 (by omega)
  replace b3 := mid_far b3 es7 (by omega)
  replace b4 := mid_far b4 es7 (by omega)
  replace b5 : Blk W7 p5 40 (⟨3, ⟨1, i.a, 0⟩, noW, noW, noW, 0⟩ : Ac).cs.toArray := mid_named b5 es7 rfl
  replace kk := kk.trans (mid_below es7 hp5 kk.size)
  have bx7 := bm5
  have bl7_3 := b3
  obtain ⟨W8, es8⟩ : ∃ W, W7.setCells p5 10 b.cs.toArray.toList = W := ⟨_, rfl⟩
  have bm5 := b5
  replace b1 := mid_far b1 es8 (by omega)
  replace b2 := mid_far b2 es8 (by omega)
  replace b3 := mid_far b3 es8 (by omega)
  replace b4 := mid_far b4 es8 (by omega)
  replace b5 : Blk W8 p5 40 (⟨3, ⟨1, i.a, 0⟩, noW, noW, b, 0⟩ : Ac).cs.toArray := mid_named b5 es8 rfl
  replace kk := kk.trans (mid_below es8 hp5 kk.size)
  have bx8 := bm5
  have bl8_5 := b5
  obtain ⟨W9, es9⟩ : ∃ W, W8.setRow p4 (⟨3, ⟨1, i.a, 0⟩, noW, noW, b, 0⟩ : Ac).cs.toArray = W := ⟨_, rfl⟩
  have bo4 := b4
  replace b1 := row_far b1 es9 (by omega)
  replace b2 := row_far b2 es9 (by omega)
  replace b3 := row_far b3 es9 (by omega)
  replace b5 := row_far b5 es9 (by omega)
  replace b4 : Blk W9 p4 40 (⟨3, ⟨1, i.a, 0⟩, noW, noW, b, 0⟩ : Ac).cs.toArray := row_named b4 es9
  replace kk := kk.trans (row_below es9 hp4 kk.size)
  go_enter Tryz.func30, Tryz.ntmps30
  go_wp2_with (first | ((with_reducible refine at_store 40 (.tmp 11) (.tmp 12) ?_); refine wpList_store_row rfl 40 (.tmp 11) (.tmp 12) rfl p5 (⟨3, noP, noW, noW, noW, 0⟩ : Ac).cs.toArray rfl rfl 40 #[.int .i64 0, .int .i64 0, .int .i64 0, .int .i64 0, .int .i64 0, .int .i64 0, .int .i64 0, .int .i64 0, .int .i64 0, .int .i64 0, .int .i64 0, .int .i64 0, .int .i64 0, .int .i64 0] bz5 size40 rfl (Ac.onea _) ?_; rw [es6]) | ((with_reducible refine at_store 38 (.tmp 21) (.tmp 20) ?_); refine wpList_store_mid rfl 38 (.tmp 21) (.tmp 20) rfl p5 1 (Pl.mk 1 i.a 0).cs.toArray rfl rfl (there_blk bx7 1 _ (Nat.le_of_ble_eq_true rfl)) size38 (Pl.onea _) ?_; rw [es7]) | ((with_reducible refine at_load 26 (.tmp 8) ?_); refine wpList_load_row rfl 26 (.tmp 8) rfl p3 rfl 26 b.cs.toArray (0, 0) _ bl7_3 Tryz.underlying26 rfl size26 ?_) | ((with_reducible refine at_store 26 (.tmp 23) (.tmp 22) ?_); refine wpList_store_mid rfl 26 (.tmp 23) (.tmp 22) rfl p5 10 b.cs.toArray rfl rfl (there_blk bx8 10 _ (Nat.le_of_ble_eq_true rfl)) size26 (Wd.onea _) ?_; rw [es8]) | ((with_reducible refine at_load 40 (.tmp 11) ?_); refine wpList_load_row rfl 40 (.tmp 11) rfl p5 rfl 40 (⟨3, ⟨1, i.a, 0⟩, noW, noW, b, 0⟩ : Ac).cs.toArray (0, 0) _ bl8_5 Tryz.underlying40 rfl size40 ?_) | ((with_reducible refine at_store 40 (.tmp 10) (.tmp 68) ?_); refine wpList_store_row rfl 40 (.tmp 10) (.tmp 68) rfl p4 (⟨3, ⟨1, i.a, 0⟩, noW, noW, b, 0⟩ : Ac).cs.toArray rfl rfl 40 #[.int .i64 0, .int .i64 0, .int .i64 0, .int .i64 0, .int .i64 0, .int .i64 0, .int .i64 0, .int .i64 0, .int .i64 0, .int .i64 0, .int .i64 0, .int .i64 0, .int .i64 0, .int .i64 0] bo4 size40 rfl (Ac.onea _) ?_; rw [es9]))
  refine bodyPost_ret (results_cell_row (cs := (⟨3, ⟨1, i.a, 0⟩, noW, noW, b, 0⟩ : Ac).cs.toArray) rfl _ _ p4 40 (0, 0) _ rfl b4 Tryz.underlying40 rfl size40) rfl ?_
  first | exact ⟨rfl, kk⟩ | (rw [f1] at kk; exact ⟨rfl, kk⟩)
set_option maxRecDepth 100000 in
set_option maxHeartbeats 4000000 in
theorem sto_15 (t : Int) (i : Ins) (a b : Wd) (own : Int) (hop : i.op = 15) (w : World) : Calls Tryz.prog 30 #[.int .i64 t, .agg i.cs.toArray, .agg a.cs.toArray, .agg b.cs.toArray, .int .i64 own] w fun e w' => e = .returned (.agg (stoA t i a b own).cs.toArray) ∧ Below w.heap.size w w' := by
  have eA : stoA t i a b own = ⟨3, thrP a i.n, a, noW, b, a.g⟩ := by unfold stoA; simp [hop]
  have t12 : (i.op == 12) = false := by rw [hop]; rfl
  have t15 : (i.op == 15) = true := by rw [hop]; rfl
  rw [eA]
  clear eA hop
  obtain ⟨p1, f1⟩ : ∃ p, w.heap.size = p := ⟨_, rfl⟩
  obtain ⟨W1, ea1⟩ : ∃ W, w.alloc (.cells i.cs.toArray 49) = W := ⟨_, rfl⟩
  have ka1 : Below w.heap.size w W1 := by rw [← ea1]; exact (Below.refl _ w).alloc (Nat.le_refl _) _
  have b1 : Blk W1 p1 49 i.cs.toArray := by rw [← ea1]; exact blk_new w _ 49 _ f1
  have kk : Below w.heap.size w W1 := ka1
  have hp1 : w.heap.size ≤ p1 := Nat.le_of_eq f1
  clear ka1
  obtain ⟨p2, f2⟩ : ∃ p, W1.heap.size = p := ⟨_, rfl⟩
  obtain ⟨W2, ea2⟩ : ∃ W, W1.alloc (.cells a.cs.toArray 26) = W := ⟨_, rfl⟩
  have ka2 : Below W1.heap.size W1 W2 := by rw [← ea2]; exact (Below.refl _ W1).alloc (Nat.le_refl _) _
  have b2 : Blk W2 p2 26 a.cs.toArray := by rw [← ea2]; exact blk_new W1 _ 26 _ f2
  have q1_2 : p1 < p2 := by rw [← f2]; exact b1.lt
  replace b1 := b1.on ka2
  have kk0 := kk
  replace kk := kk.trans (ka2.mono kk.size)
  have hp2 : w.heap.size ≤ p2 := by rw [← f2]; exact kk0.size
  clear ka2 kk0
  obtain ⟨p3, f3⟩ : ∃ p, W2.heap.size = p := ⟨_, rfl⟩
  obtain ⟨W3, ea3⟩ : ∃ W, W2.alloc (.cells b.cs.toArray 26) = W := ⟨_, rfl⟩
  have ka3 : Below W2.heap.size W2 W3 := by rw [← ea3]; exact (Below.refl _ W2).alloc (Nat.le_refl _) _
  have b3 : Blk W3 p3 26 b.cs.toArray := by rw [← ea3]; exact blk_new W2 _ 26 _ f3
  have q1_3 : p1 < p3 := by rw [← f3]; exact b1.lt
  replace b1 := b1.on ka3
  have q2_3 : p2 < p3 := by rw [← f3]; exact b2.lt
  replace b2 := b2.on ka3
  have kk0 := kk
  replace kk := kk.trans (ka3.mono kk.size)
  have hp3 : w.heap.size ≤ p3 := by rw [← f3]; exact kk0.size
  clear ka3 kk0
  obtain ⟨p4, f4⟩ : ∃ p, W3.heap.size = p := ⟨_, rfl⟩
  obtain ⟨W4, ea4⟩ : ∃ W, W3.alloc (.cells #[.int .i64 0, .int .i64 0, .int .i64 0, .int .i64 0, .int .i64 0, .int .i64 0, .int .i64 0, .int .i64 0, .int .i64 0, .int .i64 0, .int .i64 0, .int .i64 0, .int .i64 0, .int .i64 0] 40) = W := ⟨_, rfl⟩
  have ka4 : Below W3.heap.size W3 W4 := by rw [← ea4]; exact (Below.refl _ W3).alloc (Nat.le_refl _) _
  have b4 : Blk W4 p4 40 #[.int .i64 0, .int .i64 0, .int .i64 0, .int .i64 0, .int .i64 0, .int .i64 0, .int .i64 0, .int .i64 0, .int .i64 0, .int .i64 0, .int .i64 0, .int .i64 0, .int .i64 0, .int .i64 0] := by rw [← ea4]; exact blk_new W3 _ 40 _ f4
  have q1_4 : p1 < p4 := by rw [← f4]; exact b1.lt
  replace b1 := b1.on ka4
  have q2_4 : p2 < p4 := by rw [← f4]; exact b2.lt
  replace b2 := b2.on ka4
  have q3_4 : p3 < p4 := by rw [← f4]; exact b3.lt
  replace b3 := b3.on ka4
  have kk0 := kk
  replace kk := kk.trans (ka4.mono kk.size)
  have hp4 : w.heap.size ≤ p4 := by rw [← f4]; exact kk0.size
  clear ka4 kk0
  obtain ⟨p5, f5⟩ : ∃ p, W4.heap.size = p := ⟨_, rfl⟩
  obtain ⟨W5, ea5⟩ : ∃ W, W4.alloc (.cells #[.int .i64 0, .int .i64 0, .int .i64 0, .int .i64 0, .int .i64 0, .int .i64 0, .int .i64 0, .int .i64 0, .int .i64 0, .int .i64 0, .int .i64 0, .int .i64 0, .int .i64 0, .int .i64 0] 40) = W := ⟨_, rfl⟩
  have ka5 : Below W4.heap.size W4 W5 := by rw [← ea5]; exact (Below.refl _ W4).alloc (Nat.le_refl _) _
  have b5 : Blk W5 p5 40 #[.int .i64 0, .int .i64 0, .int .i64 0, .int .i64 0, .int .i64 0, .int .i64 0, .int .i64 0, .int .i64 0, .int .i64 0, .int .i64 0, .int .i64 0, .int .i64 0, .int .i64 0, .int .i64 0] := by rw [← ea5]; exact blk_new W4 _ 40 _ f5
  have q1_5 : p1 < p5 := by rw [← f5]; exact b1.lt
  replace b1 := b1.on ka5
  have q2_5 : p2 < p5 := by rw [← f5]; exact b2.lt
  replace b2 := b2.on ka5
  have q3_5 : p3 < p5 := by rw [← f5]; exact b3.lt
  replace b3 := b3.on ka5
  have q4_5 : p4 < p5 := by rw [← f5]; exact b4.lt
  replace b4 := b4.on ka5
  have kk0 := kk
  replace kk := kk.trans (ka5.mono kk.size)
  have hp5 : w.heap.size ≤ p5 := by rw [← f5]; exact kk0.size
  clear ka5 kk0
  obtain ⟨W6, es6⟩ : ∃ W, W5.setRow p5 (⟨3, noP, noW, noW, noW, 0⟩ : Ac).cs.toArray = W := ⟨_, rfl⟩
  have bo5 := b5
  replace b1 := row_far b1 es6 (by omega)
  replace b2 := row_far b2 es6 (by omega)
  replace b3 := row_far b3 es6 (by omega)
  replace b4 := row_far b4 es6 (by omega)
  replace b5 : Blk W6 p5 40 (⟨3, noP, noW, noW, noW, 0⟩ : Ac).cs.toArray := row_named b5 es6
  replace kk := kk.trans (row_below es6 hp5 kk.size)
  have bz5 := bo5
  have c6_1_0 : W6.cell? ⟨p1, 0, none⟩ = some (.int .i64 i.op) := b1.cell 0
  go_enter Tryz.func30, Tryz.ntmps30
  have c6_1_4 : W6.cell? ⟨p1, 4, none⟩ = some (.int .i64 i.n) := b1.cell 4
  have bl6_2 := b2
  go_wp2_with (first | ((with_reducible refine at_store 40 (.tmp 11) (.tmp 12) ?_); refine wpList_store_row rfl 40 (.tmp 11) (.tmp 12) rfl p5 (⟨3, noP, noW, noW, noW, 0⟩ : Ac).cs.toArray rfl rfl 40 #[.int .i64 0, .int .i64 0, .int .i64 0, .int .i64 0, .int .i64 0, .int .i64 0, .int .i64 0, .int .i64 0, .int .i64 0, .int .i64 0, .int .i64 0, .int .i64 0, .int .i64 0, .int .i64 0] bz5 size40 rfl (Ac.onea _) ?_; rw [es6]) | ((with_reducible refine at_load 26 (.tmp 7) ?_); refine wpList_load_row rfl 26 (.tmp 7) rfl p2 rfl 26 a.cs.toArray (0, 0) _ bl6_2 Tryz.underlying26 rfl size26 ?_))
  refine (rthrough_any a i.n _).mono ?_
  rintro e W7 ⟨rfl, k1⟩
  clear c6_1_0 c6_1_4
  replace b1 := b1.on k1
  replace b2 := b2.on k1
  replace b3 := b3.on k1
  replace b4 := b4.on k1
  replace b5 := b5.on k1
  replace kk := kk.trans (k1.mono kk.size)
  clear k1
  obtain ⟨W8, es8⟩ : ∃ W, W7.setCells p5 1 (thrP a i.n).cs.toArray.toList = W := ⟨_, rfl⟩
  have bm5 := b5
  replace b1 := mid_far b1 es8 (by omega)
  replace b2 := mid_far b2 es8 (by omega)
  replace b3 := mid_far b3 es8 (by omega)
  replace b4 := mid_far b4 es8 (by omega)
  replace b5 : Blk W8 p5 40 (⟨3, (thrP a i.n), noW, noW, noW, 0⟩ : Ac).cs.toArray := mid_named b5 es8 rfl
  replace kk := kk.trans (mid_below es8 hp5 kk.size)
  have bx8 := bm5
  have bl8_2 := b2
  obtain ⟨W9, es9⟩ : ∃ W, W8.setCells p5 4 a.cs.toArray.toList = W := ⟨_, rfl⟩
  have bm5 := b5
  replace b1 := mid_far b1 es9 (by omega)
  replace b2 := mid_far b2 es9 (by omega)
  replace b3 := mid_far b3 es9 (by omega)
  replace b4 := mid_far b4 es9 (by omega)
  replace b5 : Blk W9 p5 40 (⟨3, (thrP a i.n), a, noW, noW, 0⟩ : Ac).cs.toArray := mid_named b5 es9 rfl
  replace kk := kk.trans (mid_below es9 hp5 kk.size)
  have bx9 := bm5
  have bl9_3 := b3
  obtain ⟨W10, es10⟩ : ∃ W, W9.setCells p5 10 b.cs.toArray.toList = W := ⟨_, rfl⟩
  have bm5 := b5
  replace b1 := mid_far b1 es10 (by omega)
  replace b2 := mid_far b2 es10 (by omega)
  replace b3 := mid_far b3 es10 (by omega)
  replace b4 := mid_far b4 es10 (by omega)
  replace b5 : Blk W10 p5 40 (⟨3, (thrP a i.n), a, noW, b, 0⟩ : Ac).cs.toArray := mid_named b5 es10 rfl
  replace kk := kk.trans (mid_below es10 hp5 kk.size)
  have bx10 := bm5
  have c10_2_2 : W10.cell? ⟨p2, 2, none⟩ = some (.int .i64 a.g) := b2.cell 2
  have c10_5_13 : W10.cell? ⟨p5, 13, none⟩ = some (.int .i64 0) := b5.cell 13
  have fr10_5_13 := b5.free 13
  obtain ⟨W11, es11⟩ : ∃ W, W10.setCell ⟨p5, 13, none⟩ (.int .i64 a.g) = W := ⟨_, rfl⟩
  replace b1 := set_far b1 es11 (by omega)
  replace b2 := set_far b2 es11 (by omega)
  replace b3 := set_far b3 es11 (by omega)
  replace b4 := set_far b4 es11 (by omega)
  replace b5 : Blk W11 p5 40 (⟨3, (thrP a i.n), a, noW, b, a.g⟩ : Ac).cs.toArray := set_named b5 es11 rfl
  replace kk := kk.trans (set_below es11 hp5 kk.size)
  have bl11_5 := b5
  obtain ⟨W12, es12⟩ : ∃ W, W11.setRow p4 (⟨3, (thrP a i.n), a, noW, b, a.g⟩ : Ac).cs.toArray = W := ⟨_, rfl⟩
  have bo4 := b4
  replace b1 := row_far b1 es12 (by omega)
  replace b2 := row_far b2 es12 (by omega)
  replace b3 := row_far b3 es12 (by omega)
  replace b5 := row_far b5 es12 (by omega)
  replace b4 : Blk W12 p4 40 (⟨3, (thrP a i.n), a, noW, b, a.g⟩ : Ac).cs.toArray := row_named b4 es12
  replace kk := kk.trans (row_below es12 hp4 kk.size)
  go_wp2_with (first | ((with_reducible refine at_store 38 (.tmp 30) (.tmp 29) ?_); refine wpList_store_mid rfl 38 (.tmp 30) (.tmp 29) rfl p5 1 (thrP a i.n).cs.toArray rfl rfl (there_blk bx8 1 _ (Nat.le_of_ble_eq_true rfl)) size38 (Pl.onea _) ?_; rw [es8]) | ((with_reducible refine at_load 26 (.tmp 7) ?_); refine wpList_load_row rfl 26 (.tmp 7) rfl p2 rfl 26 a.cs.toArray (0, 0) _ bl8_2 Tryz.underlying26 rfl size26 ?_) | ((with_reducible refine at_store 26 (.tmp 32) (.tmp 31) ?_); refine wpList_store_mid rfl 26 (.tmp 32) (.tmp 31) rfl p5 4 a.cs.toArray rfl rfl (there_blk bx9 4 _ (Nat.le_of_ble_eq_true rfl)) size26 (Wd.onea _) ?_; rw [es9]) | ((with_reducible refine at_load 26 (.tmp 8) ?_); refine wpList_load_row rfl 26 (.tmp 8) rfl p3 rfl 26 b.cs.toArray (0, 0) _ bl9_3 Tryz.underlying26 rfl size26 ?_) | ((with_reducible refine at_store 26 (.tmp 34) (.tmp 33) ?_); refine wpList_store_mid rfl 26 (.tmp 34) (.tmp 33) rfl p5 10 b.cs.toArray rfl rfl (there_blk bx10 10 _ (Nat.le_of_ble_eq_true rfl)) size26 (Wd.onea _) ?_; rw [es10]) | ((with_reducible refine at_load 40 (.tmp 11) ?_); refine wpList_load_row rfl 40 (.tmp 11) rfl p5 rfl 40 (⟨3, (thrP a i.n), a, noW, b, a.g⟩ : Ac).cs.toArray (0, 0) _ bl11_5 Tryz.underlying40 rfl size40 ?_) | ((with_reducible refine at_store 40 (.tmp 10) (.tmp 68) ?_); refine wpList_store_row rfl 40 (.tmp 10) (.tmp 68) rfl p4 (⟨3, (thrP a i.n), a, noW, b, a.g⟩ : Ac).cs.toArray rfl rfl 40 #[.int .i64 0, .int .i64 0, .int .i64 0, .int .i64 0, .int .i64 0, .int .i64 0, .int .i64 0, .int .i64 0, .int .i64 0, .int .i64 0, .int .i64 0, .int .i64 0, .int .i64 0, .int .i64 0] bo4 size40 rfl (Ac.onea _) ?_; rw [es12]))
  refine bodyPost_ret (results_cell_row (cs := (⟨3, (thrP a i.n), a, noW, b, a.g⟩ : Ac).cs.toArray) rfl _ _ p4 40 (0, 0) _ rfl b4 Tryz.underlying40 rfl size40) rfl ?_
  first | exact ⟨rfl, kk⟩ | (rw [f1] at kk; exact ⟨rfl, kk⟩)
set_option maxRecDepth 100000 in
set_option maxHeartbeats 4000000 in
theorem sto_21 (t : Int) (i : Ins) (a b : Wd) (own : Int) (hop : i.op = 21) (w : World) : Calls Tryz.prog 30 #[.int .i64 t, .agg i.cs.toArray, .agg a.cs.toArray, .agg b.cs.toArray, .int .i64 own] w fun e w' => e = .returned (.agg (stoA t i a b own).cs.toArray) ∧ Below w.heap.size w w' := by
  have eA : stoA t i a b own = ⟨3, ⟨5, t, i.n⟩, noW, noW, a, 0⟩ := by unfold stoA; simp [hop]
  have t12 : (i.op == 12) = false := by rw [hop]; rfl
  have t15 : (i.op == 15) = false := by rw [hop]; rfl
  have t21 : (i.op == 21) = true := by rw [hop]; rfl
  rw [eA]
  clear eA hop
  obtain ⟨p1, f1⟩ : ∃ p, w.heap.size = p := ⟨_, rfl⟩
  obtain ⟨W1, ea1⟩ : ∃ W, w.alloc (.cells i.cs.toArray 49) = W := ⟨_, rfl⟩
  have ka1 : Below w.heap.size w W1 := by rw [← ea1]; exact (Below.refl _ w).alloc (Nat.le_refl _) _
  have b1 : Blk W1 p1 49 i.cs.toArray := by rw [← ea1]; exact blk_new w _ 49 _ f1
  have kk : Below w.heap.size w W1 := ka1
  have hp1 : w.heap.size ≤ p1 := Nat.le_of_eq f1
  clear ka1
  obtain ⟨p2, f2⟩ : ∃ p, W1.heap.size = p := ⟨_, rfl⟩
  obtain ⟨W2, ea2⟩ : ∃ W, W1.alloc (.cells a.cs.toArray 26) = W := ⟨_, rfl⟩
  have ka2 : Below W1.heap.size W1 W2 := by rw [← ea2]; exact (Below.refl _ W1).alloc (Nat.le_refl _) _
  have b2 : Blk W2 p2 26 a.cs.toArray := by rw [← ea2]; exact blk_new W1 _ 26 _ f2
  have q1_2 : p1 < p2 := by rw [← f2]; exact b1.lt
  replace b1 := b1.on ka2
  have kk0 := kk
  replace kk := kk.trans (ka2.mono kk.size)
  have hp2 : w.heap.size ≤ p2 := by rw [← f2]; exact kk0.size
  clear ka2 kk0
  obtain ⟨p3, f3⟩ : ∃ p, W2.heap.size = p := ⟨_, rfl⟩
  obtain ⟨W3, ea3⟩ : ∃ W, W2.alloc (.cells b.cs.toArray 26) = W := ⟨_, rfl⟩
  have ka3 : Below W2.heap.size W2 W3 := by rw [← ea3]; exact (Below.refl _ W2).alloc (Nat.le_refl _) _
  have b3 : Blk W3 p3 26 b.cs.toArray := by rw [← ea3]; exact blk_new W2 _ 26 _ f3
  have q1_3 : p1 < p3 := by rw [← f3]; exact b1.lt
  replace b1 := b1.on ka3
  have q2_3 : p2 < p3 := by rw [← f3]; exact b2.lt
  replace b2 := b2.on ka3
  have kk0 := kk
  replace kk := kk.trans (ka3.mono kk.size)
  have hp3 : w.heap.size ≤ p3 := by rw [← f3]; exact kk0.size
  clear ka3 kk0
  obtain ⟨p4, f4⟩ : ∃ p, W3.heap.size = p := ⟨_, rfl⟩
  obtain ⟨W4, ea4⟩ : ∃ W, W3.alloc (.cells #[.int .i64 0, .int .i64 0, .int .i64 0, .int .i64 0, .int .i64 0, .int .i64 0, .int .i64 0, .int .i64 0, .int .i64 0, .int .i64 0, .int .i64 0, .int .i64 0, .int .i64 0, .int .i64 0] 40) = W := ⟨_, rfl⟩
  have ka4 : Below W3.heap.size W3 W4 := by rw [← ea4]; exact (Below.refl _ W3).alloc (Nat.le_refl _) _
  have b4 : Blk W4 p4 40 #[.int .i64 0, .int .i64 0, .int .i64 0, .int .i64 0, .int .i64 0, .int .i64 0, .int .i64 0, .int .i64 0, .int .i64 0, .int .i64 0, .int .i64 0, .int .i64 0, .int .i64 0, .int .i64 0] := by rw [← ea4]; exact blk_new W3 _ 40 _ f4
  have q1_4 : p1 < p4 := by rw [← f4]; exact b1.lt
  replace b1 := b1.on ka4
  have q2_4 : p2 < p4 := by rw [← f4]; exact b2.lt
  replace b2 := b2.on ka4
  have q3_4 : p3 < p4 := by rw [← f4]; exact b3.lt
  replace b3 := b3.on ka4
  have kk0 := kk
  replace kk := kk.trans (ka4.mono kk.size)
  have hp4 : w.heap.size ≤ p4 := by rw [← f4]; exact kk0.size
  clear ka4 kk0
  obtain ⟨p5, f5⟩ : ∃ p, W4.heap.size = p := ⟨_, rfl⟩
  obtain ⟨W5, ea5⟩ : ∃ W, W4.alloc (.cells #[.int .i64 0, .int .i64 0, .int .i64 0, .int .i64 0, .int .i64 0, .int .i64 0, .int .i64 0, .int .i64 0, .int .i64 0, .int .i64 0, .int .i64 0, .int .i64 0, .int .i64 0, .int .i64 0] 40) = W := ⟨_, rfl⟩
  have ka5 : Below W4.heap.size W4 W5 := by rw [← ea5]; exact (Below.refl _ W4).alloc (Nat.le_refl _) _
  have b5 : Blk W5 p5 40 #[.int .i64 0, .int .i64 0, .int .i64 0, .int .i64 0, .int .i64 0, .int .i64 0, .int .i64 0, .int .i64 0, .int .i64 0, .int .i64 0, .int .i64 0, .int .i64 0, .int .i64 0, .int .i64 0] := by rw [← ea5]; exact blk_new W4 _ 40 _ f5
  have q1_5 : p1 < p5 := by rw [← f5]; exact b1.lt
  replace b1 := b1.on ka5
  have q2_5 : p2 < p5 := by rw [← f5]; exact b2.lt
  replace b2 := b2.on ka5
  have q3_5 : p3 < p5 := by rw [← f5]; exact b3.lt
  replace b3 := b3.on ka5
  have q4_5 : p4 < p5 := by rw [← f5]; exact b4.lt
  replace b4 := b4.on ka5
  have kk0 := kk
  replace kk := kk.trans (ka5.mono kk.size)
  have hp5 : w.heap.size ≤ p5 := by rw [← f5]; exact kk0.size
  clear ka5 kk0
  obtain ⟨W6, es6⟩ : ∃ W, W5.setRow p5 (⟨3, noP, noW, noW, noW, 0⟩ : Ac).cs.toArray = W := ⟨_, rfl⟩
  have bo5 := b5
  replace b1 := row_far b1 es6 (by omega)
  replace b2 := row_far b2 es6 (by omega)
  replace b3 := row_far b3 es6 (by omega)
  replace b4 := row_far b4 es6 (by omega)
  replace b5 : Blk W6 p5 40 (⟨3, noP, noW, noW, noW, 0⟩ : Ac).cs.toArray := row_named b5 es6
  replace kk := kk.trans (row_below es6 hp5 kk.size)
  have bz5 := bo5
  have c6_1_0 : W6.cell? ⟨p1, 0, none⟩ = some (.int .i64 i.op) := b1.cell 0
  have c6_1_4 : W6.cell? ⟨p1, 4, none⟩ = some (.int .i64 i.n) := b1.cell 4
  obtain ⟨W7, es7⟩ : ∃ W, W6.setCells p5 1 (Pl.mk 5 t i.n).cs.toArray.toList = W := ⟨_, rfl⟩
  have bm5 := b5
  replace b1 := mid_far b1 es7 (by omega)
  replace b2 := mid_far b2 es7 (by omega)
  replace b3 := mid_far b3 es7 (by omega)
  replace b4 := mid_far b4 es7 (by omega)
  replace b5 : Blk W7 p5 40 (⟨3, ⟨5, t, i.n⟩, noW, noW, noW, 0⟩ : Ac).cs.toArray := mid_named b5 es7 rfl
  replace kk := kk.trans (mid_below es7 hp5 kk.size)
  have bx7 := bm5
  have bl7_2 := b2
  obtain ⟨W8, es8⟩ : ∃ W, W7.setCells p5 10 a.cs.toArray.toList = W := ⟨_, rfl⟩
  have bm5 := b5
  replace b1 := mid_far b1 es8 (by omega)
  replace b2 := mid_far b2 es8 (by omega)
  replace b3 := mid_far b3 es8 (by omega)
  replace b4 := mid_far b4 es8 (by omega)
  replace b5 : Blk W8 p5 40 (⟨3, ⟨5, t, i.n⟩, noW, noW, a, 0⟩ : Ac).cs.toArray := mid_named b5 es8 rfl
  replace kk := kk.trans (mid_below es8 hp5 kk.size)
  have bx8 := bm5
  have bl8_5 := b5
  obtain ⟨W9, es9⟩ : ∃ W, W8.setRow p4 (⟨3, ⟨5, t, i.n⟩, noW, noW, a, 0⟩ : Ac).cs.toArray = W := ⟨_, rfl⟩
  have bo4 := b4
  replace b1 := row_far b1 es9 (by omega)
  replace b2 := row_far b2 es9 (by omega)
  replace b3 := row_far b3 es9 (by omega)
  replace b5 := row_far b5 es9 (by omega)
  replace b4 : Blk W9 p4 40 (⟨3, ⟨5, t, i.n⟩, noW, noW, a, 0⟩ : Ac).cs.toArray := row_named b4 es9
  replace kk := kk.trans (row_below es9 hp4 kk.size)
  go_enter Tryz.func30, Tryz.ntmps30
  go_wp2_with (first | ((with_reducible refine at_store 40 (.tmp 11) (.tmp 12) ?_); refine wpList_store_row rfl 40 (.tmp 11) (.tmp 12) rfl p5 (⟨3, noP, noW, noW, noW, 0⟩ : Ac).cs.toArray rfl rfl 40 #[.int .i64 0, .int .i64 0, .int .i64 0, .int .i64 0, .int .i64 0, .int .i64 0, .int .i64 0, .int .i64 0, .int .i64 0, .int .i64 0, .int .i64 0, .int .i64 0, .int .i64 0, .int .i64 0] bz5 size40 rfl (Ac.onea _) ?_; rw [es6]) | ((with_reducible refine at_store 38 (.tmp 44) (.tmp 43) ?_); refine wpList_store_mid rfl 38 (.tmp 44) (.tmp 43) rfl p5 1 (Pl.mk 5 t i.n).cs.toArray rfl rfl (there_blk bx7 1 _ (Nat.le_of_ble_eq_true rfl)) size38 (Pl.onea _) ?_; rw [es7]) | ((with_reducible refine at_load 26 (.tmp 7) ?_); refine wpList_load_row rfl 26 (.tmp 7) rfl p2 rfl 26 a.cs.toArray (0, 0) _ bl7_2 Tryz.underlying26 rfl size26 ?_) | ((with_reducible refine at_store 26 (.tmp 46) (.tmp 45) ?_); refine wpList_store_mid rfl 26 (.tmp 46) (.tmp 45) rfl p5 10 a.cs.toArray rfl rfl (there_blk bx8 10 _ (Nat.le_of_ble_eq_true rfl)) size26 (Wd.onea _) ?_; rw [es8]) | ((with_reducible refine at_load 40 (.tmp 11) ?_); refine wpList_load_row rfl 40 (.tmp 11) rfl p5 rfl 40 (⟨3, ⟨5, t, i.n⟩, noW, noW, a, 0⟩ : Ac).cs.toArray (0, 0) _ bl8_5 Tryz.underlying40 rfl size40 ?_) | ((with_reducible refine at_store 40 (.tmp 10) (.tmp 68) ?_); refine wpList_store_row rfl 40 (.tmp 10) (.tmp 68) rfl p4 (⟨3, ⟨5, t, i.n⟩, noW, noW, a, 0⟩ : Ac).cs.toArray rfl rfl 40 #[.int .i64 0, .int .i64 0, .int .i64 0, .int .i64 0, .int .i64 0, .int .i64 0, .int .i64 0, .int .i64 0, .int .i64 0, .int .i64 0, .int .i64 0, .int .i64 0, .int .i64 0, .int .i64 0] bo4 size40 rfl (Ac.onea _) ?_; rw [es9]))
  refine bodyPost_ret (results_cell_row (cs := (⟨3, ⟨5, t, i.n⟩, noW, noW, a, 0⟩ : Ac).cs.toArray) rfl _ _ p4 40 (0, 0) _ rfl b4 Tryz.underlying40 rfl size40) rfl ?_
  first | exact ⟨rfl, kk⟩ | (rw [f1] at kk; exact ⟨rfl, kk⟩)
set_option maxRecDepth 100000 in
set_option maxHeartbeats 4000000 in
theorem sto_22 (t : Int) (i : Ins) (a b : Wd) (own : Int) (hop : i.op = 22) (w : World) : Calls Tryz.prog 30 #[.int .i64 t, .agg i.cs.toArray, .agg a.cs.toArray, .agg b.cs.toArray, .int .i64 own] w fun e w' => e = .returned (.agg (stoA t i a b own).cs.toArray) ∧ Below w.heap.size w w' := by
  have eA : stoA t i a b own = ⟨3, ⟨5, t, i.n⟩, noW, noW, noW, 0⟩ := by unfold stoA; simp [hop]
  have t12 : (i.op == 12) = false := by rw [hop]; rfl
  have t15 : (i.op == 15) = false := by rw [hop]; rfl
  have t21 : (i.op == 21) = false := by rw [hop]; rfl
  have t22 : (i.op == 22) = true := by rw [hop]; rfl
  rw [eA]
  clear eA hop
  obtain ⟨p1, f1⟩ : ∃ p, w.heap.size = p := ⟨_, rfl⟩
  obtain ⟨W1, ea1⟩ : ∃ W, w.alloc (.cells i.cs.toArray 49) = W := ⟨_, rfl⟩
  have ka1 : Below w.heap.size w W1 := by rw [← ea1]; exact (Below.refl _ w).alloc (Nat.le_refl _) _
  have b1 : Blk W1 p1 49 i.cs.toArray := by rw [← ea1]; exact blk_new w _ 49 _ f1
  have kk : Below w.heap.size w W1 := ka1
  have hp1 : w.heap.size ≤ p1 := Nat.le_of_eq f1
  clear ka1
  obtain ⟨p2, f2⟩ : ∃ p, W1.heap.size = p := ⟨_, rfl⟩
  obtain ⟨W2, ea2⟩ : ∃ W, W1.alloc (.cells a.cs.toArray 26) = W := ⟨_, rfl⟩
  have ka2 : Below W1.heap.size W1 W2 := by rw [← ea2]; exact (Below.refl _ W1).alloc (Nat.le_refl _) _
  have b2 : Blk W2 p2 26 a.cs.toArray := by rw [← ea2]; exact blk_new W1 _ 26 _ f2
  have q1_2 : p1 < p2 := by rw [← f2]; exact b1.lt
  replace b1 := b1.on ka2
  have kk0 := kk
  replace kk := kk.trans (ka2.mono kk.size)
  have hp2 : w.heap.size ≤ p2 := by rw [← f2]; exact kk0.size
  clear ka2 kk0
  obtain ⟨p3, f3⟩ : ∃ p, W2.heap.size = p := ⟨_, rfl⟩
  obtain ⟨W3, ea3⟩ : ∃ W, W2.alloc (.cells b.cs.toArray 26) = W := ⟨_, rfl⟩
  have ka3 : Below W2.heap.size W2 W3 := by rw [← ea3]; exact (Below.refl _ W2).alloc (Nat.le_refl _) _
  have b3 : Blk W3 p3 26 b.cs.toArray := by rw [← ea3]; exact blk_new W2 _ 26 _ f3
  have q1_3 : p1 < p3 := by rw [← f3]; exact b1.lt
  replace b1 := b1.on ka3
  have q2_3 : p2 < p3 := by rw [← f3]; exact b2.lt
  replace b2 := b2.on ka3
  have kk0 := kk
  replace kk := kk.trans (ka3.mono kk.size)
  have hp3 : w.heap.size ≤ p3 := by rw [← f3]; exact kk0.size
  clear ka3 kk0
  obtain ⟨p4, f4⟩ : ∃ p, W3.heap.size = p := ⟨_, rfl⟩
  obtain ⟨W4, ea4⟩ : ∃ W, W3.alloc (.cells #[.int .i64 0, .int .i64 0, .int .i64 0, .int .i64 0, .int .i64 0, .int .i64 0, .int .i64 0, .int .i64 0, .int .i64 0, .int .i64 0, .int .i64 0, .int .i64 0, .int .i64 0, .int .i64 0] 40) = W := ⟨_, rfl⟩
  have ka4 : Below W3.heap.size W3 W4 := by rw [← ea4]; exact (Below.refl _ W3).alloc (Nat.le_refl _) _
  have b4 : Blk W4 p4 40 #[.int .i64 0, .int .i64 0, .int .i64 0, .int .i64 0, .int .i64 0, .int .i64 0, .int .i64 0, .int .i64 0, .int .i64 0, .int .i64 0, .int .i64 0, .int .i64 0, .int .i64 0, .int .i64 0] := by rw [← ea4]; exact blk_new W3 _ 40 _ f4
  have q1_4 : p1 < p4 := by rw [← f4]; exact b1.lt
  replace b1 := b1.on ka4
  have q2_4 : p2 < p4 := by rw [← f4]; exact b2.lt
  replace b2 := b2.on ka4
  have q3_4 : p3 < p4 := by rw [← f4]; exact b3.lt
  replace b3 := b3.on ka4
  have kk0 := kk
  replace kk := kk.trans (ka4.mono kk.size)
  have hp4 : w.heap.size ≤ p4 := by rw [← f4]; exact kk0.size
  clear ka4 kk0
  obtain ⟨p5, f5⟩ : ∃ p, W4.heap.size = p := ⟨_, rfl⟩
  obtain ⟨W5, ea5⟩ : ∃ W, W4.alloc (.cells #[.int .i64 0, .int .i64 0, .int .i64 0, .int .i64 0, .int .i64 0, .int .i64 0, .int .i64 0, .int .i64 0, .int .i64 0, .int .i64 0, .int .i64 0, .int .i64 0, .int .i64 0, .int .i64 0] 40) = W := ⟨_, rfl⟩
  have ka5 : Below W4.heap.size W4 W5 := by rw [← ea5]; exact (Below.refl _ W4).alloc (Nat.le_refl _) _
  have b5 : Blk W5 p5 40 #[.int .i64 0, .int .i64 0, .int .i64 0, .int .i64 0, .int .i64 0, .int .i64 0, .int .i64 0, .int .i64 0, .int .i64 0, .int .i64 0, .int .i64 0, .int .i64 0, .int .i64 0, .int .i64 0] := by rw [← ea5]; exact blk_new W4 _ 40 _ f5
  have q1_5 : p1 < p5 := by rw [← f5]; exact b1.lt
  replace b1 := b1.on ka5
  have q2_5 : p2 < p5 := by rw [← f5]; exact b2.lt
  replace b2 := b2.on ka5
  have q3_5 : p3 < p5 := by rw [← f5]; exact b3.lt
  replace b3 := b3.on ka5
  have q4_5 : p4 < p5 := by rw [← f5]; exact b4.lt
  replace b4 := b4.on ka5
  have kk0 := kk
  replace kk := kk.trans (ka5.mono kk.size)
  have hp5 : w.heap.size ≤ p5 := by rw [← f5]; exact kk0.size
  clear ka5 kk0
  obtain ⟨W6, es6⟩ : ∃ W, W5.setRow p5 (⟨3, noP, noW, noW, noW, 0⟩ : Ac).cs.toArray = W := ⟨_, rfl⟩
  have bo5 := b5
  replace b1 := row_far b1 es6 (by omega)
  replace b2 := row_far b2 es6 (by omega)
  replace b3 := row_far b3 es6 (by omega)
  replace b4 := row_far b4 es6 (by omega)
  replace b5 : Blk W6 p5 40 (⟨3, noP, noW, noW, noW, 0⟩ : Ac).cs.toArray := row_named b5 es6
  replace kk := kk.trans (row_below es6 hp5 kk.size)
  have bz5 := bo5
  have c6_1_0 : W6.cell? ⟨p1, 0, none⟩ = some (.int .i64 i.op) := b1.cell 0
  have c6_1_4 : W6.cell? ⟨p1, 4, none⟩ = some (.int .i64 i.n) := b1.cell 4
  obtain ⟨W7, es7⟩ : ∃ W, W6.setCells p5 1 (Pl.mk 5 t i.n).cs.toArray.toList = W := ⟨_, rfl⟩
  have bm5 := b5
  replace b1 := mid_far b1 es7 (by omega)
  replace b2 := mid_far b2 es7 (by omega)
  replace b3 := mid_far b3 es7 (by omega)
  replace b4 := mid_far b4 es7 (by omega)
  replace b5 : Blk W7 p5 40 (⟨3, ⟨5, t, i.n⟩, noW, noW, noW, 0⟩ : Ac).cs.toArray := mid_named b5 es7 rfl
  replace kk := kk.trans (mid_below es7 hp5 kk.size)
  have bx7 := bm5
  have bl7_5 := b5
  obtain ⟨W8, es8⟩ : ∃ W, W7.setRow p4 (⟨3, ⟨5, t, i.n⟩, noW, noW, noW, 0⟩ : Ac).cs.toArray = W := ⟨_, rfl⟩
  have bo4 := b4
  replace b1 := row_far b1 es8 (by omega)
  replace b2 := row_far b2 es8 (by omega)
  replace b3 := row_far b3 es8 (by omega)
  replace b5 := row_far b5 es8 (by omega)
  replace b4 : Blk W8 p4 40 (⟨3, ⟨5, t, i.n⟩, noW, noW, noW, 0⟩ : Ac).cs.toArray := row_named b4 es8
  replace kk := kk.trans (row_below es8 hp4 kk.size)
  go_enter Tryz.func30, Tryz.ntmps30
  go_wp2_with (first | ((with_reducible refine at_store 40 (.tmp 11) (.tmp 12) ?_); refine wpList_store_row rfl 40 (.tmp 11) (.tmp 12) rfl p5 (⟨3, noP, noW, noW, noW, 0⟩ : Ac).cs.toArray rfl rfl 40 #[.int .i64 0, .int .i64 0, .int .i64 0, .int .i64 0, .int .i64 0, .int .i64 0, .int .i64 0, .int .i64 0, .int .i64 0, .int .i64 0, .int .i64 0, .int .i64 0, .int .i64 0, .int .i64 0] bz5 size40 rfl (Ac.onea _) ?_; rw [es6]) | ((with_reducible refine at_store 38 (.tmp 53) (.tmp 52) ?_); refine wpList_store_mid rfl 38 (.tmp 53) (.tmp 52) rfl p5 1 (Pl.mk 5 t i.n).cs.toArray rfl rfl (there_blk bx7 1 _ (Nat.le_of_ble_eq_true rfl)) size38 (Pl.onea _) ?_; rw [es7]) | ((with_reducible refine at_load 40 (.tmp 11) ?_); refine wpList_load_row rfl 40 (.tmp 11) rfl p5 rfl 40 (⟨3, ⟨5, t, i.n⟩, noW, noW, noW, 0⟩ : Ac).cs.toArray (0, 0) _ bl7_5 Tryz.underlying40 rfl size40 ?_) | ((with_reducible refine at_store 40 (.tmp 10) (.tmp 68) ?_); refine wpList_store_row rfl 40 (.tmp 10) (.tmp 68) rfl p4 (⟨3, ⟨5, t, i.n⟩, noW, noW, noW, 0⟩ : Ac).cs.toArray rfl rfl 40 #[.int .i64 0, .int .i64 0, .int .i64 0, .int .i64 0, .int .i64 0, .int .i64 0, .int .i64 0, .int .i64 0, .int .i64 0, .int .i64 0, .int .i64 0, .int .i64 0, .int .i64 0, .int .i64 0] bo4 size40 rfl (Ac.onea _) ?_; rw [es8]))
  refine bodyPost_ret (results_cell_row (cs := (⟨3, ⟨5, t, i.n⟩, noW, noW, noW, 0⟩ : Ac).cs.toArray) rfl _ _ p4 40 (0, 0) _ rfl b4 Tryz.underlying40 rfl size40) rfl ?_
  first | exact ⟨rfl, kk⟩ | (rw [f1] at kk; exact ⟨rfl, kk⟩)
set_option maxRecDepth 100000 in
set_option maxHeartbeats 4000000 in
theorem sto_24 (t : Int) (i : Ins) (a b : Wd) (own : Int) (hop : i.op = 24) (w : World) : Calls Tryz.prog 30 #[.int .i64 t, .agg i.cs.toArray, .agg a.cs.toArray, .agg b.cs.toArray, .int .i64 own] w fun e w' => e = .returned (.agg (stoA t i a b own).cs.toArray) ∧ Below w.heap.size w w' := by
  have eA : stoA t i a b own = ⟨3, ⟨7, t, 0⟩, noW, noW, noW, 0⟩ := by unfold stoA; simp [hop]
  have t12 : (i.op == 12) = false := by rw [hop]; rfl
  have t15 : (i.op == 15) = false := by rw [hop]; rfl
  have t21 : (i.op == 21) = false := by rw [hop]; rfl
  have t22 : (i.op == 22) = false := by rw [hop]; rfl
  have t24 : (i.op == 24) = true := by rw [hop]; rfl
  rw [eA]
  clear eA hop
  obtain ⟨p1, f1⟩ : ∃ p, w.heap.size = p := ⟨_, rfl⟩
  obtain ⟨W1, ea1⟩ : ∃ W, w.alloc (.cells i.cs.toArray 49) = W := ⟨_, rfl⟩
  have ka1 : Below w.heap.size w W1 := by rw [← ea1]; exact (Below.refl _ w).alloc (Nat.le_refl _) _
  have b1 : Blk W1 p1 49 i.cs.toArray := by rw [← ea1]; exact blk_new w _ 49 _ f1
  have kk : Below w.heap.size w W1 := ka1
  have hp1 : w.heap.size ≤ p1 := Nat.le_of_eq f1
  clear ka1
  obtain ⟨p2, f2⟩ : ∃ p, W1.heap.size = p := ⟨_, rfl⟩
  obtain ⟨W2, ea2⟩ : ∃ W, W1.alloc (.cells a.cs.toArray 26) = W := ⟨_, rfl⟩
  have ka2 : Below W1.heap.size W1 W2 := by rw [← ea2]; exact (Below.refl _ W1).alloc (Nat.le_refl _) _
  have b2 : Blk W2 p2 26 a.cs.toArray := by rw [← ea2]; exact blk_new W1 _ 26 _ f2
  have q1_2 : p1 < p2 := by rw [← f2]; exact b1.lt
  replace b1 := b1.on ka2
  have kk0 := kk
  replace kk := kk.trans (ka2.mono kk.size)
  have hp2 : w.heap.size ≤ p2 := by rw [← f2]; exact kk0.size
  clear ka2 kk0
  obtain ⟨p3, f3⟩ : ∃ p, W2.heap.size = p := ⟨_, rfl⟩
  obtain ⟨W3, ea3⟩ : ∃ W, W2.alloc (.cells b.cs.toArray 26) = W := ⟨_, rfl⟩
  have ka3 : Below W2.heap.size W2 W3 := by rw [← ea3]; exact (Below.refl _ W2).alloc (Nat.le_refl _) _
  have b3 : Blk W3 p3 26 b.cs.toArray := by rw [← ea3]; exact blk_new W2 _ 26 _ f3
  have q1_3 : p1 < p3 := by rw [← f3]; exact b1.lt
  replace b1 := b1.on ka3
  have q2_3 : p2 < p3 := by rw [← f3]; exact b2.lt
  replace b2 := b2.on ka3
  have kk0 := kk
  replace kk := kk.trans (ka3.mono kk.size)
  have hp3 : w.heap.size ≤ p3 := by rw [← f3]; exact kk0.size
  clear ka3 kk0
  obtain ⟨p4, f4⟩ : ∃ p, W3.heap.size = p := ⟨_, rfl⟩
  obtain ⟨W4, ea4⟩ : ∃ W, W3.alloc (.cells #[.int .i64 0, .int .i64 0, .int .i64 0, .int .i64 0, .int .i64 0, .int .i64 0, .int .i64 0, .int .i64 0, .int .i64 0, .int .i64 0, .int .i64 0, .int .i64 0, .int .i64 0, .int .i64 0] 40) = W := ⟨_, rfl⟩
  have ka4 : Below W3.heap.size W3 W4 := by rw [← ea4]; exact (Below.refl _ W3).alloc (Nat.le_refl _) _
  have b4 : Blk W4 p4 40 #[.int .i64 0, .int .i64 0, .int .i64 0, .int .i64 0, .int .i64 0, .int .i64 0, .int .i64 0, .int .i64 0, .int .i64 0, .int .i64 0, .int .i64 0, .int .i64 0, .int .i64 0, .int .i64 0] := by rw [← ea4]; exact blk_new W3 _ 40 _ f4
  have q1_4 : p1 < p4 := by rw [← f4]; exact b1.lt
  replace b1 := b1.on ka4
  have q2_4 : p2 < p4 := by rw [← f4]; exact b2.lt
  replace b2 := b2.on ka4
  have q3_4 : p3 < p4 := by rw [← f4]; exact b3.lt
  replace b3 := b3.on ka4
  have kk0 := kk
  replace kk := kk.trans (ka4.mono kk.size)
  have hp4 : w.heap.size ≤ p4 := by rw [← f4]; exact kk0.size
  clear ka4 kk0
  obtain ⟨p5, f5⟩ : ∃ p, W4.heap.size = p := ⟨_, rfl⟩
  obtain ⟨W5, ea5⟩ : ∃ W, W4.alloc (.cells #[.int .i64 0, .int .i64 0, .int .i64 0, .int .i64 0, .int .i64 0, .int .i64 0, .int .i64 0, .int .i64 0, .int .i64 0, .int .i64 0, .int .i64 0, .int .i64 0, .int .i64 0, .int .i64 0] 40) = W := ⟨_, rfl⟩
  have ka5 : Below W4.heap.size W4 W5 := by rw [← ea5]; exact (Below.refl _ W4).alloc (Nat.le_refl _) _
  have b5 : Blk W5 p5 40 #[.int .i64 0, .int .i64 0, .int .i64 0, .int .i64 0, .int .i64 0, .int .i64 0, .int .i64 0, .int .i64 0, .int .i64 0, .int .i64 0, .int .i64 0, .int .i64 0, .int .i64 0, .int .i64 0] := by rw [← ea5]; exact blk_new W4 _ 40 _ f5
  have q1_5 : p1 < p5 := by rw [← f5]; exact b1.lt
  replace b1 := b1.on ka5
  have q2_5 : p2 < p5 := by rw [← f5]; exact b2.lt
  replace b2 := b2.on ka5
  have q3_5 : p3 < p5 := by rw [← f5]; exact b3.lt
  replace b3 := b3.on ka5
  have q4_5 : p4 < p5 := by rw [← f5]; exact b4.lt
  replace b4 := b4.on ka5
  have kk0 := kk
  replace kk := kk.trans (ka5.mono kk.size)
  have hp5 : w.heap.size ≤ p5 := by rw [← f5]; exact kk0.size
  clear ka5 kk0
  obtain ⟨W6, es6⟩ : ∃ W, W5.setRow p5 (⟨3, noP, noW, noW, noW, 0⟩ : Ac).cs.toArray = W := ⟨_, rfl⟩
  have bo5 := b5
  replace b1 := row_far b1 es6 (by omega)
  replace b2 := row_far b2 es6 (by omega)
  replace b3 := row_far b3 es6 (by omega)
  replace b4 := row_far b4 es6 (by omega)
  replace b5 : Blk W6 p5 40 (⟨3, noP, noW, noW, noW, 0⟩ : Ac).cs.toArray := row_named b5 es6
  replace kk := kk.trans (row_below es6 hp5 kk.size)
  have bz5 := bo5
  have c6_1_0 : W6.cell? ⟨p1, 0, none⟩ = some (.int .i64 i.op) := b1.cell 0
  obtain ⟨W7, es7⟩ : ∃ W, W6.setCells p5 1 (Pl.mk 7 t 0).cs.toArray.toList = W := ⟨_, rfl⟩
  have bm5 := b5
  replace b1 := mid_far b1 es7 (by omega)
  replace b2 := mid_far b2 es7 (by omega)
  replace b3 := mid_far b3 es7 (by omega)
  replace b4 := mid_far b4 es7 (by omega)
  replace b5 : Blk W7 p5 40 (⟨3, ⟨7, t, 0⟩, noW, noW, noW, 0⟩ : Ac).cs.toArray := mid_named b5 es7 rfl
  replace kk := kk.trans (mid_below es7 hp5 kk.size)
  have bx7 := bm5
  have bl7_5 := b5
  obtain ⟨W8, es8⟩ : ∃ W, W7.setRow p4 (⟨3, ⟨7, t, 0⟩, noW, noW, noW, 0⟩ : Ac).cs.toArray = W := ⟨_, rfl⟩
  have bo4 := b4
  replace b1 := row_far b1 es8 (by omega)
  replace b2 := row_far b2 es8 (by omega)
  replace b3 := row_far b3 es8 (by omega)
  replace b5 := row_far b5 es8 (by omega)
  replace b4 : Blk W8 p4 40 (⟨3, ⟨7, t, 0⟩, noW, noW, noW, 0⟩ : Ac).cs.toArray := row_named b4 es8
  replace kk := kk.trans (row_below es8 hp4 kk.size)
  go_enter Tryz.func30, Tryz.ntmps30
  go_wp2_with (first | ((with_reducible refine at_store 40 (.tmp 11) (.tmp 12) ?_); refine wpList_store_row rfl 40 (.tmp 11) (.tmp 12) rfl p5 (⟨3, noP, noW, noW, noW, 0⟩ : Ac).cs.toArray rfl rfl 40 #[.int .i64 0, .int .i64 0, .int .i64 0, .int .i64 0, .int .i64 0, .int .i64 0, .int .i64 0, .int .i64 0, .int .i64 0, .int .i64 0, .int .i64 0, .int .i64 0, .int .i64 0, .int .i64 0] bz5 size40 rfl (Ac.onea _) ?_; rw [es6]) | ((with_reducible refine at_store 38 (.tmp 58) (.tmp 57) ?_); refine wpList_store_mid rfl 38 (.tmp 58) (.tmp 57) rfl p5 1 (Pl.mk 7 t 0).cs.toArray rfl rfl (there_blk bx7 1 _ (Nat.le_of_ble_eq_true rfl)) size38 (Pl.onea _) ?_; rw [es7]) | ((with_reducible refine at_load 40 (.tmp 11) ?_); refine wpList_load_row rfl 40 (.tmp 11) rfl p5 rfl 40 (⟨3, ⟨7, t, 0⟩, noW, noW, noW, 0⟩ : Ac).cs.toArray (0, 0) _ bl7_5 Tryz.underlying40 rfl size40 ?_) | ((with_reducible refine at_store 40 (.tmp 10) (.tmp 68) ?_); refine wpList_store_row rfl 40 (.tmp 10) (.tmp 68) rfl p4 (⟨3, ⟨7, t, 0⟩, noW, noW, noW, 0⟩ : Ac).cs.toArray rfl rfl 40 #[.int .i64 0, .int .i64 0, .int .i64 0, .int .i64 0, .int .i64 0, .int .i64 0, .int .i64 0, .int .i64 0, .int .i64 0, .int .i64 0, .int .i64 0, .int .i64 0, .int .i64 0, .int .i64 0] bo4 size40 rfl (Ac.onea _) ?_; rw [es8]))
  refine bodyPost_ret (results_cell_row (cs := (⟨3, ⟨7, t, 0⟩, noW, noW, noW, 0⟩ : Ac).cs.toArray) rfl _ _ p4 40 (0, 0) _ rfl b4 Tryz.underlying40 rfl size40) rfl ?_
  first | exact ⟨rfl, kk⟩ | (rw [f1] at kk; exact ⟨rfl, kk⟩)
set_option maxRecDepth 100000 in
set_option maxHeartbeats 4000000 in
theorem sto_25 (t : Int) (i : Ins) (a b : Wd) (own : Int) (hop : i.op = 25) (w : World) : Calls Tryz.prog 30 #[.int .i64 t, .agg i.cs.toArray, .agg a.cs.toArray, .agg b.cs.toArray, .int .i64 own] w fun e w' => e = .returned (.agg (stoA t i a b own).cs.toArray) ∧ Below w.heap.size w w' := by
  have eA : stoA t i a b own = ⟨3, ⟨8, t, 0⟩, noW, noW, ⟨wrap64 (own + 1), 0, 0⟩, 0⟩ := by unfold stoA; simp [hop]
  have t12 : (i.op == 12) = false := by rw [hop]; rfl
  have t15 : (i.op == 15) = false := by rw [hop]; rfl
  have t21 : (i.op == 21) = false := by rw [hop]; rfl
  have t22 : (i.op == 22) = false := by rw [hop]; rfl
  have t24 : (i.op == 24) = false := by rw [hop]; rfl
  have t25 : (i.op == 25) = true := by rw [hop]; rfl
  rw [eA]
  clear eA hop
  obtain ⟨p1, f1⟩ : ∃ p, w.heap.size = p := ⟨_, rfl⟩
  obtain ⟨W1, ea1⟩ : ∃ W, w.alloc (.cells i.cs.toArray 49) = W := ⟨_, rfl⟩
  have ka1 : Below w.heap.size w W1 := by rw [← ea1]; exact (Below.refl _ w).alloc (Nat.le_refl _) _
  have b1 : Blk W1 p1 49 i.cs.toArray := by rw [← ea1]; exact blk_new w _ 49 _ f1
  have kk : Below w.heap.size w W1 := ka1
  have hp1 : w.heap.size ≤ p1 := Nat.le_of_eq f1
  clear ka1
  obtain ⟨p2, f2⟩ : ∃ p, W1.heap.size = p := ⟨_, rfl⟩
  obtain ⟨W2, ea2⟩ : ∃ W, W1.alloc (.cells a.cs.toArray 26) = W := ⟨_, rfl⟩
  have ka2 : Below W1.heap.size W1 W2 := by rw [← ea2]; exact (Below.refl _ W1).alloc (Nat.le_refl _) _
  have b2 : Blk W2 p2 26 a.cs.toArray := by rw [← ea2]; exact blk_new W1 _ 26 _ f2
  have q1_2 : p1 < p2 := by rw [← f2]; exact b1.lt
  replace b1 := b1.on ka2
  have kk0 := kk
  replace kk := kk.trans (ka2.mono kk.size)
  have hp2 : w.heap.size ≤ p2 := by rw [← f2]; exact kk0.size
  clear ka2 kk0
  obtain ⟨p3, f3⟩ : ∃ p, W2.heap.size = p := ⟨_, rfl⟩
  obtain ⟨W3, ea3⟩ : ∃ W, W2.alloc (.cells b.cs.toArray 26) = W := ⟨_, rfl⟩
  have ka3 : Below W2.heap.size W2 W3 := by rw [← ea3]; exact (Below.refl _ W2).alloc (Nat.le_refl _) _
  have b3 : Blk W3 p3 26 b.cs.toArray := by rw [← ea3]; exact blk_new W2 _ 26 _ f3
  have q1_3 : p1 < p3 := by rw [← f3]; exact b1.lt
  replace b1 := b1.on ka3
  have q2_3 : p2 < p3 := by rw [← f3]; exact b2.lt
  replace b2 := b2.on ka3
  have kk0 := kk
  replace kk := kk.trans (ka3.mono kk.size)
  have hp3 : w.heap.size ≤ p3 := by rw [← f3]; exact kk0.size
  clear ka3 kk0
  obtain ⟨p4, f4⟩ : ∃ p, W3.heap.size = p := ⟨_, rfl⟩
  obtain ⟨W4, ea4⟩ : ∃ W, W3.alloc (.cells #[.int .i64 0, .int .i64 0, .int .i64 0, .int .i64 0, .int .i64 0, .int .i64 0, .int .i64 0, .int .i64 0, .int .i64 0, .int .i64 0, .int .i64 0, .int .i64 0, .int .i64 0, .int .i64 0] 40) = W := ⟨_, rfl⟩
  have ka4 : Below W3.heap.size W3 W4 := by rw [← ea4]; exact (Below.refl _ W3).alloc (Nat.le_refl _) _
  have b4 : Blk W4 p4 40 #[.int .i64 0, .int .i64 0, .int .i64 0, .int .i64 0, .int .i64 0, .int .i64 0, .int .i64 0, .int .i64 0, .int .i64 0, .int .i64 0, .int .i64 0, .int .i64 0, .int .i64 0, .int .i64 0] := by rw [← ea4]; exact blk_new W3 _ 40 _ f4
  have q1_4 : p1 < p4 := by rw [← f4]; exact b1.lt
  replace b1 := b1.on ka4
  have q2_4 : p2 < p4 := by rw [← f4]; exact b2.lt
  replace b2 := b2.on ka4
  have q3_4 : p3 < p4 := by rw [← f4]; exact b3.lt
  replace b3 := b3.on ka4
  have kk0 := kk
  replace kk := kk.trans (ka4.mono kk.size)
  have hp4 : w.heap.size ≤ p4 := by rw [← f4]; exact kk0.size
  clear ka4 kk0
  obtain ⟨p5, f5⟩ : ∃ p, W4.heap.size = p := ⟨_, rfl⟩
  obtain ⟨W5, ea5⟩ : ∃ W, W4.alloc (.cells #[.int .i64 0, .int .i64 0, .int .i64 0, .int .i64 0, .int .i64 0, .int .i64 0, .int .i64 0, .int .i64 0, .int .i64 0, .int .i64 0, .int .i64 0, .int .i64 0, .int .i64 0, .int .i64 0] 40) = W := ⟨_, rfl⟩
  have ka5 : Below W4.heap.size W4 W5 := by rw [← ea5]; exact (Below.refl _ W4).alloc (Nat.le_refl _) _
  have b5 : Blk W5 p5 40 #[.int .i64 0, .int .i64 0, .int .i64 0, .int .i64 0, .int .i64 0, .int .i64 0, .int .i64 0, .int .i64 0, .int .i64 0, .int .i64 0, .int .i64 0, .int .i64 0, .int .i64 0, .int .i64 0] := by rw [← ea5]; exact blk_new W4 _ 40 _ f5
  have q1_5 : p1 < p5 := by rw [← f5]; exact b1.lt
  replace b1 := b1.on ka5
  have q2_5 : p2 < p5 := by rw [← f5]; exact b2.lt
  replace b2 := b2.on ka5
  have q3_5 : p3 < p5 := by rw [← f5]; exact b3.lt
  replace b3 := b3.on ka5
  have q4_5 : p4 < p5 := by rw [← f5]; exact b4.lt
  replace b4 := b4.on ka5
  have kk0 := kk
  replace kk := kk.trans (ka5.mono kk.size)
  have hp5 : w.heap.size ≤ p5 := by rw [← f5]; exact kk0.size
  clear ka5 kk0
  obtain ⟨W6, es6⟩ : ∃ W, W5.setRow p5 (⟨3, noP, noW, noW, noW, 0⟩ : Ac).cs.toArray = W := ⟨_, rfl⟩
  have bo5 := b5
  replace b1 := row_far b1 es6 (by omega)
  replace b2 := row_far b2 es6 (by omega)
  replace b3 := row_far b3 es6 (by omega)
  replace b4 := row_far b4 es6 (by omega)
  replace b5 : Blk W6 p5 40 (⟨3, noP, noW, noW, noW, 0⟩ : Ac).cs.toArray := row_named b5 es6
  replace kk := kk.trans (row_below es6 hp5 kk.size)
  have bz5 := bo5
  have c6_1_0 : W6.cell? ⟨p1, 0, none⟩ = some (.int .i64 i.op) := b1.cell 0
  obtain ⟨W7, es7⟩ : ∃ W, W6.setCells p5 1 (Pl.mk 8 t 0).cs.toArray.toList = W := ⟨_, rfl⟩
  have bm5 := b5
  replace b1 := mid_far b1 es7 (by omega)
  replace b2 := mid_far b2 es7 (by omega)
  replace b3 := mid_far b3 es7 (by omega)
  replace b4 := mid_far b4 es7 (by omega)
  replace b5 : Blk W7 p5 40 (⟨3, ⟨8, t, 0⟩, noW, noW, noW, 0⟩ : Ac).cs.toArray := mid_named b5 es7 rfl
  replace kk := kk.trans (mid_below es7 hp5 kk.size)
  have bx7 := bm5
  obtain ⟨W8, es8⟩ : ∃ W, W7.setCells p5 10 (Wd.mk (wrap64 (own + 1)) 0 0).cs.toArray.toList = W := ⟨_, rfl⟩
  have bm5 := b5
  replace b1 := mid_far b1 es8 (by omega)
  replace b2 := mid_far b2 es8 (by omega)
  replace b3 := mid_far b3 es8 (by omega)
  replace b4 := mid_far b4 es8 (by omega)
  replace b5 : Blk W8 p5 40 (⟨3, ⟨8, t, 0⟩, noW, noW, ⟨wrap64 (own + 1), 0, 0⟩, 0⟩ : Ac).cs.toArray := mid_named b5 es8 rfl
  replace kk := kk.trans (mid_below es8 hp5 kk.size)
  have bx8 := bm5
  have bl8_5 := b5
  obtain ⟨W9, es9⟩ : ∃ W, W8.setRow p4 (⟨3, ⟨8, t, 0⟩, noW, noW, ⟨wrap64 (own + 1), 0, 0⟩, 0⟩ : Ac).cs.toArray = W := ⟨_, rfl⟩
  have bo4 := b4
  replace b1 := row_far b1 es9 (by omega)
  replace b2 := row_far b2 es9 (by omega)
  replace b3 := row_far b3 es9 (by omega)
  replace b5 := row_far b5 es9 (by omega)
  replace b4 : Blk W9 p4 40 (⟨3, ⟨8, t, 0⟩, noW, noW, ⟨wrap64 (own + 1), 0, 0⟩, 0⟩ : Ac).cs.toArray := row_named b4 es9
  replace kk := kk.trans (row_below es9 hp4 kk.size)
  go_enter Tryz.func30, Tryz.ntmps30
  go_wp2_with (first | ((with_reducible refine at_store 40 (.tmp 11) (.tmp 12) ?_); refine wpList_store_row rfl 40 (.tmp 11) (.tmp 12) rfl p5 (⟨3, noP, noW, noW, noW, 0⟩ : Ac).cs.toArray rfl rfl 40 #[.int .i64 0, .int .i64 0, .int .i64 0, .int .i64 0, .int .i64 0, .int .i64 0, .int .i64 0, .int .i64 0, .int .i64 0, .int .i64 0, .int .i64 0, .int .i64 0, .int .i64 0, .int .i64 0] bz5 size40 rfl (Ac.onea _) ?_; rw [es6]) | ((with_reducible refine at_store 38 (.tmp 63) (.tmp 62) ?_); refine wpList_store_mid rfl 38 (.tmp 63) (.tmp 62) rfl p5 1 (Pl.mk 8 t 0).cs.toArray rfl rfl (there_blk bx7 1 _ (Nat.le_of_ble_eq_true rfl)) size38 (Pl.onea _) ?_; rw [es7]) | ((with_reducible refine at_store 26 (.tmp 67) (.tmp 66) ?_); refine wpList_store_mid rfl 26 (.tmp 67) (.tmp 66) rfl p5 10 (Wd.mk (wrap64 (own + 1)) 0 0).cs.toArray rfl rfl (there_blk bx8 10 _ (Nat.le_of_ble_eq_true rfl)) size26 (Wd.onea _) ?_; rw [es8]) | ((with_reducible refine at_load 40 (.tmp 11) ?_); refine wpList_load_row rfl 40 (.tmp 11) rfl p5 rfl 40 (⟨3, ⟨8, t, 0⟩, noW, noW, ⟨wrap64 (own + 1), 0, 0⟩, 0⟩ : Ac).cs.toArray (0, 0) _ bl8_5 Tryz.underlying40 rfl size40 ?_) | ((with_reducible refine at_store 40 (.tmp 10) (.tmp 68) ?_); refine wpList_store_row rfl 40 (.tmp 10) (.tmp 68) rfl p4 (⟨3, ⟨8, t, 0⟩, noW, noW, ⟨wrap64 (own + 1), 0, 0⟩, 0⟩ : Ac).cs.toArray rfl rfl 40 #[.int .i64 0, .int .i64 0, .int .i64 0, .int .i64 0, .int .i64 0, .int .i64 0, .int .i64 0, .int .i64 0, .int .i64 0, .int .i64 0, .int .i64 0, .int .i64 0, .int .i64 0, .int .i64 0] bo4 size40 rfl (Ac.onea _) ?_; rw [es9]))
  refine bodyPost_ret (results_cell_row (cs := (⟨3, ⟨8, t, 0⟩, noW, noW, ⟨wrap64 (own + 1), 0, 0⟩, 0⟩ : Ac).cs.toArray) rfl _ _ p4 40 (0, 0) _ rfl b4 Tryz.underlying40 rfl size40) rfl ?_
  first | exact ⟨rfl, kk⟩ | (rw [f1] at kk; exact ⟨rfl, kk⟩)
set_option maxRecDepth 100000 in
set_option maxHeartbeats 4000000 in
theorem sto_else (t : Int) (i : Ins) (a b : Wd) (own : Int) (hop : i.op ≠ 12 ∧ i.op ≠ 15 ∧ i.op ≠ 21 ∧ i.op ≠ 22 ∧ i.op ≠ 24 ∧ i.op ≠ 25) (w : World) : Calls Tryz.prog 30 #[.int .i64 t, .agg i.cs.toArray, .agg a.cs.toArray, .agg b.cs.toArray, .int .i64 own] w fun e w' => e = .returned (.agg (stoA t i a b own).cs.toArray) ∧ Below w.heap.size w w' := by
  have eA : stoA t i a b own = noA := by unfold stoA; rw [if_neg (show ¬ i.op = 12 by omega), if_neg (show ¬ i.op = 15 by omega), if_neg (show ¬ i.op = 21 by omega), if_neg (show ¬ i.op = 22 by omega), if_neg (show ¬ i.op = 24 by omega), if_neg (show ¬ i.op = 25 by omega)]
  have t12 : (i.op == 12) = false := beq_eq_false_iff_ne.2 (by omega)
  have t15 : (i.op == 15) = false := beq_eq_false_iff_ne.2 (by omega)
  have t21 : (i.op == 21) = false := beq_eq_false_iff_ne.2 (by omega)
  have t22 : (i.op == 22) = false := beq_eq_false_iff_ne.2 (by omega)
  have t24 : (i.op == 24) = false := beq_eq_false_iff_ne.2 (by omega)
  have t25 : (i.op == 25) = false := beq_eq_false_iff_ne.2 (by omega)
  rw [eA]
  clear eA hop
  obtain ⟨p1, f1⟩ : ∃ p, w.heap.size = p := ⟨_, rfl⟩
  obtain ⟨W1, ea1⟩ : ∃ W, w.alloc (.cells i.cs.toArray 49) = W := ⟨_, rfl⟩
  have ka1 : Below w.heap.size w W1 := by rw [← ea1]; exact (Below.refl _ w).alloc (Nat.le_refl _) _
  have b1 : Blk W1 p1 49 i.cs.toArray := by rw [← ea1]; exact blk_new w _ 49 _ f1
  have kk : Below w.heap.size w W1 := ka1
  have hp1 : w.heap.size ≤ p1 := Nat.le_of_eq f1
  clear ka1
  obtain ⟨p2, f2⟩ : ∃ p, W1.heap.size = p := ⟨_, rfl⟩
  obtain ⟨W2, ea2⟩ : ∃ W, W1.alloc (.cells a.cs.toArray 26) = W := ⟨_, rfl⟩
  have ka2 : Below W1.heap.size W1 W2 := by rw [← ea2]; exact (Below.refl _ W1).alloc (Nat.le_refl _) _
  have b2 : Blk W2 p2 26 a.cs.toArray := by rw [← ea2]; exact blk_new W1 _ 26 _ f2
  have q1_2 : p1 < p2 := by rw [← f2]; exact b1.lt
  replace b1 := b1.on ka2
  have kk0 := kk
  replace kk := kk.trans (ka2.mono kk.size)
  have hp2 : w.heap.size ≤ p2 := by rw [← f2]; exact kk0.size
  clear ka2 kk0
  obtain ⟨p3, f3⟩ : ∃ p, W2.heap.size = p := ⟨_, rfl⟩
  obtain ⟨W3, ea3⟩ : ∃ W, W2.alloc (.cells b.cs.toArray 26) = W := ⟨_, rfl⟩
  have ka3 : Below W2.heap.size W2 W3 := by rw [← ea3]; exact (Below.refl _ W2).alloc (Nat.le_refl _) _
  have b3 : Blk W3 p3 26 b.cs.toArray := by rw [← ea3]; exact blk_new W2 _ 26 _ f3
  have q1_3 : p1 < p3 := by rw [← f3]; exact b1.lt
  replace b1 := b1.on ka3
  have q2_3 : p2 < p3 := by rw [← f3]; exact b2.lt
  replace b2 := b2.on ka3
  have kk0 := kk
  replace kk := kk.trans (ka3.mono kk.size)
  have hp3 : w.heap.size ≤ p3 := by rw [← f3]; exact kk0.size
  clear ka3 kk0
  obtain ⟨p4, f4⟩ : ∃ p, W3.heap.size = p := ⟨_, rfl⟩
  obtain ⟨W4, ea4⟩ : ∃ W, W3.alloc (.cells #[.int .i64 0, .int .i64 0, .int .i64 0, .int .i64 0, .int .i64 0, .int .i64 0, .int .i64 0, .int .i64 0, .int .i64 0, .int .i64 0, .int .i64 0, .int .i64 0, .int .i64 0, .int .i64 0] 40) = W := ⟨_, rfl⟩
  have ka4 : Below W3.heap.size W3 W4 := by rw [← ea4]; exact (Below.refl _ W3).alloc (Nat.le_refl _) _
  have b4 : Blk W4 p4 40 #[.int .i64 0, .int .i64 0, .int .i64 0, .int .i64 0, .int .i64 0, .int .i64 0, .int .i64 0, .int .i64 0, .int .i64 0, .int .i64 0, .int .i64 0, .int .i64 0, .int .i64 0, .int .i64 0] := by rw [← ea4]; exact blk_new W3 _ 40 _ f4
  have q1_4 : p1 < p4 := by rw [← f4]; exact b1.lt
  replace b1 := b1.on ka4
  have q2_4 : p2 < p4 := by rw [← f4]; exact b2.lt
  replace b2 := b2.on ka4
  have q3_4 : p3 < p4 := by rw [← f4]; exact b3.lt
  replace b3 := b3.on ka4
  have kk0 := kk
  replace kk := kk.trans (ka4.mono kk.size)
  have hp4 : w.heap.size ≤ p4 := by rw [← f4]; exact kk0.size
  clear ka4 kk0
  obtain ⟨p5, f5⟩ : ∃ p, W4.heap.size = p := ⟨_, rfl⟩
  obtain ⟨W5, ea5⟩ : ∃ W, W4.alloc (.cells #[.int .i64 0, .int .i64 0, .int .i64 0, .int .i64 0, .int .i64 0, .int .i64 0, .int .i64 0, .int .i64 0, .int .i64 0, .int .i64 0, .int .i64 0, .int .i64 0, .int .i64 0, .int .i64 0] 40) = W := ⟨_, rfl⟩
  have ka5 : Below W4.heap.size W4 W5 := by rw [← ea5]; exact (Below.refl _ W4).alloc (Nat.le_refl _) _
  have b5 : Blk W5 p5 40 #[.int .i64 0, .int .i64 0, .int .i64 0, .int .i64 0, .int .i64 0, .int .i64 0, .int .i64 0, .int .i64 0, .int .i64 0, .int .i64 0, .int .i64 0, .int .i64 0, .int .i64 0, .int .i64 0] := by rw [← ea5]; exact blk_new W4 _ 40 _ f5
  have q1_5 : p1 < p5 := by rw [← f5]; exact b1.lt
  replace b1 := b1.on ka5
  have q2_5 : p2 < p5 := by rw [← f5]; exact b2.lt
  replace b2 := b2.on ka5
  have q3_5 : p3 < p5 := by rw [← f5]; exact b3.lt
  replace b3 := b3.on ka5
  have q4_5 : p4 < p5 := by rw [← f5]; exact b4.lt
  replace b4 := b4.on ka5
  have kk0 := kk
  replace kk := kk.trans (ka5.mono kk.size)
  have hp5 : w.heap.size ≤ p5 := by rw [← f5]; exact kk0.size
  clear ka5 kk0
  obtain ⟨W6, es6⟩ : ∃ W, W5.setRow p5 (⟨3, noP, noW, noW, noW, 0⟩ : Ac).cs.toArray = W := ⟨_, rfl⟩
  have bo5 := b5
  replace b1 := row_far b1 es6 (by omega)
  replace b2 := row_far b2 es6 (by omega)
  replace b3 := row_far b3 es6 (by omega)
  replace b4 := row_far b4 es6 (by omega)
  replace b5 : Blk W6 p5 40 (⟨3, noP, noW, noW, noW, 0⟩ : Ac).cs.toArray := row_named b5 es6
  replace kk := kk.trans (row_below es6 hp5 kk.size)
  have bz5 := bo5
  have c6_1_0 : W6.cell? ⟨p1, 0, none⟩ = some (.int .i64 i.op) := b1.cell 0
  obtain ⟨W7, es7⟩ : ∃ W, W6.setRow p4 noA.cs.toArray = W := ⟨_, rfl⟩
  have bo4 := b4
  replace b1 := row_far b1 es7 (by omega)
  replace b2 := row_far b2 es7 (by omega)
  replace b3 := row_far b3 es7 (by omega)
  replace b5 := row_far b5 es7 (by omega)
  replace b4 : Blk W7 p4 40 noA.cs.toArray := row_named b4 es7
  replace kk := kk.trans (row_below es7 hp4 kk.size)
  go_enter Tryz.func30, Tryz.ntmps30
  go_wp2_with (first | ((with_reducible refine at_store 40 (.tmp 11) (.tmp 12) ?_); refine wpList_store_row rfl 40 (.tmp 11) (.tmp 12) rfl p5 (⟨3, noP, noW, noW, noW, 0⟩ : Ac).cs.toArray rfl rfl 40 #[.int .i64 0, .int .i64 0, .int .i64 0, .int .i64 0, .int .i64 0, .int .i64 0, .int .i64 0, .int .i64 0, .int .i64 0, .int .i64 0, .int .i64 0, .int .i64 0, .int .i64 0, .int .i64 0] bz5 size40 rfl (Ac.onea _) ?_; rw [es6]) | ((with_reducible refine at_store 40 (.tmp 10) (.tmp 15) ?_); refine wpList_store_row rfl 40 (.tmp 10) (.tmp 15) rfl p4 noA.cs.toArray rfl rfl 40 #[.int .i64 0, .int .i64 0, .int .i64 0, .int .i64 0, .int .i64 0, .int .i64 0, .int .i64 0, .int .i64 0, .int .i64 0, .int .i64 0, .int .i64 0, .int .i64 0, .int .i64 0, .int .i64 0] bo4 size40 rfl (Ac.onea _) ?_; rw [es7]))
  refine bodyPost_ret (results_cell_row (cs := noA.cs.toArray) rfl _ _ p4 40 (0, 0) _ rfl b4 Tryz.underlying40 rfl size40) rfl ?_
  first | exact ⟨rfl, kk⟩ | (rw [f1] at kk; exact ⟨rfl, kk⟩)
theorem stores_any (t : Int) (i : Ins) (a b : Wd) (own : Int) (w : World) : Calls Tryz.prog 30 #[.int .i64 t, .agg i.cs.toArray, .agg a.cs.toArray, .agg b.cs.toArray, .int .i64 own] w fun e w' => e = .returned (.agg (stoA t i a b own).cs.toArray) ∧ Below w.heap.size w w' := by
  by_cases n12 : i.op = 12
  · exact sto_12 t i a b own n12 w
  by_cases n15 : i.op = 15
  · exact sto_15 t i a b own n15 w
  by_cases n21 : i.op = 21
  · exact sto_21 t i a b own n21 w
  by_cases n22 : i.op = 22
  · exact sto_22 t i a b own n22 w
  by_cases n24 : i.op = 24
  · exact sto_24 t i a b own n24 w
  by_cases n25 : i.op = 25
  · exact sto_25 t i a b own n25 w
  exact sto_else t i a b own ⟨n12, n15, n21, n22, n24, n25⟩ w
end Go.Proofs.YtfadfdfpocpelaaGreatDoor
