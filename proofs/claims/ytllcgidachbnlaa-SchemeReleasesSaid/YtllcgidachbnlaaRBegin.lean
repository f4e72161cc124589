/- How a micro begins, by the plain answer. Conditions: lists have room. -/
import Derived.Test.YtllcgidachbnlaaBegin
namespace Go.Proofs.Ytllcgidachbnlaa
open Go.RowKit Go.ChangeShapes Go.WideShapes Go.Great

set_option maxRecDepth 100000 in
set_option maxHeartbeats 4000000 in
theorem rbegin_any (p : Pg) (c : Cf) (x : Th) (hp : p.Ok) (h : x.Ok) (w : World) : Calls Try.prog 11 #[.agg p.cs.toArray, .agg c.cs.toArray, .agg x.cs.toArray] w fun e w' => e = .returned (.agg (miK (begK p c x)).cs.toArray) ∧ Below w.heap.size w w' := by
  obtain ⟨p1, f1⟩ : ∃ p, w.heap.size = p := ⟨_, rfl⟩
  obtain ⟨W1, ea1⟩ : ∃ W, w.alloc (.cells p.cs.toArray 24) = W := ⟨_, rfl⟩
  have ka1 : Below w.heap.size w W1 := by rw [← ea1]; exact (Below.refl _ w).alloc (Nat.le_refl _) _
  have b1 : Blk W1 p1 24 p.cs.toArray := by rw [← ea1]; exact blk_new w _ 24 _ f1
  have kk : Below w.heap.size w W1 := ka1
  have hp1 : w.heap.size ≤ p1 := Nat.le_of_eq f1
  clear ka1
  obtain ⟨p2, f2⟩ : ∃ p, W1.heap.size = p := ⟨_, rfl⟩
  obtain ⟨W2, ea2⟩ : ∃ W, W1.alloc (.cells c.cs.toArray 26) = W := ⟨_, rfl⟩
  have ka2 : Below W1.heap.size W1 W2 := by rw [← ea2]; exact (Below.refl _ W1).alloc (Nat.le_refl _) _
  have b2 : Blk W2 p2 26 c.cs.toArray := by rw [← ea2]; exact blk_new W1 _ 26 _ f2
  have q1_2 : p1 < p2 := by rw [← f2]; exact b1.lt
  replace b1 := b1.on ka2
  have kk0 := kk
  replace kk := kk.trans (ka2.mono kk.size)
  have hp2 : w.heap.size ≤ p2 := by rw [← f2]; exact kk0.size
  clear ka2 kk0
  obtain ⟨p3, f3⟩ : ∃ p, W2.heap.size = p := ⟨_, rfl⟩
  obtain ⟨W3, ea3⟩ : ∃ W, W2.alloc (.cells x.cs.toArray 35) = W := ⟨_, rfl⟩
  have ka3 : Below W2.heap.size W2 W3 := by rw [← ea3]; exact (Below.refl _ W2).alloc (Nat.le_refl _) _
  have b3 : Blk W3 p3 35 x.cs.toArray := by rw [← ea3]; exact blk_new W2 _ 35 _ f3
  have q1_3 : p1 < p3 := by rw [← f3]; exact b1.lt
  replace b1 := b1.on ka3
  have q2_3 : p2 < p3 := by rw [← f3]; exact b2.lt
  replace b2 := b2.on ka3
  have kk0 := kk
  replace kk := kk.trans (ka3.mono kk.size)
  have hp3 : w.heap.size ≤ p3 := by rw [← f3]; exact kk0.size
  clear ka3 kk0
  obtain ⟨p4, f4⟩ : ∃ p, W3.heap.size = p := ⟨_, rfl⟩
  obtain ⟨W4, ea4⟩ : ∃ W, W3.alloc (.cells #[.int .i64 0, .int .i64 0, .int .i64 0, .slice none 0 0] 32) = W := ⟨_, rfl⟩
  have ka4 : Below W3.heap.size W3 W4 := by rw [← ea4]; exact (Below.refl _ W3).alloc (Nat.le_refl _) _
  have b4 : Blk W4 p4 32 #[.int .i64 0, .int .i64 0, .int .i64 0, .slice none 0 0] := by rw [← ea4]; exact blk_new W3 _ 32 _ f4
  have q1_4 : p1 < p4 := by rw [← f4]; exact b1.lt
  replace b1 := b1.on ka4
  have q2_4 : p2 < p4 := by rw [← f4]; exact b2.lt
  replace b2 := b2.on ka4
  have q3_4 : p3 < p4 := by rw [← f4]; exact b3.lt
  replace b3 := b3.on ka4
  have kk0 := kk
  replace kk := kk.trans (ka4.mono kk.size)
  have hp4 : w.heap.size ≤ p4 := by rw [← f4]; exact kk0.size
  clear ka4 kk0
  obtain ⟨p5, f5⟩ : ∃ p, W4.heap.size = p := ⟨_, rfl⟩
  obtain ⟨W5, ea5⟩ : ∃ W, W4.alloc (.cells #[.int .i64 0, .int .i64 0, .int .i64 0, .slice none 0 0] 32) = W := ⟨_, rfl⟩
  have ka5 : Below W4.heap.size W4 W5 := by rw [← ea5]; exact (Below.refl _ W4).alloc (Nat.le_refl _) _
  have b5 : Blk W5 p5 32 #[.int .i64 0, .int .i64 0, .int .i64 0, .slice none 0 0] := by rw [← ea5]; exact blk_new W4 _ 32 _ f5
  have q1_5 : p1 < p5 := by rw [← f5]; exact b1.lt
  replace b1 := b1.on ka5
  have q2_5 : p2 < p5 := by rw [← f5]; exact b2.lt
  replace b2 := b2.on ka5
  have q3_5 : p3 < p5 := by rw [← f5]; exact b3.lt
  replace b3 := b3.on ka5
  have q4_5 : p4 < p5 := by rw [← f5]; exact b4.lt
  replace b4 := b4.on ka5
  have kk0 := kk
  replace kk := kk.trans (ka5.mono kk.size)
  have hp5 : w.heap.size ≤ p5 := by rw [← f5]; exact kk0.size
  clear ka5 kk0
  have nB := cut63 h.bg
  have nS := cut63 h.sn
  unfold begK begG begS
  by_cases h1 : c.c = 1
  · by_cases hfu : c.t ≤ (x.bg.n : Int)
    · by_cases hno : sloZ p = 0
      · rw [if_pos h1, if_pos hfu, if_pos hno]
        have t1 : (c.c == 1) = true := beq_iff_eq.2 (by omega)
        have t2 : (c.c == 2) = false := by simpa using (show c.c ≠ 2 by omega)
        have t3 : (c.c == 3) = false := by simpa using (show c.c ≠ 3 by omega)
        have t5 : decide (c.t ≤ (x.bg.n : Int)) = true := decide_eq_true hfu
        have c5_2_0 : W5.cell? ⟨p2, 0, none⟩ = some (.int .i64 c.c) := b2.cell 0
        have c5_2_2 : W5.cell? ⟨p2, 2, none⟩ = some (.int .i64 c.t) := b2.cell 2
        have c5_3_19 : W5.cell? ⟨p3, 19, none⟩ = some (.slice x.bg.A x.bg.n x.bg.cap) := b3.cell 19
        have c5_3_20 : W5.cell? ⟨p3, 20, none⟩ = some (.slice x.sn.A x.sn.n x.sn.cap) := b3.cell 20
        have c5_5_0 : W5.cell? ⟨p5, 0, none⟩ = some (.int .i64 0) := b5.cell 0
        have fr5_5_0 := b5.free 0
        obtain ⟨W6, es6⟩ : ∃ W, W5.setCell ⟨p5, 0, none⟩ (.int .i64 2) = W := ⟨_, rfl⟩
        replace b1 := set_far b1 es6 (by omega)
        replace b2 := set_far b2 es6 (by omega)
        replace b3 := set_far b3 es6 (by omega)
        replace b4 := set_far b4 es6 (by omega)
        replace b5 : Blk W6 p5 32 (miK 2).cs.toArray := set_named b5 es6 rfl
        replace kk := kk.trans (set_below es6 hp5 kk.size)
        have c6_2_0 : W6.cell? ⟨p2, 0, none⟩ = some (.int .i64 c.c) := b2.cell 0
        have c6_2_2 : W6.cell? ⟨p2, 2, none⟩ = some (.int .i64 c.t) := b2.cell 2
        have c6_3_19 : W6.cell? ⟨p3, 19, none⟩ = some (.slice x.bg.A x.bg.n x.bg.cap) := b3.cell 19
        have c6_3_20 : W6.cell? ⟨p3, 20, none⟩ = some (.slice x.sn.A x.sn.n x.sn.cap) := b3.cell 20
        have d1 := refslots_any p hp W6
        have t8 : (sloZ p == 0) = true := beq_iff_eq.2 hno
        go_enter Try.func11, Try.ntmps11
        go_wp2_with (((with_reducible refine at_load 24 (.tmp 3) ?_); refine wpList_load_row rfl 24 (.tmp 3) rfl p1 rfl 24 p.cs.toArray (0, 0) _ b1 Try.underlying24 rfl size24 ?_))
        refine (d1).mono ?_
        rintro e W7 ⟨rfl, k1⟩
        clear c5_2_0 c5_2_2 c5_3_19 c5_3_20 c5_5_0 fr5_5_0 c6_2_0 c6_2_2 c6_3_19 c6_3_20
        replace b1 := b1.on k1
        replace b2 := b2.on k1
        replace b3 := b3.on k1
        replace b4 := b4.on k1
        replace b5 := b5.on k1
        replace kk := kk.trans (k1.mono kk.size)
        clear k1
        have c7_2_0 : W7.cell? ⟨p2, 0, none⟩ = some (.int .i64 c.c) := b2.cell 0
        have c7_2_2 : W7.cell? ⟨p2, 2, none⟩ = some (.int .i64 c.t) := b2.cell 2
        have c7_3_19 : W7.cell? ⟨p3, 19, none⟩ = some (.slice x.bg.A x.bg.n x.bg.cap) := b3.cell 19
        have c7_3_20 : W7.cell? ⟨p3, 20, none⟩ = some (.slice x.sn.A x.sn.n x.sn.cap) := b3.cell 20
        have c7_5_0 : W7.cell? ⟨p5, 0, none⟩ = some (.int .i64 2) := b5.cell 0
        have fr7_5_0 := b5.free 0
        obtain ⟨W8, es8⟩ : ∃ W, W7.setCell ⟨p5, 0, none⟩ (.int .i64 3) = W := ⟨_, rfl⟩
        replace b1 := set_far b1 es8 (by omega)
        replace b2 := set_far b2 es8 (by omega)
        replace b3 := set_far b3 es8 (by omega)
        replace b4 := set_far b4 es8 (by omega)
        replace b5 : Blk W8 p5 32 (miK 3).cs.toArray := set_named b5 es8 rfl
        replace kk := kk.trans (set_below es8 hp5 kk.size)
        have c8_2_0 : W8.cell? ⟨p2, 0, none⟩ = some (.int .i64 c.c) := b2.cell 0
        have c8_2_2 : W8.cell? ⟨p2, 2, none⟩ = some (.int .i64 c.t) := b2.cell 2
        have c8_3_19 : W8.cell? ⟨p3, 19, none⟩ = some (.slice x.bg.A x.bg.n x.bg.cap) := b3.cell 19
        have c8_3_20 : W8.cell? ⟨p3, 20, none⟩ = some (.slice x.sn.A x.sn.n x.sn.cap) := b3.cell 20
        have lb : Blk W8 p5 32 (miK 3).cs.toArray := b5
        obtain ⟨W9, es9⟩ : ∃ W, W8.setRow p4 (miK 3).cs.toArray = W := ⟨_, rfl⟩
        have bo4 := b4
        replace b1 := row_far b1 es9 (by omega)
        replace b2 := row_far b2 es9 (by omega)
        replace b3 := row_far b3 es9 (by omega)
        replace b5 := row_far b5 es9 (by omega)
        replace b4 : Blk W9 p4 32 (miK 3).cs.toArray := row_named b4 es9
        replace kk := kk.trans (row_below es9 hp4 kk.size)
        go_wp2_with (first | ((with_reducible refine at_load 32 (.tmp 7) ?_); refine wpList_load_row rfl 32 (.tmp 7) rfl p5 rfl 32 (miK 3).cs.toArray (0, 0) _ lb Try.underlying32 rfl size32 ?_) | ((with_reducible refine at_store 32 (.tmp 6) (.tmp 46) ?_); refine wpList_store_row rfl 32 (.tmp 6) (.tmp 46) rfl p4 (miK 3).cs.toArray rfl rfl 32 #[.int .i64 0, .int .i64 0, .int .i64 0, .slice none 0 0] bo4 size32 rfl (Mi.onea _) ?_))
        try rw [es9]
        refine bodyPost_ret (results_cell_row (cs := (miK 3).cs.toArray) rfl _ _ p4 32 (0, 0) _ rfl b4 Try.underlying32 rfl size32) rfl ?_
        first | exact ⟨rfl, kk⟩ | (rw [f1] at kk; exact ⟨rfl, kk⟩)
      · rw [if_pos h1, if_pos hfu, if_neg hno]
        have t1 : (c.c == 1) = true := beq_iff_eq.2 (by omega)
        have t2 : (c.c == 2) = false := by simpa using (show c.c ≠ 2 by omega)
        have t3 : (c.c == 3) = false := by simpa using (show c.c ≠ 3 by omega)
        have t5 : decide (c.t ≤ (x.bg.n : Int)) = true := decide_eq_true hfu
        have c5_2_0 : W5.cell? ⟨p2, 0, none⟩ = some (.int .i64 c.c) := b2.cell 0
        have c5_2_2 : W5.cell? ⟨p2, 2, none⟩ = some (.int .i64 c.t) := b2.cell 2
        have c5_3_19 : W5.cell? ⟨p3, 19, none⟩ = some (.slice x.bg.A x.bg.n x.bg.cap) := b3.cell 19
        have c5_3_20 : W5.cell? ⟨p3, 20, none⟩ = some (.slice x.sn.A x.sn.n x.sn.cap) := b3.cell 20
        have c5_5_0 : W5.cell? ⟨p5, 0, none⟩ = some (.int .i64 0) := b5.cell 0
        have fr5_5_0 := b5.free 0
        obtain ⟨W6, es6⟩ : ∃ W, W5.setCell ⟨p5, 0, none⟩ (.int .i64 2) = W := ⟨_, rfl⟩
        replace b1 := set_far b1 es6 (by omega)
        replace b2 := set_far b2 es6 (by omega)
        replace b3 := set_far b3 es6 (by omega)
        replace b4 := set_far b4 es6 (by omega)
        replace b5 : Blk W6 p5 32 (miK 2).cs.toArray := set_named b5 es6 rfl
        replace kk := kk.trans (set_below es6 hp5 kk.size)
        have c6_2_0 : W6.cell? ⟨p2, 0, none⟩ = some (.int .i64 c.c) := b2.cell 0
        have c6_2_2 : W6.cell? ⟨p2, 2, none⟩ = some (.int .i64 c.t) := b2.cell 2
        have c6_3_19 : W6.cell? ⟨p3, 19, none⟩ = some (.slice x.bg.A x.bg.n x.bg.cap) := b3.cell 19
        have c6_3_20 : W6.cell? ⟨p3, 20, none⟩ = some (.slice x.sn.A x.sn.n x.sn.cap) := b3.cell 20
        have d1 := refslots_any p hp W6
        have t8 : (sloZ p == 0) = false := by simpa using hno
        go_enter Try.func11, Try.ntmps11
        go_wp2_with (((with_reducible refine at_load 24 (.tmp 3) ?_); refine wpList_load_row rfl 24 (.tmp 3) rfl p1 rfl 24 p.cs.toArray (0, 0) _ b1 Try.underlying24 rfl size24 ?_))
        refine (d1).mono ?_
        rintro e W7 ⟨rfl, k1⟩
        clear c5_2_0 c5_2_2 c5_3_19 c5_3_20 c5_5_0 fr5_5_0 c6_2_0 c6_2_2 c6_3_19 c6_3_20
        replace b1 := b1.on k1
        replace b2 := b2.on k1
        replace b3 := b3.on k1
        replace b4 := b4.on k1
        replace b5 := b5.on k1
        replace kk := kk.trans (k1.mono kk.size)
        clear k1
        have c7_2_0 : W7.cell? ⟨p2, 0, none⟩ = some (.int .i64 c.c) := b2.cell 0
        have c7_2_2 : W7.cell? ⟨p2, 2, none⟩ = some (.int .i64 c.t) := b2.cell 2
        have c7_3_19 : W7.cell? ⟨p3, 19, none⟩ = some (.slice x.bg.A x.bg.n x.bg.cap) := b3.cell 19
        have c7_3_20 : W7.cell? ⟨p3, 20, none⟩ = some (.slice x.sn.A x.sn.n x.sn.cap) := b3.cell 20
        have lb : Blk W7 p5 32 (miK 2).cs.toArray := b5
        obtain ⟨W8, es8⟩ : ∃ W, W7.setRow p4 (miK 2).cs.toArray = W := ⟨_, rfl⟩
        have bo4 := b4
        replace b1 := row_far b1 es8 (by omega)
        replace b2 := row_far b2 es8 (by omega)
        replace b3 := row_far b3 es8 (by omega)
        replace b5 := row_far b5 es8 (by omega)
        replace b4 : Blk W8 p4 32 (miK 2).cs.toArray := row_named b4 es8
        replace kk := kk.trans (row_below es8 hp4 kk.size)
        go_wp2_with (first | ((with_reducible refine at_load 32 (.tmp 7) ?_); refine wpList_load_row rfl 32 (.tmp 7) rfl p5 rfl 32 (miK 2).cs.toArray (0, 0) _ lb Try.underlying32 rfl size32 ?_) | ((with_reducible refine at_store 32 (.tmp 6) (.tmp 46) ?_); refine wpList_store_row rfl 32 (.tmp 6) (.tmp 46) rfl p4 (miK 2).cs.toArray rfl rfl 32 #[.int .i64 0, .int .i64 0, .int .i64 0, .slice none 0 0] bo4 size32 rfl (Mi.onea _) ?_))
        try rw [es8]
        refine bodyPost_ret (results_cell_row (cs := (miK 2).cs.toArray) rfl _ _ p4 32 (0, 0) _ rfl b4 Try.underlying32 rfl size32) rfl ?_
        first | exact ⟨rfl, kk⟩ | (rw [f1] at kk; exact ⟨rfl, kk⟩)
    · rw [if_pos h1, if_neg hfu]
      have t1 : (c.c == 1) = true := beq_iff_eq.2 (by omega)
      have t2 : (c.c == 2) = false := by simpa using (show c.c ≠ 2 by omega)
      have t3 : (c.c == 3) = false := by simpa using (show c.c ≠ 3 by omega)
      have t5 : decide (c.t ≤ (x.bg.n : Int)) = false := decide_eq_false hfu
      have c5_2_0 : W5.cell? ⟨p2, 0, none⟩ = some (.int .i64 c.c) := b2.cell 0
      have c5_2_2 : W5.cell? ⟨p2, 2, none⟩ = some (.int .i64 c.t) := b2.cell 2
      have c5_3_19 : W5.cell? ⟨p3, 19, none⟩ = some (.slice x.bg.A x.bg.n x.bg.cap) := b3.cell 19
      have c5_3_20 : W5.cell? ⟨p3, 20, none⟩ = some (.slice x.sn.A x.sn.n x.sn.cap) := b3.cell 20
      go_enter Try.func11, Try.ntmps11
      have lb : Blk W5 p5 32 (miK 0).cs.toArray := b5
      obtain ⟨W6, es6⟩ : ∃ W, W5.setRow p4 (miK 0).cs.toArray = W := ⟨_, rfl⟩
      have bo4 := b4
      replace b1 := row_far b1 es6 (by omega)
      replace b2 := row_far b2 es6 (by omega)
      replace b3 := row_far b3 es6 (by omega)
      replace b5 := row_far b5 es6 (by omega)
      replace b4 : Blk W6 p4 32 (miK 0).cs.toArray := row_named b4 es6
      replace kk := kk.trans (row_below es6 hp4 kk.size)
      go_wp2_with (first | ((with_reducible refine at_load 32 (.tmp 7) ?_); refine wpList_load_row rfl 32 (.tmp 7) rfl p5 rfl 32 (miK 0).cs.toArray (0, 0) _ lb Try.underlying32 rfl size32 ?_) | ((with_reducible refine at_store 32 (.tmp 6) (.tmp 46) ?_); refine wpList_store_row rfl 32 (.tmp 6) (.tmp 46) rfl p4 (miK 0).cs.toArray rfl rfl 32 #[.int .i64 0, .int .i64 0, .int .i64 0, .slice none 0 0] bo4 size32 rfl (Mi.onea _) ?_))
      try rw [es6]
      refine bodyPost_ret (results_cell_row (cs := (miK 0).cs.toArray) rfl _ _ p4 32 (0, 0) _ rfl b4 Try.underlying32 rfl size32) rfl ?_
      first | exact ⟨rfl, kk⟩ | (rw [f1] at kk; exact ⟨rfl, kk⟩)
  · by_cases h2 : c.c = 2
    · rw [if_neg h1, if_pos h2]
      have t1 : (c.c == 1) = false := by simpa using (show c.c ≠ 1 by omega)
      have t2 : (c.c == 2) = true := beq_iff_eq.2 (by omega)
      have t3 : (c.c == 3) = false := by simpa using (show c.c ≠ 3 by omega)
      have c5_2_0 : W5.cell? ⟨p2, 0, none⟩ = some (.int .i64 c.c) := b2.cell 0
      have c5_2_2 : W5.cell? ⟨p2, 2, none⟩ = some (.int .i64 c.t) := b2.cell 2
      have c5_3_19 : W5.cell? ⟨p3, 19, none⟩ = some (.slice x.bg.A x.bg.n x.bg.cap) := b3.cell 19
      have c5_3_20 : W5.cell? ⟨p3, 20, none⟩ = some (.slice x.sn.A x.sn.n x.sn.cap) := b3.cell 20
      have c5_5_0 : W5.cell? ⟨p5, 0, none⟩ = some (.int .i64 0) := b5.cell 0
      have fr5_5_0 := b5.free 0
      obtain ⟨W6, es6⟩ : ∃ W, W5.setCell ⟨p5, 0, none⟩ (.int .i64 4) = W := ⟨_, rfl⟩
      replace b1 := set_far b1 es6 (by omega)
      replace b2 := set_far b2 es6 (by omega)
      replace b3 := set_far b3 es6 (by omega)
      replace b4 := set_far b4 es6 (by omega)
      replace b5 : Blk W6 p5 32 (miK 4).cs.toArray := set_named b5 es6 rfl
      replace kk := kk.trans (set_below es6 hp5 kk.size)
      have c6_2_0 : W6.cell? ⟨p2, 0, none⟩ = some (.int .i64 c.c) := b2.cell 0
      have c6_2_2 : W6.cell? ⟨p2, 2, none⟩ = some (.int .i64 c.t) := b2.cell 2
      have c6_3_19 : W6.cell? ⟨p3, 19, none⟩ = some (.slice x.bg.A x.bg.n x.bg.cap) := b3.cell 19
      have c6_3_20 : W6.cell? ⟨p3, 20, none⟩ = some (.slice x.sn.A x.sn.n x.sn.cap) := b3.cell 20
      go_enter Try.func11, Try.ntmps11
      have lb : Blk W6 p5 32 (miK 4).cs.toArray := b5
      obtain ⟨W7, es7⟩ : ∃ W, W6.setRow p4 (miK 4).cs.toArray = W := ⟨_, rfl⟩
      have bo4 := b4
      replace b1 := row_far b1 es7 (by omega)
      replace b2 := row_far b2 es7 (by omega)
      replace b3 := row_far b3 es7 (by omega)
      replace b5 := row_far b5 es7 (by omega)
      replace b4 : Blk W7 p4 32 (miK 4).cs.toArray := row_named b4 es7
      replace kk := kk.trans (row_below es7 hp4 kk.size)
      go_wp2_with (first | ((with_reducible refine at_load 32 (.tmp 7) ?_); refine wpList_load_row rfl 32 (.tmp 7) rfl p5 rfl 32 (miK 4).cs.toArray (0, 0) _ lb Try.underlying32 rfl size32 ?_) | ((with_reducible refine at_store 32 (.tmp 6) (.tmp 46) ?_); refine wpList_store_row rfl 32 (.tmp 6) (.tmp 46) rfl p4 (miK 4).cs.toArray rfl rfl 32 #[.int .i64 0, .int .i64 0, .int .i64 0, .slice none 0 0] bo4 size32 rfl (Mi.onea _) ?_))
      try rw [es7]
      refine bodyPost_ret (results_cell_row (cs := (miK 4).cs.toArray) rfl _ _ p4 32 (0, 0) _ rfl b4 Try.underlying32 rfl size32) rfl ?_
      first | exact ⟨rfl, kk⟩ | (rw [f1] at kk; exact ⟨rfl, kk⟩)
    · by_cases h3 : c.c = 3
      · by_cases hfu : c.t ≤ (x.bg.n : Int)
        · by_cases hsn : (0 : Int) < x.sn.n
          · rw [if_neg h1, if_neg h2, if_pos h3, if_pos hfu, if_pos hsn]
            have t1 : (c.c == 1) = false := by simpa using (show c.c ≠ 1 by omega)
            have t2 : (c.c == 2) = false := by simpa using (show c.c ≠ 2 by omega)
            have t3 : (c.c == 3) = true := beq_iff_eq.2 (by omega)
            have t5 : decide (c.t ≤ (x.bg.n : Int)) = true := decide_eq_true hfu
            have t6 : (x.sn.n == 0) = false := by simpa using (show x.sn.n ≠ 0 by omega)
            have t7 : ((x.sn.n : Int) == 0) = (x.sn.n == 0) := by rw [Bool.eq_iff_iff, beq_iff_eq, beq_iff_eq]; omega
            rw [t6] at t7
            have c5_2_0 : W5.cell? ⟨p2, 0, none⟩ = some (.int .i64 c.c) := b2.cell 0
            have c5_2_2 : W5.cell? ⟨p2, 2, none⟩ = some (.int .i64 c.t) := b2.cell 2
            have c5_3_19 : W5.cell? ⟨p3, 19, none⟩ = some (.slice x.bg.A x.bg.n x.bg.cap) := b3.cell 19
            have c5_3_20 : W5.cell? ⟨p3, 20, none⟩ = some (.slice x.sn.A x.sn.n x.sn.cap) := b3.cell 20
            go_enter Try.func11, Try.ntmps11
            have lb : Blk W5 p5 32 (miK 0).cs.toArray := b5
            obtain ⟨W6, es6⟩ : ∃ W, W5.setRow p4 (miK 0).cs.toArray = W := ⟨_, rfl⟩
            have bo4 := b4
            replace b1 := row_far b1 es6 (by omega)
            replace b2 := row_far b2 es6 (by omega)
            replace b3 := row_far b3 es6 (by omega)
            replace b5 := row_far b5 es6 (by omega)
            replace b4 : Blk W6 p4 32 (miK 0).cs.toArray := row_named b4 es6
            replace kk := kk.trans (row_below es6 hp4 kk.size)
            go_wp2_with (first | ((with_reducible refine at_load 32 (.tmp 7) ?_); refine wpList_load_row rfl 32 (.tmp 7) rfl p5 rfl 32 (miK 0).cs.toArray (0, 0) _ lb Try.underlying32 rfl size32 ?_) | ((with_reducible refine at_store 32 (.tmp 6) (.tmp 46) ?_); refine wpList_store_row rfl 32 (.tmp 6) (.tmp 46) rfl p4 (miK 0).cs.toArray rfl rfl 32 #[.int .i64 0, .int .i64 0, .int .i64 0, .slice none 0 0] bo4 size32 rfl (Mi.onea _) ?_))
            try rw [es6]
            refine bodyPost_ret (results_cell_row (cs := (miK 0).cs.toArray) rfl _ _ p4 32 (0, 0) _ rfl b4 Try.underlying32 rfl size32) rfl ?_
            first | exact ⟨rfl, kk⟩ | (rw [f1] at kk; exact ⟨rfl, kk⟩)
          · rw [if_neg h1, if_neg h2, if_pos h3, if_pos hfu, if_neg hsn]
            have t1 : (c.c == 1) = false := by simpa using (show c.c ≠ 1 by omega)
            have t2 : (c.c == 2) = false := by simpa using (show c.c ≠ 2 by omega)
            have t3 : (c.c == 3) = true := beq_iff_eq.2 (by omega)
            have t5 : decide (c.t ≤ (x.bg.n : Int)) = true := decide_eq_true hfu
            have t6 : (x.sn.n == 0) = true := beq_iff_eq.2 (by omega)
            have t7 : ((x.sn.n : Int) == 0) = (x.sn.n == 0) := by rw [Bool.eq_iff_iff, beq_iff_eq, beq_iff_eq]; omega
            rw [t6] at t7
            have c5_2_0 : W5.cell? ⟨p2, 0, none⟩ = some (.int .i64 c.c) := b2.cell 0
            have c5_2_2 : W5.cell? ⟨p2, 2, none⟩ = some (.int .i64 c.t) := b2.cell 2
            have c5_3_19 : W5.cell? ⟨p3, 19, none⟩ = some (.slice x.bg.A x.bg.n x.bg.cap) := b3.cell 19
            have c5_3_20 : W5.cell? ⟨p3, 20, none⟩ = some (.slice x.sn.A x.sn.n x.sn.cap) := b3.cell 20
            have c5_5_0 : W5.cell? ⟨p5, 0, none⟩ = some (.int .i64 0) := b5.cell 0
            have fr5_5_0 := b5.free 0
            obtain ⟨W6, es6⟩ : ∃ W, W5.setCell ⟨p5, 0, none⟩ (.int .i64 7) = W := ⟨_, rfl⟩
            replace b1 := set_far b1 es6 (by omega)
            replace b2 := set_far b2 es6 (by omega)
            replace b3 := set_far b3 es6 (by omega)
            replace b4 := set_far b4 es6 (by omega)
            replace b5 : Blk W6 p5 32 (miK 7).cs.toArray := set_named b5 es6 rfl
            replace kk := kk.trans (set_below es6 hp5 kk.size)
            have c6_2_0 : W6.cell? ⟨p2, 0, none⟩ = some (.int .i64 c.c) := b2.cell 0
            have c6_2_2 : W6.cell? ⟨p2, 2, none⟩ = some (.int .i64 c.t) := b2.cell 2
            have c6_3_19 : W6.cell? ⟨p3, 19, none⟩ = some (.slice x.bg.A x.bg.n x.bg.cap) := b3.cell 19
            have c6_3_20 : W6.cell? ⟨p3, 20, none⟩ = some (.slice x.sn.A x.sn.n x.sn.cap) := b3.cell 20
            go_enter Try.func11, Try.ntmps11
            have lb : Blk W6 p5 32 (miK 7).cs.toArray := b5
            obtain ⟨W7, es7⟩ : ∃ W, W6.setRow p4 (miK 7).cs.toArray = W := ⟨_, rfl⟩
            have bo4 := b4
            replace b1 := row_far b1 es7 (by omega)
            replace b2 := row_far b2 es7 (by omega)
            replace b3 := row_far b3 es7 (by omega)
            replace b5 := row_far b5 es7 (by omega)
            replace b4 : Blk W7 p4 32 (miK 7).cs.toArray := row_named b4 es7
            replace kk := kk.trans (row_below es7 hp4 kk.size)
            go_wp2_with (first | ((with_reducible refine at_load 32 (.tmp 7) ?_); refine wpList_load_row rfl 32 (.tmp 7) rfl p5 rfl 32 (miK 7).cs.toArray (0, 0) _ lb Try.underlying32 rfl size32 ?_) | ((with_reducible refine at_store 32 (.tmp 6) (.tmp 46) ?_); refine wpList_store_row rfl 32 (.tmp 6) (.tmp 46) rfl p4 (miK 7).cs.toArray rfl rfl 32 #[.int .i64 0, .int .i64 0, .int .i64 0, .slice none 0 0] bo4 size32 rfl (Mi.onea _) ?_))
            try rw [es7]
            refine bodyPost_ret (results_cell_row (cs := (miK 7).cs.toArray) rfl _ _ p4 32 (0, 0) _ rfl b4 Try.underlying32 rfl size32) rfl ?_
            first | exact ⟨rfl, kk⟩ | (rw [f1] at kk; exact ⟨rfl, kk⟩)
        · rw [if_neg h1, if_neg h2, if_pos h3, if_neg hfu]
          have t1 : (c.c == 1) = false := by simpa using (show c.c ≠ 1 by omega)
          have t2 : (c.c == 2) = false := by simpa using (show c.c ≠ 2 by omega)
          have t3 : (c.c == 3) = true := beq_iff_eq.2 (by omega)
          have t5 : decide (c.t ≤ (x.bg.n : Int)) = false := decide_eq_false hfu
          have t7 : ((x.sn.n : Int) == 0) = (x.sn.n == 0) := by rw [Bool.eq_iff_iff, beq_iff_eq, beq_iff_eq]; omega
          clear t7
          have c5_2_0 : W5.cell? ⟨p2, 0, none⟩ = some (.int .i64 c.c) := b2.cell 0
          have c5_2_2 : W5.cell? ⟨p2, 2, none⟩ = some (.int .i64 c.t) := b2.cell 2
          have c5_3_19 : W5.cell? ⟨p3, 19, none⟩ = some (.slice x.bg.A x.bg.n x.bg.cap) := b3.cell 19
          have c5_3_20 : W5.cell? ⟨p3, 20, none⟩ = some (.slice x.sn.A x.sn.n x.sn.cap) := b3.cell 20
          go_enter Try.func11, Try.ntmps11
          have lb : Blk W5 p5 32 (miK 0).cs.toArray := b5
          obtain ⟨W6, es6⟩ : ∃ W, W5.setRow p4 (miK 0).cs.toArray = W := ⟨_, rfl⟩
          have bo4 := b4
          replace b1 := row_far b1 es6 (by omega)
          replace b2 := row_far b2 es6 (by omega)
          replace b3 := row_far b3 es6 (by omega)
          replace b5 := row_far b5 es6 (by omega)
          replace b4 : Blk W6 p4 32 (miK 0).cs.toArray := row_named b4 es6
          replace kk := kk.trans (row_below es6 hp4 kk.size)
          go_wp2_with (first | ((with_reducible refine at_load 32 (.tmp 7) ?_); refine wpList_load_row rfl 32 (.tmp 7) rfl p5 rfl 32 (miK 0).cs.toArray (0, 0) _ lb Try.underlying32 rfl size32 ?_) | ((with_reducible refine at_store 32 (.tmp 6) (.tmp 46) ?_); refine wpList_store_row rfl 32 (.tmp 6) (.tmp 46) rfl p4 (miK 0).cs.toArray rfl rfl 32 #[.int .i64 0, .int .i64 0, .int .i64 0, .slice none 0 0] bo4 size32 rfl (Mi.onea _) ?_))
          try rw [es6]
          refine bodyPost_ret (results_cell_row (cs := (miK 0).cs.toArray) rfl _ _ p4 32 (0, 0) _ rfl b4 Try.underlying32 rfl size32) rfl ?_
          first | exact ⟨rfl, kk⟩ | (rw [f1] at kk; exact ⟨rfl, kk⟩)
      · rw [if_neg h1, if_neg h2, if_neg h3]
        have t1 : (c.c == 1) = false := by simpa using (show c.c ≠ 1 by omega)
        have t2 : (c.c == 2) = false := by simpa using (show c.c ≠ 2 by omega)
        have t3 : (c.c == 3) = false := by simpa using (show c.c ≠ 3 by omega)
        have c5_2_0 : W5.cell? ⟨p2, 0, none⟩ = some (.int .i64 c.c) := b2.cell 0
        have c5_2_2 : W5.cell? ⟨p2, 2, none⟩ = some (.int .i64 c.t) := b2.cell 2
        have c5_3_19 : W5.cell? ⟨p3, 19, none⟩ = some (.slice x.bg.A x.bg.n x.bg.cap) := b3.cell 19
        have c5_3_20 : W5.cell? ⟨p3, 20, none⟩ = some (.slice x.sn.A x.sn.n x.sn.cap) := b3.cell 20
        go_enter Try.func11, Try.ntmps11
        have lb : Blk W5 p5 32 (miK 0).cs.toArray := b5
        obtain ⟨W6, es6⟩ : ∃ W, W5.setRow p4 (miK 0).cs.toArray = W := ⟨_, rfl⟩
        have bo4 := b4
        replace b1 := row_far b1 es6 (by omega)
        replace b2 := row_far b2 es6 (by omega)
        replace b3 := row_far b3 es6 (by omega)
        replace b5 := row_far b5 es6 (by omega)
        replace b4 : Blk W6 p4 32 (miK 0).cs.toArray := row_named b4 es6
        replace kk := kk.trans (row_below es6 hp4 kk.size)
        go_wp2_with (first | ((with_reducible refine at_load 32 (.tmp 7) ?_); refine wpList_load_row rfl 32 (.tmp 7) rfl p5 rfl 32 (miK 0).cs.toArray (0, 0) _ lb Try.underlying32 rfl size32 ?_) | ((with_reducible refine at_store 32 (.tmp 6) (.tmp 46) ?_); refine wpList_store_row rfl 32 (.tmp 6) (.tmp 46) rfl p4 (miK 0).cs.toArray rfl rfl 32 #[.int .i64 0, .int .i64 0, .int .i64 0, .slice none 0 0] bo4 size32 rfl (Mi.onea _) ?_))
        try rw [es6]
        refine bodyPost_ret (results_cell_row (cs := (miK 0).cs.toArray) rfl _ _ p4 32 (0, 0) _ rfl b4 Try.underlying32 rfl size32) rfl ?_
        first | exact ⟨rfl, kk⟩ | (rw [f1] at kk; exact ⟨rfl, kk⟩)
end Go.Proofs.Ytllcgidachbnlaa
