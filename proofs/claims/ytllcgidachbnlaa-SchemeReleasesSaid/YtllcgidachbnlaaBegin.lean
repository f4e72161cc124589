/- How a micro begins, by the program and by the plain answer. Conditions: lists have room. -/
import Derived.Test.YtllcgidachbnlaaAmount
namespace Go.Proofs.Ytllcgidachbnlaa
open Go.RowKit Go.ChangeShapes Go.WideShapes Go.Great

def miK (k : Int) : Mi := ⟨k, 0, 0, noS⟩
theorem cut63 {s : Sl} (hn : s.n ≤ maxLen) : (s.n : Int) ≤ 9223372036854775807 := by
  unfold maxLen at hn
  omega
/-- The lists of a thread are not too long. -/
structure Th.Ok (x : Th) : Prop where
  se : x.se.n ≤ maxLen
  bg : x.bg.n ≤ maxLen
  sn : x.sn.n ≤ maxLen
theorem Reads.ok {w : World} {x : Th} {z s : List Int} {l : List Bg} (h : Reads w x z l s) : x.Ok :=
  ⟨Nat.le_trans (Sees.room h.se) (Sees.most h.se), Nat.le_trans (Sees.room h.bg) (Sees.most h.bg), Nat.le_trans (Sees.room h.sn) (Sees.most h.sn)⟩
set_option maxRecDepth 100000 in
set_option maxHeartbeats 4000000 in
theorem has_any (x : Th) (h : x.Ok) (w : World) : Calls Try.prog 28 #[.agg x.cs.toArray] w fun e w' => e = .returned (.bool (decide (0 < x.sn.n))) ∧ Below w.heap.size w w' := by
  obtain ⟨p1, f1⟩ : ∃ p, w.heap.size = p := ⟨_, rfl⟩
  obtain ⟨W1, ea1⟩ : ∃ W, w.alloc (.cells x.cs.toArray 35) = W := ⟨_, rfl⟩
  have ka1 : Below w.heap.size w W1 := by rw [← ea1]; exact (Below.refl _ w).alloc (Nat.le_refl _) _
  have b1 : Blk W1 p1 35 x.cs.toArray := by rw [← ea1]; exact blk_new w _ 35 _ f1
  have kk : Below w.heap.size w W1 := ka1
  have hp1 : w.heap.size ≤ p1 := Nat.le_of_eq f1
  clear ka1
  have c1_1_20 : W1.cell? ⟨p1, 20, none⟩ = some (.slice x.sn.A x.sn.n x.sn.cap) := b1.cell 20
  have hn63 := cut63 h.sn
  go_enter Try.func28, Try.ntmps28
  go_wp2
  go_ret
  first | exact ⟨rfl, kk⟩ | (rw [f1] at kk; exact ⟨rfl, kk⟩)
set_option maxRecDepth 100000 in
set_option maxHeartbeats 4000000 in
theorem full_any (c : Cf) (x : Th) (h : x.Ok) (w : World) : Calls Try.prog 41 #[.agg c.cs.toArray, .agg x.cs.toArray] w fun e w' => e = .returned (.bool (decide (c.t ≤ (x.bg.n : Int)))) ∧ Below w.heap.size w w' := by
  obtain ⟨p1, f1⟩ : ∃ p, w.heap.size = p := ⟨_, rfl⟩
  obtain ⟨W1, ea1⟩ : ∃ W, w.alloc (.cells c.cs.toArray 26) = W := ⟨_, rfl⟩
  have ka1 : Below w.heap.size w W1 := by rw [← ea1]; exact (Below.refl _ w).alloc (Nat.le_refl _) _
  have b1 : Blk W1 p1 26 c.cs.toArray := by rw [← ea1]; exact blk_new w _ 26 _ f1
  have kk : Below w.heap.size w W1 := ka1
  have hp1 : w.heap.size ≤ p1 := Nat.le_of_eq f1
  clear ka1
  obtain ⟨p2, f2⟩ : ∃ p, W1.heap.size = p := ⟨_, rfl⟩
  obtain ⟨W2, ea2⟩ : ∃ W, W1.alloc (.cells x.cs.toArray 35) = W := ⟨_, rfl⟩
  have ka2 : Below W1.heap.size W1 W2 := by rw [← ea2]; exact (Below.refl _ W1).alloc (Nat.le_refl _) _
  have b2 : Blk W2 p2 35 x.cs.toArray := by rw [← ea2]; exact blk_new W1 _ 35 _ f2
  have q1_2 : p1 < p2 := by rw [← f2]; exact b1.lt
  replace b1 := b1.on ka2
  have kk0 := kk
  replace kk := kk.trans (ka2.mono kk.size)
  have hp2 : w.heap.size ≤ p2 := by rw [← f2]; exact kk0.size
  clear ka2 kk0
  have c2_1_2 : W2.cell? ⟨p1, 2, none⟩ = some (.int .i64 c.t) := b1.cell 2
  have c2_2_19 : W2.cell? ⟨p2, 19, none⟩ = some (.slice x.bg.A x.bg.n x.bg.cap) := b2.cell 19
  have hn63 := cut63 h.bg
  go_enter Try.func41, Try.ntmps41
  go_wp2
  go_ret
  first | exact ⟨rfl, kk⟩ | (rw [f1] at kk; exact ⟨rfl, kk⟩)
set_option maxRecDepth 100000 in
set_option maxHeartbeats 4000000 in
theorem none_any (w : World) : Calls Try.prog 25 #[] w fun e w' => e = .returned (.agg (miK 0).cs.toArray) ∧ Below w.heap.size w w' := by
  obtain ⟨p1, f1⟩ : ∃ p, w.heap.size = p := ⟨_, rfl⟩
  obtain ⟨W1, ea1⟩ : ∃ W, w.alloc (.cells #[.int .i64 0, .int .i64 0, .int .i64 0, .slice none 0 0] 32) = W := ⟨_, rfl⟩
  have ka1 : Below w.heap.size w W1 := by rw [← ea1]; exact (Below.refl _ w).alloc (Nat.le_refl _) _
  have b1 : Blk W1 p1 32 #[.int .i64 0, .int .i64 0, .int .i64 0, .slice none 0 0] := by rw [← ea1]; exact blk_new w _ 32 _ f1
  have kk : Below w.heap.size w W1 := ka1
  have hp1 : w.heap.size ≤ p1 := Nat.le_of_eq f1
  clear ka1
  obtain ⟨W2, es2⟩ : ∃ W, W1.setRow p1 (miK 0).cs.toArray = W := ⟨_, rfl⟩
  have bo1 := b1
  replace b1 : Blk W2 p1 32 (miK 0).cs.toArray := row_named b1 es2
  replace kk := kk.trans (row_below es2 hp1 kk.size)
  go_enter Try.func25, Try.ntmps25
  go_wp2_with (((with_reducible refine at_store 32 (.tmp 0) (.tmp 1) ?_); refine wpList_store_row rfl 32 (.tmp 0) (.tmp 1) rfl p1 (miK 0).cs.toArray rfl rfl 32 #[.int .i64 0, .int .i64 0, .int .i64 0, .slice none 0 0] bo1 size32 rfl (Mi.onea _) ?_))
  rw [es2]
  refine bodyPost_ret (results_cell_row (cs := (miK 0).cs.toArray) rfl _ _ p1 32 (0, 0) _ rfl b1 Try.underlying32 rfl size32) rfl ?_
  first | exact ⟨rfl, kk⟩ | (rw [f1] at kk; exact ⟨rfl, kk⟩)
/-- Which micro begins, by guards; by a snapshot. -/
def begG (p : Pg) (c : Cf) (x : Th) : Int := if c.t ≤ (x.bg.n : Int) then (if sloZ p = 0 then 3 else 2) else 0
def begS (c : Cf) (x : Th) : Int := if c.t ≤ (x.bg.n : Int) then (if (0 : Int) < x.sn.n then 0 else 7) else 0
set_option maxRecDepth 100000 in
set_option maxHeartbeats 4000000 in
theorem begG_any (p : Pg) (c : Cf) (x : Th) (hp : p.Ok) (h : x.Ok) (w : World) : Calls Try.prog 23 #[.agg p.cs.toArray, .agg c.cs.toArray, .agg x.cs.toArray] w fun e w' => e = .returned (.agg (miK (begG p c x)).cs.toArray) ∧ Below w.heap.size w w' := by
  obtain ⟨p1, f1⟩ : ∃ p, w.heap.size = p := ⟨_, rfl⟩
  obtain ⟨W1, ea1⟩ : ∃ W, w.alloc (.cells p.cs.toArray 24) = W := ⟨_, rfl⟩
  have ka1 : Below w.heap.size w W1 := by rw [← ea1]; exact (Below.refl _ w).alloc (Nat.le_refl _) _
  have b1 : Blk W1 p1 24 p.cs.toArray := by rw [← ea1]; exact blk_new w _ 24 _ f1
  have kk : Below w.heap.size w W1 := ka1
  have hp1 : w.heap.size ≤ p1 := Nat.le_of_eq f1
  clear ka1
  obtain ⟨p2, f2⟩ : ∃ p, W1.heap.size = p := ⟨_, rfl⟩
  obtain ⟨W2, ea2⟩ : ∃ W, W1.alloc (.cells c.cs.toArray 26) = W := ⟨_, rfl⟩
  have ka2 : Below W1.heap.size W1 W2 := by rw [← ea2]; exact (Below.refl _ W1).alloc (Nat.le_refl _) _
  have b2 : Blk W2 p2 26 c.cs.toArray := by rw [← ea2]; exact blk_new W1 _ 26 _ f2
  have q1_2 : p1 < p2 := by rw [← f2]; exact b1.lt
  replace b1 := b1.on ka2
  have kk0 := kk
  replace kk := kk.trans (ka2.mono kk.size)
  have hp2 : w.heap.size ≤ p2 := by rw [← f2]; exact kk0.size
  clear ka2 kk0
  obtain ⟨p3, f3⟩ : ∃ p, W2.heap.size = p := ⟨_, rfl⟩
  obtain ⟨W3, ea3⟩ : ∃ W, W2.alloc (.cells x.cs.toArray 35) = W := ⟨_, rfl⟩
  have ka3 : Below W2.heap.size W2 W3 := by rw [← ea3]; exact (Below.refl _ W2).alloc (Nat.le_refl _) _
  have b3 : Blk W3 p3 35 x.cs.toArray := by rw [← ea3]; exact blk_new W2 _ 35 _ f3
  have q1_3 : p1 < p3 := by rw [← f3]; exact b1.lt
  replace b1 := b1.on ka3
  have q2_3 : p2 < p3 := by rw [← f3]; exact b2.lt
  replace b2 := b2.on ka3
  have kk0 := kk
  replace kk := kk.trans (ka3.mono kk.size)
  have hp3 : w.heap.size ≤ p3 := by rw [← f3]; exact kk0.size
  clear ka3 kk0
  obtain ⟨p4, f4⟩ : ∃ p, W3.heap.size = p := ⟨_, rfl⟩
  obtain ⟨W4, ea4⟩ : ∃ W, W3.alloc (.cells #[.int .i64 0, .int .i64 0, .int .i64 0, .slice none 0 0] 32) = W := ⟨_, rfl⟩
  have ka4 : Below W3.heap.size W3 W4 := by rw [← ea4]; exact (Below.refl _ W3).alloc (Nat.le_refl _) _
  have b4 : Blk W4 p4 32 #[.int .i64 0, .int .i64 0, .int .i64 0, .slice none 0 0] := by rw [← ea4]; exact blk_new W3 _ 32 _ f4
  have q1_4 : p1 < p4 := by rw [← f4]; exact b1.lt
  replace b1 := b1.on ka4
  have q2_4 : p2 < p4 := by rw [← f4]; exact b2.lt
  replace b2 := b2.on ka4
  have q3_4 : p3 < p4 := by rw [← f4]; exact b3.lt
  replace b3 := b3.on ka4
  have kk0 := kk
  replace kk := kk.trans (ka4.mono kk.size)
  have hp4 : w.heap.size ≤ p4 := by rw [← f4]; exact kk0.size
  clear ka4 kk0
  have d1 := full_any c x h W4
  unfold begG
  by_cases h1 : c.t ≤ (x.bg.n : Int)
  · by_cases h2 : sloZ p = 0
    · rw [if_pos h1, if_pos h2]
      rw [decide_eq_true h1] at d1
      go_enter Try.func23, Try.ntmps23
      go_wp2_with (first | ((with_reducible refine at_load 26 (.tmp 4) ?_); refine wpList_load_row rfl 26 (.tmp 4) rfl p2 rfl 26 c.cs.toArray (0, 0) _ b2 Try.underlying26 rfl size26 ?_) | ((with_reducible refine at_load 35 (.tmp 5) ?_); refine wpList_load_row rfl 35 (.tmp 5) rfl p3 rfl 35 x.cs.toArray (0, 0) _ b3 Try.underlying35 rfl (sizeT _) ?_))
      refine (d1).mono ?_
      rintro e W5 ⟨rfl, k1⟩
      replace b1 := b1.on k1
      replace b2 := b2.on k1
      replace b3 := b3.on k1
      replace b4 := b4.on k1
      replace kk := kk.trans (k1.mono kk.size)
      clear k1
      have t2 : (sloZ p == 0) = true := beq_iff_eq.2 h2
      have d2 := slots_any p hp W5
      go_wp2_with (((with_reducible refine at_load 24 (.tmp 3) ?_); refine wpList_load_row rfl 24 (.tmp 3) rfl p1 rfl 24 p.cs.toArray (0, 0) _ b1 Try.underlying24 rfl size24 ?_))
      refine (d2).mono ?_
      rintro e W6 ⟨rfl, k2⟩
      replace b1 := b1.on k2
      replace b2 := b2.on k2
      replace b3 := b3.on k2
      replace b4 := b4.on k2
      replace kk := kk.trans (k2.mono kk.size)
      clear k2
      obtain ⟨W7, es7⟩ : ∃ W, W6.setRow p4 (miK 3).cs.toArray = W := ⟨_, rfl⟩
      have bo4 := b4
      replace b1 := row_far b1 es7 (by omega)
      replace b2 := row_far b2 es7 (by omega)
      replace b3 := row_far b3 es7 (by omega)
      replace b4 : Blk W7 p4 32 (miK 3).cs.toArray := row_named b4 es7
      replace kk := kk.trans (row_below es7 hp4 kk.size)
      go_wp2_with (((with_reducible refine at_store 32 (.tmp 6) (.tmp 17) ?_); refine wpList_store_row rfl 32 (.tmp 6) (.tmp 17) rfl p4 (miK 3).cs.toArray rfl rfl 32 #[.int .i64 0, .int .i64 0, .int .i64 0, .slice none 0 0] bo4 size32 rfl (Mi.onea _) ?_))
      try rw [es7]
      refine bodyPost_ret (results_cell_row (cs := (miK 3).cs.toArray) rfl _ _ p4 32 (0, 0) _ rfl b4 Try.underlying32 rfl size32) rfl ?_
      first | exact ⟨rfl, kk⟩ | (rw [f1] at kk; exact ⟨rfl, kk⟩)
    · rw [if_pos h1, if_neg h2]
      rw [decide_eq_true h1] at d1
      go_enter Try.func23, Try.ntmps23
      go_wp2_with (first | ((with_reducible refine at_load 26 (.tmp 4) ?_); refine wpList_load_row rfl 26 (.tmp 4) rfl p2 rfl 26 c.cs.toArray (0, 0) _ b2 Try.underlying26 rfl size26 ?_) | ((with_reducible refine at_load 35 (.tmp 5) ?_); refine wpList_load_row rfl 35 (.tmp 5) rfl p3 rfl 35 x.cs.toArray (0, 0) _ b3 Try.underlying35 rfl (sizeT _) ?_))
      refine (d1).mono ?_
      rintro e W5 ⟨rfl, k1⟩
      replace b1 := b1.on k1
      replace b2 := b2.on k1
      replace b3 := b3.on k1
      replace b4 := b4.on k1
      replace kk := kk.trans (k1.mono kk.size)
      clear k1
      have t2 : (sloZ p == 0) = false := by simpa using h2
      have d2 := slots_any p hp W5
      go_wp2_with (((with_reducible refine at_load 24 (.tmp 3) ?_); refine wpList_load_row rfl 24 (.tmp 3) rfl p1 rfl 24 p.cs.toArray (0, 0) _ b1 Try.underlying24 rfl size24 ?_))
      refine (d2).mono ?_
      rintro e W6 ⟨rfl, k2⟩
      replace b1 := b1.on k2
      replace b2 := b2.on k2
      replace b3 := b3.on k2
      replace b4 := b4.on k2
      replace kk := kk.trans (k2.mono kk.size)
      clear k2
      obtain ⟨W7, es7⟩ : ∃ W, W6.setRow p4 (miK 2).cs.toArray = W := ⟨_, rfl⟩
      have bo4 := b4
      replace b1 := row_far b1 es7 (by omega)
      replace b2 := row_far b2 es7 (by omega)
      replace b3 := row_far b3 es7 (by omega)
      replace b4 : Blk W7 p4 32 (miK 2).cs.toArray := row_named b4 es7
      replace kk := kk.trans (row_below es7 hp4 kk.size)
      go_wp2_with (((with_reducible refine at_store 32 (.tmp 6) (.tmp 18) ?_); refine wpList_store_row rfl 32 (.tmp 6) (.tmp 18) rfl p4 (miK 2).cs.toArray rfl rfl 32 #[.int .i64 0, .int .i64 0, .int .i64 0, .slice none 0 0] bo4 size32 rfl (Mi.onea _) ?_))
      try rw [es7]
      refine bodyPost_ret (results_cell_row (cs := (miK 2).cs.toArray) rfl _ _ p4 32 (0, 0) _ rfl b4 Try.underlying32 rfl size32) rfl ?_
      first | exact ⟨rfl, kk⟩ | (rw [f1] at kk; exact ⟨rfl, kk⟩)
  · rw [if_neg h1]
    rw [decide_eq_false h1] at d1
    go_enter Try.func23, Try.ntmps23
    go_wp2_with (first | ((with_reducible refine at_load 26 (.tmp 4) ?_); refine wpList_load_row rfl 26 (.tmp 4) rfl p2 rfl 26 c.cs.toArray (0, 0) _ b2 Try.underlying26 rfl size26 ?_) | ((with_reducible refine at_load 35 (.tmp 5) ?_); refine wpList_load_row rfl 35 (.tmp 5) rfl p3 rfl 35 x.cs.toArray (0, 0) _ b3 Try.underlying35 rfl (sizeT _) ?_))
    refine (d1).mono ?_
    rintro e W5 ⟨rfl, k1⟩
    replace b1 := b1.on k1
    replace b2 := b2.on k1
    replace b3 := b3.on k1
    replace b4 := b4.on k1
    replace kk := kk.trans (k1.mono kk.size)
    clear k1
    go_wp2_with fail
    refine (none_any _).mono ?_
    rintro e W6 ⟨rfl, k2⟩
    replace b1 := b1.on k2
    replace b2 := b2.on k2
    replace b3 := b3.on k2
    replace b4 := b4.on k2
    replace kk := kk.trans (k2.mono kk.size)
    clear k2
    obtain ⟨W7, es7⟩ : ∃ W, W6.setRow p4 (miK 0).cs.toArray = W := ⟨_, rfl⟩
    have bo4 := b4
    replace b1 := row_far b1 es7 (by omega)
    replace b2 := row_far b2 es7 (by omega)
    replace b3 := row_far b3 es7 (by omega)
    replace b4 : Blk W7 p4 32 (miK 0).cs.toArray := row_named b4 es7
    replace kk := kk.trans (row_below es7 hp4 kk.size)
    go_wp2_with (((with_reducible refine at_store 32 (.tmp 6) (.tmp 12) ?_); refine wpList_store_row rfl 32 (.tmp 6) (.tmp 12) rfl p4 (miK 0).cs.toArray rfl rfl 32 #[.int .i64 0, .int .i64 0, .int .i64 0, .slice none 0 0] bo4 size32 rfl (Mi.onea _) ?_))
    try rw [es7]
    refine bodyPost_ret (results_cell_row (cs := (miK 0).cs.toArray) rfl _ _ p4 32 (0, 0) _ rfl b4 Try.underlying32 rfl size32) rfl ?_
    first | exact ⟨rfl, kk⟩ | (rw [f1] at kk; exact ⟨rfl, kk⟩)
set_option maxRecDepth 100000 in
set_option maxHeartbeats 4000000 in
theorem begS_any (c : Cf) (x : Th) (h : x.Ok) (w : World) : Calls Try.prog 24 #[.agg c.cs.toArray, .agg x.cs.toArray] w fun e w' => e = .returned (.agg (miK (begS c x)).cs.toArray) ∧ Below w.heap.size w w' := by
  obtain ⟨p1, f1⟩ : ∃ p, w.heap.size = p := ⟨_, rfl⟩
  obtain ⟨W1, ea1⟩ : ∃ W, w.alloc (.cells c.cs.toArray 26) = W := ⟨_, rfl⟩
  have ka1 : Below w.heap.size w W1 := by rw [← ea1]; exact (Below.refl _ w).alloc (Nat.le_refl _) _
  have b1 : Blk W1 p1 26 c.cs.toArray := by rw [← ea1]; exact blk_new w _ 26 _ f1
  have kk : Below w.heap.size w W1 := ka1
  have hp1 : w.heap.size ≤ p1 := Nat.le_of_eq f1
  clear ka1
  obtain ⟨p2, f2⟩ : ∃ p, W1.heap.size = p := ⟨_, rfl⟩
  obtain ⟨W2, ea2⟩ : ∃ W, W1.alloc (.cells x.cs.toArray 35) = W := ⟨_, rfl⟩
  have ka2 : Below W1.heap.size W1 W2 := by rw [← ea2]; exact (Below.refl _ W1).alloc (Nat.le_refl _) _
  have b2 : Blk W2 p2 35 x.cs.toArray := by rw [← ea2]; exact blk_new W1 _ 35 _ f2
  have q1_2 : p1 < p2 := by rw [← f2]; exact b1.lt
  replace b1 := b1.on ka2
  have kk0 := kk
  replace kk := kk.trans (ka2.mono kk.size)
  have hp2 : w.heap.size ≤ p2 := by rw [← f2]; exact kk0.size
  clear ka2 kk0
  obtain ⟨p3, f3⟩ : ∃ p, W2.heap.size = p := ⟨_, rfl⟩
  obtain ⟨W3, ea3⟩ : ∃ W, W2.alloc (.cells #[.int .i64 0, .int .i64 0, .int .i64 0, .slice none 0 0] 32) = W := ⟨_, rfl⟩
  have ka3 : Below W2.heap.size W2 W3 := by rw [← ea3]; exact (Below.refl _ W2).alloc (Nat.le_refl _) _
  have b3 : Blk W3 p3 32 #[.int .i64 0, .int .i64 0, .int .i64 0, .slice none 0 0] := by rw [← ea3]; exact blk_new W2 _ 32 _ f3
  have q1_3 : p1 < p3 := by rw [← f3]; exact b1.lt
  replace b1 := b1.on ka3
  have q2_3 : p2 < p3 := by rw [← f3]; exact b2.lt
  replace b2 := b2.on ka3
  have kk0 := kk
  replace kk := kk.trans (ka3.mono kk.size)
  have hp3 : w.heap.size ≤ p3 := by rw [← f3]; exact kk0.size
  clear ka3 kk0
  have d1 := full_any c x h W3
  have d2 := fun W => has_any x h W
  unfold begS
  by_cases h1 : c.t ≤ (x.bg.n : Int)
  · by_cases h2 : (0 : Int) < x.sn.n
    · rw [if_pos h1, if_pos h2]
      rw [decide_eq_true h1] at d1
      go_enter Try.func24, Try.ntmps24
      go_wp2_with (first | ((with_reducible refine at_load 26 (.tmp 2) ?_); refine wpList_load_row rfl 26 (.tmp 2) rfl p1 rfl 26 c.cs.toArray (0, 0) _ b1 Try.underlying26 rfl size26 ?_) | ((with_reducible refine at_load 35 (.tmp 3) ?_); refine wpList_load_row rfl 35 (.tmp 3) rfl p2 rfl 35 x.cs.toArray (0, 0) _ b2 Try.underlying35 rfl (sizeT _) ?_))
      refine (d1).mono ?_
      rintro e W4 ⟨rfl, k1⟩
      replace b1 := b1.on k1
      replace b2 := b2.on k1
      replace b3 := b3.on k1
      replace kk := kk.trans (k1.mono kk.size)
      clear k1
      have t2 : decide (0 < x.sn.n) = true := decide_eq_true (by omega)
      have d3 := d2 W4
      rw [t2] at d3
      clear d2
      go_wp2_with (((with_reducible refine at_load 35 (.tmp 3) ?_); refine wpList_mid (by rfl) 35 (.tmp 3) rfl p2 0 rfl x.cs _ (range_blk b2) Try.underlying35 rfl (sizeT _) ?_))
      refine (d3).mono ?_
      rintro e W5 ⟨rfl, k2⟩
      replace b1 := b1.on k2
      replace b2 := b2.on k2
      replace b3 := b3.on k2
      replace kk := kk.trans (k2.mono kk.size)
      clear k2
      go_wp2_with fail
      refine (none_any _).mono ?_
      rintro e W6 ⟨rfl, k3⟩
      replace b1 := b1.on k3
      replace b2 := b2.on k3
      replace b3 := b3.on k3
      replace kk := kk.trans (k3.mono kk.size)
      clear k3
      obtain ⟨W7, es7⟩ : ∃ W, W6.setRow p3 (miK 0).cs.toArray = W := ⟨_, rfl⟩
      have bo3 := b3
      replace b1 := row_far b1 es7 (by omega)
      replace b2 := row_far b2 es7 (by omega)
      replace b3 : Blk W7 p3 32 (miK 0).cs.toArray := row_named b3 es7
      replace kk := kk.trans (row_below es7 hp3 kk.size)
      go_wp2_with (((with_reducible refine at_store 32 (.tmp 4) (.tmp 13) ?_); refine wpList_store_row rfl 32 (.tmp 4) (.tmp 13) rfl p3 (miK 0).cs.toArray rfl rfl 32 #[.int .i64 0, .int .i64 0, .int .i64 0, .slice none 0 0] bo3 size32 rfl (Mi.onea _) ?_))
      try rw [es7]
      refine bodyPost_ret (results_cell_row (cs := (miK 0).cs.toArray) rfl _ _ p3 32 (0, 0) _ rfl b3 Try.underlying32 rfl size32) rfl ?_
      first | exact ⟨rfl, kk⟩ | (rw [f1] at kk; exact ⟨rfl, kk⟩)
    · rw [if_pos h1, if_neg h2]
      rw [decide_eq_true h1] at d1
      go_enter Try.func24, Try.ntmps24
      go_wp2_with (first | ((with_reducible refine at_load 26 (.tmp 2) ?_); refine wpList_load_row rfl 26 (.tmp 2) rfl p1 rfl 26 c.cs.toArray (0, 0) _ b1 Try.underlying26 rfl size26 ?_) | ((with_reducible refine at_load 35 (.tmp 3) ?_); refine wpList_load_row rfl 35 (.tmp 3) rfl p2 rfl 35 x.cs.toArray (0, 0) _ b2 Try.underlying35 rfl (sizeT _) ?_))
      refine (d1).mono ?_
      rintro e W4 ⟨rfl, k1⟩
      replace b1 := b1.on k1
      replace b2 := b2.on k1
      replace b3 := b3.on k1
      replace kk := kk.trans (k1.mono kk.size)
      clear k1
      have t2 : decide (0 < x.sn.n) = false := decide_eq_false (by omega)
      have d3 := d2 W4
      rw [t2] at d3
      clear d2
      go_wp2_with (((with_reducible refine at_load 35 (.tmp 3) ?_); refine wpList_mid (by rfl) 35 (.tmp 3) rfl p2 0 rfl x.cs _ (range_blk b2) Try.underlying35 rfl (sizeT _) ?_))
      refine (d3).mono ?_
      rintro e W5 ⟨rfl, k2⟩
      replace b1 := b1.on k2
      replace b2 := b2.on k2
      replace b3 := b3.on k2
      replace kk := kk.trans (k2.mono kk.size)
      clear k2
      obtain ⟨W6, es6⟩ : ∃ W, W5.setRow p3 (miK 7).cs.toArray = W := ⟨_, rfl⟩
      have bo3 := b3
      replace b1 := row_far b1 es6 (by omega)
      replace b2 := row_far b2 es6 (by omega)
      replace b3 : Blk W6 p3 32 (miK 7).cs.toArray := row_named b3 es6
      replace kk := kk.trans (row_below es6 hp3 kk.size)
      go_wp2_with (((with_reducible refine at_store 32 (.tmp 4) (.tmp 14) ?_); refine wpList_store_row rfl 32 (.tmp 4) (.tmp 14) rfl p3 (miK 7).cs.toArray rfl rfl 32 #[.int .i64 0, .int .i64 0, .int .i64 0, .slice none 0 0] bo3 size32 rfl (Mi.onea _) ?_))
      try rw [es6]
      refine bodyPost_ret (results_cell_row (cs := (miK 7).cs.toArray) rfl _ _ p3 32 (0, 0) _ rfl b3 Try.underlying32 rfl size32) rfl ?_
      first | exact ⟨rfl, kk⟩ | (rw [f1] at kk; exact ⟨rfl, kk⟩)
  · rw [if_neg h1]
    rw [decide_eq_false h1] at d1
    go_enter Try.func24, Try.ntmps24
    go_wp2_with (first | ((with_reducible refine at_load 26 (.tmp 2) ?_); refine wpList_load_row rfl 26 (.tmp 2) rfl p1 rfl 26 c.cs.toArray (0, 0) _ b1 Try.underlying26 rfl size26 ?_) | ((with_reducible refine at_load 35 (.tmp 3) ?_); refine wpList_load_row rfl 35 (.tmp 3) rfl p2 rfl 35 x.cs.toArray (0, 0) _ b2 Try.underlying35 rfl (sizeT _) ?_))
    refine (d1).mono ?_
    rintro e W4 ⟨rfl, k1⟩
    replace b1 := b1.on k1
    replace b2 := b2.on k1
    replace b3 := b3.on k1
    replace kk := kk.trans (k1.mono kk.size)
    clear k1
    go_wp2_with fail
    refine (none_any _).mono ?_
    rintro e W5 ⟨rfl, k3⟩
    replace b1 := b1.on k3
    replace b2 := b2.on k3
    replace b3 := b3.on k3
    replace kk := kk.trans (k3.mono kk.size)
    clear k3
    obtain ⟨W6, es6⟩ : ∃ W, W5.setRow p3 (miK 0).cs.toArray = W := ⟨_, rfl⟩
    have bo3 := b3
    replace b1 := row_far b1 es6 (by omega)
    replace b2 := row_far b2 es6 (by omega)
    replace b3 : Blk W6 p3 32 (miK 0).cs.toArray := row_named b3 es6
    replace kk := kk.trans (row_below es6 hp3 kk.size)
    go_wp2_with (((with_reducible refine at_store 32 (.tmp 4) (.tmp 13) ?_); refine wpList_store_row rfl 32 (.tmp 4) (.tmp 13) rfl p3 (miK 0).cs.toArray rfl rfl 32 #[.int .i64 0, .int .i64 0, .int .i64 0, .slice none 0 0] bo3 size32 rfl (Mi.onea _) ?_))
    try rw [es6]
    refine bodyPost_ret (results_cell_row (cs := (miK 0).cs.toArray) rfl _ _ p3 32 (0, 0) _ rfl b3 Try.underlying32 rfl size32) rfl ?_
    first | exact ⟨rfl, kk⟩ | (rw [f1] at kk; exact ⟨rfl, kk⟩)
/-- Which micro begins. -/
def begK (p : Pg) (c : Cf) (x : Th) : Int := if c.c = 1 then begG p c x else if c.c = 2 then 4 else if c.c = 3 then begS c x else 0
set_option maxRecDepth 100000 in
set_option maxHeartbeats 4000000 in
theorem begin_any (p : Pg) (c : Cf) (x : Th) (hp : p.Ok) (h : x.Ok) (w : World) : Calls Try.prog 10 #[.agg p.cs.toArray, .agg c.cs.toArray, .agg x.cs.toArray] w fun e w' => e = .returned (.agg (miK (begK p c x)).cs.toArray) ∧ Below w.heap.size w w' := by
  obtain ⟨p1, f1⟩ : ∃ p, w.heap.size = p := ⟨_, rfl⟩
  obtain ⟨W1, ea1⟩ : ∃ W, w.alloc (.cells p.cs.toArray 24) = W := ⟨_, rfl⟩
  have ka1 : Below w.heap.size w W1 := by rw [← ea1]; exact (Below.refl _ w).alloc (Nat.le_refl _) _
  have b1 : Blk W1 p1 24 p.cs.toArray := by rw [← ea1]; exact blk_new w _ 24 _ f1
  have kk : Below w.heap.size w W1 := ka1
  have hp1 : w.heap.size ≤ p1 := Nat.le_of_eq f1
  clear ka1
  obtain ⟨p2, f2⟩ : ∃ p, W1.heap.size = p := ⟨_, rfl⟩
  obtain ⟨W2, ea2⟩ : ∃ W, W1.alloc (.cells c.cs.toArray 26) = W := ⟨_, rfl⟩
  have ka2 : Below W1.heap.size W1 W2 := by rw [← ea2]; exact (Below.refl _ W1).alloc (Nat.le_refl _) _
  have b2 : Blk W2 p2 26 c.cs.toArray := by rw [← ea2]; exact blk_new W1 _ 26 _ f2
  have q1_2 : p1 < p2 := by rw [← f2]; exact b1.lt
  replace b1 := b1.on ka2
  have kk0 := kk
  replace kk := kk.trans (ka2.mono kk.size)
  have hp2 : w.heap.size ≤ p2 := by rw [← f2]; exact kk0.size
  clear ka2 kk0
  obtain ⟨p3, f3⟩ : ∃ p, W2.heap.size = p := ⟨_, rfl⟩
  obtain ⟨W3, ea3⟩ : ∃ W, W2.alloc (.cells x.cs.toArray 35) = W := ⟨_, rfl⟩
  have ka3 : Below W2.heap.size W2 W3 := by rw [← ea3]; exact (Below.refl _ W2).alloc (Nat.le_refl _) _
  have b3 : Blk W3 p3 35 x.cs.toArray := by rw [← ea3]; exact blk_new W2 _ 35 _ f3
  have q1_3 : p1 < p3 := by rw [← f3]; exact b1.lt
  replace b1 := b1.on ka3
  have q2_3 : p2 < p3 := by rw [← f3]; exact b2.lt
  replace b2 := b2.on ka3
  have kk0 := kk
  replace kk := kk.trans (ka3.mono kk.size)
  have hp3 : w.heap.size ≤ p3 := by rw [← f3]; exact kk0.size
  clear ka3 kk0
  obtain ⟨p4, f4⟩ : ∃ p, W3.heap.size = p := ⟨_, rfl⟩
  obtain ⟨W4, ea4⟩ : ∃ W, W3.alloc (.cells #[.int .i64 0, .int .i64 0, .int .i64 0, .slice none 0 0] 32) = W := ⟨_, rfl⟩
  have ka4 : Below W3.heap.size W3 W4 := by rw [← ea4]; exact (Below.refl _ W3).alloc (Nat.le_refl _) _
  have b4 : Blk W4 p4 32 #[.int .i64 0, .int .i64 0, .int .i64 0, .slice none 0 0] := by rw [← ea4]; exact blk_new W3 _ 32 _ f4
  have q1_4 : p1 < p4 := by rw [← f4]; exact b1.lt
  replace b1 := b1.on ka4
  have q2_4 : p2 < p4 := by rw [← f4]; exact b2.lt
  replace b2 := b2.on ka4
  have q3_4 : p3 < p4 := by rw [← f4]; exact b3.lt
  replace b3 := b3.on ka4
  have kk0 := kk
  replace kk := kk.trans (ka4.mono kk.size)
  have hp4 : w.heap.size ≤ p4 := by rw [← f4]; exact kk0.size
  clear ka4 kk0
  unfold begK
  by_cases h1 : c.c = 1
  · rw [if_pos h1]
    have c4_2_0 : W4.cell? ⟨p2, 0, none⟩ = some (.int .i64 c.c) := b2.cell 0
    have t1 : (c.c == 1) = true := beq_iff_eq.2 h1
    go_enter Try.func10, Try.ntmps10
    have d1 := begG_any p c x hp h W4
    generalize begG p c x = M at *
    go_wp2_with (first | ((with_reducible refine at_load 24 (.tmp 3) ?_); refine wpList_load_row rfl 24 (.tmp 3) rfl p1 rfl 24 p.cs.toArray (0, 0) _ b1 Try.underlying24 rfl size24 ?_) | ((with_reducible refine at_load 26 (.tmp 4) ?_); refine wpList_load_row rfl 26 (.tmp 4) rfl p2 rfl 26 c.cs.toArray (0, 0) _ b2 Try.underlying26 rfl size26 ?_) | ((with_reducible refine at_load 35 (.tmp 5) ?_); refine wpList_load_row rfl 35 (.tmp 5) rfl p3 rfl 35 x.cs.toArray (0, 0) _ b3 Try.underlying35 rfl (sizeT _) ?_))
    refine (d1).mono ?_
    rintro e W5 ⟨rfl, k1⟩
    clear c4_2_0
    replace b1 := b1.on k1
    replace b2 := b2.on k1
    replace b3 := b3.on k1
    replace b4 := b4.on k1
    replace kk := kk.trans (k1.mono kk.size)
    clear k1
    obtain ⟨W6, es6⟩ : ∃ W, W5.setRow p4 (miK M).cs.toArray = W := ⟨_, rfl⟩
    have bo4 := b4
    replace b1 := row_far b1 es6 (by omega)
    replace b2 := row_far b2 es6 (by omega)
    replace b3 := row_far b3 es6 (by omega)
    replace b4 : Blk W6 p4 32 (miK M).cs.toArray := row_named b4 es6
    replace kk := kk.trans (row_below es6 hp4 kk.size)
    go_wp2_with (((with_reducible refine at_store 32 (.tmp 6) (.tmp 14) ?_); refine wpList_store_row rfl 32 (.tmp 6) (.tmp 14) rfl p4 (miK M).cs.toArray rfl rfl 32 #[.int .i64 0, .int .i64 0, .int .i64 0, .slice none 0 0] bo4 size32 rfl (Mi.onea _) ?_))
    try rw [es6]
    refine bodyPost_ret (results_cell_row (cs := (miK M).cs.toArray) rfl _ _ p4 32 (0, 0) _ rfl b4 Try.underlying32 rfl size32) rfl ?_
    first | exact ⟨rfl, kk⟩ | (rw [f1] at kk; exact ⟨rfl, kk⟩)
  · by_cases h2 : c.c = 2
    · rw [if_neg h1, if_pos h2]
      have c4_2_0 : W4.cell? ⟨p2, 0, none⟩ = some (.int .i64 c.c) := b2.cell 0
      have t1 : (c.c == 1) = false := by simpa using h1
      have t2 : (c.c == 2) = true := beq_iff_eq.2 h2
      go_enter Try.func10, Try.ntmps10
      obtain ⟨W5, es5⟩ : ∃ W, W4.setRow p4 (miK 4).cs.toArray = W := ⟨_, rfl⟩
      have bo4 := b4
      replace b1 := row_far b1 es5 (by omega)
      replace b2 := row_far b2 es5 (by omega)
      replace b3 := row_far b3 es5 (by omega)
      replace b4 : Blk W5 p4 32 (miK 4).cs.toArray := row_named b4 es5
      replace kk := kk.trans (row_below es5 hp4 kk.size)
      go_wp2_with (((with_reducible refine at_store 32 (.tmp 6) (.tmp 17) ?_); refine wpList_store_row rfl 32 (.tmp 6) (.tmp 17) rfl p4 (miK 4).cs.toArray rfl rfl 32 #[.int .i64 0, .int .i64 0, .int .i64 0, .slice none 0 0] bo4 size32 rfl (Mi.onea _) ?_))
      try rw [es5]
      refine bodyPost_ret (results_cell_row (cs := (miK 4).cs.toArray) rfl _ _ p4 32 (0, 0) _ rfl b4 Try.underlying32 rfl size32) rfl ?_
      first | exact ⟨rfl, kk⟩ | (rw [f1] at kk; exact ⟨rfl, kk⟩)
    · by_cases h3 : c.c = 3
      · rw [if_neg h1, if_neg h2, if_pos h3]
        have c4_2_0 : W4.cell? ⟨p2, 0, none⟩ = some (.int .i64 c.c) := b2.cell 0
        have t1 : (c.c == 1) = false := by simpa using h1
        have t2 : (c.c == 2) = false := by simpa using h2
        have t3 : (c.c == 3) = true := beq_iff_eq.2 h3
        go_enter Try.func10, Try.ntmps10
        have d1 := begS_any c x h W4
        generalize begS c x = M at *
        go_wp2_with (first | ((with_reducible refine at_load 26 (.tmp 4) ?_); refine wpList_load_row rfl 26 (.tmp 4) rfl p2 rfl 26 c.cs.toArray (0, 0) _ b2 Try.underlying26 rfl size26 ?_) | ((with_reducible refine at_load 35 (.tmp 5) ?_); refine wpList_load_row rfl 35 (.tmp 5) rfl p3 rfl 35 x.cs.toArray (0, 0) _ b3 Try.underlying35 rfl (sizeT _) ?_))
        refine (d1).mono ?_
        rintro e W5 ⟨rfl, k1⟩
        clear c4_2_0
        replace b1 := b1.on k1
        replace b2 := b2.on k1
        replace b3 := b3.on k1
        replace b4 := b4.on k1
        replace kk := kk.trans (k1.mono kk.size)
        clear k1
        obtain ⟨W6, es6⟩ : ∃ W, W5.setRow p4 (miK M).cs.toArray = W := ⟨_, rfl⟩
        have bo4 := b4
        replace b1 := row_far b1 es6 (by omega)
        replace b2 := row_far b2 es6 (by omega)
        replace b3 := row_far b3 es6 (by omega)
        replace b4 : Blk W6 p4 32 (miK M).cs.toArray := row_named b4 es6
        replace kk := kk.trans (row_below es6 hp4 kk.size)
        go_wp2_with (((with_reducible refine at_store 32 (.tmp 6) (.tmp 22) ?_); refine wpList_store_row rfl 32 (.tmp 6) (.tmp 22) rfl p4 (miK M).cs.toArray rfl rfl 32 #[.int .i64 0, .int .i64 0, .int .i64 0, .slice none 0 0] bo4 size32 rfl (Mi.onea _) ?_))
        try rw [es6]
        refine bodyPost_ret (results_cell_row (cs := (miK M).cs.toArray) rfl _ _ p4 32 (0, 0) _ rfl b4 Try.underlying32 rfl size32) rfl ?_
        first | exact ⟨rfl, kk⟩ | (rw [f1] at kk; exact ⟨rfl, kk⟩)
      · rw [if_neg h1, if_neg h2, if_neg h3]
        have c4_2_0 : W4.cell? ⟨p2, 0, none⟩ = some (.int .i64 c.c) := b2.cell 0
        have t1 : (c.c == 1) = false := by simpa using h1
        have t2 : (c.c == 2) = false := by simpa using h2
        have t3 : (c.c == 3) = false := by simpa using h3
        go_enter Try.func10, Try.ntmps10
        go_wp2_with fail
        refine (none_any _).mono ?_
        rintro e W5 ⟨rfl, k1⟩
        clear c4_2_0
        replace b1 := b1.on k1
        replace b2 := b2.on k1
        replace b3 := b3.on k1
        replace b4 := b4.on k1
        replace kk := kk.trans (k1.mono kk.size)
        clear k1
        obtain ⟨W6, es6⟩ : ∃ W, W5.setRow p4 (miK 0).cs.toArray = W := ⟨_, rfl⟩
        have bo4 := b4
        replace b1 := row_far b1 es6 (by omega)
        replace b2 := row_far b2 es6 (by omega)
        replace b3 := row_far b3 es6 (by omega)
        replace b4 : Blk W6 p4 32 (miK 0).cs.toArray := row_named b4 es6
        replace kk := kk.trans (row_below es6 hp4 kk.size)
        go_wp2_with (((with_reducible refine at_store 32 (.tmp 6) (.tmp 23) ?_); refine wpList_store_row rfl 32 (.tmp 6) (.tmp 23) rfl p4 (miK 0).cs.toArray rfl rfl 32 #[.int .i64 0, .int .i64 0, .int .i64 0, .slice none 0 0] bo4 size32 rfl (Mi.onea _) ?_))
        try rw [es6]
        refine bodyPost_ret (results_cell_row (cs := (miK 0).cs.toArray) rfl _ _ p4 32 (0, 0) _ rfl b4 Try.underlying32 rfl size32) rfl ?_
        first | exact ⟨rfl, kk⟩ | (rw [f1] at kk; exact ⟨rfl, kk⟩)
end Go.Proofs.Ytllcgidachbnlaa
