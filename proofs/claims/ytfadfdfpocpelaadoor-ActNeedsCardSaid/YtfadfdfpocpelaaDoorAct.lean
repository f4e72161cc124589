/- Acts by value, and how the program makes them: places by their numbers, acts of reading, storing, exchanging. Conditions: none. -/
import Derived.Test.YtfadfdfpocpelaaDoorDone
import Derived.Test.YtfadfdfpocpelaaDoorFBase
namespace Go.Proofs.YtfadfdfpocpelaaDoor
set_option linter.unusedSimpArgs false
set_option linter.unusedVariables false
open Go.RowKit Go.ChangeShapes Go.WideShapes

/-- An act: its kind, its place, through which word, the word wanted, the word, the life. -/
structure Ac where
  k : Int
  p : Pl
  a : Wd
  w : Wd
  o : Wd
  g : Int
deriving DecidableEq
def Ac.cs (x : Ac) : List Value := [.int .i64 x.k, .int .i64 x.p.k, .int .i64 x.p.i, .int .i64 x.p.j, .int .i64 x.a.n, .int .i64 x.a.c, .int .i64 x.a.g, .int .i64 x.w.n, .int .i64 x.w.c, .int .i64 x.w.g, .int .i64 x.o.n, .int .i64 x.o.c, .int .i64 x.o.g, .int .i64 x.g]
def noA : Ac := ⟨0, noP, noW, noW, noW, 0⟩
theorem Ac.onea (x : Ac) : x.cs.toArray.all (·.oneCell') = true := by simp [Ac.cs, Value.oneCell']
theorem size27 : (Tryd.prog.info? 27).map (·.size) = some 14 := by kernel_rfl
theorem load27 (c : Ac) : (Tryd.prog.info? 27).map (·.size) = some c.cs.length := size27
set_option maxRecDepth 100000 in
set_option maxHeartbeats 4000000 in
theorem none_any (w : World) : Calls Tryd.prog 12 #[] w fun e w' => e = .returned (.agg noA.cs.toArray) ∧ Below w.heap.size w w' := by
  obtain ⟨p1, f1⟩ : ∃ p, w.heap.size = p := ⟨_, rfl⟩
  obtain ⟨W1, ea1⟩ : ∃ W, w.alloc (.cells #[.int .i64 0, .int .i64 0, .int .i64 0, .int .i64 0, .int .i64 0, .int .i64 0, .int .i64 0, .int .i64 0, .int .i64 0, .int .i64 0, .int .i64 0, .int .i64 0, .int .i64 0, .int .i64 0] 27) = W := ⟨_, rfl⟩
  have ka1 : Below w.heap.size w W1 := by rw [← ea1]; exact (Below.refl _ w).alloc (Nat.le_refl _) _
  have b1 : Blk W1 p1 27 #[.int .i64 0, .int .i64 0, .int .i64 0, .int .i64 0, .int .i64 0, .int .i64 0, .int .i64 0, .int .i64 0, .int .i64 0, .int .i64 0, .int .i64 0, .int .i64 0, .int .i64 0, .int .i64 0] := by rw [← ea1]; exact blk_new w _ 27 _ f1
  have kk : Below w.heap.size w W1 := ka1
  have hp1 : w.heap.size ≤ p1 := Nat.le_of_eq f1
  clear ka1
  obtain ⟨W2, es2⟩ : ∃ W, W1.setRow p1 noA.cs.toArray = W := ⟨_, rfl⟩
  have bo1 := b1
  replace b1 : Blk W2 p1 27 noA.cs.toArray := row_named b1 es2
  replace kk := kk.trans (row_below es2 hp1 kk.size)
  go_enter Tryd.func12, Tryd.ntmps12
  go_wp2_with (((with_reducible refine at_store 27 (.tmp 0) (.tmp 1) ?_); refine wpList_store_row rfl 27 (.tmp 0) (.tmp 1) rfl p1 noA.cs.toArray rfl rfl 27 #[.int .i64 0, .int .i64 0, .int .i64 0, .int .i64 0, .int .i64 0, .int .i64 0, .int .i64 0, .int .i64 0, .int .i64 0, .int .i64 0, .int .i64 0, .int .i64 0, .int .i64 0, .int .i64 0] bo1 size27 rfl (Ac.onea _) ?_; rw [es2]))
  refine bodyPost_ret (results_cell_row (cs := noA.cs.toArray) rfl _ _ p1 27 (0, 0) _ rfl b1 Tryd.underlying27 rfl size27) rfl ?_
  exact ⟨rfl, kk⟩
set_option maxRecDepth 100000 in
set_option maxHeartbeats 4000000 in
theorem read_any (x : Pl) (w : World) : Calls Tryd.prog 25 #[.agg x.cs.toArray] w fun e w' => e = .returned (.agg (⟨2, x, noW, noW, noW, 0⟩ : Ac).cs.toArray) ∧ Below w.heap.size w w' := by
  obtain ⟨x0, x1, x2⟩ := x
  show Calls Tryd.prog 25 #[.agg #[.int .i64 x0, .int .i64 x1, .int .i64 x2]] w fun e w' => e = .returned (.agg #[.int .i64 2, .int .i64 x0, .int .i64 x1, .int .i64 x2, .int .i64 0, .int .i64 0, .int .i64 0, .int .i64 0, .int .i64 0, .int .i64 0, .int .i64 0, .int .i64 0, .int .i64 0, .int .i64 0]) ∧ Below w.heap.size w w'
  obtain ⟨p1, f1⟩ : ∃ p, w.heap.size = p := ⟨_, rfl⟩
  obtain ⟨W1, ea1⟩ : ∃ W, w.alloc (.cells #[.int .i64 x0, .int .i64 x1, .int .i64 x2] 23) = W := ⟨_, rfl⟩
  have ka1 : Below w.heap.size w W1 := by rw [← ea1]; exact (Below.refl _ w).alloc (Nat.le_refl _) _
  have b1 : Blk W1 p1 23 #[.int .i64 x0, .int .i64 x1, .int .i64 x2] := by rw [← ea1]; exact blk_new w _ 23 _ f1
  have kk : Below w.heap.size w W1 := ka1
  have hp1 : w.heap.size ≤ p1 := Nat.le_of_eq f1
  clear ka1
  obtain ⟨p2, f2⟩ : ∃ p, W1.heap.size = p := ⟨_, rfl⟩
  obtain ⟨W2, ea2⟩ : ∃ W, W1.alloc (.cells #[.int .i64 0, .int .i64 0, .int .i64 0, .int .i64 0, .int .i64 0, .int .i64 0, .int .i64 0, .int .i64 0, .int .i64 0, .int .i64 0, .int .i64 0, .int .i64 0, .int .i64 0, .int .i64 0] 27) = W := ⟨_, rfl⟩
  have ka2 : Below W1.heap.size W1 W2 := by rw [← ea2]; exact (Below.refl _ W1).alloc (Nat.le_refl _) _
  have b2 : Blk W2 p2 27 #[.int .i64 0, .int .i64 0, .int .i64 0, .int .i64 0, .int .i64 0, .int .i64 0, .int .i64 0, .int .i64 0, .int .i64 0, .int .i64 0, .int .i64 0, .int .i64 0, .int .i64 0, .int .i64 0] := by rw [← ea2]; exact blk_new W1 _ 27 _ f2
  have q1_2 : p1 < p2 := by rw [← f2]; exact b1.lt
  replace b1 := b1.on ka2
  have kk0 := kk
  replace kk := kk.trans (ka2.mono kk.size)
  have hp2 : w.heap.size ≤ p2 := by rw [← f2]; exact kk0.size
  clear ka2 kk0
  have bq1 := b1
  obtain ⟨W3, es3⟩ : ∃ W, W2.setRow p2 #[.int .i64 2, .int .i64 x0, .int .i64 x1, .int .i64 x2, .int .i64 0, .int .i64 0, .int .i64 0, .int .i64 0, .int .i64 0, .int .i64 0, .int .i64 0, .int .i64 0, .int .i64 0, .int .i64 0] = W := ⟨_, rfl⟩
  have bo2 := b2
  replace b1 := row_far b1 es3 (by omega)
  replace b2 : Blk W3 p2 27 #[.int .i64 2, .int .i64 x0, .int .i64 x1, .int .i64 x2, .int .i64 0, .int .i64 0, .int .i64 0, .int .i64 0, .int .i64 0, .int .i64 0, .int .i64 0, .int .i64 0, .int .i64 0, .int .i64 0] := row_named b2 es3
  replace kk := kk.trans (row_below es3 hp2 kk.size)
  go_enter Tryd.func25, Tryd.ntmps25
  go_wp2_with (first | ((with_reducible refine at_load 23 (.tmp 1) ?_); refine wpList_load_row rfl 23 (.tmp 1) rfl p1 rfl 23 #[.int .i64 x0, .int .i64 x1, .int .i64 x2] (0, 0) _ bq1 Tryd.underlying23 rfl size23 ?_) | ((with_reducible refine at_store 27 (.tmp 2) (.tmp 4) ?_); refine wpList_store_row rfl 27 (.tmp 2) (.tmp 4) rfl p2 #[.int .i64 2, .int .i64 x0, .int .i64 x1, .int .i64 x2, .int .i64 0, .int .i64 0, .int .i64 0, .int .i64 0, .int .i64 0, .int .i64 0, .int .i64 0, .int .i64 0, .int .i64 0, .int .i64 0] rfl rfl 27 #[.int .i64 0, .int .i64 0, .int .i64 0, .int .i64 0, .int .i64 0, .int .i64 0, .int .i64 0, .int .i64 0, .int .i64 0, .int .i64 0, .int .i64 0, .int .i64 0, .int .i64 0, .int .i64 0] bo2 size27 rfl (by simp [Value.oneCell']) ?_; rw [es3]))
  refine bodyPost_ret (results_cell_row (cs := #[.int .i64 2, .int .i64 x0, .int .i64 x1, .int .i64 x2, .int .i64 0, .int .i64 0, .int .i64 0, .int .i64 0, .int .i64 0, .int .i64 0, .int .i64 0, .int .i64 0, .int .i64 0, .int .i64 0]) rfl _ _ p2 27 (0, 0) _ rfl b2 Tryd.underlying27 rfl size27) rfl ?_
  exact ⟨rfl, kk⟩
set_option maxRecDepth 100000 in
set_option maxHeartbeats 4000000 in
theorem write_any (x : Pl) (u : Wd) (w : World) : Calls Tryd.prog 27 #[.agg x.cs.toArray, .agg u.cs.toArray] w fun e w' => e = .returned (.agg (⟨3, x, noW, noW, u, 0⟩ : Ac).cs.toArray) ∧ Below w.heap.size w w' := by
  obtain ⟨x0, x1, x2⟩ := x
  obtain ⟨u0, u1, u2⟩ := u
  show Calls Tryd.prog 27 #[.agg #[.int .i64 x0, .int .i64 x1, .int .i64 x2], .agg #[.int .i64 u0, .int .i64 u1, .int .i64 u2]] w fun e w' => e = .returned (.agg #[.int .i64 3, .int .i64 x0, .int .i64 x1, .int .i64 x2, .int .i64 0, .int .i64 0, .int .i64 0, .int .i64 0, .int .i64 0, .int .i64 0, .int .i64 u0, .int .i64 u1, .int .i64 u2, .int .i64 0]) ∧ Below w.heap.size w w'
  obtain ⟨p1, f1⟩ : ∃ p, w.heap.size = p := ⟨_, rfl⟩
  obtain ⟨W1, ea1⟩ : ∃ W, w.alloc (.cells #[.int .i64 x0, .int .i64 x1, .int .i64 x2] 23) = W := ⟨_, rfl⟩
  have ka1 : Below w.heap.size w W1 := by rw [← ea1]; exact (Below.refl _ w).alloc (Nat.le_refl _) _
  have b1 : Blk W1 p1 23 #[.int .i64 x0, .int .i64 x1, .int .i64 x2] := by rw [← ea1]; exact blk_new w _ 23 _ f1
  have kk : Below w.heap.size w W1 := ka1
  have hp1 : w.heap.size ≤ p1 := Nat.le_of_eq f1
  clear ka1
  obtain ⟨p2, f2⟩ : ∃ p, W1.heap.size = p := ⟨_, rfl⟩
  obtain ⟨W2, ea2⟩ : ∃ W, W1.alloc (.cells #[.int .i64 u0, .int .i64 u1, .int .i64 u2] 25) = W := ⟨_, rfl⟩
  have ka2 : Below W1.heap.size W1 W2 := by rw [← ea2]; exact (Below.refl _ W1).alloc (Nat.le_refl _) _
  have b2 : Blk W2 p2 25 #[.int .i64 u0, .int .i64 u1, .int .i64 u2] := by rw [← ea2]; exact blk_new W1 _ 25 _ f2
  have q1_2 : p1 < p2 := by rw [← f2]; exact b1.lt
  replace b1 := b1.on ka2
  have kk0 := kk
  replace kk := kk.trans (ka2.mono kk.size)
  have hp2 : w.heap.size ≤ p2 := by rw [← f2]; exact kk0.size
  clear ka2 kk0
  obtain ⟨p3, f3⟩ : ∃ p, W2.heap.size = p := ⟨_, rfl⟩
  obtain ⟨W3, ea3⟩ : ∃ W, W2.alloc (.cells #[.int .i64 0, .int .i64 0, .int .i64 0, .int .i64 0, .int .i64 0, .int .i64 0, .int .i64 0, .int .i64 0, .int .i64 0, .int .i64 0, .int .i64 0, .int .i64 0, .int .i64 0, .int .i64 0] 27) = W := ⟨_, rfl⟩
  have ka3 : Below W2.heap.size W2 W3 := by rw [← ea3]; exact (Below.refl _ W2).alloc (Nat.le_refl _) _
  have b3 : Blk W3 p3 27 #[.int .i64 0, .int .i64 0, .int .i64 0, .int .i64 0, .int .i64 0, .int .i64 0, .int .i64 0, .int .i64 0, .int .i64 0, .int .i64 0, .int .i64 0, .int .i64 0, .int .i64 0, .int .i64 0] := by rw [← ea3]; exact blk_new W2 _ 27 _ f3
  have q1_3 : p1 < p3 := by rw [← f3]; exact b1.lt
  replace b1 := b1.on ka3
  have q2_3 : p2 < p3 := by rw [← f3]; exact b2.lt
  replace b2 := b2.on ka3
  have kk0 := kk
  replace kk := kk.trans (ka3.mono kk.size)
  have hp3 : w.heap.size ≤ p3 := by rw [← f3]; exact kk0.size
  clear ka3 kk0
  have bq1 := b1
  have bq2 := b2
  obtain ⟨W4, es4⟩ : ∃ W, W3.setRow p3 #[.int .i64 3, .int .i64 x0, .int .i64 x1, .int .i64 x2, .int .i64 0, .int .i64 0, .int .i64 0, .int .i64 0, .int .i64 0, .int .i64 0, .int .i64 u0, .int .i64 u1, .int .i64 u2, .int .i64 0] = W := ⟨_, rfl⟩
  have bo3 := b3
  replace b1 := row_far b1 es4 (by omega)
  replace b2 := row_far b2 es4 (by omega)
  replace b3 : Blk W4 p3 27 #[.int .i64 3, .int .i64 x0, .int .i64 x1, .int .i64 x2, .int .i64 0, .int .i64 0, .int .i64 0, .int .i64 0, .int .i64 0, .int .i64 0, .int .i64 u0, .int .i64 u1, .int .i64 u2, .int .i64 0] := row_named b3 es4
  replace kk := kk.trans (row_below es4 hp3 kk.size)
  go_enter Tryd.func27, Tryd.ntmps27
  go_wp2_with (first | ((with_reducible refine at_load 23 (.tmp 2) ?_); refine wpList_load_row rfl 23 (.tmp 2) rfl p1 rfl 23 #[.int .i64 x0, .int .i64 x1, .int .i64 x2] (0, 0) _ bq1 Tryd.underlying23 rfl size23 ?_) | ((with_reducible refine at_load 25 (.tmp 3) ?_); refine wpList_load_row rfl 25 (.tmp 3) rfl p2 rfl 25 #[.int .i64 u0, .int .i64 u1, .int .i64 u2] (0, 0) _ bq2 Tryd.underlying25 rfl size25 ?_) | ((with_reducible refine at_store 27 (.tmp 4) (.tmp 7) ?_); refine wpList_store_row rfl 27 (.tmp 4) (.tmp 7) rfl p3 #[.int .i64 3, .int .i64 x0, .int .i64 x1, .int .i64 x2, .int .i64 0, .int .i64 0, .int .i64 0, .int .i64 0, .int .i64 0, .int .i64 0, .int .i64 u0, .int .i64 u1, .int .i64 u2, .int .i64 0] rfl rfl 27 #[.int .i64 0, .int .i64 0, .int .i64 0, .int .i64 0, .int .i64 0, .int .i64 0, .int .i64 0, .int .i64 0, .int .i64 0, .int .i64 0, .int .i64 0, .int .i64 0, .int .i64 0, .int .i64 0] bo3 size27 rfl (by simp [Value.oneCell']) ?_; rw [es4]))
  refine bodyPost_ret (results_cell_row (cs := #[.int .i64 3, .int .i64 x0, .int .i64 x1, .int .i64 x2, .int .i64 0, .int .i64 0, .int .i64 0, .int .i64 0, .int .i64 0, .int .i64 0, .int .i64 u0, .int .i64 u1, .int .i64 u2, .int .i64 0]) rfl _ _ p3 27 (0, 0) _ rfl b3 Tryd.underlying27 rfl size27) rfl ?_
  exact ⟨rfl, kk⟩
set_option maxRecDepth 100000 in
set_option maxHeartbeats 4000000 in
theorem swap_any (x : Pl) (u : Wd) (v : Wd) (w : World) : Calls Tryd.prog 28 #[.agg x.cs.toArray, .agg u.cs.toArray, .agg v.cs.toArray] w fun e w' => e = .returned (.agg (⟨4, x, noW, u, v, 0⟩ : Ac).cs.toArray) ∧ Below w.heap.size w w' := by
  obtain ⟨x0, x1, x2⟩ := x
  obtain ⟨u0, u1, u2⟩ := u
  obtain ⟨v0, v1, v2⟩ := v
  show Calls Tryd.prog 28 #[.agg #[.int .i64 x0, .int .i64 x1, .int .i64 x2], .agg #[.int .i64 u0, .int .i64 u1, .int .i64 u2], .agg #[.int .i64 v0, .int .i64 v1, .int .i64 v2]] w fun e w' => e = .returned (.agg #[.int .i64 4, .int .i64 x0, .int .i64 x1, .int .i64 x2, .int .i64 0, .int .i64 0, .int .i64 0, .int .i64 u0, .int .i64 u1, .int .i64 u2, .int .i64 v0, .int .i64 v1, .int .i64 v2, .int .i64 0]) ∧ Below w.heap.size w w'
  obtain ⟨p1, f1⟩ : ∃ p, w.heap.size = p := ⟨_, rfl⟩
  obtain ⟨W1, ea1⟩ : ∃ W, w.alloc (.cells #[.int .i64 x0, .int .i64 x1, .int .i64 x2] 23) = W := ⟨_, rfl⟩
  have ka1 : Below w.heap.size w W1 := by rw [← ea1]; exact (Below.refl _ w).alloc (Nat.le_refl _) _
  have b1 : Blk W1 p1 23 #[.int .i64 x0, .int .i64 x1, .int .i64 x2] := by rw [← ea1]; exact blk_new w _ 23 _ f1
  have kk : Below w.heap.size w W1 := ka1
  have hp1 : w.heap.size ≤ p1 := Nat.le_of_eq f1
  clear ka1
  obtain ⟨p2, f2⟩ : ∃ p, W1.heap.size = p := ⟨_, rfl⟩
  obtain ⟨W2, ea2⟩ : ∃ W, W1.alloc (.cells #[.int .i64 u0, .int .i64 u1, .int .i64 u2] 25) = W := ⟨_, rfl⟩
  have ka2 : Below W1.heap.size W1 W2 := by rw [← ea2]; exact (Below.refl _ W1).alloc (Nat.le_refl _) _
  have b2 : Blk W2 p2 25 #[.int .i64 u0, .int .i64 u1, .int .i64 u2] := by rw [← ea2]; exact blk_new W1 _ 25 _ f2
  have q1_2 : p1 < p2 := by rw [← f2]; exact b1.lt
  replace b1 := b1.on ka2
  have kk0 := kk
  replace kk := kk.trans (ka2.mono kk.size)
  have hp2 : w.heap.size ≤ p2 := by rw [← f2]; exact kk0.size
  clear ka2 kk0
  obtain ⟨p3, f3⟩ : ∃ p, W2.heap.size = p := ⟨_, rfl⟩
  obtain ⟨W3, ea3⟩ : ∃ W, W2.alloc (.cells #[.int .i64 v0, .int .i64 v1, .int .i64 v2] 25) = W := ⟨_, rfl⟩
  have ka3 : Below W2.heap.size W2 W3 := by rw [← ea3]; exact (Below.refl _ W2).alloc (Nat.le_refl _) _
  have b3 : Blk W3 p3 25 #[.int .i64 v0, .int .i64 v1, .int .i64 v2] := by rw [← ea3]; exact blk_new W2 _ 25 _ f3
  have q1_3 : p1 < p3 := by rw [← f3]; exact b1.lt
  replace b1 := b1.on ka3
  have q2_3 : p2 < p3 := by rw [← f3]; exact b2.lt
  replace b2 := b2.on ka3
  have kk0 := kk
  replace kk := kk.trans (ka3.mono kk.size)
  have hp3 : w.heap.size ≤ p3 := by rw [← f3]; exact kk0.size
  clear ka3 kk0
  obtain ⟨p4, f4⟩ : ∃ p, W3.heap.size = p := ⟨_, rfl⟩
  obtain ⟨W4, ea4⟩ : ∃ W, W3.alloc (.cells #[.int .i64 0, .int .i64 0, .int .i64 0, .int .i64 0, .int .i64 0, .int .i64 0, .int .i64 0, .int .i64 0, .int .i64 0, .int .i64 0, .int .i64 0, .int .i64 0, .int .i64 0, .int .i64 0] 27) = W := ⟨_, rfl⟩
  have ka4 : Below W3.heap.size W3 W4 := by rw [← ea4]; exact (Below.refl _ W3).alloc (Nat.le_refl _) _
  have b4 : Blk W4 p4 27 #[.int .i64 0, .int .i64 0, .int .i64 0, .int .i64 0, .int .i64 0, .int .i64 0, .int .i64 0, .int .i64 0, .int .i64 0, .int .i64 0, .int .i64 0, .int .i64 0, .int .i64 0, .int .i64 0] := by rw [← ea4]; exact blk_new W3 _ 27 _ f4
  have q1_4 : p1 < p4 := by rw [← f4]; exact b1.lt
  replace b1 := b1.on ka4
  have q2_4 : p2 < p4 := by rw [← f4]; exact b2.lt
  replace b2 := b2.on ka4
  have q3_4 : p3 < p4 := by rw [← f4]; exact b3.lt
  replace b3 := b3.on ka4
  have kk0 := kk
  replace kk := kk.trans (ka4.mono kk.size)
  have hp4 : w.heap.size ≤ p4 := by rw [← f4]; exact kk0.size
  clear ka4 kk0
  have bq1 := b1
  have bq2 := b2
  have bq3 := b3
  obtain ⟨W5, es5⟩ : ∃ W, W4.setRow p4 #[.int .i64 4, .int .i64 x0, .int .i64 x1, .int .i64 x2, .int .i64 0, .int .i64 0, .int .i64 0, .int .i64 u0, .int .i64 u1, .int .i64 u2, .int .i64 v0, .int .i64 v1, .int .i64 v2, .int .i64 0] = W := ⟨_, rfl⟩
  have bo4 := b4
  replace b1 := row_far b1 es5 (by omega)
  replace b2 := row_far b2 es5 (by omega)
  replace b3 := row_far b3 es5 (by omega)
  replace b4 : Blk W5 p4 27 #[.int .i64 4, .int .i64 x0, .int .i64 x1, .int .i64 x2, .int .i64 0, .int .i64 0, .int .i64 0, .int .i64 u0, .int .i64 u1, .int .i64 u2, .int .i64 v0, .int .i64 v1, .int .i64 v2, .int .i64 0] := row_named b4 es5
  replace kk := kk.trans (row_below es5 hp4 kk.size)
  go_enter Tryd.func28, Tryd.ntmps28
  go_wp2_with (first | ((with_reducible refine at_load 23 (.tmp 3) ?_); refine wpList_load_row rfl 23 (.tmp 3) rfl p1 rfl 23 #[.int .i64 x0, .int .i64 x1, .int .i64 x2] (0, 0) _ bq1 Tryd.underlying23 rfl size23 ?_) | ((with_reducible refine at_load 25 (.tmp 4) ?_); refine wpList_load_row rfl 25 (.tmp 4) rfl p2 rfl 25 #[.int .i64 u0, .int .i64 u1, .int .i64 u2] (0, 0) _ bq2 Tryd.underlying25 rfl size25 ?_) | ((with_reducible refine at_load 25 (.tmp 5) ?_); refine wpList_load_row rfl 25 (.tmp 5) rfl p3 rfl 25 #[.int .i64 v0, .int .i64 v1, .int .i64 v2] (0, 0) _ bq3 Tryd.underlying25 rfl size25 ?_) | ((with_reducible refine at_store 27 (.tmp 6) (.tmp 10) ?_); refine wpList_store_row rfl 27 (.tmp 6) (.tmp 10) rfl p4 #[.int .i64 4, .int .i64 x0, .int .i64 x1, .int .i64 x2, .int .i64 0, .int .i64 0, .int .i64 0, .int .i64 u0, .int .i64 u1, .int .i64 u2, .int .i64 v0, .int .i64 v1, .int .i64 v2, .int .i64 0] rfl rfl 27 #[.int .i64 0, .int .i64 0, .int .i64 0, .int .i64 0, .int .i64 0, .int .i64 0, .int .i64 0, .int .i64 0, .int .i64 0, .int .i64 0, .int .i64 0, .int .i64 0, .int .i64 0, .int .i64 0] bo4 size27 rfl (by simp [Value.oneCell']) ?_; rw [es5]))
  refine bodyPost_ret (results_cell_row (cs := #[.int .i64 4, .int .i64 x0, .int .i64 x1, .int .i64 x2, .int .i64 0, .int .i64 0, .int .i64 0, .int .i64 u0, .int .i64 u1, .int .i64 u2, .int .i64 v0, .int .i64 v1, .int .i64 v2, .int .i64 0]) rfl _ _ p4 27 (0, 0) _ rfl b4 Tryd.underlying27 rfl size27) rfl ?_
  exact ⟨rfl, kk⟩
end Go.Proofs.YtfadfdfpocpelaaDoor
