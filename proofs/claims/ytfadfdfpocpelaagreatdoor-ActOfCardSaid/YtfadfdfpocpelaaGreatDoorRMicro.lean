/- The plain act of a thread between two instructions. Conditions: a program's list has room, and it has at most two slots a thread. -/
import Derived.Test.YtfadfdfpocpelaaGreatDoorWant
namespace Go.Proofs.YtfadfdfpocpelaaGreatDoor
set_option linter.unusedSimpArgs false
set_option linter.unusedVariables false
open Go.RowKit Go.ChangeShapes Go.WideShapes

set_option maxRecDepth 100000 in
set_option maxHeartbeats 4000000 in
theorem rmark_any (e : Int) (w : World) : Calls Tryz.prog 25 #[.int .i64 e] w fun r w' => r = .returned (.int .i64 (markZ e)) ∧ w = w' := by
  have h : wrap64 (wrap64 (e + e) + 1) = markZ e := by unfold markZ wrap64; omega
  rw [← h]
  clear h
  go_enter Tryz.func25, Tryz.ntmps25
  go_wp2
  go_ret
  exact ⟨rfl, rfl⟩
set_option maxRecDepth 100000 in
set_option maxHeartbeats 4000000 in
theorem rmic_1 (p : Pg) (hp : p.Ok) (hs : 0 ≤ p.s ∧ p.s ≤ 2) (t : Int) (m : Mi) (hk : m.k = 1) (w : World) : Calls Tryz.prog 10 #[.agg p.cs.toArray, .int .i64 t, .agg m.cs.toArray] w fun e w' => e = .returned (.agg (micA p t m).cs.toArray) ∧ Below w.heap.size w w' := by
  obtain ⟨M, eM⟩ : ∃ M, markZ m.n = M := ⟨_, rfl⟩
  have dM := rmark_any m.n
  rw [eM] at dM
  have eA : micA p t m = ⟨3, ⟨7, t, 0⟩, noW, noW, ⟨M, 0, 0⟩, 0⟩ := by unfold micA scnA reaB reaP; simp [hk, eM]
  rw [eA]
  clear eA
  clear eM
  have t1 : (m.k == 1) = true := by rw [hk]; rfl
  clear hk
  have dT := fun W => refthreads_any p hp W
  obtain ⟨p1, f1⟩ : ∃ p, w.heap.size = p := ⟨_, rfl⟩
  obtain ⟨W1, ea1⟩ : ∃ W, w.alloc (.cells p.cs.toArray 24) = W := ⟨_, rfl⟩
  have ka1 : Below w.heap.size w W1 := by rw [← ea1]; exact (Below.refl _ w).alloc (Nat.le_refl _) _
  have b1 : Blk W1 p1 24 p.cs.toArray := by rw [← ea1]; exact blk_new w _ 24 _ f1
  have kk : Below w.heap.size w W1 := ka1
  have hp1 : w.heap.size ≤ p1 := Nat.le_of_eq f1
  clear ka1
  obtain ⟨p2, f2⟩ : ∃ p, W1.heap.size = p := ⟨_, rfl⟩
  obtain ⟨W2, ea2⟩ : ∃ W, W1.alloc (.cells m.cs.toArray 30) = W := ⟨_, rfl⟩
  have ka2 : Below W1.heap.size W1 W2 := by rw [← ea2]; exact (Below.refl _ W1).alloc (Nat.le_refl _) _
  have b2 : Blk W2 p2 30 m.cs.toArray := by rw [← ea2]; exact blk_new W1 _ 30 _ f2
  have q1_2 : p1 < p2 := by rw [← f2]; exact b1.lt
  replace b1 := b1.on ka2
  have kk0 := kk
  replace kk := kk.trans (ka2.mono kk.size)
  have hp2 : w.heap.size ≤ p2 := by rw [← f2]; exact kk0.size
  clear ka2 kk0
  obtain ⟨p3, f3⟩ : ∃ p, W2.heap.size = p := ⟨_, rfl⟩
  obtain ⟨W3, ea3⟩ : ∃ W, W2.alloc (.cells #[.int .i64 0, .int .i64 0, .int .i64 0, .int .i64 0, .int .i64 0, .int .i64 0, .int .i64 0, .int .i64 0, .int .i64 0, .int .i64 0, .int .i64 0, .int .i64 0, .int .i64 0, .int .i64 0] 40) = W := ⟨_, rfl⟩
  have ka3 : Below W2.heap.size W2 W3 := by rw [← ea3]; exact (Below.refl _ W2).alloc (Nat.le_refl _) _
  have b3 : Blk W3 p3 40 #[.int .i64 0, .int .i64 0, .int .i64 0, .int .i64 0, .int .i64 0, .int .i64 0, .int .i64 0, .int .i64 0, .int .i64 0, .int .i64 0, .int .i64 0, .int .i64 0, .int .i64 0, .int .i64 0] := by rw [← ea3]; exact blk_new W2 _ 40 _ f3
  have q1_3 : p1 < p3 := by rw [← f3]; exact b1.lt
  replace b1 := b1.on ka3
  have q2_3 : p2 < p3 := by rw [← f3]; exact b2.lt
  replace b2 := b2.on ka3
  have kk0 := kk
  replace kk := kk.trans (ka3.mono kk.size)
  have hp3 : w.heap.size ≤ p3 := by rw [← f3]; exact kk0.size
  clear ka3 kk0
  have h13 : p1 ≠ p3 := by omega
  have h23 : p2 ≠ p3 := by omega
  have c3_2_0 : W3.cell? ⟨p2, 0, none⟩ = some (.int .i64 m.k) := b2.cell 0
  go_enter Tryz.func10, Tryz.ntmps10
  go_wp2_with (((with_reducible refine at_load 24 (.tmp 3) ?_); refine wpList_load_row rfl 24 (.tmp 3) rfl p1 rfl 24 p.cs.toArray (0, 0) _ b1 Tryz.underlying24 rfl size24 ?_))
  refine (dT _).mono ?_
  rintro e W4 ⟨rfl, k1⟩
  clear c3_2_0
  replace b1 := b1.on k1
  replace b2 := b2.on k1
  replace b3 := b3.on k1
  replace kk := kk.trans (k1.mono kk.size)
  clear k1
  clear dT
  have c4_2_0 : W4.cell? ⟨p2, 0, none⟩ = some (.int .i64 m.k) := b2.cell 0
  have c4_2_2 : W4.cell? ⟨p2, 2, none⟩ = some (.int .i64 m.n) := b2.cell 2
  obtain ⟨W5, es5⟩ : ∃ W, W4.setRow p3 #[.int .i64 3, .int .i64 7, .int .i64 t, .int .i64 0, .int .i64 0, .int .i64 0, .int .i64 0, .int .i64 0, .int .i64 0, .int .i64 0, .int .i64 M, .int .i64 0, .int .i64 0, .int .i64 0] = W := ⟨_, rfl⟩
  have bo3 := b3
  replace b1 := row_far b1 es5 (by omega)
  replace b2 := row_far b2 es5 (by omega)
  replace b3 : Blk W5 p3 40 #[.int .i64 3, .int .i64 7, .int .i64 t, .int .i64 0, .int .i64 0, .int .i64 0, .int .i64 0, .int .i64 0, .int .i64 0, .int .i64 0, .int .i64 M, .int .i64 0, .int .i64 0, .int .i64 0] := row_named b3 es5
  replace kk := kk.trans (row_below es5 hp3 kk.size)
  go_wp2_with (first | (go_at_call 25; refine (dM _).mono ?_; rintro e w' ⟨rfl, rfl⟩) | ((with_reducible refine at_store 40 (.tmp 6) (.tmp 20) ?_); refine wpList_store_row rfl 40 (.tmp 6) (.tmp 20) rfl p3 #[.int .i64 3, .int .i64 7, .int .i64 t, .int .i64 0, .int .i64 0, .int .i64 0, .int .i64 0, .int .i64 0, .int .i64 0, .int .i64 0, .int .i64 M, .int .i64 0, .int .i64 0, .int .i64 0] rfl rfl 40 #[.int .i64 0, .int .i64 0, .int .i64 0, .int .i64 0, .int .i64 0, .int .i64 0, .int .i64 0, .int .i64 0, .int .i64 0, .int .i64 0, .int .i64 0, .int .i64 0, .int .i64 0, .int .i64 0] bo3 size40 rfl (by simp [Value.oneCell']) ?_; rw [es5]))
  refine bodyPost_ret (results_cell_row (cs := #[.int .i64 3, .int .i64 7, .int .i64 t, .int .i64 0, .int .i64 0, .int .i64 0, .int .i64 0, .int .i64 0, .int .i64 0, .int .i64 0, .int .i64 M, .int .i64 0, .int .i64 0, .int .i64 0]) rfl _ _ p3 40 (0, 0) _ rfl b3 Tryz.underlying40 rfl size40) rfl ?_
  first | exact ⟨rfl, kk⟩ | (rw [f1] at kk; exact ⟨rfl, kk⟩)
set_option maxRecDepth 100000 in
set_option maxHeartbeats 4000000 in
theorem rmic_6 (p : Pg) (hp : p.Ok) (hs : 0 ≤ p.s ∧ p.s ≤ 2) (t : Int) (m : Mi) (hk : m.k = 6) (w : World) : Calls Tryz.prog 10 #[.agg p.cs.toArray, .int .i64 t, .agg m.cs.toArray] w fun e w' => e = .returned (.agg (micA p t m).cs.toArray) ∧ Below w.heap.size w w' := by
  have eA : micA p t m = ⟨4, ⟨6, 0, 0⟩, noW, ⟨m.n, 0, 0⟩, ⟨wrap64 (m.n + 1), 0, 0⟩, 0⟩ := by unfold micA scnA reaB reaP; simp [hk]
  rw [eA]
  clear eA
  have t1 : (m.k == 1) = false := by rw [hk]; rfl
  have t6 : (m.k == 6) = true := by rw [hk]; rfl
  clear hk
  have dT := fun W => refthreads_any p hp W
  obtain ⟨p1, f1⟩ : ∃ p, w.heap.size = p := ⟨_, rfl⟩
  obtain ⟨W1, ea1⟩ : ∃ W, w.alloc (.cells p.cs.toArray 24) = W := ⟨_, rfl⟩
  have ka1 : Below w.heap.size w W1 := by rw [← ea1]; exact (Below.refl _ w).alloc (Nat.le_refl _) _
  have b1 : Blk W1 p1 24 p.cs.toArray := by rw [← ea1]; exact blk_new w _ 24 _ f1
  have kk : Below w.heap.size w W1 := ka1
  have hp1 : w.heap.size ≤ p1 := Nat.le_of_eq f1
  clear ka1
  obtain ⟨p2, f2⟩ : ∃ p, W1.heap.size = p := ⟨_, rfl⟩
  obtain ⟨W2, ea2⟩ : ∃ W, W1.alloc (.cells m.cs.toArray 30) = W := ⟨_, rfl⟩
  have ka2 : Below W1.heap.size W1 W2 := by rw [← ea2]; exact (Below.refl _ W1).alloc (Nat.le_refl _) _
  have b2 : Blk W2 p2 30 m.cs.toArray := by rw [← ea2]; exact blk_new W1 _ 30 _ f2
  have q1_2 : p1 < p2 := by rw [← f2]; exact b1.lt
  replace b1 := b1.on ka2
  have kk0 := kk
  replace kk := kk.trans (ka2.mono kk.size)
  have hp2 : w.heap.size ≤ p2 := by rw [← f2]; exact kk0.size
  clear ka2 kk0
  obtain ⟨p3, f3⟩ : ∃ p, W2.heap.size = p := ⟨_, rfl⟩
  obtain ⟨W3, ea3⟩ : ∃ W, W2.alloc (.cells #[.int .i64 0, .int .i64 0, .int .i64 0, .int .i64 0, .int .i64 0, .int .i64 0, .int .i64 0, .int .i64 0, .int .i64 0, .int .i64 0, .int .i64 0, .int .i64 0, .int .i64 0, .int .i64 0] 40) = W := ⟨_, rfl⟩
  have ka3 : Below W2.heap.size W2 W3 := by rw [← ea3]; exact (Below.refl _ W2).alloc (Nat.le_refl _) _
  have b3 : Blk W3 p3 40 #[.int .i64 0, .int .i64 0, .int .i64 0, .int .i64 0, .int .i64 0, .int .i64 0, .int .i64 0, .int .i64 0, .int .i64 0, .int .i64 0, .int .i64 0, .int .i64 0, .int .i64 0, .int .i64 0] := by rw [← ea3]; exact blk_new W2 _ 40 _ f3
  have q1_3 : p1 < p3 := by rw [← f3]; exact b1.lt
  replace b1 := b1.on ka3
  have q2_3 : p2 < p3 := by rw [← f3]; exact b2.lt
  replace b2 := b2.on ka3
  have kk0 := kk
  replace kk := kk.trans (ka3.mono kk.size)
  have hp3 : w.heap.size ≤ p3 := by rw [← f3]; exact kk0.size
  clear ka3 kk0
  have h13 : p1 ≠ p3 := by omega
  have h23 : p2 ≠ p3 := by omega
  have c3_2_0 : W3.cell? ⟨p2, 0, none⟩ = some (.int .i64 m.k) := b2.cell 0
  go_enter Tryz.func10, Tryz.ntmps10
  go_wp2_with (((with_reducible refine at_load 24 (.tmp 3) ?_); refine wpList_load_row rfl 24 (.tmp 3) rfl p1 rfl 24 p.cs.toArray (0, 0) _ b1 Tryz.underlying24 rfl size24 ?_))
  refine (dT _).mono ?_
  rintro e W4 ⟨rfl, k1⟩
  clear c3_2_0
  replace b1 := b1.on k1
  replace b2 := b2.on k1
  replace b3 := b3.on k1
  replace kk := kk.trans (k1.mono kk.size)
  clear k1
  clear dT
  have c4_2_0 : W4.cell? ⟨p2, 0, none⟩ = some (.int .i64 m.k) := b2.cell 0
  have c4_2_2 : W4.cell? ⟨p2, 2, none⟩ = some (.int .i64 m.n) := b2.cell 2
  obtain ⟨W5, es5⟩ : ∃ W, W4.setRow p3 #[.int .i64 4, .int .i64 6, .int .i64 0, .int .i64 0, .int .i64 0, .int .i64 0, .int .i64 0, .int .i64 m.n, .int .i64 0, .int .i64 0, .int .i64 (wrap64 (m.n + 1)), .int .i64 0, .int .i64 0, .int .i64 0] = W := ⟨_, rfl⟩
  have bo3 := b3
  replace b1 := row_far b1 es5 (by omega)
  replace b2 := row_far b2 es5 (by omega)
  replace b3 : Blk W5 p3 40 #[.int .i64 4, .int .i64 6, .int .i64 0, .int .i64 0, .int .i64 0, .int .i64 0, .int .i64 0, .int .i64 m.n, .int .i64 0, .int .i64 0, .int .i64 (wrap64 (m.n + 1)), .int .i64 0, .int .i64 0, .int .i64 0] := row_named b3 es5
  replace kk := kk.trans (row_below es5 hp3 kk.size)
  go_wp2_with (first | ((with_reducible refine at_store 40 (.tmp 6) (.tmp 31) ?_); refine wpList_store_row rfl 40 (.tmp 6) (.tmp 31) rfl p3 #[.int .i64 4, .int .i64 6, .int .i64 0, .int .i64 0, .int .i64 0, .int .i64 0, .int .i64 0, .int .i64 m.n, .int .i64 0, .int .i64 0, .int .i64 (wrap64 (m.n + 1)), .int .i64 0, .int .i64 0, .int .i64 0] rfl rfl 40 #[.int .i64 0, .int .i64 0, .int .i64 0, .int .i64 0, .int .i64 0, .int .i64 0, .int .i64 0, .int .i64 0, .int .i64 0, .int .i64 0, .int .i64 0, .int .i64 0, .int .i64 0, .int .i64 0] bo3 size40 rfl (by simp [Value.oneCell']) ?_; rw [es5]))
  refine bodyPost_ret (results_cell_row (cs := #[.int .i64 4, .int .i64 6, .int .i64 0, .int .i64 0, .int .i64 0, .int .i64 0, .int .i64 0, .int .i64 m.n, .int .i64 0, .int .i64 0, .int .i64 (wrap64 (m.n + 1)), .int .i64 0, .int .i64 0, .int .i64 0]) rfl _ _ p3 40 (0, 0) _ rfl b3 Tryz.underlying40 rfl size40) rfl ?_
  first | exact ⟨rfl, kk⟩ | (rw [f1] at kk; exact ⟨rfl, kk⟩)
set_option maxRecDepth 100000 in
set_option maxHeartbeats 4000000 in
theorem rmic_3 (p : Pg) (hp : p.Ok) (hs : 0 ≤ p.s ∧ p.s ≤ 2) (t : Int) (m : Mi) (hk : m.k = 3) (w : World) : Calls Tryz.prog 10 #[.agg p.cs.toArray, .int .i64 t, .agg m.cs.toArray] w fun e w' => e = .returned (.agg (micA p t m).cs.toArray) ∧ Below w.heap.size w w' := by
  have eA : micA p t m = ⟨10, noP, noW, noW, noW, 0⟩ := by unfold micA scnA reaB reaP; simp [hk]
  rw [eA]
  clear eA
  have t1 : (m.k == 1) = false := by rw [hk]; rfl
  have t6 : (m.k == 6) = false := by rw [hk]; rfl
  have t3 : (m.k == 3) = true := by rw [hk]; rfl
  clear hk
  have dT := fun W => refthreads_any p hp W
  obtain ⟨p1, f1⟩ : ∃ p, w.heap.size = p := ⟨_, rfl⟩
  obtain ⟨W1, ea1⟩ : ∃ W, w.alloc (.cells p.cs.toArray 24) = W := ⟨_, rfl⟩
  have ka1 : Below w.heap.size w W1 := by rw [← ea1]; exact (Below.refl _ w).alloc (Nat.le_refl _) _
  have b1 : Blk W1 p1 24 p.cs.toArray := by rw [← ea1]; exact blk_new w _ 24 _ f1
  have kk : Below w.heap.size w W1 := ka1
  have hp1 : w.heap.size ≤ p1 := Nat.le_of_eq f1
  clear ka1
  obtain ⟨p2, f2⟩ : ∃ p, W1.heap.size = p := ⟨_, rfl⟩
  obtain ⟨W2, ea2⟩ : ∃ W, W1.alloc (.cells m.cs.toArray 30) = W := ⟨_, rfl⟩
  have ka2 : Below W1.heap.size W1 W2 := by rw [← ea2]; exact (Below.refl _ W1).alloc (Nat.le_refl _) _
  have b2 : Blk W2 p2 30 m.cs.toArray := by rw [← ea2]; exact blk_new W1 _ 30 _ f2
  have q1_2 : p1 < p2 := by rw [← f2]; exact b1.lt
  replace b1 := b1.on ka2
  have kk0 := kk
  replace kk := kk.trans (ka2.mono kk.size)
  have hp2 : w.heap.size ≤ p2 := by rw [← f2]; exact kk0.size
  clear ka2 kk0
  obtain ⟨p3, f3⟩ : ∃ p, W2.heap.size = p := ⟨_, rfl⟩
  obtain ⟨W3, ea3⟩ : ∃ W, W2.alloc (.cells #[.int .i64 0, .int .i64 0, .int .i64 0, .int .i64 0, .int .i64 0, .int .i64 0, .int .i64 0, .int .i64 0, .int .i64 0, .int .i64 0, .int .i64 0, .int .i64 0, .int .i64 0, .int .i64 0] 40) = W := ⟨_, rfl⟩
  have ka3 : Below W2.heap.size W2 W3 := by rw [← ea3]; exact (Below.refl _ W2).alloc (Nat.le_refl _) _
  have b3 : Blk W3 p3 40 #[.int .i64 0, .int .i64 0, .int .i64 0, .int .i64 0, .int .i64 0, .int .i64 0, .int .i64 0, .int .i64 0, .int .i64 0, .int .i64 0, .int .i64 0, .int .i64 0, .int .i64 0, .int .i64 0] := by rw [← ea3]; exact blk_new W2 _ 40 _ f3
  have q1_3 : p1 < p3 := by rw [← f3]; exact b1.lt
  replace b1 := b1.on ka3
  have q2_3 : p2 < p3 := by rw [← f3]; exact b2.lt
  replace b2 := b2.on ka3
  have kk0 := kk
  replace kk := kk.trans (ka3.mono kk.size)
  have hp3 : w.heap.size ≤ p3 := by rw [← f3]; exact kk0.size
  clear ka3 kk0
  have h13 : p1 ≠ p3 := by omega
  have h23 : p2 ≠ p3 := by omega
  have c3_2_0 : W3.cell? ⟨p2, 0, none⟩ = some (.int .i64 m.k) := b2.cell 0
  go_enter Tryz.func10, Tryz.ntmps10
  go_wp2_with (((with_reducible refine at_load 24 (.tmp 3) ?_); refine wpList_load_row rfl 24 (.tmp 3) rfl p1 rfl 24 p.cs.toArray (0, 0) _ b1 Tryz.underlying24 rfl size24 ?_))
  refine (dT _).mono ?_
  rintro e W4 ⟨rfl, k1⟩
  clear c3_2_0
  replace b1 := b1.on k1
  replace b2 := b2.on k1
  replace b3 := b3.on k1
  replace kk := kk.trans (k1.mono kk.size)
  clear k1
  clear dT
  have c4_2_0 : W4.cell? ⟨p2, 0, none⟩ = some (.int .i64 m.k) := b2.cell 0
  obtain ⟨W5, es5⟩ : ∃ W, W4.setRow p3 #[.int .i64 10, .int .i64 0, .int .i64 0, .int .i64 0, .int .i64 0, .int .i64 0, .int .i64 0, .int .i64 0, .int .i64 0, .int .i64 0, .int .i64 0, .int .i64 0, .int .i64 0, .int .i64 0] = W := ⟨_, rfl⟩
  have bo3 := b3
  replace b1 := row_far b1 es5 (by omega)
  replace b2 := row_far b2 es5 (by omega)
  replace b3 : Blk W5 p3 40 #[.int .i64 10, .int .i64 0, .int .i64 0, .int .i64 0, .int .i64 0, .int .i64 0, .int .i64 0, .int .i64 0, .int .i64 0, .int .i64 0, .int .i64 0, .int .i64 0, .int .i64 0, .int .i64 0] := row_named b3 es5
  replace kk := kk.trans (row_below es5 hp3 kk.size)
  go_wp2_with (first | ((with_reducible refine at_store 40 (.tmp 6) (.tmp 34) ?_); refine wpList_store_row rfl 40 (.tmp 6) (.tmp 34) rfl p3 #[.int .i64 10, .int .i64 0, .int .i64 0, .int .i64 0, .int .i64 0, .int .i64 0, .int .i64 0, .int .i64 0, .int .i64 0, .int .i64 0, .int .i64 0, .int .i64 0, .int .i64 0, .int .i64 0] rfl rfl 40 #[.int .i64 0, .int .i64 0, .int .i64 0, .int .i64 0, .int .i64 0, .int .i64 0, .int .i64 0, .int .i64 0, .int .i64 0, .int .i64 0, .int .i64 0, .int .i64 0, .int .i64 0, .int .i64 0] bo3 size40 rfl (by simp [Value.oneCell']) ?_; rw [es5]))
  refine bodyPost_ret (results_cell_row (cs := #[.int .i64 10, .int .i64 0, .int .i64 0, .int .i64 0, .int .i64 0, .int .i64 0, .int .i64 0, .int .i64 0, .int .i64 0, .int .i64 0, .int .i64 0, .int .i64 0, .int .i64 0, .int .i64 0]) rfl _ _ p3 40 (0, 0) _ rfl b3 Tryz.underlying40 rfl size40) rfl ?_
  first | exact ⟨rfl, kk⟩ | (rw [f1] at kk; exact ⟨rfl, kk⟩)
set_option maxRecDepth 100000 in
set_option maxHeartbeats 4000000 in
theorem rmic_4 (p : Pg) (hp : p.Ok) (hs : 0 ≤ p.s ∧ p.s ≤ 2) (t : Int) (m : Mi) (hk : m.k = 4) (w : World) : Calls Tryz.prog 10 #[.agg p.cs.toArray, .int .i64 t, .agg m.cs.toArray] w fun e w' => e = .returned (.agg (micA p t m).cs.toArray) ∧ Below w.heap.size w w' := by
  have eA : micA p t m = ⟨9, ⟨6, 0, 0⟩, noW, noW, noW, 0⟩ := by unfold micA scnA reaB reaP; simp [hk]
  rw [eA]
  clear eA
  have t1 : (m.k == 1) = false := by rw [hk]; rfl
  have t6 : (m.k == 6) = false := by rw [hk]; rfl
  have t3 : (m.k == 3) = false := by rw [hk]; rfl
  have t4 : (m.k == 4) = true := by rw [hk]; rfl
  clear hk
  have dT := fun W => refthreads_any p hp W
  obtain ⟨p1, f1⟩ : ∃ p, w.heap.size = p := ⟨_, rfl⟩
  obtain ⟨W1, ea1⟩ : ∃ W, w.alloc (.cells p.cs.toArray 24) = W := ⟨_, rfl⟩
  have ka1 : Below w.heap.size w W1 := by rw [← ea1]; exact (Below.refl _ w).alloc (Nat.le_refl _) _
  have b1 : Blk W1 p1 24 p.cs.toArray := by rw [← ea1]; exact blk_new w _ 24 _ f1
  have kk : Below w.heap.size w W1 := ka1
  have hp1 : w.heap.size ≤ p1 := Nat.le_of_eq f1
  clear ka1
  obtain ⟨p2, f2⟩ : ∃ p, W1.heap.size = p := ⟨_, rfl⟩
  obtain ⟨W2, ea2⟩ : ∃ W, W1.alloc (.cells m.cs.toArray 30) = W := ⟨_, rfl⟩
  have ka2 : Below W1.heap.size W1 W2 := by rw [← ea2]; exact (Below.refl _ W1).alloc (Nat.le_refl _) _
  have b2 : Blk W2 p2 30 m.cs.toArray := by rw [← ea2]; exact blk_new W1 _ 30 _ f2
  have q1_2 : p1 < p2 := by rw [← f2]; exact b1.lt
  replace b1 := b1.on ka2
  have kk0 := kk
  replace kk := kk.trans (ka2.mono kk.size)
  have hp2 : w.heap.size ≤ p2 := by rw [← f2]; exact kk0.size
  clear ka2 kk0
  obtain ⟨p3, f3⟩ : ∃ p, W2.heap.size = p := ⟨_, rfl⟩
  obtain ⟨W3, ea3⟩ : ∃ W, W2.alloc (.cells #[.int .i64 0, .int .i64 0, .int .i64 0, .int .i64 0, .int .i64 0, .int .i64 0, .int .i64 0, .int .i64 0, .int .i64 0, .int .i64 0, .int .i64 0, .int .i64 0, .int .i64 0, .int .i64 0] 40) = W := ⟨_, rfl⟩
  have ka3 : Below W2.heap.size W2 W3 := by rw [← ea3]; exact (Below.refl _ W2).alloc (Nat.le_refl _) _
  have b3 : Blk W3 p3 40 #[.int .i64 0, .int .i64 0, .int .i64 0, .int .i64 0, .int .i64 0, .int .i64 0, .int .i64 0, .int .i64 0, .int .i64 0, .int .i64 0, .int .i64 0, .int .i64 0, .int .i64 0, .int .i64 0] := by rw [← ea3]; exact blk_new W2 _ 40 _ f3
  have q1_3 : p1 < p3 := by rw [← f3]; exact b1.lt
  replace b1 := b1.on ka3
  have q2_3 : p2 < p3 := by rw [← f3]; exact b2.lt
  replace b2 := b2.on ka3
  have kk0 := kk
  replace kk := kk.trans (ka3.mono kk.size)
  have hp3 : w.heap.size ≤ p3 := by rw [← f3]; exact kk0.size
  clear ka3 kk0
  have h13 : p1 ≠ p3 := by omega
  have h23 : p2 ≠ p3 := by omega
  have c3_2_0 : W3.cell? ⟨p2, 0, none⟩ = some (.int .i64 m.k) := b2.cell 0
  go_enter Tryz.func10, Tryz.ntmps10
  go_wp2_with (((with_reducible refine at_load 24 (.tmp 3) ?_); refine wpList_load_row rfl 24 (.tmp 3) rfl p1 rfl 24 p.cs.toArray (0, 0) _ b1 Tryz.underlying24 rfl size24 ?_))
  refine (dT _).mono ?_
  rintro e W4 ⟨rfl, k1⟩
  clear c3_2_0
  replace b1 := b1.on k1
  replace b2 := b2.on k1
  replace b3 := b3.on k1
  replace kk := kk.trans (k1.mono kk.size)
  clear k1
  clear dT
  have c4_2_0 : W4.cell? ⟨p2, 0, none⟩ = some (.int .i64 m.k) := b2.cell 0
  obtain ⟨W5, es5⟩ : ∃ W, W4.setRow p3 #[.int .i64 9, .int .i64 6, .int .i64 0, .int .i64 0, .int .i64 0, .int .i64 0, .int .i64 0, .int .i64 0, .int .i64 0, .int .i64 0, .int .i64 0, .int .i64 0, .int .i64 0, .int .i64 0] = W := ⟨_, rfl⟩
  have bo3 := b3
  replace b1 := row_far b1 es5 (by omega)
  replace b2 := row_far b2 es5 (by omega)
  replace b3 : Blk W5 p3 40 #[.int .i64 9, .int .i64 6, .int .i64 0, .int .i64 0, .int .i64 0, .int .i64 0, .int .i64 0, .int .i64 0, .int .i64 0, .int .i64 0, .int .i64 0, .int .i64 0, .int .i64 0, .int .i64 0] := row_named b3 es5
  replace kk := kk.trans (row_below es5 hp3 kk.size)
  go_wp2_with (first | ((with_reducible refine at_store 40 (.tmp 6) (.tmp 38) ?_); refine wpList_store_row rfl 40 (.tmp 6) (.tmp 38) rfl p3 #[.int .i64 9, .int .i64 6, .int .i64 0, .int .i64 0, .int .i64 0, .int .i64 0, .int .i64 0, .int .i64 0, .int .i64 0, .int .i64 0, .int .i64 0, .int .i64 0, .int .i64 0, .int .i64 0] rfl rfl 40 #[.int .i64 0, .int .i64 0, .int .i64 0, .int .i64 0, .int .i64 0, .int .i64 0, .int .i64 0, .int .i64 0, .int .i64 0, .int .i64 0, .int .i64 0, .int .i64 0, .int .i64 0, .int .i64 0] bo3 size40 rfl (by simp [Value.oneCell']) ?_; rw [es5]))
  refine bodyPost_ret (results_cell_row (cs := #[.int .i64 9, .int .i64 6, .int .i64 0, .int .i64 0, .int .i64 0, .int .i64 0, .int .i64 0, .int .i64 0, .int .i64 0, .int .i64 0, .int .i64 0, .int .i64 0, .int .i64 0, .int .i64 0]) rfl _ _ p3 40 (0, 0) _ rfl b3 Tryz.underlying40 rfl size40) rfl ?_
  first | exact ⟨rfl, kk⟩ | (rw [f1] at kk; exact ⟨rfl, kk⟩)
set_option maxRecDepth 100000 in
set_option maxHeartbeats 4000000 in
theorem rmic_2lt (p : Pg) (hp : p.Ok) (hs : 0 ≤ p.s ∧ p.s ≤ 2) (t : Int) (m : Mi) (hk : m.k = 2) (hi : m.i < 0) (w : World) : Calls Tryz.prog 10 #[.agg p.cs.toArray, .int .i64 t, .agg m.cs.toArray] w fun e w' => e = .returned (.agg (micA p t m).cs.toArray) ∧ Below w.heap.size w w' := by
  have dS := fun W => refslots_any p hp W
  have hcl : 0 ≤ cl p.co.n 4 ∧ cl p.co.n 4 ≤ 4 := cl_of _ 4 (by omega)
  have es : cl p.s 2 = p.s := by unfold cl; rw [if_neg (by omega), if_neg (by omega)]
  have eZ : sloZ p = cl p.co.n 4 * p.s := by unfold sloZ; rw [es]
  have eA : micA p t m = noA := by
    have hb : slotB m.i p.co.n p.s = false := by
      unfold slotB
      rw [es, ← eZ]
      rw [decide_eq_false (show ¬ 0 ≤ m.i by omega), Bool.false_and]
    unfold micA scnA reaB
    simp [hk, hb]
  rw [eA]
  clear eA
  generalize hSZ : sloZ p = Z at *
  have z0 : decide (m.i < 0) = true := decide_eq_true (by omega)
  clear eZ es hcl
  have t1 : (m.k == 1) = false := by rw [hk]; rfl
  have t6 : (m.k == 6) = false := by rw [hk]; rfl
  have t3 : (m.k == 3) = false := by rw [hk]; rfl
  have t4 : (m.k == 4) = false := by rw [hk]; rfl
  have t2 : (m.k == 2) = true := by rw [hk]; rfl
  clear hk hSZ
  have dT := fun W => refthreads_any p hp W
  obtain ⟨p1, f1⟩ : ∃ p, w.heap.size = p := ⟨_, rfl⟩
  obtain ⟨W1, ea1⟩ : ∃ W, w.alloc (.cells p.cs.toArray 24) = W := ⟨_, rfl⟩
  have ka1 : Below w.heap.size w W1 := by rw [← ea1]; exact (Below.refl _ w).alloc (Nat.le_refl _) _
  have b1 : Blk W1 p1 24 p.cs.toArray := by rw [← ea1]; exact blk_new w _ 24 _ f1
  have kk : Below w.heap.size w W1 := ka1
  have hp1 : w.heap.size ≤ p1 := Nat.le_of_eq f1
  clear ka1
  obtain ⟨p2, f2⟩ : ∃ p, W1.heap.size = p := ⟨_, rfl⟩
  obtain ⟨W2, ea2⟩ : ∃ W, W1.alloc (.cells m.cs.toArray 30) = W := ⟨_, rfl⟩
  have ka2 : Below W1.heap.size W1 W2 := by rw [← ea2]; exact (Below.refl _ W1).alloc (Nat.le_refl _) _
  have b2 : Blk W2 p2 30 m.cs.toArray := by rw [← ea2]; exact blk_new W1 _ 30 _ f2
  have q1_2 : p1 < p2 := by rw [← f2]; exact b1.lt
  replace b1 := b1.on ka2
  have kk0 := kk
  replace kk := kk.trans (ka2.mono kk.size)
  have hp2 : w.heap.size ≤ p2 := by rw [← f2]; exact kk0.size
  clear ka2 kk0
  obtain ⟨p3, f3⟩ : ∃ p, W2.heap.size = p := ⟨_, rfl⟩
  obtain ⟨W3, ea3⟩ : ∃ W, W2.alloc (.cells #[.int .i64 0, .int .i64 0, .int .i64 0, .int .i64 0, .int .i64 0, .int .i64 0, .int .i64 0, .int .i64 0, .int .i64 0, .int .i64 0, .int .i64 0, .int .i64 0, .int .i64 0, .int .i64 0] 40) = W := ⟨_, rfl⟩
  have ka3 : Below W2.heap.size W2 W3 := by rw [← ea3]; exact (Below.refl _ W2).alloc (Nat.le_refl _) _
  have b3 : Blk W3 p3 40 #[.int .i64 0, .int .i64 0, .int .i64 0, .int .i64 0, .int .i64 0, .int .i64 0, .int .i64 0, .int .i64 0, .int .i64 0, .int .i64 0, .int .i64 0, .int .i64 0, .int .i64 0, .int .i64 0] := by rw [← ea3]; exact blk_new W2 _ 40 _ f3
  have q1_3 : p1 < p3 := by rw [← f3]; exact b1.lt
  replace b1 := b1.on ka3
  have q2_3 : p2 < p3 := by rw [← f3]; exact b2.lt
  replace b2 := b2.on ka3
  have kk0 := kk
  replace kk := kk.trans (ka3.mono kk.size)
  have hp3 : w.heap.size ≤ p3 := by rw [← f3]; exact kk0.size
  clear ka3 kk0
  have h13 : p1 ≠ p3 := by omega
  have h23 : p2 ≠ p3 := by omega
  have c3_2_0 : W3.cell? ⟨p2, 0, none⟩ = some (.int .i64 m.k) := b2.cell 0
  go_enter Tryz.func10, Tryz.ntmps10
  go_wp2_with (((with_reducible refine at_load 24 (.tmp 3) ?_); refine wpList_load_row rfl 24 (.tmp 3) rfl p1 rfl 24 p.cs.toArray (0, 0) _ b1 Tryz.underlying24 rfl size24 ?_))
  refine (dT _).mono ?_
  rintro e W4 ⟨rfl, k1⟩
  clear c3_2_0
  replace b1 := b1.on k1
  replace b2 := b2.on k1
  replace b3 := b3.on k1
  replace kk := kk.trans (k1.mono kk.size)
  clear k1
  clear dT
  have c4_2_0 : W4.cell? ⟨p2, 0, none⟩ = some (.int .i64 m.k) := b2.cell 0
  go_wp2_with fail
  clear c4_2_0
  clear f1
  go_cut [50] (fun s50 wx => s50 = .bool true ∧ Below w.heap.size w wx ∧ Blk wx p1 24 p.cs.toArray ∧ Blk wx p2 30 m.cs.toArray ∧ Blk wx p3 40 #[.int .i64 0, .int .i64 0, .int .i64 0, .int .i64 0, .int .i64 0, .int .i64 0, .int .i64 0, .int .i64 0, .int .i64 0, .int .i64 0, .int .i64 0, .int .i64 0, .int .i64 0, .int .i64 0])
  case first =>
    obtain ⟨wd, ed⟩ : ∃ W, W4.drew = W := ⟨_, rfl⟩
    have hd : Below W4.heap.size W4 wd := by rw [← ed]; exact (Below.refl _ _).drew
    replace b1 := b1.on hd
    replace b2 := b2.on hd
    replace b3 := b3.on hd
    replace kk := kk.trans (hd.mono kk.size)
    clear hd
    have kS : Kept (fun g => False) wd wd := Kept.refl _ _
    have tS : ∀ W, Kept (fun g => False) wd W → W.cell? ⟨p2, 1, none⟩ = some (.int .i64 m.i) := fun W hW => (b2.kept hW id).cell 1
    refine wp_region_noPanic ?_
    refine wp_region_held_drew (S := (fun W => Kept (fun g => False) wd W)) (by kernel_rfl) (by rw [ed]; exact kS) (fun hHeld => ?_)
    rw [ed] at hHeld ⊢
    refine wpAnyH_take (i := 0) (oi := ⟨some 41, _, _, _, _, _⟩) (v := ?_) rfl (by kernel_rfl) (by kernel_rfl) (by kernel_rfl) (fun _ _ _ h => h) (Or.inl ⟨by rfl, ?_⟩) (by assumption) ?_
    rotate_left 1
    · (intro W hSw; go_simp <;> with_reducible rfl)
    try simp only [Act.put, List.setIfInBounds_toArray, List.set_cons_zero, List.set_cons_succ]
    refine wpAnyH_take (i := 1) (oi := ⟨some 42, _, _, _, _, _⟩) (v := ?_) rfl (by kernel_rfl) (by kernel_rfl) (by kernel_rfl) (fun _ _ _ h => h) (Or.inl ⟨by rfl, ?_⟩) (by assumption) ?_
    rotate_left 1
    · (intro W hSw; obtain q0 := tS W hSw; go_simp <;> with_reducible rfl)
    try simp only [Act.put, List.setIfInBounds_toArray, List.set_cons_zero, List.set_cons_succ]
    refine wpAnyH_take (i := 2) (oi := ⟨some 43, _, _, _, _, _⟩) (v := ?_) rfl (by kernel_rfl) (by kernel_rfl) (by kernel_rfl) (fun _ _ _ h => h) (Or.inl ⟨by rfl, ?_⟩) (by assumption) ?_
    rotate_left 1
    · (intro W hSw; go_simp <;> with_reducible rfl)
    try simp only [Act.put, List.setIfInBounds_toArray, List.set_cons_zero, List.set_cons_succ]
    refine wpAnyH_take (i := 3) (oi := ⟨some 44, _, _, _, _, _⟩) (v := ?_) rfl (by kernel_rfl) (by kernel_rfl) (by kernel_rfl) (fun _ _ _ h => h) (Or.inl ⟨by rfl, ?_⟩) (by assumption) ?_
    rotate_left 1
    · (intro W hSw; go_simp <;> with_reducible rfl)
    try simp only [Act.put, List.setIfInBounds_toArray, List.set_cons_zero, List.set_cons_succ]
    refine wpAnyH_take (i := 4) (oi := ⟨some 45, _, _, _, _, _⟩) (v := undef) rfl (by kernel_rfl) (by kernel_rfl) (by kernel_rfl) (fun _ _ _ h => h) (Or.inr ⟨by rfl, rfl⟩) (by assumption) ?_
    try simp only [Act.put, List.setIfInBounds_toArray, List.set_cons_zero, List.set_cons_succ]
    refine wpAnyH_take (i := 5) (oi := ⟨some 46, _, _, _, _, _⟩) (v := undef) rfl (by kernel_rfl) (by kernel_rfl) (by kernel_rfl) (fun _ _ _ h => h) (Or.inr ⟨by rfl, rfl⟩) (by assumption) ?_
    try simp only [Act.put, List.setIfInBounds_toArray, List.set_cons_zero, List.set_cons_succ]
    refine wpAnyH_take (i := 6) (oi := ⟨some 47, _, _, _, _, _⟩) (v := undef) rfl (by kernel_rfl) (by kernel_rfl) (by kernel_rfl) (fun _ _ _ h => h) (Or.inr ⟨by rfl, rfl⟩) (by assumption) ?_
    try simp only [Act.put, List.setIfInBounds_toArray, List.set_cons_zero, List.set_cons_succ]
    refine wpAnyH_take (i := 7) (oi := ⟨some 48, _, _, _, _, _⟩) (v := undef) rfl (by kernel_rfl) (by kernel_rfl) (by kernel_rfl) (fun _ _ _ h => h) (Or.inr ⟨by rfl, rfl⟩) (by assumption) ?_
    try simp only [Act.put, List.setIfInBounds_toArray, List.set_cons_zero, List.set_cons_succ]
    refine wpAnyH_take (i := 8) (oi := ⟨some 49, _, _, _, _, _⟩) (v := undef) rfl (by kernel_rfl) (by kernel_rfl) (by kernel_rfl) (fun _ _ _ h => h) (Or.inr ⟨by rfl, rfl⟩) (by assumption) ?_
    try simp only [Act.put, List.setIfInBounds_toArray, List.set_cons_zero, List.set_cons_succ]
    refine wpAnyH_take (i := 9) (oi := ⟨some 50, _, _, _, _, _⟩) (v := ?_) rfl (by kernel_rfl) (by kernel_rfl) (by kernel_rfl) (fun _ _ _ h => h) (Or.inl ⟨by rfl, ?_⟩) (by assumption) ?_
    rotate_left 1
    · (intro W hSw; go_simp <;> with_reducible rfl)
    try simp only [Act.put, List.setIfInBounds_toArray, List.set_cons_zero, List.set_cons_succ]
    refine wpAnyH_done (by kernel_rfl) ?_ _
    refine NoPanic.normal ?_
    go_wp2_with fail
    go_meet
    exact ⟨rfl, kk, b1, b2, b3⟩
  case rest =>
    clear kk b1 b2 b3
    obtain ⟨rfl, kk, b1, b2, b3⟩ := hcut
    obtain ⟨W25, es25⟩ : ∃ W, wc.setRow p3 #[.int .i64 0, .int .i64 0, .int .i64 0, .int .i64 0, .int .i64 0, .int .i64 0, .int .i64 0, .int .i64 0, .int .i64 0, .int .i64 0, .int .i64 0, .int .i64 0, .int .i64 0, .int .i64 0] = W := ⟨_, rfl⟩
    have bo3 := b3
    replace b1 := row_far b1 es25 (by omega)
    replace b2 := row_far b2 es25 (by omega)
    replace b3 : Blk W25 p3 40 #[.int .i64 0, .int .i64 0, .int .i64 0, .int .i64 0, .int .i64 0, .int .i64 0, .int .i64 0, .int .i64 0, .int .i64 0, .int .i64 0, .int .i64 0, .int .i64 0, .int .i64 0, .int .i64 0] := row_named b3 es25
    replace kk := kk.trans (row_below es25 hp3 kk.size)
    go_wp2_with (first | ((with_reducible refine at_store 40 (.tmp 6) (.tmp 51) ?_); refine wpList_store_row rfl 40 (.tmp 6) (.tmp 51) rfl p3 #[.int .i64 0, .int .i64 0, .int .i64 0, .int .i64 0, .int .i64 0, .int .i64 0, .int .i64 0, .int .i64 0, .int .i64 0, .int .i64 0, .int .i64 0, .int .i64 0, .int .i64 0, .int .i64 0] rfl rfl 40 #[.int .i64 0, .int .i64 0, .int .i64 0, .int .i64 0, .int .i64 0, .int .i64 0, .int .i64 0, .int .i64 0, .int .i64 0, .int .i64 0, .int .i64 0, .int .i64 0, .int .i64 0, .int .i64 0] bo3 size40 rfl (by simp [Value.oneCell']) ?_; rw [es25]))
    refine bodyPost_ret (results_cell_row (cs := #[.int .i64 0, .int .i64 0, .int .i64 0, .int .i64 0, .int .i64 0, .int .i64 0, .int .i64 0, .int .i64 0, .int .i64 0, .int .i64 0, .int .i64 0, .int .i64 0, .int .i64 0, .int .i64 0]) rfl _ _ p3 40 (0, 0) _ rfl b3 Tryz.underlying40 rfl size40) rfl ?_
    first | exact ⟨rfl, kk⟩ | (rw [f1] at kk; exact ⟨rfl, kk⟩)
set_option maxRecDepth 100000 in
set_option maxHeartbeats 4000000 in
theorem rmic_2ge (p : Pg) (hp : p.Ok) (hs : 0 ≤ p.s ∧ p.s ≤ 2) (t : Int) (m : Mi) (hk : m.k = 2) (hi0 : 0 ≤ m.i) (hi : sloZ p ≤ m.i) (w : World) : Calls Tryz.prog 10 #[.agg p.cs.toArray, .int .i64 t, .agg m.cs.toArray] w fun e w' => e = .returned (.agg (micA p t m).cs.toArray) ∧ Below w.heap.size w w' := by
  have dS := fun W => refslots_any p hp W
  have hcl : 0 ≤ cl p.co.n 4 ∧ cl p.co.n 4 ≤ 4 := cl_of _ 4 (by omega)
  have es : cl p.s 2 = p.s := by unfold cl; rw [if_neg (by omega), if_neg (by omega)]
  have eZ : sloZ p = cl p.co.n 4 * p.s := by unfold sloZ; rw [es]
  have eA : micA p t m = noA := by
    have hb : slotB m.i p.co.n p.s = false := by
      unfold slotB
      rw [es, ← eZ]
      rw [decide_eq_false (show ¬ m.i < sloZ p by omega), Bool.and_false]
    unfold micA scnA reaB
    simp [hk, hb]
  rw [eA]
  clear eA
  generalize hSZ : sloZ p = Z at *
  have z0 : decide (m.i < 0) = false := decide_eq_false (by omega)
  have z1 : decide (Z ≤ m.i) = true := decide_eq_true (by omega)
  clear eZ es hcl
  have t1 : (m.k == 1) = false := by rw [hk]; rfl
  have t6 : (m.k == 6) = false := by rw [hk]; rfl
  have t3 : (m.k == 3) = false := by rw [hk]; rfl
  have t4 : (m.k == 4) = false := by rw [hk]; rfl
  have t2 : (m.k == 2) = true := by rw [hk]; rfl
  clear hk hSZ
  have dT := fun W => refthreads_any p hp W
  obtain ⟨p1, f1⟩ : ∃ p, w.heap.size = p := ⟨_, rfl⟩
  obtain ⟨W1, ea1⟩ : ∃ W, w.alloc (.cells p.cs.toArray 24) = W := ⟨_, rfl⟩
  have ka1 : Below w.heap.size w W1 := by rw [← ea1]; exact (Below.refl _ w).alloc (Nat.le_refl _) _
  have b1 : Blk W1 p1 24 p.cs.toArray := by rw [← ea1]; exact blk_new w _ 24 _ f1
  have kk : Below w.heap.size w W1 := ka1
  have hp1 : w.heap.size ≤ p1 := Nat.le_of_eq f1
  clear ka1
  obtain ⟨p2, f2⟩ : ∃ p, W1.heap.size = p := ⟨_, rfl⟩
  obtain ⟨W2, ea2⟩ : ∃ W, W1.alloc (.cells m.cs.toArray 30) = W := ⟨_, rfl⟩
  have ka2 : Below W1.heap.size W1 W2 := by rw [← ea2]; exact (Below.refl _ W1).alloc (Nat.le_refl _) _
  have b2 : Blk W2 p2 30 m.cs.toArray := by rw [← ea2]; exact blk_new W1 _ 30 _ f2
  have q1_2 : p1 < p2 := by rw [← f2]; exact b1.lt
  replace b1 := b1.on ka2
  have kk0 := kk
  replace kk := kk.trans (ka2.mono kk.size)
  have hp2 : w.heap.size ≤ p2 := by rw [← f2]; exact kk0.size
  clear ka2 kk0
  obtain ⟨p3, f3⟩ : ∃ p, W2.heap.size = p := ⟨_, rfl⟩
  obtain ⟨W3, ea3⟩ : ∃ W, W2.alloc (.cells #[.int .i64 0, .int .i64 0, .int .i64 0, .int .i64 0, .int .i64 0, .int .i64 0, .int .i64 0, .int .i64 0, .int .i64 0, .int .i64 0, .int .i64 0, .int .i64 0, .int .i64 0, .int .i64 0] 40) = W := ⟨_, rfl⟩
  have ka3 : Below W2.heap.size W2 W3 := by rw [← ea3]; exact (Below.refl _ W2).alloc (Nat.le_refl _) _
  have b3 : Blk W3 p3 40 #[.int .i64 0, .int .i64 0, .int .i64 0, .int .i64 0, .int .i64 0, .int .i64 0, .int .i64 0, .int .i64 0, .int .i64 0, .int .i64 0, .int .i64 0, .int .i64 0, .int .i64 0, .int .i64 0] := by rw [← ea3]; exact blk_new W2 _ 40 _ f3
  have q1_3 : p1 < p3 := by rw [← f3]; exact b1.lt
  replace b1 := b1.on ka3
  have q2_3 : p2 < p3 := by rw [← f3]; exact b2.lt
  replace b2 := b2.on ka3
  have kk0 := kk
  replace kk := kk.trans (ka3.mono kk.size)
  have hp3 : w.heap.size ≤ p3 := by rw [← f3]; exact kk0.size
  clear ka3 kk0
  have h13 : p1 ≠ p3 := by omega
  have h23 : p2 ≠ p3 := by omega
  have c3_2_0 : W3.cell? ⟨p2, 0, none⟩ = some (.int .i64 m.k) := b2.cell 0
  go_enter Tryz.func10, Tryz.ntmps10
  go_wp2_with (((with_reducible refine at_load 24 (.tmp 3) ?_); refine wpList_load_row rfl 24 (.tmp 3) rfl p1 rfl 24 p.cs.toArray (0, 0) _ b1 Tryz.underlying24 rfl size24 ?_))
  refine (dT _).mono ?_
  rintro e W4 ⟨rfl, k1⟩
  clear c3_2_0
  replace b1 := b1.on k1
  replace b2 := b2.on k1
  replace b3 := b3.on k1
  replace kk := kk.trans (k1.mono kk.size)
  clear k1
  clear dT
  have c4_2_0 : W4.cell? ⟨p2, 0, none⟩ = some (.int .i64 m.k) := b2.cell 0
  go_wp2_with fail
  clear c4_2_0
  clear f1
  go_cut [50] (fun s50 wx => s50 = .bool true ∧ Below w.heap.size w wx ∧ Blk wx p1 24 p.cs.toArray ∧ Blk wx p2 30 m.cs.toArray ∧ Blk wx p3 40 #[.int .i64 0, .int .i64 0, .int .i64 0, .int .i64 0, .int .i64 0, .int .i64 0, .int .i64 0, .int .i64 0, .int .i64 0, .int .i64 0, .int .i64 0, .int .i64 0, .int .i64 0, .int .i64 0])
  case first =>
    obtain ⟨wd, ed⟩ : ∃ W, W4.drew = W := ⟨_, rfl⟩
    have hd : Below W4.heap.size W4 wd := by rw [← ed]; exact (Below.refl _ _).drew
    replace b1 := b1.on hd
    replace b2 := b2.on hd
    replace b3 := b3.on hd
    replace kk := kk.trans (hd.mono kk.size)
    clear hd
    have kS : Kept (fun g => False) wd wd := Kept.refl _ _
    have tS : ∀ W, Kept (fun g => False) wd W → W.cell? ⟨p2, 1, none⟩ = some (.int .i64 m.i) := fun W hW => (b2.kept hW id).cell 1
    refine wp_region_noPanic ?_
    refine wp_region_held_drew (S := (fun W => Kept (fun g => False) wd W)) (by kernel_rfl) (by rw [ed]; exact kS) (fun hHeld => ?_)
    rw [ed] at hHeld ⊢
    refine wpAnyH_take (i := 0) (oi := ⟨some 41, _, _, _, _, _⟩) (v := ?_) rfl (by kernel_rfl) (by kernel_rfl) (by kernel_rfl) (fun _ _ _ h => h) (Or.inl ⟨by rfl, ?_⟩) (by assumption) ?_
    rotate_left 1
    · (intro W hSw; go_simp <;> with_reducible rfl)
    try simp only [Act.put, List.setIfInBounds_toArray, List.set_cons_zero, List.set_cons_succ]
    refine wpAnyH_take (i := 1) (oi := ⟨some 42, _, _, _, _, _⟩) (v := ?_) rfl (by kernel_rfl) (by kernel_rfl) (by kernel_rfl) (fun _ _ _ h => h) (Or.inl ⟨by rfl, ?_⟩) (by assumption) ?_
    rotate_left 1
    · (intro W hSw; obtain q0 := tS W hSw; go_simp <;> with_reducible rfl)
    try simp only [Act.put, List.setIfInBounds_toArray, List.set_cons_zero, List.set_cons_succ]
    refine wpAnyH_take (i := 2) (oi := ⟨some 43, _, _, _, _, _⟩) (v := ?_) rfl (by kernel_rfl) (by kernel_rfl) (by kernel_rfl) (fun _ _ _ h => h) (Or.inl ⟨by rfl, ?_⟩) (by assumption) ?_
    rotate_left 1
    · (intro W hSw; go_simp <;> with_reducible rfl)
    try simp only [Act.put, List.setIfInBounds_toArray, List.set_cons_zero, List.set_cons_succ]
    refine wpAnyH_take (i := 3) (oi := ⟨some 44, _, _, _, _, _⟩) (v := ?_) rfl (by kernel_rfl) (by kernel_rfl) (by kernel_rfl) (fun _ _ _ h => h) (Or.inl ⟨by rfl, ?_⟩) (by assumption) ?_
    rotate_left 1
    · (intro W hSw; go_simp <;> with_reducible rfl)
    try simp only [Act.put, List.setIfInBounds_toArray, List.set_cons_zero, List.set_cons_succ]
    refine wpAnyH_take (i := 4) (oi := ⟨some 45, _, _, _, _, _⟩) (v := ?_) rfl (by kernel_rfl) (by kernel_rfl) (by kernel_rfl) (fun _ _ _ h => h) (Or.inl ⟨by rfl, ?_⟩) (by assumption) ?_
    rotate_left 1
    · (intro W hSw; go_simp <;> with_reducible rfl)
    try simp only [Act.put, List.setIfInBounds_toArray, List.set_cons_zero, List.set_cons_succ]
    refine wpAnyH_take (i := 5) (oi := ⟨some 46, _, _, _, _, _⟩) (v := ?_) rfl (by kernel_rfl) (by kernel_rfl) (by kernel_rfl) (fun _ _ _ h => h) (Or.inl ⟨by rfl, ?_⟩) (by assumption) ?_
    rotate_left 1
    · (intro W hSw; obtain q0 := tS W hSw; go_simp <;> with_reducible rfl)
    try simp only [Act.put, List.setIfInBounds_toArray, List.set_cons_zero, List.set_cons_succ]
    refine wpAnyH_take (i := 6) (oi := ⟨some 47, _, _, _, _, _⟩) (v := .agg (List.toArray (p.cs))) rfl (by kernel_rfl) (by kernel_rfl) (by kernel_rfl) (fun _ _ _ h => h) (yieldsIf_load_mid (by rfl) 24 (.tmp 3) rfl p1 (0) rfl (p.cs) _ (fun W hW => range_part (b1.kept hW id) 0 p.cs rfl) Tryz.underlying24 rfl size24) (by assumption) ?_
    try simp only [Act.put, List.setIfInBounds_toArray, List.set_cons_zero, List.set_cons_succ]
    refine wpAnyH_ready (rs := [7]) (by kernel_rfl) (by simp) ?_
    refine AllReadyH.cons (o := ⟨some 48, _, _, _, _, _⟩) rfl (fun K hK => ?_) AllReadyH.nil
    go_simp
    refine (dS wd).mono ?_
    rintro e w1 ⟨rfl, hb1⟩
    have b1_1 := b1.on hb1
    have b2_1 := b2.on hb1
    have b3_1 := b3.on hb1
    have kk_1 := kk.trans (hb1.mono kk.size)
    have S1 : (fun W => Kept (fun g => False) wd W) w1 := Kept.next kS (kept_below (fun _ => False) hb1) (fun _ h => h.elim)
    refine hK.out _ _ S1 (fun h1 => ?_)
    clear hHeld hK K
    try simp only [Act.put, List.setIfInBounds_toArray, List.set_cons_zero, List.set_cons_succ]
    refine wpAnyH_take (i := 8) (oi := ⟨some 49, _, _, _, _, _⟩) (v := ?_) rfl (by kernel_rfl) (by kernel_rfl) (by kernel_rfl) (fun _ _ _ h => h) (Or.inl ⟨by rfl, ?_⟩) (by assumption) ?_
    rotate_left 1
    · (intro W hSw; go_simp <;> with_reducible rfl)
    try simp only [Act.put, List.setIfInBounds_toArray, List.set_cons_zero, List.set_cons_succ]
    refine wpAnyH_take (i := 9) (oi := ⟨some 50, _, _, _, _, _⟩) (v := ?_) rfl (by kernel_rfl) (by kernel_rfl) (by kernel_rfl) (fun _ _ _ h => h) (Or.inl ⟨by rfl, ?_⟩) (by assumption) ?_
    rotate_left 1
    · (intro W hSw; go_simp <;> with_reducible rfl)
    try simp only [Act.put, List.setIfInBounds_toArray, List.set_cons_zero, List.set_cons_succ]
    refine wpAnyH_done (by kernel_rfl) ?_ _
    refine NoPanic.normal ?_
    go_wp2_with fail
    go_meet
    exact ⟨rfl, kk_1, b1_1, b2_1, b3_1⟩
  case rest =>
    clear kk b1 b2 b3
    obtain ⟨rfl, kk, b1, b2, b3⟩ := hcut
    obtain ⟨W25, es25⟩ : ∃ W, wc.setRow p3 #[.int .i64 0, .int .i64 0, .int .i64 0, .int .i64 0, .int .i64 0, .int .i64 0, .int .i64 0, .int .i64 0, .int .i64 0, .int .i64 0, .int .i64 0, .int .i64 0, .int .i64 0, .int .i64 0] = W := ⟨_, rfl⟩
    have bo3 := b3
    replace b1 := row_far b1 es25 (by omega)
    replace b2 := row_far b2 es25 (by omega)
    replace b3 : Blk W25 p3 40 #[.int .i64 0, .int .i64 0, .int .i64 0, .int .i64 0, .int .i64 0, .int .i64 0, .int .i64 0, .int .i64 0, .int .i64 0, .int .i64 0, .int .i64 0, .int .i64 0, .int .i64 0, .int .i64 0] := row_named b3 es25
    replace kk := kk.trans (row_below es25 hp3 kk.size)
    go_wp2_with (first | ((with_reducible refine at_store 40 (.tmp 6) (.tmp 51) ?_); refine wpList_store_row rfl 40 (.tmp 6) (.tmp 51) rfl p3 #[.int .i64 0, .int .i64 0, .int .i64 0, .int .i64 0, .int .i64 0, .int .i64 0, .int .i64 0, .int .i64 0, .int .i64 0, .int .i64 0, .int .i64 0, .int .i64 0, .int .i64 0, .int .i64 0] rfl rfl 40 #[.int .i64 0, .int .i64 0, .int .i64 0, .int .i64 0, .int .i64 0, .int .i64 0, .int .i64 0, .int .i64 0, .int .i64 0, .int .i64 0, .int .i64 0, .int .i64 0, .int .i64 0, .int .i64 0] bo3 size40 rfl (by simp [Value.oneCell']) ?_; rw [es25]))
    refine bodyPost_ret (results_cell_row (cs := #[.int .i64 0, .int .i64 0, .int .i64 0, .int .i64 0, .int .i64 0, .int .i64 0, .int .i64 0, .int .i64 0, .int .i64 0, .int .i64 0, .int .i64 0, .int .i64 0, .int .i64 0, .int .i64 0]) rfl _ _ p3 40 (0, 0) _ rfl b3 Tryz.underlying40 rfl size40) rfl ?_
    first | exact ⟨rfl, kk⟩ | (rw [f1] at kk; exact ⟨rfl, kk⟩)
set_option maxRecDepth 100000 in
set_option maxHeartbeats 4000000 in
theorem rmic_2in (p : Pg) (hp : p.Ok) (hs : 0 ≤ p.s ∧ p.s ≤ 2) (t : Int) (m : Mi) (hk : m.k = 2) (hi0 : 0 ≤ m.i) (hi : m.i < sloZ p) (w : World) : Calls Tryz.prog 10 #[.agg p.cs.toArray, .int .i64 t, .agg m.cs.toArray] w fun e w' => e = .returned (.agg (micA p t m).cs.toArray) ∧ Below w.heap.size w w' := by
  have dS := fun W => refslots_any p hp W
  have hcl : 0 ≤ cl p.co.n 4 ∧ cl p.co.n 4 ≤ 4 := cl_of _ 4 (by omega)
  have es : cl p.s 2 = p.s := by unfold cl; rw [if_neg (by omega), if_neg (by omega)]
  have eZ : sloZ p = cl p.co.n 4 * p.s := by unfold sloZ; rw [es]
  have hs1 : 1 ≤ p.s := by
    rcases Int.lt_or_le p.s 1 with h | h
    · have e0 : p.s = 0 := by omega
      rw [e0, Int.mul_zero] at eZ
      omega
    · exact h
  have hm8 : m.i < 8 := by
    have : cl p.co.n 4 * p.s ≤ 4 * 2 := Int.mul_le_mul hcl.2 hs.2 hs.1 (by omega)
    omega
  have eA : micA p t m = ⟨9, ⟨5, m.i / p.s, m.i % p.s⟩, noW, noW, noW, 0⟩ := by
    have hb : slotB m.i p.co.n p.s = true := by unfold slotB; rw [es, ← eZ, decide_eq_true (show 0 ≤ m.i by omega), decide_eq_true (show m.i < sloZ p by omega)]; rfl
    unfold micA scnA reaB reaP slotP
    simp [hk, hb, es]
  rw [eA]
  clear eA
  obtain ⟨Q, hq⟩ : ∃ Q, m.i / p.s = Q := ⟨_, rfl⟩
  obtain ⟨R, hr⟩ : ∃ R, m.i % p.s = R := ⟨_, rfl⟩
  rw [hq, hr]
  generalize hSZ : sloZ p = Z at *
  have z0 : decide (m.i < 0) = false := decide_eq_false (by omega)
  have z1 : decide (Z ≤ m.i) = false := decide_eq_false (by omega)
  clear eZ es hcl
  have t1 : (m.k == 1) = false := by rw [hk]; rfl
  have t6 : (m.k == 6) = false := by rw [hk]; rfl
  have t3 : (m.k == 3) = false := by rw [hk]; rfl
  have t4 : (m.k == 4) = false := by rw [hk]; rfl
  have t2 : (m.k == 2) = true := by rw [hk]; rfl
  clear hk hSZ
  have dT := fun W => refthreads_any p hp W
  obtain ⟨p1, f1⟩ : ∃ p, w.heap.size = p := ⟨_, rfl⟩
  obtain ⟨W1, ea1⟩ : ∃ W, w.alloc (.cells p.cs.toArray 24) = W := ⟨_, rfl⟩
  have ka1 : Below w.heap.size w W1 := by rw [← ea1]; exact (Below.refl _ w).alloc (Nat.le_refl _) _
  have b1 : Blk W1 p1 24 p.cs.toArray := by rw [← ea1]; exact blk_new w _ 24 _ f1
  have kk : Below w.heap.size w W1 := ka1
  have hp1 : w.heap.size ≤ p1 := Nat.le_of_eq f1
  clear ka1
  obtain ⟨p2, f2⟩ : ∃ p, W1.heap.size = p := ⟨_, rfl⟩
  obtain ⟨W2, ea2⟩ : ∃ W, W1.alloc (.cells m.cs.toArray 30) = W := ⟨_, rfl⟩
  have ka2 : Below W1.heap.size W1 W2 := by rw [← ea2]; exact (Below.refl _ W1).alloc (Nat.le_refl _) _
  have b2 : Blk W2 p2 30 m.cs.toArray := by rw [← ea2]; exact blk_new W1 _ 30 _ f2
  have q1_2 : p1 < p2 := by rw [← f2]; exact b1.lt
  replace b1 := b1.on ka2
  have kk0 := kk
  replace kk := kk.trans (ka2.mono kk.size)
  have hp2 : w.heap.size ≤ p2 := by rw [← f2]; exact kk0.size
  clear ka2 kk0
  obtain ⟨p3, f3⟩ : ∃ p, W2.heap.size = p := ⟨_, rfl⟩
  obtain ⟨W3, ea3⟩ : ∃ W, W2.alloc (.cells #[.int .i64 0, .int .i64 0, .int .i64 0, .int .i64 0, .int .i64 0, .int .i64 0, .int .i64 0, .int .i64 0, .int .i64 0, .int .i64 0, .int .i64 0, .int .i64 0, .int .i64 0, .int .i64 0] 40) = W := ⟨_, rfl⟩
  have ka3 : Below W2.heap.size W2 W3 := by rw [← ea3]; exact (Below.refl _ W2).alloc (Nat.le_refl _) _
  have b3 : Blk W3 p3 40 #[.int .i64 0, .int .i64 0, .int .i64 0, .int .i64 0, .int .i64 0, .int .i64 0, .int .i64 0, .int .i64 0, .int .i64 0, .int .i64 0, .int .i64 0, .int .i64 0, .int .i64 0, .int .i64 0] := by rw [← ea3]; exact blk_new W2 _ 40 _ f3
  have q1_3 : p1 < p3 := by rw [← f3]; exact b1.lt
  replace b1 := b1.on ka3
  have q2_3 : p2 < p3 := by rw [← f3]; exact b2.lt
  replace b2 := b2.on ka3
  have kk0 := kk
  replace kk := kk.trans (ka3.mono kk.size)
  have hp3 : w.heap.size ≤ p3 := by rw [← f3]; exact kk0.size
  clear ka3 kk0
  have h13 : p1 ≠ p3 := by omega
  have h23 : p2 ≠ p3 := by omega
  have c3_2_0 : W3.cell? ⟨p2, 0, none⟩ = some (.int .i64 m.k) := b2.cell 0
  go_enter Tryz.func10, Tryz.ntmps10
  go_wp2_with (((with_reducible refine at_load 24 (.tmp 3) ?_); refine wpList_load_row rfl 24 (.tmp 3) rfl p1 rfl 24 p.cs.toArray (0, 0) _ b1 Tryz.underlying24 rfl size24 ?_))
  refine (dT _).mono ?_
  rintro e W4 ⟨rfl, k1⟩
  clear c3_2_0
  replace b1 := b1.on k1
  replace b2 := b2.on k1
  replace b3 := b3.on k1
  replace kk := kk.trans (k1.mono kk.size)
  clear k1
  clear dT
  have c4_2_0 : W4.cell? ⟨p2, 0, none⟩ = some (.int .i64 m.k) := b2.cell 0
  go_wp2_with fail
  clear c4_2_0
  clear f1
  go_cut [50] (fun s50 wx => s50 = .bool false ∧ Below w.heap.size w wx ∧ Blk wx p1 24 p.cs.toArray ∧ Blk wx p2 30 m.cs.toArray ∧ Blk wx p3 40 #[.int .i64 0, .int .i64 0, .int .i64 0, .int .i64 0, .int .i64 0, .int .i64 0, .int .i64 0, .int .i64 0, .int .i64 0, .int .i64 0, .int .i64 0, .int .i64 0, .int .i64 0, .int .i64 0])
  case first =>
    obtain ⟨wd, ed⟩ : ∃ W, W4.drew = W := ⟨_, rfl⟩
    have hd : Below W4.heap.size W4 wd := by rw [← ed]; exact (Below.refl _ _).drew
    replace b1 := b1.on hd
    replace b2 := b2.on hd
    replace b3 := b3.on hd
    replace kk := kk.trans (hd.mono kk.size)
    clear hd
    have kS : Kept (fun g => False) wd wd := Kept.refl _ _
    have tS : ∀ W, Kept (fun g => False) wd W → W.cell? ⟨p2, 1, none⟩ = some (.int .i64 m.i) := fun W hW => (b2.kept hW id).cell 1
    refine wp_region_noPanic ?_
    refine wp_region_held_drew (S := (fun W => Kept (fun g => False) wd W)) (by kernel_rfl) (by rw [ed]; exact kS) (fun hHeld => ?_)
    rw [ed] at hHeld ⊢
    refine wpAnyH_take (i := 0) (oi := ⟨some 41, _, _, _, _, _⟩) (v := ?_) rfl (by kernel_rfl) (by kernel_rfl) (by kernel_rfl) (fun _ _ _ h => h) (Or.inl ⟨by rfl, ?_⟩) (by assumption) ?_
    rotate_left 1
    · (intro W hSw; go_simp <;> with_reducible rfl)
    try simp only [Act.put, List.setIfInBounds_toArray, List.set_cons_zero, List.set_cons_succ]
    refine wpAnyH_take (i := 1) (oi := ⟨some 42, _, _, _, _, _⟩) (v := ?_) rfl (by kernel_rfl) (by kernel_rfl) (by kernel_rfl) (fun _ _ _ h => h) (Or.inl ⟨by rfl, ?_⟩) (by assumption) ?_
    rotate_left 1
    · (intro W hSw; obtain q0 := tS W hSw; go_simp <;> with_reducible rfl)
    try simp only [Act.put, List.setIfInBounds_toArray, List.set_cons_zero, List.set_cons_succ]
    refine wpAnyH_take (i := 2) (oi := ⟨some 43, _, _, _, _, _⟩) (v := ?_) rfl (by kernel_rfl) (by kernel_rfl) (by kernel_rfl) (fun _ _ _ h => h) (Or.inl ⟨by rfl, ?_⟩) (by assumption) ?_
    rotate_left 1
    · (intro W hSw; go_simp <;> with_reducible rfl)
    try simp only [Act.put, List.setIfInBounds_toArray, List.set_cons_zero, List.set_cons_succ]
    refine wpAnyH_take (i := 3) (oi := ⟨some 44, _, _, _, _, _⟩) (v := ?_) rfl (by kernel_rfl) (by kernel_rfl) (by kernel_rfl) (fun _ _ _ h => h) (Or.inl ⟨by rfl, ?_⟩) (by assumption) ?_
    rotate_left 1
    · (intro W hSw; go_simp <;> with_reducible rfl)
    try simp only [Act.put, List.setIfInBounds_toArray, List.set_cons_zero, List.set_cons_succ]
    refine wpAnyH_take (i := 4) (oi := ⟨some 45, _, _, _, _, _⟩) (v := ?_) rfl (by kernel_rfl) (by kernel_rfl) (by kernel_rfl) (fun _ _ _ h => h) (Or.inl ⟨by rfl, ?_⟩) (by assumption) ?_
    rotate_left 1
    · (intro W hSw; go_simp <;> with_reducible rfl)
    try simp only [Act.put, List.setIfInBounds_toArray, List.set_cons_zero, List.set_cons_succ]
    refine wpAnyH_take (i := 5) (oi := ⟨some 46, _, _, _, _, _⟩) (v := ?_) rfl (by kernel_rfl) (by kernel_rfl) (by kernel_rfl) (fun _ _ _ h => h) (Or.inl ⟨by rfl, ?_⟩) (by assumption) ?_
    rotate_left 1
    · (intro W hSw; obtain q0 := tS W hSw; go_simp <;> with_reducible rfl)
    try simp only [Act.put, List.setIfInBounds_toArray, List.set_cons_zero, List.set_cons_succ]
    refine wpAnyH_take (i := 6) (oi := ⟨some 47, _, _, _, _, _⟩) (v := .agg (List.toArray (p.cs))) rfl (by kernel_rfl) (by kernel_rfl) (by kernel_rfl) (fun _ _ _ h => h) (yieldsIf_load_mid (by rfl) 24 (.tmp 3) rfl p1 (0) rfl (p.cs) _ (fun W hW => range_part (b1.kept hW id) 0 p.cs rfl) Tryz.underlying24 rfl size24) (by assumption) ?_
    try simp only [Act.put, List.setIfInBounds_toArray, List.set_cons_zero, List.set_cons_succ]
    refine wpAnyH_ready (rs := [7]) (by kernel_rfl) (by simp) ?_
    refine AllReadyH.cons (o := ⟨some 48, _, _, _, _, _⟩) rfl (fun K hK => ?_) AllReadyH.nil
    go_simp
    refine (dS wd).mono ?_
    rintro e w1 ⟨rfl, hb1⟩
    have b1_1 := b1.on hb1
    have b2_1 := b2.on hb1
    have b3_1 := b3.on hb1
    have kk_1 := kk.trans (hb1.mono kk.size)
    have S1 : (fun W => Kept (fun g => False) wd W) w1 := Kept.next kS (kept_below (fun _ => False) hb1) (fun _ h => h.elim)
    refine hK.out _ _ S1 (fun h1 => ?_)
    clear hHeld hK K
    try simp only [Act.put, List.setIfInBounds_toArray, List.set_cons_zero, List.set_cons_succ]
    refine wpAnyH_take (i := 8) (oi := ⟨some 49, _, _, _, _, _⟩) (v := ?_) rfl (by kernel_rfl) (by kernel_rfl) (by kernel_rfl) (fun _ _ _ h => h) (Or.inl ⟨by rfl, ?_⟩) (by assumption) ?_
    rotate_left 1
    · (intro W hSw; go_simp <;> with_reducible rfl)
    try simp only [Act.put, List.setIfInBounds_toArray, List.set_cons_zero, List.set_cons_succ]
    refine wpAnyH_take (i := 9) (oi := ⟨some 50, _, _, _, _, _⟩) (v := ?_) rfl (by kernel_rfl) (by kernel_rfl) (by kernel_rfl) (fun _ _ _ h => h) (Or.inl ⟨by rfl, ?_⟩) (by assumption) ?_
    rotate_left 1
    · (intro W hSw; go_simp <;> with_reducible rfl)
    try simp only [Act.put, List.setIfInBounds_toArray, List.set_cons_zero, List.set_cons_succ]
    refine wpAnyH_done (by kernel_rfl) ?_ _
    refine NoPanic.normal ?_
    go_wp2_with fail
    go_meet
    exact ⟨rfl, kk_1, b1_1, b2_1, b3_1⟩
  case rest =>
    clear kk b1 b2 b3
    obtain ⟨rfl, kk, b1, b2, b3⟩ := hcut
    have zs : (p.s == 0) = false := by simpa using (show p.s ≠ 0 by omega)
    have i0 : 0 ≤ m.i := by have := of_decide_eq_false z0; omega
    have zs0 : ¬ p.s = 0 := by omega
    have hrt : m.i.tmod p.s = R := by rw [Int.tmod_eq_emod_of_nonneg i0, hr]
    have hqt : m.i.tdiv p.s = Q := by rw [Int.tdiv_eq_ediv_of_nonneg i0, hq]
    have hq0 : 0 ≤ Q := by rw [← hq]; exact Int.ediv_nonneg i0 (by omega)
    have hq1 : Q ≤ 9223372036854775807 := by rw [← hq]; exact Int.le_trans (Int.ediv_le_self p.s i0) (by omega)
    have hwQ : IntKind.i64.wrap Q = Q := by rw [IntKind.wrap_i64]; omega
    go_wp2_with fail
    obtain ⟨wd, ed⟩ : ∃ W, wc.drew = W := ⟨_, rfl⟩
    have hd : Below wc.heap.size wc wd := by rw [← ed]; exact (Below.refl _ _).drew
    replace b1 := b1.on hd
    replace b2 := b2.on hd
    replace b3 := b3.on hd
    replace kk := kk.trans (hd.mono kk.size)
    clear hd
    have kS : Kept (fun g => g = p3) wd wd := Kept.refl _ _
    have tS : ∀ W, Kept (fun g => g = p3) wd W → W.cell? ⟨p2, 1, none⟩ = some (.int .i64 m.i) ∧ W.cell? ⟨p1, 2, none⟩ = some (.int .i64 p.s) := fun W hW => ⟨(b2.kept hW h23).cell 1, (b1.kept hW h13).cell 2⟩
    refine wp_region_noPanic ?_
    refine wp_region_held_drew (S := (fun W => Kept (fun g => g = p3) wd W)) (by kernel_rfl) (by rw [ed]; exact kS) (fun hHeld => ?_)
    rw [ed] at hHeld ⊢
    refine wpAnyH_take (i := 0) (oi := ⟨some 52, _, _, _, _, _⟩) (v := ?_) rfl (by kernel_rfl) (by kernel_rfl) (by kernel_rfl) (fun _ _ _ h => h) (Or.inl ⟨by rfl, ?_⟩) (by assumption) ?_
    rotate_left 1
    · (intro W hSw; go_simp <;> with_reducible rfl)
    try simp only [Act.put, List.setIfInBounds_toArray, List.set_cons_zero, List.set_cons_succ]
    refine wpAnyH_take (i := 1) (oi := ⟨some 53, _, _, _, _, _⟩) (v := ?_) rfl (by kernel_rfl) (by kernel_rfl) (by kernel_rfl) (fun _ _ _ h => h) (Or.inl ⟨by rfl, ?_⟩) (by assumption) ?_
    rotate_left 1
    · (intro W hSw; obtain ⟨q0, q1⟩ := tS W hSw; go_simp <;> with_reducible rfl)
    try simp only [Act.put, List.setIfInBounds_toArray, List.set_cons_zero, List.set_cons_succ]
    refine wpAnyH_take (i := 2) (oi := ⟨some 54, _, _, _, _, _⟩) (v := ?_) rfl (by kernel_rfl) (by kernel_rfl) (by kernel_rfl) (fun _ _ _ h => h) (Or.inl ⟨by rfl, ?_⟩) (by assumption) ?_
    rotate_left 1
    · (intro W hSw; go_simp <;> with_reducible rfl)
    try simp only [Act.put, List.setIfInBounds_toArray, List.set_cons_zero, List.set_cons_succ]
    refine wpAnyH_take (i := 3) (oi := ⟨some 55, _, _, _, _, _⟩) (v := ?_) rfl (by kernel_rfl) (by kernel_rfl) (by kernel_rfl) (fun _ _ _ h => h) (Or.inl ⟨by rfl, ?_⟩) (by assumption) ?_
    rotate_left 1
    · (intro W hSw; obtain ⟨q0, q1⟩ := tS W hSw; go_simp <;> with_reducible rfl)
    try simp only [Act.put, List.setIfInBounds_toArray, List.set_cons_zero, List.set_cons_succ]
    refine wpAnyH_take (i := 4) (oi := ⟨some 56, _, _, _, _, _⟩) (v := ?_) rfl (by kernel_rfl) (by kernel_rfl) (by kernel_rfl) (fun _ _ _ h => h) (Or.inl ⟨by rfl, ?_⟩) (by assumption) ?_
    rotate_left 1
    · (intro W hSw; go_simp <;> with_reducible rfl)
    try simp only [Act.put, List.setIfInBounds_toArray, List.set_cons_zero, List.set_cons_succ]
    refine wpAnyH_take (i := 5) (oi := ⟨some 57, _, _, _, _, _⟩) (v := ?_) rfl (by kernel_rfl) (by kernel_rfl) (by kernel_rfl) (fun _ _ _ h => h) (Or.inl ⟨by rfl, ?_⟩) (by assumption) ?_
    rotate_left 1
    · (intro W hSw; go_simp <;> with_reducible rfl)
    try simp only [Act.put, List.setIfInBounds_toArray, List.set_cons_zero, List.set_cons_succ]
    refine wpAnyH_take (i := 6) (oi := ⟨some 58, _, _, _, _, _⟩) (v := ?_) rfl (by kernel_rfl) (by kernel_rfl) (by kernel_rfl) (fun _ _ _ h => h) (Or.inl ⟨by rfl, ?_⟩) (by assumption) ?_
    rotate_left 1
    · (intro W hSw; obtain ⟨q0, q1⟩ := tS W hSw; go_simp <;> with_reducible rfl)
    try simp only [Act.put, List.setIfInBounds_toArray, List.set_cons_zero, List.set_cons_succ]
    refine wpAnyH_take (i := 7) (oi := ⟨some 59, _, _, _, _, _⟩) (v := ?_) rfl (by kernel_rfl) (by kernel_rfl) (by kernel_rfl) (fun _ _ _ h => h) (Or.inl ⟨by rfl, ?_⟩) (by assumption) ?_
    rotate_left 1
    · (intro W hSw; go_simp <;> with_reducible rfl)
    try simp only [Act.put, List.setIfInBounds_toArray, List.set_cons_zero, List.set_cons_succ]
    refine wpAnyH_take (i := 8) (oi := ⟨some 60, _, _, _, _, _⟩) (v := ?_) rfl (by kernel_rfl) (by kernel_rfl) (by kernel_rfl) (fun _ _ _ h => h) (Or.inl ⟨by rfl, ?_⟩) (by assumption) ?_
    rotate_left 1
    · (intro W hSw; obtain ⟨q0, q1⟩ := tS W hSw; go_simp <;> with_reducible rfl)
    try simp only [Act.put, List.setIfInBounds_toArray, List.set_cons_zero, List.set_cons_succ]
    refine wpAnyH_take (i := 9) (oi := ⟨some 61, _, _, _, _, _⟩) (v := ?_) rfl (by kernel_rfl) (by kernel_rfl) (by kernel_rfl) (fun _ _ _ h => h) (Or.inl ⟨by rfl, ?_⟩) (by assumption) ?_
    rotate_left 1
    · (intro W hSw; go_simp <;> with_reducible rfl)
    try simp only [Act.put, List.setIfInBounds_toArray, List.set_cons_zero, List.set_cons_succ]
    refine wpAnyH_take (i := 10) (oi := ⟨some 62, _, _, _, _, _⟩) (v := ?_) rfl (by kernel_rfl) (by kernel_rfl) (by kernel_rfl) (fun _ _ _ h => h) (Or.inl ⟨by rfl, ?_⟩) (by assumption) ?_
    rotate_left 1
    · (intro W hSw; go_simp <;> with_reducible rfl)
    try simp only [Act.put, List.setIfInBounds_toArray, List.set_cons_zero, List.set_cons_succ]
    refine wpAnyH_take (i := 11) (oi := ⟨some 63, _, _, _, _, _⟩) (v := ?_) rfl (by kernel_rfl) (by kernel_rfl) (by kernel_rfl) (fun _ _ _ h => h) (Or.inl ⟨by rfl, ?_⟩) (by assumption) ?_
    rotate_left 1
    · (intro W hSw; go_simp <;> with_reducible rfl)
    try simp only [Act.put, List.setIfInBounds_toArray, List.set_cons_zero, List.set_cons_succ]
    refine wpAnyH_ready (rs := [12]) (by kernel_rfl) (by simp) ?_
    refine AllReadyH.cons (o := ⟨none, _, _, _, _, _⟩) rfl (fun K hK => ?_) AllReadyH.nil
    rw [if_pos (by rfl)]
    refine wp_store_row 40 (.tmp 6) (.tmp 63) rfl p3 #[.int .i64 9, .int .i64 5, .int .i64 Q, .int .i64 R, .int .i64 0, .int .i64 0, .int .i64 0, .int .i64 0, .int .i64 0, .int .i64 0, .int .i64 0, .int .i64 0, .int .i64 0, .int .i64 0] rfl rfl 40 #[.int .i64 0, .int .i64 0, .int .i64 0, .int .i64 0, .int .i64 0, .int .i64 0, .int .i64 0, .int .i64 0, .int .i64 0, .int .i64 0, .int .i64 0, .int .i64 0, .int .i64 0, .int .i64 0] b3 size40 rfl (by simp [Value.oneCell']) ?_
    refine hK.out _ _ (Kept.next kS (kept_row _ p3 _) (fun g h => .inl h)) (fun h1 => ?_)
    clear hHeld hK K
    have S1 : Kept (fun g => g = p3) wd (wd.setRow p3 #[.int .i64 9, .int .i64 5, .int .i64 Q, .int .i64 R, .int .i64 0, .int .i64 0, .int .i64 0, .int .i64 0, .int .i64 0, .int .i64 0, .int .i64 0, .int .i64 0, .int .i64 0, .int .i64 0]) := Kept.next kS (kept_row _ p3 _) (fun g h => .inl h)
    have b3_1 : Blk (wd.setRow p3 #[.int .i64 9, .int .i64 5, .int .i64 Q, .int .i64 R, .int .i64 0, .int .i64 0, .int .i64 0, .int .i64 0, .int .i64 0, .int .i64 0, .int .i64 0, .int .i64 0, .int .i64 0, .int .i64 0]) p3 40 #[.int .i64 9, .int .i64 5, .int .i64 Q, .int .i64 R, .int .i64 0, .int .i64 0, .int .i64 0, .int .i64 0, .int .i64 0, .int .i64 0, .int .i64 0, .int .i64 0, .int .i64 0, .int .i64 0] := row_named b3 rfl
    have kk_1 := kk.trans (row_below (W := (wd.setRow p3 #[.int .i64 9, .int .i64 5, .int .i64 Q, .int .i64 R, .int .i64 0, .int .i64 0, .int .i64 0, .int .i64 0, .int .i64 0, .int .i64 0, .int .i64 0, .int .i64 0, .int .i64 0, .int .i64 0])) rfl hp3 kk.size)
    try simp only [Act.put]
    refine wpAnyH_done (by kernel_rfl) ?_ _
    refine NoPanic.normal ?_
    go_wp2_with fail
    refine bodyPost_ret (results_cell_row (cs := #[.int .i64 9, .int .i64 5, .int .i64 Q, .int .i64 R, .int .i64 0, .int .i64 0, .int .i64 0, .int .i64 0, .int .i64 0, .int .i64 0, .int .i64 0, .int .i64 0, .int .i64 0, .int .i64 0]) rfl _ _ p3 40 (0, 0) _ rfl b3_1 Tryz.underlying40 rfl size40) rfl ?_
    exact ⟨rfl, kk_1⟩
set_option maxRecDepth 100000 in
set_option maxHeartbeats 4000000 in
theorem rmic_lt (p : Pg) (hp : p.Ok) (hs : 0 ≤ p.s ∧ p.s ≤ 2) (t : Int) (m : Mi) (h1 : m.k ≠ 1) (h6 : m.k ≠ 6) (h3 : m.k ≠ 3) (h4 : m.k ≠ 4) (h2 : m.k ≠ 2) (hi : m.i < 0) (w : World) : Calls Tryz.prog 10 #[.agg p.cs.toArray, .int .i64 t, .agg m.cs.toArray] w fun e w' => e = .returned (.agg (micA p t m).cs.toArray) ∧ Below w.heap.size w w' := by
  have hcl := thr_of p
  have hb : thtB p m.i = false := by unfold thtB inB; rw [decide_eq_false (by omega), Bool.false_and]
  have eA : micA p t m = noA := by
    unfold micA scnA reaB
    rw [if_neg h1, if_neg h6, if_neg h3]
    simp [h2, h4, h6, hb]
  rw [eA]
  clear eA
  generalize hSZ : thrZ p = Z at *
  have z0 : decide (m.i < 0) = true := decide_eq_true (by omega)
  have t1 : (m.k == 1) = false := beq_eq_false_iff_ne.2 (by omega)
  have t6 : (m.k == 6) = false := beq_eq_false_iff_ne.2 (by omega)
  have t3 : (m.k == 3) = false := beq_eq_false_iff_ne.2 (by omega)
  have t4 : (m.k == 4) = false := beq_eq_false_iff_ne.2 (by omega)
  have t2 : (m.k == 2) = false := beq_eq_false_iff_ne.2 (by omega)
  have dT := fun W => refthreads_any p hp W
  rw [hSZ] at dT
  clear h1 h6 h3 h4 h2 hSZ hcl hb
  obtain ⟨p1, f1⟩ : ∃ p, w.heap.size = p := ⟨_, rfl⟩
  obtain ⟨W1, ea1⟩ : ∃ W, w.alloc (.cells p.cs.toArray 24) = W := ⟨_, rfl⟩
  have ka1 : Below w.heap.size w W1 := by rw [← ea1]; exact (Below.refl _ w).alloc (Nat.le_refl _) _
  have b1 : Blk W1 p1 24 p.cs.toArray := by rw [← ea1]; exact blk_new w _ 24 _ f1
  have kk : Below w.heap.size w W1 := ka1
  have hp1 : w.heap.size ≤ p1 := Nat.le_of_eq f1
  clear ka1
  obtain ⟨p2, f2⟩ : ∃ p, W1.heap.size = p := ⟨_, rfl⟩
  obtain ⟨W2, ea2⟩ : ∃ W, W1.alloc (.cells m.cs.toArray 30) = W := ⟨_, rfl⟩
  have ka2 : Below W1.heap.size W1 W2 := by rw [← ea2]; exact (Below.refl _ W1).alloc (Nat.le_refl _) _
  have b2 : Blk W2 p2 30 m.cs.toArray := by rw [← ea2]; exact blk_new W1 _ 30 _ f2
  have q1_2 : p1 < p2 := by rw [← f2]; exact b1.lt
  replace b1 := b1.on ka2
  have kk0 := kk
  replace kk := kk.trans (ka2.mono kk.size)
  have hp2 : w.heap.size ≤ p2 := by rw [← f2]; exact kk0.size
  clear ka2 kk0
  obtain ⟨p3, f3⟩ : ∃ p, W2.heap.size = p := ⟨_, rfl⟩
  obtain ⟨W3, ea3⟩ : ∃ W, W2.alloc (.cells #[.int .i64 0, .int .i64 0, .int .i64 0, .int .i64 0, .int .i64 0, .int .i64 0, .int .i64 0, .int .i64 0, .int .i64 0, .int .i64 0, .int .i64 0, .int .i64 0, .int .i64 0, .int .i64 0] 40) = W := ⟨_, rfl⟩
  have ka3 : Below W2.heap.size W2 W3 := by rw [← ea3]; exact (Below.refl _ W2).alloc (Nat.le_refl _) _
  have b3 : Blk W3 p3 40 #[.int .i64 0, .int .i64 0, .int .i64 0, .int .i64 0, .int .i64 0, .int .i64 0, .int .i64 0, .int .i64 0, .int .i64 0, .int .i64 0, .int .i64 0, .int .i64 0, .int .i64 0, .int .i64 0] := by rw [← ea3]; exact blk_new W2 _ 40 _ f3
  have q1_3 : p1 < p3 := by rw [← f3]; exact b1.lt
  replace b1 := b1.on ka3
  have q2_3 : p2 < p3 := by rw [← f3]; exact b2.lt
  replace b2 := b2.on ka3
  have kk0 := kk
  replace kk := kk.trans (ka3.mono kk.size)
  have hp3 : w.heap.size ≤ p3 := by rw [← f3]; exact kk0.size
  clear ka3 kk0
  have c3_2_0 : W3.cell? ⟨p2, 0, none⟩ = some (.int .i64 m.k) := b2.cell 0
  go_enter Tryz.func10, Tryz.ntmps10
  go_wp2_with (((with_reducible refine at_load 24 (.tmp 3) ?_); refine wpList_load_row rfl 24 (.tmp 3) rfl p1 rfl 24 p.cs.toArray (0, 0) _ b1 Tryz.underlying24 rfl size24 ?_))
  refine (dT _).mono ?_
  rintro e W4 ⟨rfl, k1⟩
  clear c3_2_0
  replace b1 := b1.on k1
  replace b2 := b2.on k1
  replace b3 := b3.on k1
  replace kk := kk.trans (k1.mono kk.size)
  clear k1
  clear dT
  have c4_2_0 : W4.cell? ⟨p2, 0, none⟩ = some (.int .i64 m.k) := b2.cell 0
  have c4_2_1 : W4.cell? ⟨p2, 1, none⟩ = some (.int .i64 m.i) := b2.cell 1
  obtain ⟨W5, es5⟩ : ∃ W, W4.setRow p3 #[.int .i64 0, .int .i64 0, .int .i64 0, .int .i64 0, .int .i64 0, .int .i64 0, .int .i64 0, .int .i64 0, .int .i64 0, .int .i64 0, .int .i64 0, .int .i64 0, .int .i64 0, .int .i64 0] = W := ⟨_, rfl⟩
  have bo3 := b3
  replace b1 := row_far b1 es5 (by omega)
  replace b2 := row_far b2 es5 (by omega)
  replace b3 : Blk W5 p3 40 #[.int .i64 0, .int .i64 0, .int .i64 0, .int .i64 0, .int .i64 0, .int .i64 0, .int .i64 0, .int .i64 0, .int .i64 0, .int .i64 0, .int .i64 0, .int .i64 0, .int .i64 0, .int .i64 0] := row_named b3 es5
  replace kk := kk.trans (row_below es5 hp3 kk.size)
  go_wp2_with (first | ((with_reducible refine at_store 40 (.tmp 6) (.tmp 83) ?_); refine wpList_store_row rfl 40 (.tmp 6) (.tmp 83) rfl p3 #[.int .i64 0, .int .i64 0, .int .i64 0, .int .i64 0, .int .i64 0, .int .i64 0, .int .i64 0, .int .i64 0, .int .i64 0, .int .i64 0, .int .i64 0, .int .i64 0, .int .i64 0, .int .i64 0] rfl rfl 40 #[.int .i64 0, .int .i64 0, .int .i64 0, .int .i64 0, .int .i64 0, .int .i64 0, .int .i64 0, .int .i64 0, .int .i64 0, .int .i64 0, .int .i64 0, .int .i64 0, .int .i64 0, .int .i64 0] bo3 size40 rfl (by simp [Value.oneCell']) ?_; rw [es5]))
  refine bodyPost_ret (results_cell_row (cs := #[.int .i64 0, .int .i64 0, .int .i64 0, .int .i64 0, .int .i64 0, .int .i64 0, .int .i64 0, .int .i64 0, .int .i64 0, .int .i64 0, .int .i64 0, .int .i64 0, .int .i64 0, .int .i64 0]) rfl _ _ p3 40 (0, 0) _ rfl b3 Tryz.underlying40 rfl size40) rfl ?_
  first | exact ⟨rfl, kk⟩ | (rw [f1] at kk; exact ⟨rfl, kk⟩)
set_option maxRecDepth 100000 in
set_option maxHeartbeats 4000000 in
theorem rmic_ge (p : Pg) (hp : p.Ok) (hs : 0 ≤ p.s ∧ p.s ≤ 2) (t : Int) (m : Mi) (h1 : m.k ≠ 1) (h6 : m.k ≠ 6) (h3 : m.k ≠ 3) (h4 : m.k ≠ 4) (h2 : m.k ≠ 2) (hi0 : 0 ≤ m.i) (hi : thrZ p ≤ m.i) (w : World) : Calls Tryz.prog 10 #[.agg p.cs.toArray, .int .i64 t, .agg m.cs.toArray] w fun e w' => e = .returned (.agg (micA p t m).cs.toArray) ∧ Below w.heap.size w w' := by
  have hcl := thr_of p
  have hb : thtB p m.i = false := by unfold thtB inB; rw [decide_eq_false (show ¬ m.i ≤ thrZ p - 1 by omega), Bool.and_false]
  have eA : micA p t m = noA := by
    unfold micA scnA reaB
    rw [if_neg h1, if_neg h6, if_neg h3]
    simp [h2, h4, h6, hb]
  rw [eA]
  clear eA
  generalize hSZ : thrZ p = Z at *
  have z0 : decide (m.i < 0) = false := decide_eq_false (by omega)
  have z1 : decide (Z ≤ m.i) = true := decide_eq_true (by omega)
  have t1 : (m.k == 1) = false := beq_eq_false_iff_ne.2 (by omega)
  have t6 : (m.k == 6) = false := beq_eq_false_iff_ne.2 (by omega)
  have t3 : (m.k == 3) = false := beq_eq_false_iff_ne.2 (by omega)
  have t4 : (m.k == 4) = false := beq_eq_false_iff_ne.2 (by omega)
  have t2 : (m.k == 2) = false := beq_eq_false_iff_ne.2 (by omega)
  have dT := fun W => refthreads_any p hp W
  rw [hSZ] at dT
  clear h1 h6 h3 h4 h2 hSZ hcl hb
  obtain ⟨p1, f1⟩ : ∃ p, w.heap.size = p := ⟨_, rfl⟩
  obtain ⟨W1, ea1⟩ : ∃ W, w.alloc (.cells p.cs.toArray 24) = W := ⟨_, rfl⟩
  have ka1 : Below w.heap.size w W1 := by rw [← ea1]; exact (Below.refl _ w).alloc (Nat.le_refl _) _
  have b1 : Blk W1 p1 24 p.cs.toArray := by rw [← ea1]; exact blk_new w _ 24 _ f1
  have kk : Below w.heap.size w W1 := ka1
  have hp1 : w.heap.size ≤ p1 := Nat.le_of_eq f1
  clear ka1
  obtain ⟨p2, f2⟩ : ∃ p, W1.heap.size = p := ⟨_, rfl⟩
  obtain ⟨W2, ea2⟩ : ∃ W, W1.alloc (.cells m.cs.toArray 30) = W := ⟨_, rfl⟩
  have ka2 : Below W1.heap.size W1 W2 := by rw [← ea2]; exact (Below.refl _ W1).alloc (Nat.le_refl _) _
  have b2 : Blk W2 p2 30 m.cs.toArray := by rw [← ea2]; exact blk_new W1 _ 30 _ f2
  have q1_2 : p1 < p2 := by rw [← f2]; exact b1.lt
  replace b1 := b1.on ka2
  have kk0 := kk
  replace kk := kk.trans (ka2.mono kk.size)
  have hp2 : w.heap.size ≤ p2 := by rw [← f2]; exact kk0.size
  clear ka2 kk0
  obtain ⟨p3, f3⟩ : ∃ p, W2.heap.size = p := ⟨_, rfl⟩
  obtain ⟨W3, ea3⟩ : ∃ W, W2.alloc (.cells #[.int .i64 0, .int .i64 0, .int .i64 0, .int .i64 0, .int .i64 0, .int .i64 0, .int .i64 0, .int .i64 0, .int .i64 0, .int .i64 0, .int .i64 0, .int .i64 0, .int .i64 0, .int .i64 0] 40) = W := ⟨_, rfl⟩
  have ka3 : Below W2.heap.size W2 W3 := by rw [← ea3]; exact (Below.refl _ W2).alloc (Nat.le_refl _) _
  have b3 : Blk W3 p3 40 #[.int .i64 0, .int .i64 0, .int .i64 0, .int .i64 0, .int .i64 0, .int .i64 0, .int .i64 0, .int .i64 0, .int .i64 0, .int .i64 0, .int .i64 0, .int .i64 0, .int .i64 0, .int .i64 0] := by rw [← ea3]; exact blk_new W2 _ 40 _ f3
  have q1_3 : p1 < p3 := by rw [← f3]; exact b1.lt
  replace b1 := b1.on ka3
  have q2_3 : p2 < p3 := by rw [← f3]; exact b2.lt
  replace b2 := b2.on ka3
  have kk0 := kk
  replace kk := kk.trans (ka3.mono kk.size)
  have hp3 : w.heap.size ≤ p3 := by rw [← f3]; exact kk0.size
  clear ka3 kk0
  have c3_2_0 : W3.cell? ⟨p2, 0, none⟩ = some (.int .i64 m.k) := b2.cell 0
  go_enter Tryz.func10, Tryz.ntmps10
  go_wp2_with (((with_reducible refine at_load 24 (.tmp 3) ?_); refine wpList_load_row rfl 24 (.tmp 3) rfl p1 rfl 24 p.cs.toArray (0, 0) _ b1 Tryz.underlying24 rfl size24 ?_))
  refine (dT _).mono ?_
  rintro e W4 ⟨rfl, k1⟩
  clear c3_2_0
  replace b1 := b1.on k1
  replace b2 := b2.on k1
  replace b3 := b3.on k1
  replace kk := kk.trans (k1.mono kk.size)
  clear k1
  clear dT
  have c4_2_0 : W4.cell? ⟨p2, 0, none⟩ = some (.int .i64 m.k) := b2.cell 0
  have c4_2_1 : W4.cell? ⟨p2, 1, none⟩ = some (.int .i64 m.i) := b2.cell 1
  obtain ⟨W5, es5⟩ : ∃ W, W4.setRow p3 #[.int .i64 0, .int .i64 0, .int .i64 0, .int .i64 0, .int .i64 0, .int .i64 0, .int .i64 0, .int .i64 0, .int .i64 0, .int .i64 0, .int .i64 0, .int .i64 0, .int .i64 0, .int .i64 0] = W := ⟨_, rfl⟩
  have bo3 := b3
  replace b1 := row_far b1 es5 (by omega)
  replace b2 := row_far b2 es5 (by omega)
  replace b3 : Blk W5 p3 40 #[.int .i64 0, .int .i64 0, .int .i64 0, .int .i64 0, .int .i64 0, .int .i64 0, .int .i64 0, .int .i64 0, .int .i64 0, .int .i64 0, .int .i64 0, .int .i64 0, .int .i64 0, .int .i64 0] := row_named b3 es5
  replace kk := kk.trans (row_below es5 hp3 kk.size)
  go_wp2_with (first | ((with_reducible refine at_store 40 (.tmp 6) (.tmp 83) ?_); refine wpList_store_row rfl 40 (.tmp 6) (.tmp 83) rfl p3 #[.int .i64 0, .int .i64 0, .int .i64 0, .int .i64 0, .int .i64 0, .int .i64 0, .int .i64 0, .int .i64 0, .int .i64 0, .int .i64 0, .int .i64 0, .int .i64 0, .int .i64 0, .int .i64 0] rfl rfl 40 #[.int .i64 0, .int .i64 0, .int .i64 0, .int .i64 0, .int .i64 0, .int .i64 0, .int .i64 0, .int .i64 0, .int .i64 0, .int .i64 0, .int .i64 0, .int .i64 0, .int .i64 0, .int .i64 0] bo3 size40 rfl (by simp [Value.oneCell']) ?_; rw [es5]))
  refine bodyPost_ret (results_cell_row (cs := #[.int .i64 0, .int .i64 0, .int .i64 0, .int .i64 0, .int .i64 0, .int .i64 0, .int .i64 0, .int .i64 0, .int .i64 0, .int .i64 0, .int .i64 0, .int .i64 0, .int .i64 0, .int .i64 0]) rfl _ _ p3 40 (0, 0) _ rfl b3 Tryz.underlying40 rfl size40) rfl ?_
  first | exact ⟨rfl, kk⟩ | (rw [f1] at kk; exact ⟨rfl, kk⟩)
set_option maxRecDepth 100000 in
set_option maxHeartbeats 4000000 in
theorem rmic_lo (p : Pg) (hp : p.Ok) (hs : 0 ≤ p.s ∧ p.s ≤ 2) (t : Int) (m : Mi) (h1 : m.k ≠ 1) (h6 : m.k ≠ 6) (h3 : m.k ≠ 3) (h4 : m.k ≠ 4) (h2 : m.k ≠ 2) (hi0 : 0 ≤ m.i) (hi : m.i < thrZ p) (hv : m.k < 5) (w : World) : Calls Tryz.prog 10 #[.agg p.cs.toArray, .int .i64 t, .agg m.cs.toArray] w fun e w' => e = .returned (.agg (micA p t m).cs.toArray) ∧ Below w.heap.size w w' := by
  have hcl := thr_of p
  have eA : micA p t m = noA := by
    unfold micA scnA reaB
    rw [if_neg h1, if_neg h6, if_neg h3]
    have n5 : m.k ≠ 5 := by omega
    have n7 : m.k ≠ 7 := by omega
    have n8 : m.k ≠ 8 := by omega
    simp [h2, h4, h6, n5, n7, n8]
  rw [eA]
  clear eA
  generalize hSZ : thrZ p = Z at *
  have z0 : decide (m.i < 0) = false := decide_eq_false (by omega)
  have z1 : decide (Z ≤ m.i) = false := decide_eq_false (by omega)
  have z2 : decide (m.k < 5) = true := decide_eq_true (by omega)
  have t1 : (m.k == 1) = false := beq_eq_false_iff_ne.2 (by omega)
  have t6 : (m.k == 6) = false := beq_eq_false_iff_ne.2 (by omega)
  have t3 : (m.k == 3) = false := beq_eq_false_iff_ne.2 (by omega)
  have t4 : (m.k == 4) = false := beq_eq_false_iff_ne.2 (by omega)
  have t2 : (m.k == 2) = false := beq_eq_false_iff_ne.2 (by omega)
  have dT := fun W => refthreads_any p hp W
  rw [hSZ] at dT
  clear h1 h6 h3 h4 h2 hSZ hcl
  obtain ⟨p1, f1⟩ : ∃ p, w.heap.size = p := ⟨_, rfl⟩
  obtain ⟨W1, ea1⟩ : ∃ W, w.alloc (.cells p.cs.toArray 24) = W := ⟨_, rfl⟩
  have ka1 : Below w.heap.size w W1 := by rw [← ea1]; exact (Below.refl _ w).alloc (Nat.le_refl _) _
  have b1 : Blk W1 p1 24 p.cs.toArray := by rw [← ea1]; exact blk_new w _ 24 _ f1
  have kk : Below w.heap.size w W1 := ka1
  have hp1 : w.heap.size ≤ p1 := Nat.le_of_eq f1
  clear ka1
  obtain ⟨p2, f2⟩ : ∃ p, W1.heap.size = p := ⟨_, rfl⟩
  obtain ⟨W2, ea2⟩ : ∃ W, W1.alloc (.cells m.cs.toArray 30) = W := ⟨_, rfl⟩
  have ka2 : Below W1.heap.size W1 W2 := by rw [← ea2]; exact (Below.refl _ W1).alloc (Nat.le_refl _) _
  have b2 : Blk W2 p2 30 m.cs.toArray := by rw [← ea2]; exact blk_new W1 _ 30 _ f2
  have q1_2 : p1 < p2 := by rw [← f2]; exact b1.lt
  replace b1 := b1.on ka2
  have kk0 := kk
  replace kk := kk.trans (ka2.mono kk.size)
  have hp2 : w.heap.size ≤ p2 := by rw [← f2]; exact kk0.size
  clear ka2 kk0
  obtain ⟨p3, f3⟩ : ∃ p, W2.heap.size = p := ⟨_, rfl⟩
  obtain ⟨W3, ea3⟩ : ∃ W, W2.alloc (.cells #[.int .i64 0, .int .i64 0, .int .i64 0, .int .i64 0, .int .i64 0, .int .i64 0, .int .i64 0, .int .i64 0, .int .i64 0, .int .i64 0, .int .i64 0, .int .i64 0, .int .i64 0, .int .i64 0] 40) = W := ⟨_, rfl⟩
  have ka3 : Below W2.heap.size W2 W3 := by rw [← ea3]; exact (Below.refl _ W2).alloc (Nat.le_refl _) _
  have b3 : Blk W3 p3 40 #[.int .i64 0, .int .i64 0, .int .i64 0, .int .i64 0, .int .i64 0, .int .i64 0, .int .i64 0, .int .i64 0, .int .i64 0, .int .i64 0, .int .i64 0, .int .i64 0, .int .i64 0, .int .i64 0] := by rw [← ea3]; exact blk_new W2 _ 40 _ f3
  have q1_3 : p1 < p3 := by rw [← f3]; exact b1.lt
  replace b1 := b1.on ka3
  have q2_3 : p2 < p3 := by rw [← f3]; exact b2.lt
  replace b2 := b2.on ka3
  have kk0 := kk
  replace kk := kk.trans (ka3.mono kk.size)
  have hp3 : w.heap.size ≤ p3 := by rw [← f3]; exact kk0.size
  clear ka3 kk0
  have c3_2_0 : W3.cell? ⟨p2, 0, none⟩ = some (.int .i64 m.k) := b2.cell 0
  go_enter Tryz.func10, Tryz.ntmps10
  go_wp2_with (((with_reducible refine at_load 24 (.tmp 3) ?_); refine wpList_load_row rfl 24 (.tmp 3) rfl p1 rfl 24 p.cs.toArray (0, 0) _ b1 Tryz.underlying24 rfl size24 ?_))
  refine (dT _).mono ?_
  rintro e W4 ⟨rfl, k1⟩
  clear c3_2_0
  replace b1 := b1.on k1
  replace b2 := b2.on k1
  replace b3 := b3.on k1
  replace kk := kk.trans (k1.mono kk.size)
  clear k1
  clear dT
  have c4_2_0 : W4.cell? ⟨p2, 0, none⟩ = some (.int .i64 m.k) := b2.cell 0
  have c4_2_1 : W4.cell? ⟨p2, 1, none⟩ = some (.int .i64 m.i) := b2.cell 1
  obtain ⟨W5, es5⟩ : ∃ W, W4.setRow p3 #[.int .i64 0, .int .i64 0, .int .i64 0, .int .i64 0, .int .i64 0, .int .i64 0, .int .i64 0, .int .i64 0, .int .i64 0, .int .i64 0, .int .i64 0, .int .i64 0, .int .i64 0, .int .i64 0] = W := ⟨_, rfl⟩
  have bo3 := b3
  replace b1 := row_far b1 es5 (by omega)
  replace b2 := row_far b2 es5 (by omega)
  replace b3 : Blk W5 p3 40 #[.int .i64 0, .int .i64 0, .int .i64 0, .int .i64 0, .int .i64 0, .int .i64 0, .int .i64 0, .int .i64 0, .int .i64 0, .int .i64 0, .int .i64 0, .int .i64 0, .int .i64 0, .int .i64 0] := row_named b3 es5
  replace kk := kk.trans (row_below es5 hp3 kk.size)
  go_wp2_with (first | ((with_reducible refine at_store 40 (.tmp 6) (.tmp 83) ?_); refine wpList_store_row rfl 40 (.tmp 6) (.tmp 83) rfl p3 #[.int .i64 0, .int .i64 0, .int .i64 0, .int .i64 0, .int .i64 0, .int .i64 0, .int .i64 0, .int .i64 0, .int .i64 0, .int .i64 0, .int .i64 0, .int .i64 0, .int .i64 0, .int .i64 0] rfl rfl 40 #[.int .i64 0, .int .i64 0, .int .i64 0, .int .i64 0, .int .i64 0, .int .i64 0, .int .i64 0, .int .i64 0, .int .i64 0, .int .i64 0, .int .i64 0, .int .i64 0, .int .i64 0, .int .i64 0] bo3 size40 rfl (by simp [Value.oneCell']) ?_; rw [es5]))
  refine bodyPost_ret (results_cell_row (cs := #[.int .i64 0, .int .i64 0, .int .i64 0, .int .i64 0, .int .i64 0, .int .i64 0, .int .i64 0, .int .i64 0, .int .i64 0, .int .i64 0, .int .i64 0, .int .i64 0, .int .i64 0, .int .i64 0]) rfl _ _ p3 40 (0, 0) _ rfl b3 Tryz.underlying40 rfl size40) rfl ?_
  first | exact ⟨rfl, kk⟩ | (rw [f1] at kk; exact ⟨rfl, kk⟩)
set_option maxRecDepth 100000 in
set_option maxHeartbeats 4000000 in
theorem rmic_hi (p : Pg) (hp : p.Ok) (hs : 0 ≤ p.s ∧ p.s ≤ 2) (t : Int) (m : Mi) (h1 : m.k ≠ 1) (h6 : m.k ≠ 6) (h3 : m.k ≠ 3) (h4 : m.k ≠ 4) (h2 : m.k ≠ 2) (hi0 : 0 ≤ m.i) (hi : m.i < thrZ p) (hv : 8 < m.k) (w : World) : Calls Tryz.prog 10 #[.agg p.cs.toArray, .int .i64 t, .agg m.cs.toArray] w fun e w' => e = .returned (.agg (micA p t m).cs.toArray) ∧ Below w.heap.size w w' := by
  have hcl := thr_of p
  have eA : micA p t m = noA := by
    unfold micA scnA reaB
    rw [if_neg h1, if_neg h6, if_neg h3]
    have n5 : m.k ≠ 5 := by omega
    have n7 : m.k ≠ 7 := by omega
    have n8 : m.k ≠ 8 := by omega
    simp [h2, h4, h6, n5, n7, n8]
  rw [eA]
  clear eA
  generalize hSZ : thrZ p = Z at *
  have z0 : decide (m.i < 0) = false := decide_eq_false (by omega)
  have z1 : decide (Z ≤ m.i) = false := decide_eq_false (by omega)
  have z2 : decide (m.k < 5) = false := decide_eq_false (by omega)
  have z3 : decide (8 < m.k) = true := decide_eq_true (by omega)
  have t1 : (m.k == 1) = false := beq_eq_false_iff_ne.2 (by omega)
  have t6 : (m.k == 6) = false := beq_eq_false_iff_ne.2 (by omega)
  have t3 : (m.k == 3) = false := beq_eq_false_iff_ne.2 (by omega)
  have t4 : (m.k == 4) = false := beq_eq_false_iff_ne.2 (by omega)
  have t2 : (m.k == 2) = false := beq_eq_false_iff_ne.2 (by omega)
  have dT := fun W => refthreads_any p hp W
  rw [hSZ] at dT
  clear h1 h6 h3 h4 h2 hSZ hcl
  obtain ⟨p1, f1⟩ : ∃ p, w.heap.size = p := ⟨_, rfl⟩
  obtain ⟨W1, ea1⟩ : ∃ W, w.alloc (.cells p.cs.toArray 24) = W := ⟨_, rfl⟩
  have ka1 : Below w.heap.size w W1 := by rw [← ea1]; exact (Below.refl _ w).alloc (Nat.le_refl _) _
  have b1 : Blk W1 p1 24 p.cs.toArray := by rw [← ea1]; exact blk_new w _ 24 _ f1
  have kk : Below w.heap.size w W1 := ka1
  have hp1 : w.heap.size ≤ p1 := Nat.le_of_eq f1
  clear ka1
  obtain ⟨p2, f2⟩ : ∃ p, W1.heap.size = p := ⟨_, rfl⟩
  obtain ⟨W2, ea2⟩ : ∃ W, W1.alloc (.cells m.cs.toArray 30) = W := ⟨_, rfl⟩
  have ka2 : Below W1.heap.size W1 W2 := by rw [← ea2]; exact (Below.refl _ W1).alloc (Nat.le_refl _) _
  have b2 : Blk W2 p2 30 m.cs.toArray := by rw [← ea2]; exact blk_new W1 _ 30 _ f2
  have q1_2 : p1 < p2 := by rw [← f2]; exact b1.lt
  replace b1 := b1.on ka2
  have kk0 := kk
  replace kk := kk.trans (ka2.mono kk.size)
  have hp2 : w.heap.size ≤ p2 := by rw [← f2]; exact kk0.size
  clear ka2 kk0
  obtain ⟨p3, f3⟩ : ∃ p, W2.heap.size = p := ⟨_, rfl⟩
  obtain ⟨W3, ea3⟩ : ∃ W, W2.alloc (.cells #[.int .i64 0, .int .i64 0, .int .i64 0, .int .i64 0, .int .i64 0, .int .i64 0, .int .i64 0, .int .i64 0, .int .i64 0, .int .i64 0, .int .i64 0, .int .i64 0, .int .i64 0, .int .i64 0] 40) = W := ⟨_, rfl⟩
  have ka3 : Below W2.heap.size W2 W3 := by rw [← ea3]; exact (Below.refl _ W2).alloc (Nat.le_refl _) _
  have b3 : Blk W3 p3 40 #[.int .i64 0, .int .i64 0, .int .i64 0, .int .i64 0, .int .i64 0, .int .i64 0, .int .i64 0, .int .i64 0, .int .i64 0, .int .i64 0, .int .i64 0, .int .i64 0, .int .i64 0, .int .i64 0] := by rw [← ea3]; exact blk_new W2 _ 40 _ f3
  have q1_3 : p1 < p3 := by rw [← f3]; exact b1.lt
  replace b1 := b1.on ka3
  have q2_3 : p2 < p3 := by rw [← f3]; exact b2.lt
  replace b2 := b2.on ka3
  have kk0 := kk
  replace kk := kk.trans (ka3.mono kk.size)
  have hp3 : w.heap.size ≤ p3 := by rw [← f3]; exact kk0.size
  clear ka3 kk0
  have c3_2_0 : W3.cell? ⟨p2, 0, none⟩ = some (.int .i64 m.k) := b2.cell 0
  go_enter Tryz.func10, Tryz.ntmps10
  go_wp2_with (((with_reducible refine at_load 24 (.tmp 3) ?_); refine wpList_load_row rfl 24 (.tmp 3) rfl p1 rfl 24 p.cs.toArray (0, 0) _ b1 Tryz.underlying24 rfl size24 ?_))
  refine (dT _).mono ?_
  rintro e W4 ⟨rfl, k1⟩
  clear c3_2_0
  replace b1 := b1.on k1
  replace b2 := b2.on k1
  replace b3 := b3.on k1
  replace kk := kk.trans (k1.mono kk.size)
  clear k1
  clear dT
  have c4_2_0 : W4.cell? ⟨p2, 0, none⟩ = some (.int .i64 m.k) := b2.cell 0
  have c4_2_1 : W4.cell? ⟨p2, 1, none⟩ = some (.int .i64 m.i) := b2.cell 1
  obtain ⟨W5, es5⟩ : ∃ W, W4.setRow p3 #[.int .i64 0, .int .i64 0, .int .i64 0, .int .i64 0, .int .i64 0, .int .i64 0, .int .i64 0, .int .i64 0, .int .i64 0, .int .i64 0, .int .i64 0, .int .i64 0, .int .i64 0, .int .i64 0] = W := ⟨_, rfl⟩
  have bo3 := b3
  replace b1 := row_far b1 es5 (by omega)
  replace b2 := row_far b2 es5 (by omega)
  replace b3 : Blk W5 p3 40 #[.int .i64 0, .int .i64 0, .int .i64 0, .int .i64 0, .int .i64 0, .int .i64 0, .int .i64 0, .int .i64 0, .int .i64 0, .int .i64 0, .int .i64 0, .int .i64 0, .int .i64 0, .int .i64 0] := row_named b3 es5
  replace kk := kk.trans (row_below es5 hp3 kk.size)
  go_wp2_with (first | ((with_reducible refine at_store 40 (.tmp 6) (.tmp 83) ?_); refine wpList_store_row rfl 40 (.tmp 6) (.tmp 83) rfl p3 #[.int .i64 0, .int .i64 0, .int .i64 0, .int .i64 0, .int .i64 0, .int .i64 0, .int .i64 0, .int .i64 0, .int .i64 0, .int .i64 0, .int .i64 0, .int .i64 0, .int .i64 0, .int .i64 0] rfl rfl 40 #[.int .i64 0, .int .i64 0, .int .i64 0, .int .i64 0, .int .i64 0, .int .i64 0, .int .i64 0, .int .i64 0, .int .i64 0, .int .i64 0, .int .i64 0, .int .i64 0, .int .i64 0, .int .i64 0] bo3 size40 rfl (by simp [Value.oneCell']) ?_; rw [es5]))
  refine bodyPost_ret (results_cell_row (cs := #[.int .i64 0, .int .i64 0, .int .i64 0, .int .i64 0, .int .i64 0, .int .i64 0, .int .i64 0, .int .i64 0, .int .i64 0, .int .i64 0, .int .i64 0, .int .i64 0, .int .i64 0, .int .i64 0]) rfl _ _ p3 40 (0, 0) _ rfl b3 Tryz.underlying40 rfl size40) rfl ?_
  first | exact ⟨rfl, kk⟩ | (rw [f1] at kk; exact ⟨rfl, kk⟩)
set_option maxRecDepth 100000 in
set_option maxHeartbeats 4000000 in
theorem rmic_five (p : Pg) (hp : p.Ok) (hs : 0 ≤ p.s ∧ p.s ≤ 2) (t : Int) (m : Mi) (h1 : m.k ≠ 1) (h6 : m.k ≠ 6) (h3 : m.k ≠ 3) (h4 : m.k ≠ 4) (h2 : m.k ≠ 2) (hi0 : 0 ≤ m.i) (hi : m.i < thrZ p) (hv : m.k = 5) (w : World) : Calls Tryz.prog 10 #[.agg p.cs.toArray, .int .i64 t, .agg m.cs.toArray] w fun e w' => e = .returned (.agg (micA p t m).cs.toArray) ∧ Below w.heap.size w w' := by
  have hcl := thr_of p
  have hb : thtB p m.i = true := by unfold thtB inB; rw [decide_eq_true (by omega), decide_eq_true (show m.i ≤ thrZ p - 1 by omega)]; rfl
  have eA : micA p t m = ⟨9, ⟨7, m.i, 0⟩, noW, noW, noW, 0⟩ := by
    unfold micA scnA reaB reaP thtP
    rw [if_neg h1, if_neg h6, if_neg h3]
    simp [hv, hb]
  rw [eA]
  clear eA
  generalize hSZ : thrZ p = Z at *
  have z0 : decide (m.i < 0) = false := decide_eq_false (by omega)
  have z1 : decide (Z ≤ m.i) = false := decide_eq_false (by omega)
  have z2 : decide (m.k < 5) = false := decide_eq_false (by omega)
  have z3 : decide (8 < m.k) = false := decide_eq_false (by omega)
  have z5 : (m.k == 5) = true := by rw [hv]; rfl
  have t1 : (m.k == 1) = false := beq_eq_false_iff_ne.2 (by omega)
  have t6 : (m.k == 6) = false := beq_eq_false_iff_ne.2 (by omega)
  have t3 : (m.k == 3) = false := beq_eq_false_iff_ne.2 (by omega)
  have t4 : (m.k == 4) = false := beq_eq_false_iff_ne.2 (by omega)
  have t2 : (m.k == 2) = false := beq_eq_false_iff_ne.2 (by omega)
  have dT := fun W => refthreads_any p hp W
  rw [hSZ] at dT
  clear h1 h6 h3 h4 h2 hSZ hcl hb
  obtain ⟨p1, f1⟩ : ∃ p, w.heap.size = p := ⟨_, rfl⟩
  obtain ⟨W1, ea1⟩ : ∃ W, w.alloc (.cells p.cs.toArray 24) = W := ⟨_, rfl⟩
  have ka1 : Below w.heap.size w W1 := by rw [← ea1]; exact (Below.refl _ w).alloc (Nat.le_refl _) _
  have b1 : Blk W1 p1 24 p.cs.toArray := by rw [← ea1]; exact blk_new w _ 24 _ f1
  have kk : Below w.heap.size w W1 := ka1
  have hp1 : w.heap.size ≤ p1 := Nat.le_of_eq f1
  clear ka1
  obtain ⟨p2, f2⟩ : ∃ p, W1.heap.size = p := ⟨_, rfl⟩
  obtain ⟨W2, ea2⟩ : ∃ W, W1.alloc (.cells m.cs.toArray 30) = W := ⟨_, rfl⟩
  have ka2 : Below W1.heap.size W1 W2 := by rw [← ea2]; exact (Below.refl _ W1).alloc (Nat.le_refl _) _
  have b2 : Blk W2 p2 30 m.cs.toArray := by rw [← ea2]; exact blk_new W1 _ 30 _ f2
  have q1_2 : p1 < p2 := by rw [← f2]; exact b1.lt
  replace b1 := b1.on ka2
  have kk0 := kk
  replace kk := kk.trans (ka2.mono kk.size)
  have hp2 : w.heap.size ≤ p2 := by rw [← f2]; exact kk0.size
  clear ka2 kk0
  obtain ⟨p3, f3⟩ : ∃ p, W2.heap.size = p := ⟨_, rfl⟩
  obtain ⟨W3, ea3⟩ : ∃ W, W2.alloc (.cells #[.int .i64 0, .int .i64 0, .int .i64 0, .int .i64 0, .int .i64 0, .int .i64 0, .int .i64 0, .int .i64 0, .int .i64 0, .int .i64 0, .int .i64 0, .int .i64 0, .int .i64 0, .int .i64 0] 40) = W := ⟨_, rfl⟩
  have ka3 : Below W2.heap.size W2 W3 := by rw [← ea3]; exact (Below.refl _ W2).alloc (Nat.le_refl _) _
  have b3 : Blk W3 p3 40 #[.int .i64 0, .int .i64 0, .int .i64 0, .int .i64 0, .int .i64 0, .int .i64 0, .int .i64 0, .int .i64 0, .int .i64 0, .int .i64 0, .int .i64 0, .int .i64 0, .int .i64 0, .int .i64 0] := by rw [← ea3]; exact blk_new W2 _ 40 _ f3
  have q1_3 : p1 < p3 := by rw [← f3]; exact b1.lt
  replace b1 := b1.on ka3
  have q2_3 : p2 < p3 := by rw [← f3]; exact b2.lt
  replace b2 := b2.on ka3
  have kk0 := kk
  replace kk := kk.trans (ka3.mono kk.size)
  have hp3 : w.heap.size ≤ p3 := by rw [← f3]; exact kk0.size
  clear ka3 kk0
  have c3_2_0 : W3.cell? ⟨p2, 0, none⟩ = some (.int .i64 m.k) := b2.cell 0
  go_enter Tryz.func10, Tryz.ntmps10
  go_wp2_with (((with_reducible refine at_load 24 (.tmp 3) ?_); refine wpList_load_row rfl 24 (.tmp 3) rfl p1 rfl 24 p.cs.toArray (0, 0) _ b1 Tryz.underlying24 rfl size24 ?_))
  refine (dT _).mono ?_
  rintro e W4 ⟨rfl, k1⟩
  clear c3_2_0
  replace b1 := b1.on k1
  replace b2 := b2.on k1
  replace b3 := b3.on k1
  replace kk := kk.trans (k1.mono kk.size)
  clear k1
  clear dT
  have c4_2_0 : W4.cell? ⟨p2, 0, none⟩ = some (.int .i64 m.k) := b2.cell 0
  have c4_2_1 : W4.cell? ⟨p2, 1, none⟩ = some (.int .i64 m.i) := b2.cell 1
  obtain ⟨W5, es5⟩ : ∃ W, W4.setRow p3 #[.int .i64 9, .int .i64 7, .int .i64 m.i, .int .i64 0, .int .i64 0, .int .i64 0, .int .i64 0, .int .i64 0, .int .i64 0, .int .i64 0, .int .i64 0, .int .i64 0, .int .i64 0, .int .i64 0] = W := ⟨_, rfl⟩
  have bo3 := b3
  replace b1 := row_far b1 es5 (by omega)
  replace b2 := row_far b2 es5 (by omega)
  replace b3 : Blk W5 p3 40 #[.int .i64 9, .int .i64 7, .int .i64 m.i, .int .i64 0, .int .i64 0, .int .i64 0, .int .i64 0, .int .i64 0, .int .i64 0, .int .i64 0, .int .i64 0, .int .i64 0, .int .i64 0, .int .i64 0] := row_named b3 es5
  replace kk := kk.trans (row_below es5 hp3 kk.size)
  go_wp2_with (first | ((with_reducible refine at_store 40 (.tmp 6) (.tmp 90) ?_); refine wpList_store_row rfl 40 (.tmp 6) (.tmp 90) rfl p3 #[.int .i64 9, .int .i64 7, .int .i64 m.i, .int .i64 0, .int .i64 0, .int .i64 0, .int .i64 0, .int .i64 0, .int .i64 0, .int .i64 0, .int .i64 0, .int .i64 0, .int .i64 0, .int .i64 0] rfl rfl 40 #[.int .i64 0, .int .i64 0, .int .i64 0, .int .i64 0, .int .i64 0, .int .i64 0, .int .i64 0, .int .i64 0, .int .i64 0, .int .i64 0, .int .i64 0, .int .i64 0, .int .i64 0, .int .i64 0] bo3 size40 rfl (by simp [Value.oneCell']) ?_; rw [es5]))
  refine bodyPost_ret (results_cell_row (cs := #[.int .i64 9, .int .i64 7, .int .i64 m.i, .int .i64 0, .int .i64 0, .int .i64 0, .int .i64 0, .int .i64 0, .int .i64 0, .int .i64 0, .int .i64 0, .int .i64 0, .int .i64 0, .int .i64 0]) rfl _ _ p3 40 (0, 0) _ rfl b3 Tryz.underlying40 rfl size40) rfl ?_
  first | exact ⟨rfl, kk⟩ | (rw [f1] at kk; exact ⟨rfl, kk⟩)
set_option maxRecDepth 100000 in
set_option maxHeartbeats 4000000 in
theorem rmic_more (p : Pg) (hp : p.Ok) (hs : 0 ≤ p.s ∧ p.s ≤ 2) (t : Int) (m : Mi) (h1 : m.k ≠ 1) (h6 : m.k ≠ 6) (h3 : m.k ≠ 3) (h4 : m.k ≠ 4) (h2 : m.k ≠ 2) (hi0 : 0 ≤ m.i) (hi : m.i < thrZ p) (hv : m.k = 7 ∨ m.k = 8) (w : World) : Calls Tryz.prog 10 #[.agg p.cs.toArray, .int .i64 t, .agg m.cs.toArray] w fun e w' => e = .returned (.agg (micA p t m).cs.toArray) ∧ Below w.heap.size w w' := by
  have hcl := thr_of p
  have hb : thtB p m.i = true := by unfold thtB inB; rw [decide_eq_true (by omega), decide_eq_true (show m.i ≤ thrZ p - 1 by omega)]; rfl
  have eA : micA p t m = ⟨9, ⟨8, m.i, 0⟩, noW, noW, noW, 0⟩ := by
    unfold micA scnA reaB reaP thtP
    rw [if_neg h1, if_neg h6, if_neg h3]
    rcases hv with hv | hv <;> simp [hv, hb]
  rw [eA]
  clear eA
  generalize hSZ : thrZ p = Z at *
  have z0 : decide (m.i < 0) = false := decide_eq_false (by omega)
  have z1 : decide (Z ≤ m.i) = false := decide_eq_false (by omega)
  have z2 : decide (m.k < 5) = false := decide_eq_false (by omega)
  have z3 : decide (8 < m.k) = false := decide_eq_false (by omega)
  have z5 : (m.k == 5) = false := beq_eq_false_iff_ne.2 (by omega)
  have t1 : (m.k == 1) = false := beq_eq_false_iff_ne.2 (by omega)
  have t6 : (m.k == 6) = false := beq_eq_false_iff_ne.2 (by omega)
  have t3 : (m.k == 3) = false := beq_eq_false_iff_ne.2 (by omega)
  have t4 : (m.k == 4) = false := beq_eq_false_iff_ne.2 (by omega)
  have t2 : (m.k == 2) = false := beq_eq_false_iff_ne.2 (by omega)
  have dT := fun W => refthreads_any p hp W
  rw [hSZ] at dT
  clear h1 h6 h3 h4 h2 hSZ hcl hb
  obtain ⟨p1, f1⟩ : ∃ p, w.heap.size = p := ⟨_, rfl⟩
  obtain ⟨W1, ea1⟩ : ∃ W, w.alloc (.cells p.cs.toArray 24) = W := ⟨_, rfl⟩
  have ka1 : Below w.heap.size w W1 := by rw [← ea1]; exact (Below.refl _ w).alloc (Nat.le_refl _) _
  have b1 : Blk W1 p1 24 p.cs.toArray := by rw [← ea1]; exact blk_new w _ 24 _ f1
  have kk : Below w.heap.size w W1 := ka1
  have hp1 : w.heap.size ≤ p1 := Nat.le_of_eq f1
  clear ka1
  obtain ⟨p2, f2⟩ : ∃ p, W1.heap.size = p := ⟨_, rfl⟩
  obtain ⟨W2, ea2⟩ : ∃ W, W1.alloc (.cells m.cs.toArray 30) = W := ⟨_, rfl⟩
  have ka2 : Below W1.heap.size W1 W2 := by rw [← ea2]; exact (Below.refl _ W1).alloc (Nat.le_refl _) _
  have b2 : Blk W2 p2 30 m.cs.toArray := by rw [← ea2]; exact blk_new W1 _ 30 _ f2
  have q1_2 : p1 < p2 := by rw [← f2]; exact b1.lt
  replace b1 := b1.on ka2
  have kk0 := kk
  replace kk := kk.trans (ka2.mono kk.size)
  have hp2 : w.heap.size ≤ p2 := by rw [← f2]; exact kk0.size
  clear ka2 kk0
  obtain ⟨p3, f3⟩ : ∃ p, W2.heap.size = p := ⟨_, rfl⟩
  obtain ⟨W3, ea3⟩ : ∃ W, W2.alloc (.cells #[.int .i64 0, .int .i64 0, .int .i64 0, .int .i64 0, .int .i64 0, .int .i64 0, .int .i64 0, .int .i64 0, .int .i64 0, .int .i64 0, .int .i64 0, .int .i64 0, .int .i64 0, .int .i64 0] 40) = W := ⟨_, rfl⟩
  have ka3 : Below W2.heap.size W2 W3 := by rw [← ea3]; exact (Below.refl _ W2).alloc (Nat.le_refl _) _
  have b3 : Blk W3 p3 40 #[.int .i64 0, .int .i64 0, .int .i64 0, .int .i64 0, .int .i64 0, .int .i64 0, .int .i64 0, .int .i64 0, .int .i64 0, .int .i64 0, .int .i64 0, .int .i64 0, .int .i64 0, .int .i64 0] := by rw [← ea3]; exact blk_new W2 _ 40 _ f3
  have q1_3 : p1 < p3 := by rw [← f3]; exact b1.lt
  replace b1 := b1.on ka3
  have q2_3 : p2 < p3 := by rw [← f3]; exact b2.lt
  replace b2 := b2.on ka3
  have kk0 := kk
  replace kk := kk.trans (ka3.mono kk.size)
  have hp3 : w.heap.size ≤ p3 := by rw [← f3]; exact kk0.size
  clear ka3 kk0
  have c3_2_0 : W3.cell? ⟨p2, 0, none⟩ = some (.int .i64 m.k) := b2.cell 0
  go_enter Tryz.func10, Tryz.ntmps10
  go_wp2_with (((with_reducible refine at_load 24 (.tmp 3) ?_); refine wpList_load_row rfl 24 (.tmp 3) rfl p1 rfl 24 p.cs.toArray (0, 0) _ b1 Tryz.underlying24 rfl size24 ?_))
  refine (dT _).mono ?_
  rintro e W4 ⟨rfl, k1⟩
  clear c3_2_0
  replace b1 := b1.on k1
  replace b2 := b2.on k1
  replace b3 := b3.on k1
  replace kk := kk.trans (k1.mono kk.size)
  clear k1
  clear dT
  have c4_2_0 : W4.cell? ⟨p2, 0, none⟩ = some (.int .i64 m.k) := b2.cell 0
  have c4_2_1 : W4.cell? ⟨p2, 1, none⟩ = some (.int .i64 m.i) := b2.cell 1
  obtain ⟨W5, es5⟩ : ∃ W, W4.setRow p3 #[.int .i64 9, .int .i64 8, .int .i64 m.i, .int .i64 0, .int .i64 0, .int .i64 0, .int .i64 0, .int .i64 0, .int .i64 0, .int .i64 0, .int .i64 0, .int .i64 0, .int .i64 0, .int .i64 0] = W := ⟨_, rfl⟩
  have bo3 := b3
  replace b1 := row_far b1 es5 (by omega)
  replace b2 := row_far b2 es5 (by omega)
  replace b3 : Blk W5 p3 40 #[.int .i64 9, .int .i64 8, .int .i64 m.i, .int .i64 0, .int .i64 0, .int .i64 0, .int .i64 0, .int .i64 0, .int .i64 0, .int .i64 0, .int .i64 0, .int .i64 0, .int .i64 0, .int .i64 0] := row_named b3 es5
  replace kk := kk.trans (row_below es5 hp3 kk.size)
  go_wp2_with (first | ((with_reducible refine at_store 40 (.tmp 6) (.tmp 94) ?_); refine wpList_store_row rfl 40 (.tmp 6) (.tmp 94) rfl p3 #[.int .i64 9, .int .i64 8, .int .i64 m.i, .int .i64 0, .int .i64 0, .int .i64 0, .int .i64 0, .int .i64 0, .int .i64 0, .int .i64 0, .int .i64 0, .int .i64 0, .int .i64 0, .int .i64 0] rfl rfl 40 #[.int .i64 0, .int .i64 0, .int .i64 0, .int .i64 0, .int .i64 0, .int .i64 0, .int .i64 0, .int .i64 0, .int .i64 0, .int .i64 0, .int .i64 0, .int .i64 0, .int .i64 0, .int .i64 0] bo3 size40 rfl (by simp [Value.oneCell']) ?_; rw [es5]))
  refine bodyPost_ret (results_cell_row (cs := #[.int .i64 9, .int .i64 8, .int .i64 m.i, .int .i64 0, .int .i64 0, .int .i64 0, .int .i64 0, .int .i64 0, .int .i64 0, .int .i64 0, .int .i64 0, .int .i64 0, .int .i64 0, .int .i64 0]) rfl _ _ p3 40 (0, 0) _ rfl b3 Tryz.underlying40 rfl size40) rfl ?_
  first | exact ⟨rfl, kk⟩ | (rw [f1] at kk; exact ⟨rfl, kk⟩)
theorem rmicro_any (p : Pg) (hp : p.Ok) (hs : 0 ≤ p.s ∧ p.s ≤ 2) (t : Int) (m : Mi) (w : World) : Calls Tryz.prog 10 #[.agg p.cs.toArray, .int .i64 t, .agg m.cs.toArray] w fun e w' => e = .returned (.agg (micA p t m).cs.toArray) ∧ Below w.heap.size w w' := by
  by_cases h1 : m.k = 1
  · exact rmic_1 p hp hs t m h1 w
  by_cases h6 : m.k = 6
  · exact rmic_6 p hp hs t m h6 w
  by_cases h3 : m.k = 3
  · exact rmic_3 p hp hs t m h3 w
  by_cases h4 : m.k = 4
  · exact rmic_4 p hp hs t m h4 w
  by_cases h2 : m.k = 2
  · rcases Int.lt_or_le m.i 0 with hi | hi0
    · exact rmic_2lt p hp hs t m h2 hi w
    · rcases Int.lt_or_le m.i (sloZ p) with hi | hi
      · exact rmic_2in p hp hs t m h2 hi0 hi w
      · exact rmic_2ge p hp hs t m h2 hi0 hi w
  rcases Int.lt_or_le m.i 0 with hi | hi0
  · exact rmic_lt p hp hs t m h1 h6 h3 h4 h2 hi w
  rcases Int.lt_or_le m.i (thrZ p) with hi | hi
  · by_cases a : m.k < 5
    · exact rmic_lo p hp hs t m h1 h6 h3 h4 h2 hi0 hi a w
    · by_cases b : 8 < m.k
      · exact rmic_hi p hp hs t m h1 h6 h3 h4 h2 hi0 hi b w
      · by_cases c : m.k = 5
        · exact rmic_five p hp hs t m h1 h6 h3 h4 h2 hi0 hi c w
        · exact rmic_more p hp hs t m h1 h6 h3 h4 h2 hi0 hi (by omega) w
  · exact rmic_ge p hp hs t m h1 h6 h3 h4 h2 hi0 hi w
end Go.Proofs.YtfadfdfpocpelaaGreatDoor
