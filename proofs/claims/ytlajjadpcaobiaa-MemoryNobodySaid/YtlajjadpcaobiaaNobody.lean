/- The law of nobody: nil, or a memory that New did not make, has nothing. Conditions: none. -/
import Derived.Test.YtlajjadpcaobiaaAlive
namespace Go.Proofs.Ytlajjadpcaobiaa
open Go.RowKit Go.ChangeShapes Go.WideShapes

/-- What P points to was not made by New. -/
def No (w : World) (P : Option Addr) : Prop := ∀ W, Below w.heap.size w W → Calls Try.prog 28 #[.pointer P] W fun e w' => e = .returned (.bool false) ∧ W = w'
theorem No.on {w w' : World} {P : Option Addr} (h : No w P) (hb : Below w.heap.size w w') : No w' P := fun W hW => h W (hb.trans (hW.mono hb.size))
theorem no_nil (w : World) : No w none := fun W _ => made_nil W
theorem no_odd {w : World} {m : Nat} (hm : Blk w m 46 #[.pointer none]) : No w (some ⟨m, 0, none⟩) := fun _ hb => made_odd (hm.on hb)
theorem esame0 (w : World) : (binOp BinOp.eql 35 (.agg (Wd.mk 0 0 0).cs.toArray) (.agg #[.int .i64 0, .int .i64 0, .int .i64 0])).run Try.prog w = .ok (.bool true) w := by
  have := eq35 ⟨0, 0, 0⟩ ⟨0, 0, 0⟩ w
  rw [decide_eq_true rfl] at this
  exact this
theorem esame1 (w : World) : (binOp BinOp.eql 35 (.agg #[.int .i64 0, .int .i64 0, .int .i64 0]) (.agg #[.int .i64 0, .int .i64 0, .int .i64 0])).run Try.prog w = .ok (.bool true) w := esame0 w
set_option maxRecDepth 100000 in
set_option maxHeartbeats 4000000 in
theorem get_no {w : World} {P : Option Addr} (hN : No w P) (x : Pl) : Calls Try.prog 14 #[.pointer P, .agg x.cs.toArray] w fun e w' => e = .returned (.tuple #[.agg (Wd.mk 0 0 0).cs.toArray, .bool false]) ∧ Below w.heap.size w w' := by
  obtain ⟨p1, f1⟩ : ∃ p, w.heap.size = p := ⟨_, rfl⟩
  obtain ⟨W1, ea1⟩ : ∃ W, w.alloc (.cells x.cs.toArray 27) = W := ⟨_, rfl⟩
  have ka1 : Below w.heap.size w W1 := by rw [← ea1]; exact (Below.refl _ w).alloc (Nat.le_refl _) _
  have b1 : Blk W1 p1 27 x.cs.toArray := by rw [← ea1]; exact blk_new w _ 27 _ f1
  have kk : Below w.heap.size w W1 := ka1
  have hp1 : w.heap.size ≤ p1 := Nat.le_of_eq f1
  clear ka1
  obtain ⟨p2, f2⟩ : ∃ p, W1.heap.size = p := ⟨_, rfl⟩
  obtain ⟨W2, ea2⟩ : ∃ W, W1.alloc (.cells #[.int .i64 0, .int .i64 0, .int .i64 0] 35) = W := ⟨_, rfl⟩
  have ka2 : Below W1.heap.size W1 W2 := by rw [← ea2]; exact (Below.refl _ W1).alloc (Nat.le_refl _) _
  have b2 : Blk W2 p2 35 #[.int .i64 0, .int .i64 0, .int .i64 0] := by rw [← ea2]; exact blk_new W1 _ 35 _ f2
  have q1_2 : p1 < p2 := by rw [← f2]; exact b1.lt
  replace b1 := b1.on ka2
  have kk0 := kk
  replace kk := kk.trans (ka2.mono kk.size)
  have hp2 : w.heap.size ≤ p2 := by rw [← f2]; exact kk0.size
  clear ka2 kk0
  have c1 := hN _ kk
  have c2 := plain_any 0
  go_enter Try.func14, Try.ntmps14
  go_wp2_with fail
  refine c1.mono ?_
  rintro e w' ⟨rfl, rfl⟩
  clear c1 f1
  go_wp2_with fail
  refine (c2 _).mono ?_
  rintro e W3 ⟨rfl, k3⟩
  replace b1 := b1.on k3
  replace b2 := b2.on k3
  replace kk := kk.trans (k3.mono kk.size)
  clear k3
  obtain ⟨W4, es4⟩ : ∃ W, W3.setRow p2 (Wd.mk 0 0 0).cs.toArray = W := ⟨_, rfl⟩
  have bo2 := b2
  replace b1 := row_far b1 es4 (by omega)
  replace b2 : Blk W4 p2 35 (Wd.mk 0 0 0).cs.toArray := row_named b2 es4
  replace kk := kk.trans (row_below es4 hp2 kk.size)
  go_wp2_with (((with_reducible refine at_store 35 (.tmp 4) (.tmp 11) ?_); refine wpList_store_row rfl 35 (.tmp 4) (.tmp 11) rfl p2 (Wd.mk 0 0 0).cs.toArray rfl rfl 35 #[.int .i64 0, .int .i64 0, .int .i64 0] bo2 size35 rfl (Wd.onea _) ?_; rw [es4]))
  refine bodyPost_ret (res14 _ _ _ _ _ rfl rfl b2 size35) rfl ?_
  exact ⟨rfl, kk⟩
set_option maxRecDepth 100000 in
set_option maxHeartbeats 4000000 in
theorem put_no {w : World} {P : Option Addr} (hN : No w P) (x : Pl) (v : Wd) : Calls Try.prog 15 #[.pointer P, .agg x.cs.toArray, .agg v.cs.toArray] w fun e w' => e = .returned (.bool false) ∧ Below w.heap.size w w' := by
  obtain ⟨p1, f1⟩ : ∃ p, w.heap.size = p := ⟨_, rfl⟩
  obtain ⟨W1, ea1⟩ : ∃ W, w.alloc (.cells x.cs.toArray 27) = W := ⟨_, rfl⟩
  have ka1 : Below w.heap.size w W1 := by rw [← ea1]; exact (Below.refl _ w).alloc (Nat.le_refl _) _
  have b1 : Blk W1 p1 27 x.cs.toArray := by rw [← ea1]; exact blk_new w _ 27 _ f1
  have kk : Below w.heap.size w W1 := ka1
  have hp1 : w.heap.size ≤ p1 := Nat.le_of_eq f1
  clear ka1
  obtain ⟨p2, f2⟩ : ∃ p, W1.heap.size = p := ⟨_, rfl⟩
  obtain ⟨W2, ea2⟩ : ∃ W, W1.alloc (.cells v.cs.toArray 35) = W := ⟨_, rfl⟩
  have ka2 : Below W1.heap.size W1 W2 := by rw [← ea2]; exact (Below.refl _ W1).alloc (Nat.le_refl _) _
  have b2 : Blk W2 p2 35 v.cs.toArray := by rw [← ea2]; exact blk_new W1 _ 35 _ f2
  have q1_2 : p1 < p2 := by rw [← f2]; exact b1.lt
  replace b1 := b1.on ka2
  have kk0 := kk
  replace kk := kk.trans (ka2.mono kk.size)
  have hp2 : w.heap.size ≤ p2 := by rw [← f2]; exact kk0.size
  clear ka2 kk0
  have c1 := get_no (hN.on kk) x
  have lb1 := b1
  go_enter Try.func15, Try.ntmps15
  go_wp2_with (((with_reducible refine at_load 27 (.tmp 4) ?_); refine wpList_load_row rfl 27 (.tmp 4) rfl p1 rfl 27 x.cs.toArray (0, 0) _ lb1 Try.underlying27 rfl size27 ?_))
  refine (c1).mono ?_
  rintro e W3 ⟨rfl, kw3⟩
  replace b1 := b1.on kw3
  replace b2 := b2.on kw3
  replace kk := kk.trans (kw3.mono kk.size)
  clear kw3
  clear lb1 f1
  obtain ⟨p3, f3⟩ : ∃ p, W3.heap.size = p := ⟨_, rfl⟩
  obtain ⟨W4, ea4⟩ : ∃ W, W3.alloc (.cells #[.int .i64 0, .int .i64 0, .int .i64 0] 35) = W := ⟨_, rfl⟩
  have ka4 : Below W3.heap.size W3 W4 := by rw [← ea4]; exact (Below.refl _ W3).alloc (Nat.le_refl _) _
  have b3 : Blk W4 p3 35 #[.int .i64 0, .int .i64 0, .int .i64 0] := by rw [← ea4]; exact blk_new W3 _ 35 _ f3
  have q1_3 : p1 < p3 := by rw [← f3]; exact b1.lt
  replace b1 := b1.on ka4
  have q2_3 : p2 < p3 := by rw [← f3]; exact b2.lt
  replace b2 := b2.on ka4
  have kk0 := kk
  replace kk := kk.trans (ka4.mono kk.size)
  have hp3 : w.heap.size ≤ p3 := by rw [← f3]; exact kk0.size
  clear ka4 kk0
  obtain ⟨W5, es5⟩ : ∃ W, W4.setRow p3 (Wd.mk 0 0 0).cs.toArray = W := ⟨_, rfl⟩
  have bo3 := b3
  replace b1 := row_far b1 es5 (by omega)
  replace b2 := row_far b2 es5 (by omega)
  replace b3 : Blk W5 p3 35 (Wd.mk 0 0 0).cs.toArray := row_named b3 es5
  replace kk := kk.trans (row_below es5 hp3 kk.size)
  go_wp2_with (((with_reducible refine at_store 35 (.tmp 7) (.tmp 13) ?_); refine wpList_store_row rfl 35 (.tmp 7) (.tmp 13) rfl p3 (Wd.mk 0 0 0).cs.toArray rfl rfl 35 #[.int .i64 0, .int .i64 0, .int .i64 0] bo3 size35 rfl (Wd.onea _) ?_; rw [es5]))
  go_ret
  exact ⟨rfl, kk⟩
set_option maxRecDepth 100000 in
set_option maxHeartbeats 4000000 in
theorem words_no {w : World} {P : Option Addr} (hN : No w P) (K : Int) : Calls Try.prog 34 #[.pointer P, .int .i64 K] w fun e w' => e = .returned (.slice none 0 0) ∧ Below w.heap.size w w' := by
  have c1 := hN _ (Below.refl _ _)
  go_enter Try.func34, Try.ntmps34
  go_wp2_with fail
  refine c1.mono ?_
  rintro e w' ⟨rfl, rfl⟩
  clear c1
  go_wp2
  go_ret
  exact ⟨rfl, Below.refl _ _⟩
set_option maxRecDepth 100000 in
set_option maxHeartbeats 4000000 in
theorem mark_no {w : World} {P : Option Addr} (hN : No w P) : Calls Try.prog 21 #[.pointer P] w fun e w' => e = .returned (.int .i64 0) ∧ Below w.heap.size w w' := by
  have c1 := hN _ (Below.refl _ _)
  go_enter Try.func21, Try.ntmps21
  go_wp2_with fail
  refine c1.mono ?_
  rintro e w' ⟨rfl, rfl⟩
  clear c1
  go_wp2
  go_ret
  exact ⟨rfl, Below.refl _ _⟩
set_option maxRecDepth 100000 in
set_option maxHeartbeats 4000000 in
theorem clone_no {w : World} {P : Option Addr} (hN : No w P) : Calls Try.prog 13 #[.pointer P] w fun e w' => e = .returned (.pointer none) ∧ Below w.heap.size w w' := by
  have c1 := hN _ (Below.refl _ _)
  go_enter Try.func13, Try.ntmps13
  go_wp2_with fail
  refine c1.mono ?_
  rintro e w' ⟨rfl, rfl⟩
  clear c1
  go_wp2
  go_ret
  exact ⟨rfl, Below.refl _ _⟩
set_option maxRecDepth 100000 in
set_option maxHeartbeats 4000000 in
theorem roots_no {w : World} {P : Option Addr} (hN : No w P) : Calls Try.prog 16 #[.pointer P] w fun e w' => e = .returned (.slice none 0 0) ∧ Below w.heap.size w w' := by
  have c1 := words_no hN 1
  go_enter Try.func16, Try.ntmps16
  go_wp2_with fail
  refine c1.mono ?_
  rintro e w' ⟨rfl, hb⟩
  go_wp2
  go_ret
  exact ⟨rfl, hb⟩
set_option maxRecDepth 100000 in
set_option maxHeartbeats 4000000 in
theorem slots_no {w : World} {P : Option Addr} (hN : No w P) : Calls Try.prog 17 #[.pointer P] w fun e w' => e = .returned (.slice none 0 0) ∧ Below w.heap.size w w' := by
  have c1 := words_no hN 5
  go_enter Try.func17, Try.ntmps17
  go_wp2_with fail
  refine c1.mono ?_
  rintro e w' ⟨rfl, hb⟩
  go_wp2
  go_ret
  exact ⟨rfl, hb⟩
set_option maxRecDepth 100000 in
set_option maxHeartbeats 4000000 in
theorem marks_no {w : World} {P : Option Addr} (hN : No w P) : Calls Try.prog 18 #[.pointer P] w fun e w' => (∃ A c, e = .returned (.slice A 0 c)) ∧ Below w.heap.size w w' := by
  have c1 := words_no hN 7
  go_enter Try.func18, Try.ntmps18
  go_wp2_with fail
  refine c1.mono ?_
  rintro e w1 ⟨rfl, hb⟩
  clear c1
  have c2 := numbers_any (seesW_nil w1) (Nat.zero_le _)
  go_wp2_with fail
  refine c2.mono ?_
  rintro e w2 ⟨A2, c2', rfl, _, hb2⟩
  clear c2
  go_wp2
  go_ret
  exact ⟨⟨A2, c2', rfl⟩, hb.trans (hb2.mono hb.size)⟩
set_option maxRecDepth 100000 in
set_option maxHeartbeats 4000000 in
theorem counts_no {w : World} {P : Option Addr} (hN : No w P) : Calls Try.prog 19 #[.pointer P] w fun e w' => (∃ A c, e = .returned (.slice A 0 c)) ∧ Below w.heap.size w w' := by
  have c1 := words_no hN 8
  go_enter Try.func19, Try.ntmps19
  go_wp2_with fail
  refine c1.mono ?_
  rintro e w1 ⟨rfl, hb⟩
  clear c1
  have c2 := numbers_any (seesW_nil w1) (Nat.zero_le _)
  go_wp2_with fail
  refine c2.mono ?_
  rintro e w2 ⟨A2, c2', rfl, _, hb2⟩
  clear c2
  go_wp2
  go_ret
  exact ⟨⟨A2, c2', rfl⟩, hb.trans (hb2.mono hb.size)⟩
set_option maxRecDepth 100000 in
set_option maxHeartbeats 4000000 in
theorem epoch_no {w : World} {P : Option Addr} (hN : No w P) : Calls Try.prog 20 #[.pointer P] w fun e w' => e = .returned (.int .i64 0) ∧ Below w.heap.size w w' := by
  have c1 := get_no hN ⟨6, 0, 0⟩
  replace c1 : Calls Try.prog 14 #[.pointer P, .agg #[.int .i64 6, .int .i64 0, .int .i64 0]] w fun e w' => e = .returned (.tuple #[.agg #[.int .i64 0, .int .i64 0, .int .i64 0], .bool false]) ∧ Below w.heap.size w w' := c1
  go_enter Try.func20, Try.ntmps20
  go_wp2_with fail
  refine c1.mono ?_
  rintro e w1 ⟨rfl, hb⟩
  clear c1
  go_wp2
  go_ret
  exact ⟨rfl, hb.alloc hb.size _⟩
set_option maxRecDepth 100000 in
set_option maxHeartbeats 4000000 in
theorem undo_none {w : World} {P : Option Addr} (hN : No w P) (n : Int) : Calls Try.prog 12 #[.pointer P, .int .i64 n] w fun e w' => e = .returned (.bool false) ∧ Below w.heap.size w w' := by
  obtain ⟨p1, f1⟩ : ∃ p, w.heap.size = p := ⟨_, rfl⟩
  obtain ⟨W1, ea1⟩ : ∃ W, w.alloc (.cells #[.pointer P] 30) = W := ⟨_, rfl⟩
  have ka1 : Below w.heap.size w W1 := by rw [← ea1]; exact (Below.refl _ w).alloc (Nat.le_refl _) _
  have b1 : Blk W1 p1 30 #[.pointer P] := by rw [← ea1]; exact blk_new w _ 30 _ f1
  have kk : Below w.heap.size w W1 := ka1
  have hp1 : w.heap.size ≤ p1 := Nat.le_of_eq f1
  clear ka1
  have c1 := hN _ kk
  have u0 : W1.cell? ⟨p1, 0, none⟩ = some (.pointer P) := b1.cell 0
  go_enter Try.func12, Try.ntmps12
  go_wp2_with fail
  refine c1.mono ?_
  rintro e w' ⟨rfl, rfl⟩
  clear c1
  go_wp2_with fail
  go_ret
  exact ⟨rfl, kk⟩
set_option maxRecDepth 100000 in
set_option maxHeartbeats 16000000 in
theorem nobody_walk (x : Pl) (y : Wd) (n : Int) (w : World) : Calls Try.prog 6 #[.agg x.cs.toArray, .agg y.cs.toArray, .int .i64 n] w fun e w' => e = .returned (.bool true) ∧ Below w.heap.size w w' := by
  obtain ⟨p1, f1⟩ : ∃ p, w.heap.size = p := ⟨_, rfl⟩
  obtain ⟨W1, ea1⟩ : ∃ W, w.alloc (.cells x.cs.toArray 27) = W := ⟨_, rfl⟩
  have ka1 : Below w.heap.size w W1 := by rw [← ea1]; exact (Below.refl _ w).alloc (Nat.le_refl _) _
  have b1 : Blk W1 p1 27 x.cs.toArray := by rw [← ea1]; exact blk_new w _ 27 _ f1
  have kk : Below w.heap.size w W1 := ka1
  have hp1 : w.heap.size ≤ p1 := Nat.le_of_eq f1
  clear ka1
  obtain ⟨p2, f2⟩ : ∃ p, W1.heap.size = p := ⟨_, rfl⟩
  obtain ⟨W2, ea2⟩ : ∃ W, W1.alloc (.cells y.cs.toArray 35) = W := ⟨_, rfl⟩
  have ka2 : Below W1.heap.size W1 W2 := by rw [← ea2]; exact (Below.refl _ W1).alloc (Nat.le_refl _) _
  have b2 : Blk W2 p2 35 y.cs.toArray := by rw [← ea2]; exact blk_new W1 _ 35 _ f2
  have q1_2 : p1 < p2 := by rw [← f2]; exact b1.lt
  replace b1 := b1.on ka2
  have kk0 := kk
  replace kk := kk.trans (ka2.mono kk.size)
  have hp2 : w.heap.size ≤ p2 := by rw [← f2]; exact kk0.size
  clear ka2 kk0
  have c0 := alive_any
  have heq := esame1
  go_enter Try.func6, Try.ntmps6
  go_wp2_with fail
  refine (c0 _).mono ?_
  rintro e W3 ⟨rfl, k0⟩
  replace b1 := b1.on k0
  replace b2 := b2.on k0
  replace kk := kk.trans (k0.mono kk.size)
  clear k0
  obtain ⟨p3, f3⟩ : ∃ p, W3.heap.size = p := ⟨_, rfl⟩
  obtain ⟨W4, ea4⟩ : ∃ W, W3.alloc (.cells #[.pointer none] 46) = W := ⟨_, rfl⟩
  have ka4 : Below W3.heap.size W3 W4 := by rw [← ea4]; exact (Below.refl _ W3).alloc (Nat.le_refl _) _
  have b3 : Blk W4 p3 46 #[.pointer none] := by rw [← ea4]; exact blk_new W3 _ 46 _ f3
  have q1_3 : p1 < p3 := by rw [← f3]; exact b1.lt
  replace b1 := b1.on ka4
  have q2_3 : p2 < p3 := by rw [← f3]; exact b2.lt
  replace b2 := b2.on ka4
  have kk0 := kk
  replace kk := kk.trans (ka4.mono kk.size)
  have hp3 : w.heap.size ≤ p3 := by rw [← f3]; exact kk0.size
  clear ka4 kk0
  have lb1 := b1
  go_wp2_with (((with_reducible refine at_load 27 (.tmp 3) ?_); refine wpList_load_row rfl 27 (.tmp 3) rfl p1 rfl 27 x.cs.toArray (0, 0) _ lb1 Try.underlying27 rfl size27 ?_))
  refine (get_no (no_nil _) x).mono ?_
  rintro e W5 ⟨rfl, k4⟩
  replace b1 := b1.on k4
  replace b2 := b2.on k4
  replace b3 := b3.on k4
  replace kk := kk.trans (k4.mono kk.size)
  clear k4
  obtain ⟨p4, f4⟩ : ∃ p, W5.heap.size = p := ⟨_, rfl⟩
  obtain ⟨W6, ea6⟩ : ∃ W, W5.alloc (.cells #[.int .i64 0, .int .i64 0, .int .i64 0] 35) = W := ⟨_, rfl⟩
  have ka6 : Below W5.heap.size W5 W6 := by rw [← ea6]; exact (Below.refl _ W5).alloc (Nat.le_refl _) _
  have b4 : Blk W6 p4 35 #[.int .i64 0, .int .i64 0, .int .i64 0] := by rw [← ea6]; exact blk_new W5 _ 35 _ f4
  have q1_4 : p1 < p4 := by rw [← f4]; exact b1.lt
  replace b1 := b1.on ka6
  have q2_4 : p2 < p4 := by rw [← f4]; exact b2.lt
  replace b2 := b2.on ka6
  have q3_4 : p3 < p4 := by rw [← f4]; exact b3.lt
  replace b3 := b3.on ka6
  have kk0 := kk
  replace kk := kk.trans (ka6.mono kk.size)
  have hp4 : w.heap.size ≤ p4 := by rw [← f4]; exact kk0.size
  clear ka6 kk0
  obtain ⟨W7, es7⟩ : ∃ W, W6.setRow p4 (Wd.mk 0 0 0).cs.toArray = W := ⟨_, rfl⟩
  have bo4 := b4
  replace b1 := row_far b1 es7 (by omega)
  replace b2 := row_far b2 es7 (by omega)
  replace b3 := row_far b3 es7 (by omega)
  replace b4 : Blk W7 p4 35 (Wd.mk 0 0 0).cs.toArray := row_named b4 es7
  replace kk := kk.trans (row_below es7 hp4 kk.size)
  clear lb1 c0
  have lb1 := b1
  go_wp2_with (first | ((with_reducible refine at_store 35 (.tmp 9) (.tmp 21) ?_); refine wpList_store_row rfl 35 (.tmp 9) (.tmp 21) rfl p4 (Wd.mk 0 0 0).cs.toArray rfl rfl 35 #[.int .i64 0, .int .i64 0, .int .i64 0] bo4 size35 rfl (Wd.onea _) ?_; rw [es7]) | ((with_reducible refine at_load 27 (.tmp 3) ?_); refine wpList_load_row rfl 27 (.tmp 3) rfl p1 rfl 27 x.cs.toArray (0, 0) _ lb1 Try.underlying27 rfl size27 ?_))
  refine (get_no (no_odd b3) x).mono ?_
  rintro e W8 ⟨rfl, k5⟩
  replace b1 := b1.on k5
  replace b2 := b2.on k5
  replace b3 := b3.on k5
  replace b4 := b4.on k5
  replace kk := kk.trans (k5.mono kk.size)
  clear k5
  obtain ⟨p5, f5⟩ : ∃ p, W8.heap.size = p := ⟨_, rfl⟩
  obtain ⟨W9, ea9⟩ : ∃ W, W8.alloc (.cells #[.int .i64 0, .int .i64 0, .int .i64 0] 35) = W := ⟨_, rfl⟩
  have ka9 : Below W8.heap.size W8 W9 := by rw [← ea9]; exact (Below.refl _ W8).alloc (Nat.le_refl _) _
  have b5 : Blk W9 p5 35 #[.int .i64 0, .int .i64 0, .int .i64 0] := by rw [← ea9]; exact blk_new W8 _ 35 _ f5
  have q1_5 : p1 < p5 := by rw [← f5]; exact b1.lt
  replace b1 := b1.on ka9
  have q2_5 : p2 < p5 := by rw [← f5]; exact b2.lt
  replace b2 := b2.on ka9
  have q3_5 : p3 < p5 := by rw [← f5]; exact b3.lt
  replace b3 := b3.on ka9
  have q4_5 : p4 < p5 := by rw [← f5]; exact b4.lt
  replace b4 := b4.on ka9
  have kk0 := kk
  replace kk := kk.trans (ka9.mono kk.size)
  have hp5 : w.heap.size ≤ p5 := by rw [← f5]; exact kk0.size
  clear ka9 kk0
  obtain ⟨W10, es10⟩ : ∃ W, W9.setRow p5 (Wd.mk 0 0 0).cs.toArray = W := ⟨_, rfl⟩
  have bo5 := b5
  replace b1 := row_far b1 es10 (by omega)
  replace b2 := row_far b2 es10 (by omega)
  replace b3 := row_far b3 es10 (by omega)
  replace b4 := row_far b4 es10 (by omega)
  replace b5 : Blk W10 p5 35 (Wd.mk 0 0 0).cs.toArray := row_named b5 es10
  replace kk := kk.trans (row_below es10 hp5 kk.size)
  clear lb1
  have z0 : W10.cell? ⟨p4, 0, none⟩ = some (.int .i64 0) := b4.cell 0
  have z1 : W10.cell? ⟨p4, 1, none⟩ = some (.int .i64 0) := b4.cell 1
  have z2 : W10.cell? ⟨p4, 2, none⟩ = some (.int .i64 0) := b4.cell 2
  have y0 : W10.cell? ⟨p5, 0, none⟩ = some (.int .i64 0) := b5.cell 0
  have y1 : W10.cell? ⟨p5, 1, none⟩ = some (.int .i64 0) := b5.cell 1
  have y2 : W10.cell? ⟨p5, 2, none⟩ = some (.int .i64 0) := b5.cell 2
  have c0 : W10.cell? ⟨p1, 0, none⟩ = some (.int .i64 x.k) := b1.cell 0
  have c1 : W10.cell? ⟨p1, 1, none⟩ = some (.int .i64 x.i) := b1.cell 1
  have c2 : W10.cell? ⟨p1, 2, none⟩ = some (.int .i64 x.j) := b1.cell 2
  have d0 : W10.cell? ⟨p2, 0, none⟩ = some (.int .i64 y.n) := b2.cell 0
  have d1 : W10.cell? ⟨p2, 1, none⟩ = some (.int .i64 y.c) := b2.cell 1
  have d2 : W10.cell? ⟨p2, 2, none⟩ = some (.int .i64 y.g) := b2.cell 2
  go_wp2_with (((with_reducible refine at_store 35 (.tmp 11) (.tmp 27) ?_); refine wpList_store_row rfl 35 (.tmp 11) (.tmp 27) rfl p5 (Wd.mk 0 0 0).cs.toArray rfl rfl 35 #[.int .i64 0, .int .i64 0, .int .i64 0] bo5 size35 rfl (Wd.onea _) ?_; rw [es10]))
  refine (put_no (no_nil _) x y).mono ?_
  rintro e W11 ⟨rfl, kx⟩
  replace b1 := b1.on kx
  replace b2 := b2.on kx
  replace b3 := b3.on kx
  replace b4 := b4.on kx
  replace b5 := b5.on kx
  replace kk := kk.trans (kx.mono kk.size)
  clear kx
  clear z0 z1 z2 y0 y1 y2 c0 c1 c2 d0 d1 d2
  have c0 : W11.cell? ⟨p1, 0, none⟩ = some (.int .i64 x.k) := b1.cell 0
  have c1 : W11.cell? ⟨p1, 1, none⟩ = some (.int .i64 x.i) := b1.cell 1
  have c2 : W11.cell? ⟨p1, 2, none⟩ = some (.int .i64 x.j) := b1.cell 2
  have d0 : W11.cell? ⟨p2, 0, none⟩ = some (.int .i64 y.n) := b2.cell 0
  have d1 : W11.cell? ⟨p2, 1, none⟩ = some (.int .i64 y.c) := b2.cell 1
  have d2 : W11.cell? ⟨p2, 2, none⟩ = some (.int .i64 y.g) := b2.cell 2
  go_wp2_with fail
  refine (put_no (no_odd b3) x y).mono ?_
  rintro e W12 ⟨rfl, kx⟩
  replace b1 := b1.on kx
  replace b2 := b2.on kx
  replace b3 := b3.on kx
  replace b4 := b4.on kx
  replace b5 := b5.on kx
  replace kk := kk.trans (kx.mono kk.size)
  clear kx
  clear c0 c1 c2 d0 d1 d2
  go_wp2_with fail
  refine (roots_no (no_nil _)).mono ?_
  rintro e W13 ⟨rfl, kx⟩
  replace b1 := b1.on kx
  replace b2 := b2.on kx
  replace b3 := b3.on kx
  replace b4 := b4.on kx
  replace b5 := b5.on kx
  replace kk := kk.trans (kx.mono kk.size)
  clear kx
  go_wp2_with fail
  refine (slots_no (no_odd b3)).mono ?_
  rintro e W14 ⟨rfl, kx⟩
  replace b1 := b1.on kx
  replace b2 := b2.on kx
  replace b3 := b3.on kx
  replace b4 := b4.on kx
  replace b5 := b5.on kx
  replace kk := kk.trans (kx.mono kk.size)
  clear kx
  go_wp2_with fail
  refine (marks_no (no_nil _)).mono ?_
  rintro e W15 ⟨⟨A1, c1, rfl⟩, kx⟩
  replace b1 := b1.on kx
  replace b2 := b2.on kx
  replace b3 := b3.on kx
  replace b4 := b4.on kx
  replace b5 := b5.on kx
  replace kk := kk.trans (kx.mono kk.size)
  clear kx
  go_wp2_with fail
  refine (counts_no (no_odd b3)).mono ?_
  rintro e W16 ⟨⟨A2, c2, rfl⟩, kx⟩
  replace b1 := b1.on kx
  replace b2 := b2.on kx
  replace b3 := b3.on kx
  replace b4 := b4.on kx
  replace b5 := b5.on kx
  replace kk := kk.trans (kx.mono kk.size)
  clear kx
  go_wp2_with fail
  refine (epoch_no (no_nil _)).mono ?_
  rintro e W17 ⟨rfl, kx⟩
  replace b1 := b1.on kx
  replace b2 := b2.on kx
  replace b3 := b3.on kx
  replace b4 := b4.on kx
  replace b5 := b5.on kx
  replace kk := kk.trans (kx.mono kk.size)
  clear kx
  go_wp2_with fail
  refine (epoch_no (no_odd b3)).mono ?_
  rintro e W18 ⟨rfl, kx⟩
  replace b1 := b1.on kx
  replace b2 := b2.on kx
  replace b3 := b3.on kx
  replace b4 := b4.on kx
  replace b5 := b5.on kx
  replace kk := kk.trans (kx.mono kk.size)
  clear kx
  go_wp2_with fail
  refine (mark_no (no_nil _)).mono ?_
  rintro e W19 ⟨rfl, kx⟩
  replace b1 := b1.on kx
  replace b2 := b2.on kx
  replace b3 := b3.on kx
  replace b4 := b4.on kx
  replace b5 := b5.on kx
  replace kk := kk.trans (kx.mono kk.size)
  clear kx
  go_wp2_with fail
  refine (mark_no (no_odd b3)).mono ?_
  rintro e W20 ⟨rfl, kx⟩
  replace b1 := b1.on kx
  replace b2 := b2.on kx
  replace b3 := b3.on kx
  replace b4 := b4.on kx
  replace b5 := b5.on kx
  replace kk := kk.trans (kx.mono kk.size)
  clear kx
  go_wp2_with fail
  refine (undo_none (no_nil _) n).mono ?_
  rintro e W21 ⟨rfl, kx⟩
  replace b1 := b1.on kx
  replace b2 := b2.on kx
  replace b3 := b3.on kx
  replace b4 := b4.on kx
  replace b5 := b5.on kx
  replace kk := kk.trans (kx.mono kk.size)
  clear kx
  go_wp2_with fail
  refine (undo_none (no_odd b3) n).mono ?_
  rintro e W22 ⟨rfl, kx⟩
  replace b1 := b1.on kx
  replace b2 := b2.on kx
  replace b3 := b3.on kx
  replace b4 := b4.on kx
  replace b5 := b5.on kx
  replace kk := kk.trans (kx.mono kk.size)
  clear kx
  go_wp2_with fail
  refine (clone_no (no_nil _)).mono ?_
  rintro e W23 ⟨rfl, kx⟩
  replace b1 := b1.on kx
  replace b2 := b2.on kx
  replace b3 := b3.on kx
  replace b4 := b4.on kx
  replace b5 := b5.on kx
  replace kk := kk.trans (kx.mono kk.size)
  clear kx
  go_wp2_with fail
  refine (clone_no (no_odd b3)).mono ?_
  rintro e W24 ⟨rfl, kx⟩
  replace b1 := b1.on kx
  replace b2 := b2.on kx
  replace b3 := b3.on kx
  replace b4 := b4.on kx
  replace b5 := b5.on kx
  replace kk := kk.trans (kx.mono kk.size)
  clear kx
  go_wp2_with fail
  go_ret
  exact ⟨rfl, kk⟩
end Go.Proofs.Ytlajjadpcaobiaa
