/- The act of a thread that starts an instruction, by the program. Conditions: none. -/
import Derived.Test.YtfadfdfpocpelaaDoorMicro
namespace Go.Proofs.YtfadfdfpocpelaaDoor
set_option linter.unusedSimpArgs false
set_option linter.unusedVariables false
open Go.RowKit Go.ChangeShapes Go.WideShapes

/-- The act of an instruction of the thread t, which was quiet own times. -/
def actI (t : Int) (x : Th) (i : Ins) (own : Int) : Ac :=
  if i.op = 11 then ⟨2, ⟨1, i.b, 0⟩, noW, noW, noW, 0⟩
  else if i.op = 12 then ⟨3, ⟨1, i.a, 0⟩, noW, noW, regI x i.b, 0⟩
  else if i.op = 13 then ⟨4, ⟨1, i.n, 0⟩, noW, regI x i.b, regI x i.c, 0⟩
  else if i.op = 14 then ⟨2, thrP (regI x i.b) i.n, regI x i.b, noW, noW, (regI x i.b).g⟩
  else if i.op = 15 then ⟨3, thrP (regI x i.a) i.n, regI x i.a, noW, regI x i.b, (regI x i.a).g⟩
  else if i.op = 16 then ⟨4, thrP (regI x i.a) i.n, regI x i.a, regI x i.b, regI x i.c, (regI x i.a).g⟩
  else if i.op = 17 then ⟨5, noP, noW, noW, noW, 0⟩
  else if i.op = 18 then ⟨6, noP, noW, noW, noW, 0⟩
  else if i.op = 19 then ⟨7, noP, regI x i.a, noW, noW, 0⟩
  else if i.op = 20 then ⟨8, noP, regI x i.a, noW, noW, 0⟩
  else if i.op = 21 then ⟨3, ⟨5, t, i.n⟩, noW, noW, regI x i.a, 0⟩
  else if i.op = 22 then ⟨3, ⟨5, t, i.n⟩, noW, noW, noW, 0⟩
  else if i.op = 23 then ⟨2, ⟨6, 0, 0⟩, noW, noW, noW, 0⟩
  else if i.op = 24 then ⟨3, ⟨7, t, 0⟩, noW, noW, noW, 0⟩
  else if i.op = 25 then ⟨3, ⟨8, t, 0⟩, noW, noW, ⟨wrap64 (own + 1), 0, 0⟩, 0⟩
  else ⟨1, noP, noW, noW, noW, 0⟩
set_option maxRecDepth 100000 in
set_option maxHeartbeats 4000000 in
theorem word_any {w : World} {p1 : Nat} {x : Th} (b1 : Blk w p1 46 x.cs.toArray) (r : Int) : Calls Tryd.prog 23 #[.int .i64 r, .pointer (some ⟨p1, 0, none⟩)] w fun e w' => e = .returned (.agg (regI x r).cs.toArray) ∧ Below w.heap.size w w' := by
  obtain ⟨p2, f2⟩ : ∃ p, w.heap.size = p := ⟨_, rfl⟩
  obtain ⟨W1, ea1⟩ : ∃ W, w.alloc (.cells #[.int .i64 0, .int .i64 0, .int .i64 0] 25) = W := ⟨_, rfl⟩
  have ka1 : Below w.heap.size w W1 := by rw [← ea1]; exact (Below.refl _ w).alloc (Nat.le_refl _) _
  have b2 : Blk W1 p2 25 #[.int .i64 0, .int .i64 0, .int .i64 0] := by rw [← ea1]; exact blk_new w _ 25 _ f2
  have q1_2 : p1 < p2 := by rw [← f2]; exact b1.lt
  replace b1 := b1.on ka1
  have kk : Below w.heap.size w W1 := ka1
  have hp2 : w.heap.size ≤ p2 := Nat.le_of_eq f2
  clear ka1
  have d1 := get_any x r
  go_enter Tryd.func23, Tryd.ntmps23
  go_wp2_with (((with_reducible refine at_load 46 (.tmp 1) ?_); refine wpList_load_row rfl 46 (.tmp 1) rfl p1 rfl 46 x.cs.toArray (0, 0) _ b1 Tryd.underlying46 rfl (sizeT _) ?_))
  refine (d1 _).mono ?_
  rintro e W2 ⟨rfl, k1⟩
  replace b1 := b1.on k1
  replace b2 := b2.on k1
  replace kk := kk.trans (k1.mono kk.size)
  clear k1
  obtain ⟨W3, es3⟩ : ∃ W, W2.setRow p2 (regI x r).cs.toArray = W := ⟨_, rfl⟩
  have bo2 := b2
  replace b1 := row_far b1 es3 (by omega)
  replace b2 : Blk W3 p2 25 (regI x r).cs.toArray := row_named b2 es3
  replace kk := kk.trans (row_below es3 hp2 kk.size)
  go_wp2_with (((with_reducible refine at_store 25 (.tmp 3) (.tmp 6) ?_); refine wpList_store_row rfl 25 (.tmp 3) (.tmp 6) rfl p2 (regI x r).cs.toArray rfl rfl 25 #[.int .i64 0, .int .i64 0, .int .i64 0] bo2 size25 rfl (Wd.onea _) ?_; rw [es3]))
  refine bodyPost_ret (results_cell_row (cs := (regI x r).cs.toArray) rfl _ _ p2 25 (0, 0) _ rfl b2 Tryd.underlying25 rfl size25) rfl ?_
  exact ⟨rfl, kk⟩
theorem hmf : ∀ (fn : Fn) (first cap : Array Value) (w : World), (Instr.makeFunc fn first cap).run Tryd.prog w = .ok (.func fn first cap) w := fun _ _ _ _ => rfl
set_option maxRecDepth 100000 in
set_option maxHeartbeats 4000000 in
theorem ins_11 (t : Int) (x : Th) (i : Ins) (own : Int) (hop : i.op = 11) (w : World) : Calls Tryd.prog 14 #[.int .i64 t, .agg x.cs.toArray, .agg i.cs.toArray, .int .i64 own] w fun e w' => e = .returned (.agg (actI t x i own).cs.toArray) ∧ Below w.heap.size w w' := by
  have hmf := hmf
  have eA : actI t x i own = ⟨2, ⟨1, i.b, 0⟩, noW, noW, noW, 0⟩ := by unfold actI; simp [hop]
  have t11 : (i.op == 11) = true := by rw [hop]; rfl
  clear hop
  rw [eA]
  clear eA
  obtain ⟨p1, f1⟩ : ∃ p, w.heap.size = p := ⟨_, rfl⟩
  obtain ⟨W1, ea1⟩ : ∃ W, w.alloc (.cells x.cs.toArray 46) = W := ⟨_, rfl⟩
  have ka1 : Below w.heap.size w W1 := by rw [← ea1]; exact (Below.refl _ w).alloc (Nat.le_refl _) _
  have b1 : Blk W1 p1 46 x.cs.toArray := by rw [← ea1]; exact blk_new w _ 46 _ f1
  have kk : Below w.heap.size w W1 := ka1
  have hp1 : w.heap.size ≤ p1 := Nat.le_of_eq f1
  clear ka1
  obtain ⟨p2, f2⟩ : ∃ p, W1.heap.size = p := ⟨_, rfl⟩
  obtain ⟨W2, ea2⟩ : ∃ W, W1.alloc (.cells i.cs.toArray 35) = W := ⟨_, rfl⟩
  have ka2 : Below W1.heap.size W1 W2 := by rw [← ea2]; exact (Below.refl _ W1).alloc (Nat.le_refl _) _
  have b2 : Blk W2 p2 35 i.cs.toArray := by rw [← ea2]; exact blk_new W1 _ 35 _ f2
  have q1_2 : p1 < p2 := by rw [← f2]; exact b1.lt
  replace b1 := b1.on ka2
  have kk0 := kk
  replace kk := kk.trans (ka2.mono kk.size)
  have hp2 : w.heap.size ≤ p2 := by rw [← f2]; exact kk0.size
  clear ka2 kk0
  obtain ⟨p3, f3⟩ : ∃ p, W2.heap.size = p := ⟨_, rfl⟩
  obtain ⟨W3, ea3⟩ : ∃ W, W2.alloc (.cells #[.int .i64 0, .int .i64 0, .int .i64 0, .int .i64 0, .int .i64 0, .int .i64 0, .int .i64 0, .int .i64 0, .int .i64 0, .int .i64 0, .int .i64 0, .int .i64 0, .int .i64 0, .int .i64 0] 27) = W := ⟨_, rfl⟩
  have ka3 : Below W2.heap.size W2 W3 := by rw [← ea3]; exact (Below.refl _ W2).alloc (Nat.le_refl _) _
  have b3 : Blk W3 p3 27 #[.int .i64 0, .int .i64 0, .int .i64 0, .int .i64 0, .int .i64 0, .int .i64 0, .int .i64 0, .int .i64 0, .int .i64 0, .int .i64 0, .int .i64 0, .int .i64 0, .int .i64 0, .int .i64 0] := by rw [← ea3]; exact blk_new W2 _ 27 _ f3
  have q1_3 : p1 < p3 := by rw [← f3]; exact b1.lt
  replace b1 := b1.on ka3
  have q2_3 : p2 < p3 := by rw [← f3]; exact b2.lt
  replace b2 := b2.on ka3
  have kk0 := kk
  replace kk := kk.trans (ka3.mono kk.size)
  have hp3 : w.heap.size ≤ p3 := by rw [← f3]; exact kk0.size
  clear ka3 kk0
  have c3_2_0 : W3.cell? ⟨p2, 0, none⟩ = some (.int .i64 i.op) := b2.cell 0
  have c3_2_4 : W3.cell? ⟨p2, 4, none⟩ = some (.int .i64 i.n) := b2.cell 4
  have h13 : p1 ≠ p3 := by omega
  have h23 : p2 ≠ p3 := by omega
  have c3_2_2 : W3.cell? ⟨p2, 2, none⟩ = some (.int .i64 i.b) := b2.cell 2
  obtain ⟨p4, f4⟩ : ∃ p, W3.heap.size = p := ⟨_, rfl⟩
  obtain ⟨W4, ea4⟩ : ∃ W, W3.alloc (.cells #[.int .i64 i.b] 3) = W := ⟨_, rfl⟩
  have ka4 : Below W3.heap.size W3 W4 := by rw [← ea4]; exact (Below.refl _ W3).alloc (Nat.le_refl _) _
  have b4 : Blk W4 p4 3 #[.int .i64 i.b] := by rw [← ea4]; exact blk_new W3 _ 3 _ f4
  have q1_4 : p1 < p4 := by rw [← f4]; exact b1.lt
  replace b1 := b1.on ka4
  have q2_4 : p2 < p4 := by rw [← f4]; exact b2.lt
  replace b2 := b2.on ka4
  have q3_4 : p3 < p4 := by rw [← f4]; exact b3.lt
  replace b3 := b3.on ka4
  have kk0 := kk
  replace kk := kk.trans (ka4.mono kk.size)
  have hp4 : w.heap.size ≤ p4 := by rw [← f4]; exact kk0.size
  clear ka4 kk0
  go_enter Tryd.func14, Tryd.ntmps14
  go_wp2_with fail
  refine (at1_any 1 i.b _ b4).mono ?_
  rintro e W5 ⟨rfl, k1⟩
  clear c3_2_0 c3_2_4 c3_2_2
  replace b1 := b1.on k1
  replace b2 := b2.on k1
  replace b3 := b3.on k1
  replace b4 := b4.on k1
  replace kk := kk.trans (k1.mono kk.size)
  clear k1
  go_wp2_with fail
  refine (read_any ⟨1, i.b, 0⟩ _).mono ?_
  rintro e W6 ⟨rfl, k1⟩
  replace b1 := b1.on k1
  replace b2 := b2.on k1
  replace b3 := b3.on k1
  replace b4 := b4.on k1
  replace kk := kk.trans (k1.mono kk.size)
  clear k1
  obtain ⟨W7, es7⟩ : ∃ W, W6.setRow p3 (⟨2, ⟨1, i.b, 0⟩, noW, noW, noW, 0⟩ : Ac).cs.toArray = W := ⟨_, rfl⟩
  have bo3 := b3
  replace b1 := row_far b1 es7 (by omega)
  replace b2 := row_far b2 es7 (by omega)
  replace b4 := row_far b4 es7 (by omega)
  replace b3 : Blk W7 p3 27 (⟨2, ⟨1, i.b, 0⟩, noW, noW, noW, 0⟩ : Ac).cs.toArray := row_named b3 es7
  replace kk := kk.trans (row_below es7 hp3 kk.size)
  go_wp2_with (((with_reducible refine at_store 27 (.tmp 8) (.tmp 22) ?_); refine wpList_store_row rfl 27 (.tmp 8) (.tmp 22) rfl p3 (⟨2, ⟨1, i.b, 0⟩, noW, noW, noW, 0⟩ : Ac).cs.toArray rfl rfl 27 #[.int .i64 0, .int .i64 0, .int .i64 0, .int .i64 0, .int .i64 0, .int .i64 0, .int .i64 0, .int .i64 0, .int .i64 0, .int .i64 0, .int .i64 0, .int .i64 0, .int .i64 0, .int .i64 0] bo3 size27 rfl (Ac.onea _) ?_; rw [es7]))
  refine bodyPost_ret (results_cell_row (cs := (⟨2, ⟨1, i.b, 0⟩, noW, noW, noW, 0⟩ : Ac).cs.toArray) rfl _ _ p3 27 (0, 0) _ rfl b3 Tryd.underlying27 rfl size27) rfl ?_
  exact ⟨rfl, kk⟩
set_option maxRecDepth 100000 in
set_option maxHeartbeats 4000000 in
theorem ins_12 (t : Int) (x : Th) (i : Ins) (own : Int) (hop : i.op = 12) (w : World) : Calls Tryd.prog 14 #[.int .i64 t, .agg x.cs.toArray, .agg i.cs.toArray, .int .i64 own] w fun e w' => e = .returned (.agg (actI t x i own).cs.toArray) ∧ Below w.heap.size w w' := by
  have hmf := hmf
  have eA : actI t x i own = ⟨3, ⟨1, i.a, 0⟩, noW, noW, regI x i.b, 0⟩ := by unfold actI; simp [hop]
  have t11 : (i.op == 11) = false := by rw [hop]; rfl
  have t12 : (i.op == 12) = true := by rw [hop]; rfl
  clear hop
  rw [eA]
  clear eA
  obtain ⟨p1, f1⟩ : ∃ p, w.heap.size = p := ⟨_, rfl⟩
  obtain ⟨W1, ea1⟩ : ∃ W, w.alloc (.cells x.cs.toArray 46) = W := ⟨_, rfl⟩
  have ka1 : Below w.heap.size w W1 := by rw [← ea1]; exact (Below.refl _ w).alloc (Nat.le_refl _) _
  have b1 : Blk W1 p1 46 x.cs.toArray := by rw [← ea1]; exact blk_new w _ 46 _ f1
  have kk : Below w.heap.size w W1 := ka1
  have hp1 : w.heap.size ≤ p1 := Nat.le_of_eq f1
  clear ka1
  obtain ⟨p2, f2⟩ : ∃ p, W1.heap.size = p := ⟨_, rfl⟩
  obtain ⟨W2, ea2⟩ : ∃ W, W1.alloc (.cells i.cs.toArray 35) = W := ⟨_, rfl⟩
  have ka2 : Below W1.heap.size W1 W2 := by rw [← ea2]; exact (Below.refl _ W1).alloc (Nat.le_refl _) _
  have b2 : Blk W2 p2 35 i.cs.toArray := by rw [← ea2]; exact blk_new W1 _ 35 _ f2
  have q1_2 : p1 < p2 := by rw [← f2]; exact b1.lt
  replace b1 := b1.on ka2
  have kk0 := kk
  replace kk := kk.trans (ka2.mono kk.size)
  have hp2 : w.heap.size ≤ p2 := by rw [← f2]; exact kk0.size
  clear ka2 kk0
  obtain ⟨p3, f3⟩ : ∃ p, W2.heap.size = p := ⟨_, rfl⟩
  obtain ⟨W3, ea3⟩ : ∃ W, W2.alloc (.cells #[.int .i64 0, .int .i64 0, .int .i64 0, .int .i64 0, .int .i64 0, .int .i64 0, .int .i64 0, .int .i64 0, .int .i64 0, .int .i64 0, .int .i64 0, .int .i64 0, .int .i64 0, .int .i64 0] 27) = W := ⟨_, rfl⟩
  have ka3 : Below W2.heap.size W2 W3 := by rw [← ea3]; exact (Below.refl _ W2).alloc (Nat.le_refl _) _
  have b3 : Blk W3 p3 27 #[.int .i64 0, .int .i64 0, .int .i64 0, .int .i64 0, .int .i64 0, .int .i64 0, .int .i64 0, .int .i64 0, .int .i64 0, .int .i64 0, .int .i64 0, .int .i64 0, .int .i64 0, .int .i64 0] := by rw [← ea3]; exact blk_new W2 _ 27 _ f3
  have q1_3 : p1 < p3 := by rw [← f3]; exact b1.lt
  replace b1 := b1.on ka3
  have q2_3 : p2 < p3 := by rw [← f3]; exact b2.lt
  replace b2 := b2.on ka3
  have kk0 := kk
  replace kk := kk.trans (ka3.mono kk.size)
  have hp3 : w.heap.size ≤ p3 := by rw [← f3]; exact kk0.size
  clear ka3 kk0
  have c3_2_0 : W3.cell? ⟨p2, 0, none⟩ = some (.int .i64 i.op) := b2.cell 0
  have c3_2_4 : W3.cell? ⟨p2, 4, none⟩ = some (.int .i64 i.n) := b2.cell 4
  have h13 : p1 ≠ p3 := by omega
  have h23 : p2 ≠ p3 := by omega
  go_enter Tryd.func14, Tryd.ntmps14
  go_wp2_with fail
  clear c3_2_0 c3_2_4
  clear f1
  obtain ⟨wd, ed⟩ : ∃ W, W3.drew = W := ⟨_, rfl⟩
  have hd : Below W3.heap.size W3 wd := by rw [← ed]; exact (Below.refl _ _).drew
  replace b1 := b1.on hd
  replace b2 := b2.on hd
  replace b3 := b3.on hd
  replace kk := kk.trans (hd.mono kk.size)
  clear hd
  have kS : Kept (fun g => g = p3) wd wd := Kept.refl _ _
  have tS : ∀ W, Kept (fun g => g = p3) wd W → W.cell? ⟨p2, 1, none⟩ = some (.int .i64 i.a) ∧ W.cell? ⟨p2, 2, none⟩ = some (.int .i64 i.b) := fun W hW => ⟨(b2.kept hW h23).cell 1, (b2.kept hW h23).cell 2⟩
  refine wp_region_noPanic ?_
  refine wp_region_held_drew (S := (fun W => Kept (fun g => g = p3) wd W)) (by kernel_rfl) (by rw [ed]; exact kS) (fun hHeld => ?_)
  rw [ed] at hHeld ⊢
  refine wpAnyH_take (i := 0) (oi := ⟨some 25, _, _, _, _, _⟩) (v := ?_) rfl (by kernel_rfl) (by kernel_rfl) (by kernel_rfl) (fun _ _ _ h => h) (Or.inl ⟨by rfl, ?_⟩) (by assumption) ?_
  rotate_left 1
  · (intro W hSw; go_simp <;> with_reducible rfl)
  try simp only [Act.put, List.setIfInBounds_toArray, List.set_cons_zero, List.set_cons_succ]
  refine wpAnyH_take (i := 1) (oi := ⟨some 26, _, _, _, _, _⟩) (v := ?_) rfl (by kernel_rfl) (by kernel_rfl) (by kernel_rfl) (fun _ _ _ h => h) (Or.inl ⟨by rfl, ?_⟩) (by assumption) ?_
  rotate_left 1
  · (intro W hSw; obtain ⟨q0, q1⟩ := tS W hSw; go_simp <;> with_reducible rfl)
  try simp only [Act.put, List.setIfInBounds_toArray, List.set_cons_zero, List.set_cons_succ]
  refine wpAnyH_take (i := 4) (oi := ⟨some 29, _, _, _, _, _⟩) (v := ?_) rfl (by kernel_rfl) (by kernel_rfl) (by kernel_rfl) (fun _ _ _ h => h) (Or.inl ⟨by rfl, ?_⟩) (by assumption) ?_
  rotate_left 1
  · (intro W hSw; go_simp <;> with_reducible rfl)
  try simp only [Act.put, List.setIfInBounds_toArray, List.set_cons_zero, List.set_cons_succ]
  refine wpAnyH_take (i := 5) (oi := ⟨some 30, _, _, _, _, _⟩) (v := ?_) rfl (by kernel_rfl) (by kernel_rfl) (by kernel_rfl) (fun _ _ _ h => h) (Or.inl ⟨by rfl, ?_⟩) (by assumption) ?_
  rotate_left 1
  · (intro W hSw; go_simp <;> with_reducible rfl)
  try simp only [Act.put, List.setIfInBounds_toArray, List.set_cons_zero, List.set_cons_succ]
  refine wpAnyH_take (i := 6) (oi := ⟨some 31, _, _, _, _, _⟩) (v := ?_) rfl (by kernel_rfl) (by kernel_rfl) (by kernel_rfl) (fun _ _ _ h => h) (Or.inl ⟨by rfl, ?_⟩) (by assumption) ?_
  rotate_left 1
  · (intro W hSw; obtain ⟨q0, q1⟩ := tS W hSw; go_simp <;> with_reducible rfl)
  try simp only [Act.put, List.setIfInBounds_toArray, List.set_cons_zero, List.set_cons_succ]
  refine wpAnyH_ready (rs := [2]) (by kernel_rfl) (by simp) ?_
  refine AllReadyH.cons (o := ⟨some 27, _, _, _, _, _⟩) rfl (fun K hK => ?_) AllReadyH.nil
  go_simp
  obtain ⟨w1, ew1⟩ : ∃ zz, zz = wd.alloc (.cells #[.int .i64 i.a] 3) := ⟨_, rfl⟩
  have hb1 : Below wd.heap.size wd w1 := by rw [ew1]; exact (Below.refl _ _).alloc (Nat.le_refl _) _
  rw [← ew1]
  have ba1 : Blk w1 wd.heap.size 3 #[.int .i64 i.a] := by rw [ew1]; exact heap_alloc_new _ _
  have b1_1 := b1.on hb1
  have b2_1 := b2.on hb1
  have b3_1 := b3.on hb1
  have kk_1 := kk.trans (hb1.mono kk.size)
  have S1 : (fun W => Kept (fun g => g = p3) wd W) w1 := Kept.next kS (kept_below (fun _ => False) hb1) (fun _ h => h.elim)
  refine hK.out _ _ S1 (fun h1 => ?_)
  clear hHeld hK K ew1
  try simp only [Act.put, List.setIfInBounds_toArray, List.set_cons_zero, List.set_cons_succ]
  refine wpAnyH_ready (rs := [3]) (by kernel_rfl) (by simp) ?_
  refine AllReadyH.cons (o := ⟨some 28, _, _, _, _, _⟩) rfl (fun K hK => ?_) AllReadyH.nil
  go_simp
  refine (at1_any 1 i.a w1 ba1).mono ?_
  rintro e w2 ⟨rfl, hb2⟩
  have b1_2 := b1_1.on hb2
  have b2_2 := b2_1.on hb2
  have b3_2 := b3_1.on hb2
  have kk_2 := kk_1.trans (hb2.mono kk_1.size)
  have ba_2 := ba1.on hb2
  have S2 : (fun W => Kept (fun g => g = p3) wd W) w2 := Kept.next S1 (kept_below (fun _ => False) hb2) (fun _ h => h.elim)
  refine hK.out _ _ S2 (fun h2 => ?_)
  clear h1 hK K
  try simp only [Act.put, List.setIfInBounds_toArray, List.set_cons_zero, List.set_cons_succ]
  refine wpAnyH_ready (rs := [7]) (by kernel_rfl) (by simp) ?_
  refine AllReadyH.cons (o := ⟨some 32, _, _, _, _, _⟩) rfl (fun K hK => ?_) AllReadyH.nil
  go_simp
  refine (word_any b1_2 i.b).mono ?_
  rintro e w3 ⟨rfl, hb3⟩
  have b1_3 := b1_2.on hb3
  have b2_3 := b2_2.on hb3
  have b3_3 := b3_2.on hb3
  have kk_3 := kk_2.trans (hb3.mono kk_2.size)
  have ba_3 := ba_2.on hb3
  have S3 : (fun W => Kept (fun g => g = p3) wd W) w3 := Kept.next S2 (kept_below (fun _ => False) hb3) (fun _ h => h.elim)
  refine hK.out _ _ S3 (fun h3 => ?_)
  clear h2 hK K
  try simp only [Act.put, List.setIfInBounds_toArray, List.set_cons_zero, List.set_cons_succ]
  refine wpAnyH_ready (rs := [8]) (by kernel_rfl) (by simp) ?_
  refine AllReadyH.cons (o := ⟨some 33, _, _, _, _, _⟩) rfl (fun K hK => ?_) AllReadyH.nil
  go_simp
  refine (write_any ⟨1, i.a, 0⟩ (regI x i.b) w3).mono ?_
  rintro e w4 ⟨rfl, hb4⟩
  have b1_4 := b1_3.on hb4
  have b2_4 := b2_3.on hb4
  have b3_4 := b3_3.on hb4
  have kk_4 := kk_3.trans (hb4.mono kk_3.size)
  have ba_4 := ba_3.on hb4
  have S4 : (fun W => Kept (fun g => g = p3) wd W) w4 := Kept.next S3 (kept_below (fun _ => False) hb4) (fun _ h => h.elim)
  refine hK.out _ _ S4 (fun h4 => ?_)
  clear h3 hK K
  try simp only [Act.put, List.setIfInBounds_toArray, List.set_cons_zero, List.set_cons_succ]
  refine wpAnyH_ready (rs := [9]) (by kernel_rfl) (by simp) ?_
  refine AllReadyH.cons (o := ⟨none, _, _, _, _, _⟩) rfl (fun K hK => ?_) AllReadyH.nil
  rw [if_pos (by rfl)]
  refine wp_store_row 27 (.tmp 8) (.tmp 33) rfl p3 (⟨3, ⟨1, i.a, 0⟩, noW, noW, regI x i.b, 0⟩ : Ac).cs.toArray rfl rfl 27 #[.int .i64 0, .int .i64 0, .int .i64 0, .int .i64 0, .int .i64 0, .int .i64 0, .int .i64 0, .int .i64 0, .int .i64 0, .int .i64 0, .int .i64 0, .int .i64 0, .int .i64 0, .int .i64 0] b3_4 size27 rfl (Ac.onea _) ?_
  refine hK.out _ _ (Kept.next S4 (kept_row _ p3 _) (fun g h => .inl h)) (fun h5 => ?_)
  clear h4 hK K
  have S5 : Kept (fun g => g = p3) wd (w4.setRow p3 (⟨3, ⟨1, i.a, 0⟩, noW, noW, regI x i.b, 0⟩ : Ac).cs.toArray) := Kept.next S4 (kept_row _ p3 _) (fun g h => .inl h)
  have b3_5 : Blk (w4.setRow p3 (⟨3, ⟨1, i.a, 0⟩, noW, noW, regI x i.b, 0⟩ : Ac).cs.toArray) p3 27 (⟨3, ⟨1, i.a, 0⟩, noW, noW, regI x i.b, 0⟩ : Ac).cs.toArray := row_named b3_4 rfl
  have kk_5 := kk_4.trans (row_below (W := (w4.setRow p3 (⟨3, ⟨1, i.a, 0⟩, noW, noW, regI x i.b, 0⟩ : Ac).cs.toArray)) rfl hp3 kk_4.size)
  try simp only [Act.put]
  refine wpAnyH_done (by kernel_rfl) ?_ _
  refine NoPanic.normal ?_
  go_wp2_with fail
  refine bodyPost_ret (results_cell_row (cs := (⟨3, ⟨1, i.a, 0⟩, noW, noW, regI x i.b, 0⟩ : Ac).cs.toArray) rfl _ _ p3 27 (0, 0) _ rfl b3_5 Tryd.underlying27 rfl size27) rfl ?_
  exact ⟨rfl, kk_5⟩
set_option maxRecDepth 100000 in
set_option maxHeartbeats 4000000 in
theorem ins_13 (t : Int) (x : Th) (i : Ins) (own : Int) (hop : i.op = 13) (w : World) : Calls Tryd.prog 14 #[.int .i64 t, .agg x.cs.toArray, .agg i.cs.toArray, .int .i64 own] w fun e w' => e = .returned (.agg (actI t x i own).cs.toArray) ∧ Below w.heap.size w w' := by
  have hmf := hmf
  have eA : actI t x i own = ⟨4, ⟨1, i.n, 0⟩, noW, regI x i.b, regI x i.c, 0⟩ := by unfold actI; simp [hop]
  have t11 : (i.op == 11) = false := by rw [hop]; rfl
  have t12 : (i.op == 12) = false := by rw [hop]; rfl
  have t13 : (i.op == 13) = true := by rw [hop]; rfl
  clear hop
  rw [eA]
  clear eA
  obtain ⟨p1, f1⟩ : ∃ p, w.heap.size = p := ⟨_, rfl⟩
  obtain ⟨W1, ea1⟩ : ∃ W, w.alloc (.cells x.cs.toArray 46) = W := ⟨_, rfl⟩
  have ka1 : Below w.heap.size w W1 := by rw [← ea1]; exact (Below.refl _ w).alloc (Nat.le_refl _) _
  have b1 : Blk W1 p1 46 x.cs.toArray := by rw [← ea1]; exact blk_new w _ 46 _ f1
  have kk : Below w.heap.size w W1 := ka1
  have hp1 : w.heap.size ≤ p1 := Nat.le_of_eq f1
  clear ka1
  obtain ⟨p2, f2⟩ : ∃ p, W1.heap.size = p := ⟨_, rfl⟩
  obtain ⟨W2, ea2⟩ : ∃ W, W1.alloc (.cells i.cs.toArray 35) = W := ⟨_, rfl⟩
  have ka2 : Below W1.heap.size W1 W2 := by rw [← ea2]; exact (Below.refl _ W1).alloc (Nat.le_refl _) _
  have b2 : Blk W2 p2 35 i.cs.toArray := by rw [← ea2]; exact blk_new W1 _ 35 _ f2
  have q1_2 : p1 < p2 := by rw [← f2]; exact b1.lt
  replace b1 := b1.on ka2
  have kk0 := kk
  replace kk := kk.trans (ka2.mono kk.size)
  have hp2 : w.heap.size ≤ p2 := by rw [← f2]; exact kk0.size
  clear ka2 kk0
  obtain ⟨p3, f3⟩ : ∃ p, W2.heap.size = p := ⟨_, rfl⟩
  obtain ⟨W3, ea3⟩ : ∃ W, W2.alloc (.cells #[.int .i64 0, .int .i64 0, .int .i64 0, .int .i64 0, .int .i64 0, .int .i64 0, .int .i64 0, .int .i64 0, .int .i64 0, .int .i64 0, .int .i64 0, .int .i64 0, .int .i64 0, .int .i64 0] 27) = W := ⟨_, rfl⟩
  have ka3 : Below W2.heap.size W2 W3 := by rw [← ea3]; exact (Below.refl _ W2).alloc (Nat.le_refl _) _
  have b3 : Blk W3 p3 27 #[.int .i64 0, .int .i64 0, .int .i64 0, .int .i64 0, .int .i64 0, .int .i64 0, .int .i64 0, .int .i64 0, .int .i64 0, .int .i64 0, .int .i64 0, .int .i64 0, .int .i64 0, .int .i64 0] := by rw [← ea3]; exact blk_new W2 _ 27 _ f3
  have q1_3 : p1 < p3 := by rw [← f3]; exact b1.lt
  replace b1 := b1.on ka3
  have q2_3 : p2 < p3 := by rw [← f3]; exact b2.lt
  replace b2 := b2.on ka3
  have kk0 := kk
  replace kk := kk.trans (ka3.mono kk.size)
  have hp3 : w.heap.size ≤ p3 := by rw [← f3]; exact kk0.size
  clear ka3 kk0
  have c3_2_0 : W3.cell? ⟨p2, 0, none⟩ = some (.int .i64 i.op) := b2.cell 0
  have c3_2_4 : W3.cell? ⟨p2, 4, none⟩ = some (.int .i64 i.n) := b2.cell 4
  have h13 : p1 ≠ p3 := by omega
  have h23 : p2 ≠ p3 := by omega
  go_enter Tryd.func14, Tryd.ntmps14
  go_wp2_with fail
  clear c3_2_0 c3_2_4
  clear f1
  obtain ⟨wd, ed⟩ : ∃ W, W3.drew = W := ⟨_, rfl⟩
  have hd : Below W3.heap.size W3 wd := by rw [← ed]; exact (Below.refl _ _).drew
  replace b1 := b1.on hd
  replace b2 := b2.on hd
  replace b3 := b3.on hd
  replace kk := kk.trans (hd.mono kk.size)
  clear hd
  have kS : Kept (fun g => g = p3) wd wd := Kept.refl _ _
  have tS : ∀ W, Kept (fun g => g = p3) wd W → W.cell? ⟨p2, 2, none⟩ = some (.int .i64 i.b) ∧ W.cell? ⟨p2, 3, none⟩ = some (.int .i64 i.c) := fun W hW => ⟨(b2.kept hW h23).cell 2, (b2.kept hW h23).cell 3⟩
  refine wp_region_noPanic ?_
  refine wp_region_held_drew (S := (fun W => Kept (fun g => g = p3) wd W)) (by kernel_rfl) (by rw [ed]; exact kS) (fun hHeld => ?_)
  rw [ed] at hHeld ⊢
  refine wpAnyH_take (i := 0) (oi := ⟨some 36, _, _, _, _, _⟩) (v := ?_) rfl (by kernel_rfl) (by kernel_rfl) (by kernel_rfl) (fun _ _ _ h => h) (Or.inl ⟨by rfl, ?_⟩) (by assumption) ?_
  rotate_left 1
  · (intro W hSw; go_simp <;> with_reducible rfl)
  try simp only [Act.put, List.setIfInBounds_toArray, List.set_cons_zero, List.set_cons_succ]
  refine wpAnyH_take (i := 3) (oi := ⟨some 39, _, _, _, _, _⟩) (v := ?_) rfl (by kernel_rfl) (by kernel_rfl) (by kernel_rfl) (fun _ _ _ h => h) (Or.inl ⟨by rfl, ?_⟩) (by assumption) ?_
  rotate_left 1
  · (intro W hSw; go_simp <;> with_reducible rfl)
  try simp only [Act.put, List.setIfInBounds_toArray, List.set_cons_zero, List.set_cons_succ]
  refine wpAnyH_take (i := 4) (oi := ⟨some 40, _, _, _, _, _⟩) (v := ?_) rfl (by kernel_rfl) (by kernel_rfl) (by kernel_rfl) (fun _ _ _ h => h) (Or.inl ⟨by rfl, ?_⟩) (by assumption) ?_
  rotate_left 1
  · (intro W hSw; go_simp <;> with_reducible rfl)
  try simp only [Act.put, List.setIfInBounds_toArray, List.set_cons_zero, List.set_cons_succ]
  refine wpAnyH_take (i := 5) (oi := ⟨some 41, _, _, _, _, _⟩) (v := ?_) rfl (by kernel_rfl) (by kernel_rfl) (by kernel_rfl) (fun _ _ _ h => h) (Or.inl ⟨by rfl, ?_⟩) (by assumption) ?_
  rotate_left 1
  · (intro W hSw; obtain ⟨q0, q1⟩ := tS W hSw; go_simp <;> with_reducible rfl)
  try simp only [Act.put, List.setIfInBounds_toArray, List.set_cons_zero, List.set_cons_succ]
  refine wpAnyH_take (i := 7) (oi := ⟨some 43, _, _, _, _, _⟩) (v := ?_) rfl (by kernel_rfl) (by kernel_rfl) (by kernel_rfl) (fun _ _ _ h => h) (Or.inl ⟨by rfl, ?_⟩) (by assumption) ?_
  rotate_left 1
  · (intro W hSw; go_simp <;> with_reducible rfl)
  try simp only [Act.put, List.setIfInBounds_toArray, List.set_cons_zero, List.set_cons_succ]
  refine wpAnyH_take (i := 8) (oi := ⟨some 44, _, _, _, _, _⟩) (v := ?_) rfl (by kernel_rfl) (by kernel_rfl) (by kernel_rfl) (fun _ _ _ h => h) (Or.inl ⟨by rfl, ?_⟩) (by assumption) ?_
  rotate_left 1
  · (intro W hSw; go_simp <;> with_reducible rfl)
  try simp only [Act.put, List.setIfInBounds_toArray, List.set_cons_zero, List.set_cons_succ]
  refine wpAnyH_take (i := 9) (oi := ⟨some 45, _, _, _, _, _⟩) (v := ?_) rfl (by kernel_rfl) (by kernel_rfl) (by kernel_rfl) (fun _ _ _ h => h) (Or.inl ⟨by rfl, ?_⟩) (by assumption) ?_
  rotate_left 1
  · (intro W hSw; obtain ⟨q0, q1⟩ := tS W hSw; go_simp <;> with_reducible rfl)
  try simp only [Act.put, List.setIfInBounds_toArray, List.set_cons_zero, List.set_cons_succ]
  refine wpAnyH_ready (rs := [1]) (by kernel_rfl) (by simp) ?_
  refine AllReadyH.cons (o := ⟨some 37, _, _, _, _, _⟩) rfl (fun K hK => ?_) AllReadyH.nil
  go_simp
  obtain ⟨w1, ew1⟩ : ∃ zz, zz = wd.alloc (.cells #[.int .i64 i.n] 3) := ⟨_, rfl⟩
  have hb1 : Below wd.heap.size wd w1 := by rw [ew1]; exact (Below.refl _ _).alloc (Nat.le_refl _) _
  rw [← ew1]
  have ba1 : Blk w1 wd.heap.size 3 #[.int .i64 i.n] := by rw [ew1]; exact heap_alloc_new _ _
  have b1_1 := b1.on hb1
  have b2_1 := b2.on hb1
  have b3_1 := b3.on hb1
  have kk_1 := kk.trans (hb1.mono kk.size)
  have S1 : (fun W => Kept (fun g => g = p3) wd W) w1 := Kept.next kS (kept_below (fun _ => False) hb1) (fun _ h => h.elim)
  refine hK.out _ _ S1 (fun h1 => ?_)
  clear hHeld hK K ew1
  try simp only [Act.put, List.setIfInBounds_toArray, List.set_cons_zero, List.set_cons_succ]
  refine wpAnyH_ready (rs := [2]) (by kernel_rfl) (by simp) ?_
  refine AllReadyH.cons (o := ⟨some 38, _, _, _, _, _⟩) rfl (fun K hK => ?_) AllReadyH.nil
  go_simp
  refine (at1_any 1 i.n w1 ba1).mono ?_
  rintro e w2 ⟨rfl, hb2⟩
  have b1_2 := b1_1.on hb2
  have b2_2 := b2_1.on hb2
  have b3_2 := b3_1.on hb2
  have kk_2 := kk_1.trans (hb2.mono kk_1.size)
  have ba_2 := ba1.on hb2
  have S2 : (fun W => Kept (fun g => g = p3) wd W) w2 := Kept.next S1 (kept_below (fun _ => False) hb2) (fun _ h => h.elim)
  refine hK.out _ _ S2 (fun h2 => ?_)
  clear h1 hK K
  try simp only [Act.put, List.setIfInBounds_toArray, List.set_cons_zero, List.set_cons_succ]
  refine wpAnyH_ready (rs := [6]) (by kernel_rfl) (by simp) ?_
  refine AllReadyH.cons (o := ⟨some 42, _, _, _, _, _⟩) rfl (fun K hK => ?_) AllReadyH.nil
  go_simp
  refine (word_any b1_2 i.b).mono ?_
  rintro e w3 ⟨rfl, hb3⟩
  have b1_3 := b1_2.on hb3
  have b2_3 := b2_2.on hb3
  have b3_3 := b3_2.on hb3
  have kk_3 := kk_2.trans (hb3.mono kk_2.size)
  have ba_3 := ba_2.on hb3
  have S3 : (fun W => Kept (fun g => g = p3) wd W) w3 := Kept.next S2 (kept_below (fun _ => False) hb3) (fun _ h => h.elim)
  refine hK.out _ _ S3 (fun h3 => ?_)
  clear h2 hK K
  try simp only [Act.put, List.setIfInBounds_toArray, List.set_cons_zero, List.set_cons_succ]
  refine wpAnyH_ready (rs := [10]) (by kernel_rfl) (by simp) ?_
  refine AllReadyH.cons (o := ⟨some 46, _, _, _, _, _⟩) rfl (fun K hK => ?_) AllReadyH.nil
  go_simp
  refine (word_any b1_3 i.c).mono ?_
  rintro e w4 ⟨rfl, hb4⟩
  have b1_4 := b1_3.on hb4
  have b2_4 := b2_3.on hb4
  have b3_4 := b3_3.on hb4
  have kk_4 := kk_3.trans (hb4.mono kk_3.size)
  have ba_4 := ba_3.on hb4
  have S4 : (fun W => Kept (fun g => g = p3) wd W) w4 := Kept.next S3 (kept_below (fun _ => False) hb4) (fun _ h => h.elim)
  refine hK.out _ _ S4 (fun h4 => ?_)
  clear h3 hK K
  try simp only [Act.put, List.setIfInBounds_toArray, List.set_cons_zero, List.set_cons_succ]
  refine wpAnyH_ready (rs := [11]) (by kernel_rfl) (by simp) ?_
  refine AllReadyH.cons (o := ⟨some 47, _, _, _, _, _⟩) rfl (fun K hK => ?_) AllReadyH.nil
  go_simp
  refine (swap_any ⟨1, i.n, 0⟩ (regI x i.b) (regI x i.c) w4).mono ?_
  rintro e w5 ⟨rfl, hb5⟩
  have b1_5 := b1_4.on hb5
  have b2_5 := b2_4.on hb5
  have b3_5 := b3_4.on hb5
  have kk_5 := kk_4.trans (hb5.mono kk_4.size)
  have ba_5 := ba_4.on hb5
  have S5 : (fun W => Kept (fun g => g = p3) wd W) w5 := Kept.next S4 (kept_below (fun _ => False) hb5) (fun _ h => h.elim)
  refine hK.out _ _ S5 (fun h5 => ?_)
  clear h4 hK K
  try simp only [Act.put, List.setIfInBounds_toArray, List.set_cons_zero, List.set_cons_succ]
  refine wpAnyH_ready (rs := [12]) (by kernel_rfl) (by simp) ?_
  refine AllReadyH.cons (o := ⟨none, _, _, _, _, _⟩) rfl (fun K hK => ?_) AllReadyH.nil
  rw [if_pos (by rfl)]
  refine wp_store_row 27 (.tmp 8) (.tmp 47) rfl p3 (⟨4, ⟨1, i.n, 0⟩, noW, regI x i.b, regI x i.c, 0⟩ : Ac).cs.toArray rfl rfl 27 #[.int .i64 0, .int .i64 0, .int .i64 0, .int .i64 0, .int .i64 0, .int .i64 0, .int .i64 0, .int .i64 0, .int .i64 0, .int .i64 0, .int .i64 0, .int .i64 0, .int .i64 0, .int .i64 0] b3_5 size27 rfl (Ac.onea _) ?_
  refine hK.out _ _ (Kept.next S5 (kept_row _ p3 _) (fun g h => .inl h)) (fun h6 => ?_)
  clear h5 hK K
  have S6 : Kept (fun g => g = p3) wd (w5.setRow p3 (⟨4, ⟨1, i.n, 0⟩, noW, regI x i.b, regI x i.c, 0⟩ : Ac).cs.toArray) := Kept.next S5 (kept_row _ p3 _) (fun g h => .inl h)
  have b3_6 : Blk (w5.setRow p3 (⟨4, ⟨1, i.n, 0⟩, noW, regI x i.b, regI x i.c, 0⟩ : Ac).cs.toArray) p3 27 (⟨4, ⟨1, i.n, 0⟩, noW, regI x i.b, regI x i.c, 0⟩ : Ac).cs.toArray := row_named b3_5 rfl
  have kk_6 := kk_5.trans (row_below (W := (w5.setRow p3 (⟨4, ⟨1, i.n, 0⟩, noW, regI x i.b, regI x i.c, 0⟩ : Ac).cs.toArray)) rfl hp3 kk_5.size)
  try simp only [Act.put]
  refine wpAnyH_done (by kernel_rfl) ?_ _
  refine NoPanic.normal ?_
  go_wp2_with fail
  refine bodyPost_ret (results_cell_row (cs := (⟨4, ⟨1, i.n, 0⟩, noW, regI x i.b, regI x i.c, 0⟩ : Ac).cs.toArray) rfl _ _ p3 27 (0, 0) _ rfl b3_6 Tryd.underlying27 rfl size27) rfl ?_
  exact ⟨rfl, kk_6⟩
set_option maxRecDepth 100000 in
set_option maxHeartbeats 4000000 in
theorem ins_14 (t : Int) (x : Th) (i : Ins) (own : Int) (hop : i.op = 14) (w : World) : Calls Tryd.prog 14 #[.int .i64 t, .agg x.cs.toArray, .agg i.cs.toArray, .int .i64 own] w fun e w' => e = .returned (.agg (actI t x i own).cs.toArray) ∧ Below w.heap.size w w' := by
  have hmf := hmf
  have eA : actI t x i own = ⟨2, thrP (regI x i.b) i.n, regI x i.b, noW, noW, (regI x i.b).g⟩ := by unfold actI; simp [hop]
  have t11 : (i.op == 11) = false := by rw [hop]; rfl
  have t12 : (i.op == 12) = false := by rw [hop]; rfl
  have t13 : (i.op == 13) = false := by rw [hop]; rfl
  have t14 : (i.op == 14) = true := by rw [hop]; rfl
  clear hop
  rw [eA]
  clear eA
  obtain ⟨p1, f1⟩ : ∃ p, w.heap.size = p := ⟨_, rfl⟩
  obtain ⟨W1, ea1⟩ : ∃ W, w.alloc (.cells x.cs.toArray 46) = W := ⟨_, rfl⟩
  have ka1 : Below w.heap.size w W1 := by rw [← ea1]; exact (Below.refl _ w).alloc (Nat.le_refl _) _
  have b1 : Blk W1 p1 46 x.cs.toArray := by rw [← ea1]; exact blk_new w _ 46 _ f1
  have kk : Below w.heap.size w W1 := ka1
  have hp1 : w.heap.size ≤ p1 := Nat.le_of_eq f1
  clear ka1
  obtain ⟨p2, f2⟩ : ∃ p, W1.heap.size = p := ⟨_, rfl⟩
  obtain ⟨W2, ea2⟩ : ∃ W, W1.alloc (.cells i.cs.toArray 35) = W := ⟨_, rfl⟩
  have ka2 : Below W1.heap.size W1 W2 := by rw [← ea2]; exact (Below.refl _ W1).alloc (Nat.le_refl _) _
  have b2 : Blk W2 p2 35 i.cs.toArray := by rw [← ea2]; exact blk_new W1 _ 35 _ f2
  have q1_2 : p1 < p2 := by rw [← f2]; exact b1.lt
  replace b1 := b1.on ka2
  have kk0 := kk
  replace kk := kk.trans (ka2.mono kk.size)
  have hp2 : w.heap.size ≤ p2 := by rw [← f2]; exact kk0.size
  clear ka2 kk0
  obtain ⟨p3, f3⟩ : ∃ p, W2.heap.size = p := ⟨_, rfl⟩
  obtain ⟨W3, ea3⟩ : ∃ W, W2.alloc (.cells #[.int .i64 0, .int .i64 0, .int .i64 0, .int .i64 0, .int .i64 0, .int .i64 0, .int .i64 0, .int .i64 0, .int .i64 0, .int .i64 0, .int .i64 0, .int .i64 0, .int .i64 0, .int .i64 0] 27) = W := ⟨_, rfl⟩
  have ka3 : Below W2.heap.size W2 W3 := by rw [← ea3]; exact (Below.refl _ W2).alloc (Nat.le_refl _) _
  have b3 : Blk W3 p3 27 #[.int .i64 0, .int .i64 0, .int .i64 0, .int .i64 0, .int .i64 0, .int .i64 0, .int .i64 0, .int .i64 0, .int .i64 0, .int .i64 0, .int .i64 0, .int .i64 0, .int .i64 0, .int .i64 0] := by rw [← ea3]; exact blk_new W2 _ 27 _ f3
  have q1_3 : p1 < p3 := by rw [← f3]; exact b1.lt
  replace b1 := b1.on ka3
  have q2_3 : p2 < p3 := by rw [← f3]; exact b2.lt
  replace b2 := b2.on ka3
  have kk0 := kk
  replace kk := kk.trans (ka3.mono kk.size)
  have hp3 : w.heap.size ≤ p3 := by rw [← f3]; exact kk0.size
  clear ka3 kk0
  have c3_2_0 : W3.cell? ⟨p2, 0, none⟩ = some (.int .i64 i.op) := b2.cell 0
  have c3_2_4 : W3.cell? ⟨p2, 4, none⟩ = some (.int .i64 i.n) := b2.cell 4
  have h13 : p1 ≠ p3 := by omega
  have h23 : p2 ≠ p3 := by omega
  go_enter Tryd.func14, Tryd.ntmps14
  go_wp2_with fail
  clear c3_2_0 c3_2_4
  clear f1
  obtain ⟨wd, ed⟩ : ∃ W, W3.drew = W := ⟨_, rfl⟩
  have hd : Below W3.heap.size W3 wd := by rw [← ed]; exact (Below.refl _ _).drew
  replace b1 := b1.on hd
  replace b2 := b2.on hd
  replace b3 := b3.on hd
  replace kk := kk.trans (hd.mono kk.size)
  clear hd
  have kS : Kept (fun g => g = p3) wd wd := Kept.refl _ _
  have tS : ∀ W, Kept (fun g => g = p3) wd W → W.cell? ⟨p2, 2, none⟩ = some (.int .i64 i.b) := fun W hW => (b2.kept hW h23).cell 2
  refine wp_region_noPanic ?_
  refine wp_region_held_drew (S := (fun W => Kept (fun g => g = p3) wd W)) (by kernel_rfl) (by rw [ed]; exact kS) (fun hHeld => ?_)
  rw [ed] at hHeld ⊢
  refine wpAnyH_take (i := 0) (oi := ⟨some 50, _, _, _, _, _⟩) (v := ?_) rfl (by kernel_rfl) (by kernel_rfl) (by kernel_rfl) (fun _ _ _ h => h) (Or.inl ⟨by rfl, ?_⟩) (by assumption) ?_
  rotate_left 1
  · (intro W hSw; go_simp <;> with_reducible rfl)
  try simp only [Act.put, List.setIfInBounds_toArray, List.set_cons_zero, List.set_cons_succ]
  refine wpAnyH_take (i := 1) (oi := ⟨some 51, _, _, _, _, _⟩) (v := ?_) rfl (by kernel_rfl) (by kernel_rfl) (by kernel_rfl) (fun _ _ _ h => h) (Or.inl ⟨by rfl, ?_⟩) (by assumption) ?_
  rotate_left 1
  · (intro W hSw; go_simp <;> with_reducible rfl)
  try simp only [Act.put, List.setIfInBounds_toArray, List.set_cons_zero, List.set_cons_succ]
  refine wpAnyH_take (i := 2) (oi := ⟨some 52, _, _, _, _, _⟩) (v := ?_) rfl (by kernel_rfl) (by kernel_rfl) (by kernel_rfl) (fun _ _ _ h => h) (Or.inl ⟨by rfl, ?_⟩) (by assumption) ?_
  rotate_left 1
  · (intro W hSw; obtain q0 := tS W hSw; go_simp <;> with_reducible rfl)
  try simp only [Act.put, List.setIfInBounds_toArray, List.set_cons_zero, List.set_cons_succ]
  refine wpAnyH_take (i := 4) (oi := ⟨some 54, _, _, _, _, _⟩) (v := ?_) rfl (by kernel_rfl) (by kernel_rfl) (by kernel_rfl) (fun _ _ _ h => h) (Or.inl ⟨by rfl, ?_⟩) (by assumption) ?_
  rotate_left 1
  · (intro W hSw; go_simp <;> with_reducible rfl)
  try simp only [Act.put, List.setIfInBounds_toArray, List.set_cons_zero, List.set_cons_succ]
  refine wpAnyH_take (i := 5) (oi := ⟨some 55, _, _, _, _, _⟩) (v := ?_) rfl (by kernel_rfl) (by kernel_rfl) (by kernel_rfl) (fun _ _ _ h => h) (Or.inl ⟨by rfl, ?_⟩) (by assumption) ?_
  rotate_left 1
  · (intro W hSw; go_simp <;> with_reducible rfl)
  try simp only [Act.put, List.setIfInBounds_toArray, List.set_cons_zero, List.set_cons_succ]
  refine wpAnyH_take (i := 6) (oi := ⟨some 56, _, _, _, _, _⟩) (v := ?_) rfl (by kernel_rfl) (by kernel_rfl) (by kernel_rfl) (fun _ _ _ h => h) (Or.inl ⟨by rfl, ?_⟩) (by assumption) ?_
  rotate_left 1
  · (intro W hSw; obtain q0 := tS W hSw; go_simp <;> with_reducible rfl)
  try simp only [Act.put, List.setIfInBounds_toArray, List.set_cons_zero, List.set_cons_succ]
  refine wpAnyH_take (i := 8) (oi := ⟨some 58, _, _, _, _, _⟩) (v := ?_) rfl (by kernel_rfl) (by kernel_rfl) (by kernel_rfl) (fun _ _ _ h => h) (Or.inl ⟨by rfl, ?_⟩) (by assumption) ?_
  rotate_left 1
  · (intro W hSw; go_simp <;> with_reducible rfl)
  try simp only [Act.put, List.setIfInBounds_toArray, List.set_cons_zero, List.set_cons_succ]
  refine wpAnyH_ready (rs := [3]) (by kernel_rfl) (by simp) ?_
  refine AllReadyH.cons (o := ⟨some 53, _, _, _, _, _⟩) rfl (fun K hK => ?_) AllReadyH.nil
  go_simp
  refine (word_any b1 i.b).mono ?_
  rintro e w1 ⟨rfl, hb1⟩
  have b1_1 := b1.on hb1
  have b2_1 := b2.on hb1
  have b3_1 := b3.on hb1
  have kk_1 := kk.trans (hb1.mono kk.size)
  have S1 : (fun W => Kept (fun g => g = p3) wd W) w1 := Kept.next kS (kept_below (fun _ => False) hb1) (fun _ h => h.elim)
  refine hK.out _ _ S1 (fun h1 => ?_)
  clear hHeld hK K
  try simp only [Act.put, List.setIfInBounds_toArray, List.set_cons_zero, List.set_cons_succ]
  refine wpAnyH_ready (rs := [7]) (by kernel_rfl) (by simp) ?_
  refine AllReadyH.cons (o := ⟨some 57, _, _, _, _, _⟩) rfl (fun K hK => ?_) AllReadyH.nil
  go_simp
  refine (word_any b1_1 i.b).mono ?_
  rintro e w2 ⟨rfl, hb2⟩
  have b1_2 := b1_1.on hb2
  have b2_2 := b2_1.on hb2
  have b3_2 := b3_1.on hb2
  have kk_2 := kk_1.trans (hb2.mono kk_1.size)
  have S2 : (fun W => Kept (fun g => g = p3) wd W) w2 := Kept.next S1 (kept_below (fun _ => False) hb2) (fun _ h => h.elim)
  refine hK.out _ _ S2 (fun h2 => ?_)
  clear h1 hK K
  try simp only [Act.put, List.setIfInBounds_toArray, List.set_cons_zero, List.set_cons_succ]
  refine wpAnyH_ready (rs := [9]) (by kernel_rfl) (by simp) ?_
  refine AllReadyH.cons (o := ⟨some 59, _, _, _, _, _⟩) rfl (fun K hK => ?_) AllReadyH.nil
  go_simp
  refine (field_any (regI x i.b) i.n w2).mono ?_
  rintro e w3 ⟨rfl, hb3⟩
  have b1_3 := b1_2.on hb3
  have b2_3 := b2_2.on hb3
  have b3_3 := b3_2.on hb3
  have kk_3 := kk_2.trans (hb3.mono kk_2.size)
  have S3 : (fun W => Kept (fun g => g = p3) wd W) w3 := Kept.next S2 (kept_below (fun _ => False) hb3) (fun _ h => h.elim)
  refine hK.out _ _ S3 (fun h3 => ?_)
  clear h2 hK K
  try simp only [Act.put, List.setIfInBounds_toArray, List.set_cons_zero, List.set_cons_succ]
  refine wpAnyH_ready (rs := [10]) (by kernel_rfl) (by simp) ?_
  refine AllReadyH.cons (o := ⟨some 60, _, _, _, _, _⟩) rfl (fun K hK => ?_) AllReadyH.nil
  go_simp
  refine (read_any (thrP (regI x i.b) i.n) w3).mono ?_
  rintro e w4 ⟨rfl, hb4⟩
  have b1_4 := b1_3.on hb4
  have b2_4 := b2_3.on hb4
  have b3_4 := b3_3.on hb4
  have kk_4 := kk_3.trans (hb4.mono kk_3.size)
  have S4 : (fun W => Kept (fun g => g = p3) wd W) w4 := Kept.next S3 (kept_below (fun _ => False) hb4) (fun _ h => h.elim)
  refine hK.out _ _ S4 (fun h4 => ?_)
  clear h3 hK K
  try simp only [Act.put, List.setIfInBounds_toArray, List.set_cons_zero, List.set_cons_succ]
  refine wpAnyH_ready (rs := [11]) (by kernel_rfl) (by simp) ?_
  refine AllReadyH.cons (o := ⟨some 61, _, _, _, _, _⟩) rfl (fun K hK => ?_) AllReadyH.nil
  go_simp
  refine (through_any (regI x i.b) ⟨2, thrP (regI x i.b) i.n, noW, noW, noW, 0⟩ w4).mono ?_
  rintro e w5 ⟨rfl, hb5⟩
  have b1_5 := b1_4.on hb5
  have b2_5 := b2_4.on hb5
  have b3_5 := b3_4.on hb5
  have kk_5 := kk_4.trans (hb5.mono kk_4.size)
  have S5 : (fun W => Kept (fun g => g = p3) wd W) w5 := Kept.next S4 (kept_below (fun _ => False) hb5) (fun _ h => h.elim)
  refine hK.out _ _ S5 (fun h5 => ?_)
  clear h4 hK K
  try simp only [Act.put, List.setIfInBounds_toArray, List.set_cons_zero, List.set_cons_succ]
  refine wpAnyH_ready (rs := [12]) (by kernel_rfl) (by simp) ?_
  refine AllReadyH.cons (o := ⟨none, _, _, _, _, _⟩) rfl (fun K hK => ?_) AllReadyH.nil
  rw [if_pos (by rfl)]
  refine wp_store_row 27 (.tmp 8) (.tmp 61) rfl p3 (⟨2, thrP (regI x i.b) i.n, regI x i.b, noW, noW, (regI x i.b).g⟩ : Ac).cs.toArray rfl rfl 27 #[.int .i64 0, .int .i64 0, .int .i64 0, .int .i64 0, .int .i64 0, .int .i64 0, .int .i64 0, .int .i64 0, .int .i64 0, .int .i64 0, .int .i64 0, .int .i64 0, .int .i64 0, .int .i64 0] b3_5 size27 rfl (Ac.onea _) ?_
  refine hK.out _ _ (Kept.next S5 (kept_row _ p3 _) (fun g h => .inl h)) (fun h6 => ?_)
  clear h5 hK K
  have S6 : Kept (fun g => g = p3) wd (w5.setRow p3 (⟨2, thrP (regI x i.b) i.n, regI x i.b, noW, noW, (regI x i.b).g⟩ : Ac).cs.toArray) := Kept.next S5 (kept_row _ p3 _) (fun g h => .inl h)
  have b3_6 : Blk (w5.setRow p3 (⟨2, thrP (regI x i.b) i.n, regI x i.b, noW, noW, (regI x i.b).g⟩ : Ac).cs.toArray) p3 27 (⟨2, thrP (regI x i.b) i.n, regI x i.b, noW, noW, (regI x i.b).g⟩ : Ac).cs.toArray := row_named b3_5 rfl
  have kk_6 := kk_5.trans (row_below (W := (w5.setRow p3 (⟨2, thrP (regI x i.b) i.n, regI x i.b, noW, noW, (regI x i.b).g⟩ : Ac).cs.toArray)) rfl hp3 kk_5.size)
  try simp only [Act.put]
  refine wpAnyH_done (by kernel_rfl) ?_ _
  refine NoPanic.normal ?_
  go_wp2_with fail
  refine bodyPost_ret (results_cell_row (cs := (⟨2, thrP (regI x i.b) i.n, regI x i.b, noW, noW, (regI x i.b).g⟩ : Ac).cs.toArray) rfl _ _ p3 27 (0, 0) _ rfl b3_6 Tryd.underlying27 rfl size27) rfl ?_
  exact ⟨rfl, kk_6⟩
set_option maxRecDepth 100000 in
set_option maxHeartbeats 4000000 in
theorem ins_15 (t : Int) (x : Th) (i : Ins) (own : Int) (hop : i.op = 15) (w : World) : Calls Tryd.prog 14 #[.int .i64 t, .agg x.cs.toArray, .agg i.cs.toArray, .int .i64 own] w fun e w' => e = .returned (.agg (actI t x i own).cs.toArray) ∧ Below w.heap.size w w' := by
  have hmf := hmf
  have eA : actI t x i own = ⟨3, thrP (regI x i.a) i.n, regI x i.a, noW, regI x i.b, (regI x i.a).g⟩ := by unfold actI; simp [hop]
  have t11 : (i.op == 11) = false := by rw [hop]; rfl
  have t12 : (i.op == 12) = false := by rw [hop]; rfl
  have t13 : (i.op == 13) = false := by rw [hop]; rfl
  have t14 : (i.op == 14) = false := by rw [hop]; rfl
  have t15 : (i.op == 15) = true := by rw [hop]; rfl
  clear hop
  rw [eA]
  clear eA
  obtain ⟨p1, f1⟩ : ∃ p, w.heap.size = p := ⟨_, rfl⟩
  obtain ⟨W1, ea1⟩ : ∃ W, w.alloc (.cells x.cs.toArray 46) = W := ⟨_, rfl⟩
  have ka1 : Below w.heap.size w W1 := by rw [← ea1]; exact (Below.refl _ w).alloc (Nat.le_refl _) _
  have b1 : Blk W1 p1 46 x.cs.toArray := by rw [← ea1]; exact blk_new w _ 46 _ f1
  have kk : Below w.heap.size w W1 := ka1
  have hp1 : w.heap.size ≤ p1 := Nat.le_of_eq f1
  clear ka1
  obtain ⟨p2, f2⟩ : ∃ p, W1.heap.size = p := ⟨_, rfl⟩
  obtain ⟨W2, ea2⟩ : ∃ W, W1.alloc (.cells i.cs.toArray 35) = W := ⟨_, rfl⟩
  have ka2 : Below W1.heap.size W1 W2 := by rw [← ea2]; exact (Below.refl _ W1).alloc (Nat.le_refl _) _
  have b2 : Blk W2 p2 35 i.cs.toArray := by rw [← ea2]; exact blk_new W1 _ 35 _ f2
  have q1_2 : p1 < p2 := by rw [← f2]; exact b1.lt
  replace b1 := b1.on ka2
  have kk0 := kk
  replace kk := kk.trans (ka2.mono kk.size)
  have hp2 : w.heap.size ≤ p2 := by rw [← f2]; exact kk0.size
  clear ka2 kk0
  obtain ⟨p3, f3⟩ : ∃ p, W2.heap.size = p := ⟨_, rfl⟩
  obtain ⟨W3, ea3⟩ : ∃ W, W2.alloc (.cells #[.int .i64 0, .int .i64 0, .int .i64 0, .int .i64 0, .int .i64 0, .int .i64 0, .int .i64 0, .int .i64 0, .int .i64 0, .int .i64 0, .int .i64 0, .int .i64 0, .int .i64 0, .int .i64 0] 27) = W := ⟨_, rfl⟩
  have ka3 : Below W2.heap.size W2 W3 := by rw [← ea3]; exact (Below.refl _ W2).alloc (Nat.le_refl _) _
  have b3 : Blk W3 p3 27 #[.int .i64 0, .int .i64 0, .int .i64 0, .int .i64 0, .int .i64 0, .int .i64 0, .int .i64 0, .int .i64 0, .int .i64 0, .int .i64 0, .int .i64 0, .int .i64 0, .int .i64 0, .int .i64 0] := by rw [← ea3]; exact blk_new W2 _ 27 _ f3
  have q1_3 : p1 < p3 := by rw [← f3]; exact b1.lt
  replace b1 := b1.on ka3
  have q2_3 : p2 < p3 := by rw [← f3]; exact b2.lt
  replace b2 := b2.on ka3
  have kk0 := kk
  replace kk := kk.trans (ka3.mono kk.size)
  have hp3 : w.heap.size ≤ p3 := by rw [← f3]; exact kk0.size
  clear ka3 kk0
  have c3_2_0 : W3.cell? ⟨p2, 0, none⟩ = some (.int .i64 i.op) := b2.cell 0
  have c3_2_4 : W3.cell? ⟨p2, 4, none⟩ = some (.int .i64 i.n) := b2.cell 4
  have h13 : p1 ≠ p3 := by omega
  have h23 : p2 ≠ p3 := by omega
  go_enter Tryd.func14, Tryd.ntmps14
  go_wp2_with fail
  clear c3_2_0 c3_2_4
  clear f1
  obtain ⟨wd, ed⟩ : ∃ W, W3.drew = W := ⟨_, rfl⟩
  have hd : Below W3.heap.size W3 wd := by rw [← ed]; exact (Below.refl _ _).drew
  replace b1 := b1.on hd
  replace b2 := b2.on hd
  replace b3 := b3.on hd
  replace kk := kk.trans (hd.mono kk.size)
  clear hd
  have kS : Kept (fun g => g = p3) wd wd := Kept.refl _ _
  have tS : ∀ W, Kept (fun g => g = p3) wd W → W.cell? ⟨p2, 1, none⟩ = some (.int .i64 i.a) ∧ W.cell? ⟨p2, 2, none⟩ = some (.int .i64 i.b) := fun W hW => ⟨(b2.kept hW h23).cell 1, (b2.kept hW h23).cell 2⟩
  refine wp_region_noPanic ?_
  refine wp_region_held_drew (S := (fun W => Kept (fun g => g = p3) wd W)) (by kernel_rfl) (by rw [ed]; exact kS) (fun hHeld => ?_)
  rw [ed] at hHeld ⊢
  refine wpAnyH_take (i := 0) (oi := ⟨some 64, _, _, _, _, _⟩) (v := ?_) rfl (by kernel_rfl) (by kernel_rfl) (by kernel_rfl) (fun _ _ _ h => h) (Or.inl ⟨by rfl, ?_⟩) (by assumption) ?_
  rotate_left 1
  · (intro W hSw; go_simp <;> with_reducible rfl)
  try simp only [Act.put, List.setIfInBounds_toArray, List.set_cons_zero, List.set_cons_succ]
  refine wpAnyH_take (i := 1) (oi := ⟨some 65, _, _, _, _, _⟩) (v := ?_) rfl (by kernel_rfl) (by kernel_rfl) (by kernel_rfl) (fun _ _ _ h => h) (Or.inl ⟨by rfl, ?_⟩) (by assumption) ?_
  rotate_left 1
  · (intro W hSw; go_simp <;> with_reducible rfl)
  try simp only [Act.put, List.setIfInBounds_toArray, List.set_cons_zero, List.set_cons_succ]
  refine wpAnyH_take (i := 2) (oi := ⟨some 66, _, _, _, _, _⟩) (v := ?_) rfl (by kernel_rfl) (by kernel_rfl) (by kernel_rfl) (fun _ _ _ h => h) (Or.inl ⟨by rfl, ?_⟩) (by assumption) ?_
  rotate_left 1
  · (intro W hSw; obtain ⟨q0, q1⟩ := tS W hSw; go_simp <;> with_reducible rfl)
  try simp only [Act.put, List.setIfInBounds_toArray, List.set_cons_zero, List.set_cons_succ]
  refine wpAnyH_take (i := 4) (oi := ⟨some 68, _, _, _, _, _⟩) (v := ?_) rfl (by kernel_rfl) (by kernel_rfl) (by kernel_rfl) (fun _ _ _ h => h) (Or.inl ⟨by rfl, ?_⟩) (by assumption) ?_
  rotate_left 1
  · (intro W hSw; go_simp <;> with_reducible rfl)
  try simp only [Act.put, List.setIfInBounds_toArray, List.set_cons_zero, List.set_cons_succ]
  refine wpAnyH_take (i := 5) (oi := ⟨some 69, _, _, _, _, _⟩) (v := ?_) rfl (by kernel_rfl) (by kernel_rfl) (by kernel_rfl) (fun _ _ _ h => h) (Or.inl ⟨by rfl, ?_⟩) (by assumption) ?_
  rotate_left 1
  · (intro W hSw; go_simp <;> with_reducible rfl)
  try simp only [Act.put, List.setIfInBounds_toArray, List.set_cons_zero, List.set_cons_succ]
  refine wpAnyH_take (i := 6) (oi := ⟨some 70, _, _, _, _, _⟩) (v := ?_) rfl (by kernel_rfl) (by kernel_rfl) (by kernel_rfl) (fun _ _ _ h => h) (Or.inl ⟨by rfl, ?_⟩) (by assumption) ?_
  rotate_left 1
  · (intro W hSw; obtain ⟨q0, q1⟩ := tS W hSw; go_simp <;> with_reducible rfl)
  try simp only [Act.put, List.setIfInBounds_toArray, List.set_cons_zero, List.set_cons_succ]
  refine wpAnyH_take (i := 8) (oi := ⟨some 72, _, _, _, _, _⟩) (v := ?_) rfl (by kernel_rfl) (by kernel_rfl) (by kernel_rfl) (fun _ _ _ h => h) (Or.inl ⟨by rfl, ?_⟩) (by assumption) ?_
  rotate_left 1
  · (intro W hSw; go_simp <;> with_reducible rfl)
  try simp only [Act.put, List.setIfInBounds_toArray, List.set_cons_zero, List.set_cons_succ]
  refine wpAnyH_take (i := 10) (oi := ⟨some 74, _, _, _, _, _⟩) (v := ?_) rfl (by kernel_rfl) (by kernel_rfl) (by kernel_rfl) (fun _ _ _ h => h) (Or.inl ⟨by rfl, ?_⟩) (by assumption) ?_
  rotate_left 1
  · (intro W hSw; go_simp <;> with_reducible rfl)
  try simp only [Act.put, List.setIfInBounds_toArray, List.set_cons_zero, List.set_cons_succ]
  refine wpAnyH_take (i := 11) (oi := ⟨some 75, _, _, _, _, _⟩) (v := ?_) rfl (by kernel_rfl) (by kernel_rfl) (by kernel_rfl) (fun _ _ _ h => h) (Or.inl ⟨by rfl, ?_⟩) (by assumption) ?_
  rotate_left 1
  · (intro W hSw; go_simp <;> with_reducible rfl)
  try simp only [Act.put, List.setIfInBounds_toArray, List.set_cons_zero, List.set_cons_succ]
  refine wpAnyH_take (i := 12) (oi := ⟨some 76, _, _, _, _, _⟩) (v := ?_) rfl (by kernel_rfl) (by kernel_rfl) (by kernel_rfl) (fun _ _ _ h => h) (Or.inl ⟨by rfl, ?_⟩) (by assumption) ?_
  rotate_left 1
  · (intro W hSw; obtain ⟨q0, q1⟩ := tS W hSw; go_simp <;> with_reducible rfl)
  try simp only [Act.put, List.setIfInBounds_toArray, List.set_cons_zero, List.set_cons_succ]
  refine wpAnyH_ready (rs := [3]) (by kernel_rfl) (by simp) ?_
  refine AllReadyH.cons (o := ⟨some 67, _, _, _, _, _⟩) rfl (fun K hK => ?_) AllReadyH.nil
  go_simp
  refine (word_any b1 i.a).mono ?_
  rintro e w1 ⟨rfl, hb1⟩
  have b1_1 := b1.on hb1
  have b2_1 := b2.on hb1
  have b3_1 := b3.on hb1
  have kk_1 := kk.trans (hb1.mono kk.size)
  have S1 : (fun W => Kept (fun g => g = p3) wd W) w1 := Kept.next kS (kept_below (fun _ => False) hb1) (fun _ h => h.elim)
  refine hK.out _ _ S1 (fun h1 => ?_)
  clear hHeld hK K
  try simp only [Act.put, List.setIfInBounds_toArray, List.set_cons_zero, List.set_cons_succ]
  refine wpAnyH_ready (rs := [7]) (by kernel_rfl) (by simp) ?_
  refine AllReadyH.cons (o := ⟨some 71, _, _, _, _, _⟩) rfl (fun K hK => ?_) AllReadyH.nil
  go_simp
  refine (word_any b1_1 i.a).mono ?_
  rintro e w2 ⟨rfl, hb2⟩
  have b1_2 := b1_1.on hb2
  have b2_2 := b2_1.on hb2
  have b3_2 := b3_1.on hb2
  have kk_2 := kk_1.trans (hb2.mono kk_1.size)
  have S2 : (fun W => Kept (fun g => g = p3) wd W) w2 := Kept.next S1 (kept_below (fun _ => False) hb2) (fun _ h => h.elim)
  refine hK.out _ _ S2 (fun h2 => ?_)
  clear h1 hK K
  try simp only [Act.put, List.setIfInBounds_toArray, List.set_cons_zero, List.set_cons_succ]
  refine wpAnyH_ready (rs := [9]) (by kernel_rfl) (by simp) ?_
  refine AllReadyH.cons (o := ⟨some 73, _, _, _, _, _⟩) rfl (fun K hK => ?_) AllReadyH.nil
  go_simp
  refine (field_any (regI x i.a) i.n w2).mono ?_
  rintro e w3 ⟨rfl, hb3⟩
  have b1_3 := b1_2.on hb3
  have b2_3 := b2_2.on hb3
  have b3_3 := b3_2.on hb3
  have kk_3 := kk_2.trans (hb3.mono kk_2.size)
  have S3 : (fun W => Kept (fun g => g = p3) wd W) w3 := Kept.next S2 (kept_below (fun _ => False) hb3) (fun _ h => h.elim)
  refine hK.out _ _ S3 (fun h3 => ?_)
  clear h2 hK K
  try simp only [Act.put, List.setIfInBounds_toArray, List.set_cons_zero, List.set_cons_succ]
  refine wpAnyH_ready (rs := [13]) (by kernel_rfl) (by simp) ?_
  refine AllReadyH.cons (o := ⟨some 77, _, _, _, _, _⟩) rfl (fun K hK => ?_) AllReadyH.nil
  go_simp
  refine (word_any b1_3 i.b).mono ?_
  rintro e w4 ⟨rfl, hb4⟩
  have b1_4 := b1_3.on hb4
  have b2_4 := b2_3.on hb4
  have b3_4 := b3_3.on hb4
  have kk_4 := kk_3.trans (hb4.mono kk_3.size)
  have S4 : (fun W => Kept (fun g => g = p3) wd W) w4 := Kept.next S3 (kept_below (fun _ => False) hb4) (fun _ h => h.elim)
  refine hK.out _ _ S4 (fun h4 => ?_)
  clear h3 hK K
  try simp only [Act.put, List.setIfInBounds_toArray, List.set_cons_zero, List.set_cons_succ]
  refine wpAnyH_ready (rs := [14]) (by kernel_rfl) (by simp) ?_
  refine AllReadyH.cons (o := ⟨some 78, _, _, _, _, _⟩) rfl (fun K hK => ?_) AllReadyH.nil
  go_simp
  refine (write_any (thrP (regI x i.a) i.n) (regI x i.b) w4).mono ?_
  rintro e w5 ⟨rfl, hb5⟩
  have b1_5 := b1_4.on hb5
  have b2_5 := b2_4.on hb5
  have b3_5 := b3_4.on hb5
  have kk_5 := kk_4.trans (hb5.mono kk_4.size)
  have S5 : (fun W => Kept (fun g => g = p3) wd W) w5 := Kept.next S4 (kept_below (fun _ => False) hb5) (fun _ h => h.elim)
  refine hK.out _ _ S5 (fun h5 => ?_)
  clear h4 hK K
  try simp only [Act.put, List.setIfInBounds_toArray, List.set_cons_zero, List.set_cons_succ]
  refine wpAnyH_ready (rs := [15]) (by kernel_rfl) (by simp) ?_
  refine AllReadyH.cons (o := ⟨some 79, _, _, _, _, _⟩) rfl (fun K hK => ?_) AllReadyH.nil
  go_simp
  refine (through_any (regI x i.a) ⟨3, thrP (regI x i.a) i.n, noW, noW, regI x i.b, 0⟩ w5).mono ?_
  rintro e w6 ⟨rfl, hb6⟩
  have b1_6 := b1_5.on hb6
  have b2_6 := b2_5.on hb6
  have b3_6 := b3_5.on hb6
  have kk_6 := kk_5.trans (hb6.mono kk_5.size)
  have S6 : (fun W => Kept (fun g => g = p3) wd W) w6 := Kept.next S5 (kept_below (fun _ => False) hb6) (fun _ h => h.elim)
  refine hK.out _ _ S6 (fun h6 => ?_)
  clear h5 hK K
  try simp only [Act.put, List.setIfInBounds_toArray, List.set_cons_zero, List.set_cons_succ]
  refine wpAnyH_ready (rs := [16]) (by kernel_rfl) (by simp) ?_
  refine AllReadyH.cons (o := ⟨none, _, _, _, _, _⟩) rfl (fun K hK => ?_) AllReadyH.nil
  rw [if_pos (by rfl)]
  refine wp_store_row 27 (.tmp 8) (.tmp 79) rfl p3 (⟨3, thrP (regI x i.a) i.n, regI x i.a, noW, regI x i.b, (regI x i.a).g⟩ : Ac).cs.toArray rfl rfl 27 #[.int .i64 0, .int .i64 0, .int .i64 0, .int .i64 0, .int .i64 0, .int .i64 0, .int .i64 0, .int .i64 0, .int .i64 0, .int .i64 0, .int .i64 0, .int .i64 0, .int .i64 0, .int .i64 0] b3_6 size27 rfl (Ac.onea _) ?_
  refine hK.out _ _ (Kept.next S6 (kept_row _ p3 _) (fun g h => .inl h)) (fun h7 => ?_)
  clear h6 hK K
  have S7 : Kept (fun g => g = p3) wd (w6.setRow p3 (⟨3, thrP (regI x i.a) i.n, regI x i.a, noW, regI x i.b, (regI x i.a).g⟩ : Ac).cs.toArray) := Kept.next S6 (kept_row _ p3 _) (fun g h => .inl h)
  have b3_7 : Blk (w6.setRow p3 (⟨3, thrP (regI x i.a) i.n, regI x i.a, noW, regI x i.b, (regI x i.a).g⟩ : Ac).cs.toArray) p3 27 (⟨3, thrP (regI x i.a) i.n, regI x i.a, noW, regI x i.b, (regI x i.a).g⟩ : Ac).cs.toArray := row_named b3_6 rfl
  have kk_7 := kk_6.trans (row_below (W := (w6.setRow p3 (⟨3, thrP (regI x i.a) i.n, regI x i.a, noW, regI x i.b, (regI x i.a).g⟩ : Ac).cs.toArray)) rfl hp3 kk_6.size)
  try simp only [Act.put]
  refine wpAnyH_done (by kernel_rfl) ?_ _
  refine NoPanic.normal ?_
  go_wp2_with fail
  refine bodyPost_ret (results_cell_row (cs := (⟨3, thrP (regI x i.a) i.n, regI x i.a, noW, regI x i.b, (regI x i.a).g⟩ : Ac).cs.toArray) rfl _ _ p3 27 (0, 0) _ rfl b3_7 Tryd.underlying27 rfl size27) rfl ?_
  exact ⟨rfl, kk_7⟩
set_option maxRecDepth 100000 in
set_option maxHeartbeats 4000000 in
theorem ins_16 (t : Int) (x : Th) (i : Ins) (own : Int) (hop : i.op = 16) (w : World) : Calls Tryd.prog 14 #[.int .i64 t, .agg x.cs.toArray, .agg i.cs.toArray, .int .i64 own] w fun e w' => e = .returned (.agg (actI t x i own).cs.toArray) ∧ Below w.heap.size w w' := by
  have hmf := hmf
  have eA : actI t x i own = ⟨4, thrP (regI x i.a) i.n, regI x i.a, regI x i.b, regI x i.c, (regI x i.a).g⟩ := by unfold actI; simp [hop]
  have t11 : (i.op == 11) = false := by rw [hop]; rfl
  have t12 : (i.op == 12) = false := by rw [hop]; rfl
  have t13 : (i.op == 13) = false := by rw [hop]; rfl
  have t14 : (i.op == 14) = false := by rw [hop]; rfl
  have t15 : (i.op == 15) = false := by rw [hop]; rfl
  have t16 : (i.op == 16) = true := by rw [hop]; rfl
  clear hop
  rw [eA]
  clear eA
  obtain ⟨p1, f1⟩ : ∃ p, w.heap.size = p := ⟨_, rfl⟩
  obtain ⟨W1, ea1⟩ : ∃ W, w.alloc (.cells x.cs.toArray 46) = W := ⟨_, rfl⟩
  have ka1 : Below w.heap.size w W1 := by rw [← ea1]; exact (Below.refl _ w).alloc (Nat.le_refl _) _
  have b1 : Blk W1 p1 46 x.cs.toArray := by rw [← ea1]; exact blk_new w _ 46 _ f1
  have kk : Below w.heap.size w W1 := ka1
  have hp1 : w.heap.size ≤ p1 := Nat.le_of_eq f1
  clear ka1
  obtain ⟨p2, f2⟩ : ∃ p, W1.heap.size = p := ⟨_, rfl⟩
  obtain ⟨W2, ea2⟩ : ∃ W, W1.alloc (.cells i.cs.toArray 35) = W := ⟨_, rfl⟩
  have ka2 : Below W1.heap.size W1 W2 := by rw [← ea2]; exact (Below.refl _ W1).alloc (Nat.le_refl _) _
  have b2 : Blk W2 p2 35 i.cs.toArray := by rw [← ea2]; exact blk_new W1 _ 35 _ f2
  have q1_2 : p1 < p2 := by rw [← f2]; exact b1.lt
  replace b1 := b1.on ka2
  have kk0 := kk
  replace kk := kk.trans (ka2.mono kk.size)
  have hp2 : w.heap.size ≤ p2 := by rw [← f2]; exact kk0.size
  clear ka2 kk0
  obtain ⟨p3, f3⟩ : ∃ p, W2.heap.size = p := ⟨_, rfl⟩
  obtain ⟨W3, ea3⟩ : ∃ W, W2.alloc (.cells #[.int .i64 0, .int .i64 0, .int .i64 0, .int .i64 0, .int .i64 0, .int .i64 0, .int .i64 0, .int .i64 0, .int .i64 0, .int .i64 0, .int .i64 0, .int .i64 0, .int .i64 0, .int .i64 0] 27) = W := ⟨_, rfl⟩
  have ka3 : Below W2.heap.size W2 W3 := by rw [← ea3]; exact (Below.refl _ W2).alloc (Nat.le_refl _) _
  have b3 : Blk W3 p3 27 #[.int .i64 0, .int .i64 0, .int .i64 0, .int .i64 0, .int .i64 0, .int .i64 0, .int .i64 0, .int .i64 0, .int .i64 0, .int .i64 0, .int .i64 0, .int .i64 0, .int .i64 0, .int .i64 0] := by rw [← ea3]; exact blk_new W2 _ 27 _ f3
  have q1_3 : p1 < p3 := by rw [← f3]; exact b1.lt
  replace b1 := b1.on ka3
  have q2_3 : p2 < p3 := by rw [← f3]; exact b2.lt
  replace b2 := b2.on ka3
  have kk0 := kk
  replace kk := kk.trans (ka3.mono kk.size)
  have hp3 : w.heap.size ≤ p3 := by rw [← f3]; exact kk0.size
  clear ka3 kk0
  have c3_2_0 : W3.cell? ⟨p2, 0, none⟩ = some (.int .i64 i.op) := b2.cell 0
  have c3_2_4 : W3.cell? ⟨p2, 4, none⟩ = some (.int .i64 i.n) := b2.cell 4
  have h13 : p1 ≠ p3 := by omega
  have h23 : p2 ≠ p3 := by omega
  go_enter Tryd.func14, Tryd.ntmps14
  go_wp2_with fail
  clear c3_2_0 c3_2_4
  clear f1
  obtain ⟨wd, ed⟩ : ∃ W, W3.drew = W := ⟨_, rfl⟩
  have hd : Below W3.heap.size W3 wd := by rw [← ed]; exact (Below.refl _ _).drew
  replace b1 := b1.on hd
  replace b2 := b2.on hd
  replace b3 := b3.on hd
  replace kk := kk.trans (hd.mono kk.size)
  clear hd
  have kS : Kept (fun g => g = p3) wd wd := Kept.refl _ _
  have tS : ∀ W, Kept (fun g => g = p3) wd W → W.cell? ⟨p2, 1, none⟩ = some (.int .i64 i.a) ∧ W.cell? ⟨p2, 2, none⟩ = some (.int .i64 i.b) ∧ W.cell? ⟨p2, 3, none⟩ = some (.int .i64 i.c) := fun W hW => ⟨(b2.kept hW h23).cell 1, (b2.kept hW h23).cell 2, (b2.kept hW h23).cell 3⟩
  refine wp_region_noPanic ?_
  refine wp_region_held_drew (S := (fun W => Kept (fun g => g = p3) wd W)) (by kernel_rfl) (by rw [ed]; exact kS) (fun hHeld => ?_)
  rw [ed] at hHeld ⊢
  refine wpAnyH_take (i := 0) (oi := ⟨some 82, _, _, _, _, _⟩) (v := ?_) rfl (by kernel_rfl) (by kernel_rfl) (by kernel_rfl) (fun _ _ _ h => h) (Or.inl ⟨by rfl, ?_⟩) (by assumption) ?_
  rotate_left 1
  · (intro W hSw; go_simp <;> with_reducible rfl)
  try simp only [Act.put, List.setIfInBounds_toArray, List.set_cons_zero, List.set_cons_succ]
  refine wpAnyH_take (i := 1) (oi := ⟨some 83, _, _, _, _, _⟩) (v := ?_) rfl (by kernel_rfl) (by kernel_rfl) (by kernel_rfl) (fun _ _ _ h => h) (Or.inl ⟨by rfl, ?_⟩) (by assumption) ?_
  rotate_left 1
  · (intro W hSw; go_simp <;> with_reducible rfl)
  try simp only [Act.put, List.setIfInBounds_toArray, List.set_cons_zero, List.set_cons_succ]
  refine wpAnyH_take (i := 2) (oi := ⟨some 84, _, _, _, _, _⟩) (v := ?_) rfl (by kernel_rfl) (by kernel_rfl) (by kernel_rfl) (fun _ _ _ h => h) (Or.inl ⟨by rfl, ?_⟩) (by assumption) ?_
  rotate_left 1
  · (intro W hSw; obtain ⟨q0, q1, q2⟩ := tS W hSw; go_simp <;> with_reducible rfl)
  try simp only [Act.put, List.setIfInBounds_toArray, List.set_cons_zero, List.set_cons_succ]
  refine wpAnyH_take (i := 4) (oi := ⟨some 86, _, _, _, _, _⟩) (v := ?_) rfl (by kernel_rfl) (by kernel_rfl) (by kernel_rfl) (fun _ _ _ h => h) (Or.inl ⟨by rfl, ?_⟩) (by assumption) ?_
  rotate_left 1
  · (intro W hSw; go_simp <;> with_reducible rfl)
  try simp only [Act.put, List.setIfInBounds_toArray, List.set_cons_zero, List.set_cons_succ]
  refine wpAnyH_take (i := 5) (oi := ⟨some 87, _, _, _, _, _⟩) (v := ?_) rfl (by kernel_rfl) (by kernel_rfl) (by kernel_rfl) (fun _ _ _ h => h) (Or.inl ⟨by rfl, ?_⟩) (by assumption) ?_
  rotate_left 1
  · (intro W hSw; go_simp <;> with_reducible rfl)
  try simp only [Act.put, List.setIfInBounds_toArray, List.set_cons_zero, List.set_cons_succ]
  refine wpAnyH_take (i := 6) (oi := ⟨some 88, _, _, _, _, _⟩) (v := ?_) rfl (by kernel_rfl) (by kernel_rfl) (by kernel_rfl) (fun _ _ _ h => h) (Or.inl ⟨by rfl, ?_⟩) (by assumption) ?_
  rotate_left 1
  · (intro W hSw; obtain ⟨q0, q1, q2⟩ := tS W hSw; go_simp <;> with_reducible rfl)
  try simp only [Act.put, List.setIfInBounds_toArray, List.set_cons_zero, List.set_cons_succ]
  refine wpAnyH_take (i := 8) (oi := ⟨some 90, _, _, _, _, _⟩) (v := ?_) rfl (by kernel_rfl) (by kernel_rfl) (by kernel_rfl) (fun _ _ _ h => h) (Or.inl ⟨by rfl, ?_⟩) (by assumption) ?_
  rotate_left 1
  · (intro W hSw; go_simp <;> with_reducible rfl)
  try simp only [Act.put, List.setIfInBounds_toArray, List.set_cons_zero, List.set_cons_succ]
  refine wpAnyH_take (i := 10) (oi := ⟨some 92, _, _, _, _, _⟩) (v := ?_) rfl (by kernel_rfl) (by kernel_rfl) (by kernel_rfl) (fun _ _ _ h => h) (Or.inl ⟨by rfl, ?_⟩) (by assumption) ?_
  rotate_left 1
  · (intro W hSw; go_simp <;> with_reducible rfl)
  try simp only [Act.put, List.setIfInBounds_toArray, List.set_cons_zero, List.set_cons_succ]
  refine wpAnyH_take (i := 11) (oi := ⟨some 93, _, _, _, _, _⟩) (v := ?_) rfl (by kernel_rfl) (by kernel_rfl) (by kernel_rfl) (fun _ _ _ h => h) (Or.inl ⟨by rfl, ?_⟩) (by assumption) ?_
  rotate_left 1
  · (intro W hSw; go_simp <;> with_reducible rfl)
  try simp only [Act.put, List.setIfInBounds_toArray, List.set_cons_zero, List.set_cons_succ]
  refine wpAnyH_take (i := 12) (oi := ⟨some 94, _, _, _, _, _⟩) (v := ?_) rfl (by kernel_rfl) (by kernel_rfl) (by kernel_rfl) (fun _ _ _ h => h) (Or.inl ⟨by rfl, ?_⟩) (by assumption) ?_
  rotate_left 1
  · (intro W hSw; obtain ⟨q0, q1, q2⟩ := tS W hSw; go_simp <;> with_reducible rfl)
  try simp only [Act.put, List.setIfInBounds_toArray, List.set_cons_zero, List.set_cons_succ]
  refine wpAnyH_take (i := 14) (oi := ⟨some 96, _, _, _, _, _⟩) (v := ?_) rfl (by kernel_rfl) (by kernel_rfl) (by kernel_rfl) (fun _ _ _ h => h) (Or.inl ⟨by rfl, ?_⟩) (by assumption) ?_
  rotate_left 1
  · (intro W hSw; go_simp <;> with_reducible rfl)
  try simp only [Act.put, List.setIfInBounds_toArray, List.set_cons_zero, List.set_cons_succ]
  refine wpAnyH_take (i := 15) (oi := ⟨some 97, _, _, _, _, _⟩) (v := ?_) rfl (by kernel_rfl) (by kernel_rfl) (by kernel_rfl) (fun _ _ _ h => h) (Or.inl ⟨by rfl, ?_⟩) (by assumption) ?_
  rotate_left 1
  · (intro W hSw; go_simp <;> with_reducible rfl)
  try simp only [Act.put, List.setIfInBounds_toArray, List.set_cons_zero, List.set_cons_succ]
  refine wpAnyH_take (i := 16) (oi := ⟨some 98, _, _, _, _, _⟩) (v := ?_) rfl (by kernel_rfl) (by kernel_rfl) (by kernel_rfl) (fun _ _ _ h => h) (Or.inl ⟨by rfl, ?_⟩) (by assumption) ?_
  rotate_left 1
  · (intro W hSw; obtain ⟨q0, q1, q2⟩ := tS W hSw; go_simp <;> with_reducible rfl)
  try simp only [Act.put, List.setIfInBounds_toArray, List.set_cons_zero, List.set_cons_succ]
  refine wpAnyH_ready (rs := [3]) (by kernel_rfl) (by simp) ?_
  refine AllReadyH.cons (o := ⟨some 85, _, _, _, _, _⟩) rfl (fun K hK => ?_) AllReadyH.nil
  go_simp
  refine (word_any b1 i.a).mono ?_
  rintro e w1 ⟨rfl, hb1⟩
  have b1_1 := b1.on hb1
  have b2_1 := b2.on hb1
  have b3_1 := b3.on hb1
  have kk_1 := kk.trans (hb1.mono kk.size)
  have S1 : (fun W => Kept (fun g => g = p3) wd W) w1 := Kept.next kS (kept_below (fun _ => False) hb1) (fun _ h => h.elim)
  refine hK.out _ _ S1 (fun h1 => ?_)
  clear hHeld hK K
  try simp only [Act.put, List.setIfInBounds_toArray, List.set_cons_zero, List.set_cons_succ]
  refine wpAnyH_ready (rs := [7]) (by kernel_rfl) (by simp) ?_
  refine AllReadyH.cons (o := ⟨some 89, _, _, _, _, _⟩) rfl (fun K hK => ?_) AllReadyH.nil
  go_simp
  refine (word_any b1_1 i.a).mono ?_
  rintro e w2 ⟨rfl, hb2⟩
  have b1_2 := b1_1.on hb2
  have b2_2 := b2_1.on hb2
  have b3_2 := b3_1.on hb2
  have kk_2 := kk_1.trans (hb2.mono kk_1.size)
  have S2 : (fun W => Kept (fun g => g = p3) wd W) w2 := Kept.next S1 (kept_below (fun _ => False) hb2) (fun _ h => h.elim)
  refine hK.out _ _ S2 (fun h2 => ?_)
  clear h1 hK K
  try simp only [Act.put, List.setIfInBounds_toArray, List.set_cons_zero, List.set_cons_succ]
  refine wpAnyH_ready (rs := [9]) (by kernel_rfl) (by simp) ?_
  refine AllReadyH.cons (o := ⟨some 91, _, _, _, _, _⟩) rfl (fun K hK => ?_) AllReadyH.nil
  go_simp
  refine (field_any (regI x i.a) i.n w2).mono ?_
  rintro e w3 ⟨rfl, hb3⟩
  have b1_3 := b1_2.on hb3
  have b2_3 := b2_2.on hb3
  have b3_3 := b3_2.on hb3
  have kk_3 := kk_2.trans (hb3.mono kk_2.size)
  have S3 : (fun W => Kept (fun g => g = p3) wd W) w3 := Kept.next S2 (kept_below (fun _ => False) hb3) (fun _ h => h.elim)
  refine hK.out _ _ S3 (fun h3 => ?_)
  clear h2 hK K
  try simp only [Act.put, List.setIfInBounds_toArray, List.set_cons_zero, List.set_cons_succ]
  refine wpAnyH_ready (rs := [13]) (by kernel_rfl) (by simp) ?_
  refine AllReadyH.cons (o := ⟨some 95, _, _, _, _, _⟩) rfl (fun K hK => ?_) AllReadyH.nil
  go_simp
  refine (word_any b1_3 i.b).mono ?_
  rintro e w4 ⟨rfl, hb4⟩
  have b1_4 := b1_3.on hb4
  have b2_4 := b2_3.on hb4
  have b3_4 := b3_3.on hb4
  have kk_4 := kk_3.trans (hb4.mono kk_3.size)
  have S4 : (fun W => Kept (fun g => g = p3) wd W) w4 := Kept.next S3 (kept_below (fun _ => False) hb4) (fun _ h => h.elim)
  refine hK.out _ _ S4 (fun h4 => ?_)
  clear h3 hK K
  try simp only [Act.put, List.setIfInBounds_toArray, List.set_cons_zero, List.set_cons_succ]
  refine wpAnyH_ready (rs := [17]) (by kernel_rfl) (by simp) ?_
  refine AllReadyH.cons (o := ⟨some 99, _, _, _, _, _⟩) rfl (fun K hK => ?_) AllReadyH.nil
  go_simp
  refine (word_any b1_4 i.c).mono ?_
  rintro e w5 ⟨rfl, hb5⟩
  have b1_5 := b1_4.on hb5
  have b2_5 := b2_4.on hb5
  have b3_5 := b3_4.on hb5
  have kk_5 := kk_4.trans (hb5.mono kk_4.size)
  have S5 : (fun W => Kept (fun g => g = p3) wd W) w5 := Kept.next S4 (kept_below (fun _ => False) hb5) (fun _ h => h.elim)
  refine hK.out _ _ S5 (fun h5 => ?_)
  clear h4 hK K
  try simp only [Act.put, List.setIfInBounds_toArray, List.set_cons_zero, List.set_cons_succ]
  refine wpAnyH_ready (rs := [18]) (by kernel_rfl) (by simp) ?_
  refine AllReadyH.cons (o := ⟨some 100, _, _, _, _, _⟩) rfl (fun K hK => ?_) AllReadyH.nil
  go_simp
  refine (swap_any (thrP (regI x i.a) i.n) (regI x i.b) (regI x i.c) w5).mono ?_
  rintro e w6 ⟨rfl, hb6⟩
  have b1_6 := b1_5.on hb6
  have b2_6 := b2_5.on hb6
  have b3_6 := b3_5.on hb6
  have kk_6 := kk_5.trans (hb6.mono kk_5.size)
  have S6 : (fun W => Kept (fun g => g = p3) wd W) w6 := Kept.next S5 (kept_below (fun _ => False) hb6) (fun _ h => h.elim)
  refine hK.out _ _ S6 (fun h6 => ?_)
  clear h5 hK K
  try simp only [Act.put, List.setIfInBounds_toArray, List.set_cons_zero, List.set_cons_succ]
  refine wpAnyH_ready (rs := [19]) (by kernel_rfl) (by simp) ?_
  refine AllReadyH.cons (o := ⟨some 101, _, _, _, _, _⟩) rfl (fun K hK => ?_) AllReadyH.nil
  go_simp
  refine (through_any (regI x i.a) ⟨4, thrP (regI x i.a) i.n, noW, regI x i.b, regI x i.c, 0⟩ w6).mono ?_
  rintro e w7 ⟨rfl, hb7⟩
  have b1_7 := b1_6.on hb7
  have b2_7 := b2_6.on hb7
  have b3_7 := b3_6.on hb7
  have kk_7 := kk_6.trans (hb7.mono kk_6.size)
  have S7 : (fun W => Kept (fun g => g = p3) wd W) w7 := Kept.next S6 (kept_below (fun _ => False) hb7) (fun _ h => h.elim)
  refine hK.out _ _ S7 (fun h7 => ?_)
  clear h6 hK K
  try simp only [Act.put, List.setIfInBounds_toArray, List.set_cons_zero, List.set_cons_succ]
  refine wpAnyH_ready (rs := [20]) (by kernel_rfl) (by simp) ?_
  refine AllReadyH.cons (o := ⟨none, _, _, _, _, _⟩) rfl (fun K hK => ?_) AllReadyH.nil
  rw [if_pos (by rfl)]
  refine wp_store_row 27 (.tmp 8) (.tmp 101) rfl p3 (⟨4, thrP (regI x i.a) i.n, regI x i.a, regI x i.b, regI x i.c, (regI x i.a).g⟩ : Ac).cs.toArray rfl rfl 27 #[.int .i64 0, .int .i64 0, .int .i64 0, .int .i64 0, .int .i64 0, .int .i64 0, .int .i64 0, .int .i64 0, .int .i64 0, .int .i64 0, .int .i64 0, .int .i64 0, .int .i64 0, .int .i64 0] b3_7 size27 rfl (Ac.onea _) ?_
  refine hK.out _ _ (Kept.next S7 (kept_row _ p3 _) (fun g h => .inl h)) (fun h8 => ?_)
  clear h7 hK K
  have S8 : Kept (fun g => g = p3) wd (w7.setRow p3 (⟨4, thrP (regI x i.a) i.n, regI x i.a, regI x i.b, regI x i.c, (regI x i.a).g⟩ : Ac).cs.toArray) := Kept.next S7 (kept_row _ p3 _) (fun g h => .inl h)
  have b3_8 : Blk (w7.setRow p3 (⟨4, thrP (regI x i.a) i.n, regI x i.a, regI x i.b, regI x i.c, (regI x i.a).g⟩ : Ac).cs.toArray) p3 27 (⟨4, thrP (regI x i.a) i.n, regI x i.a, regI x i.b, regI x i.c, (regI x i.a).g⟩ : Ac).cs.toArray := row_named b3_7 rfl
  have kk_8 := kk_7.trans (row_below (W := (w7.setRow p3 (⟨4, thrP (regI x i.a) i.n, regI x i.a, regI x i.b, regI x i.c, (regI x i.a).g⟩ : Ac).cs.toArray)) rfl hp3 kk_7.size)
  try simp only [Act.put]
  refine wpAnyH_done (by kernel_rfl) ?_ _
  refine NoPanic.normal ?_
  go_wp2_with fail
  refine bodyPost_ret (results_cell_row (cs := (⟨4, thrP (regI x i.a) i.n, regI x i.a, regI x i.b, regI x i.c, (regI x i.a).g⟩ : Ac).cs.toArray) rfl _ _ p3 27 (0, 0) _ rfl b3_8 Tryd.underlying27 rfl size27) rfl ?_
  exact ⟨rfl, kk_8⟩
set_option maxRecDepth 100000 in
set_option maxHeartbeats 4000000 in
theorem ins_17 (t : Int) (x : Th) (i : Ins) (own : Int) (hop : i.op = 17) (w : World) : Calls Tryd.prog 14 #[.int .i64 t, .agg x.cs.toArray, .agg i.cs.toArray, .int .i64 own] w fun e w' => e = .returned (.agg (actI t x i own).cs.toArray) ∧ Below w.heap.size w w' := by
  have hmf := hmf
  have eA : actI t x i own = ⟨5, noP, noW, noW, noW, 0⟩ := by unfold actI; simp [hop]
  have t11 : (i.op == 11) = false := by rw [hop]; rfl
  have t12 : (i.op == 12) = false := by rw [hop]; rfl
  have t13 : (i.op == 13) = false := by rw [hop]; rfl
  have t14 : (i.op == 14) = false := by rw [hop]; rfl
  have t15 : (i.op == 15) = false := by rw [hop]; rfl
  have t16 : (i.op == 16) = false := by rw [hop]; rfl
  have t17 : (i.op == 17) = true := by rw [hop]; rfl
  clear hop
  rw [eA]
  clear eA
  obtain ⟨p1, f1⟩ : ∃ p, w.heap.size = p := ⟨_, rfl⟩
  obtain ⟨W1, ea1⟩ : ∃ W, w.alloc (.cells x.cs.toArray 46) = W := ⟨_, rfl⟩
  have ka1 : Below w.heap.size w W1 := by rw [← ea1]; exact (Below.refl _ w).alloc (Nat.le_refl _) _
  have b1 : Blk W1 p1 46 x.cs.toArray := by rw [← ea1]; exact blk_new w _ 46 _ f1
  have kk : Below w.heap.size w W1 := ka1
  have hp1 : w.heap.size ≤ p1 := Nat.le_of_eq f1
  clear ka1
  obtain ⟨p2, f2⟩ : ∃ p, W1.heap.size = p := ⟨_, rfl⟩
  obtain ⟨W2, ea2⟩ : ∃ W, W1.alloc (.cells i.cs.toArray 35) = W := ⟨_, rfl⟩
  have ka2 : Below W1.heap.size W1 W2 := by rw [← ea2]; exact (Below.refl _ W1).alloc (Nat.le_refl _) _
  have b2 : Blk W2 p2 35 i.cs.toArray := by rw [← ea2]; exact blk_new W1 _ 35 _ f2
  have q1_2 : p1 < p2 := by rw [← f2]; exact b1.lt
  replace b1 := b1.on ka2
  have kk0 := kk
  replace kk := kk.trans (ka2.mono kk.size)
  have hp2 : w.heap.size ≤ p2 := by rw [← f2]; exact kk0.size
  clear ka2 kk0
  obtain ⟨p3, f3⟩ : ∃ p, W2.heap.size = p := ⟨_, rfl⟩
  obtain ⟨W3, ea3⟩ : ∃ W, W2.alloc (.cells #[.int .i64 0, .int .i64 0, .int .i64 0, .int .i64 0, .int .i64 0, .int .i64 0, .int .i64 0, .int .i64 0, .int .i64 0, .int .i64 0, .int .i64 0, .int .i64 0, .int .i64 0, .int .i64 0] 27) = W := ⟨_, rfl⟩
  have ka3 : Below W2.heap.size W2 W3 := by rw [← ea3]; exact (Below.refl _ W2).alloc (Nat.le_refl _) _
  have b3 : Blk W3 p3 27 #[.int .i64 0, .int .i64 0, .int .i64 0, .int .i64 0, .int .i64 0, .int .i64 0, .int .i64 0, .int .i64 0, .int .i64 0, .int .i64 0, .int .i64 0, .int .i64 0, .int .i64 0, .int .i64 0] := by rw [← ea3]; exact blk_new W2 _ 27 _ f3
  have q1_3 : p1 < p3 := by rw [← f3]; exact b1.lt
  replace b1 := b1.on ka3
  have q2_3 : p2 < p3 := by rw [← f3]; exact b2.lt
  replace b2 := b2.on ka3
  have kk0 := kk
  replace kk := kk.trans (ka3.mono kk.size)
  have hp3 : w.heap.size ≤ p3 := by rw [← f3]; exact kk0.size
  clear ka3 kk0
  have c3_2_0 : W3.cell? ⟨p2, 0, none⟩ = some (.int .i64 i.op) := b2.cell 0
  have c3_2_4 : W3.cell? ⟨p2, 4, none⟩ = some (.int .i64 i.n) := b2.cell 4
  have h13 : p1 ≠ p3 := by omega
  have h23 : p2 ≠ p3 := by omega
  go_enter Tryd.func14, Tryd.ntmps14
  obtain ⟨W4, es4⟩ : ∃ W, W3.setRow p3 (⟨5, noP, noW, noW, noW, 0⟩ : Ac).cs.toArray = W := ⟨_, rfl⟩
  have bo3 := b3
  replace b1 := row_far b1 es4 (by omega)
  replace b2 := row_far b2 es4 (by omega)
  replace b3 : Blk W4 p3 27 (⟨5, noP, noW, noW, noW, 0⟩ : Ac).cs.toArray := row_named b3 es4
  replace kk := kk.trans (row_below es4 hp3 kk.size)
  go_wp2_with (((with_reducible refine at_store 27 (.tmp 8) (.tmp 104) ?_); refine wpList_store_row rfl 27 (.tmp 8) (.tmp 104) rfl p3 (⟨5, noP, noW, noW, noW, 0⟩ : Ac).cs.toArray rfl rfl 27 #[.int .i64 0, .int .i64 0, .int .i64 0, .int .i64 0, .int .i64 0, .int .i64 0, .int .i64 0, .int .i64 0, .int .i64 0, .int .i64 0, .int .i64 0, .int .i64 0, .int .i64 0, .int .i64 0] bo3 size27 rfl (Ac.onea _) ?_; rw [es4]))
  refine bodyPost_ret (results_cell_row (cs := (⟨5, noP, noW, noW, noW, 0⟩ : Ac).cs.toArray) rfl _ _ p3 27 (0, 0) _ rfl b3 Tryd.underlying27 rfl size27) rfl ?_
  exact ⟨rfl, kk⟩
set_option maxRecDepth 100000 in
set_option maxHeartbeats 4000000 in
theorem ins_18 (t : Int) (x : Th) (i : Ins) (own : Int) (hop : i.op = 18) (w : World) : Calls Tryd.prog 14 #[.int .i64 t, .agg x.cs.toArray, .agg i.cs.toArray, .int .i64 own] w fun e w' => e = .returned (.agg (actI t x i own).cs.toArray) ∧ Below w.heap.size w w' := by
  have hmf := hmf
  have eA : actI t x i own = ⟨6, noP, noW, noW, noW, 0⟩ := by unfold actI; simp [hop]
  have t11 : (i.op == 11) = false := by rw [hop]; rfl
  have t12 : (i.op == 12) = false := by rw [hop]; rfl
  have t13 : (i.op == 13) = false := by rw [hop]; rfl
  have t14 : (i.op == 14) = false := by rw [hop]; rfl
  have t15 : (i.op == 15) = false := by rw [hop]; rfl
  have t16 : (i.op == 16) = false := by rw [hop]; rfl
  have t17 : (i.op == 17) = false := by rw [hop]; rfl
  have t18 : (i.op == 18) = true := by rw [hop]; rfl
  clear hop
  rw [eA]
  clear eA
  obtain ⟨p1, f1⟩ : ∃ p, w.heap.size = p := ⟨_, rfl⟩
  obtain ⟨W1, ea1⟩ : ∃ W, w.alloc (.cells x.cs.toArray 46) = W := ⟨_, rfl⟩
  have ka1 : Below w.heap.size w W1 := by rw [← ea1]; exact (Below.refl _ w).alloc (Nat.le_refl _) _
  have b1 : Blk W1 p1 46 x.cs.toArray := by rw [← ea1]; exact blk_new w _ 46 _ f1
  have kk : Below w.heap.size w W1 := ka1
  have hp1 : w.heap.size ≤ p1 := Nat.le_of_eq f1
  clear ka1
  obtain ⟨p2, f2⟩ : ∃ p, W1.heap.size = p := ⟨_, rfl⟩
  obtain ⟨W2, ea2⟩ : ∃ W, W1.alloc (.cells i.cs.toArray 35) = W := ⟨_, rfl⟩
  have ka2 : Below W1.heap.size W1 W2 := by rw [← ea2]; exact (Below.refl _ W1).alloc (Nat.le_refl _) _
  have b2 : Blk W2 p2 35 i.cs.toArray := by rw [← ea2]; exact blk_new W1 _ 35 _ f2
  have q1_2 : p1 < p2 := by rw [← f2]; exact b1.lt
  replace b1 := b1.on ka2
  have kk0 := kk
  replace kk := kk.trans (ka2.mono kk.size)
  have hp2 : w.heap.size ≤ p2 := by rw [← f2]; exact kk0.size
  clear ka2 kk0
  obtain ⟨p3, f3⟩ : ∃ p, W2.heap.size = p := ⟨_, rfl⟩
  obtain ⟨W3, ea3⟩ : ∃ W, W2.alloc (.cells #[.int .i64 0, .int .i64 0, .int .i64 0, .int .i64 0, .int .i64 0, .int .i64 0, .int .i64 0, .int .i64 0, .int .i64 0, .int .i64 0, .int .i64 0, .int .i64 0, .int .i64 0, .int .i64 0] 27) = W := ⟨_, rfl⟩
  have ka3 : Below W2.heap.size W2 W3 := by rw [← ea3]; exact (Below.refl _ W2).alloc (Nat.le_refl _) _
  have b3 : Blk W3 p3 27 #[.int .i64 0, .int .i64 0, .int .i64 0, .int .i64 0, .int .i64 0, .int .i64 0, .int .i64 0, .int .i64 0, .int .i64 0, .int .i64 0, .int .i64 0, .int .i64 0, .int .i64 0, .int .i64 0] := by rw [← ea3]; exact blk_new W2 _ 27 _ f3
  have q1_3 : p1 < p3 := by rw [← f3]; exact b1.lt
  replace b1 := b1.on ka3
  have q2_3 : p2 < p3 := by rw [← f3]; exact b2.lt
  replace b2 := b2.on ka3
  have kk0 := kk
  replace kk := kk.trans (ka3.mono kk.size)
  have hp3 : w.heap.size ≤ p3 := by rw [← f3]; exact kk0.size
  clear ka3 kk0
  have c3_2_0 : W3.cell? ⟨p2, 0, none⟩ = some (.int .i64 i.op) := b2.cell 0
  have c3_2_4 : W3.cell? ⟨p2, 4, none⟩ = some (.int .i64 i.n) := b2.cell 4
  have h13 : p1 ≠ p3 := by omega
  have h23 : p2 ≠ p3 := by omega
  go_enter Tryd.func14, Tryd.ntmps14
  obtain ⟨W4, es4⟩ : ∃ W, W3.setRow p3 (⟨6, noP, noW, noW, noW, 0⟩ : Ac).cs.toArray = W := ⟨_, rfl⟩
  have bo3 := b3
  replace b1 := row_far b1 es4 (by omega)
  replace b2 := row_far b2 es4 (by omega)
  replace b3 : Blk W4 p3 27 (⟨6, noP, noW, noW, noW, 0⟩ : Ac).cs.toArray := row_named b3 es4
  replace kk := kk.trans (row_below es4 hp3 kk.size)
  go_wp2_with (((with_reducible refine at_store 27 (.tmp 8) (.tmp 107) ?_); refine wpList_store_row rfl 27 (.tmp 8) (.tmp 107) rfl p3 (⟨6, noP, noW, noW, noW, 0⟩ : Ac).cs.toArray rfl rfl 27 #[.int .i64 0, .int .i64 0, .int .i64 0, .int .i64 0, .int .i64 0, .int .i64 0, .int .i64 0, .int .i64 0, .int .i64 0, .int .i64 0, .int .i64 0, .int .i64 0, .int .i64 0, .int .i64 0] bo3 size27 rfl (Ac.onea _) ?_; rw [es4]))
  refine bodyPost_ret (results_cell_row (cs := (⟨6, noP, noW, noW, noW, 0⟩ : Ac).cs.toArray) rfl _ _ p3 27 (0, 0) _ rfl b3 Tryd.underlying27 rfl size27) rfl ?_
  exact ⟨rfl, kk⟩
set_option maxRecDepth 100000 in
set_option maxHeartbeats 4000000 in
theorem ins_19 (t : Int) (x : Th) (i : Ins) (own : Int) (hop : i.op = 19) (w : World) : Calls Tryd.prog 14 #[.int .i64 t, .agg x.cs.toArray, .agg i.cs.toArray, .int .i64 own] w fun e w' => e = .returned (.agg (actI t x i own).cs.toArray) ∧ Below w.heap.size w w' := by
  have hmf := hmf
  have eA : actI t x i own = ⟨7, noP, regI x i.a, noW, noW, 0⟩ := by unfold actI; simp [hop]
  have t11 : (i.op == 11) = false := by rw [hop]; rfl
  have t12 : (i.op == 12) = false := by rw [hop]; rfl
  have t13 : (i.op == 13) = false := by rw [hop]; rfl
  have t14 : (i.op == 14) = false := by rw [hop]; rfl
  have t15 : (i.op == 15) = false := by rw [hop]; rfl
  have t16 : (i.op == 16) = false := by rw [hop]; rfl
  have t17 : (i.op == 17) = false := by rw [hop]; rfl
  have t18 : (i.op == 18) = false := by rw [hop]; rfl
  have t19 : (i.op == 19) = true := by rw [hop]; rfl
  clear hop
  rw [eA]
  clear eA
  obtain ⟨⟨u0, u1, u2⟩, eu⟩ : ∃ u, regI x i.a = u := ⟨_, rfl⟩
  rw [eu]
  show Calls Tryd.prog 14 #[.int .i64 t, .agg x.cs.toArray, .agg i.cs.toArray, .int .i64 own] w fun e w' => e = .returned (.agg #[.int .i64 7, .int .i64 0, .int .i64 0, .int .i64 0, .int .i64 u0, .int .i64 u1, .int .i64 u2, .int .i64 0, .int .i64 0, .int .i64 0, .int .i64 0, .int .i64 0, .int .i64 0, .int .i64 0]) ∧ Below w.heap.size w w'
  obtain ⟨p1, f1⟩ : ∃ p, w.heap.size = p := ⟨_, rfl⟩
  obtain ⟨W1, ea1⟩ : ∃ W, w.alloc (.cells x.cs.toArray 46) = W := ⟨_, rfl⟩
  have ka1 : Below w.heap.size w W1 := by rw [← ea1]; exact (Below.refl _ w).alloc (Nat.le_refl _) _
  have b1 : Blk W1 p1 46 x.cs.toArray := by rw [← ea1]; exact blk_new w _ 46 _ f1
  have kk : Below w.heap.size w W1 := ka1
  have hp1 : w.heap.size ≤ p1 := Nat.le_of_eq f1
  clear ka1
  obtain ⟨p2, f2⟩ : ∃ p, W1.heap.size = p := ⟨_, rfl⟩
  obtain ⟨W2, ea2⟩ : ∃ W, W1.alloc (.cells i.cs.toArray 35) = W := ⟨_, rfl⟩
  have ka2 : Below W1.heap.size W1 W2 := by rw [← ea2]; exact (Below.refl _ W1).alloc (Nat.le_refl _) _
  have b2 : Blk W2 p2 35 i.cs.toArray := by rw [← ea2]; exact blk_new W1 _ 35 _ f2
  have q1_2 : p1 < p2 := by rw [← f2]; exact b1.lt
  replace b1 := b1.on ka2
  have kk0 := kk
  replace kk := kk.trans (ka2.mono kk.size)
  have hp2 : w.heap.size ≤ p2 := by rw [← f2]; exact kk0.size
  clear ka2 kk0
  obtain ⟨p3, f3⟩ : ∃ p, W2.heap.size = p := ⟨_, rfl⟩
  obtain ⟨W3, ea3⟩ : ∃ W, W2.alloc (.cells #[.int .i64 0, .int .i64 0, .int .i64 0, .int .i64 0, .int .i64 0, .int .i64 0, .int .i64 0, .int .i64 0, .int .i64 0, .int .i64 0, .int .i64 0, .int .i64 0, .int .i64 0, .int .i64 0] 27) = W := ⟨_, rfl⟩
  have ka3 : Below W2.heap.size W2 W3 := by rw [← ea3]; exact (Below.refl _ W2).alloc (Nat.le_refl _) _
  have b3 : Blk W3 p3 27 #[.int .i64 0, .int .i64 0, .int .i64 0, .int .i64 0, .int .i64 0, .int .i64 0, .int .i64 0, .int .i64 0, .int .i64 0, .int .i64 0, .int .i64 0, .int .i64 0, .int .i64 0, .int .i64 0] := by rw [← ea3]; exact blk_new W2 _ 27 _ f3
  have q1_3 : p1 < p3 := by rw [← f3]; exact b1.lt
  replace b1 := b1.on ka3
  have q2_3 : p2 < p3 := by rw [← f3]; exact b2.lt
  replace b2 := b2.on ka3
  have kk0 := kk
  replace kk := kk.trans (ka3.mono kk.size)
  have hp3 : w.heap.size ≤ p3 := by rw [← f3]; exact kk0.size
  clear ka3 kk0
  have c3_2_0 : W3.cell? ⟨p2, 0, none⟩ = some (.int .i64 i.op) := b2.cell 0
  have c3_2_4 : W3.cell? ⟨p2, 4, none⟩ = some (.int .i64 i.n) := b2.cell 4
  have h13 : p1 ≠ p3 := by omega
  have h23 : p2 ≠ p3 := by omega
  have dA : ∀ W (b : Blk W p1 46 x.cs.toArray), Calls Tryd.prog 23 #[.int .i64 i.a, .pointer (some ⟨p1, 0, none⟩)] W fun e w' => e = .returned (.agg #[.int .i64 u0, .int .i64 u1, .int .i64 u2]) ∧ Below W.heap.size W w' := fun W b => by have := word_any b i.a; rw [eu] at this; exact this
  clear eu
  have c3_2_1 : W3.cell? ⟨p2, 1, none⟩ = some (.int .i64 i.a) := b2.cell 1
  go_enter Tryd.func14, Tryd.ntmps14
  go_wp2_with fail
  refine (dA _ b1).mono ?_
  rintro e W4 ⟨rfl, k1⟩
  clear c3_2_0 c3_2_4 c3_2_1
  replace b1 := b1.on k1
  replace b2 := b2.on k1
  replace b3 := b3.on k1
  replace kk := kk.trans (k1.mono kk.size)
  clear k1
  obtain ⟨W5, es5⟩ : ∃ W, W4.setRow p3 #[.int .i64 7, .int .i64 0, .int .i64 0, .int .i64 0, .int .i64 u0, .int .i64 u1, .int .i64 u2, .int .i64 0, .int .i64 0, .int .i64 0, .int .i64 0, .int .i64 0, .int .i64 0, .int .i64 0] = W := ⟨_, rfl⟩
  have bo3 := b3
  replace b1 := row_far b1 es5 (by omega)
  replace b2 := row_far b2 es5 (by omega)
  replace b3 : Blk W5 p3 27 #[.int .i64 7, .int .i64 0, .int .i64 0, .int .i64 0, .int .i64 u0, .int .i64 u1, .int .i64 u2, .int .i64 0, .int .i64 0, .int .i64 0, .int .i64 0, .int .i64 0, .int .i64 0, .int .i64 0] := row_named b3 es5
  replace kk := kk.trans (row_below es5 hp3 kk.size)
  go_wp2_with (((with_reducible refine at_store 27 (.tmp 8) (.tmp 114) ?_); refine wpList_store_row rfl 27 (.tmp 8) (.tmp 114) rfl p3 #[.int .i64 7, .int .i64 0, .int .i64 0, .int .i64 0, .int .i64 u0, .int .i64 u1, .int .i64 u2, .int .i64 0, .int .i64 0, .int .i64 0, .int .i64 0, .int .i64 0, .int .i64 0, .int .i64 0] rfl rfl 27 #[.int .i64 0, .int .i64 0, .int .i64 0, .int .i64 0, .int .i64 0, .int .i64 0, .int .i64 0, .int .i64 0, .int .i64 0, .int .i64 0, .int .i64 0, .int .i64 0, .int .i64 0, .int .i64 0] bo3 size27 rfl (by simp [Value.oneCell']) ?_; rw [es5]))
  refine bodyPost_ret (results_cell_row (cs := #[.int .i64 7, .int .i64 0, .int .i64 0, .int .i64 0, .int .i64 u0, .int .i64 u1, .int .i64 u2, .int .i64 0, .int .i64 0, .int .i64 0, .int .i64 0, .int .i64 0, .int .i64 0, .int .i64 0]) rfl _ _ p3 27 (0, 0) _ rfl b3 Tryd.underlying27 rfl size27) rfl ?_
  exact ⟨rfl, kk⟩
set_option maxRecDepth 100000 in
set_option maxHeartbeats 4000000 in
theorem ins_20 (t : Int) (x : Th) (i : Ins) (own : Int) (hop : i.op = 20) (w : World) : Calls Tryd.prog 14 #[.int .i64 t, .agg x.cs.toArray, .agg i.cs.toArray, .int .i64 own] w fun e w' => e = .returned (.agg (actI t x i own).cs.toArray) ∧ Below w.heap.size w w' := by
  have hmf := hmf
  have eA : actI t x i own = ⟨8, noP, regI x i.a, noW, noW, 0⟩ := by unfold actI; simp [hop]
  have t11 : (i.op == 11) = false := by rw [hop]; rfl
  have t12 : (i.op == 12) = false := by rw [hop]; rfl
  have t13 : (i.op == 13) = false := by rw [hop]; rfl
  have t14 : (i.op == 14) = false := by rw [hop]; rfl
  have t15 : (i.op == 15) = false := by rw [hop]; rfl
  have t16 : (i.op == 16) = false := by rw [hop]; rfl
  have t17 : (i.op == 17) = false := by rw [hop]; rfl
  have t18 : (i.op == 18) = false := by rw [hop]; rfl
  have t19 : (i.op == 19) = false := by rw [hop]; rfl
  have t20 : (i.op == 20) = true := by rw [hop]; rfl
  clear hop
  rw [eA]
  clear eA
  obtain ⟨⟨u0, u1, u2⟩, eu⟩ : ∃ u, regI x i.a = u := ⟨_, rfl⟩
  rw [eu]
  show Calls Tryd.prog 14 #[.int .i64 t, .agg x.cs.toArray, .agg i.cs.toArray, .int .i64 own] w fun e w' => e = .returned (.agg #[.int .i64 8, .int .i64 0, .int .i64 0, .int .i64 0, .int .i64 u0, .int .i64 u1, .int .i64 u2, .int .i64 0, .int .i64 0, .int .i64 0, .int .i64 0, .int .i64 0, .int .i64 0, .int .i64 0]) ∧ Below w.heap.size w w'
  obtain ⟨p1, f1⟩ : ∃ p, w.heap.size = p := ⟨_, rfl⟩
  obtain ⟨W1, ea1⟩ : ∃ W, w.alloc (.cells x.cs.toArray 46) = W := ⟨_, rfl⟩
  have ka1 : Below w.heap.size w W1 := by rw [← ea1]; exact (Below.refl _ w).alloc (Nat.le_refl _) _
  have b1 : Blk W1 p1 46 x.cs.toArray := by rw [← ea1]; exact blk_new w _ 46 _ f1
  have kk : Below w.heap.size w W1 := ka1
  have hp1 : w.heap.size ≤ p1 := Nat.le_of_eq f1
  clear ka1
  obtain ⟨p2, f2⟩ : ∃ p, W1.heap.size = p := ⟨_, rfl⟩
  obtain ⟨W2, ea2⟩ : ∃ W, W1.alloc (.cells i.cs.toArray 35) = W := ⟨_, rfl⟩
  have ka2 : Below W1.heap.size W1 W2 := by rw [← ea2]; exact (Below.refl _ W1).alloc (Nat.le_refl _) _
  have b2 : Blk W2 p2 35 i.cs.toArray := by rw [← ea2]; exact blk_new W1 _ 35 _ f2
  have q1_2 : p1 < p2 := by rw [← f2]; exact b1.lt
  replace b1 := b1.on ka2
  have kk0 := kk
  replace kk := kk.trans (ka2.mono kk.size)
  have hp2 : w.heap.size ≤ p2 := by rw [← f2]; exact kk0.size
  clear ka2 kk0
  obtain ⟨p3, f3⟩ : ∃ p, W2.heap.size = p := ⟨_, rfl⟩
  obtain ⟨W3, ea3⟩ : ∃ W, W2.alloc (.cells #[.int .i64 0, .int .i64 0, .int .i64 0, .int .i64 0, .int .i64 0, .int .i64 0, .int .i64 0, .int .i64 0, .int .i64 0, .int .i64 0, .int .i64 0, .int .i64 0, .int .i64 0, .int .i64 0] 27) = W := ⟨_, rfl⟩
  have ka3 : Below W2.heap.size W2 W3 := by rw [← ea3]; exact (Below.refl _ W2).alloc (Nat.le_refl _) _
  have b3 : Blk W3 p3 27 #[.int .i64 0, .int .i64 0, .int .i64 0, .int .i64 0, .int .i64 0, .int .i64 0, .int .i64 0, .int .i64 0, .int .i64 0, .int .i64 0, .int .i64 0, .int .i64 0, .int .i64 0, .int .i64 0] := by rw [← ea3]; exact blk_new W2 _ 27 _ f3
  have q1_3 : p1 < p3 := by rw [← f3]; exact b1.lt
  replace b1 := b1.on ka3
  have q2_3 : p2 < p3 := by rw [← f3]; exact b2.lt
  replace b2 := b2.on ka3
  have kk0 := kk
  replace kk := kk.trans (ka3.mono kk.size)
  have hp3 : w.heap.size ≤ p3 := by rw [← f3]; exact kk0.size
  clear ka3 kk0
  have c3_2_0 : W3.cell? ⟨p2, 0, none⟩ = some (.int .i64 i.op) := b2.cell 0
  have c3_2_4 : W3.cell? ⟨p2, 4, none⟩ = some (.int .i64 i.n) := b2.cell 4
  have h13 : p1 ≠ p3 := by omega
  have h23 : p2 ≠ p3 := by omega
  have dA : ∀ W (b : Blk W p1 46 x.cs.toArray), Calls Tryd.prog 23 #[.int .i64 i.a, .pointer (some ⟨p1, 0, none⟩)] W fun e w' => e = .returned (.agg #[.int .i64 u0, .int .i64 u1, .int .i64 u2]) ∧ Below W.heap.size W w' := fun W b => by have := word_any b i.a; rw [eu] at this; exact this
  clear eu
  have c3_2_1 : W3.cell? ⟨p2, 1, none⟩ = some (.int .i64 i.a) := b2.cell 1
  go_enter Tryd.func14, Tryd.ntmps14
  go_wp2_with fail
  refine (dA _ b1).mono ?_
  rintro e W4 ⟨rfl, k1⟩
  clear c3_2_0 c3_2_4 c3_2_1
  replace b1 := b1.on k1
  replace b2 := b2.on k1
  replace b3 := b3.on k1
  replace kk := kk.trans (k1.mono kk.size)
  clear k1
  obtain ⟨W5, es5⟩ : ∃ W, W4.setRow p3 #[.int .i64 8, .int .i64 0, .int .i64 0, .int .i64 0, .int .i64 u0, .int .i64 u1, .int .i64 u2, .int .i64 0, .int .i64 0, .int .i64 0, .int .i64 0, .int .i64 0, .int .i64 0, .int .i64 0] = W := ⟨_, rfl⟩
  have bo3 := b3
  replace b1 := row_far b1 es5 (by omega)
  replace b2 := row_far b2 es5 (by omega)
  replace b3 : Blk W5 p3 27 #[.int .i64 8, .int .i64 0, .int .i64 0, .int .i64 0, .int .i64 u0, .int .i64 u1, .int .i64 u2, .int .i64 0, .int .i64 0, .int .i64 0, .int .i64 0, .int .i64 0, .int .i64 0, .int .i64 0] := row_named b3 es5
  replace kk := kk.trans (row_below es5 hp3 kk.size)
  go_wp2_with (((with_reducible refine at_store 27 (.tmp 8) (.tmp 121) ?_); refine wpList_store_row rfl 27 (.tmp 8) (.tmp 121) rfl p3 #[.int .i64 8, .int .i64 0, .int .i64 0, .int .i64 0, .int .i64 u0, .int .i64 u1, .int .i64 u2, .int .i64 0, .int .i64 0, .int .i64 0, .int .i64 0, .int .i64 0, .int .i64 0, .int .i64 0] rfl rfl 27 #[.int .i64 0, .int .i64 0, .int .i64 0, .int .i64 0, .int .i64 0, .int .i64 0, .int .i64 0, .int .i64 0, .int .i64 0, .int .i64 0, .int .i64 0, .int .i64 0, .int .i64 0, .int .i64 0] bo3 size27 rfl (by simp [Value.oneCell']) ?_; rw [es5]))
  refine bodyPost_ret (results_cell_row (cs := #[.int .i64 8, .int .i64 0, .int .i64 0, .int .i64 0, .int .i64 u0, .int .i64 u1, .int .i64 u2, .int .i64 0, .int .i64 0, .int .i64 0, .int .i64 0, .int .i64 0, .int .i64 0, .int .i64 0]) rfl _ _ p3 27 (0, 0) _ rfl b3 Tryd.underlying27 rfl size27) rfl ?_
  exact ⟨rfl, kk⟩
set_option maxRecDepth 100000 in
set_option maxHeartbeats 4000000 in
theorem ins_21 (t : Int) (x : Th) (i : Ins) (own : Int) (hop : i.op = 21) (w : World) : Calls Tryd.prog 14 #[.int .i64 t, .agg x.cs.toArray, .agg i.cs.toArray, .int .i64 own] w fun e w' => e = .returned (.agg (actI t x i own).cs.toArray) ∧ Below w.heap.size w w' := by
  have hmf := hmf
  have eA : actI t x i own = ⟨3, ⟨5, t, i.n⟩, noW, noW, regI x i.a, 0⟩ := by unfold actI; simp [hop]
  have t11 : (i.op == 11) = false := by rw [hop]; rfl
  have t12 : (i.op == 12) = false := by rw [hop]; rfl
  have t13 : (i.op == 13) = false := by rw [hop]; rfl
  have t14 : (i.op == 14) = false := by rw [hop]; rfl
  have t15 : (i.op == 15) = false := by rw [hop]; rfl
  have t16 : (i.op == 16) = false := by rw [hop]; rfl
  have t17 : (i.op == 17) = false := by rw [hop]; rfl
  have t18 : (i.op == 18) = false := by rw [hop]; rfl
  have t19 : (i.op == 19) = false := by rw [hop]; rfl
  have t20 : (i.op == 20) = false := by rw [hop]; rfl
  have t21 : (i.op == 21) = true := by rw [hop]; rfl
  clear hop
  rw [eA]
  clear eA
  obtain ⟨p1, f1⟩ : ∃ p, w.heap.size = p := ⟨_, rfl⟩
  obtain ⟨W1, ea1⟩ : ∃ W, w.alloc (.cells x.cs.toArray 46) = W := ⟨_, rfl⟩
  have ka1 : Below w.heap.size w W1 := by rw [← ea1]; exact (Below.refl _ w).alloc (Nat.le_refl _) _
  have b1 : Blk W1 p1 46 x.cs.toArray := by rw [← ea1]; exact blk_new w _ 46 _ f1
  have kk : Below w.heap.size w W1 := ka1
  have hp1 : w.heap.size ≤ p1 := Nat.le_of_eq f1
  clear ka1
  obtain ⟨p2, f2⟩ : ∃ p, W1.heap.size = p := ⟨_, rfl⟩
  obtain ⟨W2, ea2⟩ : ∃ W, W1.alloc (.cells i.cs.toArray 35) = W := ⟨_, rfl⟩
  have ka2 : Below W1.heap.size W1 W2 := by rw [← ea2]; exact (Below.refl _ W1).alloc (Nat.le_refl _) _
  have b2 : Blk W2 p2 35 i.cs.toArray := by rw [← ea2]; exact blk_new W1 _ 35 _ f2
  have q1_2 : p1 < p2 := by rw [← f2]; exact b1.lt
  replace b1 := b1.on ka2
  have kk0 := kk
  replace kk := kk.trans (ka2.mono kk.size)
  have hp2 : w.heap.size ≤ p2 := by rw [← f2]; exact kk0.size
  clear ka2 kk0
  obtain ⟨p3, f3⟩ : ∃ p, W2.heap.size = p := ⟨_, rfl⟩
  obtain ⟨W3, ea3⟩ : ∃ W, W2.alloc (.cells #[.int .i64 0, .int .i64 0, .int .i64 0, .int .i64 0, .int .i64 0, .int .i64 0, .int .i64 0, .int .i64 0, .int .i64 0, .int .i64 0, .int .i64 0, .int .i64 0, .int .i64 0, .int .i64 0] 27) = W := ⟨_, rfl⟩
  have ka3 : Below W2.heap.size W2 W3 := by rw [← ea3]; exact (Below.refl _ W2).alloc (Nat.le_refl _) _
  have b3 : Blk W3 p3 27 #[.int .i64 0, .int .i64 0, .int .i64 0, .int .i64 0, .int .i64 0, .int .i64 0, .int .i64 0, .int .i64 0, .int .i64 0, .int .i64 0, .int .i64 0, .int .i64 0, .int .i64 0, .int .i64 0] := by rw [← ea3]; exact blk_new W2 _ 27 _ f3
  have q1_3 : p1 < p3 := by rw [← f3]; exact b1.lt
  replace b1 := b1.on ka3
  have q2_3 : p2 < p3 := by rw [← f3]; exact b2.lt
  replace b2 := b2.on ka3
  have kk0 := kk
  replace kk := kk.trans (ka3.mono kk.size)
  have hp3 : w.heap.size ≤ p3 := by rw [← f3]; exact kk0.size
  clear ka3 kk0
  have c3_2_0 : W3.cell? ⟨p2, 0, none⟩ = some (.int .i64 i.op) := b2.cell 0
  have c3_2_4 : W3.cell? ⟨p2, 4, none⟩ = some (.int .i64 i.n) := b2.cell 4
  have h13 : p1 ≠ p3 := by omega
  have h23 : p2 ≠ p3 := by omega
  go_enter Tryd.func14, Tryd.ntmps14
  go_wp2_with fail
  clear c3_2_0 c3_2_4
  clear f1
  obtain ⟨wd, ed⟩ : ∃ W, W3.drew = W := ⟨_, rfl⟩
  have hd : Below W3.heap.size W3 wd := by rw [← ed]; exact (Below.refl _ _).drew
  replace b1 := b1.on hd
  replace b2 := b2.on hd
  replace b3 := b3.on hd
  replace kk := kk.trans (hd.mono kk.size)
  clear hd
  have kS : Kept (fun g => g = p3) wd wd := Kept.refl _ _
  have tS : ∀ W, Kept (fun g => g = p3) wd W → W.cell? ⟨p2, 1, none⟩ = some (.int .i64 i.a) := fun W hW => (b2.kept hW h23).cell 1
  refine wp_region_noPanic ?_
  refine wp_region_held_drew (S := (fun W => Kept (fun g => g = p3) wd W)) (by kernel_rfl) (by rw [ed]; exact kS) (fun hHeld => ?_)
  rw [ed] at hHeld ⊢
  refine wpAnyH_take (i := 0) (oi := ⟨some 124, _, _, _, _, _⟩) (v := ?_) rfl (by kernel_rfl) (by kernel_rfl) (by kernel_rfl) (fun _ _ _ h => h) (Or.inl ⟨by rfl, ?_⟩) (by assumption) ?_
  rotate_left 1
  · (intro W hSw; go_simp <;> with_reducible rfl)
  try simp only [Act.put, List.setIfInBounds_toArray, List.set_cons_zero, List.set_cons_succ]
  refine wpAnyH_take (i := 1) (oi := ⟨some 125, _, _, _, _, _⟩) (v := ?_) rfl (by kernel_rfl) (by kernel_rfl) (by kernel_rfl) (fun _ _ _ h => h) (Or.inl ⟨by rfl, ?_⟩) (by assumption) ?_
  rotate_left 1
  · (intro W hSw; go_simp <;> with_reducible rfl)
  try simp only [Act.put, List.setIfInBounds_toArray, List.set_cons_zero, List.set_cons_succ]
  refine wpAnyH_take (i := 4) (oi := ⟨some 128, _, _, _, _, _⟩) (v := ?_) rfl (by kernel_rfl) (by kernel_rfl) (by kernel_rfl) (fun _ _ _ h => h) (Or.inl ⟨by rfl, ?_⟩) (by assumption) ?_
  rotate_left 1
  · (intro W hSw; go_simp <;> with_reducible rfl)
  try simp only [Act.put, List.setIfInBounds_toArray, List.set_cons_zero, List.set_cons_succ]
  refine wpAnyH_take (i := 5) (oi := ⟨some 129, _, _, _, _, _⟩) (v := ?_) rfl (by kernel_rfl) (by kernel_rfl) (by kernel_rfl) (fun _ _ _ h => h) (Or.inl ⟨by rfl, ?_⟩) (by assumption) ?_
  rotate_left 1
  · (intro W hSw; go_simp <;> with_reducible rfl)
  try simp only [Act.put, List.setIfInBounds_toArray, List.set_cons_zero, List.set_cons_succ]
  refine wpAnyH_take (i := 6) (oi := ⟨some 130, _, _, _, _, _⟩) (v := ?_) rfl (by kernel_rfl) (by kernel_rfl) (by kernel_rfl) (fun _ _ _ h => h) (Or.inl ⟨by rfl, ?_⟩) (by assumption) ?_
  rotate_left 1
  · (intro W hSw; obtain q0 := tS W hSw; go_simp <;> with_reducible rfl)
  try simp only [Act.put, List.setIfInBounds_toArray, List.set_cons_zero, List.set_cons_succ]
  refine wpAnyH_ready (rs := [2]) (by kernel_rfl) (by simp) ?_
  refine AllReadyH.cons (o := ⟨some 126, _, _, _, _, _⟩) rfl (fun K hK => ?_) AllReadyH.nil
  go_simp
  obtain ⟨w1, ew1⟩ : ∃ zz, zz = wd.alloc (.cells #[.int .i64 t, .int .i64 i.n] 3) := ⟨_, rfl⟩
  have hb1 : Below wd.heap.size wd w1 := by rw [ew1]; exact (Below.refl _ _).alloc (Nat.le_refl _) _
  rw [← ew1]
  have ba1 : Blk w1 wd.heap.size 3 #[.int .i64 t, .int .i64 i.n] := by rw [ew1]; exact heap_alloc_new _ _
  have b1_1 := b1.on hb1
  have b2_1 := b2.on hb1
  have b3_1 := b3.on hb1
  have kk_1 := kk.trans (hb1.mono kk.size)
  have S1 : (fun W => Kept (fun g => g = p3) wd W) w1 := Kept.next kS (kept_below (fun _ => False) hb1) (fun _ h => h.elim)
  refine hK.out _ _ S1 (fun h1 => ?_)
  clear hHeld hK K ew1
  try simp only [Act.put, List.setIfInBounds_toArray, List.set_cons_zero, List.set_cons_succ]
  refine wpAnyH_ready (rs := [3]) (by kernel_rfl) (by simp) ?_
  refine AllReadyH.cons (o := ⟨some 127, _, _, _, _, _⟩) rfl (fun K hK => ?_) AllReadyH.nil
  go_simp
  refine (at2_any 5 t i.n w1 ba1).mono ?_
  rintro e w2 ⟨rfl, hb2⟩
  have b1_2 := b1_1.on hb2
  have b2_2 := b2_1.on hb2
  have b3_2 := b3_1.on hb2
  have kk_2 := kk_1.trans (hb2.mono kk_1.size)
  have ba_2 := ba1.on hb2
  have S2 : (fun W => Kept (fun g => g = p3) wd W) w2 := Kept.next S1 (kept_below (fun _ => False) hb2) (fun _ h => h.elim)
  refine hK.out _ _ S2 (fun h2 => ?_)
  clear h1 hK K
  try simp only [Act.put, List.setIfInBounds_toArray, List.set_cons_zero, List.set_cons_succ]
  refine wpAnyH_ready (rs := [7]) (by kernel_rfl) (by simp) ?_
  refine AllReadyH.cons (o := ⟨some 131, _, _, _, _, _⟩) rfl (fun K hK => ?_) AllReadyH.nil
  go_simp
  refine (word_any b1_2 i.a).mono ?_
  rintro e w3 ⟨rfl, hb3⟩
  have b1_3 := b1_2.on hb3
  have b2_3 := b2_2.on hb3
  have b3_3 := b3_2.on hb3
  have kk_3 := kk_2.trans (hb3.mono kk_2.size)
  have ba_3 := ba_2.on hb3
  have S3 : (fun W => Kept (fun g => g = p3) wd W) w3 := Kept.next S2 (kept_below (fun _ => False) hb3) (fun _ h => h.elim)
  refine hK.out _ _ S3 (fun h3 => ?_)
  clear h2 hK K
  try simp only [Act.put, List.setIfInBounds_toArray, List.set_cons_zero, List.set_cons_succ]
  refine wpAnyH_ready (rs := [8]) (by kernel_rfl) (by simp) ?_
  refine AllReadyH.cons (o := ⟨some 132, _, _, _, _, _⟩) rfl (fun K hK => ?_) AllReadyH.nil
  go_simp
  refine (write_any ⟨5, t, i.n⟩ (regI x i.a) w3).mono ?_
  rintro e w4 ⟨rfl, hb4⟩
  have b1_4 := b1_3.on hb4
  have b2_4 := b2_3.on hb4
  have b3_4 := b3_3.on hb4
  have kk_4 := kk_3.trans (hb4.mono kk_3.size)
  have ba_4 := ba_3.on hb4
  have S4 : (fun W => Kept (fun g => g = p3) wd W) w4 := Kept.next S3 (kept_below (fun _ => False) hb4) (fun _ h => h.elim)
  refine hK.out _ _ S4 (fun h4 => ?_)
  clear h3 hK K
  try simp only [Act.put, List.setIfInBounds_toArray, List.set_cons_zero, List.set_cons_succ]
  refine wpAnyH_ready (rs := [9]) (by kernel_rfl) (by simp) ?_
  refine AllReadyH.cons (o := ⟨none, _, _, _, _, _⟩) rfl (fun K hK => ?_) AllReadyH.nil
  rw [if_pos (by rfl)]
  refine wp_store_row 27 (.tmp 8) (.tmp 132) rfl p3 (⟨3, ⟨5, t, i.n⟩, noW, noW, regI x i.a, 0⟩ : Ac).cs.toArray rfl rfl 27 #[.int .i64 0, .int .i64 0, .int .i64 0, .int .i64 0, .int .i64 0, .int .i64 0, .int .i64 0, .int .i64 0, .int .i64 0, .int .i64 0, .int .i64 0, .int .i64 0, .int .i64 0, .int .i64 0] b3_4 size27 rfl (Ac.onea _) ?_
  refine hK.out _ _ (Kept.next S4 (kept_row _ p3 _) (fun g h => .inl h)) (fun h5 => ?_)
  clear h4 hK K
  have S5 : Kept (fun g => g = p3) wd (w4.setRow p3 (⟨3, ⟨5, t, i.n⟩, noW, noW, regI x i.a, 0⟩ : Ac).cs.toArray) := Kept.next S4 (kept_row _ p3 _) (fun g h => .inl h)
  have b3_5 : Blk (w4.setRow p3 (⟨3, ⟨5, t, i.n⟩, noW, noW, regI x i.a, 0⟩ : Ac).cs.toArray) p3 27 (⟨3, ⟨5, t, i.n⟩, noW, noW, regI x i.a, 0⟩ : Ac).cs.toArray := row_named b3_4 rfl
  have kk_5 := kk_4.trans (row_below (W := (w4.setRow p3 (⟨3, ⟨5, t, i.n⟩, noW, noW, regI x i.a, 0⟩ : Ac).cs.toArray)) rfl hp3 kk_4.size)
  try simp only [Act.put]
  refine wpAnyH_done (by kernel_rfl) ?_ _
  refine NoPanic.normal ?_
  go_wp2_with fail
  refine bodyPost_ret (results_cell_row (cs := (⟨3, ⟨5, t, i.n⟩, noW, noW, regI x i.a, 0⟩ : Ac).cs.toArray) rfl _ _ p3 27 (0, 0) _ rfl b3_5 Tryd.underlying27 rfl size27) rfl ?_
  exact ⟨rfl, kk_5⟩
set_option maxRecDepth 100000 in
set_option maxHeartbeats 4000000 in
theorem ins_22 (t : Int) (x : Th) (i : Ins) (own : Int) (hop : i.op = 22) (w : World) : Calls Tryd.prog 14 #[.int .i64 t, .agg x.cs.toArray, .agg i.cs.toArray, .int .i64 own] w fun e w' => e = .returned (.agg (actI t x i own).cs.toArray) ∧ Below w.heap.size w w' := by
  have hmf := hmf
  have eA : actI t x i own = ⟨3, ⟨5, t, i.n⟩, noW, noW, noW, 0⟩ := by unfold actI; simp [hop]
  have t11 : (i.op == 11) = false := by rw [hop]; rfl
  have t12 : (i.op == 12) = false := by rw [hop]; rfl
  have t13 : (i.op == 13) = false := by rw [hop]; rfl
  have t14 : (i.op == 14) = false := by rw [hop]; rfl
  have t15 : (i.op == 15) = false := by rw [hop]; rfl
  have t16 : (i.op == 16) = false := by rw [hop]; rfl
  have t17 : (i.op == 17) = false := by rw [hop]; rfl
  have t18 : (i.op == 18) = false := by rw [hop]; rfl
  have t19 : (i.op == 19) = false := by rw [hop]; rfl
  have t20 : (i.op == 20) = false := by rw [hop]; rfl
  have t21 : (i.op == 21) = false := by rw [hop]; rfl
  have t22 : (i.op == 22) = true := by rw [hop]; rfl
  clear hop
  rw [eA]
  clear eA
  obtain ⟨p1, f1⟩ : ∃ p, w.heap.size = p := ⟨_, rfl⟩
  obtain ⟨W1, ea1⟩ : ∃ W, w.alloc (.cells x.cs.toArray 46) = W := ⟨_, rfl⟩
  have ka1 : Below w.heap.size w W1 := by rw [← ea1]; exact (Below.refl _ w).alloc (Nat.le_refl _) _
  have b1 : Blk W1 p1 46 x.cs.toArray := by rw [← ea1]; exact blk_new w _ 46 _ f1
  have kk : Below w.heap.size w W1 := ka1
  have hp1 : w.heap.size ≤ p1 := Nat.le_of_eq f1
  clear ka1
  obtain ⟨p2, f2⟩ : ∃ p, W1.heap.size = p := ⟨_, rfl⟩
  obtain ⟨W2, ea2⟩ : ∃ W, W1.alloc (.cells i.cs.toArray 35) = W := ⟨_, rfl⟩
  have ka2 : Below W1.heap.size W1 W2 := by rw [← ea2]; exact (Below.refl _ W1).alloc (Nat.le_refl _) _
  have b2 : Blk W2 p2 35 i.cs.toArray := by rw [← ea2]; exact blk_new W1 _ 35 _ f2
  have q1_2 : p1 < p2 := by rw [← f2]; exact b1.lt
  replace b1 := b1.on ka2
  have kk0 := kk
  replace kk := kk.trans (ka2.mono kk.size)
  have hp2 : w.heap.size ≤ p2 := by rw [← f2]; exact kk0.size
  clear ka2 kk0
  obtain ⟨p3, f3⟩ : ∃ p, W2.heap.size = p := ⟨_, rfl⟩
  obtain ⟨W3, ea3⟩ : ∃ W, W2.alloc (.cells #[.int .i64 0, .int .i64 0, .int .i64 0, .int .i64 0, .int .i64 0, .int .i64 0, .int .i64 0, .int .i64 0, .int .i64 0, .int .i64 0, .int .i64 0, .int .i64 0, .int .i64 0, .int .i64 0] 27) = W := ⟨_, rfl⟩
  have ka3 : Below W2.heap.size W2 W3 := by rw [← ea3]; exact (Below.refl _ W2).alloc (Nat.le_refl _) _
  have b3 : Blk W3 p3 27 #[.int .i64 0, .int .i64 0, .int .i64 0, .int .i64 0, .int .i64 0, .int .i64 0, .int .i64 0, .int .i64 0, .int .i64 0, .int .i64 0, .int .i64 0, .int .i64 0, .int .i64 0, .int .i64 0] := by rw [← ea3]; exact blk_new W2 _ 27 _ f3
  have q1_3 : p1 < p3 := by rw [← f3]; exact b1.lt
  replace b1 := b1.on ka3
  have q2_3 : p2 < p3 := by rw [← f3]; exact b2.lt
  replace b2 := b2.on ka3
  have kk0 := kk
  replace kk := kk.trans (ka3.mono kk.size)
  have hp3 : w.heap.size ≤ p3 := by rw [← f3]; exact kk0.size
  clear ka3 kk0
  have c3_2_0 : W3.cell? ⟨p2, 0, none⟩ = some (.int .i64 i.op) := b2.cell 0
  have c3_2_4 : W3.cell? ⟨p2, 4, none⟩ = some (.int .i64 i.n) := b2.cell 4
  have h13 : p1 ≠ p3 := by omega
  have h23 : p2 ≠ p3 := by omega
  obtain ⟨p4, f4⟩ : ∃ p, W3.heap.size = p := ⟨_, rfl⟩
  obtain ⟨W4, ea4⟩ : ∃ W, W3.alloc (.cells #[.int .i64 t, .int .i64 i.n] 3) = W := ⟨_, rfl⟩
  have ka4 : Below W3.heap.size W3 W4 := by rw [← ea4]; exact (Below.refl _ W3).alloc (Nat.le_refl _) _
  have b4 : Blk W4 p4 3 #[.int .i64 t, .int .i64 i.n] := by rw [← ea4]; exact blk_new W3 _ 3 _ f4
  have q1_4 : p1 < p4 := by rw [← f4]; exact b1.lt
  replace b1 := b1.on ka4
  have q2_4 : p2 < p4 := by rw [← f4]; exact b2.lt
  replace b2 := b2.on ka4
  have q3_4 : p3 < p4 := by rw [← f4]; exact b3.lt
  replace b3 := b3.on ka4
  have kk0 := kk
  replace kk := kk.trans (ka4.mono kk.size)
  have hp4 : w.heap.size ≤ p4 := by rw [← f4]; exact kk0.size
  clear ka4 kk0
  go_enter Tryd.func14, Tryd.ntmps14
  go_wp2_with fail
  refine (at2_any 5 t i.n _ b4).mono ?_
  rintro e W5 ⟨rfl, k1⟩
  clear c3_2_0 c3_2_4
  replace b1 := b1.on k1
  replace b2 := b2.on k1
  replace b3 := b3.on k1
  replace b4 := b4.on k1
  replace kk := kk.trans (k1.mono kk.size)
  clear k1
  go_wp2_with fail
  refine (plain_any 0 _).mono ?_
  rintro e W6 ⟨rfl, k1⟩
  replace b1 := b1.on k1
  replace b2 := b2.on k1
  replace b3 := b3.on k1
  replace b4 := b4.on k1
  replace kk := kk.trans (k1.mono kk.size)
  clear k1
  go_wp2_with fail
  refine (write_any ⟨5, t, i.n⟩ ⟨0, 0, 0⟩ _).mono ?_
  rintro e W7 ⟨rfl, k1⟩
  replace b1 := b1.on k1
  replace b2 := b2.on k1
  replace b3 := b3.on k1
  replace b4 := b4.on k1
  replace kk := kk.trans (k1.mono kk.size)
  clear k1
  obtain ⟨W8, es8⟩ : ∃ W, W7.setRow p3 (⟨3, ⟨5, t, i.n⟩, noW, noW, noW, 0⟩ : Ac).cs.toArray = W := ⟨_, rfl⟩
  have bo3 := b3
  replace b1 := row_far b1 es8 (by omega)
  replace b2 := row_far b2 es8 (by omega)
  replace b4 := row_far b4 es8 (by omega)
  replace b3 : Blk W8 p3 27 (⟨3, ⟨5, t, i.n⟩, noW, noW, noW, 0⟩ : Ac).cs.toArray := row_named b3 es8
  replace kk := kk.trans (row_below es8 hp3 kk.size)
  go_wp2_with (((with_reducible refine at_store 27 (.tmp 8) (.tmp 140) ?_); refine wpList_store_row rfl 27 (.tmp 8) (.tmp 140) rfl p3 (⟨3, ⟨5, t, i.n⟩, noW, noW, noW, 0⟩ : Ac).cs.toArray rfl rfl 27 #[.int .i64 0, .int .i64 0, .int .i64 0, .int .i64 0, .int .i64 0, .int .i64 0, .int .i64 0, .int .i64 0, .int .i64 0, .int .i64 0, .int .i64 0, .int .i64 0, .int .i64 0, .int .i64 0] bo3 size27 rfl (Ac.onea _) ?_; rw [es8]))
  refine bodyPost_ret (results_cell_row (cs := (⟨3, ⟨5, t, i.n⟩, noW, noW, noW, 0⟩ : Ac).cs.toArray) rfl _ _ p3 27 (0, 0) _ rfl b3 Tryd.underlying27 rfl size27) rfl ?_
  exact ⟨rfl, kk⟩
set_option maxRecDepth 100000 in
set_option maxHeartbeats 4000000 in
theorem ins_23 (t : Int) (x : Th) (i : Ins) (own : Int) (hop : i.op = 23) (w : World) : Calls Tryd.prog 14 #[.int .i64 t, .agg x.cs.toArray, .agg i.cs.toArray, .int .i64 own] w fun e w' => e = .returned (.agg (actI t x i own).cs.toArray) ∧ Below w.heap.size w w' := by
  have hmf := hmf
  have eA : actI t x i own = ⟨2, ⟨6, 0, 0⟩, noW, noW, noW, 0⟩ := by unfold actI; simp [hop]
  have t11 : (i.op == 11) = false := by rw [hop]; rfl
  have t12 : (i.op == 12) = false := by rw [hop]; rfl
  have t13 : (i.op == 13) = false := by rw [hop]; rfl
  have t14 : (i.op == 14) = false := by rw [hop]; rfl
  have t15 : (i.op == 15) = false := by rw [hop]; rfl
  have t16 : (i.op == 16) = false := by rw [hop]; rfl
  have t17 : (i.op == 17) = false := by rw [hop]; rfl
  have t18 : (i.op == 18) = false := by rw [hop]; rfl
  have t19 : (i.op == 19) = false := by rw [hop]; rfl
  have t20 : (i.op == 20) = false := by rw [hop]; rfl
  have t21 : (i.op == 21) = false := by rw [hop]; rfl
  have t22 : (i.op == 22) = false := by rw [hop]; rfl
  have t23 : (i.op == 23) = true := by rw [hop]; rfl
  clear hop
  rw [eA]
  clear eA
  obtain ⟨p1, f1⟩ : ∃ p, w.heap.size = p := ⟨_, rfl⟩
  obtain ⟨W1, ea1⟩ : ∃ W, w.alloc (.cells x.cs.toArray 46) = W := ⟨_, rfl⟩
  have ka1 : Below w.heap.size w W1 := by rw [← ea1]; exact (Below.refl _ w).alloc (Nat.le_refl _) _
  have b1 : Blk W1 p1 46 x.cs.toArray := by rw [← ea1]; exact blk_new w _ 46 _ f1
  have kk : Below w.heap.size w W1 := ka1
  have hp1 : w.heap.size ≤ p1 := Nat.le_of_eq f1
  clear ka1
  obtain ⟨p2, f2⟩ : ∃ p, W1.heap.size = p := ⟨_, rfl⟩
  obtain ⟨W2, ea2⟩ : ∃ W, W1.alloc (.cells i.cs.toArray 35) = W := ⟨_, rfl⟩
  have ka2 : Below W1.heap.size W1 W2 := by rw [← ea2]; exact (Below.refl _ W1).alloc (Nat.le_refl _) _
  have b2 : Blk W2 p2 35 i.cs.toArray := by rw [← ea2]; exact blk_new W1 _ 35 _ f2
  have q1_2 : p1 < p2 := by rw [← f2]; exact b1.lt
  replace b1 := b1.on ka2
  have kk0 := kk
  replace kk := kk.trans (ka2.mono kk.size)
  have hp2 : w.heap.size ≤ p2 := by rw [← f2]; exact kk0.size
  clear ka2 kk0
  obtain ⟨p3, f3⟩ : ∃ p, W2.heap.size = p := ⟨_, rfl⟩
  obtain ⟨W3, ea3⟩ : ∃ W, W2.alloc (.cells #[.int .i64 0, .int .i64 0, .int .i64 0, .int .i64 0, .int .i64 0, .int .i64 0, .int .i64 0, .int .i64 0, .int .i64 0, .int .i64 0, .int .i64 0, .int .i64 0, .int .i64 0, .int .i64 0] 27) = W := ⟨_, rfl⟩
  have ka3 : Below W2.heap.size W2 W3 := by rw [← ea3]; exact (Below.refl _ W2).alloc (Nat.le_refl _) _
  have b3 : Blk W3 p3 27 #[.int .i64 0, .int .i64 0, .int .i64 0, .int .i64 0, .int .i64 0, .int .i64 0, .int .i64 0, .int .i64 0, .int .i64 0, .int .i64 0, .int .i64 0, .int .i64 0, .int .i64 0, .int .i64 0] := by rw [← ea3]; exact blk_new W2 _ 27 _ f3
  have q1_3 : p1 < p3 := by rw [← f3]; exact b1.lt
  replace b1 := b1.on ka3
  have q2_3 : p2 < p3 := by rw [← f3]; exact b2.lt
  replace b2 := b2.on ka3
  have kk0 := kk
  replace kk := kk.trans (ka3.mono kk.size)
  have hp3 : w.heap.size ≤ p3 := by rw [← f3]; exact kk0.size
  clear ka3 kk0
  have c3_2_0 : W3.cell? ⟨p2, 0, none⟩ = some (.int .i64 i.op) := b2.cell 0
  have c3_2_4 : W3.cell? ⟨p2, 4, none⟩ = some (.int .i64 i.n) := b2.cell 4
  have h13 : p1 ≠ p3 := by omega
  have h23 : p2 ≠ p3 := by omega
  go_enter Tryd.func14, Tryd.ntmps14
  go_wp2_with fail
  refine (at0_any 6 _).mono ?_
  rintro e W4 ⟨rfl, k1⟩
  clear c3_2_0 c3_2_4
  replace b1 := b1.on k1
  replace b2 := b2.on k1
  replace b3 := b3.on k1
  replace kk := kk.trans (k1.mono kk.size)
  clear k1
  go_wp2_with fail
  refine (read_any ⟨6, 0, 0⟩ _).mono ?_
  rintro e W5 ⟨rfl, k1⟩
  replace b1 := b1.on k1
  replace b2 := b2.on k1
  replace b3 := b3.on k1
  replace kk := kk.trans (k1.mono kk.size)
  clear k1
  obtain ⟨W6, es6⟩ : ∃ W, W5.setRow p3 (⟨2, ⟨6, 0, 0⟩, noW, noW, noW, 0⟩ : Ac).cs.toArray = W := ⟨_, rfl⟩
  have bo3 := b3
  replace b1 := row_far b1 es6 (by omega)
  replace b2 := row_far b2 es6 (by omega)
  replace b3 : Blk W6 p3 27 (⟨2, ⟨6, 0, 0⟩, noW, noW, noW, 0⟩ : Ac).cs.toArray := row_named b3 es6
  replace kk := kk.trans (row_below es6 hp3 kk.size)
  go_wp2_with (((with_reducible refine at_store 27 (.tmp 8) (.tmp 144) ?_); refine wpList_store_row rfl 27 (.tmp 8) (.tmp 144) rfl p3 (⟨2, ⟨6, 0, 0⟩, noW, noW, noW, 0⟩ : Ac).cs.toArray rfl rfl 27 #[.int .i64 0, .int .i64 0, .int .i64 0, .int .i64 0, .int .i64 0, .int .i64 0, .int .i64 0, .int .i64 0, .int .i64 0, .int .i64 0, .int .i64 0, .int .i64 0, .int .i64 0, .int .i64 0] bo3 size27 rfl (Ac.onea _) ?_; rw [es6]))
  refine bodyPost_ret (results_cell_row (cs := (⟨2, ⟨6, 0, 0⟩, noW, noW, noW, 0⟩ : Ac).cs.toArray) rfl _ _ p3 27 (0, 0) _ rfl b3 Tryd.underlying27 rfl size27) rfl ?_
  exact ⟨rfl, kk⟩
set_option maxRecDepth 100000 in
set_option maxHeartbeats 4000000 in
theorem ins_24 (t : Int) (x : Th) (i : Ins) (own : Int) (hop : i.op = 24) (w : World) : Calls Tryd.prog 14 #[.int .i64 t, .agg x.cs.toArray, .agg i.cs.toArray, .int .i64 own] w fun e w' => e = .returned (.agg (actI t x i own).cs.toArray) ∧ Below w.heap.size w w' := by
  have hmf := hmf
  have eA : actI t x i own = ⟨3, ⟨7, t, 0⟩, noW, noW, noW, 0⟩ := by unfold actI; simp [hop]
  have t11 : (i.op == 11) = false := by rw [hop]; rfl
  have t12 : (i.op == 12) = false := by rw [hop]; rfl
  have t13 : (i.op == 13) = false := by rw [hop]; rfl
  have t14 : (i.op == 14) = false := by rw [hop]; rfl
  have t15 : (i.op == 15) = false := by rw [hop]; rfl
  have t16 : (i.op == 16) = false := by rw [hop]; rfl
  have t17 : (i.op == 17) = false := by rw [hop]; rfl
  have t18 : (i.op == 18) = false := by rw [hop]; rfl
  have t19 : (i.op == 19) = false := by rw [hop]; rfl
  have t20 : (i.op == 20) = false := by rw [hop]; rfl
  have t21 : (i.op == 21) = false := by rw [hop]; rfl
  have t22 : (i.op == 22) = false := by rw [hop]; rfl
  have t23 : (i.op == 23) = false := by rw [hop]; rfl
  have t24 : (i.op == 24) = true := by rw [hop]; rfl
  clear hop
  rw [eA]
  clear eA
  obtain ⟨p1, f1⟩ : ∃ p, w.heap.size = p := ⟨_, rfl⟩
  obtain ⟨W1, ea1⟩ : ∃ W, w.alloc (.cells x.cs.toArray 46) = W := ⟨_, rfl⟩
  have ka1 : Below w.heap.size w W1 := by rw [← ea1]; exact (Below.refl _ w).alloc (Nat.le_refl _) _
  have b1 : Blk W1 p1 46 x.cs.toArray := by rw [← ea1]; exact blk_new w _ 46 _ f1
  have kk : Below w.heap.size w W1 := ka1
  have hp1 : w.heap.size ≤ p1 := Nat.le_of_eq f1
  clear ka1
  obtain ⟨p2, f2⟩ : ∃ p, W1.heap.size = p := ⟨_, rfl⟩
  obtain ⟨W2, ea2⟩ : ∃ W, W1.alloc (.cells i.cs.toArray 35) = W := ⟨_, rfl⟩
  have ka2 : Below W1.heap.size W1 W2 := by rw [← ea2]; exact (Below.refl _ W1).alloc (Nat.le_refl _) _
  have b2 : Blk W2 p2 35 i.cs.toArray := by rw [← ea2]; exact blk_new W1 _ 35 _ f2
  have q1_2 : p1 < p2 := by rw [← f2]; exact b1.lt
  replace b1 := b1.on ka2
  have kk0 := kk
  replace kk := kk.trans (ka2.mono kk.size)
  have hp2 : w.heap.size ≤ p2 := by rw [← f2]; exact kk0.size
  clear ka2 kk0
  obtain ⟨p3, f3⟩ : ∃ p, W2.heap.size = p := ⟨_, rfl⟩
  obtain ⟨W3, ea3⟩ : ∃ W, W2.alloc (.cells #[.int .i64 0, .int .i64 0, .int .i64 0, .int .i64 0, .int .i64 0, .int .i64 0, .int .i64 0, .int .i64 0, .int .i64 0, .int .i64 0, .int .i64 0, .int .i64 0, .int .i64 0, .int .i64 0] 27) = W := ⟨_, rfl⟩
  have ka3 : Below W2.heap.size W2 W3 := by rw [← ea3]; exact (Below.refl _ W2).alloc (Nat.le_refl _) _
  have b3 : Blk W3 p3 27 #[.int .i64 0, .int .i64 0, .int .i64 0, .int .i64 0, .int .i64 0, .int .i64 0, .int .i64 0, .int .i64 0, .int .i64 0, .int .i64 0, .int .i64 0, .int .i64 0, .int .i64 0, .int .i64 0] := by rw [← ea3]; exact blk_new W2 _ 27 _ f3
  have q1_3 : p1 < p3 := by rw [← f3]; exact b1.lt
  replace b1 := b1.on ka3
  have q2_3 : p2 < p3 := by rw [← f3]; exact b2.lt
  replace b2 := b2.on ka3
  have kk0 := kk
  replace kk := kk.trans (ka3.mono kk.size)
  have hp3 : w.heap.size ≤ p3 := by rw [← f3]; exact kk0.size
  clear ka3 kk0
  have c3_2_0 : W3.cell? ⟨p2, 0, none⟩ = some (.int .i64 i.op) := b2.cell 0
  have c3_2_4 : W3.cell? ⟨p2, 4, none⟩ = some (.int .i64 i.n) := b2.cell 4
  have h13 : p1 ≠ p3 := by omega
  have h23 : p2 ≠ p3 := by omega
  obtain ⟨p4, f4⟩ : ∃ p, W3.heap.size = p := ⟨_, rfl⟩
  obtain ⟨W4, ea4⟩ : ∃ W, W3.alloc (.cells #[.int .i64 t] 3) = W := ⟨_, rfl⟩
  have ka4 : Below W3.heap.size W3 W4 := by rw [← ea4]; exact (Below.refl _ W3).alloc (Nat.le_refl _) _
  have b4 : Blk W4 p4 3 #[.int .i64 t] := by rw [← ea4]; exact blk_new W3 _ 3 _ f4
  have q1_4 : p1 < p4 := by rw [← f4]; exact b1.lt
  replace b1 := b1.on ka4
  have q2_4 : p2 < p4 := by rw [← f4]; exact b2.lt
  replace b2 := b2.on ka4
  have q3_4 : p3 < p4 := by rw [← f4]; exact b3.lt
  replace b3 := b3.on ka4
  have kk0 := kk
  replace kk := kk.trans (ka4.mono kk.size)
  have hp4 : w.heap.size ≤ p4 := by rw [← f4]; exact kk0.size
  clear ka4 kk0
  go_enter Tryd.func14, Tryd.ntmps14
  go_wp2_with fail
  refine (at1_any 7 t _ b4).mono ?_
  rintro e W5 ⟨rfl, k1⟩
  clear c3_2_0 c3_2_4
  replace b1 := b1.on k1
  replace b2 := b2.on k1
  replace b3 := b3.on k1
  replace b4 := b4.on k1
  replace kk := kk.trans (k1.mono kk.size)
  clear k1
  go_wp2_with fail
  refine (plain_any 0 _).mono ?_
  rintro e W6 ⟨rfl, k1⟩
  replace b1 := b1.on k1
  replace b2 := b2.on k1
  replace b3 := b3.on k1
  replace b4 := b4.on k1
  replace kk := kk.trans (k1.mono kk.size)
  clear k1
  go_wp2_with fail
  refine (write_any ⟨7, t, 0⟩ ⟨0, 0, 0⟩ _).mono ?_
  rintro e W7 ⟨rfl, k1⟩
  replace b1 := b1.on k1
  replace b2 := b2.on k1
  replace b3 := b3.on k1
  replace b4 := b4.on k1
  replace kk := kk.trans (k1.mono kk.size)
  clear k1
  obtain ⟨W8, es8⟩ : ∃ W, W7.setRow p3 (⟨3, ⟨7, t, 0⟩, noW, noW, noW, 0⟩ : Ac).cs.toArray = W := ⟨_, rfl⟩
  have bo3 := b3
  replace b1 := row_far b1 es8 (by omega)
  replace b2 := row_far b2 es8 (by omega)
  replace b4 := row_far b4 es8 (by omega)
  replace b3 : Blk W8 p3 27 (⟨3, ⟨7, t, 0⟩, noW, noW, noW, 0⟩ : Ac).cs.toArray := row_named b3 es8
  replace kk := kk.trans (row_below es8 hp3 kk.size)
  go_wp2_with (((with_reducible refine at_store 27 (.tmp 8) (.tmp 151) ?_); refine wpList_store_row rfl 27 (.tmp 8) (.tmp 151) rfl p3 (⟨3, ⟨7, t, 0⟩, noW, noW, noW, 0⟩ : Ac).cs.toArray rfl rfl 27 #[.int .i64 0, .int .i64 0, .int .i64 0, .int .i64 0, .int .i64 0, .int .i64 0, .int .i64 0, .int .i64 0, .int .i64 0, .int .i64 0, .int .i64 0, .int .i64 0, .int .i64 0, .int .i64 0] bo3 size27 rfl (Ac.onea _) ?_; rw [es8]))
  refine bodyPost_ret (results_cell_row (cs := (⟨3, ⟨7, t, 0⟩, noW, noW, noW, 0⟩ : Ac).cs.toArray) rfl _ _ p3 27 (0, 0) _ rfl b3 Tryd.underlying27 rfl size27) rfl ?_
  exact ⟨rfl, kk⟩
set_option maxRecDepth 100000 in
set_option maxHeartbeats 4000000 in
theorem ins_25 (t : Int) (x : Th) (i : Ins) (own : Int) (hop : i.op = 25) (w : World) : Calls Tryd.prog 14 #[.int .i64 t, .agg x.cs.toArray, .agg i.cs.toArray, .int .i64 own] w fun e w' => e = .returned (.agg (actI t x i own).cs.toArray) ∧ Below w.heap.size w w' := by
  have hmf := hmf
  have eA : actI t x i own = ⟨3, ⟨8, t, 0⟩, noW, noW, ⟨wrap64 (own + 1), 0, 0⟩, 0⟩ := by unfold actI; simp [hop]
  have t11 : (i.op == 11) = false := by rw [hop]; rfl
  have t12 : (i.op == 12) = false := by rw [hop]; rfl
  have t13 : (i.op == 13) = false := by rw [hop]; rfl
  have t14 : (i.op == 14) = false := by rw [hop]; rfl
  have t15 : (i.op == 15) = false := by rw [hop]; rfl
  have t16 : (i.op == 16) = false := by rw [hop]; rfl
  have t17 : (i.op == 17) = false := by rw [hop]; rfl
  have t18 : (i.op == 18) = false := by rw [hop]; rfl
  have t19 : (i.op == 19) = false := by rw [hop]; rfl
  have t20 : (i.op == 20) = false := by rw [hop]; rfl
  have t21 : (i.op == 21) = false := by rw [hop]; rfl
  have t22 : (i.op == 22) = false := by rw [hop]; rfl
  have t23 : (i.op == 23) = false := by rw [hop]; rfl
  have t24 : (i.op == 24) = false := by rw [hop]; rfl
  have t25 : (i.op == 25) = true := by rw [hop]; rfl
  clear hop
  rw [eA]
  clear eA
  obtain ⟨p1, f1⟩ : ∃ p, w.heap.size = p := ⟨_, rfl⟩
  obtain ⟨W1, ea1⟩ : ∃ W, w.alloc (.cells x.cs.toArray 46) = W := ⟨_, rfl⟩
  have ka1 : Below w.heap.size w W1 := by rw [← ea1]; exact (Below.refl _ w).alloc (Nat.le_refl _) _
  have b1 : Blk W1 p1 46 x.cs.toArray := by rw [← ea1]; exact blk_new w _ 46 _ f1
  have kk : Below w.heap.size w W1 := ka1
  have hp1 : w.heap.size ≤ p1 := Nat.le_of_eq f1
  clear ka1
  obtain ⟨p2, f2⟩ : ∃ p, W1.heap.size = p := ⟨_, rfl⟩
  obtain ⟨W2, ea2⟩ : ∃ W, W1.alloc (.cells i.cs.toArray 35) = W := ⟨_, rfl⟩
  have ka2 : Below W1.heap.size W1 W2 := by rw [← ea2]; exact (Below.refl _ W1).alloc (Nat.le_refl _) _
  have b2 : Blk W2 p2 35 i.cs.toArray := by rw [← ea2]; exact blk_new W1 _ 35 _ f2
  have q1_2 : p1 < p2 := by rw [← f2]; exact b1.lt
  replace b1 := b1.on ka2
  have kk0 := kk
  replace kk := kk.trans (ka2.mono kk.size)
  have hp2 : w.heap.size ≤ p2 := by rw [← f2]; exact kk0.size
  clear ka2 kk0
  obtain ⟨p3, f3⟩ : ∃ p, W2.heap.size = p := ⟨_, rfl⟩
  obtain ⟨W3, ea3⟩ : ∃ W, W2.alloc (.cells #[.int .i64 0, .int .i64 0, .int .i64 0, .int .i64 0, .int .i64 0, .int .i64 0, .int .i64 0, .int .i64 0, .int .i64 0, .int .i64 0, .int .i64 0, .int .i64 0, .int .i64 0, .int .i64 0] 27) = W := ⟨_, rfl⟩
  have ka3 : Below W2.heap.size W2 W3 := by rw [← ea3]; exact (Below.refl _ W2).alloc (Nat.le_refl _) _
  have b3 : Blk W3 p3 27 #[.int .i64 0, .int .i64 0, .int .i64 0, .int .i64 0, .int .i64 0, .int .i64 0, .int .i64 0, .int .i64 0, .int .i64 0, .int .i64 0, .int .i64 0, .int .i64 0, .int .i64 0, .int .i64 0] := by rw [← ea3]; exact blk_new W2 _ 27 _ f3
  have q1_3 : p1 < p3 := by rw [← f3]; exact b1.lt
  replace b1 := b1.on ka3
  have q2_3 : p2 < p3 := by rw [← f3]; exact b2.lt
  replace b2 := b2.on ka3
  have kk0 := kk
  replace kk := kk.trans (ka3.mono kk.size)
  have hp3 : w.heap.size ≤ p3 := by rw [← f3]; exact kk0.size
  clear ka3 kk0
  have c3_2_0 : W3.cell? ⟨p2, 0, none⟩ = some (.int .i64 i.op) := b2.cell 0
  have c3_2_4 : W3.cell? ⟨p2, 4, none⟩ = some (.int .i64 i.n) := b2.cell 4
  have h13 : p1 ≠ p3 := by omega
  have h23 : p2 ≠ p3 := by omega
  obtain ⟨p4, f4⟩ : ∃ p, W3.heap.size = p := ⟨_, rfl⟩
  obtain ⟨W4, ea4⟩ : ∃ W, W3.alloc (.cells #[.int .i64 t] 3) = W := ⟨_, rfl⟩
  have ka4 : Below W3.heap.size W3 W4 := by rw [← ea4]; exact (Below.refl _ W3).alloc (Nat.le_refl _) _
  have b4 : Blk W4 p4 3 #[.int .i64 t] := by rw [← ea4]; exact blk_new W3 _ 3 _ f4
  have q1_4 : p1 < p4 := by rw [← f4]; exact b1.lt
  replace b1 := b1.on ka4
  have q2_4 : p2 < p4 := by rw [← f4]; exact b2.lt
  replace b2 := b2.on ka4
  have q3_4 : p3 < p4 := by rw [← f4]; exact b3.lt
  replace b3 := b3.on ka4
  have kk0 := kk
  replace kk := kk.trans (ka4.mono kk.size)
  have hp4 : w.heap.size ≤ p4 := by rw [← f4]; exact kk0.size
  clear ka4 kk0
  have dS := add_any own 1
  go_enter Tryd.func14, Tryd.ntmps14
  go_wp2_with fail
  refine (at1_any 8 t _ b4).mono ?_
  rintro e W5 ⟨rfl, k1⟩
  clear c3_2_0 c3_2_4
  replace b1 := b1.on k1
  replace b2 := b2.on k1
  replace b3 := b3.on k1
  replace b4 := b4.on k1
  replace kk := kk.trans (k1.mono kk.size)
  clear k1
  go_wp2_with (go_at_call 32; refine (dS _).mono ?_; rintro e w' ⟨rfl, rfl⟩)
  refine (plain_any (wrap64 (own + 1)) _).mono ?_
  rintro e W6 ⟨rfl, k1⟩
  replace b1 := b1.on k1
  replace b2 := b2.on k1
  replace b3 := b3.on k1
  replace b4 := b4.on k1
  replace kk := kk.trans (k1.mono kk.size)
  clear k1
  go_wp2_with fail
  refine (write_any ⟨8, t, 0⟩ ⟨wrap64 (own + 1), 0, 0⟩ _).mono ?_
  rintro e W7 ⟨rfl, k1⟩
  replace b1 := b1.on k1
  replace b2 := b2.on k1
  replace b3 := b3.on k1
  replace b4 := b4.on k1
  replace kk := kk.trans (k1.mono kk.size)
  clear k1
  obtain ⟨W8, es8⟩ : ∃ W, W7.setRow p3 (⟨3, ⟨8, t, 0⟩, noW, noW, ⟨wrap64 (own + 1), 0, 0⟩, 0⟩ : Ac).cs.toArray = W := ⟨_, rfl⟩
  have bo3 := b3
  replace b1 := row_far b1 es8 (by omega)
  replace b2 := row_far b2 es8 (by omega)
  replace b4 := row_far b4 es8 (by omega)
  replace b3 : Blk W8 p3 27 (⟨3, ⟨8, t, 0⟩, noW, noW, ⟨wrap64 (own + 1), 0, 0⟩, 0⟩ : Ac).cs.toArray := row_named b3 es8
  replace kk := kk.trans (row_below es8 hp3 kk.size)
  go_wp2_with (((with_reducible refine at_store 27 (.tmp 8) (.tmp 160) ?_); refine wpList_store_row rfl 27 (.tmp 8) (.tmp 160) rfl p3 (⟨3, ⟨8, t, 0⟩, noW, noW, ⟨wrap64 (own + 1), 0, 0⟩, 0⟩ : Ac).cs.toArray rfl rfl 27 #[.int .i64 0, .int .i64 0, .int .i64 0, .int .i64 0, .int .i64 0, .int .i64 0, .int .i64 0, .int .i64 0, .int .i64 0, .int .i64 0, .int .i64 0, .int .i64 0, .int .i64 0, .int .i64 0] bo3 size27 rfl (Ac.onea _) ?_; rw [es8]))
  refine bodyPost_ret (results_cell_row (cs := (⟨3, ⟨8, t, 0⟩, noW, noW, ⟨wrap64 (own + 1), 0, 0⟩, 0⟩ : Ac).cs.toArray) rfl _ _ p3 27 (0, 0) _ rfl b3 Tryd.underlying27 rfl size27) rfl ?_
  exact ⟨rfl, kk⟩
set_option maxRecDepth 100000 in
set_option maxHeartbeats 4000000 in
theorem ins_else (t : Int) (x : Th) (i : Ins) (own : Int) (hop : i.op < 11 ∨ 25 < i.op) (w : World) : Calls Tryd.prog 14 #[.int .i64 t, .agg x.cs.toArray, .agg i.cs.toArray, .int .i64 own] w fun e w' => e = .returned (.agg (actI t x i own).cs.toArray) ∧ Below w.heap.size w w' := by
  have hmf := hmf
  have n11 : i.op ≠ 11 := by omega
  have n12 : i.op ≠ 12 := by omega
  have n13 : i.op ≠ 13 := by omega
  have n14 : i.op ≠ 14 := by omega
  have n15 : i.op ≠ 15 := by omega
  have n16 : i.op ≠ 16 := by omega
  have n17 : i.op ≠ 17 := by omega
  have n18 : i.op ≠ 18 := by omega
  have n19 : i.op ≠ 19 := by omega
  have n20 : i.op ≠ 20 := by omega
  have n21 : i.op ≠ 21 := by omega
  have n22 : i.op ≠ 22 := by omega
  have n23 : i.op ≠ 23 := by omega
  have n24 : i.op ≠ 24 := by omega
  have n25 : i.op ≠ 25 := by omega
  have eA : actI t x i own = ⟨1, noP, noW, noW, noW, 0⟩ := by unfold actI; rw [if_neg n11, if_neg n12, if_neg n13, if_neg n14, if_neg n15, if_neg n16, if_neg n17, if_neg n18, if_neg n19, if_neg n20, if_neg n21, if_neg n22, if_neg n23, if_neg n24, if_neg n25]
  have t11 : (i.op == 11) = false := beq_eq_false_iff_ne.2 n11
  have t12 : (i.op == 12) = false := beq_eq_false_iff_ne.2 n12
  have t13 : (i.op == 13) = false := beq_eq_false_iff_ne.2 n13
  have t14 : (i.op == 14) = false := beq_eq_false_iff_ne.2 n14
  have t15 : (i.op == 15) = false := beq_eq_false_iff_ne.2 n15
  have t16 : (i.op == 16) = false := beq_eq_false_iff_ne.2 n16
  have t17 : (i.op == 17) = false := beq_eq_false_iff_ne.2 n17
  have t18 : (i.op == 18) = false := beq_eq_false_iff_ne.2 n18
  have t19 : (i.op == 19) = false := beq_eq_false_iff_ne.2 n19
  have t20 : (i.op == 20) = false := beq_eq_false_iff_ne.2 n20
  have t21 : (i.op == 21) = false := beq_eq_false_iff_ne.2 n21
  have t22 : (i.op == 22) = false := beq_eq_false_iff_ne.2 n22
  have t23 : (i.op == 23) = false := beq_eq_false_iff_ne.2 n23
  have t24 : (i.op == 24) = false := beq_eq_false_iff_ne.2 n24
  have t25 : (i.op == 25) = false := beq_eq_false_iff_ne.2 n25
  clear n11 n12 n13 n14 n15 n16 n17 n18 n19 n20 n21 n22 n23 n24 n25 hop
  rw [eA]
  clear eA
  obtain ⟨p1, f1⟩ : ∃ p, w.heap.size = p := ⟨_, rfl⟩
  obtain ⟨W1, ea1⟩ : ∃ W, w.alloc (.cells x.cs.toArray 46) = W := ⟨_, rfl⟩
  have ka1 : Below w.heap.size w W1 := by rw [← ea1]; exact (Below.refl _ w).alloc (Nat.le_refl _) _
  have b1 : Blk W1 p1 46 x.cs.toArray := by rw [← ea1]; exact blk_new w _ 46 _ f1
  have kk : Below w.heap.size w W1 := ka1
  have hp1 : w.heap.size ≤ p1 := Nat.le_of_eq f1
  clear ka1
  obtain ⟨p2, f2⟩ : ∃ p, W1.heap.size = p := ⟨_, rfl⟩
  obtain ⟨W2, ea2⟩ : ∃ W, W1.alloc (.cells i.cs.toArray 35) = W := ⟨_, rfl⟩
  have ka2 : Below W1.heap.size W1 W2 := by rw [← ea2]; exact (Below.refl _ W1).alloc (Nat.le_refl _) _
  have b2 : Blk W2 p2 35 i.cs.toArray := by rw [← ea2]; exact blk_new W1 _ 35 _ f2
  have q1_2 : p1 < p2 := by rw [← f2]; exact b1.lt
  replace b1 := b1.on ka2
  have kk0 := kk
  replace kk := kk.trans (ka2.mono kk.size)
  have hp2 : w.heap.size ≤ p2 := by rw [← f2]; exact kk0.size
  clear ka2 kk0
  obtain ⟨p3, f3⟩ : ∃ p, W2.heap.size = p := ⟨_, rfl⟩
  obtain ⟨W3, ea3⟩ : ∃ W, W2.alloc (.cells #[.int .i64 0, .int .i64 0, .int .i64 0, .int .i64 0, .int .i64 0, .int .i64 0, .int .i64 0, .int .i64 0, .int .i64 0, .int .i64 0, .int .i64 0, .int .i64 0, .int .i64 0, .int .i64 0] 27) = W := ⟨_, rfl⟩
  have ka3 : Below W2.heap.size W2 W3 := by rw [← ea3]; exact (Below.refl _ W2).alloc (Nat.le_refl _) _
  have b3 : Blk W3 p3 27 #[.int .i64 0, .int .i64 0, .int .i64 0, .int .i64 0, .int .i64 0, .int .i64 0, .int .i64 0, .int .i64 0, .int .i64 0, .int .i64 0, .int .i64 0, .int .i64 0, .int .i64 0, .int .i64 0] := by rw [← ea3]; exact blk_new W2 _ 27 _ f3
  have q1_3 : p1 < p3 := by rw [← f3]; exact b1.lt
  replace b1 := b1.on ka3
  have q2_3 : p2 < p3 := by rw [← f3]; exact b2.lt
  replace b2 := b2.on ka3
  have kk0 := kk
  replace kk := kk.trans (ka3.mono kk.size)
  have hp3 : w.heap.size ≤ p3 := by rw [← f3]; exact kk0.size
  clear ka3 kk0
  have c3_2_0 : W3.cell? ⟨p2, 0, none⟩ = some (.int .i64 i.op) := b2.cell 0
  have c3_2_4 : W3.cell? ⟨p2, 4, none⟩ = some (.int .i64 i.n) := b2.cell 4
  have h13 : p1 ≠ p3 := by omega
  have h23 : p2 ≠ p3 := by omega
  go_enter Tryd.func14, Tryd.ntmps14
  obtain ⟨W4, es4⟩ : ∃ W, W3.setRow p3 (⟨1, noP, noW, noW, noW, 0⟩ : Ac).cs.toArray = W := ⟨_, rfl⟩
  have bo3 := b3
  replace b1 := row_far b1 es4 (by omega)
  replace b2 := row_far b2 es4 (by omega)
  replace b3 : Blk W4 p3 27 (⟨1, noP, noW, noW, noW, 0⟩ : Ac).cs.toArray := row_named b3 es4
  replace kk := kk.trans (row_below es4 hp3 kk.size)
  go_wp2_with (((with_reducible refine at_store 27 (.tmp 8) (.tmp 161) ?_); refine wpList_store_row rfl 27 (.tmp 8) (.tmp 161) rfl p3 (⟨1, noP, noW, noW, noW, 0⟩ : Ac).cs.toArray rfl rfl 27 #[.int .i64 0, .int .i64 0, .int .i64 0, .int .i64 0, .int .i64 0, .int .i64 0, .int .i64 0, .int .i64 0, .int .i64 0, .int .i64 0, .int .i64 0, .int .i64 0, .int .i64 0, .int .i64 0] bo3 size27 rfl (Ac.onea _) ?_; rw [es4]))
  refine bodyPost_ret (results_cell_row (cs := (⟨1, noP, noW, noW, noW, 0⟩ : Ac).cs.toArray) rfl _ _ p3 27 (0, 0) _ rfl b3 Tryd.underlying27 rfl size27) rfl ?_
  exact ⟨rfl, kk⟩
theorem ins_any (t : Int) (x : Th) (i : Ins) (own : Int) (w : World) : Calls Tryd.prog 14 #[.int .i64 t, .agg x.cs.toArray, .agg i.cs.toArray, .int .i64 own] w fun e w' => e = .returned (.agg (actI t x i own).cs.toArray) ∧ Below w.heap.size w w' := by
  by_cases n11 : i.op = 11
  · exact ins_11 t x i own n11 w
  by_cases n12 : i.op = 12
  · exact ins_12 t x i own n12 w
  by_cases n13 : i.op = 13
  · exact ins_13 t x i own n13 w
  by_cases n14 : i.op = 14
  · exact ins_14 t x i own n14 w
  by_cases n15 : i.op = 15
  · exact ins_15 t x i own n15 w
  by_cases n16 : i.op = 16
  · exact ins_16 t x i own n16 w
  by_cases n17 : i.op = 17
  · exact ins_17 t x i own n17 w
  by_cases n18 : i.op = 18
  · exact ins_18 t x i own n18 w
  by_cases n19 : i.op = 19
  · exact ins_19 t x i own n19 w
  by_cases n20 : i.op = 20
  · exact ins_20 t x i own n20 w
  by_cases n21 : i.op = 21
  · exact ins_21 t x i own n21 w
  by_cases n22 : i.op = 22
  · exact ins_22 t x i own n22 w
  by_cases n23 : i.op = 23
  · exact ins_23 t x i own n23 w
  by_cases n24 : i.op = 24
  · exact ins_24 t x i own n24 w
  by_cases n25 : i.op = 25
  · exact ins_25 t x i own n25 w
  exact ins_else t x i own (by omega) w
end Go.Proofs.YtfadfdfpocpelaaDoor
