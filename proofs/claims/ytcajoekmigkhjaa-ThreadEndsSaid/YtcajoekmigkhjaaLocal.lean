/- What an instruction that touches nothing shared does to a thread. Conditions: at most a thousand elements in each list. -/
import Derived.Test.YtcajoekmigkhjaaReck
namespace Go.Proofs.Ytcajoekmigkhjaa
open Go.RowKit Go.ChangeShapes Go.WideShapes Go.Great

theorem field25 (v : Wd) (w : World) : (Instr.field 25 (.agg v.cs.toArray) 0).run Try.prog w = .ok (.int .i64 v.n) w := by kernel_rfl
theorem res23 (tmps : Array Value) (w : World) (g : Nat) (cs : Array Value) (u : Value) (hp : tmps[4]?.getD undef = .pointer (some ⟨g, 0, none⟩)) (hu : tmps[5]?.getD undef = u) (hg : Blk w g 32 cs) (hs : (Try.prog.info? 32).map (·.size) = some cs.size) :
    (results Try.f23 tmps).run Try.prog w = .ok (.tuple #[.agg cs, u]) w := by
  have hr : Try.f23.results = #[.cell 4 32, .tmp 5] := by kernel_rfl
  rw [results_cell_tmp hr]
  have h2 : tmps.getD 4 undef = .pointer (some ⟨g, 0, none⟩) := by simpa using hp
  have h3 : tmps.getD 5 undef = u := by simpa using hu
  rw [h2, h3]
  have hl := run_loadVar_row w g 32 32 cs (0, 0) _ hg Try.underlying32 rfl hs
  simp [asAddr, Result.andThen, hl]
set_option maxRecDepth 100000 in
set_option maxHeartbeats 4000000 in
theorem loc_halt {w : World} {x : Th} {z s : List Int} {l : List Bg} (i : Ins) (hop : i.op = 1) (h : Reads w x z l s) (h1 : x.se.n ≤ 1000) (h2 : x.bg.n ≤ 1000) (h3 : x.sn.n ≤ 1000) :
    Calls Try.prog 23 #[.agg x.cs.toArray, .agg i.cs.toArray] w fun e w' => ∃ A1 c1 A2 c2 A3 c3, e = .returned (.tuple #[.agg (({ x with st := 1 }).put ⟨A1, x.se.n, c1⟩ ⟨A2, x.bg.n, c2⟩ ⟨A3, x.sn.n, c3⟩).cs.toArray, .bool true]) ∧ Own w.heap.size w' (({ x with st := 1 }).put ⟨A1, x.se.n, c1⟩ ⟨A2, x.bg.n, c2⟩ ⟨A3, x.sn.n, c3⟩) z l s ∧ Below w.heap.size w w' := by
  have t1 : (i.op == 1) = true := by rw [hop]; rfl
  clear hop
  obtain ⟨p1, f1⟩ : ∃ p, w.heap.size = p := ⟨_, rfl⟩
  obtain ⟨W1, ea1⟩ : ∃ W, w.alloc (.cells x.cs.toArray 32) = W := ⟨_, rfl⟩
  have ka1 : Below w.heap.size w W1 := by rw [← ea1]; exact (Below.refl _ w).alloc (Nat.le_refl _) _
  have b1 : Blk W1 p1 32 x.cs.toArray := by rw [← ea1]; exact blk_new w _ 32 _ f1
  have kk : Below w.heap.size w W1 := ka1
  have hp1 : w.heap.size ≤ p1 := Nat.le_of_eq f1
  clear ka1
  obtain ⟨p2, f2⟩ : ∃ p, W1.heap.size = p := ⟨_, rfl⟩
  obtain ⟨W2, ea2⟩ : ∃ W, W1.alloc (.cells i.cs.toArray 42) = W := ⟨_, rfl⟩
  have ka2 : Below W1.heap.size W1 W2 := by rw [← ea2]; exact (Below.refl _ W1).alloc (Nat.le_refl _) _
  have b2 : Blk W2 p2 42 i.cs.toArray := by rw [← ea2]; exact blk_new W1 _ 42 _ f2
  have q1_2 : p1 < p2 := by rw [← f2]; exact b1.lt
  replace b1 := b1.on ka2
  have kk0 := kk
  replace kk := kk.trans (ka2.mono kk.size)
  have hp2 : w.heap.size ≤ p2 := by rw [← f2]; exact kk0.size
  clear ka2 kk0
  obtain ⟨p3, f3⟩ : ∃ p, W2.heap.size = p := ⟨_, rfl⟩
  obtain ⟨W3, ea3⟩ : ∃ W, W2.alloc (.cells #[.int .i64 0, .int .i64 0, .int .i64 0, .int .i64 0, .int .i64 0, .int .i64 0, .int .i64 0, .int .i64 0, .int .i64 0, .int .i64 0, .int .i64 0, .int .i64 0, .int .i64 0, .int .i64 0, .int .i64 0, .int .i64 0, .int .i64 0, .int .i64 0, .slice none 0 0, .slice none 0 0, .slice none 0 0, .int .i64 0] 32) = W := ⟨_, rfl⟩
  have ka3 : Below W2.heap.size W2 W3 := by rw [← ea3]; exact (Below.refl _ W2).alloc (Nat.le_refl _) _
  have b3 : Blk W3 p3 32 #[.int .i64 0, .int .i64 0, .int .i64 0, .int .i64 0, .int .i64 0, .int .i64 0, .int .i64 0, .int .i64 0, .int .i64 0, .int .i64 0, .int .i64 0, .int .i64 0, .int .i64 0, .int .i64 0, .int .i64 0, .int .i64 0, .int .i64 0, .int .i64 0, .slice none 0 0, .slice none 0 0, .slice none 0 0, .int .i64 0] := by rw [← ea3]; exact blk_new W2 _ 32 _ f3
  have q1_3 : p1 < p3 := by rw [← f3]; exact b1.lt
  replace b1 := b1.on ka3
  have q2_3 : p2 < p3 := by rw [← f3]; exact b2.lt
  replace b2 := b2.on ka3
  have kk0 := kk
  replace kk := kk.trans (ka3.mono kk.size)
  have hp3 : w.heap.size ≤ p3 := by rw [← f3]; exact kk0.size
  clear ka3 kk0
  have h13 : p1 ≠ p3 := by omega
  have h23 : p2 ≠ p3 := by omega
  have d1 := clone_any (h.on kk) h1 h2 h3
  go_enter Try.func23, Try.ntmps23
  go_wp2_with (((with_reducible refine at_load 32 (.tmp 2) ?_); refine wpList_load_row rfl 32 (.tmp 2) rfl p1 rfl 32 x.cs.toArray (0, 0) _ b1 Try.underlying32 rfl (sizeT _) ?_))
  refine (d1).mono ?_
  rintro e W4 ⟨A1, c1, A2, c2, A3, c3, rfl, ow, k1⟩
  replace ow := ow.mono kk.size
  replace b1 := b1.on k1
  replace b2 := b2.on k1
  replace b3 := b3.on k1
  replace kk := kk.trans (k1.mono kk.size)
  clear k1
  clear d1 f1
  obtain ⟨W5, es5⟩ : ∃ W, W4.setRow p1 (x.put ⟨A1, x.se.n, c1⟩ ⟨A2, x.bg.n, c2⟩ ⟨A3, x.sn.n, c3⟩).cs.toArray = W := ⟨_, rfl⟩
  have bo1 := b1
  replace b2 := row_far b2 es5 (by omega)
  replace b3 := row_far b3 es5 (by omega)
  replace b1 : Blk W5 p1 32 (x.put ⟨A1, x.se.n, c1⟩ ⟨A2, x.bg.n, c2⟩ ⟨A3, x.sn.n, c3⟩).cs.toArray := row_named b1 es5
  replace kk := kk.trans (row_below es5 hp1 kk.size)
  have ow_ : Own w.heap.size W5 (x.put ⟨A1, x.se.n, c1⟩ ⟨A2, x.bg.n, c2⟩ ⟨A3, x.sn.n, c3⟩) z l s := ow.off bo1 (by decide) (by decide) es5 rfl rfl rfl
  clear ow
  have ow := ow_
  clear ow_
  have bo1_ := bo1
  have c5_2_0 : W5.cell? ⟨p2, 0, none⟩ = some (.int .i64 i.op) := b2.cell 0
  go_wp2_with (first | ((with_reducible refine at_store 32 (.tmp 2) (.tmp 7) ?_); refine wpList_store_row rfl 32 (.tmp 2) (.tmp 7) rfl p1 (x.put ⟨A1, x.se.n, c1⟩ ⟨A2, x.bg.n, c2⟩ ⟨A3, x.sn.n, c3⟩).cs.toArray rfl rfl 32 x.cs.toArray bo1_ (sizeT _) rfl (Th.onea _) ?_; rw [es5]) | ((with_reducible refine at_load 32 (.tmp 2) ?_); refine wpList_load_row rfl 32 (.tmp 2) rfl p1 rfl 32 (x.put ⟨A1, x.se.n, c1⟩ ⟨A2, x.bg.n, c2⟩ ⟨A3, x.sn.n, c3⟩).cs.toArray (0, 0) _ b1 Try.underlying32 rfl (sizeT _) ?_))
  refine (halted_put x ⟨A1, x.se.n, c1⟩ ⟨A2, x.bg.n, c2⟩ ⟨A3, x.sn.n, c3⟩ _).mono ?_
  rintro e W6 ⟨rfl, k1⟩
  clear c5_2_0
  replace b1 := b1.on k1
  replace b2 := b2.on k1
  replace b3 := b3.on k1
  replace ow := ow.on k1
  replace kk := kk.trans (k1.mono kk.size)
  clear k1
  obtain ⟨W7, es7⟩ : ∃ W, W6.setRow p3 (({ x with st := 1 }).put ⟨A1, x.se.n, c1⟩ ⟨A2, x.bg.n, c2⟩ ⟨A3, x.sn.n, c3⟩).cs.toArray = W := ⟨_, rfl⟩
  have bo3 := b3
  replace b1 := row_far b1 es7 (by omega)
  replace b2 := row_far b2 es7 (by omega)
  replace b3 : Blk W7 p3 32 (({ x with st := 1 }).put ⟨A1, x.se.n, c1⟩ ⟨A2, x.bg.n, c2⟩ ⟨A3, x.sn.n, c3⟩).cs.toArray := row_named b3 es7
  replace kk := kk.trans (row_below es7 hp3 kk.size)
  replace ow := ow.off bo3 (by decide) (by decide) es7 rfl rfl rfl
  go_wp2_with (((with_reducible refine at_store 32 (.tmp 4) (.tmp 13) ?_); refine wpList_store_row rfl 32 (.tmp 4) (.tmp 13) rfl p3 (({ x with st := 1 }).put ⟨A1, x.se.n, c1⟩ ⟨A2, x.bg.n, c2⟩ ⟨A3, x.sn.n, c3⟩).cs.toArray rfl rfl 32 #[.int .i64 0, .int .i64 0, .int .i64 0, .int .i64 0, .int .i64 0, .int .i64 0, .int .i64 0, .int .i64 0, .int .i64 0, .int .i64 0, .int .i64 0, .int .i64 0, .int .i64 0, .int .i64 0, .int .i64 0, .int .i64 0, .int .i64 0, .int .i64 0, .slice none 0 0, .slice none 0 0, .slice none 0 0, .int .i64 0] bo3 (sizeT _) rfl (Th.onea _) ?_; rw [es7]))
  refine bodyPost_ret (res23 _ _ p3 (({ x with st := 1 }).put ⟨A1, x.se.n, c1⟩ ⟨A2, x.bg.n, c2⟩ ⟨A3, x.sn.n, c3⟩).cs.toArray (.bool true) rfl rfl b3 (sizeT _)) rfl ?_
  exact ⟨A1, c1, A2, c2, A3, c3, rfl, ⟨ow.se, ow.bg, ow.sn⟩, kk⟩
set_option maxRecDepth 100000 in
set_option maxHeartbeats 4000000 in
theorem loc_set {w : World} {x : Th} {z s : List Int} {l : List Bg} (i : Ins) (hop : i.op = 2) (h : Reads w x z l s) (h1 : x.se.n ≤ 1000) (h2 : x.bg.n ≤ 1000) (h3 : x.sn.n ≤ 1000) :
    Calls Try.prog 23 #[.agg x.cs.toArray, .agg i.cs.toArray] w fun e w' => ∃ A1 c1 A2 c2 A3 c3, e = .returned (.tuple #[.agg ((setI x i.a ⟨i.n, 0, 0⟩).put ⟨A1, x.se.n, c1⟩ ⟨A2, x.bg.n, c2⟩ ⟨A3, x.sn.n, c3⟩).cs.toArray, .bool true]) ∧ Own w.heap.size w' ((setI x i.a ⟨i.n, 0, 0⟩).put ⟨A1, x.se.n, c1⟩ ⟨A2, x.bg.n, c2⟩ ⟨A3, x.sn.n, c3⟩) z l s ∧ Below w.heap.size w w' := by
  have t1 : (i.op == 1) = false := by rw [hop]; rfl
  have t2 : (i.op == 2) = true := by rw [hop]; rfl
  clear hop
  obtain ⟨p1, f1⟩ : ∃ p, w.heap.size = p := ⟨_, rfl⟩
  obtain ⟨W1, ea1⟩ : ∃ W, w.alloc (.cells x.cs.toArray 32) = W := ⟨_, rfl⟩
  have ka1 : Below w.heap.size w W1 := by rw [← ea1]; exact (Below.refl _ w).alloc (Nat.le_refl _) _
  have b1 : Blk W1 p1 32 x.cs.toArray := by rw [← ea1]; exact blk_new w _ 32 _ f1
  have kk : Below w.heap.size w W1 := ka1
  have hp1 : w.heap.size ≤ p1 := Nat.le_of_eq f1
  clear ka1
  obtain ⟨p2, f2⟩ : ∃ p, W1.heap.size = p := ⟨_, rfl⟩
  obtain ⟨W2, ea2⟩ : ∃ W, W1.alloc (.cells i.cs.toArray 42) = W := ⟨_, rfl⟩
  have ka2 : Below W1.heap.size W1 W2 := by rw [← ea2]; exact (Below.refl _ W1).alloc (Nat.le_refl _) _
  have b2 : Blk W2 p2 42 i.cs.toArray := by rw [← ea2]; exact blk_new W1 _ 42 _ f2
  have q1_2 : p1 < p2 := by rw [← f2]; exact b1.lt
  replace b1 := b1.on ka2
  have kk0 := kk
  replace kk := kk.trans (ka2.mono kk.size)
  have hp2 : w.heap.size ≤ p2 := by rw [← f2]; exact kk0.size
  clear ka2 kk0
  obtain ⟨p3, f3⟩ : ∃ p, W2.heap.size = p := ⟨_, rfl⟩
  obtain ⟨W3, ea3⟩ : ∃ W, W2.alloc (.cells #[.int .i64 0, .int .i64 0, .int .i64 0, .int .i64 0, .int .i64 0, .int .i64 0, .int .i64 0, .int .i64 0, .int .i64 0, .int .i64 0, .int .i64 0, .int .i64 0, .int .i64 0, .int .i64 0, .int .i64 0, .int .i64 0, .int .i64 0, .int .i64 0, .slice none 0 0, .slice none 0 0, .slice none 0 0, .int .i64 0] 32) = W := ⟨_, rfl⟩
  have ka3 : Below W2.heap.size W2 W3 := by rw [← ea3]; exact (Below.refl _ W2).alloc (Nat.le_refl _) _
  have b3 : Blk W3 p3 32 #[.int .i64 0, .int .i64 0, .int .i64 0, .int .i64 0, .int .i64 0, .int .i64 0, .int .i64 0, .int .i64 0, .int .i64 0, .int .i64 0, .int .i64 0, .int .i64 0, .int .i64 0, .int .i64 0, .int .i64 0, .int .i64 0, .int .i64 0, .int .i64 0, .slice none 0 0, .slice none 0 0, .slice none 0 0, .int .i64 0] := by rw [← ea3]; exact blk_new W2 _ 32 _ f3
  have q1_3 : p1 < p3 := by rw [← f3]; exact b1.lt
  replace b1 := b1.on ka3
  have q2_3 : p2 < p3 := by rw [← f3]; exact b2.lt
  replace b2 := b2.on ka3
  have kk0 := kk
  replace kk := kk.trans (ka3.mono kk.size)
  have hp3 : w.heap.size ≤ p3 := by rw [← f3]; exact kk0.size
  clear ka3 kk0
  have h13 : p1 ≠ p3 := by omega
  have h23 : p2 ≠ p3 := by omega
  have d1 := clone_any (h.on kk) h1 h2 h3
  go_enter Try.func23, Try.ntmps23
  go_wp2_with (((with_reducible refine at_load 32 (.tmp 2) ?_); refine wpList_load_row rfl 32 (.tmp 2) rfl p1 rfl 32 x.cs.toArray (0, 0) _ b1 Try.underlying32 rfl (sizeT _) ?_))
  refine (d1).mono ?_
  rintro e W4 ⟨A1, c1, A2, c2, A3, c3, rfl, ow, k1⟩
  replace ow := ow.mono kk.size
  replace b1 := b1.on k1
  replace b2 := b2.on k1
  replace b3 := b3.on k1
  replace kk := kk.trans (k1.mono kk.size)
  clear k1
  clear d1 f1
  obtain ⟨W5, es5⟩ : ∃ W, W4.setRow p1 (x.put ⟨A1, x.se.n, c1⟩ ⟨A2, x.bg.n, c2⟩ ⟨A3, x.sn.n, c3⟩).cs.toArray = W := ⟨_, rfl⟩
  have bo1 := b1
  replace b2 := row_far b2 es5 (by omega)
  replace b3 := row_far b3 es5 (by omega)
  replace b1 : Blk W5 p1 32 (x.put ⟨A1, x.se.n, c1⟩ ⟨A2, x.bg.n, c2⟩ ⟨A3, x.sn.n, c3⟩).cs.toArray := row_named b1 es5
  replace kk := kk.trans (row_below es5 hp1 kk.size)
  have ow_ : Own w.heap.size W5 (x.put ⟨A1, x.se.n, c1⟩ ⟨A2, x.bg.n, c2⟩ ⟨A3, x.sn.n, c3⟩) z l s := ow.off bo1 (by decide) (by decide) es5 rfl rfl rfl
  clear ow
  have ow := ow_
  clear ow_
  have bo1_ := bo1
  have c5_2_0 : W5.cell? ⟨p2, 0, none⟩ = some (.int .i64 i.op) := b2.cell 0
  go_wp2_with (((with_reducible refine at_store 32 (.tmp 2) (.tmp 7) ?_); refine wpList_store_row rfl 32 (.tmp 2) (.tmp 7) rfl p1 (x.put ⟨A1, x.se.n, c1⟩ ⟨A2, x.bg.n, c2⟩ ⟨A3, x.sn.n, c3⟩).cs.toArray rfl rfl 32 x.cs.toArray bo1_ (sizeT _) rfl (Th.onea _) ?_; rw [es5]))
  clear c5_2_0
  obtain ⟨wd, ed⟩ : ∃ W, W5.drew = W := ⟨_, rfl⟩
  have hd : Below W5.heap.size W5 wd := by rw [← ed]; exact (Below.refl _ _).drew
  replace b1 := b1.on hd
  replace b2 := b2.on hd
  replace b3 := b3.on hd
  replace ow := ow.on hd
  replace kk := kk.trans (hd.mono kk.size)
  clear hd
  have kS : Kept (fun g => g = p3) wd wd := Kept.refl _ _
  have tS : ∀ W, Kept (fun g => g = p3) wd W → W.cell? ⟨p2, 1, none⟩ = some (.int .i64 i.a) ∧ W.cell? ⟨p2, 4, none⟩ = some (.int .i64 i.n) := fun W hW => ⟨(b2.kept hW h23).cell 1, (b2.kept hW h23).cell 4⟩
  refine wp_region_noPanic ?_
  refine wp_region_held_drew (S := (fun W => Kept (fun g => g = p3) wd W)) (by kernel_rfl) (by rw [ed]; exact kS) (fun hHeld => ?_)
  rw [ed] at hHeld ⊢
  refine wpAnyH_take (i := 0) (oi := ⟨some 16, _, _, _, _, _⟩) (v := .agg (List.toArray ((x.put ⟨A1, x.se.n, c1⟩ ⟨A2, x.bg.n, c2⟩ ⟨A3, x.sn.n, c3⟩).cs))) rfl (by kernel_rfl) (by kernel_rfl) (by kernel_rfl) (fun _ _ _ h => h) (yieldsIf_load_mid (by rfl) 32 (.tmp 2) rfl p1 (0) rfl ((x.put ⟨A1, x.se.n, c1⟩ ⟨A2, x.bg.n, c2⟩ ⟨A3, x.sn.n, c3⟩).cs) _ (fun W hW => range_part (b1.kept hW h13) 0 (x.put ⟨A1, x.se.n, c1⟩ ⟨A2, x.bg.n, c2⟩ ⟨A3, x.sn.n, c3⟩).cs rfl) Try.underlying32 rfl (sizeT _)) (by assumption) ?_
  try simp only [Act.put, List.setIfInBounds_toArray, List.set_cons_zero, List.set_cons_succ]
  refine wpAnyH_take (i := 1) (oi := ⟨some 17, _, _, _, _, _⟩) (v := ?_) rfl (by kernel_rfl) (by kernel_rfl) (by kernel_rfl) (fun _ _ _ h => h) (Or.inl ⟨by rfl, ?_⟩) (by assumption) ?_
  rotate_left 1
  · (intro W hSw; go_simp <;> with_reducible rfl)
  try simp only [Act.put, List.setIfInBounds_toArray, List.set_cons_zero, List.set_cons_succ]
  refine wpAnyH_take (i := 2) (oi := ⟨some 18, _, _, _, _, _⟩) (v := ?_) rfl (by kernel_rfl) (by kernel_rfl) (by kernel_rfl) (fun _ _ _ h => h) (Or.inl ⟨by rfl, ?_⟩) (by assumption) ?_
  rotate_left 1
  · (intro W hSw; obtain ⟨q0, q1⟩ := tS W hSw; go_simp <;> with_reducible rfl)
  try simp only [Act.put, List.setIfInBounds_toArray, List.set_cons_zero, List.set_cons_succ]
  refine wpAnyH_take (i := 3) (oi := ⟨some 19, _, _, _, _, _⟩) (v := ?_) rfl (by kernel_rfl) (by kernel_rfl) (by kernel_rfl) (fun _ _ _ h => h) (Or.inl ⟨by rfl, ?_⟩) (by assumption) ?_
  rotate_left 1
  · (intro W hSw; go_simp <;> with_reducible rfl)
  try simp only [Act.put, List.setIfInBounds_toArray, List.set_cons_zero, List.set_cons_succ]
  refine wpAnyH_take (i := 4) (oi := ⟨some 20, _, _, _, _, _⟩) (v := ?_) rfl (by kernel_rfl) (by kernel_rfl) (by kernel_rfl) (fun _ _ _ h => h) (Or.inl ⟨by rfl, ?_⟩) (by assumption) ?_
  rotate_left 1
  · (intro W hSw; obtain ⟨q0, q1⟩ := tS W hSw; go_simp <;> with_reducible rfl)
  try simp only [Act.put, List.setIfInBounds_toArray, List.set_cons_zero, List.set_cons_succ]
  refine wpAnyH_ready (rs := [5]) (by kernel_rfl) (by simp) ?_
  refine AllReadyH.cons (o := ⟨some 21, _, _, _, _, _⟩) rfl (fun K hK => ?_) AllReadyH.nil
  go_simp
  refine (plain_any i.n wd).mono ?_
  rintro e w1 ⟨rfl, hb1⟩
  have b1_1 := b1.on hb1
  have b2_1 := b2.on hb1
  have b3_1 := b3.on hb1
  have ow_1 := ow.on hb1
  have kk_1 := kk.trans (hb1.mono kk.size)
  have S1 : (fun W => Kept (fun g => g = p3) wd W) w1 := Kept.next kS (kept_below (fun _ => False) hb1) (fun _ h => h.elim)
  refine hK.out _ _ S1 (fun h1 => ?_)
  clear hHeld hK K
  try simp only [Act.put, List.setIfInBounds_toArray, List.set_cons_zero, List.set_cons_succ]
  refine wpAnyH_ready (rs := [6]) (by kernel_rfl) (by simp) ?_
  refine AllReadyH.cons (o := ⟨some 22, _, _, _, _, _⟩) rfl (fun K hK => ?_) AllReadyH.nil
  go_simp
  refine (with_put x ⟨A1, x.se.n, c1⟩ ⟨A2, x.bg.n, c2⟩ ⟨A3, x.sn.n, c3⟩ w1 i.a ⟨i.n, 0, 0⟩).mono ?_
  rintro e w2 ⟨rfl, hb2⟩
  have b1_2 := b1_1.on hb2
  have b2_2 := b2_1.on hb2
  have b3_2 := b3_1.on hb2
  have ow_2 := ow_1.on hb2
  have kk_2 := kk_1.trans (hb2.mono kk_1.size)
  have S2 : (fun W => Kept (fun g => g = p3) wd W) w2 := Kept.next S1 (kept_below (fun _ => False) hb2) (fun _ h => h.elim)
  refine hK.out _ _ S2 (fun h2 => ?_)
  clear h1 hK K
  try simp only [Act.put, List.setIfInBounds_toArray, List.set_cons_zero, List.set_cons_succ]
  refine wpAnyH_ready (rs := [7]) (by kernel_rfl) (by simp) ?_
  refine AllReadyH.cons (o := ⟨none, _, _, _, _, _⟩) rfl (fun K hK => ?_) AllReadyH.nil
  rw [if_pos (by rfl)]
  refine wp_store_row 32 (.tmp 4) (.tmp 22) rfl p3 ((setI x i.a ⟨i.n, 0, 0⟩).put ⟨A1, x.se.n, c1⟩ ⟨A2, x.bg.n, c2⟩ ⟨A3, x.sn.n, c3⟩).cs.toArray rfl rfl 32 #[.int .i64 0, .int .i64 0, .int .i64 0, .int .i64 0, .int .i64 0, .int .i64 0, .int .i64 0, .int .i64 0, .int .i64 0, .int .i64 0, .int .i64 0, .int .i64 0, .int .i64 0, .int .i64 0, .int .i64 0, .int .i64 0, .int .i64 0, .int .i64 0, .slice none 0 0, .slice none 0 0, .slice none 0 0, .int .i64 0] b3_2 (sizeT _) rfl (Th.onea _) ?_
  refine hK.out _ _ (Kept.next S2 (kept_row _ p3 _) (fun g h => .inl h)) (fun h3 => ?_)
  clear h2 hK K
  have S3 : Kept (fun g => g = p3) wd (w2.setRow p3 ((setI x i.a ⟨i.n, 0, 0⟩).put ⟨A1, x.se.n, c1⟩ ⟨A2, x.bg.n, c2⟩ ⟨A3, x.sn.n, c3⟩).cs.toArray) := Kept.next S2 (kept_row _ p3 _) (fun g h => .inl h)
  have ow_3 := ow_2.off (cs' := ((setI x i.a ⟨i.n, 0, 0⟩).put ⟨A1, x.se.n, c1⟩ ⟨A2, x.bg.n, c2⟩ ⟨A3, x.sn.n, c3⟩).cs.toArray) b3_2 (by decide) (by decide) rfl rfl rfl rfl
  have b3_3 : Blk (w2.setRow p3 ((setI x i.a ⟨i.n, 0, 0⟩).put ⟨A1, x.se.n, c1⟩ ⟨A2, x.bg.n, c2⟩ ⟨A3, x.sn.n, c3⟩).cs.toArray) p3 32 ((setI x i.a ⟨i.n, 0, 0⟩).put ⟨A1, x.se.n, c1⟩ ⟨A2, x.bg.n, c2⟩ ⟨A3, x.sn.n, c3⟩).cs.toArray := row_named b3_2 rfl
  have kk_3 := kk_2.trans (row_below (W := (w2.setRow p3 ((setI x i.a ⟨i.n, 0, 0⟩).put ⟨A1, x.se.n, c1⟩ ⟨A2, x.bg.n, c2⟩ ⟨A3, x.sn.n, c3⟩).cs.toArray)) rfl hp3 kk_2.size)
  try simp only [Act.put]
  refine wpAnyH_take (i := 8) (oi := ⟨some 5, _, _, _, _, _⟩) (v := ?_) rfl (by kernel_rfl) (by kernel_rfl) (by kernel_rfl) (fun _ _ _ h => h) (Or.inl ⟨by rfl, ?_⟩) (by assumption) ?_
  rotate_left 1
  · (intro W hSw; go_simp <;> with_reducible rfl)
  try simp only [Act.put, List.setIfInBounds_toArray, List.set_cons_zero, List.set_cons_succ]
  refine wpAnyH_done (by kernel_rfl) ?_ _
  refine NoPanic.normal ?_
  go_wp2_with fail
  refine bodyPost_ret (res23 _ _ p3 ((setI x i.a ⟨i.n, 0, 0⟩).put ⟨A1, x.se.n, c1⟩ ⟨A2, x.bg.n, c2⟩ ⟨A3, x.sn.n, c3⟩).cs.toArray (.bool true) rfl rfl b3_3 (sizeT _)) rfl ?_
  exact ⟨A1, c1, A2, c2, A3, c3, rfl, ⟨ow_3.se, ow_3.bg, ow_3.sn⟩, kk_3⟩
set_option maxRecDepth 100000 in
set_option maxHeartbeats 4000000 in
theorem loc_copy {w : World} {x : Th} {z s : List Int} {l : List Bg} (i : Ins) (hop : i.op = 3) (h : Reads w x z l s) (h1 : x.se.n ≤ 1000) (h2 : x.bg.n ≤ 1000) (h3 : x.sn.n ≤ 1000) :
    Calls Try.prog 23 #[.agg x.cs.toArray, .agg i.cs.toArray] w fun e w' => ∃ A1 c1 A2 c2 A3 c3, e = .returned (.tuple #[.agg ((setI x i.a (regI x i.b)).put ⟨A1, x.se.n, c1⟩ ⟨A2, x.bg.n, c2⟩ ⟨A3, x.sn.n, c3⟩).cs.toArray, .bool true]) ∧ Own w.heap.size w' ((setI x i.a (regI x i.b)).put ⟨A1, x.se.n, c1⟩ ⟨A2, x.bg.n, c2⟩ ⟨A3, x.sn.n, c3⟩) z l s ∧ Below w.heap.size w w' := by
  have t1 : (i.op == 1) = false := by rw [hop]; rfl
  have t2 : (i.op == 2) = false := by rw [hop]; rfl
  have t3 : (i.op == 3) = true := by rw [hop]; rfl
  clear hop
  obtain ⟨p1, f1⟩ : ∃ p, w.heap.size = p := ⟨_, rfl⟩
  obtain ⟨W1, ea1⟩ : ∃ W, w.alloc (.cells x.cs.toArray 32) = W := ⟨_, rfl⟩
  have ka1 : Below w.heap.size w W1 := by rw [← ea1]; exact (Below.refl _ w).alloc (Nat.le_refl _) _
  have b1 : Blk W1 p1 32 x.cs.toArray := by rw [← ea1]; exact blk_new w _ 32 _ f1
  have kk : Below w.heap.size w W1 := ka1
  have hp1 : w.heap.size ≤ p1 := Nat.le_of_eq f1
  clear ka1
  obtain ⟨p2, f2⟩ : ∃ p, W1.heap.size = p := ⟨_, rfl⟩
  obtain ⟨W2, ea2⟩ : ∃ W, W1.alloc (.cells i.cs.toArray 42) = W := ⟨_, rfl⟩
  have ka2 : Below W1.heap.size W1 W2 := by rw [← ea2]; exact (Below.refl _ W1).alloc (Nat.le_refl _) _
  have b2 : Blk W2 p2 42 i.cs.toArray := by rw [← ea2]; exact blk_new W1 _ 42 _ f2
  have q1_2 : p1 < p2 := by rw [← f2]; exact b1.lt
  replace b1 := b1.on ka2
  have kk0 := kk
  replace kk := kk.trans (ka2.mono kk.size)
  have hp2 : w.heap.size ≤ p2 := by rw [← f2]; exact kk0.size
  clear ka2 kk0
  obtain ⟨p3, f3⟩ : ∃ p, W2.heap.size = p := ⟨_, rfl⟩
  obtain ⟨W3, ea3⟩ : ∃ W, W2.alloc (.cells #[.int .i64 0, .int .i64 0, .int .i64 0, .int .i64 0, .int .i64 0, .int .i64 0, .int .i64 0, .int .i64 0, .int .i64 0, .int .i64 0, .int .i64 0, .int .i64 0, .int .i64 0, .int .i64 0, .int .i64 0, .int .i64 0, .int .i64 0, .int .i64 0, .slice none 0 0, .slice none 0 0, .slice none 0 0, .int .i64 0] 32) = W := ⟨_, rfl⟩
  have ka3 : Below W2.heap.size W2 W3 := by rw [← ea3]; exact (Below.refl _ W2).alloc (Nat.le_refl _) _
  have b3 : Blk W3 p3 32 #[.int .i64 0, .int .i64 0, .int .i64 0, .int .i64 0, .int .i64 0, .int .i64 0, .int .i64 0, .int .i64 0, .int .i64 0, .int .i64 0, .int .i64 0, .int .i64 0, .int .i64 0, .int .i64 0, .int .i64 0, .int .i64 0, .int .i64 0, .int .i64 0, .slice none 0 0, .slice none 0 0, .slice none 0 0, .int .i64 0] := by rw [← ea3]; exact blk_new W2 _ 32 _ f3
  have q1_3 : p1 < p3 := by rw [← f3]; exact b1.lt
  replace b1 := b1.on ka3
  have q2_3 : p2 < p3 := by rw [← f3]; exact b2.lt
  replace b2 := b2.on ka3
  have kk0 := kk
  replace kk := kk.trans (ka3.mono kk.size)
  have hp3 : w.heap.size ≤ p3 := by rw [← f3]; exact kk0.size
  clear ka3 kk0
  have h13 : p1 ≠ p3 := by omega
  have h23 : p2 ≠ p3 := by omega
  have d1 := clone_any (h.on kk) h1 h2 h3
  go_enter Try.func23, Try.ntmps23
  go_wp2_with (((with_reducible refine at_load 32 (.tmp 2) ?_); refine wpList_load_row rfl 32 (.tmp 2) rfl p1 rfl 32 x.cs.toArray (0, 0) _ b1 Try.underlying32 rfl (sizeT _) ?_))
  refine (d1).mono ?_
  rintro e W4 ⟨A1, c1, A2, c2, A3, c3, rfl, ow, k1⟩
  replace ow := ow.mono kk.size
  replace b1 := b1.on k1
  replace b2 := b2.on k1
  replace b3 := b3.on k1
  replace kk := kk.trans (k1.mono kk.size)
  clear k1
  clear d1 f1
  obtain ⟨W5, es5⟩ : ∃ W, W4.setRow p1 (x.put ⟨A1, x.se.n, c1⟩ ⟨A2, x.bg.n, c2⟩ ⟨A3, x.sn.n, c3⟩).cs.toArray = W := ⟨_, rfl⟩
  have bo1 := b1
  replace b2 := row_far b2 es5 (by omega)
  replace b3 := row_far b3 es5 (by omega)
  replace b1 : Blk W5 p1 32 (x.put ⟨A1, x.se.n, c1⟩ ⟨A2, x.bg.n, c2⟩ ⟨A3, x.sn.n, c3⟩).cs.toArray := row_named b1 es5
  replace kk := kk.trans (row_below es5 hp1 kk.size)
  have ow_ : Own w.heap.size W5 (x.put ⟨A1, x.se.n, c1⟩ ⟨A2, x.bg.n, c2⟩ ⟨A3, x.sn.n, c3⟩) z l s := ow.off bo1 (by decide) (by decide) es5 rfl rfl rfl
  clear ow
  have ow := ow_
  clear ow_
  have bo1_ := bo1
  have c5_2_0 : W5.cell? ⟨p2, 0, none⟩ = some (.int .i64 i.op) := b2.cell 0
  go_wp2_with (((with_reducible refine at_store 32 (.tmp 2) (.tmp 7) ?_); refine wpList_store_row rfl 32 (.tmp 2) (.tmp 7) rfl p1 (x.put ⟨A1, x.se.n, c1⟩ ⟨A2, x.bg.n, c2⟩ ⟨A3, x.sn.n, c3⟩).cs.toArray rfl rfl 32 x.cs.toArray bo1_ (sizeT _) rfl (Th.onea _) ?_; rw [es5]))
  clear c5_2_0
  obtain ⟨wd, ed⟩ : ∃ W, W5.drew = W := ⟨_, rfl⟩
  have hd : Below W5.heap.size W5 wd := by rw [← ed]; exact (Below.refl _ _).drew
  replace b1 := b1.on hd
  replace b2 := b2.on hd
  replace b3 := b3.on hd
  replace ow := ow.on hd
  replace kk := kk.trans (hd.mono kk.size)
  clear hd
  have kS : Kept (fun g => g = p3) wd wd := Kept.refl _ _
  have tS : ∀ W, Kept (fun g => g = p3) wd W → W.cell? ⟨p2, 1, none⟩ = some (.int .i64 i.a) ∧ W.cell? ⟨p2, 2, none⟩ = some (.int .i64 i.b) := fun W hW => ⟨(b2.kept hW h23).cell 1, (b2.kept hW h23).cell 2⟩
  refine wp_region_noPanic ?_
  refine wp_region_held_drew (S := (fun W => Kept (fun g => g = p3) wd W)) (by kernel_rfl) (by rw [ed]; exact kS) (fun hHeld => ?_)
  rw [ed] at hHeld ⊢
  refine wpAnyH_take (i := 0) (oi := ⟨some 25, _, _, _, _, _⟩) (v := .agg (List.toArray ((x.put ⟨A1, x.se.n, c1⟩ ⟨A2, x.bg.n, c2⟩ ⟨A3, x.sn.n, c3⟩).cs))) rfl (by kernel_rfl) (by kernel_rfl) (by kernel_rfl) (fun _ _ _ h => h) (yieldsIf_load_mid (by rfl) 32 (.tmp 2) rfl p1 (0) rfl ((x.put ⟨A1, x.se.n, c1⟩ ⟨A2, x.bg.n, c2⟩ ⟨A3, x.sn.n, c3⟩).cs) _ (fun W hW => range_part (b1.kept hW h13) 0 (x.put ⟨A1, x.se.n, c1⟩ ⟨A2, x.bg.n, c2⟩ ⟨A3, x.sn.n, c3⟩).cs rfl) Try.underlying32 rfl (sizeT _)) (by assumption) ?_
  try simp only [Act.put, List.setIfInBounds_toArray, List.set_cons_zero, List.set_cons_succ]
  refine wpAnyH_take (i := 1) (oi := ⟨some 26, _, _, _, _, _⟩) (v := ?_) rfl (by kernel_rfl) (by kernel_rfl) (by kernel_rfl) (fun _ _ _ h => h) (Or.inl ⟨by rfl, ?_⟩) (by assumption) ?_
  rotate_left 1
  · (intro W hSw; go_simp <;> with_reducible rfl)
  try simp only [Act.put, List.setIfInBounds_toArray, List.set_cons_zero, List.set_cons_succ]
  refine wpAnyH_take (i := 2) (oi := ⟨some 27, _, _, _, _, _⟩) (v := ?_) rfl (by kernel_rfl) (by kernel_rfl) (by kernel_rfl) (fun _ _ _ h => h) (Or.inl ⟨by rfl, ?_⟩) (by assumption) ?_
  rotate_left 1
  · (intro W hSw; obtain ⟨q0, q1⟩ := tS W hSw; go_simp <;> with_reducible rfl)
  try simp only [Act.put, List.setIfInBounds_toArray, List.set_cons_zero, List.set_cons_succ]
  refine wpAnyH_take (i := 3) (oi := ⟨some 28, _, _, _, _, _⟩) (v := .agg (List.toArray ((x.put ⟨A1, x.se.n, c1⟩ ⟨A2, x.bg.n, c2⟩ ⟨A3, x.sn.n, c3⟩).cs))) rfl (by kernel_rfl) (by kernel_rfl) (by kernel_rfl) (fun _ _ _ h => h) (yieldsIf_load_mid (by rfl) 32 (.tmp 2) rfl p1 (0) rfl ((x.put ⟨A1, x.se.n, c1⟩ ⟨A2, x.bg.n, c2⟩ ⟨A3, x.sn.n, c3⟩).cs) _ (fun W hW => range_part (b1.kept hW h13) 0 (x.put ⟨A1, x.se.n, c1⟩ ⟨A2, x.bg.n, c2⟩ ⟨A3, x.sn.n, c3⟩).cs rfl) Try.underlying32 rfl (sizeT _)) (by assumption) ?_
  try simp only [Act.put, List.setIfInBounds_toArray, List.set_cons_zero, List.set_cons_succ]
  refine wpAnyH_take (i := 4) (oi := ⟨some 29, _, _, _, _, _⟩) (v := ?_) rfl (by kernel_rfl) (by kernel_rfl) (by kernel_rfl) (fun _ _ _ h => h) (Or.inl ⟨by rfl, ?_⟩) (by assumption) ?_
  rotate_left 1
  · (intro W hSw; go_simp <;> with_reducible rfl)
  try simp only [Act.put, List.setIfInBounds_toArray, List.set_cons_zero, List.set_cons_succ]
  refine wpAnyH_take (i := 5) (oi := ⟨some 30, _, _, _, _, _⟩) (v := ?_) rfl (by kernel_rfl) (by kernel_rfl) (by kernel_rfl) (fun _ _ _ h => h) (Or.inl ⟨by rfl, ?_⟩) (by assumption) ?_
  rotate_left 1
  · (intro W hSw; obtain ⟨q0, q1⟩ := tS W hSw; go_simp <;> with_reducible rfl)
  try simp only [Act.put, List.setIfInBounds_toArray, List.set_cons_zero, List.set_cons_succ]
  refine wpAnyH_ready (rs := [6]) (by kernel_rfl) (by simp) ?_
  refine AllReadyH.cons (o := ⟨some 31, _, _, _, _, _⟩) rfl (fun K hK => ?_) AllReadyH.nil
  go_simp
  refine (get_put x ⟨A1, x.se.n, c1⟩ ⟨A2, x.bg.n, c2⟩ ⟨A3, x.sn.n, c3⟩ wd i.b).mono ?_
  rintro e w1 ⟨rfl, hb1⟩
  have b1_1 := b1.on hb1
  have b2_1 := b2.on hb1
  have b3_1 := b3.on hb1
  have ow_1 := ow.on hb1
  have kk_1 := kk.trans (hb1.mono kk.size)
  have S1 : (fun W => Kept (fun g => g = p3) wd W) w1 := Kept.next kS (kept_below (fun _ => False) hb1) (fun _ h => h.elim)
  refine hK.out _ _ S1 (fun h1 => ?_)
  clear hHeld hK K
  try simp only [Act.put, List.setIfInBounds_toArray, List.set_cons_zero, List.set_cons_succ]
  refine wpAnyH_ready (rs := [7]) (by kernel_rfl) (by simp) ?_
  refine AllReadyH.cons (o := ⟨some 32, _, _, _, _, _⟩) rfl (fun K hK => ?_) AllReadyH.nil
  go_simp
  refine (with_put x ⟨A1, x.se.n, c1⟩ ⟨A2, x.bg.n, c2⟩ ⟨A3, x.sn.n, c3⟩ w1 i.a (regI x i.b)).mono ?_
  rintro e w2 ⟨rfl, hb2⟩
  have b1_2 := b1_1.on hb2
  have b2_2 := b2_1.on hb2
  have b3_2 := b3_1.on hb2
  have ow_2 := ow_1.on hb2
  have kk_2 := kk_1.trans (hb2.mono kk_1.size)
  have S2 : (fun W => Kept (fun g => g = p3) wd W) w2 := Kept.next S1 (kept_below (fun _ => False) hb2) (fun _ h => h.elim)
  refine hK.out _ _ S2 (fun h2 => ?_)
  clear h1 hK K
  try simp only [Act.put, List.setIfInBounds_toArray, List.set_cons_zero, List.set_cons_succ]
  refine wpAnyH_ready (rs := [8]) (by kernel_rfl) (by simp) ?_
  refine AllReadyH.cons (o := ⟨none, _, _, _, _, _⟩) rfl (fun K hK => ?_) AllReadyH.nil
  rw [if_pos (by rfl)]
  refine wp_store_row 32 (.tmp 4) (.tmp 32) rfl p3 ((setI x i.a (regI x i.b)).put ⟨A1, x.se.n, c1⟩ ⟨A2, x.bg.n, c2⟩ ⟨A3, x.sn.n, c3⟩).cs.toArray rfl rfl 32 #[.int .i64 0, .int .i64 0, .int .i64 0, .int .i64 0, .int .i64 0, .int .i64 0, .int .i64 0, .int .i64 0, .int .i64 0, .int .i64 0, .int .i64 0, .int .i64 0, .int .i64 0, .int .i64 0, .int .i64 0, .int .i64 0, .int .i64 0, .int .i64 0, .slice none 0 0, .slice none 0 0, .slice none 0 0, .int .i64 0] b3_2 (sizeT _) rfl (Th.onea _) ?_
  refine hK.out _ _ (Kept.next S2 (kept_row _ p3 _) (fun g h => .inl h)) (fun h3 => ?_)
  clear h2 hK K
  have S3 : Kept (fun g => g = p3) wd (w2.setRow p3 ((setI x i.a (regI x i.b)).put ⟨A1, x.se.n, c1⟩ ⟨A2, x.bg.n, c2⟩ ⟨A3, x.sn.n, c3⟩).cs.toArray) := Kept.next S2 (kept_row _ p3 _) (fun g h => .inl h)
  have ow_3 := ow_2.off (cs' := ((setI x i.a (regI x i.b)).put ⟨A1, x.se.n, c1⟩ ⟨A2, x.bg.n, c2⟩ ⟨A3, x.sn.n, c3⟩).cs.toArray) b3_2 (by decide) (by decide) rfl rfl rfl rfl
  have b3_3 : Blk (w2.setRow p3 ((setI x i.a (regI x i.b)).put ⟨A1, x.se.n, c1⟩ ⟨A2, x.bg.n, c2⟩ ⟨A3, x.sn.n, c3⟩).cs.toArray) p3 32 ((setI x i.a (regI x i.b)).put ⟨A1, x.se.n, c1⟩ ⟨A2, x.bg.n, c2⟩ ⟨A3, x.sn.n, c3⟩).cs.toArray := row_named b3_2 rfl
  have kk_3 := kk_2.trans (row_below (W := (w2.setRow p3 ((setI x i.a (regI x i.b)).put ⟨A1, x.se.n, c1⟩ ⟨A2, x.bg.n, c2⟩ ⟨A3, x.sn.n, c3⟩).cs.toArray)) rfl hp3 kk_2.size)
  try simp only [Act.put]
  refine wpAnyH_take (i := 9) (oi := ⟨some 5, _, _, _, _, _⟩) (v := ?_) rfl (by kernel_rfl) (by kernel_rfl) (by kernel_rfl) (fun _ _ _ h => h) (Or.inl ⟨by rfl, ?_⟩) (by assumption) ?_
  rotate_left 1
  · (intro W hSw; go_simp <;> with_reducible rfl)
  try simp only [Act.put, List.setIfInBounds_toArray, List.set_cons_zero, List.set_cons_succ]
  refine wpAnyH_done (by kernel_rfl) ?_ _
  refine NoPanic.normal ?_
  go_wp2_with fail
  refine bodyPost_ret (res23 _ _ p3 ((setI x i.a (regI x i.b)).put ⟨A1, x.se.n, c1⟩ ⟨A2, x.bg.n, c2⟩ ⟨A3, x.sn.n, c3⟩).cs.toArray (.bool true) rfl rfl b3_3 (sizeT _)) rfl ?_
  exact ⟨A1, c1, A2, c2, A3, c3, rfl, ⟨ow_3.se, ow_3.bg, ow_3.sn⟩, kk_3⟩
set_option maxRecDepth 100000 in
set_option maxHeartbeats 4000000 in
theorem loc_reck4 {w : World} {x : Th} {z s : List Int} {l : List Bg} (i : Ins) (hop : i.op = 4) (h : Reads w x z l s) (h1 : x.se.n ≤ 1000) (h2 : x.bg.n ≤ 1000) (h3 : x.sn.n ≤ 1000) :
    Calls Try.prog 23 #[.agg x.cs.toArray, .agg i.cs.toArray] w fun e w' => ∃ A1 c1 A2 c2 A3 c3, e = .returned (.tuple #[.agg ((recT x i).put ⟨A1, x.se.n, c1⟩ ⟨A2, x.bg.n, c2⟩ ⟨A3, x.sn.n, c3⟩).cs.toArray, .bool true]) ∧ Own w.heap.size w' ((recT x i).put ⟨A1, x.se.n, c1⟩ ⟨A2, x.bg.n, c2⟩ ⟨A3, x.sn.n, c3⟩) z l s ∧ Below w.heap.size w w' := by
  have t1 : (i.op == 1) = false := by rw [hop]; rfl
  have t2 : (i.op == 2) = false := by rw [hop]; rfl
  have t3 : (i.op == 3) = false := by rw [hop]; rfl
  have t4 : (i.op == 4) = true := by rw [hop]; rfl
  have hr : i.op = 4 ∨ i.op = 5 ∨ i.op = 6 ∨ i.op = 7 := by omega
  clear hop
  obtain ⟨p1, f1⟩ : ∃ p, w.heap.size = p := ⟨_, rfl⟩
  obtain ⟨W1, ea1⟩ : ∃ W, w.alloc (.cells x.cs.toArray 32) = W := ⟨_, rfl⟩
  have ka1 : Below w.heap.size w W1 := by rw [← ea1]; exact (Below.refl _ w).alloc (Nat.le_refl _) _
  have b1 : Blk W1 p1 32 x.cs.toArray := by rw [← ea1]; exact blk_new w _ 32 _ f1
  have kk : Below w.heap.size w W1 := ka1
  have hp1 : w.heap.size ≤ p1 := Nat.le_of_eq f1
  clear ka1
  obtain ⟨p2, f2⟩ : ∃ p, W1.heap.size = p := ⟨_, rfl⟩
  obtain ⟨W2, ea2⟩ : ∃ W, W1.alloc (.cells i.cs.toArray 42) = W := ⟨_, rfl⟩
  have ka2 : Below W1.heap.size W1 W2 := by rw [← ea2]; exact (Below.refl _ W1).alloc (Nat.le_refl _) _
  have b2 : Blk W2 p2 42 i.cs.toArray := by rw [← ea2]; exact blk_new W1 _ 42 _ f2
  have q1_2 : p1 < p2 := by rw [← f2]; exact b1.lt
  replace b1 := b1.on ka2
  have kk0 := kk
  replace kk := kk.trans (ka2.mono kk.size)
  have hp2 : w.heap.size ≤ p2 := by rw [← f2]; exact kk0.size
  clear ka2 kk0
  obtain ⟨p3, f3⟩ : ∃ p, W2.heap.size = p := ⟨_, rfl⟩
  obtain ⟨W3, ea3⟩ : ∃ W, W2.alloc (.cells #[.int .i64 0, .int .i64 0, .int .i64 0, .int .i64 0, .int .i64 0, .int .i64 0, .int .i64 0, .int .i64 0, .int .i64 0, .int .i64 0, .int .i64 0, .int .i64 0, .int .i64 0, .int .i64 0, .int .i64 0, .int .i64 0, .int .i64 0, .int .i64 0, .slice none 0 0, .slice none 0 0, .slice none 0 0, .int .i64 0] 32) = W := ⟨_, rfl⟩
  have ka3 : Below W2.heap.size W2 W3 := by rw [← ea3]; exact (Below.refl _ W2).alloc (Nat.le_refl _) _
  have b3 : Blk W3 p3 32 #[.int .i64 0, .int .i64 0, .int .i64 0, .int .i64 0, .int .i64 0, .int .i64 0, .int .i64 0, .int .i64 0, .int .i64 0, .int .i64 0, .int .i64 0, .int .i64 0, .int .i64 0, .int .i64 0, .int .i64 0, .int .i64 0, .int .i64 0, .int .i64 0, .slice none 0 0, .slice none 0 0, .slice none 0 0, .int .i64 0] := by rw [← ea3]; exact blk_new W2 _ 32 _ f3
  have q1_3 : p1 < p3 := by rw [← f3]; exact b1.lt
  replace b1 := b1.on ka3
  have q2_3 : p2 < p3 := by rw [← f3]; exact b2.lt
  replace b2 := b2.on ka3
  have kk0 := kk
  replace kk := kk.trans (ka3.mono kk.size)
  have hp3 : w.heap.size ≤ p3 := by rw [← f3]; exact kk0.size
  clear ka3 kk0
  have h13 : p1 ≠ p3 := by omega
  have h23 : p2 ≠ p3 := by omega
  have d1 := clone_any (h.on kk) h1 h2 h3
  go_enter Try.func23, Try.ntmps23
  go_wp2_with (((with_reducible refine at_load 32 (.tmp 2) ?_); refine wpList_load_row rfl 32 (.tmp 2) rfl p1 rfl 32 x.cs.toArray (0, 0) _ b1 Try.underlying32 rfl (sizeT _) ?_))
  refine (d1).mono ?_
  rintro e W4 ⟨A1, c1, A2, c2, A3, c3, rfl, ow, k1⟩
  replace ow := ow.mono kk.size
  replace b1 := b1.on k1
  replace b2 := b2.on k1
  replace b3 := b3.on k1
  replace kk := kk.trans (k1.mono kk.size)
  clear k1
  clear d1 f1
  obtain ⟨W5, es5⟩ : ∃ W, W4.setRow p1 (x.put ⟨A1, x.se.n, c1⟩ ⟨A2, x.bg.n, c2⟩ ⟨A3, x.sn.n, c3⟩).cs.toArray = W := ⟨_, rfl⟩
  have bo1 := b1
  replace b2 := row_far b2 es5 (by omega)
  replace b3 := row_far b3 es5 (by omega)
  replace b1 : Blk W5 p1 32 (x.put ⟨A1, x.se.n, c1⟩ ⟨A2, x.bg.n, c2⟩ ⟨A3, x.sn.n, c3⟩).cs.toArray := row_named b1 es5
  replace kk := kk.trans (row_below es5 hp1 kk.size)
  have ow_ : Own w.heap.size W5 (x.put ⟨A1, x.se.n, c1⟩ ⟨A2, x.bg.n, c2⟩ ⟨A3, x.sn.n, c3⟩) z l s := ow.off bo1 (by decide) (by decide) es5 rfl rfl rfl
  clear ow
  have ow := ow_
  clear ow_
  have bo1_ := bo1
  have c5_2_0 : W5.cell? ⟨p2, 0, none⟩ = some (.int .i64 i.op) := b2.cell 0
  go_wp2_with (first | ((with_reducible refine at_store 32 (.tmp 2) (.tmp 7) ?_); refine wpList_store_row rfl 32 (.tmp 2) (.tmp 7) rfl p1 (x.put ⟨A1, x.se.n, c1⟩ ⟨A2, x.bg.n, c2⟩ ⟨A3, x.sn.n, c3⟩).cs.toArray rfl rfl 32 x.cs.toArray bo1_ (sizeT _) rfl (Th.onea _) ?_; rw [es5]) | ((with_reducible refine at_load 32 (.tmp 2) ?_); refine wpList_load_row rfl 32 (.tmp 2) rfl p1 rfl 32 (x.put ⟨A1, x.se.n, c1⟩ ⟨A2, x.bg.n, c2⟩ ⟨A3, x.sn.n, c3⟩).cs.toArray (0, 0) _ b1 Try.underlying32 rfl (sizeT _) ?_) | ((with_reducible refine at_load 42 (.tmp 3) ?_); refine wpList_load_row rfl 42 (.tmp 3) rfl p2 rfl 42 i.cs.toArray (0, 0) _ b2 Try.underlying42 rfl size42 ?_))
  refine (reck_put x ⟨A1, x.se.n, c1⟩ ⟨A2, x.bg.n, c2⟩ ⟨A3, x.sn.n, c3⟩ i hr _).mono ?_
  rintro e W6 ⟨rfl, k1⟩
  clear c5_2_0
  replace b1 := b1.on k1
  replace b2 := b2.on k1
  replace b3 := b3.on k1
  replace ow := ow.on k1
  replace kk := kk.trans (k1.mono kk.size)
  clear k1
  obtain ⟨W7, es7⟩ : ∃ W, W6.setRow p3 ((recT x i).put ⟨A1, x.se.n, c1⟩ ⟨A2, x.bg.n, c2⟩ ⟨A3, x.sn.n, c3⟩).cs.toArray = W := ⟨_, rfl⟩
  have bo3 := b3
  replace b1 := row_far b1 es7 (by omega)
  replace b2 := row_far b2 es7 (by omega)
  replace b3 : Blk W7 p3 32 ((recT x i).put ⟨A1, x.se.n, c1⟩ ⟨A2, x.bg.n, c2⟩ ⟨A3, x.sn.n, c3⟩).cs.toArray := row_named b3 es7
  replace kk := kk.trans (row_below es7 hp3 kk.size)
  replace ow := ow.off bo3 (by decide) (by decide) es7 rfl rfl rfl
  go_wp2_with (((with_reducible refine at_store 32 (.tmp 4) (.tmp 40) ?_); refine wpList_store_row rfl 32 (.tmp 4) (.tmp 40) rfl p3 ((recT x i).put ⟨A1, x.se.n, c1⟩ ⟨A2, x.bg.n, c2⟩ ⟨A3, x.sn.n, c3⟩).cs.toArray rfl rfl 32 #[.int .i64 0, .int .i64 0, .int .i64 0, .int .i64 0, .int .i64 0, .int .i64 0, .int .i64 0, .int .i64 0, .int .i64 0, .int .i64 0, .int .i64 0, .int .i64 0, .int .i64 0, .int .i64 0, .int .i64 0, .int .i64 0, .int .i64 0, .int .i64 0, .slice none 0 0, .slice none 0 0, .slice none 0 0, .int .i64 0] bo3 (sizeT _) rfl (Th.onea _) ?_; rw [es7]))
  refine bodyPost_ret (res23 _ _ p3 ((recT x i).put ⟨A1, x.se.n, c1⟩ ⟨A2, x.bg.n, c2⟩ ⟨A3, x.sn.n, c3⟩).cs.toArray (.bool true) rfl rfl b3 (sizeT _)) rfl ?_
  exact ⟨A1, c1, A2, c2, A3, c3, rfl, ⟨ow.se, ow.bg, ow.sn⟩, kk⟩
set_option maxRecDepth 100000 in
set_option maxHeartbeats 4000000 in
theorem loc_reck5 {w : World} {x : Th} {z s : List Int} {l : List Bg} (i : Ins) (hop : i.op = 5) (h : Reads w x z l s) (h1 : x.se.n ≤ 1000) (h2 : x.bg.n ≤ 1000) (h3 : x.sn.n ≤ 1000) :
    Calls Try.prog 23 #[.agg x.cs.toArray, .agg i.cs.toArray] w fun e w' => ∃ A1 c1 A2 c2 A3 c3, e = .returned (.tuple #[.agg ((recT x i).put ⟨A1, x.se.n, c1⟩ ⟨A2, x.bg.n, c2⟩ ⟨A3, x.sn.n, c3⟩).cs.toArray, .bool true]) ∧ Own w.heap.size w' ((recT x i).put ⟨A1, x.se.n, c1⟩ ⟨A2, x.bg.n, c2⟩ ⟨A3, x.sn.n, c3⟩) z l s ∧ Below w.heap.size w w' := by
  have t1 : (i.op == 1) = false := by rw [hop]; rfl
  have t2 : (i.op == 2) = false := by rw [hop]; rfl
  have t3 : (i.op == 3) = false := by rw [hop]; rfl
  have t4 : (i.op == 4) = false := by rw [hop]; rfl
  have t5 : (i.op == 5) = true := by rw [hop]; rfl
  have hr : i.op = 4 ∨ i.op = 5 ∨ i.op = 6 ∨ i.op = 7 := by omega
  clear hop
  obtain ⟨p1, f1⟩ : ∃ p, w.heap.size = p := ⟨_, rfl⟩
  obtain ⟨W1, ea1⟩ : ∃ W, w.alloc (.cells x.cs.toArray 32) = W := ⟨_, rfl⟩
  have ka1 : Below w.heap.size w W1 := by rw [← ea1]; exact (Below.refl _ w).alloc (Nat.le_refl _) _
  have b1 : Blk W1 p1 32 x.cs.toArray := by rw [← ea1]; exact blk_new w _ 32 _ f1
  have kk : Below w.heap.size w W1 := ka1
  have hp1 : w.heap.size ≤ p1 := Nat.le_of_eq f1
  clear ka1
  obtain ⟨p2, f2⟩ : ∃ p, W1.heap.size = p := ⟨_, rfl⟩
  obtain ⟨W2, ea2⟩ : ∃ W, W1.alloc (.cells i.cs.toArray 42) = W := ⟨_, rfl⟩
  have ka2 : Below W1.heap.size W1 W2 := by rw [← ea2]; exact (Below.refl _ W1).alloc (Nat.le_refl _) _
  have b2 : Blk W2 p2 42 i.cs.toArray := by rw [← ea2]; exact blk_new W1 _ 42 _ f2
  have q1_2 : p1 < p2 := by rw [← f2]; exact b1.lt
  replace b1 := b1.on ka2
  have kk0 := kk
  replace kk := kk.trans (ka2.mono kk.size)
  have hp2 : w.heap.size ≤ p2 := by rw [← f2]; exact kk0.size
  clear ka2 kk0
  obtain ⟨p3, f3⟩ : ∃ p, W2.heap.size = p := ⟨_, rfl⟩
  obtain ⟨W3, ea3⟩ : ∃ W, W2.alloc (.cells #[.int .i64 0, .int .i64 0, .int .i64 0, .int .i64 0, .int .i64 0, .int .i64 0, .int .i64 0, .int .i64 0, .int .i64 0, .int .i64 0, .int .i64 0, .int .i64 0, .int .i64 0, .int .i64 0, .int .i64 0, .int .i64 0, .int .i64 0, .int .i64 0, .slice none 0 0, .slice none 0 0, .slice none 0 0, .int .i64 0] 32) = W := ⟨_, rfl⟩
  have ka3 : Below W2.heap.size W2 W3 := by rw [← ea3]; exact (Below.refl _ W2).alloc (Nat.le_refl _) _
  have b3 : Blk W3 p3 32 #[.int .i64 0, .int .i64 0, .int .i64 0, .int .i64 0, .int .i64 0, .int .i64 0, .int .i64 0, .int .i64 0, .int .i64 0, .int .i64 0, .int .i64 0, .int .i64 0, .int .i64 0, .int .i64 0, .int .i64 0, .int .i64 0, .int .i64 0, .int .i64 0, .slice none 0 0, .slice none 0 0, .slice none 0 0, .int .i64 0] := by rw [← ea3]; exact blk_new W2 _ 32 _ f3
  have q1_3 : p1 < p3 := by rw [← f3]; exact b1.lt
  replace b1 := b1.on ka3
  have q2_3 : p2 < p3 := by rw [← f3]; exact b2.lt
  replace b2 := b2.on ka3
  have kk0 := kk
  replace kk := kk.trans (ka3.mono kk.size)
  have hp3 : w.heap.size ≤ p3 := by rw [← f3]; exact kk0.size
  clear ka3 kk0
  have h13 : p1 ≠ p3 := by omega
  have h23 : p2 ≠ p3 := by omega
  have d1 := clone_any (h.on kk) h1 h2 h3
  go_enter Try.func23, Try.ntmps23
  go_wp2_with (((with_reducible refine at_load 32 (.tmp 2) ?_); refine wpList_load_row rfl 32 (.tmp 2) rfl p1 rfl 32 x.cs.toArray (0, 0) _ b1 Try.underlying32 rfl (sizeT _) ?_))
  refine (d1).mono ?_
  rintro e W4 ⟨A1, c1, A2, c2, A3, c3, rfl, ow, k1⟩
  replace ow := ow.mono kk.size
  replace b1 := b1.on k1
  replace b2 := b2.on k1
  replace b3 := b3.on k1
  replace kk := kk.trans (k1.mono kk.size)
  clear k1
  clear d1 f1
  obtain ⟨W5, es5⟩ : ∃ W, W4.setRow p1 (x.put ⟨A1, x.se.n, c1⟩ ⟨A2, x.bg.n, c2⟩ ⟨A3, x.sn.n, c3⟩).cs.toArray = W := ⟨_, rfl⟩
  have bo1 := b1
  replace b2 := row_far b2 es5 (by omega)
  replace b3 := row_far b3 es5 (by omega)
  replace b1 : Blk W5 p1 32 (x.put ⟨A1, x.se.n, c1⟩ ⟨A2, x.bg.n, c2⟩ ⟨A3, x.sn.n, c3⟩).cs.toArray := row_named b1 es5
  replace kk := kk.trans (row_below es5 hp1 kk.size)
  have ow_ : Own w.heap.size W5 (x.put ⟨A1, x.se.n, c1⟩ ⟨A2, x.bg.n, c2⟩ ⟨A3, x.sn.n, c3⟩) z l s := ow.off bo1 (by decide) (by decide) es5 rfl rfl rfl
  clear ow
  have ow := ow_
  clear ow_
  have bo1_ := bo1
  have c5_2_0 : W5.cell? ⟨p2, 0, none⟩ = some (.int .i64 i.op) := b2.cell 0
  go_wp2_with (first | ((with_reducible refine at_store 32 (.tmp 2) (.tmp 7) ?_); refine wpList_store_row rfl 32 (.tmp 2) (.tmp 7) rfl p1 (x.put ⟨A1, x.se.n, c1⟩ ⟨A2, x.bg.n, c2⟩ ⟨A3, x.sn.n, c3⟩).cs.toArray rfl rfl 32 x.cs.toArray bo1_ (sizeT _) rfl (Th.onea _) ?_; rw [es5]) | ((with_reducible refine at_load 32 (.tmp 2) ?_); refine wpList_load_row rfl 32 (.tmp 2) rfl p1 rfl 32 (x.put ⟨A1, x.se.n, c1⟩ ⟨A2, x.bg.n, c2⟩ ⟨A3, x.sn.n, c3⟩).cs.toArray (0, 0) _ b1 Try.underlying32 rfl (sizeT _) ?_) | ((with_reducible refine at_load 42 (.tmp 3) ?_); refine wpList_load_row rfl 42 (.tmp 3) rfl p2 rfl 42 i.cs.toArray (0, 0) _ b2 Try.underlying42 rfl size42 ?_))
  refine (reck_put x ⟨A1, x.se.n, c1⟩ ⟨A2, x.bg.n, c2⟩ ⟨A3, x.sn.n, c3⟩ i hr _).mono ?_
  rintro e W6 ⟨rfl, k1⟩
  clear c5_2_0
  replace b1 := b1.on k1
  replace b2 := b2.on k1
  replace b3 := b3.on k1
  replace ow := ow.on k1
  replace kk := kk.trans (k1.mono kk.size)
  clear k1
  obtain ⟨W7, es7⟩ : ∃ W, W6.setRow p3 ((recT x i).put ⟨A1, x.se.n, c1⟩ ⟨A2, x.bg.n, c2⟩ ⟨A3, x.sn.n, c3⟩).cs.toArray = W := ⟨_, rfl⟩
  have bo3 := b3
  replace b1 := row_far b1 es7 (by omega)
  replace b2 := row_far b2 es7 (by omega)
  replace b3 : Blk W7 p3 32 ((recT x i).put ⟨A1, x.se.n, c1⟩ ⟨A2, x.bg.n, c2⟩ ⟨A3, x.sn.n, c3⟩).cs.toArray := row_named b3 es7
  replace kk := kk.trans (row_below es7 hp3 kk.size)
  replace ow := ow.off bo3 (by decide) (by decide) es7 rfl rfl rfl
  go_wp2_with (((with_reducible refine at_store 32 (.tmp 4) (.tmp 40) ?_); refine wpList_store_row rfl 32 (.tmp 4) (.tmp 40) rfl p3 ((recT x i).put ⟨A1, x.se.n, c1⟩ ⟨A2, x.bg.n, c2⟩ ⟨A3, x.sn.n, c3⟩).cs.toArray rfl rfl 32 #[.int .i64 0, .int .i64 0, .int .i64 0, .int .i64 0, .int .i64 0, .int .i64 0, .int .i64 0, .int .i64 0, .int .i64 0, .int .i64 0, .int .i64 0, .int .i64 0, .int .i64 0, .int .i64 0, .int .i64 0, .int .i64 0, .int .i64 0, .int .i64 0, .slice none 0 0, .slice none 0 0, .slice none 0 0, .int .i64 0] bo3 (sizeT _) rfl (Th.onea _) ?_; rw [es7]))
  refine bodyPost_ret (res23 _ _ p3 ((recT x i).put ⟨A1, x.se.n, c1⟩ ⟨A2, x.bg.n, c2⟩ ⟨A3, x.sn.n, c3⟩).cs.toArray (.bool true) rfl rfl b3 (sizeT _)) rfl ?_
  exact ⟨A1, c1, A2, c2, A3, c3, rfl, ⟨ow.se, ow.bg, ow.sn⟩, kk⟩
set_option maxRecDepth 100000 in
set_option maxHeartbeats 4000000 in
theorem loc_reck6 {w : World} {x : Th} {z s : List Int} {l : List Bg} (i : Ins) (hop : i.op = 6) (h : Reads w x z l s) (h1 : x.se.n ≤ 1000) (h2 : x.bg.n ≤ 1000) (h3 : x.sn.n ≤ 1000) :
    Calls Try.prog 23 #[.agg x.cs.toArray, .agg i.cs.toArray] w fun e w' => ∃ A1 c1 A2 c2 A3 c3, e = .returned (.tuple #[.agg ((recT x i).put ⟨A1, x.se.n, c1⟩ ⟨A2, x.bg.n, c2⟩ ⟨A3, x.sn.n, c3⟩).cs.toArray, .bool true]) ∧ Own w.heap.size w' ((recT x i).put ⟨A1, x.se.n, c1⟩ ⟨A2, x.bg.n, c2⟩ ⟨A3, x.sn.n, c3⟩) z l s ∧ Below w.heap.size w w' := by
  have t1 : (i.op == 1) = false := by rw [hop]; rfl
  have t2 : (i.op == 2) = false := by rw [hop]; rfl
  have t3 : (i.op == 3) = false := by rw [hop]; rfl
  have t4 : (i.op == 4) = false := by rw [hop]; rfl
  have t5 : (i.op == 5) = false := by rw [hop]; rfl
  have t6 : (i.op == 6) = true := by rw [hop]; rfl
  have hr : i.op = 4 ∨ i.op = 5 ∨ i.op = 6 ∨ i.op = 7 := by omega
  clear hop
  obtain ⟨p1, f1⟩ : ∃ p, w.heap.size = p := ⟨_, rfl⟩
  obtain ⟨W1, ea1⟩ : ∃ W, w.alloc (.cells x.cs.toArray 32) = W := ⟨_, rfl⟩
  have ka1 : Below w.heap.size w W1 := by rw [← ea1]; exact (Below.refl _ w).alloc (Nat.le_refl _) _
  have b1 : Blk W1 p1 32 x.cs.toArray := by rw [← ea1]; exact blk_new w _ 32 _ f1
  have kk : Below w.heap.size w W1 := ka1
  have hp1 : w.heap.size ≤ p1 := Nat.le_of_eq f1
  clear ka1
  obtain ⟨p2, f2⟩ : ∃ p, W1.heap.size = p := ⟨_, rfl⟩
  obtain ⟨W2, ea2⟩ : ∃ W, W1.alloc (.cells i.cs.toArray 42) = W := ⟨_, rfl⟩
  have ka2 : Below W1.heap.size W1 W2 := by rw [← ea2]; exact (Below.refl _ W1).alloc (Nat.le_refl _) _
  have b2 : Blk W2 p2 42 i.cs.toArray := by rw [← ea2]; exact blk_new W1 _ 42 _ f2
  have q1_2 : p1 < p2 := by rw [← f2]; exact b1.lt
  replace b1 := b1.on ka2
  have kk0 := kk
  replace kk := kk.trans (ka2.mono kk.size)
  have hp2 : w.heap.size ≤ p2 := by rw [← f2]; exact kk0.size
  clear ka2 kk0
  obtain ⟨p3, f3⟩ : ∃ p, W2.heap.size = p := ⟨_, rfl⟩
  obtain ⟨W3, ea3⟩ : ∃ W, W2.alloc (.cells #[.int .i64 0, .int .i64 0, .int .i64 0, .int .i64 0, .int .i64 0, .int .i64 0, .int .i64 0, .int .i64 0, .int .i64 0, .int .i64 0, .int .i64 0, .int .i64 0, .int .i64 0, .int .i64 0, .int .i64 0, .int .i64 0, .int .i64 0, .int .i64 0, .slice none 0 0, .slice none 0 0, .slice none 0 0, .int .i64 0] 32) = W := ⟨_, rfl⟩
  have ka3 : Below W2.heap.size W2 W3 := by rw [← ea3]; exact (Below.refl _ W2).alloc (Nat.le_refl _) _
  have b3 : Blk W3 p3 32 #[.int .i64 0, .int .i64 0, .int .i64 0, .int .i64 0, .int .i64 0, .int .i64 0, .int .i64 0, .int .i64 0, .int .i64 0, .int .i64 0, .int .i64 0, .int .i64 0, .int .i64 0, .int .i64 0, .int .i64 0, .int .i64 0, .int .i64 0, .int .i64 0, .slice none 0 0, .slice none 0 0, .slice none 0 0, .int .i64 0] := by rw [← ea3]; exact blk_new W2 _ 32 _ f3
  have q1_3 : p1 < p3 := by rw [← f3]; exact b1.lt
  replace b1 := b1.on ka3
  have q2_3 : p2 < p3 := by rw [← f3]; exact b2.lt
  replace b2 := b2.on ka3
  have kk0 := kk
  replace kk := kk.trans (ka3.mono kk.size)
  have hp3 : w.heap.size ≤ p3 := by rw [← f3]; exact kk0.size
  clear ka3 kk0
  have h13 : p1 ≠ p3 := by omega
  have h23 : p2 ≠ p3 := by omega
  have d1 := clone_any (h.on kk) h1 h2 h3
  go_enter Try.func23, Try.ntmps23
  go_wp2_with (((with_reducible refine at_load 32 (.tmp 2) ?_); refine wpList_load_row rfl 32 (.tmp 2) rfl p1 rfl 32 x.cs.toArray (0, 0) _ b1 Try.underlying32 rfl (sizeT _) ?_))
  refine (d1).mono ?_
  rintro e W4 ⟨A1, c1, A2, c2, A3, c3, rfl, ow, k1⟩
  replace ow := ow.mono kk.size
  replace b1 := b1.on k1
  replace b2 := b2.on k1
  replace b3 := b3.on k1
  replace kk := kk.trans (k1.mono kk.size)
  clear k1
  clear d1 f1
  obtain ⟨W5, es5⟩ : ∃ W, W4.setRow p1 (x.put ⟨A1, x.se.n, c1⟩ ⟨A2, x.bg.n, c2⟩ ⟨A3, x.sn.n, c3⟩).cs.toArray = W := ⟨_, rfl⟩
  have bo1 := b1
  replace b2 := row_far b2 es5 (by omega)
  replace b3 := row_far b3 es5 (by omega)
  replace b1 : Blk W5 p1 32 (x.put ⟨A1, x.se.n, c1⟩ ⟨A2, x.bg.n, c2⟩ ⟨A3, x.sn.n, c3⟩).cs.toArray := row_named b1 es5
  replace kk := kk.trans (row_below es5 hp1 kk.size)
  have ow_ : Own w.heap.size W5 (x.put ⟨A1, x.se.n, c1⟩ ⟨A2, x.bg.n, c2⟩ ⟨A3, x.sn.n, c3⟩) z l s := ow.off bo1 (by decide) (by decide) es5 rfl rfl rfl
  clear ow
  have ow := ow_
  clear ow_
  have bo1_ := bo1
  have c5_2_0 : W5.cell? ⟨p2, 0, none⟩ = some (.int .i64 i.op) := b2.cell 0
  go_wp2_with (first | ((with_reducible refine at_store 32 (.tmp 2) (.tmp 7) ?_); refine wpList_store_row rfl 32 (.tmp 2) (.tmp 7) rfl p1 (x.put ⟨A1, x.se.n, c1⟩ ⟨A2, x.bg.n, c2⟩ ⟨A3, x.sn.n, c3⟩).cs.toArray rfl rfl 32 x.cs.toArray bo1_ (sizeT _) rfl (Th.onea _) ?_; rw [es5]) | ((with_reducible refine at_load 32 (.tmp 2) ?_); refine wpList_load_row rfl 32 (.tmp 2) rfl p1 rfl 32 (x.put ⟨A1, x.se.n, c1⟩ ⟨A2, x.bg.n, c2⟩ ⟨A3, x.sn.n, c3⟩).cs.toArray (0, 0) _ b1 Try.underlying32 rfl (sizeT _) ?_) | ((with_reducible refine at_load 42 (.tmp 3) ?_); refine wpList_load_row rfl 42 (.tmp 3) rfl p2 rfl 42 i.cs.toArray (0, 0) _ b2 Try.underlying42 rfl size42 ?_))
  refine (reck_put x ⟨A1, x.se.n, c1⟩ ⟨A2, x.bg.n, c2⟩ ⟨A3, x.sn.n, c3⟩ i hr _).mono ?_
  rintro e W6 ⟨rfl, k1⟩
  clear c5_2_0
  replace b1 := b1.on k1
  replace b2 := b2.on k1
  replace b3 := b3.on k1
  replace ow := ow.on k1
  replace kk := kk.trans (k1.mono kk.size)
  clear k1
  obtain ⟨W7, es7⟩ : ∃ W, W6.setRow p3 ((recT x i).put ⟨A1, x.se.n, c1⟩ ⟨A2, x.bg.n, c2⟩ ⟨A3, x.sn.n, c3⟩).cs.toArray = W := ⟨_, rfl⟩
  have bo3 := b3
  replace b1 := row_far b1 es7 (by omega)
  replace b2 := row_far b2 es7 (by omega)
  replace b3 : Blk W7 p3 32 ((recT x i).put ⟨A1, x.se.n, c1⟩ ⟨A2, x.bg.n, c2⟩ ⟨A3, x.sn.n, c3⟩).cs.toArray := row_named b3 es7
  replace kk := kk.trans (row_below es7 hp3 kk.size)
  replace ow := ow.off bo3 (by decide) (by decide) es7 rfl rfl rfl
  go_wp2_with (((with_reducible refine at_store 32 (.tmp 4) (.tmp 40) ?_); refine wpList_store_row rfl 32 (.tmp 4) (.tmp 40) rfl p3 ((recT x i).put ⟨A1, x.se.n, c1⟩ ⟨A2, x.bg.n, c2⟩ ⟨A3, x.sn.n, c3⟩).cs.toArray rfl rfl 32 #[.int .i64 0, .int .i64 0, .int .i64 0, .int .i64 0, .int .i64 0, .int .i64 0, .int .i64 0, .int .i64 0, .int .i64 0, .int .i64 0, .int .i64 0, .int .i64 0, .int .i64 0, .int .i64 0, .int .i64 0, .int .i64 0, .int .i64 0, .int .i64 0, .slice none 0 0, .slice none 0 0, .slice none 0 0, .int .i64 0] bo3 (sizeT _) rfl (Th.onea _) ?_; rw [es7]))
  refine bodyPost_ret (res23 _ _ p3 ((recT x i).put ⟨A1, x.se.n, c1⟩ ⟨A2, x.bg.n, c2⟩ ⟨A3, x.sn.n, c3⟩).cs.toArray (.bool true) rfl rfl b3 (sizeT _)) rfl ?_
  exact ⟨A1, c1, A2, c2, A3, c3, rfl, ⟨ow.se, ow.bg, ow.sn⟩, kk⟩
set_option maxRecDepth 100000 in
set_option maxHeartbeats 4000000 in
theorem loc_reck7 {w : World} {x : Th} {z s : List Int} {l : List Bg} (i : Ins) (hop : i.op = 7) (h : Reads w x z l s) (h1 : x.se.n ≤ 1000) (h2 : x.bg.n ≤ 1000) (h3 : x.sn.n ≤ 1000) :
    Calls Try.prog 23 #[.agg x.cs.toArray, .agg i.cs.toArray] w fun e w' => ∃ A1 c1 A2 c2 A3 c3, e = .returned (.tuple #[.agg ((recT x i).put ⟨A1, x.se.n, c1⟩ ⟨A2, x.bg.n, c2⟩ ⟨A3, x.sn.n, c3⟩).cs.toArray, .bool true]) ∧ Own w.heap.size w' ((recT x i).put ⟨A1, x.se.n, c1⟩ ⟨A2, x.bg.n, c2⟩ ⟨A3, x.sn.n, c3⟩) z l s ∧ Below w.heap.size w w' := by
  have t1 : (i.op == 1) = false := by rw [hop]; rfl
  have t2 : (i.op == 2) = false := by rw [hop]; rfl
  have t3 : (i.op == 3) = false := by rw [hop]; rfl
  have t4 : (i.op == 4) = false := by rw [hop]; rfl
  have t5 : (i.op == 5) = false := by rw [hop]; rfl
  have t6 : (i.op == 6) = false := by rw [hop]; rfl
  have t7 : (i.op == 7) = true := by rw [hop]; rfl
  have hr : i.op = 4 ∨ i.op = 5 ∨ i.op = 6 ∨ i.op = 7 := by omega
  clear hop
  obtain ⟨p1, f1⟩ : ∃ p, w.heap.size = p := ⟨_, rfl⟩
  obtain ⟨W1, ea1⟩ : ∃ W, w.alloc (.cells x.cs.toArray 32) = W := ⟨_, rfl⟩
  have ka1 : Below w.heap.size w W1 := by rw [← ea1]; exact (Below.refl _ w).alloc (Nat.le_refl _) _
  have b1 : Blk W1 p1 32 x.cs.toArray := by rw [← ea1]; exact blk_new w _ 32 _ f1
  have kk : Below w.heap.size w W1 := ka1
  have hp1 : w.heap.size ≤ p1 := Nat.le_of_eq f1
  clear ka1
  obtain ⟨p2, f2⟩ : ∃ p, W1.heap.size = p := ⟨_, rfl⟩
  obtain ⟨W2, ea2⟩ : ∃ W, W1.alloc (.cells i.cs.toArray 42) = W := ⟨_, rfl⟩
  have ka2 : Below W1.heap.size W1 W2 := by rw [← ea2]; exact (Below.refl _ W1).alloc (Nat.le_refl _) _
  have b2 : Blk W2 p2 42 i.cs.toArray := by rw [← ea2]; exact blk_new W1 _ 42 _ f2
  have q1_2 : p1 < p2 := by rw [← f2]; exact b1.lt
  replace b1 := b1.on ka2
  have kk0 := kk
  replace kk := kk.trans (ka2.mono kk.size)
  have hp2 : w.heap.size ≤ p2 := by rw [← f2]; exact kk0.size
  clear ka2 kk0
  obtain ⟨p3, f3⟩ : ∃ p, W2.heap.size = p := ⟨_, rfl⟩
  obtain ⟨W3, ea3⟩ : ∃ W, W2.alloc (.cells #[.int .i64 0, .int .i64 0, .int .i64 0, .int .i64 0, .int .i64 0, .int .i64 0, .int .i64 0, .int .i64 0, .int .i64 0, .int .i64 0, .int .i64 0, .int .i64 0, .int .i64 0, .int .i64 0, .int .i64 0, .int .i64 0, .int .i64 0, .int .i64 0, .slice none 0 0, .slice none 0 0, .slice none 0 0, .int .i64 0] 32) = W := ⟨_, rfl⟩
  have ka3 : Below W2.heap.size W2 W3 := by rw [← ea3]; exact (Below.refl _ W2).alloc (Nat.le_refl _) _
  have b3 : Blk W3 p3 32 #[.int .i64 0, .int .i64 0, .int .i64 0, .int .i64 0, .int .i64 0, .int .i64 0, .int .i64 0, .int .i64 0, .int .i64 0, .int .i64 0, .int .i64 0, .int .i64 0, .int .i64 0, .int .i64 0, .int .i64 0, .int .i64 0, .int .i64 0, .int .i64 0, .slice none 0 0, .slice none 0 0, .slice none 0 0, .int .i64 0] := by rw [← ea3]; exact blk_new W2 _ 32 _ f3
  have q1_3 : p1 < p3 := by rw [← f3]; exact b1.lt
  replace b1 := b1.on ka3
  have q2_3 : p2 < p3 := by rw [← f3]; exact b2.lt
  replace b2 := b2.on ka3
  have kk0 := kk
  replace kk := kk.trans (ka3.mono kk.size)
  have hp3 : w.heap.size ≤ p3 := by rw [← f3]; exact kk0.size
  clear ka3 kk0
  have h13 : p1 ≠ p3 := by omega
  have h23 : p2 ≠ p3 := by omega
  have d1 := clone_any (h.on kk) h1 h2 h3
  go_enter Try.func23, Try.ntmps23
  go_wp2_with (((with_reducible refine at_load 32 (.tmp 2) ?_); refine wpList_load_row rfl 32 (.tmp 2) rfl p1 rfl 32 x.cs.toArray (0, 0) _ b1 Try.underlying32 rfl (sizeT _) ?_))
  refine (d1).mono ?_
  rintro e W4 ⟨A1, c1, A2, c2, A3, c3, rfl, ow, k1⟩
  replace ow := ow.mono kk.size
  replace b1 := b1.on k1
  replace b2 := b2.on k1
  replace b3 := b3.on k1
  replace kk := kk.trans (k1.mono kk.size)
  clear k1
  clear d1 f1
  obtain ⟨W5, es5⟩ : ∃ W, W4.setRow p1 (x.put ⟨A1, x.se.n, c1⟩ ⟨A2, x.bg.n, c2⟩ ⟨A3, x.sn.n, c3⟩).cs.toArray = W := ⟨_, rfl⟩
  have bo1 := b1
  replace b2 := row_far b2 es5 (by omega)
  replace b3 := row_far b3 es5 (by omega)
  replace b1 : Blk W5 p1 32 (x.put ⟨A1, x.se.n, c1⟩ ⟨A2, x.bg.n, c2⟩ ⟨A3, x.sn.n, c3⟩).cs.toArray := row_named b1 es5
  replace kk := kk.trans (row_below es5 hp1 kk.size)
  have ow_ : Own w.heap.size W5 (x.put ⟨A1, x.se.n, c1⟩ ⟨A2, x.bg.n, c2⟩ ⟨A3, x.sn.n, c3⟩) z l s := ow.off bo1 (by decide) (by decide) es5 rfl rfl rfl
  clear ow
  have ow := ow_
  clear ow_
  have bo1_ := bo1
  have c5_2_0 : W5.cell? ⟨p2, 0, none⟩ = some (.int .i64 i.op) := b2.cell 0
  go_wp2_with (first | ((with_reducible refine at_store 32 (.tmp 2) (.tmp 7) ?_); refine wpList_store_row rfl 32 (.tmp 2) (.tmp 7) rfl p1 (x.put ⟨A1, x.se.n, c1⟩ ⟨A2, x.bg.n, c2⟩ ⟨A3, x.sn.n, c3⟩).cs.toArray rfl rfl 32 x.cs.toArray bo1_ (sizeT _) rfl (Th.onea _) ?_; rw [es5]) | ((with_reducible refine at_load 32 (.tmp 2) ?_); refine wpList_load_row rfl 32 (.tmp 2) rfl p1 rfl 32 (x.put ⟨A1, x.se.n, c1⟩ ⟨A2, x.bg.n, c2⟩ ⟨A3, x.sn.n, c3⟩).cs.toArray (0, 0) _ b1 Try.underlying32 rfl (sizeT _) ?_) | ((with_reducible refine at_load 42 (.tmp 3) ?_); refine wpList_load_row rfl 42 (.tmp 3) rfl p2 rfl 42 i.cs.toArray (0, 0) _ b2 Try.underlying42 rfl size42 ?_))
  refine (reck_put x ⟨A1, x.se.n, c1⟩ ⟨A2, x.bg.n, c2⟩ ⟨A3, x.sn.n, c3⟩ i hr _).mono ?_
  rintro e W6 ⟨rfl, k1⟩
  clear c5_2_0
  replace b1 := b1.on k1
  replace b2 := b2.on k1
  replace b3 := b3.on k1
  replace ow := ow.on k1
  replace kk := kk.trans (k1.mono kk.size)
  clear k1
  obtain ⟨W7, es7⟩ : ∃ W, W6.setRow p3 ((recT x i).put ⟨A1, x.se.n, c1⟩ ⟨A2, x.bg.n, c2⟩ ⟨A3, x.sn.n, c3⟩).cs.toArray = W := ⟨_, rfl⟩
  have bo3 := b3
  replace b1 := row_far b1 es7 (by omega)
  replace b2 := row_far b2 es7 (by omega)
  replace b3 : Blk W7 p3 32 ((recT x i).put ⟨A1, x.se.n, c1⟩ ⟨A2, x.bg.n, c2⟩ ⟨A3, x.sn.n, c3⟩).cs.toArray := row_named b3 es7
  replace kk := kk.trans (row_below es7 hp3 kk.size)
  replace ow := ow.off bo3 (by decide) (by decide) es7 rfl rfl rfl
  go_wp2_with (((with_reducible refine at_store 32 (.tmp 4) (.tmp 40) ?_); refine wpList_store_row rfl 32 (.tmp 4) (.tmp 40) rfl p3 ((recT x i).put ⟨A1, x.se.n, c1⟩ ⟨A2, x.bg.n, c2⟩ ⟨A3, x.sn.n, c3⟩).cs.toArray rfl rfl 32 #[.int .i64 0, .int .i64 0, .int .i64 0, .int .i64 0, .int .i64 0, .int .i64 0, .int .i64 0, .int .i64 0, .int .i64 0, .int .i64 0, .int .i64 0, .int .i64 0, .int .i64 0, .int .i64 0, .int .i64 0, .int .i64 0, .int .i64 0, .int .i64 0, .slice none 0 0, .slice none 0 0, .slice none 0 0, .int .i64 0] bo3 (sizeT _) rfl (Th.onea _) ?_; rw [es7]))
  refine bodyPost_ret (res23 _ _ p3 ((recT x i).put ⟨A1, x.se.n, c1⟩ ⟨A2, x.bg.n, c2⟩ ⟨A3, x.sn.n, c3⟩).cs.toArray (.bool true) rfl rfl b3 (sizeT _)) rfl ?_
  exact ⟨A1, c1, A2, c2, A3, c3, rfl, ⟨ow.se, ow.bg, ow.sn⟩, kk⟩
set_option maxRecDepth 100000 in
set_option maxHeartbeats 4000000 in
theorem loc_jump {w : World} {x : Th} {z s : List Int} {l : List Bg} (i : Ins) (hop : i.op = 8) (h : Reads w x z l s) (h1 : x.se.n ≤ 1000) (h2 : x.bg.n ≤ 1000) (h3 : x.sn.n ≤ 1000) :
    Calls Try.prog 23 #[.agg x.cs.toArray, .agg i.cs.toArray] w fun e w' => ∃ A1 c1 A2 c2 A3 c3, e = .returned (.tuple #[.agg ((jmpT x i true).put ⟨A1, x.se.n, c1⟩ ⟨A2, x.bg.n, c2⟩ ⟨A3, x.sn.n, c3⟩).cs.toArray, .bool true]) ∧ Own w.heap.size w' ((jmpT x i true).put ⟨A1, x.se.n, c1⟩ ⟨A2, x.bg.n, c2⟩ ⟨A3, x.sn.n, c3⟩) z l s ∧ Below w.heap.size w w' := by
  have t1 : (i.op == 1) = false := by rw [hop]; rfl
  have t2 : (i.op == 2) = false := by rw [hop]; rfl
  have t3 : (i.op == 3) = false := by rw [hop]; rfl
  have t4 : (i.op == 4) = false := by rw [hop]; rfl
  have t5 : (i.op == 5) = false := by rw [hop]; rfl
  have t6 : (i.op == 6) = false := by rw [hop]; rfl
  have t7 : (i.op == 7) = false := by rw [hop]; rfl
  have t8 : (i.op == 8) = true := by rw [hop]; rfl
  clear hop
  obtain ⟨p1, f1⟩ : ∃ p, w.heap.size = p := ⟨_, rfl⟩
  obtain ⟨W1, ea1⟩ : ∃ W, w.alloc (.cells x.cs.toArray 32) = W := ⟨_, rfl⟩
  have ka1 : Below w.heap.size w W1 := by rw [← ea1]; exact (Below.refl _ w).alloc (Nat.le_refl _) _
  have b1 : Blk W1 p1 32 x.cs.toArray := by rw [← ea1]; exact blk_new w _ 32 _ f1
  have kk : Below w.heap.size w W1 := ka1
  have hp1 : w.heap.size ≤ p1 := Nat.le_of_eq f1
  clear ka1
  obtain ⟨p2, f2⟩ : ∃ p, W1.heap.size = p := ⟨_, rfl⟩
  obtain ⟨W2, ea2⟩ : ∃ W, W1.alloc (.cells i.cs.toArray 42) = W := ⟨_, rfl⟩
  have ka2 : Below W1.heap.size W1 W2 := by rw [← ea2]; exact (Below.refl _ W1).alloc (Nat.le_refl _) _
  have b2 : Blk W2 p2 42 i.cs.toArray := by rw [← ea2]; exact blk_new W1 _ 42 _ f2
  have q1_2 : p1 < p2 := by rw [← f2]; exact b1.lt
  replace b1 := b1.on ka2
  have kk0 := kk
  replace kk := kk.trans (ka2.mono kk.size)
  have hp2 : w.heap.size ≤ p2 := by rw [← f2]; exact kk0.size
  clear ka2 kk0
  obtain ⟨p3, f3⟩ : ∃ p, W2.heap.size = p := ⟨_, rfl⟩
  obtain ⟨W3, ea3⟩ : ∃ W, W2.alloc (.cells #[.int .i64 0, .int .i64 0, .int .i64 0, .int .i64 0, .int .i64 0, .int .i64 0, .int .i64 0, .int .i64 0, .int .i64 0, .int .i64 0, .int .i64 0, .int .i64 0, .int .i64 0, .int .i64 0, .int .i64 0, .int .i64 0, .int .i64 0, .int .i64 0, .slice none 0 0, .slice none 0 0, .slice none 0 0, .int .i64 0] 32) = W := ⟨_, rfl⟩
  have ka3 : Below W2.heap.size W2 W3 := by rw [← ea3]; exact (Below.refl _ W2).alloc (Nat.le_refl _) _
  have b3 : Blk W3 p3 32 #[.int .i64 0, .int .i64 0, .int .i64 0, .int .i64 0, .int .i64 0, .int .i64 0, .int .i64 0, .int .i64 0, .int .i64 0, .int .i64 0, .int .i64 0, .int .i64 0, .int .i64 0, .int .i64 0, .int .i64 0, .int .i64 0, .int .i64 0, .int .i64 0, .slice none 0 0, .slice none 0 0, .slice none 0 0, .int .i64 0] := by rw [← ea3]; exact blk_new W2 _ 32 _ f3
  have q1_3 : p1 < p3 := by rw [← f3]; exact b1.lt
  replace b1 := b1.on ka3
  have q2_3 : p2 < p3 := by rw [← f3]; exact b2.lt
  replace b2 := b2.on ka3
  have kk0 := kk
  replace kk := kk.trans (ka3.mono kk.size)
  have hp3 : w.heap.size ≤ p3 := by rw [← f3]; exact kk0.size
  clear ka3 kk0
  have h13 : p1 ≠ p3 := by omega
  have h23 : p2 ≠ p3 := by omega
  have d1 := clone_any (h.on kk) h1 h2 h3
  go_enter Try.func23, Try.ntmps23
  go_wp2_with (((with_reducible refine at_load 32 (.tmp 2) ?_); refine wpList_load_row rfl 32 (.tmp 2) rfl p1 rfl 32 x.cs.toArray (0, 0) _ b1 Try.underlying32 rfl (sizeT _) ?_))
  refine (d1).mono ?_
  rintro e W4 ⟨A1, c1, A2, c2, A3, c3, rfl, ow, k1⟩
  replace ow := ow.mono kk.size
  replace b1 := b1.on k1
  replace b2 := b2.on k1
  replace b3 := b3.on k1
  replace kk := kk.trans (k1.mono kk.size)
  clear k1
  clear d1 f1
  obtain ⟨W5, es5⟩ : ∃ W, W4.setRow p1 (x.put ⟨A1, x.se.n, c1⟩ ⟨A2, x.bg.n, c2⟩ ⟨A3, x.sn.n, c3⟩).cs.toArray = W := ⟨_, rfl⟩
  have bo1 := b1
  replace b2 := row_far b2 es5 (by omega)
  replace b3 := row_far b3 es5 (by omega)
  replace b1 : Blk W5 p1 32 (x.put ⟨A1, x.se.n, c1⟩ ⟨A2, x.bg.n, c2⟩ ⟨A3, x.sn.n, c3⟩).cs.toArray := row_named b1 es5
  replace kk := kk.trans (row_below es5 hp1 kk.size)
  have ow_ : Own w.heap.size W5 (x.put ⟨A1, x.se.n, c1⟩ ⟨A2, x.bg.n, c2⟩ ⟨A3, x.sn.n, c3⟩) z l s := ow.off bo1 (by decide) (by decide) es5 rfl rfl rfl
  clear ow
  have ow := ow_
  clear ow_
  have bo1_ := bo1
  have c5_2_0 : W5.cell? ⟨p2, 0, none⟩ = some (.int .i64 i.op) := b2.cell 0
  go_wp2_with (first | ((with_reducible refine at_store 32 (.tmp 2) (.tmp 7) ?_); refine wpList_store_row rfl 32 (.tmp 2) (.tmp 7) rfl p1 (x.put ⟨A1, x.se.n, c1⟩ ⟨A2, x.bg.n, c2⟩ ⟨A3, x.sn.n, c3⟩).cs.toArray rfl rfl 32 x.cs.toArray bo1_ (sizeT _) rfl (Th.onea _) ?_; rw [es5]) | ((with_reducible refine at_load 32 (.tmp 2) ?_); refine wpList_load_row rfl 32 (.tmp 2) rfl p1 rfl 32 (x.put ⟨A1, x.se.n, c1⟩ ⟨A2, x.bg.n, c2⟩ ⟨A3, x.sn.n, c3⟩).cs.toArray (0, 0) _ b1 Try.underlying32 rfl (sizeT _) ?_) | ((with_reducible refine at_load 42 (.tmp 3) ?_); refine wpList_load_row rfl 42 (.tmp 3) rfl p2 rfl 42 i.cs.toArray (0, 0) _ b2 Try.underlying42 rfl size42 ?_))
  refine (jumped_put x ⟨A1, x.se.n, c1⟩ ⟨A2, x.bg.n, c2⟩ ⟨A3, x.sn.n, c3⟩ _ i true).mono ?_
  rintro e W6 ⟨rfl, k1⟩
  clear c5_2_0
  replace b1 := b1.on k1
  replace b2 := b2.on k1
  replace b3 := b3.on k1
  replace ow := ow.on k1
  replace kk := kk.trans (k1.mono kk.size)
  clear k1
  obtain ⟨W7, es7⟩ : ∃ W, W6.setRow p3 ((jmpT x i true).put ⟨A1, x.se.n, c1⟩ ⟨A2, x.bg.n, c2⟩ ⟨A3, x.sn.n, c3⟩).cs.toArray = W := ⟨_, rfl⟩
  have bo3 := b3
  replace b1 := row_far b1 es7 (by omega)
  replace b2 := row_far b2 es7 (by omega)
  replace b3 : Blk W7 p3 32 ((jmpT x i true).put ⟨A1, x.se.n, c1⟩ ⟨A2, x.bg.n, c2⟩ ⟨A3, x.sn.n, c3⟩).cs.toArray := row_named b3 es7
  replace kk := kk.trans (row_below es7 hp3 kk.size)
  replace ow := ow.off bo3 (by decide) (by decide) es7 rfl rfl rfl
  go_wp2_with (((with_reducible refine at_store 32 (.tmp 4) (.tmp 45) ?_); refine wpList_store_row rfl 32 (.tmp 4) (.tmp 45) rfl p3 ((jmpT x i true).put ⟨A1, x.se.n, c1⟩ ⟨A2, x.bg.n, c2⟩ ⟨A3, x.sn.n, c3⟩).cs.toArray rfl rfl 32 #[.int .i64 0, .int .i64 0, .int .i64 0, .int .i64 0, .int .i64 0, .int .i64 0, .int .i64 0, .int .i64 0, .int .i64 0, .int .i64 0, .int .i64 0, .int .i64 0, .int .i64 0, .int .i64 0, .int .i64 0, .int .i64 0, .int .i64 0, .int .i64 0, .slice none 0 0, .slice none 0 0, .slice none 0 0, .int .i64 0] bo3 (sizeT _) rfl (Th.onea _) ?_; rw [es7]))
  refine bodyPost_ret (res23 _ _ p3 ((jmpT x i true).put ⟨A1, x.se.n, c1⟩ ⟨A2, x.bg.n, c2⟩ ⟨A3, x.sn.n, c3⟩).cs.toArray (.bool true) rfl rfl b3 (sizeT _)) rfl ?_
  exact ⟨A1, c1, A2, c2, A3, c3, rfl, ⟨ow.se, ow.bg, ow.sn⟩, kk⟩
end Go.Proofs.Ytcajoekmigkhjaa
