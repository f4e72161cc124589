/- What the jumps that look do to a thread, what other instructions do; and so what any does. Conditions: at most a thousand elements in each list. -/
import Derived.Test.YtcajoekmigkhjaaLocal
namespace Go.Proofs.Ytcajoekmigkhjaa
open Go.RowKit Go.ChangeShapes Go.WideShapes Go.Great

set_option maxRecDepth 100000 in
set_option maxHeartbeats 4000000 in
theorem loc_zero {w : World} {x : Th} {z s : List Int} {l : List Bg} (i : Ins) (hop : i.op = 9) (h : Reads w x z l s) (h1 : x.se.n ≤ 1000) (h2 : x.bg.n ≤ 1000) (h3 : x.sn.n ≤ 1000) :
    Calls Try.prog 23 #[.agg x.cs.toArray, .agg i.cs.toArray] w fun e w' => ∃ A1 c1 A2 c2 A3 c3, e = .returned (.tuple #[.agg ((jmpT x i ((regI x i.a).n == 0)).put ⟨A1, x.se.n, c1⟩ ⟨A2, x.bg.n, c2⟩ ⟨A3, x.sn.n, c3⟩).cs.toArray, .bool true]) ∧ Own w.heap.size w' ((jmpT x i ((regI x i.a).n == 0)).put ⟨A1, x.se.n, c1⟩ ⟨A2, x.bg.n, c2⟩ ⟨A3, x.sn.n, c3⟩) z l s ∧ Below w.heap.size w w' := by
  have t1 : (i.op == 1) = false := by rw [hop]; rfl
  have t2 : (i.op == 2) = false := by rw [hop]; rfl
  have t3 : (i.op == 3) = false := by rw [hop]; rfl
  have t4 : (i.op == 4) = false := by rw [hop]; rfl
  have t5 : (i.op == 5) = false := by rw [hop]; rfl
  have t6 : (i.op == 6) = false := by rw [hop]; rfl
  have t7 : (i.op == 7) = false := by rw [hop]; rfl
  have t8 : (i.op == 8) = false := by rw [hop]; rfl
  have t9 : (i.op == 9) = true := by rw [hop]; rfl
  clear hop
  obtain ⟨p1, f1⟩ : ∃ p, w.heap.size = p := ⟨_, rfl⟩
  obtain ⟨W1, ea1⟩ : ∃ W, w.alloc (.cells x.cs.toArray 32) = W := ⟨_, rfl⟩
  have ka1 : Below w.heap.size w W1 := by rw [← ea1]; exact (Below.refl _ w).alloc (Nat.le_refl _) _
  have b1 : Blk W1 p1 32 x.cs.toArray := by rw [← ea1]; exact blk_new w _ 32 _ f1
  have kk : Below w.heap.size w W1 := ka1
  have hp1 : w.heap.size ≤ p1 := Nat.le_of_eq f1
  clear ka1
  obtain ⟨p2, f2⟩ : ∃ p, W1.heap.size = p := ⟨_, rfl⟩
  obtain ⟨W2, ea2⟩ : ∃ W, W1.alloc (.cells i.cs.toArray 42) = W := ⟨_, rfl⟩
  have ka2 : Below W1.heap.size W1 W2 := by rw [← ea2]; exact (Below.refl _ W1).alloc (Nat.le_refl _) _
  have b2 : Blk W2 p2 42 i.cs.toArray := by rw [← ea2]; exact blk_new W1 _ 42 _ f2
  have q1_2 : p1 < p2 := by rw [← f2]; exact b1.lt
  replace b1 := b1.on ka2
  have kk0 := kk
  replace kk := kk.trans (ka2.mono kk.size)
  have hp2 : w.heap.size ≤ p2 := by rw [← f2]; exact kk0.size
  clear ka2 kk0
  obtain ⟨p3, f3⟩ : ∃ p, W2.heap.size = p := ⟨_, rfl⟩
  obtain ⟨W3, ea3⟩ : ∃ W, W2.alloc (.cells #[.int .i64 0, .int .i64 0, .int .i64 0, .int .i64 0, .int .i64 0, .int .i64 0, .int .i64 0, .int .i64 0, .int .i64 0, .int .i64 0, .int .i64 0, .int .i64 0, .int .i64 0, .int .i64 0, .int .i64 0, .int .i64 0, .int .i64 0, .int .i64 0, .slice none 0 0, .slice none 0 0, .slice none 0 0, .int .i64 0] 32) = W := ⟨_, rfl⟩
  have ka3 : Below W2.heap.size W2 W3 := by rw [← ea3]; exact (Below.refl _ W2).alloc (Nat.le_refl _) _
  have b3 : Blk W3 p3 32 #[.int .i64 0, .int .i64 0, .int .i64 0, .int .i64 0, .int .i64 0, .int .i64 0, .int .i64 0, .int .i64 0, .int .i64 0, .int .i64 0, .int .i64 0, .int .i64 0, .int .i64 0, .int .i64 0, .int .i64 0, .int .i64 0, .int .i64 0, .int .i64 0, .slice none 0 0, .slice none 0 0, .slice none 0 0, .int .i64 0] := by rw [← ea3]; exact blk_new W2 _ 32 _ f3
  have q1_3 : p1 < p3 := by rw [← f3]; exact b1.lt
  replace b1 := b1.on ka3
  have q2_3 : p2 < p3 := by rw [← f3]; exact b2.lt
  replace b2 := b2.on ka3
  have kk0 := kk
  replace kk := kk.trans (ka3.mono kk.size)
  have hp3 : w.heap.size ≤ p3 := by rw [← f3]; exact kk0.size
  clear ka3 kk0
  have h13 : p1 ≠ p3 := by omega
  have h23 : p2 ≠ p3 := by omega
  have d1 := clone_any (h.on kk) h1 h2 h3
  go_enter Try.func23, Try.ntmps23
  go_wp2_with (((with_reducible refine at_load 32 (.tmp 2) ?_); refine wpList_load_row rfl 32 (.tmp 2) rfl p1 rfl 32 x.cs.toArray (0, 0) _ b1 Try.underlying32 rfl (sizeT _) ?_))
  refine (d1).mono ?_
  rintro e W4 ⟨A1, c1, A2, c2, A3, c3, rfl, ow, k1⟩
  replace ow := ow.mono kk.size
  replace b1 := b1.on k1
  replace b2 := b2.on k1
  replace b3 := b3.on k1
  replace kk := kk.trans (k1.mono kk.size)
  clear k1
  clear d1 f1
  obtain ⟨W5, es5⟩ : ∃ W, W4.setRow p1 (x.put ⟨A1, x.se.n, c1⟩ ⟨A2, x.bg.n, c2⟩ ⟨A3, x.sn.n, c3⟩).cs.toArray = W := ⟨_, rfl⟩
  have bo1 := b1
  replace b2 := row_far b2 es5 (by omega)
  replace b3 := row_far b3 es5 (by omega)
  replace b1 : Blk W5 p1 32 (x.put ⟨A1, x.se.n, c1⟩ ⟨A2, x.bg.n, c2⟩ ⟨A3, x.sn.n, c3⟩).cs.toArray := row_named b1 es5
  replace kk := kk.trans (row_below es5 hp1 kk.size)
  have ow_ : Own w.heap.size W5 (x.put ⟨A1, x.se.n, c1⟩ ⟨A2, x.bg.n, c2⟩ ⟨A3, x.sn.n, c3⟩) z l s := ow.off bo1 (by decide) (by decide) es5 rfl rfl rfl
  clear ow
  have ow := ow_
  clear ow_
  have bo1_ := bo1
  have c5_2_0 : W5.cell? ⟨p2, 0, none⟩ = some (.int .i64 i.op) := b2.cell 0
  have fl := field25 (regI x i.a)
  go_wp2_with (((with_reducible refine at_store 32 (.tmp 2) (.tmp 7) ?_); refine wpList_store_row rfl 32 (.tmp 2) (.tmp 7) rfl p1 (x.put ⟨A1, x.se.n, c1⟩ ⟨A2, x.bg.n, c2⟩ ⟨A3, x.sn.n, c3⟩).cs.toArray rfl rfl 32 x.cs.toArray bo1_ (sizeT _) rfl (Th.onea _) ?_; rw [es5]))
  clear c5_2_0
  obtain ⟨wd, ed⟩ : ∃ W, W5.drew = W := ⟨_, rfl⟩
  have hd : Below W5.heap.size W5 wd := by rw [← ed]; exact (Below.refl _ _).drew
  replace b1 := b1.on hd
  replace b2 := b2.on hd
  replace b3 := b3.on hd
  replace ow := ow.on hd
  replace kk := kk.trans (hd.mono kk.size)
  clear hd
  have kS : Kept (fun g => g = p3) wd wd := Kept.refl _ _
  have tS : ∀ W, Kept (fun g => g = p3) wd W → W.cell? ⟨p2, 1, none⟩ = some (.int .i64 i.a) := fun W hW => (b2.kept hW h23).cell 1
  refine wp_region_noPanic ?_
  refine wp_region_held_drew (S := (fun W => Kept (fun g => g = p3) wd W)) (by kernel_rfl) (by rw [ed]; exact kS) (fun hHeld => ?_)
  rw [ed] at hHeld ⊢
  refine wpAnyH_take (i := 0) (oi := ⟨some 48, _, _, _, _, _⟩) (v := .agg (List.toArray ((x.put ⟨A1, x.se.n, c1⟩ ⟨A2, x.bg.n, c2⟩ ⟨A3, x.sn.n, c3⟩).cs))) rfl (by kernel_rfl) (by kernel_rfl) (by kernel_rfl) (fun _ _ _ h => h) (yieldsIf_load_mid (by rfl) 32 (.tmp 2) rfl p1 (0) rfl ((x.put ⟨A1, x.se.n, c1⟩ ⟨A2, x.bg.n, c2⟩ ⟨A3, x.sn.n, c3⟩).cs) _ (fun W hW => range_part (b1.kept hW h13) 0 (x.put ⟨A1, x.se.n, c1⟩ ⟨A2, x.bg.n, c2⟩ ⟨A3, x.sn.n, c3⟩).cs rfl) Try.underlying32 rfl (sizeT _)) (by assumption) ?_
  try simp only [Act.put, List.setIfInBounds_toArray, List.set_cons_zero, List.set_cons_succ]
  refine wpAnyH_take (i := 1) (oi := ⟨some 49, _, _, _, _, _⟩) (v := .agg (List.toArray (i.cs))) rfl (by kernel_rfl) (by kernel_rfl) (by kernel_rfl) (fun _ _ _ h => h) (yieldsIf_load_mid (by rfl) 42 (.tmp 3) rfl p2 (0) rfl (i.cs) _ (fun W hW => range_part (b2.kept hW h23) 0 i.cs rfl) Try.underlying42 rfl size42) (by assumption) ?_
  try simp only [Act.put, List.setIfInBounds_toArray, List.set_cons_zero, List.set_cons_succ]
  refine wpAnyH_take (i := 2) (oi := ⟨some 50, _, _, _, _, _⟩) (v := .agg (List.toArray ((x.put ⟨A1, x.se.n, c1⟩ ⟨A2, x.bg.n, c2⟩ ⟨A3, x.sn.n, c3⟩).cs))) rfl (by kernel_rfl) (by kernel_rfl) (by kernel_rfl) (fun _ _ _ h => h) (yieldsIf_load_mid (by rfl) 32 (.tmp 2) rfl p1 (0) rfl ((x.put ⟨A1, x.se.n, c1⟩ ⟨A2, x.bg.n, c2⟩ ⟨A3, x.sn.n, c3⟩).cs) _ (fun W hW => range_part (b1.kept hW h13) 0 (x.put ⟨A1, x.se.n, c1⟩ ⟨A2, x.bg.n, c2⟩ ⟨A3, x.sn.n, c3⟩).cs rfl) Try.underlying32 rfl (sizeT _)) (by assumption) ?_
  try simp only [Act.put, List.setIfInBounds_toArray, List.set_cons_zero, List.set_cons_succ]
  refine wpAnyH_take (i := 3) (oi := ⟨some 51, _, _, _, _, _⟩) (v := ?_) rfl (by kernel_rfl) (by kernel_rfl) (by kernel_rfl) (fun _ _ _ h => h) (Or.inl ⟨by rfl, ?_⟩) (by assumption) ?_
  rotate_left 1
  · (intro W hSw; go_simp <;> with_reducible rfl)
  try simp only [Act.put, List.setIfInBounds_toArray, List.set_cons_zero, List.set_cons_succ]
  refine wpAnyH_take (i := 4) (oi := ⟨some 52, _, _, _, _, _⟩) (v := ?_) rfl (by kernel_rfl) (by kernel_rfl) (by kernel_rfl) (fun _ _ _ h => h) (Or.inl ⟨by rfl, ?_⟩) (by assumption) ?_
  rotate_left 1
  · (intro W hSw; obtain q0 := tS W hSw; go_simp <;> with_reducible rfl)
  try simp only [Act.put, List.setIfInBounds_toArray, List.set_cons_zero, List.set_cons_succ]
  refine wpAnyH_ready (rs := [5]) (by kernel_rfl) (by simp) ?_
  refine AllReadyH.cons (o := ⟨some 53, _, _, _, _, _⟩) rfl (fun K hK => ?_) AllReadyH.nil
  go_simp
  refine (get_put x ⟨A1, x.se.n, c1⟩ ⟨A2, x.bg.n, c2⟩ ⟨A3, x.sn.n, c3⟩ wd i.a).mono ?_
  rintro e w1 ⟨rfl, hb1⟩
  have b1_1 := b1.on hb1
  have b2_1 := b2.on hb1
  have b3_1 := b3.on hb1
  have ow_1 := ow.on hb1
  have kk_1 := kk.trans (hb1.mono kk.size)
  have S1 : (fun W => Kept (fun g => g = p3) wd W) w1 := Kept.next kS (kept_below (fun _ => False) hb1) (fun _ h => h.elim)
  refine hK.out _ _ S1 (fun h1 => ?_)
  clear hHeld hK K
  try simp only [Act.put, List.setIfInBounds_toArray, List.set_cons_zero, List.set_cons_succ]
  refine wpAnyH_take (i := 6) (oi := ⟨some 54, _, _, _, _, _⟩) (v := ?_) rfl (by kernel_rfl) (by kernel_rfl) (by kernel_rfl) (fun _ _ _ h => h) (Or.inl ⟨by rfl, ?_⟩) (by assumption) ?_
  rotate_left 1
  · (intro W hSw; go_simp <;> with_reducible rfl)
  try simp only [Act.put, List.setIfInBounds_toArray, List.set_cons_zero, List.set_cons_succ]
  refine wpAnyH_take (i := 7) (oi := ⟨some 55, _, _, _, _, _⟩) (v := ?_) rfl (by kernel_rfl) (by kernel_rfl) (by kernel_rfl) (fun _ _ _ h => h) (Or.inl ⟨by rfl, ?_⟩) (by assumption) ?_
  rotate_left 1
  · (intro W hSw; go_simp <;> with_reducible rfl)
  try simp only [Act.put, List.setIfInBounds_toArray, List.set_cons_zero, List.set_cons_succ]
  refine wpAnyH_ready (rs := [8]) (by kernel_rfl) (by simp) ?_
  refine AllReadyH.cons (o := ⟨some 56, _, _, _, _, _⟩) rfl (fun K hK => ?_) AllReadyH.nil
  go_simp
  refine (jumped_put x ⟨A1, x.se.n, c1⟩ ⟨A2, x.bg.n, c2⟩ ⟨A3, x.sn.n, c3⟩ w1 i ((regI x i.a).n == 0)).mono ?_
  rintro e w2 ⟨rfl, hb2⟩
  have b1_2 := b1_1.on hb2
  have b2_2 := b2_1.on hb2
  have b3_2 := b3_1.on hb2
  have ow_2 := ow_1.on hb2
  have kk_2 := kk_1.trans (hb2.mono kk_1.size)
  have S2 : (fun W => Kept (fun g => g = p3) wd W) w2 := Kept.next S1 (kept_below (fun _ => False) hb2) (fun _ h => h.elim)
  refine hK.out _ _ S2 (fun h2 => ?_)
  clear h1 hK K
  try simp only [Act.put, List.setIfInBounds_toArray, List.set_cons_zero, List.set_cons_succ]
  refine wpAnyH_ready (rs := [9]) (by kernel_rfl) (by simp) ?_
  refine AllReadyH.cons (o := ⟨none, _, _, _, _, _⟩) rfl (fun K hK => ?_) AllReadyH.nil
  rw [if_pos (by rfl)]
  refine wp_store_row 32 (.tmp 4) (.tmp 56) rfl p3 ((jmpT x i ((regI x i.a).n == 0)).put ⟨A1, x.se.n, c1⟩ ⟨A2, x.bg.n, c2⟩ ⟨A3, x.sn.n, c3⟩).cs.toArray rfl rfl 32 #[.int .i64 0, .int .i64 0, .int .i64 0, .int .i64 0, .int .i64 0, .int .i64 0, .int .i64 0, .int .i64 0, .int .i64 0, .int .i64 0, .int .i64 0, .int .i64 0, .int .i64 0, .int .i64 0, .int .i64 0, .int .i64 0, .int .i64 0, .int .i64 0, .slice none 0 0, .slice none 0 0, .slice none 0 0, .int .i64 0] b3_2 (sizeT _) rfl (Th.onea _) ?_
  refine hK.out _ _ (Kept.next S2 (kept_row _ p3 _) (fun g h => .inl h)) (fun h3 => ?_)
  clear h2 hK K
  have S3 : Kept (fun g => g = p3) wd (w2.setRow p3 ((jmpT x i ((regI x i.a).n == 0)).put ⟨A1, x.se.n, c1⟩ ⟨A2, x.bg.n, c2⟩ ⟨A3, x.sn.n, c3⟩).cs.toArray) := Kept.next S2 (kept_row _ p3 _) (fun g h => .inl h)
  have ow_3 := ow_2.off (cs' := ((jmpT x i ((regI x i.a).n == 0)).put ⟨A1, x.se.n, c1⟩ ⟨A2, x.bg.n, c2⟩ ⟨A3, x.sn.n, c3⟩).cs.toArray) b3_2 (by decide) (by decide) rfl rfl rfl rfl
  have b3_3 : Blk (w2.setRow p3 ((jmpT x i ((regI x i.a).n == 0)).put ⟨A1, x.se.n, c1⟩ ⟨A2, x.bg.n, c2⟩ ⟨A3, x.sn.n, c3⟩).cs.toArray) p3 32 ((jmpT x i ((regI x i.a).n == 0)).put ⟨A1, x.se.n, c1⟩ ⟨A2, x.bg.n, c2⟩ ⟨A3, x.sn.n, c3⟩).cs.toArray := row_named b3_2 rfl
  have kk_3 := kk_2.trans (row_below (W := (w2.setRow p3 ((jmpT x i ((regI x i.a).n == 0)).put ⟨A1, x.se.n, c1⟩ ⟨A2, x.bg.n, c2⟩ ⟨A3, x.sn.n, c3⟩).cs.toArray)) rfl hp3 kk_2.size)
  try simp only [Act.put]
  refine wpAnyH_take (i := 10) (oi := ⟨some 5, _, _, _, _, _⟩) (v := ?_) rfl (by kernel_rfl) (by kernel_rfl) (by kernel_rfl) (fun _ _ _ h => h) (Or.inl ⟨by rfl, ?_⟩) (by assumption) ?_
  rotate_left 1
  · (intro W hSw; go_simp <;> with_reducible rfl)
  try simp only [Act.put, List.setIfInBounds_toArray, List.set_cons_zero, List.set_cons_succ]
  refine wpAnyH_done (by kernel_rfl) ?_ _
  refine NoPanic.normal ?_
  go_wp2_with fail
  refine bodyPost_ret (res23 _ _ p3 ((jmpT x i ((regI x i.a).n == 0)).put ⟨A1, x.se.n, c1⟩ ⟨A2, x.bg.n, c2⟩ ⟨A3, x.sn.n, c3⟩).cs.toArray (.bool true) rfl rfl b3_3 (sizeT _)) rfl ?_
  exact ⟨A1, c1, A2, c2, A3, c3, rfl, ⟨ow_3.se, ow_3.bg, ow_3.sn⟩, kk_3⟩
set_option maxRecDepth 100000 in
set_option maxHeartbeats 4000000 in
theorem loc_same {w : World} {x : Th} {z s : List Int} {l : List Bg} (i : Ins) (hop : i.op = 10) (h : Reads w x z l s) (h1 : x.se.n ≤ 1000) (h2 : x.bg.n ≤ 1000) (h3 : x.sn.n ≤ 1000) :
    Calls Try.prog 23 #[.agg x.cs.toArray, .agg i.cs.toArray] w fun e w' => ∃ A1 c1 A2 c2 A3 c3, e = .returned (.tuple #[.agg ((jmpT x i ((regI x i.a).n == (regI x i.b).n)).put ⟨A1, x.se.n, c1⟩ ⟨A2, x.bg.n, c2⟩ ⟨A3, x.sn.n, c3⟩).cs.toArray, .bool true]) ∧ Own w.heap.size w' ((jmpT x i ((regI x i.a).n == (regI x i.b).n)).put ⟨A1, x.se.n, c1⟩ ⟨A2, x.bg.n, c2⟩ ⟨A3, x.sn.n, c3⟩) z l s ∧ Below w.heap.size w w' := by
  have t1 : (i.op == 1) = false := by rw [hop]; rfl
  have t2 : (i.op == 2) = false := by rw [hop]; rfl
  have t3 : (i.op == 3) = false := by rw [hop]; rfl
  have t4 : (i.op == 4) = false := by rw [hop]; rfl
  have t5 : (i.op == 5) = false := by rw [hop]; rfl
  have t6 : (i.op == 6) = false := by rw [hop]; rfl
  have t7 : (i.op == 7) = false := by rw [hop]; rfl
  have t8 : (i.op == 8) = false := by rw [hop]; rfl
  have t9 : (i.op == 9) = false := by rw [hop]; rfl
  have t10 : (i.op == 10) = true := by rw [hop]; rfl
  clear hop
  obtain ⟨p1, f1⟩ : ∃ p, w.heap.size = p := ⟨_, rfl⟩
  obtain ⟨W1, ea1⟩ : ∃ W, w.alloc (.cells x.cs.toArray 32) = W := ⟨_, rfl⟩
  have ka1 : Below w.heap.size w W1 := by rw [← ea1]; exact (Below.refl _ w).alloc (Nat.le_refl _) _
  have b1 : Blk W1 p1 32 x.cs.toArray := by rw [← ea1]; exact blk_new w _ 32 _ f1
  have kk : Below w.heap.size w W1 := ka1
  have hp1 : w.heap.size ≤ p1 := Nat.le_of_eq f1
  clear ka1
  obtain ⟨p2, f2⟩ : ∃ p, W1.heap.size = p := ⟨_, rfl⟩
  obtain ⟨W2, ea2⟩ : ∃ W, W1.alloc (.cells i.cs.toArray 42) = W := ⟨_, rfl⟩
  have ka2 : Below W1.heap.size W1 W2 := by rw [← ea2]; exact (Below.refl _ W1).alloc (Nat.le_refl _) _
  have b2 : Blk W2 p2 42 i.cs.toArray := by rw [← ea2]; exact blk_new W1 _ 42 _ f2
  have q1_2 : p1 < p2 := by rw [← f2]; exact b1.lt
  replace b1 := b1.on ka2
  have kk0 := kk
  replace kk := kk.trans (ka2.mono kk.size)
  have hp2 : w.heap.size ≤ p2 := by rw [← f2]; exact kk0.size
  clear ka2 kk0
  obtain ⟨p3, f3⟩ : ∃ p, W2.heap.size = p := ⟨_, rfl⟩
  obtain ⟨W3, ea3⟩ : ∃ W, W2.alloc (.cells #[.int .i64 0, .int .i64 0, .int .i64 0, .int .i64 0, .int .i64 0, .int .i64 0, .int .i64 0, .int .i64 0, .int .i64 0, .int .i64 0, .int .i64 0, .int .i64 0, .int .i64 0, .int .i64 0, .int .i64 0, .int .i64 0, .int .i64 0, .int .i64 0, .slice none 0 0, .slice none 0 0, .slice none 0 0, .int .i64 0] 32) = W := ⟨_, rfl⟩
  have ka3 : Below W2.heap.size W2 W3 := by rw [← ea3]; exact (Below.refl _ W2).alloc (Nat.le_refl _) _
  have b3 : Blk W3 p3 32 #[.int .i64 0, .int .i64 0, .int .i64 0, .int .i64 0, .int .i64 0, .int .i64 0, .int .i64 0, .int .i64 0, .int .i64 0, .int .i64 0, .int .i64 0, .int .i64 0, .int .i64 0, .int .i64 0, .int .i64 0, .int .i64 0, .int .i64 0, .int .i64 0, .slice none 0 0, .slice none 0 0, .slice none 0 0, .int .i64 0] := by rw [← ea3]; exact blk_new W2 _ 32 _ f3
  have q1_3 : p1 < p3 := by rw [← f3]; exact b1.lt
  replace b1 := b1.on ka3
  have q2_3 : p2 < p3 := by rw [← f3]; exact b2.lt
  replace b2 := b2.on ka3
  have kk0 := kk
  replace kk := kk.trans (ka3.mono kk.size)
  have hp3 : w.heap.size ≤ p3 := by rw [← f3]; exact kk0.size
  clear ka3 kk0
  have h13 : p1 ≠ p3 := by omega
  have h23 : p2 ≠ p3 := by omega
  have d1 := clone_any (h.on kk) h1 h2 h3
  go_enter Try.func23, Try.ntmps23
  go_wp2_with (((with_reducible refine at_load 32 (.tmp 2) ?_); refine wpList_load_row rfl 32 (.tmp 2) rfl p1 rfl 32 x.cs.toArray (0, 0) _ b1 Try.underlying32 rfl (sizeT _) ?_))
  refine (d1).mono ?_
  rintro e W4 ⟨A1, c1, A2, c2, A3, c3, rfl, ow, k1⟩
  replace ow := ow.mono kk.size
  replace b1 := b1.on k1
  replace b2 := b2.on k1
  replace b3 := b3.on k1
  replace kk := kk.trans (k1.mono kk.size)
  clear k1
  clear d1 f1
  obtain ⟨W5, es5⟩ : ∃ W, W4.setRow p1 (x.put ⟨A1, x.se.n, c1⟩ ⟨A2, x.bg.n, c2⟩ ⟨A3, x.sn.n, c3⟩).cs.toArray = W := ⟨_, rfl⟩
  have bo1 := b1
  replace b2 := row_far b2 es5 (by omega)
  replace b3 := row_far b3 es5 (by omega)
  replace b1 : Blk W5 p1 32 (x.put ⟨A1, x.se.n, c1⟩ ⟨A2, x.bg.n, c2⟩ ⟨A3, x.sn.n, c3⟩).cs.toArray := row_named b1 es5
  replace kk := kk.trans (row_below es5 hp1 kk.size)
  have ow_ : Own w.heap.size W5 (x.put ⟨A1, x.se.n, c1⟩ ⟨A2, x.bg.n, c2⟩ ⟨A3, x.sn.n, c3⟩) z l s := ow.off bo1 (by decide) (by decide) es5 rfl rfl rfl
  clear ow
  have ow := ow_
  clear ow_
  have bo1_ := bo1
  have c5_2_0 : W5.cell? ⟨p2, 0, none⟩ = some (.int .i64 i.op) := b2.cell 0
  go_wp2_with (((with_reducible refine at_store 32 (.tmp 2) (.tmp 7) ?_); refine wpList_store_row rfl 32 (.tmp 2) (.tmp 7) rfl p1 (x.put ⟨A1, x.se.n, c1⟩ ⟨A2, x.bg.n, c2⟩ ⟨A3, x.sn.n, c3⟩).cs.toArray rfl rfl 32 x.cs.toArray bo1_ (sizeT _) rfl (Th.onea _) ?_; rw [es5]))
  clear c5_2_0
  obtain ⟨wd, ed⟩ : ∃ W, W5.drew = W := ⟨_, rfl⟩
  have hd : Below W5.heap.size W5 wd := by rw [← ed]; exact (Below.refl _ _).drew
  replace b1 := b1.on hd
  replace b2 := b2.on hd
  replace b3 := b3.on hd
  replace ow := ow.on hd
  replace kk := kk.trans (hd.mono kk.size)
  clear hd
  have kS : Kept (fun g => g = p3) wd wd := Kept.refl _ _
  have tS : ∀ W, Kept (fun g => g = p3) wd W → W.cell? ⟨p2, 1, none⟩ = some (.int .i64 i.a) ∧ W.cell? ⟨p2, 2, none⟩ = some (.int .i64 i.b) := fun W hW => ⟨(b2.kept hW h23).cell 1, (b2.kept hW h23).cell 2⟩
  refine wp_region_noPanic ?_
  refine wp_region_held_drew (S := (fun W => Kept (fun g => g = p3) wd W)) (by kernel_rfl) (by rw [ed]; exact kS) (fun hHeld => ?_)
  rw [ed] at hHeld ⊢
  refine wpAnyH_take (i := 0) (oi := ⟨some 59, _, _, _, _, _⟩) (v := .agg (List.toArray ((x.put ⟨A1, x.se.n, c1⟩ ⟨A2, x.bg.n, c2⟩ ⟨A3, x.sn.n, c3⟩).cs))) rfl (by kernel_rfl) (by kernel_rfl) (by kernel_rfl) (fun _ _ _ h => h) (yieldsIf_load_mid (by rfl) 32 (.tmp 2) rfl p1 (0) rfl ((x.put ⟨A1, x.se.n, c1⟩ ⟨A2, x.bg.n, c2⟩ ⟨A3, x.sn.n, c3⟩).cs) _ (fun W hW => range_part (b1.kept hW h13) 0 (x.put ⟨A1, x.se.n, c1⟩ ⟨A2, x.bg.n, c2⟩ ⟨A3, x.sn.n, c3⟩).cs rfl) Try.underlying32 rfl (sizeT _)) (by assumption) ?_
  try simp only [Act.put, List.setIfInBounds_toArray, List.set_cons_zero, List.set_cons_succ]
  refine wpAnyH_take (i := 1) (oi := ⟨some 60, _, _, _, _, _⟩) (v := .agg (List.toArray (i.cs))) rfl (by kernel_rfl) (by kernel_rfl) (by kernel_rfl) (fun _ _ _ h => h) (yieldsIf_load_mid (by rfl) 42 (.tmp 3) rfl p2 (0) rfl (i.cs) _ (fun W hW => range_part (b2.kept hW h23) 0 i.cs rfl) Try.underlying42 rfl size42) (by assumption) ?_
  try simp only [Act.put, List.setIfInBounds_toArray, List.set_cons_zero, List.set_cons_succ]
  refine wpAnyH_take (i := 2) (oi := ⟨some 61, _, _, _, _, _⟩) (v := .agg (List.toArray ((x.put ⟨A1, x.se.n, c1⟩ ⟨A2, x.bg.n, c2⟩ ⟨A3, x.sn.n, c3⟩).cs))) rfl (by kernel_rfl) (by kernel_rfl) (by kernel_rfl) (fun _ _ _ h => h) (yieldsIf_load_mid (by rfl) 32 (.tmp 2) rfl p1 (0) rfl ((x.put ⟨A1, x.se.n, c1⟩ ⟨A2, x.bg.n, c2⟩ ⟨A3, x.sn.n, c3⟩).cs) _ (fun W hW => range_part (b1.kept hW h13) 0 (x.put ⟨A1, x.se.n, c1⟩ ⟨A2, x.bg.n, c2⟩ ⟨A3, x.sn.n, c3⟩).cs rfl) Try.underlying32 rfl (sizeT _)) (by assumption) ?_
  try simp only [Act.put, List.setIfInBounds_toArray, List.set_cons_zero, List.set_cons_succ]
  refine wpAnyH_take (i := 3) (oi := ⟨some 62, _, _, _, _, _⟩) (v := ?_) rfl (by kernel_rfl) (by kernel_rfl) (by kernel_rfl) (fun _ _ _ h => h) (Or.inl ⟨by rfl, ?_⟩) (by assumption) ?_
  rotate_left 1
  · (intro W hSw; go_simp <;> with_reducible rfl)
  try simp only [Act.put, List.setIfInBounds_toArray, List.set_cons_zero, List.set_cons_succ]
  refine wpAnyH_take (i := 4) (oi := ⟨some 63, _, _, _, _, _⟩) (v := ?_) rfl (by kernel_rfl) (by kernel_rfl) (by kernel_rfl) (fun _ _ _ h => h) (Or.inl ⟨by rfl, ?_⟩) (by assumption) ?_
  rotate_left 1
  · (intro W hSw; obtain ⟨q0, q1⟩ := tS W hSw; go_simp <;> with_reducible rfl)
  try simp only [Act.put, List.setIfInBounds_toArray, List.set_cons_zero, List.set_cons_succ]
  refine wpAnyH_take (i := 6) (oi := ⟨some 65, _, _, _, _, _⟩) (v := .agg (List.toArray ((x.put ⟨A1, x.se.n, c1⟩ ⟨A2, x.bg.n, c2⟩ ⟨A3, x.sn.n, c3⟩).cs))) rfl (by kernel_rfl) (by kernel_rfl) (by kernel_rfl) (fun _ _ _ h => h) (yieldsIf_load_mid (by rfl) 32 (.tmp 2) rfl p1 (0) rfl ((x.put ⟨A1, x.se.n, c1⟩ ⟨A2, x.bg.n, c2⟩ ⟨A3, x.sn.n, c3⟩).cs) _ (fun W hW => range_part (b1.kept hW h13) 0 (x.put ⟨A1, x.se.n, c1⟩ ⟨A2, x.bg.n, c2⟩ ⟨A3, x.sn.n, c3⟩).cs rfl) Try.underlying32 rfl (sizeT _)) (by assumption) ?_
  try simp only [Act.put, List.setIfInBounds_toArray, List.set_cons_zero, List.set_cons_succ]
  refine wpAnyH_take (i := 7) (oi := ⟨some 66, _, _, _, _, _⟩) (v := ?_) rfl (by kernel_rfl) (by kernel_rfl) (by kernel_rfl) (fun _ _ _ h => h) (Or.inl ⟨by rfl, ?_⟩) (by assumption) ?_
  rotate_left 1
  · (intro W hSw; go_simp <;> with_reducible rfl)
  try simp only [Act.put, List.setIfInBounds_toArray, List.set_cons_zero, List.set_cons_succ]
  refine wpAnyH_take (i := 8) (oi := ⟨some 67, _, _, _, _, _⟩) (v := ?_) rfl (by kernel_rfl) (by kernel_rfl) (by kernel_rfl) (fun _ _ _ h => h) (Or.inl ⟨by rfl, ?_⟩) (by assumption) ?_
  rotate_left 1
  · (intro W hSw; obtain ⟨q0, q1⟩ := tS W hSw; go_simp <;> with_reducible rfl)
  try simp only [Act.put, List.setIfInBounds_toArray, List.set_cons_zero, List.set_cons_succ]
  refine wpAnyH_ready (rs := [5]) (by kernel_rfl) (by simp) ?_
  refine AllReadyH.cons (o := ⟨some 64, _, _, _, _, _⟩) rfl (fun K hK => ?_) AllReadyH.nil
  go_simp
  refine (get_put x ⟨A1, x.se.n, c1⟩ ⟨A2, x.bg.n, c2⟩ ⟨A3, x.sn.n, c3⟩ wd i.a).mono ?_
  rintro e w1 ⟨rfl, hb1⟩
  have b1_1 := b1.on hb1
  have b2_1 := b2.on hb1
  have b3_1 := b3.on hb1
  have ow_1 := ow.on hb1
  have kk_1 := kk.trans (hb1.mono kk.size)
  have S1 : (fun W => Kept (fun g => g = p3) wd W) w1 := Kept.next kS (kept_below (fun _ => False) hb1) (fun _ h => h.elim)
  refine hK.out _ _ S1 (fun h1 => ?_)
  clear hHeld hK K
  try simp only [Act.put, List.setIfInBounds_toArray, List.set_cons_zero, List.set_cons_succ]
  refine wpAnyH_ready (rs := [9]) (by kernel_rfl) (by simp) ?_
  refine AllReadyH.cons (o := ⟨some 68, _, _, _, _, _⟩) rfl (fun K hK => ?_) AllReadyH.nil
  go_simp
  refine (get_put x ⟨A1, x.se.n, c1⟩ ⟨A2, x.bg.n, c2⟩ ⟨A3, x.sn.n, c3⟩ w1 i.b).mono ?_
  rintro e w2 ⟨rfl, hb2⟩
  have b1_2 := b1_1.on hb2
  have b2_2 := b2_1.on hb2
  have b3_2 := b3_1.on hb2
  have ow_2 := ow_1.on hb2
  have kk_2 := kk_1.trans (hb2.mono kk_1.size)
  have S2 : (fun W => Kept (fun g => g = p3) wd W) w2 := Kept.next S1 (kept_below (fun _ => False) hb2) (fun _ h => h.elim)
  refine hK.out _ _ S2 (fun h2 => ?_)
  clear h1 hK K
  try simp only [Act.put, List.setIfInBounds_toArray, List.set_cons_zero, List.set_cons_succ]
  refine wpAnyH_ready (rs := [10]) (by kernel_rfl) (by simp) ?_
  refine AllReadyH.cons (o := ⟨some 69, _, _, _, _, _⟩) rfl (fun K hK => ?_) AllReadyH.nil
  go_simp
  refine (equal_any (regI x i.a) (regI x i.b) w2).mono ?_
  rintro e w3 ⟨rfl, hb3⟩
  have b1_3 := b1_2.on hb3
  have b2_3 := b2_2.on hb3
  have b3_3 := b3_2.on hb3
  have ow_3 := ow_2.on hb3
  have kk_3 := kk_2.trans (hb3.mono kk_2.size)
  have S3 : (fun W => Kept (fun g => g = p3) wd W) w3 := Kept.next S2 (kept_below (fun _ => False) hb3) (fun _ h => h.elim)
  refine hK.out _ _ S3 (fun h3 => ?_)
  clear h2 hK K
  try simp only [Act.put, List.setIfInBounds_toArray, List.set_cons_zero, List.set_cons_succ]
  refine wpAnyH_ready (rs := [11]) (by kernel_rfl) (by simp) ?_
  refine AllReadyH.cons (o := ⟨some 70, _, _, _, _, _⟩) rfl (fun K hK => ?_) AllReadyH.nil
  go_simp
  refine (jumped_put x ⟨A1, x.se.n, c1⟩ ⟨A2, x.bg.n, c2⟩ ⟨A3, x.sn.n, c3⟩ w3 i ((regI x i.a).n == (regI x i.b).n)).mono ?_
  rintro e w4 ⟨rfl, hb4⟩
  have b1_4 := b1_3.on hb4
  have b2_4 := b2_3.on hb4
  have b3_4 := b3_3.on hb4
  have ow_4 := ow_3.on hb4
  have kk_4 := kk_3.trans (hb4.mono kk_3.size)
  have S4 : (fun W => Kept (fun g => g = p3) wd W) w4 := Kept.next S3 (kept_below (fun _ => False) hb4) (fun _ h => h.elim)
  refine hK.out _ _ S4 (fun h4 => ?_)
  clear h3 hK K
  try simp only [Act.put, List.setIfInBounds_toArray, List.set_cons_zero, List.set_cons_succ]
  refine wpAnyH_ready (rs := [12]) (by kernel_rfl) (by simp) ?_
  refine AllReadyH.cons (o := ⟨none, _, _, _, _, _⟩) rfl (fun K hK => ?_) AllReadyH.nil
  rw [if_pos (by rfl)]
  refine wp_store_row 32 (.tmp 4) (.tmp 70) rfl p3 ((jmpT x i ((regI x i.a).n == (regI x i.b).n)).put ⟨A1, x.se.n, c1⟩ ⟨A2, x.bg.n, c2⟩ ⟨A3, x.sn.n, c3⟩).cs.toArray rfl rfl 32 #[.int .i64 0, .int .i64 0, .int .i64 0, .int .i64 0, .int .i64 0, .int .i64 0, .int .i64 0, .int .i64 0, .int .i64 0, .int .i64 0, .int .i64 0, .int .i64 0, .int .i64 0, .int .i64 0, .int .i64 0, .int .i64 0, .int .i64 0, .int .i64 0, .slice none 0 0, .slice none 0 0, .slice none 0 0, .int .i64 0] b3_4 (sizeT _) rfl (Th.onea _) ?_
  refine hK.out _ _ (Kept.next S4 (kept_row _ p3 _) (fun g h => .inl h)) (fun h5 => ?_)
  clear h4 hK K
  have S5 : Kept (fun g => g = p3) wd (w4.setRow p3 ((jmpT x i ((regI x i.a).n == (regI x i.b).n)).put ⟨A1, x.se.n, c1⟩ ⟨A2, x.bg.n, c2⟩ ⟨A3, x.sn.n, c3⟩).cs.toArray) := Kept.next S4 (kept_row _ p3 _) (fun g h => .inl h)
  have ow_5 := ow_4.off (cs' := ((jmpT x i ((regI x i.a).n == (regI x i.b).n)).put ⟨A1, x.se.n, c1⟩ ⟨A2, x.bg.n, c2⟩ ⟨A3, x.sn.n, c3⟩).cs.toArray) b3_4 (by decide) (by decide) rfl rfl rfl rfl
  have b3_5 : Blk (w4.setRow p3 ((jmpT x i ((regI x i.a).n == (regI x i.b).n)).put ⟨A1, x.se.n, c1⟩ ⟨A2, x.bg.n, c2⟩ ⟨A3, x.sn.n, c3⟩).cs.toArray) p3 32 ((jmpT x i ((regI x i.a).n == (regI x i.b).n)).put ⟨A1, x.se.n, c1⟩ ⟨A2, x.bg.n, c2⟩ ⟨A3, x.sn.n, c3⟩).cs.toArray := row_named b3_4 rfl
  have kk_5 := kk_4.trans (row_below (W := (w4.setRow p3 ((jmpT x i ((regI x i.a).n == (regI x i.b).n)).put ⟨A1, x.se.n, c1⟩ ⟨A2, x.bg.n, c2⟩ ⟨A3, x.sn.n, c3⟩).cs.toArray)) rfl hp3 kk_4.size)
  try simp only [Act.put]
  refine wpAnyH_take (i := 13) (oi := ⟨some 5, _, _, _, _, _⟩) (v := ?_) rfl (by kernel_rfl) (by kernel_rfl) (by kernel_rfl) (fun _ _ _ h => h) (Or.inl ⟨by rfl, ?_⟩) (by assumption) ?_
  rotate_left 1
  · (intro W hSw; go_simp <;> with_reducible rfl)
  try simp only [Act.put, List.setIfInBounds_toArray, List.set_cons_zero, List.set_cons_succ]
  refine wpAnyH_done (by kernel_rfl) ?_ _
  refine NoPanic.normal ?_
  go_wp2_with fail
  refine bodyPost_ret (res23 _ _ p3 ((jmpT x i ((regI x i.a).n == (regI x i.b).n)).put ⟨A1, x.se.n, c1⟩ ⟨A2, x.bg.n, c2⟩ ⟨A3, x.sn.n, c3⟩).cs.toArray (.bool true) rfl rfl b3_5 (sizeT _)) rfl ?_
  exact ⟨A1, c1, A2, c2, A3, c3, rfl, ⟨ow_5.se, ow_5.bg, ow_5.sn⟩, kk_5⟩
set_option maxRecDepth 100000 in
set_option maxHeartbeats 4000000 in
theorem loc_else {w : World} {x : Th} {z s : List Int} {l : List Bg} (i : Ins) (hop : locB i = false) (h : Reads w x z l s) (h1 : x.se.n ≤ 1000) (h2 : x.bg.n ≤ 1000) (h3 : x.sn.n ≤ 1000) :
    Calls Try.prog 23 #[.agg x.cs.toArray, .agg i.cs.toArray] w fun e w' => ∃ A1 c1 A2 c2 A3 c3, e = .returned (.tuple #[.agg ((x).put ⟨A1, x.se.n, c1⟩ ⟨A2, x.bg.n, c2⟩ ⟨A3, x.sn.n, c3⟩).cs.toArray, .bool false]) ∧ Own w.heap.size w' ((x).put ⟨A1, x.se.n, c1⟩ ⟨A2, x.bg.n, c2⟩ ⟨A3, x.sn.n, c3⟩) z l s ∧ Below w.heap.size w w' := by
  have n1 : i.op ≠ 1 := fun e => by unfold locB inB at hop; rw [e] at hop; exact absurd hop (by decide)
  have n2 : i.op ≠ 2 := fun e => by unfold locB inB at hop; rw [e] at hop; exact absurd hop (by decide)
  have n3 : i.op ≠ 3 := fun e => by unfold locB inB at hop; rw [e] at hop; exact absurd hop (by decide)
  have n4 : i.op ≠ 4 := fun e => by unfold locB inB at hop; rw [e] at hop; exact absurd hop (by decide)
  have n5 : i.op ≠ 5 := fun e => by unfold locB inB at hop; rw [e] at hop; exact absurd hop (by decide)
  have n6 : i.op ≠ 6 := fun e => by unfold locB inB at hop; rw [e] at hop; exact absurd hop (by decide)
  have n7 : i.op ≠ 7 := fun e => by unfold locB inB at hop; rw [e] at hop; exact absurd hop (by decide)
  have n8 : i.op ≠ 8 := fun e => by unfold locB inB at hop; rw [e] at hop; exact absurd hop (by decide)
  have n9 : i.op ≠ 9 := fun e => by unfold locB inB at hop; rw [e] at hop; exact absurd hop (by decide)
  have n10 : i.op ≠ 10 := fun e => by unfold locB inB at hop; rw [e] at hop; exact absurd hop (by decide)
  have t1 : (i.op == 1) = false := beq_eq_false_iff_ne.2 n1
  have t2 : (i.op == 2) = false := beq_eq_false_iff_ne.2 n2
  have t3 : (i.op == 3) = false := beq_eq_false_iff_ne.2 n3
  have t4 : (i.op == 4) = false := beq_eq_false_iff_ne.2 n4
  have t5 : (i.op == 5) = false := beq_eq_false_iff_ne.2 n5
  have t6 : (i.op == 6) = false := beq_eq_false_iff_ne.2 n6
  have t7 : (i.op == 7) = false := beq_eq_false_iff_ne.2 n7
  have t8 : (i.op == 8) = false := beq_eq_false_iff_ne.2 n8
  have t9 : (i.op == 9) = false := beq_eq_false_iff_ne.2 n9
  have t10 : (i.op == 10) = false := beq_eq_false_iff_ne.2 n10
  clear n1 n2 n3 n4 n5 n6 n7 n8 n9 n10
  obtain ⟨p1, f1⟩ : ∃ p, w.heap.size = p := ⟨_, rfl⟩
  obtain ⟨W1, ea1⟩ : ∃ W, w.alloc (.cells x.cs.toArray 32) = W := ⟨_, rfl⟩
  have ka1 : Below w.heap.size w W1 := by rw [← ea1]; exact (Below.refl _ w).alloc (Nat.le_refl _) _
  have b1 : Blk W1 p1 32 x.cs.toArray := by rw [← ea1]; exact blk_new w _ 32 _ f1
  have kk : Below w.heap.size w W1 := ka1
  have hp1 : w.heap.size ≤ p1 := Nat.le_of_eq f1
  clear ka1
  obtain ⟨p2, f2⟩ : ∃ p, W1.heap.size = p := ⟨_, rfl⟩
  obtain ⟨W2, ea2⟩ : ∃ W, W1.alloc (.cells i.cs.toArray 42) = W := ⟨_, rfl⟩
  have ka2 : Below W1.heap.size W1 W2 := by rw [← ea2]; exact (Below.refl _ W1).alloc (Nat.le_refl _) _
  have b2 : Blk W2 p2 42 i.cs.toArray := by rw [← ea2]; exact blk_new W1 _ 42 _ f2
  have q1_2 : p1 < p2 := by rw [← f2]; exact b1.lt
  replace b1 := b1.on ka2
  have kk0 := kk
  replace kk := kk.trans (ka2.mono kk.size)
  have hp2 : w.heap.size ≤ p2 := by rw [← f2]; exact kk0.size
  clear ka2 kk0
  obtain ⟨p3, f3⟩ : ∃ p, W2.heap.size = p := ⟨_, rfl⟩
  obtain ⟨W3, ea3⟩ : ∃ W, W2.alloc (.cells #[.int .i64 0, .int .i64 0, .int .i64 0, .int .i64 0, .int .i64 0, .int .i64 0, .int .i64 0, .int .i64 0, .int .i64 0, .int .i64 0, .int .i64 0, .int .i64 0, .int .i64 0, .int .i64 0, .int .i64 0, .int .i64 0, .int .i64 0, .int .i64 0, .slice none 0 0, .slice none 0 0, .slice none 0 0, .int .i64 0] 32) = W := ⟨_, rfl⟩
  have ka3 : Below W2.heap.size W2 W3 := by rw [← ea3]; exact (Below.refl _ W2).alloc (Nat.le_refl _) _
  have b3 : Blk W3 p3 32 #[.int .i64 0, .int .i64 0, .int .i64 0, .int .i64 0, .int .i64 0, .int .i64 0, .int .i64 0, .int .i64 0, .int .i64 0, .int .i64 0, .int .i64 0, .int .i64 0, .int .i64 0, .int .i64 0, .int .i64 0, .int .i64 0, .int .i64 0, .int .i64 0, .slice none 0 0, .slice none 0 0, .slice none 0 0, .int .i64 0] := by rw [← ea3]; exact blk_new W2 _ 32 _ f3
  have q1_3 : p1 < p3 := by rw [← f3]; exact b1.lt
  replace b1 := b1.on ka3
  have q2_3 : p2 < p3 := by rw [← f3]; exact b2.lt
  replace b2 := b2.on ka3
  have kk0 := kk
  replace kk := kk.trans (ka3.mono kk.size)
  have hp3 : w.heap.size ≤ p3 := by rw [← f3]; exact kk0.size
  clear ka3 kk0
  have h13 : p1 ≠ p3 := by omega
  have h23 : p2 ≠ p3 := by omega
  have d1 := clone_any (h.on kk) h1 h2 h3
  go_enter Try.func23, Try.ntmps23
  go_wp2_with (((with_reducible refine at_load 32 (.tmp 2) ?_); refine wpList_load_row rfl 32 (.tmp 2) rfl p1 rfl 32 x.cs.toArray (0, 0) _ b1 Try.underlying32 rfl (sizeT _) ?_))
  refine (d1).mono ?_
  rintro e W4 ⟨A1, c1, A2, c2, A3, c3, rfl, ow, k1⟩
  replace ow := ow.mono kk.size
  replace b1 := b1.on k1
  replace b2 := b2.on k1
  replace b3 := b3.on k1
  replace kk := kk.trans (k1.mono kk.size)
  clear k1
  clear d1 f1
  obtain ⟨W5, es5⟩ : ∃ W, W4.setRow p1 (x.put ⟨A1, x.se.n, c1⟩ ⟨A2, x.bg.n, c2⟩ ⟨A3, x.sn.n, c3⟩).cs.toArray = W := ⟨_, rfl⟩
  have bo1 := b1
  replace b2 := row_far b2 es5 (by omega)
  replace b3 := row_far b3 es5 (by omega)
  replace b1 : Blk W5 p1 32 (x.put ⟨A1, x.se.n, c1⟩ ⟨A2, x.bg.n, c2⟩ ⟨A3, x.sn.n, c3⟩).cs.toArray := row_named b1 es5
  replace kk := kk.trans (row_below es5 hp1 kk.size)
  have ow_ : Own w.heap.size W5 (x.put ⟨A1, x.se.n, c1⟩ ⟨A2, x.bg.n, c2⟩ ⟨A3, x.sn.n, c3⟩) z l s := ow.off bo1 (by decide) (by decide) es5 rfl rfl rfl
  clear ow
  have ow := ow_
  clear ow_
  have bo1_ := bo1
  have c5_2_0 : W5.cell? ⟨p2, 0, none⟩ = some (.int .i64 i.op) := b2.cell 0
  have lb1 := b1
  obtain ⟨W6, es6⟩ : ∃ W, W5.setRow p3 ((x).put ⟨A1, x.se.n, c1⟩ ⟨A2, x.bg.n, c2⟩ ⟨A3, x.sn.n, c3⟩).cs.toArray = W := ⟨_, rfl⟩
  have bo3 := b3
  replace b1 := row_far b1 es6 (by omega)
  replace b2 := row_far b2 es6 (by omega)
  replace b3 : Blk W6 p3 32 ((x).put ⟨A1, x.se.n, c1⟩ ⟨A2, x.bg.n, c2⟩ ⟨A3, x.sn.n, c3⟩).cs.toArray := row_named b3 es6
  replace kk := kk.trans (row_below es6 hp3 kk.size)
  replace ow := ow.off bo3 (by decide) (by decide) es6 rfl rfl rfl
  go_wp2_with (first | ((with_reducible refine at_store 32 (.tmp 2) (.tmp 7) ?_); refine wpList_store_row rfl 32 (.tmp 2) (.tmp 7) rfl p1 (x.put ⟨A1, x.se.n, c1⟩ ⟨A2, x.bg.n, c2⟩ ⟨A3, x.sn.n, c3⟩).cs.toArray rfl rfl 32 x.cs.toArray bo1_ (sizeT _) rfl (Th.onea _) ?_; rw [es5]) | ((with_reducible refine at_load 32 (.tmp 2) ?_); refine wpList_load_row rfl 32 (.tmp 2) rfl p1 rfl 32 ((x).put ⟨A1, x.se.n, c1⟩ ⟨A2, x.bg.n, c2⟩ ⟨A3, x.sn.n, c3⟩).cs.toArray (0, 0) _ lb1 Try.underlying32 rfl (sizeT _) ?_) | ((with_reducible refine at_store 32 (.tmp 4) (.tmp 71) ?_); refine wpList_store_row rfl 32 (.tmp 4) (.tmp 71) rfl p3 ((x).put ⟨A1, x.se.n, c1⟩ ⟨A2, x.bg.n, c2⟩ ⟨A3, x.sn.n, c3⟩).cs.toArray rfl rfl 32 #[.int .i64 0, .int .i64 0, .int .i64 0, .int .i64 0, .int .i64 0, .int .i64 0, .int .i64 0, .int .i64 0, .int .i64 0, .int .i64 0, .int .i64 0, .int .i64 0, .int .i64 0, .int .i64 0, .int .i64 0, .int .i64 0, .int .i64 0, .int .i64 0, .slice none 0 0, .slice none 0 0, .slice none 0 0, .int .i64 0] bo3 (sizeT _) rfl (Th.onea _) ?_; rw [es6]))
  refine bodyPost_ret (res23 _ _ p3 ((x).put ⟨A1, x.se.n, c1⟩ ⟨A2, x.bg.n, c2⟩ ⟨A3, x.sn.n, c3⟩).cs.toArray (.bool false) rfl rfl b3 (sizeT _)) rfl ?_
  exact ⟨A1, c1, A2, c2, A3, c3, rfl, ow, kk⟩
set_option maxRecDepth 100000 in
set_option maxHeartbeats 4000000 in
theorem local_any {w : World} {x : Th} {z s : List Int} {l : List Bg} (i : Ins) (h : Reads w x z l s) (h1 : x.se.n ≤ 1000) (h2 : x.bg.n ≤ 1000) (h3 : x.sn.n ≤ 1000) :
    Calls Try.prog 23 #[.agg x.cs.toArray, .agg i.cs.toArray] w fun e w' => ∃ A1 c1 A2 c2 A3 c3, e = .returned (.tuple #[.agg ((locT x i).put ⟨A1, x.se.n, c1⟩ ⟨A2, x.bg.n, c2⟩ ⟨A3, x.sn.n, c3⟩).cs.toArray, .bool (locB i)]) ∧ Own w.heap.size w' ((locT x i).put ⟨A1, x.se.n, c1⟩ ⟨A2, x.bg.n, c2⟩ ⟨A3, x.sn.n, c3⟩) z l s ∧ Below w.heap.size w w' := by
  unfold locT
  by_cases e1 : i.op = 1
  · rw [if_pos e1, show locB i = true by unfold locB inB; rw [e1]; rfl]
    exact loc_halt i e1 h h1 h2 h3
  rw [if_neg e1]
  by_cases e2 : i.op = 2
  · rw [if_pos e2, show locB i = true by unfold locB inB; rw [e2]; rfl]
    exact loc_set i e2 h h1 h2 h3
  rw [if_neg e2]
  by_cases e3 : i.op = 3
  · rw [if_pos e3, show locB i = true by unfold locB inB; rw [e3]; rfl]
    exact loc_copy i e3 h h1 h2 h3
  rw [if_neg e3]
  by_cases e4 : i.op = 4
  · rw [if_pos (.inl e4), show locB i = true by unfold locB inB; rw [e4]; rfl]
    exact loc_reck4 i e4 h h1 h2 h3
  by_cases e5 : i.op = 5
  · rw [if_pos (.inr (.inl e5)), show locB i = true by unfold locB inB; rw [e5]; rfl]
    exact loc_reck5 i e5 h h1 h2 h3
  by_cases e6 : i.op = 6
  · rw [if_pos (.inr (.inr (.inl e6))), show locB i = true by unfold locB inB; rw [e6]; rfl]
    exact loc_reck6 i e6 h h1 h2 h3
  by_cases e7 : i.op = 7
  · rw [if_pos (.inr (.inr (.inr e7))), show locB i = true by unfold locB inB; rw [e7]; rfl]
    exact loc_reck7 i e7 h h1 h2 h3
  rw [if_neg (show ¬ (i.op = 4 ∨ i.op = 5 ∨ i.op = 6 ∨ i.op = 7) by omega)]
  by_cases e8 : i.op = 8
  · rw [if_pos e8, show locB i = true by unfold locB inB; rw [e8]; rfl]
    exact loc_jump i e8 h h1 h2 h3
  rw [if_neg e8]
  by_cases e9 : i.op = 9
  · rw [if_pos e9, show locB i = true by unfold locB inB; rw [e9]; rfl]
    exact loc_zero i e9 h h1 h2 h3
  rw [if_neg e9]
  by_cases e10 : i.op = 10
  · rw [if_pos e10, show locB i = true by unfold locB inB; rw [e10]; rfl]
    exact loc_same i e10 h h1 h2 h3
  rw [if_neg e10]
  have hf : locB i = false := by
    unfold locB inB
    simp only [Bool.and_eq_false_iff, decide_eq_false_iff_not]
    omega
  rw [hf]
  exact loc_else i hf h h1 h2 h3
end Go.Proofs.Ytcajoekmigkhjaa
