/- A thread begins with the fuel of any config, and nothing else; it starts an instruction as told. Conditions: none. -/
import Derived.Test.YtcajoekmigkhjaaLawG
namespace Go.Proofs.Ytcajoekmigkhjaa
open Go.RowKit Go.ChangeShapes Go.WideShapes Go.Great

theorem same_back {w : World} {B : Nat} {y : Th} {A1 A2 A3 : Option Addr} {c1 c2 c3 : Nat} {z s : List Int} {l : List Bg} (h : Own B w (y.put ⟨A1, y.se.n, c1⟩ ⟨A2, y.bg.n, c2⟩ ⟨A3, y.sn.n, c3⟩) z l s) (h' : Reads w y z l s) :
    Calls Try.prog 11 #[.agg (y.put ⟨A1, y.se.n, c1⟩ ⟨A2, y.bg.n, c2⟩ ⟨A3, y.sn.n, c3⟩).cs.toArray, .agg y.cs.toArray] w fun e w' => e = .returned (.bool true) ∧ Below w.heap.size w w' :=
  thread_same (x := y.put ⟨A1, y.se.n, c1⟩ ⟨A2, y.bg.n, c2⟩ ⟨A3, y.sn.n, c3⟩) (A1 := y.se.A) (c1 := y.se.cap) (A2 := y.bg.A) (c2 := y.bg.cap) (A3 := y.sn.A) (c3 := y.sn.cap) h.reads h'
set_option maxRecDepth 100000 in
set_option maxHeartbeats 4000000 in
theorem begins_any {w : World} {x : Th} {z s : List Int} {l : List Bg} (c : Cf) (h : Reads w x z l s) : Calls Try.prog 3 #[.agg c.cs.toArray, .agg x.cs.toArray] w fun e w' => e = .returned (.bool true) ∧ Below w.heap.size w w' := by
  obtain ⟨p1, f1⟩ : ∃ p, w.heap.size = p := ⟨_, rfl⟩
  obtain ⟨W1, ea1⟩ : ∃ W, w.alloc (.cells c.cs.toArray 23) = W := ⟨_, rfl⟩
  have ka1 : Below w.heap.size w W1 := by rw [← ea1]; exact (Below.refl _ w).alloc (Nat.le_refl _) _
  have b1 : Blk W1 p1 23 c.cs.toArray := by rw [← ea1]; exact blk_new w _ 23 _ f1
  have kk : Below w.heap.size w W1 := ka1
  have hp1 : w.heap.size ≤ p1 := Nat.le_of_eq f1
  clear ka1
  obtain ⟨p2, f2⟩ : ∃ p, W1.heap.size = p := ⟨_, rfl⟩
  obtain ⟨W2, ea2⟩ : ∃ W, W1.alloc (.cells x.cs.toArray 32) = W := ⟨_, rfl⟩
  have ka2 : Below W1.heap.size W1 W2 := by rw [← ea2]; exact (Below.refl _ W1).alloc (Nat.le_refl _) _
  have b2 : Blk W2 p2 32 x.cs.toArray := by rw [← ea2]; exact blk_new W1 _ 32 _ f2
  have q1_2 : p1 < p2 := by rw [← f2]; exact b1.lt
  replace b1 := b1.on ka2
  have kk0 := kk
  replace kk := kk.trans (ka2.mono kk.size)
  have hp2 : w.heap.size ≤ p2 := by rw [← f2]; exact kk0.size
  clear ka2 kk0
  have hR0 := fewT_reads h
  have u1 : (fewT x).se.n ≤ 1000 := Nat.le_trans (Sl.cut_n _ 12) (by omega)
  have u2 : (fewT x).bg.n ≤ 1000 := Nat.le_trans (Sl.cut_n _ 12) (by omega)
  have u3 : (fewT x).sn.n ≤ 1000 := Nat.le_trans (Sl.cut_n _ 8) (by omega)
  have bg := fun W => begin_any c W
  have nr := fun W => near_any c.f 16 W
  generalize cl c.f 16 = F at *
  have sb : ∀ W, Calls Try.prog 11 #[.agg (begT F).cs.toArray, .agg #[.int .i64 0, .int .i64 F, .int .i64 0, .int .i64 0, .int .i64 0, .int .i64 0, .int .i64 0, .int .i64 0, .int .i64 0, .int .i64 0, .int .i64 0, .int .i64 0, .int .i64 0, .int .i64 0, .int .i64 0, .int .i64 0, .int .i64 0, .int .i64 0, .slice none 0 0, .slice none 0 0, .slice none 0 0, .int .i64 0]] W fun e w' => e = .returned (.bool true) ∧ Below W.heap.size W w' := fun W => thread_same (x := begT F) (A1 := none) (c1 := 0) (A2 := none) (c2 := 0) (A3 := none) (c3 := 0) (begT_reads W F) (begT_reads W F)
  go_enter Try.func3, Try.ntmps3
  go_wp2_with fail
  clear f1
  refine (alive_any _).mono ?_
  rintro e W3 ⟨rfl, k1⟩
  replace b1 := b1.on k1
  replace b2 := b2.on k1
  replace kk := kk.trans (k1.mono kk.size)
  clear k1
  have d1 := fewt_any (h.on kk)
  go_wp2_with (((with_reducible refine at_load 32 (.tmp 3) ?_); refine wpList_load_row rfl 32 (.tmp 3) rfl p2 rfl 32 x.cs.toArray (0, 0) _ b2 Try.underlying32 rfl (sizeT _) ?_))
  refine (d1).mono ?_
  rintro e W4 ⟨rfl, k1⟩
  replace b1 := b1.on k1
  replace b2 := b2.on k1
  replace kk := kk.trans (k1.mono kk.size)
  clear k1
  clear d1
  obtain ⟨W5, es5⟩ : ∃ W, W4.setRow p2 (fewT x).cs.toArray = W := ⟨_, rfl⟩
  have bo2 := b2
  replace b1 := row_far b1 es5 (by omega)
  replace b2 : Blk W5 p2 32 (fewT x).cs.toArray := row_named b2 es5
  replace kk := kk.trans (row_below es5 hp2 kk.size)
  have bo2_ := bo2
  have d1 := copy_any (hR0.on kk) u1 u2 u3
  go_wp2_with (first | ((with_reducible refine at_store 32 (.tmp 3) (.tmp 9) ?_); refine wpList_store_row rfl 32 (.tmp 3) (.tmp 9) rfl p2 (fewT x).cs.toArray rfl rfl 32 x.cs.toArray bo2_ (sizeT _) rfl (Th.onea _) ?_; rw [es5]) | ((with_reducible refine at_load 32 (.tmp 3) ?_); refine wpList_load_row rfl 32 (.tmp 3) rfl p2 rfl 32 (fewT x).cs.toArray (0, 0) _ b2 Try.underlying32 rfl (sizeT _) ?_))
  refine (d1).mono ?_
  rintro e W6 ⟨C1, cc1, C2, cc2, C3, cc3, rfl, oc, k2⟩
  replace oc := oc.mono kk.size
  replace b1 := b1.on k2
  replace b2 := b2.on k2
  replace kk := kk.trans (k2.mono kk.size)
  clear k2
  clear d1
  obtain ⟨p3, f3⟩ : ∃ p, W6.heap.size = p := ⟨_, rfl⟩
  obtain ⟨W7, ea7⟩ : ∃ W, W6.alloc (.cells #[.int .i64 0, .int .i64 0, .int .i64 0, .int .i64 0, .int .i64 0, .int .i64 0, .int .i64 0, .int .i64 0, .int .i64 0, .int .i64 0, .int .i64 0, .int .i64 0, .int .i64 0, .int .i64 0, .int .i64 0, .int .i64 0, .int .i64 0, .int .i64 0, .slice none 0 0, .slice none 0 0, .slice none 0 0, .int .i64 0] 32) = W := ⟨_, rfl⟩
  have ka7 : Below W6.heap.size W6 W7 := by rw [← ea7]; exact (Below.refl _ W6).alloc (Nat.le_refl _) _
  have b3 : Blk W7 p3 32 #[.int .i64 0, .int .i64 0, .int .i64 0, .int .i64 0, .int .i64 0, .int .i64 0, .int .i64 0, .int .i64 0, .int .i64 0, .int .i64 0, .int .i64 0, .int .i64 0, .int .i64 0, .int .i64 0, .int .i64 0, .int .i64 0, .int .i64 0, .int .i64 0, .slice none 0 0, .slice none 0 0, .slice none 0 0, .int .i64 0] := by rw [← ea7]; exact blk_new W6 _ 32 _ f3
  have q1_3 : p1 < p3 := by rw [← f3]; exact b1.lt
  replace b1 := b1.on ka7
  have q2_3 : p2 < p3 := by rw [← f3]; exact b2.lt
  replace b2 := b2.on ka7
  have kk0 := kk
  replace kk := kk.trans (ka7.mono kk.size)
  have hp3 : w.heap.size ≤ p3 := by rw [← f3]; exact kk0.size
  replace oc := oc.on ka7
  clear ka7 kk0
  obtain ⟨W8, es8⟩ : ∃ W, W7.setRow p3 ((fewT x).put ⟨C1, (fewT x).se.n, cc1⟩ ⟨C2, (fewT x).bg.n, cc2⟩ ⟨C3, (fewT x).sn.n, cc3⟩).cs.toArray = W := ⟨_, rfl⟩
  have bo3 := b3
  replace b1 := row_far b1 es8 (by omega)
  replace b2 := row_far b2 es8 (by omega)
  replace b3 : Blk W8 p3 32 ((fewT x).put ⟨C1, (fewT x).se.n, cc1⟩ ⟨C2, (fewT x).bg.n, cc2⟩ ⟨C3, (fewT x).sn.n, cc3⟩).cs.toArray := row_named b3 es8
  replace kk := kk.trans (row_below es8 hp3 kk.size)
  replace oc := oc.off bo3 (by decide) (by decide) es8 rfl rfl rfl
  have bo3_ := bo3
  have fr8_3_1 := b3.free 1
  have c8_3_1 : W8.cell? ⟨p3, 1, none⟩ = some (.int .i64 (fewT x).fu) := b3.cell 1
  have c8_2_1 : W8.cell? ⟨p2, 1, none⟩ = some (.int .i64 (fewT x).fu) := b2.cell 1
  have bb3 := b3
  obtain ⟨W9, es9⟩ : ∃ W, W8.setCell ⟨p3, 1, none⟩ (.int .i64 (wrap64 ((fewT x).fu - 1))) = W := ⟨_, rfl⟩
  replace b1 := set_far b1 es9 (by omega)
  replace b2 := set_far b2 es9 (by omega)
  replace b3 : Blk W9 p3 32 ({ ((fewT x).put ⟨C1, (fewT x).se.n, cc1⟩ ⟨C2, (fewT x).bg.n, cc2⟩ ⟨C3, (fewT x).sn.n, cc3⟩) with fu := wrap64 ((fewT x).fu - 1) } : Th).cs.toArray := set_named b3 es9 rfl
  replace kk := kk.trans (set_below es9 hp3 kk.size)
  replace oc : Own w.heap.size W9 ((fewT x).put ⟨C1, (fewT x).se.n, cc1⟩ ⟨C2, (fewT x).bg.n, cc2⟩ ⟨C3, (fewT x).sn.n, cc3⟩) _ _ _ := ⟨set_own oc.se bb3 (by decide) es9, set_own oc.bg bb3 (by decide) es9, set_own oc.sn bb3 (by decide) es9⟩
  clear bb3
  have fr9_3_0 := b3.free 0
  have c9_3_0 : W9.cell? ⟨p3, 0, none⟩ = some (.int .i64 (fewT x).pc) := b3.cell 0
  have c9_2_0 : W9.cell? ⟨p2, 0, none⟩ = some (.int .i64 (fewT x).pc) := b2.cell 0
  have bb3 := b3
  obtain ⟨W10, es10⟩ : ∃ W, W9.setCell ⟨p3, 0, none⟩ (.int .i64 (wrap64 ((fewT x).pc + 1))) = W := ⟨_, rfl⟩
  replace b1 := set_far b1 es10 (by omega)
  replace b2 := set_far b2 es10 (by omega)
  replace b3 : Blk W10 p3 32 ((stT (fewT x)).put ⟨C1, (fewT x).se.n, cc1⟩ ⟨C2, (fewT x).bg.n, cc2⟩ ⟨C3, (fewT x).sn.n, cc3⟩).cs.toArray := set_named b3 es10 rfl
  replace kk := kk.trans (set_below es10 hp3 kk.size)
  replace oc : Own w.heap.size W10 ((fewT x).put ⟨C1, (fewT x).se.n, cc1⟩ ⟨C2, (fewT x).bg.n, cc2⟩ ⟨C3, (fewT x).sn.n, cc3⟩) _ _ _ := ⟨set_own oc.se bb3 (by decide) es10, set_own oc.bg bb3 (by decide) es10, set_own oc.sn bb3 (by decide) es10⟩
  clear bb3
  go_wp2_with (((with_reducible refine at_store 32 (.tmp 5) (.tmp 11) ?_); refine wpList_store_row rfl 32 (.tmp 5) (.tmp 11) rfl p3 ((fewT x).put ⟨C1, (fewT x).se.n, cc1⟩ ⟨C2, (fewT x).bg.n, cc2⟩ ⟨C3, (fewT x).sn.n, cc3⟩).cs.toArray rfl rfl 32 #[.int .i64 0, .int .i64 0, .int .i64 0, .int .i64 0, .int .i64 0, .int .i64 0, .int .i64 0, .int .i64 0, .int .i64 0, .int .i64 0, .int .i64 0, .int .i64 0, .int .i64 0, .int .i64 0, .int .i64 0, .int .i64 0, .int .i64 0, .int .i64 0, .slice none 0 0, .slice none 0 0, .slice none 0 0, .int .i64 0] bo3_ (sizeT _) rfl (Th.onea _) ?_; rw [es8]))
  clear fr8_3_1 c8_3_1 c8_2_1 fr9_3_0 c9_3_0 c9_2_0
  replace oc : Own w.heap.size W10 ((stT (fewT x)).put ⟨C1, (fewT x).se.n, cc1⟩ ⟨C2, (fewT x).bg.n, cc2⟩ ⟨C3, (fewT x).sn.n, cc3⟩) (z.take 12) (l.take 12) (s.take 8) := ⟨oc.se, oc.bg, oc.sn⟩
  obtain ⟨wd, ed⟩ : ∃ W, W10.drew = W := ⟨_, rfl⟩
  have hd : Below W10.heap.size W10 wd := by rw [← ed]; exact (Below.refl _ _).drew
  replace b1 := b1.on hd
  replace b2 := b2.on hd
  replace b3 := b3.on hd
  replace oc := oc.on hd
  replace kk := kk.trans (hd.mono kk.size)
  clear hd
  have kS : Kept (fun g => False) wd wd := Kept.refl _ _
  have tS : ∀ W, Kept (fun g => False) wd W → W.cell? ⟨p1, 3, none⟩ = some (.int .i64 c.f) := fun W hW => (b1.kept hW id).cell 3
  refine wp_region_noPanic ?_
  refine wp_region_held_drew (S := (fun W => Kept (fun g => False) wd W)) (by kernel_rfl) (by rw [ed]; exact kS) (fun hHeld => ?_)
  rw [ed] at hHeld ⊢
  refine wpAnyH_take (i := 0) (oi := ⟨some 20, _, _, _, _, _⟩) (v := .agg (List.toArray (c.cs))) rfl (by kernel_rfl) (by kernel_rfl) (by kernel_rfl) (fun _ _ _ h => h) (yieldsIf_load_mid (by rfl) 23 (.tmp 2) rfl p1 (0) rfl (c.cs) _ (fun W hW => range_part (b1.kept hW id) 0 c.cs rfl) Try.underlying23 rfl size23) (by assumption) ?_
  try simp only [Act.put, List.setIfInBounds_toArray, List.set_cons_zero, List.set_cons_succ]
  refine wpAnyH_take (i := 2) (oi := ⟨some 22, _, _, _, _, _⟩) (v := ?_) rfl (by kernel_rfl) (by kernel_rfl) (by kernel_rfl) (fun _ _ _ h => h) (Or.inl ⟨by rfl, ?_⟩) (by assumption) ?_
  rotate_left 1
  · (intro W hSw; go_simp <;> with_reducible rfl)
  try simp only [Act.put, List.setIfInBounds_toArray, List.set_cons_zero, List.set_cons_succ]
  refine wpAnyH_take (i := 3) (oi := ⟨some 23, _, _, _, _, _⟩) (v := ?_) rfl (by kernel_rfl) (by kernel_rfl) (by kernel_rfl) (fun _ _ _ h => h) (Or.inl ⟨by rfl, ?_⟩) (by assumption) ?_
  rotate_left 1
  · (intro W hSw; obtain q0 := tS W hSw; go_simp <;> with_reducible rfl)
  try simp only [Act.put, List.setIfInBounds_toArray, List.set_cons_zero, List.set_cons_succ]
  refine wpAnyH_ready (rs := [1]) (by kernel_rfl) (by simp) ?_
  refine AllReadyH.cons (o := ⟨some 21, _, _, _, _, _⟩) rfl (fun K hK => ?_) AllReadyH.nil
  go_simp
  refine (bg wd).mono ?_
  rintro e w1 ⟨rfl, hb1⟩
  have b1_1 := b1.on hb1
  have b2_1 := b2.on hb1
  have b3_1 := b3.on hb1
  have oc_1 := oc.on hb1
  have kk_1 := kk.trans (hb1.mono kk.size)
  have S1 : (fun W => Kept (fun g => False) wd W) w1 := Kept.next kS (kept_below (fun _ => False) hb1) (fun _ h => h.elim)
  refine hK.out _ _ S1 (fun h1 => ?_)
  clear hHeld hK K
  try simp only [Act.put, List.setIfInBounds_toArray, List.set_cons_zero, List.set_cons_succ]
  refine wpAnyH_ready (rs := [4]) (by kernel_rfl) (by simp) ?_
  refine AllReadyH.cons (o := ⟨some 24, _, _, _, _, _⟩) rfl (fun K hK => ?_) AllReadyH.nil
  go_simp
  refine (nr w1).mono ?_
  rintro e w2 ⟨rfl, hw2⟩
  have hb2 : Below w1.heap.size w1 w2 := by rw [← hw2]; exact Below.refl _ _
  have b1_2 := b1_1.on hb2
  have b2_2 := b2_1.on hb2
  have b3_2 := b3_1.on hb2
  have oc_2 := oc_1.on hb2
  have kk_2 := kk_1.trans (hb2.mono kk_1.size)
  have S2 : (fun W => Kept (fun g => False) wd W) w2 := Kept.next S1 (kept_below (fun _ => False) hb2) (fun _ h => h.elim)
  refine hK.out _ _ S2 (fun h2 => ?_)
  clear h1 hK K
  try simp only [Act.put, List.setIfInBounds_toArray, List.set_cons_zero, List.set_cons_succ]
  refine wpAnyH_take (i := 5) (oi := ⟨some 25, _, _, _, _, _⟩) (v := ?_) rfl (by kernel_rfl) (by kernel_rfl) (by kernel_rfl) (fun _ _ _ h => h) (Or.inl ⟨by rfl, ?_⟩) (by assumption) ?_
  rotate_left 1
  · (intro W hSw; go_simp <;> with_reducible rfl)
  try simp only [Act.put, List.setIfInBounds_toArray, List.set_cons_zero, List.set_cons_succ]
  refine wpAnyH_ready (rs := [6]) (by kernel_rfl) (by simp) ?_
  refine AllReadyH.cons (o := ⟨some 26, _, _, _, _, _⟩) rfl (fun K hK => ?_) AllReadyH.nil
  go_simp
  refine (sb w2).mono ?_
  rintro e w3 ⟨rfl, hb3⟩
  have b1_3 := b1_2.on hb3
  have b2_3 := b2_2.on hb3
  have b3_3 := b3_2.on hb3
  have oc_3 := oc_2.on hb3
  have kk_3 := kk_2.trans (hb3.mono kk_2.size)
  have S3 : (fun W => Kept (fun g => False) wd W) w3 := Kept.next S2 (kept_below (fun _ => False) hb3) (fun _ h => h.elim)
  refine hK.out _ _ S3 (fun h3 => ?_)
  clear h2 hK K
  try simp only [Act.put, List.setIfInBounds_toArray, List.set_cons_zero, List.set_cons_succ]
  refine wpAnyH_take (i := 7) (oi := ⟨some 27, _, _, _, _, _⟩) (v := ?_) rfl (by kernel_rfl) (by kernel_rfl) (by kernel_rfl) (fun _ _ _ h => h) (Or.inl ⟨by rfl, ?_⟩) (by assumption) ?_
  rotate_left 1
  · (intro W hSw; go_simp <;> with_reducible rfl)
  try simp only [Act.put, List.setIfInBounds_toArray, List.set_cons_zero, List.set_cons_succ]
  refine wpAnyH_take (i := 8) (oi := ⟨some 28, _, _, _, _, _⟩) (v := .agg (List.toArray ((fewT x).cs))) rfl (by kernel_rfl) (by kernel_rfl) (by kernel_rfl) (fun _ _ _ h => h) (yieldsIf_load_mid (by rfl) 32 (.tmp 3) rfl p2 (0) rfl ((fewT x).cs) _ (fun W hW => range_part (b2.kept hW id) 0 (fewT x).cs rfl) Try.underlying32 rfl (sizeT _)) (by assumption) ?_
  try simp only [Act.put, List.setIfInBounds_toArray, List.set_cons_zero, List.set_cons_succ]
  refine wpAnyH_take (i := 10) (oi := ⟨some 30, _, _, _, _, _⟩) (v := .agg (List.toArray (((stT (fewT x)).put ⟨C1, (fewT x).se.n, cc1⟩ ⟨C2, (fewT x).bg.n, cc2⟩ ⟨C3, (fewT x).sn.n, cc3⟩).cs))) rfl (by kernel_rfl) (by kernel_rfl) (by kernel_rfl) (fun _ _ _ h => h) (yieldsIf_load_mid (by rfl) 32 (.tmp 5) rfl p3 (0) rfl (((stT (fewT x)).put ⟨C1, (fewT x).se.n, cc1⟩ ⟨C2, (fewT x).bg.n, cc2⟩ ⟨C3, (fewT x).sn.n, cc3⟩).cs) _ (fun W hW => range_part (b3.kept hW id) 0 ((stT (fewT x)).put ⟨C1, (fewT x).se.n, cc1⟩ ⟨C2, (fewT x).bg.n, cc2⟩ ⟨C3, (fewT x).sn.n, cc3⟩).cs rfl) Try.underlying32 rfl (sizeT _)) (by assumption) ?_
  try simp only [Act.put, List.setIfInBounds_toArray, List.set_cons_zero, List.set_cons_succ]
  refine wpAnyH_ready (rs := [9]) (by kernel_rfl) (by simp) ?_
  refine AllReadyH.cons (o := ⟨some 29, _, _, _, _, _⟩) rfl (fun K hK => ?_) AllReadyH.nil
  go_simp
  refine (start_any (hR0.on kk_3) u1 u2 u3).mono ?_
  rintro e w4 ⟨E1, ec1, E2, ec2, E3, ec3, rfl, oe4, hb4⟩
  replace oe4 : Own _ w4 ((stT (fewT x)).put ⟨E1, (fewT x).se.n, ec1⟩ ⟨E2, (fewT x).bg.n, ec2⟩ ⟨E3, (fewT x).sn.n, ec3⟩) _ _ _ := ⟨oe4.se, oe4.bg, oe4.sn⟩
  have b1_4 := b1_3.on hb4
  have b2_4 := b2_3.on hb4
  have b3_4 := b3_3.on hb4
  have oc_4 := oc_3.on hb4
  have kk_4 := kk_3.trans (hb4.mono kk_3.size)
  have S4 : (fun W => Kept (fun g => False) wd W) w4 := Kept.next S3 (kept_below (fun _ => False) hb4) (fun _ h => h.elim)
  refine hK.out _ _ S4 (fun h4 => ?_)
  clear h3 hK K
  try simp only [Act.put, List.setIfInBounds_toArray, List.set_cons_zero, List.set_cons_succ]
  refine wpAnyH_ready (rs := [11]) (by kernel_rfl) (by simp) ?_
  refine AllReadyH.cons (o := ⟨some 31, _, _, _, _, _⟩) rfl (fun K hK => ?_) AllReadyH.nil
  go_simp
  refine (same_put oe4 oc_4).mono ?_
  rintro e w5 ⟨rfl, hb5⟩
  have b1_5 := b1_4.on hb5
  have b2_5 := b2_4.on hb5
  have b3_5 := b3_4.on hb5
  have oc_5 := oc_4.on hb5
  have kk_5 := kk_4.trans (hb5.mono kk_4.size)
  have oe_5 := oe4.on hb5
  have S5 : (fun W => Kept (fun g => False) wd W) w5 := Kept.next S4 (kept_below (fun _ => False) hb5) (fun _ h => h.elim)
  refine hK.out _ _ S5 (fun h5 => ?_)
  clear h4 hK K
  try simp only [Act.put, List.setIfInBounds_toArray, List.set_cons_zero, List.set_cons_succ]
  refine wpAnyH_take (i := 12) (oi := ⟨some 32, _, _, _, _, _⟩) (v := ?_) rfl (by kernel_rfl) (by kernel_rfl) (by kernel_rfl) (fun _ _ _ h => h) (Or.inl ⟨by rfl, ?_⟩) (by assumption) ?_
  rotate_left 1
  · (intro W hSw; go_simp <;> with_reducible rfl)
  try simp only [Act.put, List.setIfInBounds_toArray, List.set_cons_zero, List.set_cons_succ]
  refine wpAnyH_take (i := 13) (oi := ⟨some 33, _, _, _, _, _⟩) (v := ?_) rfl (by kernel_rfl) (by kernel_rfl) (by kernel_rfl) (fun _ _ _ h => h) (Or.inl ⟨by rfl, ?_⟩) (by assumption) ?_
  rotate_left 1
  · (intro W hSw; go_simp <;> with_reducible rfl)
  try simp only [Act.put, List.setIfInBounds_toArray, List.set_cons_zero, List.set_cons_succ]
  refine wpAnyH_take (i := 14) (oi := ⟨some 34, _, _, _, _, _⟩) (v := .agg (List.toArray ((fewT x).cs))) rfl (by kernel_rfl) (by kernel_rfl) (by kernel_rfl) (fun _ _ _ h => h) (yieldsIf_load_mid (by rfl) 32 (.tmp 3) rfl p2 (0) rfl ((fewT x).cs) _ (fun W hW => range_part (b2.kept hW id) 0 (fewT x).cs rfl) Try.underlying32 rfl (sizeT _)) (by assumption) ?_
  try simp only [Act.put, List.setIfInBounds_toArray, List.set_cons_zero, List.set_cons_succ]
  refine wpAnyH_take (i := 16) (oi := ⟨some 36, _, _, _, _, _⟩) (v := .agg (List.toArray ((fewT x).cs))) rfl (by kernel_rfl) (by kernel_rfl) (by kernel_rfl) (fun _ _ _ h => h) (yieldsIf_load_mid (by rfl) 32 (.tmp 3) rfl p2 (0) rfl ((fewT x).cs) _ (fun W hW => range_part (b2.kept hW id) 0 (fewT x).cs rfl) Try.underlying32 rfl (sizeT _)) (by assumption) ?_
  try simp only [Act.put, List.setIfInBounds_toArray, List.set_cons_zero, List.set_cons_succ]
  refine wpAnyH_ready (rs := [15]) (by kernel_rfl) (by simp) ?_
  refine AllReadyH.cons (o := ⟨some 35, _, _, _, _, _⟩) rfl (fun K hK => ?_) AllReadyH.nil
  go_simp
  refine (clone_any (hR0.on kk_5) u1 u2 u3).mono ?_
  rintro e w6 ⟨G1, gc1, G2, gc2, G3, gc3, rfl, og6, hb6⟩
  have b1_6 := b1_5.on hb6
  have b2_6 := b2_5.on hb6
  have b3_6 := b3_5.on hb6
  have oc_6 := oc_5.on hb6
  have kk_6 := kk_5.trans (hb6.mono kk_5.size)
  have oe_6 := oe_5.on hb6
  have S6 : (fun W => Kept (fun g => False) wd W) w6 := Kept.next S5 (kept_below (fun _ => False) hb6) (fun _ h => h.elim)
  refine hK.out _ _ S6 (fun h6 => ?_)
  clear h5 hK K
  try simp only [Act.put, List.setIfInBounds_toArray, List.set_cons_zero, List.set_cons_succ]
  refine wpAnyH_ready (rs := [17]) (by kernel_rfl) (by simp) ?_
  refine AllReadyH.cons (o := ⟨some 37, _, _, _, _, _⟩) rfl (fun K hK => ?_) AllReadyH.nil
  go_simp
  refine (same_back og6 (hR0.on kk_6)).mono ?_
  rintro e w7 ⟨rfl, hb7⟩
  have b1_7 := b1_6.on hb7
  have b2_7 := b2_6.on hb7
  have b3_7 := b3_6.on hb7
  have oc_7 := oc_6.on hb7
  have kk_7 := kk_6.trans (hb7.mono kk_6.size)
  have oe_7 := oe_6.on hb7
  have og_7 := og6.on hb7
  have S7 : (fun W => Kept (fun g => False) wd W) w7 := Kept.next S6 (kept_below (fun _ => False) hb7) (fun _ h => h.elim)
  refine hK.out _ _ S7 (fun h7 => ?_)
  clear h6 hK K
  try simp only [Act.put, List.setIfInBounds_toArray, List.set_cons_zero, List.set_cons_succ]
  refine wpAnyH_take (i := 18) (oi := ⟨some 38, _, _, _, _, _⟩) (v := ?_) rfl (by kernel_rfl) (by kernel_rfl) (by kernel_rfl) (fun _ _ _ h => h) (Or.inl ⟨by rfl, ?_⟩) (by assumption) ?_
  rotate_left 1
  · (intro W hSw; go_simp <;> with_reducible rfl)
  try simp only [Act.put, List.setIfInBounds_toArray, List.set_cons_zero, List.set_cons_succ]
  refine wpAnyH_take (i := 19) (oi := ⟨some 4, _, _, _, _, _⟩) (v := ?_) rfl (by kernel_rfl) (by kernel_rfl) (by kernel_rfl) (fun _ _ _ h => h) (Or.inl ⟨by rfl, ?_⟩) (by assumption) ?_
  rotate_left 1
  · (intro W hSw; go_simp <;> with_reducible rfl)
  try simp only [Act.put, List.setIfInBounds_toArray, List.set_cons_zero, List.set_cons_succ]
  refine wpAnyH_done (by kernel_rfl) ?_ _
  refine NoPanic.normal ?_
  go_wp2_with fail
  go_ret
  exact ⟨rfl, kk_7⟩
end Go.Proofs.Ytcajoekmigkhjaa
