/- What is reckoned of two registers. Conditions: none. -/
import Derived.Test.YtcajoekmigkhjaaSet
import Derived.Deep.DeepCutAuto
namespace Go.Proofs.Ytcajoekmigkhjaa
open Go.RowKit Go.ChangeShapes Go.WideShapes Go.Great

set_option maxRecDepth 100000 in
set_option maxHeartbeats 4000000 in
theorem reck_any (x : Th) (i : Ins) (h : i.op = 4 ∨ i.op = 5 ∨ i.op = 6 ∨ i.op = 7) (w : World) : Calls Try.prog 37 #[.agg x.cs.toArray, .agg i.cs.toArray] w fun e w' => e = .returned (.agg (recT x i).cs.toArray) ∧ Below w.heap.size w w' := by
  obtain ⟨F, eF⟩ : ∃ F, recT x i = F := ⟨_, rfl⟩
  rw [eF]
  have HF := Lib.hid eF
  clear eF
  obtain ⟨p1, f1⟩ : ∃ p, w.heap.size = p := ⟨_, rfl⟩
  obtain ⟨W1, ea1⟩ : ∃ W, w.alloc (.cells x.cs.toArray 32) = W := ⟨_, rfl⟩
  have ka1 : Below w.heap.size w W1 := by rw [← ea1]; exact (Below.refl _ w).alloc (Nat.le_refl _) _
  have b1 : Blk W1 p1 32 x.cs.toArray := by rw [← ea1]; exact blk_new w _ 32 _ f1
  have kk : Below w.heap.size w W1 := ka1
  have hp1 : w.heap.size ≤ p1 := Nat.le_of_eq f1
  clear ka1
  obtain ⟨p2, f2⟩ : ∃ p, W1.heap.size = p := ⟨_, rfl⟩
  obtain ⟨W2, ea2⟩ : ∃ W, W1.alloc (.cells i.cs.toArray 42) = W := ⟨_, rfl⟩
  have ka2 : Below W1.heap.size W1 W2 := by rw [← ea2]; exact (Below.refl _ W1).alloc (Nat.le_refl _) _
  have b2 : Blk W2 p2 42 i.cs.toArray := by rw [← ea2]; exact blk_new W1 _ 42 _ f2
  have q1_2 : p1 < p2 := by rw [← f2]; exact b1.lt
  replace b1 := b1.on ka2
  have kk0 := kk
  replace kk := kk.trans (ka2.mono kk.size)
  have hp2 : w.heap.size ≤ p2 := by rw [← f2]; exact kk0.size
  clear ka2 kk0
  obtain ⟨p3, f3⟩ : ∃ p, W2.heap.size = p := ⟨_, rfl⟩
  obtain ⟨W3, ea3⟩ : ∃ W, W2.alloc (.cells #[.int .i64 0, .int .i64 0, .int .i64 0, .int .i64 0, .int .i64 0, .int .i64 0, .int .i64 0, .int .i64 0, .int .i64 0, .int .i64 0, .int .i64 0, .int .i64 0, .int .i64 0, .int .i64 0, .int .i64 0, .int .i64 0, .int .i64 0, .int .i64 0, .slice none 0 0, .slice none 0 0, .slice none 0 0, .int .i64 0] 32) = W := ⟨_, rfl⟩
  have ka3 : Below W2.heap.size W2 W3 := by rw [← ea3]; exact (Below.refl _ W2).alloc (Nat.le_refl _) _
  have b3 : Blk W3 p3 32 #[.int .i64 0, .int .i64 0, .int .i64 0, .int .i64 0, .int .i64 0, .int .i64 0, .int .i64 0, .int .i64 0, .int .i64 0, .int .i64 0, .int .i64 0, .int .i64 0, .int .i64 0, .int .i64 0, .int .i64 0, .int .i64 0, .int .i64 0, .int .i64 0, .slice none 0 0, .slice none 0 0, .slice none 0 0, .int .i64 0] := by rw [← ea3]; exact blk_new W2 _ 32 _ f3
  have q1_3 : p1 < p3 := by rw [← f3]; exact b1.lt
  replace b1 := b1.on ka3
  have q2_3 : p2 < p3 := by rw [← f3]; exact b2.lt
  replace b2 := b2.on ka3
  have kk0 := kk
  replace kk := kk.trans (ka3.mono kk.size)
  have hp3 : w.heap.size ≤ p3 := by rw [← f3]; exact kk0.size
  clear ka3 kk0
  go_enter Try.func37, Try.ntmps37
  go_wp2_with fail
  clear f1
  go_cut [5, 6] (fun s5 s6 wx => ∃ P, s5 = .pointer (some ⟨P, 0, none⟩) ∧ s6 = .bool (!ariN i.op (regI x i.c).n) ∧ Below w.heap.size w wx ∧ Blk wx p1 32 x.cs.toArray ∧ Blk wx p2 42 i.cs.toArray ∧ Blk wx p3 32 #[.int .i64 0, .int .i64 0, .int .i64 0, .int .i64 0, .int .i64 0, .int .i64 0, .int .i64 0, .int .i64 0, .int .i64 0, .int .i64 0, .int .i64 0, .int .i64 0, .int .i64 0, .int .i64 0, .int .i64 0, .int .i64 0, .int .i64 0, .int .i64 0, .slice none 0 0, .slice none 0 0, .slice none 0 0, .int .i64 0] ∧ Blk wx P 25 (Wd.mk (ariZ i.op (regI x i.b).n (regI x i.c).n) 0 0).cs.toArray)
  case first =>
    have hwd0 := kk.size
    obtain ⟨wd, ed⟩ : ∃ W, W3.drew = W := ⟨_, rfl⟩
    have hd : Below W3.heap.size W3 wd := by rw [← ed]; exact (Below.refl _ _).drew
    replace b1 := b1.on hd
    replace b2 := b2.on hd
    replace b3 := b3.on hd
    replace kk := kk.trans (hd.mono kk.size)
    clear hd
    have hwd : w.heap.size ≤ wd.heap.size := kk.size
    have kS : Kept (fun g => False) wd wd := Kept.refl _ _
    have tS : ∀ W, Kept (fun g => False) wd W → W.cell? ⟨p2, 0, none⟩ = some (.int .i64 i.op) ∧ W.cell? ⟨p2, 2, none⟩ = some (.int .i64 i.b) ∧ W.cell? ⟨p2, 3, none⟩ = some (.int .i64 i.c) := fun W hW => ⟨(b2.kept hW id).cell 0, (b2.kept hW id).cell 2, (b2.kept hW id).cell 3⟩
    refine wp_region_noPanic ?_
    refine wp_region_held_drew (S := (fun W => Kept (fun g => False) wd W)) (by kernel_rfl) (by rw [ed]; exact kS) (fun hHeld => ?_)
    rw [ed] at hHeld ⊢
    refine wpAnyH_take (i := 0) (oi := ⟨some 8, _, _, _, _, _⟩) (v := ?_) rfl (by kernel_rfl) (by kernel_rfl) (by kernel_rfl) (fun _ _ _ h => h) (Or.inl ⟨by rfl, ?_⟩) (by assumption) ?_
    rotate_left 1
    · (intro W hSw; go_simp <;> with_reducible rfl)
    try simp only [Act.put, List.setIfInBounds_toArray, List.set_cons_zero, List.set_cons_succ]
    refine wpAnyH_take (i := 1) (oi := ⟨some 9, _, _, _, _, _⟩) (v := ?_) rfl (by kernel_rfl) (by kernel_rfl) (by kernel_rfl) (fun _ _ _ h => h) (Or.inl ⟨by rfl, ?_⟩) (by assumption) ?_
    rotate_left 1
    · (intro W hSw; obtain ⟨q0, q1, q2⟩ := tS W hSw; go_simp <;> with_reducible rfl)
    try simp only [Act.put, List.setIfInBounds_toArray, List.set_cons_zero, List.set_cons_succ]
    refine wpAnyH_take (i := 2) (oi := ⟨some 10, _, _, _, _, _⟩) (v := .agg (List.toArray (x.cs))) rfl (by kernel_rfl) (by kernel_rfl) (by kernel_rfl) (fun _ _ _ h => h) (yieldsIf_load_mid (by rfl) 32 (.tmp 2) rfl p1 (0) rfl (x.cs) _ (fun W hW => range_part (b1.kept hW id) 0 x.cs rfl) Try.underlying32 rfl (sizeT _)) (by assumption) ?_
    try simp only [Act.put, List.setIfInBounds_toArray, List.set_cons_zero, List.set_cons_succ]
    refine wpAnyH_take (i := 3) (oi := ⟨some 11, _, _, _, _, _⟩) (v := ?_) rfl (by kernel_rfl) (by kernel_rfl) (by kernel_rfl) (fun _ _ _ h => h) (Or.inl ⟨by rfl, ?_⟩) (by assumption) ?_
    rotate_left 1
    · (intro W hSw; go_simp <;> with_reducible rfl)
    try simp only [Act.put, List.setIfInBounds_toArray, List.set_cons_zero, List.set_cons_succ]
    refine wpAnyH_take (i := 4) (oi := ⟨some 12, _, _, _, _, _⟩) (v := ?_) rfl (by kernel_rfl) (by kernel_rfl) (by kernel_rfl) (fun _ _ _ h => h) (Or.inl ⟨by rfl, ?_⟩) (by assumption) ?_
    rotate_left 1
    · (intro W hSw; obtain ⟨q0, q1, q2⟩ := tS W hSw; go_simp <;> with_reducible rfl)
    try simp only [Act.put, List.setIfInBounds_toArray, List.set_cons_zero, List.set_cons_succ]
    refine wpAnyH_take (i := 6) (oi := ⟨some 14, _, _, _, _, _⟩) (v := .agg (List.toArray (x.cs))) rfl (by kernel_rfl) (by kernel_rfl) (by kernel_rfl) (fun _ _ _ h => h) (yieldsIf_load_mid (by rfl) 32 (.tmp 2) rfl p1 (0) rfl (x.cs) _ (fun W hW => range_part (b1.kept hW id) 0 x.cs rfl) Try.underlying32 rfl (sizeT _)) (by assumption) ?_
    try simp only [Act.put, List.setIfInBounds_toArray, List.set_cons_zero, List.set_cons_succ]
    refine wpAnyH_take (i := 7) (oi := ⟨some 15, _, _, _, _, _⟩) (v := ?_) rfl (by kernel_rfl) (by kernel_rfl) (by kernel_rfl) (fun _ _ _ h => h) (Or.inl ⟨by rfl, ?_⟩) (by assumption) ?_
    rotate_left 1
    · (intro W hSw; go_simp <;> with_reducible rfl)
    try simp only [Act.put, List.setIfInBounds_toArray, List.set_cons_zero, List.set_cons_succ]
    refine wpAnyH_take (i := 8) (oi := ⟨some 16, _, _, _, _, _⟩) (v := ?_) rfl (by kernel_rfl) (by kernel_rfl) (by kernel_rfl) (fun _ _ _ h => h) (Or.inl ⟨by rfl, ?_⟩) (by assumption) ?_
    rotate_left 1
    · (intro W hSw; obtain ⟨q0, q1, q2⟩ := tS W hSw; go_simp <;> with_reducible rfl)
    try simp only [Act.put, List.setIfInBounds_toArray, List.set_cons_zero, List.set_cons_succ]
    refine wpAnyH_ready (rs := [5, 14]) (by kernel_rfl) (by simp) ?_
    refine AllReadyH.cons (o := ⟨some 13, _, _, _, _, _⟩) rfl (fun K hK => ?_) (AllReadyH.cons (o := ⟨some 5, _, _, _, _, _⟩) rfl (fun K hK => ?_) AllReadyH.nil)
    · go_simp
      refine (get_any x i.b wd).mono ?_
      rintro e w1 ⟨rfl, hb1⟩
      have b1_1 := b1.on hb1
      have b2_1 := b2.on hb1
      have b3_1 := b3.on hb1
      have kk_1 := kk.trans (hb1.mono kk.size)
      have S1 : (fun W => Kept (fun g => False) wd W) w1 := Kept.next kS (kept_below (fun _ => False) hb1) (fun _ h => h.elim)
      refine hK.out _ _ S1 (fun h1 => ?_)
      clear hHeld hK K
      try simp only [Act.put, List.setIfInBounds_toArray, List.set_cons_zero, List.set_cons_succ]
      refine wpAnyH_ready (rs := [9, 14]) (by kernel_rfl) (by simp) ?_
      refine AllReadyH.cons (o := ⟨some 17, _, _, _, _, _⟩) rfl (fun K hK => ?_) (AllReadyH.cons (o := ⟨some 5, _, _, _, _, _⟩) rfl (fun K hK => ?_) AllReadyH.nil)
      · go_simp
        refine (get_any x i.c w1).mono ?_
        rintro e w2 ⟨rfl, hb2⟩
        have b1_2 := b1_1.on hb2
        have b2_2 := b2_1.on hb2
        have b3_2 := b3_1.on hb2
        have kk_2 := kk_1.trans (hb2.mono kk_1.size)
        have S2 : (fun W => Kept (fun g => False) wd W) w2 := Kept.next S1 (kept_below (fun _ => False) hb2) (fun _ h => h.elim)
        refine hK.out _ _ S2 (fun h2 => ?_)
        clear h1 hK K
        try simp only [Act.put, List.setIfInBounds_toArray, List.set_cons_zero, List.set_cons_succ]
        refine wpAnyH_ready (rs := [10, 14]) (by kernel_rfl) (by simp) ?_
        refine AllReadyH.cons (o := ⟨some 18, _, _, _, _, _⟩) rfl (fun K hK => ?_) (AllReadyH.cons (o := ⟨some 5, _, _, _, _, _⟩) rfl (fun K hK => ?_) AllReadyH.nil)
        · go_simp
          refine (arith_any i.op (regI x i.b) (regI x i.c) h w2).mono ?_
          rintro e w3 ⟨rfl, hb3⟩
          have b1_3 := b1_2.on hb3
          have b2_3 := b2_2.on hb3
          have b3_3 := b3_2.on hb3
          have kk_3 := kk_2.trans (hb3.mono kk_2.size)
          have S3 : (fun W => Kept (fun g => False) wd W) w3 := Kept.next S2 (kept_below (fun _ => False) hb3) (fun _ h => h.elim)
          refine hK.out _ _ S3 (fun h3 => ?_)
          clear h2 hK K
          try simp only [Act.put, List.setIfInBounds_toArray, List.set_cons_zero, List.set_cons_succ]
          refine wpAnyH_take (i := 11) (oi := ⟨some 7, _, _, _, _, _⟩) (v := ?_) rfl (by kernel_rfl) (by kernel_rfl) (by kernel_rfl) (fun _ _ _ h => h) (Or.inl ⟨by rfl, ?_⟩) (by assumption) ?_
          rotate_left 1
          · (intro W hSw; go_simp <;> with_reducible rfl)
          try simp only [Act.put, List.setIfInBounds_toArray, List.set_cons_zero, List.set_cons_succ]
          refine wpAnyH_take (i := 12) (oi := ⟨some 19, _, _, _, _, _⟩) (v := ?_) rfl (by kernel_rfl) (by kernel_rfl) (by kernel_rfl) (fun _ _ _ h => h) (Or.inl ⟨by rfl, ?_⟩) (by assumption) ?_
          rotate_left 1
          · (intro W hSw; go_simp <;> with_reducible rfl)
          try simp only [Act.put, List.setIfInBounds_toArray, List.set_cons_zero, List.set_cons_succ]
          refine wpAnyH_take (i := 13) (oi := ⟨some 20, _, _, _, _, _⟩) (v := ?_) rfl (by kernel_rfl) (by kernel_rfl) (by kernel_rfl) (fun _ _ _ h => h) (Or.inl ⟨by rfl, ?_⟩) (by assumption) ?_
          rotate_left 1
          · (intro W hSw; go_simp <;> with_reducible rfl)
          try simp only [Act.put, List.setIfInBounds_toArray, List.set_cons_zero, List.set_cons_succ]
          refine wpAnyH_ready (rs := [14]) (by kernel_rfl) (by simp) ?_
          refine AllReadyH.cons (o := ⟨some 5, _, _, _, _, _⟩) rfl (fun K hK => ?_) AllReadyH.nil
          go_simp
          obtain ⟨w4, ew4⟩ : ∃ zz, zz = w3.alloc (.cells #[.int .i64 0, .int .i64 0, .int .i64 0] 25) := ⟨_, rfl⟩
          have hb4 : Below w3.heap.size w3 w4 := by rw [ew4]; exact (Below.refl _ _).alloc (Nat.le_refl _) _
          rw [← ew4]
          have pl4 : Blk w4 w3.heap.size 25 #[.int .i64 0, .int .i64 0, .int .i64 0] := by rw [ew4]; exact heap_alloc_new _ _
          have hP4 : wd.heap.size ≤ w3.heap.size := Kept.size S3
          have b1_4 := b1_3.on hb4
          have b2_4 := b2_3.on hb4
          have b3_4 := b3_3.on hb4
          have kk_4 := kk_3.trans (hb4.mono kk_3.size)
          have S4 : (fun W => Kept (fun g => False) wd W) w4 := Kept.next S3 (kept_below (fun _ => False) hb4) (fun _ h => h.elim)
          refine hK.out _ _ S4 (fun h4 => ?_)
          clear h3 hK K ew4
          try simp only [Act.put, List.setIfInBounds_toArray, List.set_cons_zero, List.set_cons_succ]
          refine wpAnyH_ready (rs := [15]) (by kernel_rfl) (by simp) ?_
          refine AllReadyH.cons (o := ⟨none, _, _, _, _, _⟩) rfl (fun K hK => ?_) AllReadyH.nil
          rw [if_pos (by rfl)]
          refine wp_store_row 25 (.tmp 5) (.tmp 19) rfl (w3.heap.size) (Wd.mk (ariZ i.op (regI x i.b).n (regI x i.c).n) 0 0).cs.toArray rfl rfl 25 #[.int .i64 0, .int .i64 0, .int .i64 0] pl4 size25 rfl (Wd.onea _) ?_
          refine hK.out _ _ (Kept.next S4 (kept_row _ (w3.heap.size) _) (fun g h => .inr (by rw [h]; exact hP4))) (fun h5 => ?_)
          clear h4 hK K
          have S5 : Kept (fun g => False) wd (w4.setRow (w3.heap.size) (Wd.mk (ariZ i.op (regI x i.b).n (regI x i.c).n) 0 0).cs.toArray) := Kept.next S4 (kept_row _ (w3.heap.size) _) (fun g h => .inr (by rw [h]; exact hP4))
          have pl5 : Blk (w4.setRow (w3.heap.size) (Wd.mk (ariZ i.op (regI x i.b).n (regI x i.c).n) 0 0).cs.toArray) (w3.heap.size) 25 (Wd.mk (ariZ i.op (regI x i.b).n (regI x i.c).n) 0 0).cs.toArray := row_named pl4 rfl
          have b1_5 := row_far (W := (w4.setRow (w3.heap.size) (Wd.mk (ariZ i.op (regI x i.b).n (regI x i.c).n) 0 0).cs.toArray)) b1_4 rfl (by have := b1_4.ne pl4 (by decide); exact this)
          have b2_5 := row_far (W := (w4.setRow (w3.heap.size) (Wd.mk (ariZ i.op (regI x i.b).n (regI x i.c).n) 0 0).cs.toArray)) b2_4 rfl (by have := b2_4.ne pl4 (by decide); exact this)
          have b3_5 := row_far (W := (w4.setRow (w3.heap.size) (Wd.mk (ariZ i.op (regI x i.b).n (regI x i.c).n) 0 0).cs.toArray)) b3_4 rfl (by have := b3_4.ne pl4 (by decide); exact this)
          have kk_5 := kk_4.trans (row_below (W := (w4.setRow (w3.heap.size) (Wd.mk (ariZ i.op (regI x i.b).n (regI x i.c).n) 0 0).cs.toArray)) rfl (Nat.le_trans hwd hP4) kk_4.size)
          try simp only [Act.put]
          refine wpAnyH_take (i := 16) (oi := ⟨some 6, _, _, _, _, _⟩) (v := ?_) rfl (by kernel_rfl) (by kernel_rfl) (by kernel_rfl) (fun _ _ _ h => h) (Or.inl ⟨by rfl, ?_⟩) (by assumption) ?_
          rotate_left 1
          · (intro W hSw; go_simp <;> with_reducible rfl)
          try simp only [Act.put, List.setIfInBounds_toArray, List.set_cons_zero, List.set_cons_succ]
          refine wpAnyH_done (by kernel_rfl) ?_ _
          refine NoPanic.normal ?_
          go_wp2_with fail
          go_meet
          exact ⟨_, rfl, rfl, kk_5, b1_5, b2_5, b3_5, pl5⟩
        · go_simp
          obtain ⟨w6, ew6⟩ : ∃ zz, zz = w2.alloc (.cells #[.int .i64 0, .int .i64 0, .int .i64 0] 25) := ⟨_, rfl⟩
          have hb6 : Below w2.heap.size w2 w6 := by rw [ew6]; exact (Below.refl _ _).alloc (Nat.le_refl _) _
          rw [← ew6]
          have pl6 : Blk w6 w2.heap.size 25 #[.int .i64 0, .int .i64 0, .int .i64 0] := by rw [ew6]; exact heap_alloc_new _ _
          have hP6 : wd.heap.size ≤ w2.heap.size := Kept.size S2
          have b1_6 := b1_2.on hb6
          have b2_6 := b2_2.on hb6
          have b3_6 := b3_2.on hb6
          have kk_6 := kk_2.trans (hb6.mono kk_2.size)
          have S6 : (fun W => Kept (fun g => False) wd W) w6 := Kept.next S2 (kept_below (fun _ => False) hb6) (fun _ h => h.elim)
          refine hK.out _ _ S6 (fun h6 => ?_)
          clear h2 hK K ew6
          try simp only [Act.put, List.setIfInBounds_toArray, List.set_cons_zero, List.set_cons_succ]
          refine wpAnyH_ready (rs := [10]) (by kernel_rfl) (by simp) ?_
          refine AllReadyH.cons (o := ⟨some 18, _, _, _, _, _⟩) rfl (fun K hK => ?_) AllReadyH.nil
          go_simp
          refine (arith_any i.op (regI x i.b) (regI x i.c) h w6).mono ?_
          rintro e w7 ⟨rfl, hb7⟩
          have b1_7 := b1_6.on hb7
          have b2_7 := b2_6.on hb7
          have b3_7 := b3_6.on hb7
          have kk_7 := kk_6.trans (hb7.mono kk_6.size)
          have pl_7 := pl6.on hb7
          have S7 : (fun W => Kept (fun g => False) wd W) w7 := Kept.next S6 (kept_below (fun _ => False) hb7) (fun _ h => h.elim)
          refine hK.out _ _ S7 (fun h7 => ?_)
          clear h6 hK K
          try simp only [Act.put, List.setIfInBounds_toArray, List.set_cons_zero, List.set_cons_succ]
          refine wpAnyH_take (i := 11) (oi := ⟨some 7, _, _, _, _, _⟩) (v := ?_) rfl (by kernel_rfl) (by kernel_rfl) (by kernel_rfl) (fun _ _ _ h => h) (Or.inl ⟨by rfl, ?_⟩) (by assumption) ?_
          rotate_left 1
          · (intro W hSw; go_simp <;> with_reducible rfl)
          try simp only [Act.put, List.setIfInBounds_toArray, List.set_cons_zero, List.set_cons_succ]
          refine wpAnyH_take (i := 12) (oi := ⟨some 19, _, _, _, _, _⟩) (v := ?_) rfl (by kernel_rfl) (by kernel_rfl) (by kernel_rfl) (fun _ _ _ h => h) (Or.inl ⟨by rfl, ?_⟩) (by assumption) ?_
          rotate_left 1
          · (intro W hSw; go_simp <;> with_reducible rfl)
          try simp only [Act.put, List.setIfInBounds_toArray, List.set_cons_zero, List.set_cons_succ]
          refine wpAnyH_take (i := 13) (oi := ⟨some 20, _, _, _, _, _⟩) (v := ?_) rfl (by kernel_rfl) (by kernel_rfl) (by kernel_rfl) (fun _ _ _ h => h) (Or.inl ⟨by rfl, ?_⟩) (by assumption) ?_
          rotate_left 1
          · (intro W hSw; go_simp <;> with_reducible rfl)
          try simp only [Act.put, List.setIfInBounds_toArray, List.set_cons_zero, List.set_cons_succ]
          refine wpAnyH_ready (rs := [15]) (by kernel_rfl) (by simp) ?_
          refine AllReadyH.cons (o := ⟨none, _, _, _, _, _⟩) rfl (fun K hK => ?_) AllReadyH.nil
          rw [if_pos (by rfl)]
          refine wp_store_row 25 (.tmp 5) (.tmp 19) rfl (w2.heap.size) (Wd.mk (ariZ i.op (regI x i.b).n (regI x i.c).n) 0 0).cs.toArray rfl rfl 25 #[.int .i64 0, .int .i64 0, .int .i64 0] pl_7 size25 rfl (Wd.onea _) ?_
          refine hK.out _ _ (Kept.next S7 (kept_row _ (w2.heap.size) _) (fun g h => .inr (by rw [h]; exact hP6))) (fun h8 => ?_)
          clear h7 hK K
          have S8 : Kept (fun g => False) wd (w7.setRow (w2.heap.size) (Wd.mk (ariZ i.op (regI x i.b).n (regI x i.c).n) 0 0).cs.toArray) := Kept.next S7 (kept_row _ (w2.heap.size) _) (fun g h => .inr (by rw [h]; exact hP6))
          have pl8 : Blk (w7.setRow (w2.heap.size) (Wd.mk (ariZ i.op (regI x i.b).n (regI x i.c).n) 0 0).cs.toArray) (w2.heap.size) 25 (Wd.mk (ariZ i.op (regI x i.b).n (regI x i.c).n) 0 0).cs.toArray := row_named pl_7 rfl
          have b1_8 := row_far (W := (w7.setRow (w2.heap.size) (Wd.mk (ariZ i.op (regI x i.b).n (regI x i.c).n) 0 0).cs.toArray)) b1_7 rfl (by have := b1_7.ne pl_7 (by decide); exact this)
          have b2_8 := row_far (W := (w7.setRow (w2.heap.size) (Wd.mk (ariZ i.op (regI x i.b).n (regI x i.c).n) 0 0).cs.toArray)) b2_7 rfl (by have := b2_7.ne pl_7 (by decide); exact this)
          have b3_8 := row_far (W := (w7.setRow (w2.heap.size) (Wd.mk (ariZ i.op (regI x i.b).n (regI x i.c).n) 0 0).cs.toArray)) b3_7 rfl (by have := b3_7.ne pl_7 (by decide); exact this)
          have kk_8 := kk_7.trans (row_below (W := (w7.setRow (w2.heap.size) (Wd.mk (ariZ i.op (regI x i.b).n (regI x i.c).n) 0 0).cs.toArray)) rfl (Nat.le_trans hwd hP6) kk_7.size)
          try simp only [Act.put]
          refine wpAnyH_take (i := 16) (oi := ⟨some 6, _, _, _, _, _⟩) (v := ?_) rfl (by kernel_rfl) (by kernel_rfl) (by kernel_rfl) (fun _ _ _ h => h) (Or.inl ⟨by rfl, ?_⟩) (by assumption) ?_
          rotate_left 1
          · (intro W hSw; go_simp <;> with_reducible rfl)
          try simp only [Act.put, List.setIfInBounds_toArray, List.set_cons_zero, List.set_cons_succ]
          refine wpAnyH_done (by kernel_rfl) ?_ _
          refine NoPanic.normal ?_
          go_wp2_with fail
          go_meet
          exact ⟨_, rfl, rfl, kk_8, b1_8, b2_8, b3_8, pl8⟩
      · go_simp
        obtain ⟨w9, ew9⟩ : ∃ zz, zz = w1.alloc (.cells #[.int .i64 0, .int .i64 0, .int .i64 0] 25) := ⟨_, rfl⟩
        have hb9 : Below w1.heap.size w1 w9 := by rw [ew9]; exact (Below.refl _ _).alloc (Nat.le_refl _) _
        rw [← ew9]
        have pl9 : Blk w9 w1.heap.size 25 #[.int .i64 0, .int .i64 0, .int .i64 0] := by rw [ew9]; exact heap_alloc_new _ _
        have hP9 : wd.heap.size ≤ w1.heap.size := Kept.size S1
        have b1_9 := b1_1.on hb9
        have b2_9 := b2_1.on hb9
        have b3_9 := b3_1.on hb9
        have kk_9 := kk_1.trans (hb9.mono kk_1.size)
        have S9 : (fun W => Kept (fun g => False) wd W) w9 := Kept.next S1 (kept_below (fun _ => False) hb9) (fun _ h => h.elim)
        refine hK.out _ _ S9 (fun h9 => ?_)
        clear h1 hK K ew9
        try simp only [Act.put, List.setIfInBounds_toArray, List.set_cons_zero, List.set_cons_succ]
        refine wpAnyH_ready (rs := [9]) (by kernel_rfl) (by simp) ?_
        refine AllReadyH.cons (o := ⟨some 17, _, _, _, _, _⟩) rfl (fun K hK => ?_) AllReadyH.nil
        go_simp
        refine (get_any x i.c w9).mono ?_
        rintro e w10 ⟨rfl, hb10⟩
        have b1_10 := b1_9.on hb10
        have b2_10 := b2_9.on hb10
        have b3_10 := b3_9.on hb10
        have kk_10 := kk_9.trans (hb10.mono kk_9.size)
        have pl_10 := pl9.on hb10
        have S10 : (fun W => Kept (fun g => False) wd W) w10 := Kept.next S9 (kept_below (fun _ => False) hb10) (fun _ h => h.elim)
        refine hK.out _ _ S10 (fun h10 => ?_)
        clear h9 hK K
        try simp only [Act.put, List.setIfInBounds_toArray, List.set_cons_zero, List.set_cons_succ]
        refine wpAnyH_ready (rs := [10]) (by kernel_rfl) (by simp) ?_
        refine AllReadyH.cons (o := ⟨some 18, _, _, _, _, _⟩) rfl (fun K hK => ?_) AllReadyH.nil
        go_simp
        refine (arith_any i.op (regI x i.b) (regI x i.c) h w10).mono ?_
        rintro e w11 ⟨rfl, hb11⟩
        have b1_11 := b1_10.on hb11
        have b2_11 := b2_10.on hb11
        have b3_11 := b3_10.on hb11
        have kk_11 := kk_10.trans (hb11.mono kk_10.size)
        have pl_11 := pl_10.on hb11
        have S11 : (fun W => Kept (fun g => False) wd W) w11 := Kept.next S10 (kept_below (fun _ => False) hb11) (fun _ h => h.elim)
        refine hK.out _ _ S11 (fun h11 => ?_)
        clear h10 hK K
        try simp only [Act.put, List.setIfInBounds_toArray, List.set_cons_zero, List.set_cons_succ]
        refine wpAnyH_take (i := 11) (oi := ⟨some 7, _, _, _, _, _⟩) (v := ?_) rfl (by kernel_rfl) (by kernel_rfl) (by kernel_rfl) (fun _ _ _ h => h) (Or.inl ⟨by rfl, ?_⟩) (by assumption) ?_
        rotate_left 1
        · (intro W hSw; go_simp <;> with_reducible rfl)
        try simp only [Act.put, List.setIfInBounds_toArray, List.set_cons_zero, List.set_cons_succ]
        refine wpAnyH_take (i := 12) (oi := ⟨some 19, _, _, _, _, _⟩) (v := ?_) rfl (by kernel_rfl) (by kernel_rfl) (by kernel_rfl) (fun _ _ _ h => h) (Or.inl ⟨by rfl, ?_⟩) (by assumption) ?_
        rotate_left 1
        · (intro W hSw; go_simp <;> with_reducible rfl)
        try simp only [Act.put, List.setIfInBounds_toArray, List.set_cons_zero, List.set_cons_succ]
        refine wpAnyH_take (i := 13) (oi := ⟨some 20, _, _, _, _, _⟩) (v := ?_) rfl (by kernel_rfl) (by kernel_rfl) (by kernel_rfl) (fun _ _ _ h => h) (Or.inl ⟨by rfl, ?_⟩) (by assumption) ?_
        rotate_left 1
        · (intro W hSw; go_simp <;> with_reducible rfl)
        try simp only [Act.put, List.setIfInBounds_toArray, List.set_cons_zero, List.set_cons_succ]
        refine wpAnyH_ready (rs := [15]) (by kernel_rfl) (by simp) ?_
        refine AllReadyH.cons (o := ⟨none, _, _, _, _, _⟩) rfl (fun K hK => ?_) AllReadyH.nil
        rw [if_pos (by rfl)]
        refine wp_store_row 25 (.tmp 5) (.tmp 19) rfl (w1.heap.size) (Wd.mk (ariZ i.op (regI x i.b).n (regI x i.c).n) 0 0).cs.toArray rfl rfl 25 #[.int .i64 0, .int .i64 0, .int .i64 0] pl_11 size25 rfl (Wd.onea _) ?_
        refine hK.out _ _ (Kept.next S11 (kept_row _ (w1.heap.size) _) (fun g h => .inr (by rw [h]; exact hP9))) (fun h12 => ?_)
        clear h11 hK K
        have S12 : Kept (fun g => False) wd (w11.setRow (w1.heap.size) (Wd.mk (ariZ i.op (regI x i.b).n (regI x i.c).n) 0 0).cs.toArray) := Kept.next S11 (kept_row _ (w1.heap.size) _) (fun g h => .inr (by rw [h]; exact hP9))
        have pl12 : Blk (w11.setRow (w1.heap.size) (Wd.mk (ariZ i.op (regI x i.b).n (regI x i.c).n) 0 0).cs.toArray) (w1.heap.size) 25 (Wd.mk (ariZ i.op (regI x i.b).n (regI x i.c).n) 0 0).cs.toArray := row_named pl_11 rfl
        have b1_12 := row_far (W := (w11.setRow (w1.heap.size) (Wd.mk (ariZ i.op (regI x i.b).n (regI x i.c).n) 0 0).cs.toArray)) b1_11 rfl (by have := b1_11.ne pl_11 (by decide); exact this)
        have b2_12 := row_far (W := (w11.setRow (w1.heap.size) (Wd.mk (ariZ i.op (regI x i.b).n (regI x i.c).n) 0 0).cs.toArray)) b2_11 rfl (by have := b2_11.ne pl_11 (by decide); exact this)
        have b3_12 := row_far (W := (w11.setRow (w1.heap.size) (Wd.mk (ariZ i.op (regI x i.b).n (regI x i.c).n) 0 0).cs.toArray)) b3_11 rfl (by have := b3_11.ne pl_11 (by decide); exact this)
        have kk_12 := kk_11.trans (row_below (W := (w11.setRow (w1.heap.size) (Wd.mk (ariZ i.op (regI x i.b).n (regI x i.c).n) 0 0).cs.toArray)) rfl (Nat.le_trans hwd hP9) kk_11.size)
        try simp only [Act.put]
        refine wpAnyH_take (i := 16) (oi := ⟨some 6, _, _, _, _, _⟩) (v := ?_) rfl (by kernel_rfl) (by kernel_rfl) (by kernel_rfl) (fun _ _ _ h => h) (Or.inl ⟨by rfl, ?_⟩) (by assumption) ?_
        rotate_left 1
        · (intro W hSw; go_simp <;> with_reducible rfl)
        try simp only [Act.put, List.setIfInBounds_toArray, List.set_cons_zero, List.set_cons_succ]
        refine wpAnyH_done (by kernel_rfl) ?_ _
        refine NoPanic.normal ?_
        go_wp2_with fail
        go_meet
        exact ⟨_, rfl, rfl, kk_12, b1_12, b2_12, b3_12, pl12⟩
    · go_simp
      obtain ⟨w13, ew13⟩ : ∃ zz, zz = wd.alloc (.cells #[.int .i64 0, .int .i64 0, .int .i64 0] 25) := ⟨_, rfl⟩
      have hb13 : Below wd.heap.size wd w13 := by rw [ew13]; exact (Below.refl _ _).alloc (Nat.le_refl _) _
      rw [← ew13]
      have pl13 : Blk w13 wd.heap.size 25 #[.int .i64 0, .int .i64 0, .int .i64 0] := by rw [ew13]; exact heap_alloc_new _ _
      have hP13 : wd.heap.size ≤ wd.heap.size := Kept.size kS
      have b1_13 := b1.on hb13
      have b2_13 := b2.on hb13
      have b3_13 := b3.on hb13
      have kk_13 := kk.trans (hb13.mono kk.size)
      have S13 : (fun W => Kept (fun g => False) wd W) w13 := Kept.next kS (kept_below (fun _ => False) hb13) (fun _ h => h.elim)
      refine hK.out _ _ S13 (fun h13 => ?_)
      clear hHeld hK K ew13
      try simp only [Act.put, List.setIfInBounds_toArray, List.set_cons_zero, List.set_cons_succ]
      refine wpAnyH_ready (rs := [5]) (by kernel_rfl) (by simp) ?_
      refine AllReadyH.cons (o := ⟨some 13, _, _, _, _, _⟩) rfl (fun K hK => ?_) AllReadyH.nil
      go_simp
      refine (get_any x i.b w13).mono ?_
      rintro e w14 ⟨rfl, hb14⟩
      have b1_14 := b1_13.on hb14
      have b2_14 := b2_13.on hb14
      have b3_14 := b3_13.on hb14
      have kk_14 := kk_13.trans (hb14.mono kk_13.size)
      have pl_14 := pl13.on hb14
      have S14 : (fun W => Kept (fun g => False) wd W) w14 := Kept.next S13 (kept_below (fun _ => False) hb14) (fun _ h => h.elim)
      refine hK.out _ _ S14 (fun h14 => ?_)
      clear h13 hK K
      try simp only [Act.put, List.setIfInBounds_toArray, List.set_cons_zero, List.set_cons_succ]
      refine wpAnyH_ready (rs := [9]) (by kernel_rfl) (by simp) ?_
      refine AllReadyH.cons (o := ⟨some 17, _, _, _, _, _⟩) rfl (fun K hK => ?_) AllReadyH.nil
      go_simp
      refine (get_any x i.c w14).mono ?_
      rintro e w15 ⟨rfl, hb15⟩
      have b1_15 := b1_14.on hb15
      have b2_15 := b2_14.on hb15
      have b3_15 := b3_14.on hb15
      have kk_15 := kk_14.trans (hb15.mono kk_14.size)
      have pl_15 := pl_14.on hb15
      have S15 : (fun W => Kept (fun g => False) wd W) w15 := Kept.next S14 (kept_below (fun _ => False) hb15) (fun _ h => h.elim)
      refine hK.out _ _ S15 (fun h15 => ?_)
      clear h14 hK K
      try simp only [Act.put, List.setIfInBounds_toArray, List.set_cons_zero, List.set_cons_succ]
      refine wpAnyH_ready (rs := [10]) (by kernel_rfl) (by simp) ?_
      refine AllReadyH.cons (o := ⟨some 18, _, _, _, _, _⟩) rfl (fun K hK => ?_) AllReadyH.nil
      go_simp
      refine (arith_any i.op (regI x i.b) (regI x i.c) h w15).mono ?_
      rintro e w16 ⟨rfl, hb16⟩
      have b1_16 := b1_15.on hb16
      have b2_16 := b2_15.on hb16
      have b3_16 := b3_15.on hb16
      have kk_16 := kk_15.trans (hb16.mono kk_15.size)
      have pl_16 := pl_15.on hb16
      have S16 : (fun W => Kept (fun g => False) wd W) w16 := Kept.next S15 (kept_below (fun _ => False) hb16) (fun _ h => h.elim)
      refine hK.out _ _ S16 (fun h16 => ?_)
      clear h15 hK K
      try simp only [Act.put, List.setIfInBounds_toArray, List.set_cons_zero, List.set_cons_succ]
      refine wpAnyH_take (i := 11) (oi := ⟨some 7, _, _, _, _, _⟩) (v := ?_) rfl (by kernel_rfl) (by kernel_rfl) (by kernel_rfl) (fun _ _ _ h => h) (Or.inl ⟨by rfl, ?_⟩) (by assumption) ?_
      rotate_left 1
      · (intro W hSw; go_simp <;> with_reducible rfl)
      try simp only [Act.put, List.setIfInBounds_toArray, List.set_cons_zero, List.set_cons_succ]
      refine wpAnyH_take (i := 12) (oi := ⟨some 19, _, _, _, _, _⟩) (v := ?_) rfl (by kernel_rfl) (by kernel_rfl) (by kernel_rfl) (fun _ _ _ h => h) (Or.inl ⟨by rfl, ?_⟩) (by assumption) ?_
      rotate_left 1
      · (intro W hSw; go_simp <;> with_reducible rfl)
      try simp only [Act.put, List.setIfInBounds_toArray, List.set_cons_zero, List.set_cons_succ]
      refine wpAnyH_take (i := 13) (oi := ⟨some 20, _, _, _, _, _⟩) (v := ?_) rfl (by kernel_rfl) (by kernel_rfl) (by kernel_rfl) (fun _ _ _ h => h) (Or.inl ⟨by rfl, ?_⟩) (by assumption) ?_
      rotate_left 1
      · (intro W hSw; go_simp <;> with_reducible rfl)
      try simp only [Act.put, List.setIfInBounds_toArray, List.set_cons_zero, List.set_cons_succ]
      refine wpAnyH_ready (rs := [15]) (by kernel_rfl) (by simp) ?_
      refine AllReadyH.cons (o := ⟨none, _, _, _, _, _⟩) rfl (fun K hK => ?_) AllReadyH.nil
      rw [if_pos (by rfl)]
      refine wp_store_row 25 (.tmp 5) (.tmp 19) rfl (wd.heap.size) (Wd.mk (ariZ i.op (regI x i.b).n (regI x i.c).n) 0 0).cs.toArray rfl rfl 25 #[.int .i64 0, .int .i64 0, .int .i64 0] pl_16 size25 rfl (Wd.onea _) ?_
      refine hK.out _ _ (Kept.next S16 (kept_row _ (wd.heap.size) _) (fun g h => .inr (by rw [h]; exact hP13))) (fun h17 => ?_)
      clear h16 hK K
      have S17 : Kept (fun g => False) wd (w16.setRow (wd.heap.size) (Wd.mk (ariZ i.op (regI x i.b).n (regI x i.c).n) 0 0).cs.toArray) := Kept.next S16 (kept_row _ (wd.heap.size) _) (fun g h => .inr (by rw [h]; exact hP13))
      have pl17 : Blk (w16.setRow (wd.heap.size) (Wd.mk (ariZ i.op (regI x i.b).n (regI x i.c).n) 0 0).cs.toArray) (wd.heap.size) 25 (Wd.mk (ariZ i.op (regI x i.b).n (regI x i.c).n) 0 0).cs.toArray := row_named pl_16 rfl
      have b1_17 := row_far (W := (w16.setRow (wd.heap.size) (Wd.mk (ariZ i.op (regI x i.b).n (regI x i.c).n) 0 0).cs.toArray)) b1_16 rfl (by have := b1_16.ne pl_16 (by decide); exact this)
      have b2_17 := row_far (W := (w16.setRow (wd.heap.size) (Wd.mk (ariZ i.op (regI x i.b).n (regI x i.c).n) 0 0).cs.toArray)) b2_16 rfl (by have := b2_16.ne pl_16 (by decide); exact this)
      have b3_17 := row_far (W := (w16.setRow (wd.heap.size) (Wd.mk (ariZ i.op (regI x i.b).n (regI x i.c).n) 0 0).cs.toArray)) b3_16 rfl (by have := b3_16.ne pl_16 (by decide); exact this)
      have kk_17 := kk_16.trans (row_below (W := (w16.setRow (wd.heap.size) (Wd.mk (ariZ i.op (regI x i.b).n (regI x i.c).n) 0 0).cs.toArray)) rfl (Nat.le_trans hwd hP13) kk_16.size)
      try simp only [Act.put]
      refine wpAnyH_take (i := 16) (oi := ⟨some 6, _, _, _, _, _⟩) (v := ?_) rfl (by kernel_rfl) (by kernel_rfl) (by kernel_rfl) (fun _ _ _ h => h) (Or.inl ⟨by rfl, ?_⟩) (by assumption) ?_
      rotate_left 1
      · (intro W hSw; go_simp <;> with_reducible rfl)
      try simp only [Act.put, List.setIfInBounds_toArray, List.set_cons_zero, List.set_cons_succ]
      refine wpAnyH_done (by kernel_rfl) ?_ _
      refine NoPanic.normal ?_
      go_wp2_with fail
      go_meet
      exact ⟨_, rfl, rfl, kk_17, b1_17, b2_17, b3_17, pl17⟩
  case rest =>
    clear kk b1 b2 b3
    obtain ⟨p4, rfl, rfl, kk, b1, b2, b3, b4⟩ := hcut
    have h43 : p4 ≠ p3 := b4.ne b3 (by decide)
    have eF := HF.out
    clear HF
    unfold recT at eF
    generalize hV : (Wd.mk (ariZ i.op (regI x i.b).n (regI x i.c).n) 0 0) = V at *
    generalize ariN i.op (regI x i.c).n = q at *
    clear hV h
    cases q with
    | false =>
      rw [if_neg (by decide)] at eF
      subst eF
      have c20_2_1 : wc.cell? ⟨p2, 1, none⟩ = some (.int .i64 i.a) := b2.cell 1
      go_wp2_with (first | ((with_reducible refine at_load 32 (.tmp 2) ?_); refine wpList_load_row rfl 32 (.tmp 2) rfl p1 rfl 32 x.cs.toArray (0, 0) _ b1 Try.underlying32 rfl (sizeT _) ?_) | ((with_reducible refine at_load 25 (.tmp 5) ?_); refine wpList_load_row rfl 25 (.tmp 5) rfl p4 rfl 25 V.cs.toArray (0, 0) _ b4 Try.underlying25 rfl size25 ?_))
      refine (with_any x i.a V _).mono ?_
      rintro e W21 ⟨rfl, k1⟩
      clear c20_2_1
      replace b1 := b1.on k1
      replace b2 := b2.on k1
      replace b3 := b3.on k1
      replace b4 := b4.on k1
      replace kk := kk.trans (k1.mono kk.size)
      clear k1
      obtain ⟨W22, es22⟩ : ∃ W, W21.setRow p3 (setI x i.a V).cs.toArray = W := ⟨_, rfl⟩
      have bo3 := b3
      replace b1 := row_far b1 es22 (by omega)
      replace b2 := row_far b2 es22 (by omega)
      replace b4 := row_far b4 es22 (by omega)
      replace b3 : Blk W22 p3 32 (setI x i.a V).cs.toArray := row_named b3 es22
      replace kk := kk.trans (row_below es22 hp3 kk.size)
      go_wp2_with (((with_reducible refine at_store 32 (.tmp 4) (.tmp 29) ?_); refine wpList_store_row rfl 32 (.tmp 4) (.tmp 29) rfl p3 (setI x i.a V).cs.toArray rfl rfl 32 #[.int .i64 0, .int .i64 0, .int .i64 0, .int .i64 0, .int .i64 0, .int .i64 0, .int .i64 0, .int .i64 0, .int .i64 0, .int .i64 0, .int .i64 0, .int .i64 0, .int .i64 0, .int .i64 0, .int .i64 0, .int .i64 0, .int .i64 0, .int .i64 0, .slice none 0 0, .slice none 0 0, .slice none 0 0, .int .i64 0] bo3 (sizeT _) rfl (Th.onea _) ?_; rw [es22]))
      refine bodyPost_ret (results_cell_row (cs := (setI x i.a V).cs.toArray) rfl _ _ p3 32 (0, 0) _ rfl b3 Try.underlying32 rfl (sizeT _)) rfl ?_
      exact ⟨rfl, kk⟩
    | true =>
      rw [if_pos rfl] at eF
      subst eF
      go_wp2_with (((with_reducible refine at_load 32 (.tmp 2) ?_); refine wpList_load_row rfl 32 (.tmp 2) rfl p1 rfl 32 x.cs.toArray (0, 0) _ b1 Try.underlying32 rfl (sizeT _) ?_))
      refine (halted_any x _).mono ?_
      rintro e W21 ⟨rfl, k1⟩
      replace b1 := b1.on k1
      replace b2 := b2.on k1
      replace b3 := b3.on k1
      replace b4 := b4.on k1
      replace kk := kk.trans (k1.mono kk.size)
      clear k1
      obtain ⟨W22, es22⟩ : ∃ W, W21.setRow p3 ({ x with st := 1 } : Th).cs.toArray = W := ⟨_, rfl⟩
      have bo3 := b3
      replace b1 := row_far b1 es22 (by omega)
      replace b2 := row_far b2 es22 (by omega)
      replace b4 := row_far b4 es22 (by omega)
      replace b3 : Blk W22 p3 32 ({ x with st := 1 } : Th).cs.toArray := row_named b3 es22
      replace kk := kk.trans (row_below es22 hp3 kk.size)
      go_wp2_with (((with_reducible refine at_store 32 (.tmp 4) (.tmp 24) ?_); refine wpList_store_row rfl 32 (.tmp 4) (.tmp 24) rfl p3 ({ x with st := 1 } : Th).cs.toArray rfl rfl 32 #[.int .i64 0, .int .i64 0, .int .i64 0, .int .i64 0, .int .i64 0, .int .i64 0, .int .i64 0, .int .i64 0, .int .i64 0, .int .i64 0, .int .i64 0, .int .i64 0, .int .i64 0, .int .i64 0, .int .i64 0, .int .i64 0, .int .i64 0, .int .i64 0, .slice none 0 0, .slice none 0 0, .slice none 0 0, .int .i64 0] bo3 (sizeT _) rfl (Th.onea _) ?_; rw [es22]))
      refine bodyPost_ret (results_cell_row (cs := ({ x with st := 1 } : Th).cs.toArray) rfl _ _ p3 32 (0, 0) _ rfl b3 Try.underlying32 rfl (sizeT _)) rfl ?_
      exact ⟨rfl, kk⟩
theorem reck_put (x : Th) (se bg sn : Sl) (i : Ins) (h : i.op = 4 ∨ i.op = 5 ∨ i.op = 6 ∨ i.op = 7) (w : World) : Calls Try.prog 37 #[.agg (x.put se bg sn).cs.toArray, .agg i.cs.toArray] w fun e w' => e = .returned (.agg ((recT x i).put se bg sn).cs.toArray) ∧ Below w.heap.size w w' := by
  rw [← recT_put]
  exact reck_any _ i h w
end Go.Proofs.Ytcajoekmigkhjaa
