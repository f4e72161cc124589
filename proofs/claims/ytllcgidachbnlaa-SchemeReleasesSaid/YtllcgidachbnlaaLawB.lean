/- What any thread does behind a cell that came into its bag, and behind having been quiet, is as told. Conditions: none. -/
import Derived.Test.YtllcgidachbnlaaAlive
import Derived.Test.YtllcgidachbnlaaRBegin
import Derived.Test.YtllcgidachbnlaaSame
namespace Go.Proofs.Ytllcgidachbnlaa
open Go.RowKit Go.ChangeShapes Go.WideShapes Go.Great

theorem seesI_nil (w : World) : SeesI w none 0 0 [] := ⟨rfl, Nat.le_refl _, Nat.zero_le _, fun _ => rfl, fun ad e => (by cases e)⟩
set_option maxRecDepth 100000 in
set_option maxHeartbeats 4000000 in
theorem begins_any {w : World} {x : Th} {z s : List Int} {l : List Bg} (p : Pg) (c : Cf) (hp : p.Ok) (hpA : p.co.A = none → p.co.cap = 0) (h : Reads w x z l s) : Calls Try.prog 3 #[.agg p.cs.toArray, .agg c.cs.toArray, .agg x.cs.toArray] w fun e w' => e = .returned (.bool true) ∧ Below w.heap.size w w' := by
  obtain ⟨p1, f1⟩ : ∃ p, w.heap.size = p := ⟨_, rfl⟩
  obtain ⟨W1, ea1⟩ : ∃ W, w.alloc (.cells p.cs.toArray 24) = W := ⟨_, rfl⟩
  have ka1 : Below w.heap.size w W1 := by rw [← ea1]; exact (Below.refl _ w).alloc (Nat.le_refl _) _
  have b1 : Blk W1 p1 24 p.cs.toArray := by rw [← ea1]; exact blk_new w _ 24 _ f1
  have kk : Below w.heap.size w W1 := ka1
  have hp1 : w.heap.size ≤ p1 := Nat.le_of_eq f1
  clear ka1
  obtain ⟨p2, f2⟩ : ∃ p, W1.heap.size = p := ⟨_, rfl⟩
  obtain ⟨W2, ea2⟩ : ∃ W, W1.alloc (.cells c.cs.toArray 26) = W := ⟨_, rfl⟩
  have ka2 : Below W1.heap.size W1 W2 := by rw [← ea2]; exact (Below.refl _ W1).alloc (Nat.le_refl _) _
  have b2 : Blk W2 p2 26 c.cs.toArray := by rw [← ea2]; exact blk_new W1 _ 26 _ f2
  have q1_2 : p1 < p2 := by rw [← f2]; exact b1.lt
  replace b1 := b1.on ka2
  have kk0 := kk
  replace kk := kk.trans (ka2.mono kk.size)
  have hp2 : w.heap.size ≤ p2 := by rw [← f2]; exact kk0.size
  clear ka2 kk0
  obtain ⟨p3, f3⟩ : ∃ p, W2.heap.size = p := ⟨_, rfl⟩
  obtain ⟨W3, ea3⟩ : ∃ W, W2.alloc (.cells x.cs.toArray 35) = W := ⟨_, rfl⟩
  have ka3 : Below W2.heap.size W2 W3 := by rw [← ea3]; exact (Below.refl _ W2).alloc (Nat.le_refl _) _
  have b3 : Blk W3 p3 35 x.cs.toArray := by rw [← ea3]; exact blk_new W2 _ 35 _ f3
  have q1_3 : p1 < p3 := by rw [← f3]; exact b1.lt
  replace b1 := b1.on ka3
  have q2_3 : p2 < p3 := by rw [← f3]; exact b2.lt
  replace b2 := b2.on ka3
  have kk0 := kk
  replace kk := kk.trans (ka3.mono kk.size)
  have hp3 : w.heap.size ≤ p3 := by rw [← f3]; exact kk0.size
  clear ka3 kk0
  have hpf := fewP_ok hp
  have n12 := q1_2
  have n23 := q2_3
  have n13 := q1_3
  go_enter Try.func3, Try.ntmps3
  go_wp2_with fail
  refine (alive_any _).mono ?_
  rintro e W4 ⟨rfl, k1⟩
  replace b1 := b1.on k1
  replace b2 := b2.on k1
  replace b3 := b3.on k1
  replace kk := kk.trans (k1.mono kk.size)
  clear k1
  clear ea1 ea2 ea3 f2 f3
  go_wp2_with fail
  go_cut [] (fun wx => Below w.heap.size w wx ∧ Blk wx p1 24 (fewP p).cs.toArray ∧ Blk wx p2 26 c.cs.toArray ∧ Blk wx p3 35 (fewT x).cs.toArray)
  case first =>
    obtain ⟨wd, ed⟩ : ∃ W, W4.drew = W := ⟨_, rfl⟩
    have hd : Below W4.heap.size W4 wd := by rw [← ed]; exact (Below.refl _ _).drew
    replace b1 := b1.on hd
    replace b2 := b2.on hd
    replace b3 := b3.on hd
    replace kk := kk.trans (hd.mono kk.size)
    clear hd
    have kS : Kept (fun g => g = p1 ∨ g = p3) wd wd := Kept.refl _ _
    refine wp_region_noPanic ?_
    refine wp_region_held_drew (S := (fun W => Kept (fun g => g = p1 ∨ g = p3) wd W)) (by kernel_rfl) (by rw [ed]; exact kS) (fun hHeld => ?_)
    rw [ed] at hHeld ⊢
    refine wpAnyH_ready (rs := [0, 2]) (by kernel_rfl) (by simp) ?_
    refine AllReadyH.cons (o := ⟨some 10, _, _, _, _, _⟩) rfl (fun K hK => ?_) (AllReadyH.cons (o := ⟨some 12, _, _, _, _, _⟩) rfl (fun K hK => ?_) AllReadyH.nil)
    · rw [if_pos (by rfl)]
      refine wp_load_row 24 (.tmp 3) rfl p1 rfl 24 p.cs.toArray (0, 0) _ b1 Try.underlying24 rfl size24 ?_
      refine hK.out _ _ kS (fun h1 => ?_)
      clear hHeld hK K
      try simp only [Act.put, List.setIfInBounds_toArray, List.set_cons_zero, List.set_cons_succ]
      refine wpAnyH_ready (rs := [1, 2]) (by kernel_rfl) (by simp) ?_
      refine AllReadyH.cons (o := ⟨some 11, _, _, _, _, _⟩) rfl (fun K hK => ?_) (AllReadyH.cons (o := ⟨some 12, _, _, _, _, _⟩) rfl (fun K hK => ?_) AllReadyH.nil)
      · go_simp
        refine (few_any p hp hpA wd).mono ?_
        rintro e w2 ⟨rfl, hb2⟩
        have b1_2 := b1.on hb2
        have b2_2 := b2.on hb2
        have b3_2 := b3.on hb2
        have kk_2 := kk.trans (hb2.mono kk.size)
        have S2 : (fun W => Kept (fun g => g = p1 ∨ g = p3) wd W) w2 := Kept.next kS (kept_below (fun _ => False) hb2) (fun _ h => h.elim)
        refine hK.out _ _ S2 (fun h2 => ?_)
        clear h1 hK K
        try simp only [Act.put, List.setIfInBounds_toArray, List.set_cons_zero, List.set_cons_succ]
        refine wpAnyH_ready (rs := [2]) (by kernel_rfl) (by simp) ?_
        refine AllReadyH.cons (o := ⟨some 12, _, _, _, _, _⟩) rfl (fun K hK => ?_) AllReadyH.nil
        rw [if_pos (by rfl)]
        refine wp_load_row 35 (.tmp 5) rfl p3 rfl 35 x.cs.toArray (0, 0) _ b3_2 Try.underlying35 rfl (sizeT _) ?_
        refine hK.out _ _ S2 (fun h3 => ?_)
        clear h2 hK K
        try simp only [Act.put, List.setIfInBounds_toArray, List.set_cons_zero, List.set_cons_succ]
        refine wpAnyH_ready (rs := [3]) (by kernel_rfl) (by simp) ?_
        refine AllReadyH.cons (o := ⟨some 13, _, _, _, _, _⟩) rfl (fun K hK => ?_) AllReadyH.nil
        go_simp
        refine (fewt_any (h.on kk_2)).mono ?_
        rintro e w4 ⟨rfl, hb4⟩
        have b1_4 := b1_2.on hb4
        have b2_4 := b2_2.on hb4
        have b3_4 := b3_2.on hb4
        have kk_4 := kk_2.trans (hb4.mono kk_2.size)
        have S4 : (fun W => Kept (fun g => g = p1 ∨ g = p3) wd W) w4 := Kept.next S2 (kept_below (fun _ => False) hb4) (fun _ h => h.elim)
        refine hK.out _ _ S4 (fun h4 => ?_)
        clear h3 hK K
        try simp only [Act.put, List.setIfInBounds_toArray, List.set_cons_zero, List.set_cons_succ]
        refine wpAnyH_ready (rs := [4]) (by kernel_rfl) (by simp) ?_
        refine AllReadyH.cons (o := ⟨none, _, _, _, _, _⟩) rfl (fun K hK => ?_) AllReadyH.nil
        rw [if_pos (by rfl)]
        refine wp_store_row 24 (.tmp 3) (.tmp 11) rfl p1 (fewP p).cs.toArray rfl rfl 24 p.cs.toArray b1_4 size24 rfl (Pg.onea _) ?_
        refine hK.out _ _ (Kept.next S4 (kept_row _ p1 _) (fun g h => .inl (.inl h))) (fun h5 => ?_)
        clear h4 hK K
        have b1_5 : Blk (w4.setRow p1 (fewP p).cs.toArray) p1 24 (fewP p).cs.toArray := row_named b1_4 rfl
        have b2_5 := row_far (W := (w4.setRow p1 (fewP p).cs.toArray)) b2_4 rfl (by omega)
        have b3_5 := row_far (W := (w4.setRow p1 (fewP p).cs.toArray)) b3_4 rfl (by omega)
        have kk_5 := kk_4.trans (row_below (W := (w4.setRow p1 (fewP p).cs.toArray)) rfl hp1 kk_4.size)
        have S5 : Kept (fun g => g = p1 ∨ g = p3) wd (w4.setRow p1 (fewP p).cs.toArray) := Kept.next S4 (kept_row _ p1 _) (fun g h => .inl (.inl h))
        try simp only [Act.put]
        refine wpAnyH_ready (rs := [5]) (by kernel_rfl) (by simp) ?_
        refine AllReadyH.cons (o := ⟨none, _, _, _, _, _⟩) rfl (fun K hK => ?_) AllReadyH.nil
        rw [if_pos (by rfl)]
        refine wp_store_row 35 (.tmp 5) (.tmp 13) rfl p3 (fewT x).cs.toArray rfl rfl 35 x.cs.toArray b3_5 (sizeT _) rfl (Th.onea _) ?_
        refine hK.out _ _ (Kept.next S5 (kept_row _ p3 _) (fun g h => .inl (.inr h))) (fun h6 => ?_)
        clear h5 hK K
        have b1_6 := row_far (W := ((w4.setRow p1 (fewP p).cs.toArray).setRow p3 (fewT x).cs.toArray)) b1_5 rfl (by omega)
        have b2_6 := row_far (W := ((w4.setRow p1 (fewP p).cs.toArray).setRow p3 (fewT x).cs.toArray)) b2_5 rfl (by omega)
        have b3_6 : Blk ((w4.setRow p1 (fewP p).cs.toArray).setRow p3 (fewT x).cs.toArray) p3 35 (fewT x).cs.toArray := row_named b3_5 rfl
        have kk_6 := kk_5.trans (row_below (W := ((w4.setRow p1 (fewP p).cs.toArray).setRow p3 (fewT x).cs.toArray)) rfl hp3 kk_5.size)
        try simp only [Act.put]
        refine wpAnyH_done (by kernel_rfl) ?_ _
        refine NoPanic.normal ?_
        go_wp2_with fail
        go_meet
        exact ⟨kk_6, b1_6, b2_6, b3_6⟩
      · rw [if_pos (by rfl)]
        refine wp_load_row 35 (.tmp 5) rfl p3 rfl 35 x.cs.toArray (0, 0) _ b3 Try.underlying35 rfl (sizeT _) ?_
        refine hK.out _ _ kS (fun h7 => ?_)
        clear h1 hK K
        try simp only [Act.put, List.setIfInBounds_toArray, List.set_cons_zero, List.set_cons_succ]
        refine wpAnyH_ready (rs := [1]) (by kernel_rfl) (by simp) ?_
        refine AllReadyH.cons (o := ⟨some 11, _, _, _, _, _⟩) rfl (fun K hK => ?_) AllReadyH.nil
        go_simp
        refine (few_any p hp hpA wd).mono ?_
        rintro e w8 ⟨rfl, hb8⟩
        have b1_8 := b1.on hb8
        have b2_8 := b2.on hb8
        have b3_8 := b3.on hb8
        have kk_8 := kk.trans (hb8.mono kk.size)
        have S8 : (fun W => Kept (fun g => g = p1 ∨ g = p3) wd W) w8 := Kept.next kS (kept_below (fun _ => False) hb8) (fun _ h => h.elim)
        refine hK.out _ _ S8 (fun h8 => ?_)
        clear h7 hK K
        try simp only [Act.put, List.setIfInBounds_toArray, List.set_cons_zero, List.set_cons_succ]
        refine wpAnyH_ready (rs := [3]) (by kernel_rfl) (by simp) ?_
        refine AllReadyH.cons (o := ⟨some 13, _, _, _, _, _⟩) rfl (fun K hK => ?_) AllReadyH.nil
        go_simp
        refine (fewt_any (h.on kk_8)).mono ?_
        rintro e w9 ⟨rfl, hb9⟩
        have b1_9 := b1_8.on hb9
        have b2_9 := b2_8.on hb9
        have b3_9 := b3_8.on hb9
        have kk_9 := kk_8.trans (hb9.mono kk_8.size)
        have S9 : (fun W => Kept (fun g => g = p1 ∨ g = p3) wd W) w9 := Kept.next S8 (kept_below (fun _ => False) hb9) (fun _ h => h.elim)
        refine hK.out _ _ S9 (fun h9 => ?_)
        clear h8 hK K
        try simp only [Act.put, List.setIfInBounds_toArray, List.set_cons_zero, List.set_cons_succ]
        refine wpAnyH_ready (rs := [4]) (by kernel_rfl) (by simp) ?_
        refine AllReadyH.cons (o := ⟨none, _, _, _, _, _⟩) rfl (fun K hK => ?_) AllReadyH.nil
        rw [if_pos (by rfl)]
        refine wp_store_row 24 (.tmp 3) (.tmp 11) rfl p1 (fewP p).cs.toArray rfl rfl 24 p.cs.toArray b1_9 size24 rfl (Pg.onea _) ?_
        refine hK.out _ _ (Kept.next S9 (kept_row _ p1 _) (fun g h => .inl (.inl h))) (fun h10 => ?_)
        clear h9 hK K
        have b1_10 : Blk (w9.setRow p1 (fewP p).cs.toArray) p1 24 (fewP p).cs.toArray := row_named b1_9 rfl
        have b2_10 := row_far (W := (w9.setRow p1 (fewP p).cs.toArray)) b2_9 rfl (by omega)
        have b3_10 := row_far (W := (w9.setRow p1 (fewP p).cs.toArray)) b3_9 rfl (by omega)
        have kk_10 := kk_9.trans (row_below (W := (w9.setRow p1 (fewP p).cs.toArray)) rfl hp1 kk_9.size)
        have S10 : Kept (fun g => g = p1 ∨ g = p3) wd (w9.setRow p1 (fewP p).cs.toArray) := Kept.next S9 (kept_row _ p1 _) (fun g h => .inl (.inl h))
        try simp only [Act.put]
        refine wpAnyH_ready (rs := [5]) (by kernel_rfl) (by simp) ?_
        refine AllReadyH.cons (o := ⟨none, _, _, _, _, _⟩) rfl (fun K hK => ?_) AllReadyH.nil
        rw [if_pos (by rfl)]
        refine wp_store_row 35 (.tmp 5) (.tmp 13) rfl p3 (fewT x).cs.toArray rfl rfl 35 x.cs.toArray b3_10 (sizeT _) rfl (Th.onea _) ?_
        refine hK.out _ _ (Kept.next S10 (kept_row _ p3 _) (fun g h => .inl (.inr h))) (fun h11 => ?_)
        clear h10 hK K
        have b1_11 := row_far (W := ((w9.setRow p1 (fewP p).cs.toArray).setRow p3 (fewT x).cs.toArray)) b1_10 rfl (by omega)
        have b2_11 := row_far (W := ((w9.setRow p1 (fewP p).cs.toArray).setRow p3 (fewT x).cs.toArray)) b2_10 rfl (by omega)
        have b3_11 : Blk ((w9.setRow p1 (fewP p).cs.toArray).setRow p3 (fewT x).cs.toArray) p3 35 (fewT x).cs.toArray := row_named b3_10 rfl
        have kk_11 := kk_10.trans (row_below (W := ((w9.setRow p1 (fewP p).cs.toArray).setRow p3 (fewT x).cs.toArray)) rfl hp3 kk_10.size)
        try simp only [Act.put]
        refine wpAnyH_done (by kernel_rfl) ?_ _
        refine NoPanic.normal ?_
        go_wp2_with fail
        go_meet
        exact ⟨kk_11, b1_11, b2_11, b3_11⟩
    · rw [if_pos (by rfl)]
      refine wp_load_row 35 (.tmp 5) rfl p3 rfl 35 x.cs.toArray (0, 0) _ b3 Try.underlying35 rfl (sizeT _) ?_
      refine hK.out _ _ kS (fun h12 => ?_)
      clear hHeld hK K
      try simp only [Act.put, List.setIfInBounds_toArray, List.set_cons_zero, List.set_cons_succ]
      refine wpAnyH_ready (rs := [0]) (by kernel_rfl) (by simp) ?_
      refine AllReadyH.cons (o := ⟨some 10, _, _, _, _, _⟩) rfl (fun K hK => ?_) AllReadyH.nil
      rw [if_pos (by rfl)]
      refine wp_load_row 24 (.tmp 3) rfl p1 rfl 24 p.cs.toArray (0, 0) _ b1 Try.underlying24 rfl size24 ?_
      refine hK.out _ _ kS (fun h13 => ?_)
      clear h12 hK K
      try simp only [Act.put, List.setIfInBounds_toArray, List.set_cons_zero, List.set_cons_succ]
      refine wpAnyH_ready (rs := [1]) (by kernel_rfl) (by simp) ?_
      refine AllReadyH.cons (o := ⟨some 11, _, _, _, _, _⟩) rfl (fun K hK => ?_) AllReadyH.nil
      go_simp
      refine (few_any p hp hpA wd).mono ?_
      rintro e w14 ⟨rfl, hb14⟩
      have b1_14 := b1.on hb14
      have b2_14 := b2.on hb14
      have b3_14 := b3.on hb14
      have kk_14 := kk.trans (hb14.mono kk.size)
      have S14 : (fun W => Kept (fun g => g = p1 ∨ g = p3) wd W) w14 := Kept.next kS (kept_below (fun _ => False) hb14) (fun _ h => h.elim)
      refine hK.out _ _ S14 (fun h14 => ?_)
      clear h13 hK K
      try simp only [Act.put, List.setIfInBounds_toArray, List.set_cons_zero, List.set_cons_succ]
      refine wpAnyH_ready (rs := [3]) (by kernel_rfl) (by simp) ?_
      refine AllReadyH.cons (o := ⟨some 13, _, _, _, _, _⟩) rfl (fun K hK => ?_) AllReadyH.nil
      go_simp
      refine (fewt_any (h.on kk_14)).mono ?_
      rintro e w15 ⟨rfl, hb15⟩
      have b1_15 := b1_14.on hb15
      have b2_15 := b2_14.on hb15
      have b3_15 := b3_14.on hb15
      have kk_15 := kk_14.trans (hb15.mono kk_14.size)
      have S15 : (fun W => Kept (fun g => g = p1 ∨ g = p3) wd W) w15 := Kept.next S14 (kept_below (fun _ => False) hb15) (fun _ h => h.elim)
      refine hK.out _ _ S15 (fun h15 => ?_)
      clear h14 hK K
      try simp only [Act.put, List.setIfInBounds_toArray, List.set_cons_zero, List.set_cons_succ]
      refine wpAnyH_ready (rs := [4]) (by kernel_rfl) (by simp) ?_
      refine AllReadyH.cons (o := ⟨none, _, _, _, _, _⟩) rfl (fun K hK => ?_) AllReadyH.nil
      rw [if_pos (by rfl)]
      refine wp_store_row 24 (.tmp 3) (.tmp 11) rfl p1 (fewP p).cs.toArray rfl rfl 24 p.cs.toArray b1_15 size24 rfl (Pg.onea _) ?_
      refine hK.out _ _ (Kept.next S15 (kept_row _ p1 _) (fun g h => .inl (.inl h))) (fun h16 => ?_)
      clear h15 hK K
      have b1_16 : Blk (w15.setRow p1 (fewP p).cs.toArray) p1 24 (fewP p).cs.toArray := row_named b1_15 rfl
      have b2_16 := row_far (W := (w15.setRow p1 (fewP p).cs.toArray)) b2_15 rfl (by omega)
      have b3_16 := row_far (W := (w15.setRow p1 (fewP p).cs.toArray)) b3_15 rfl (by omega)
      have kk_16 := kk_15.trans (row_below (W := (w15.setRow p1 (fewP p).cs.toArray)) rfl hp1 kk_15.size)
      have S16 : Kept (fun g => g = p1 ∨ g = p3) wd (w15.setRow p1 (fewP p).cs.toArray) := Kept.next S15 (kept_row _ p1 _) (fun g h => .inl (.inl h))
      try simp only [Act.put]
      refine wpAnyH_ready (rs := [5]) (by kernel_rfl) (by simp) ?_
      refine AllReadyH.cons (o := ⟨none, _, _, _, _, _⟩) rfl (fun K hK => ?_) AllReadyH.nil
      rw [if_pos (by rfl)]
      refine wp_store_row 35 (.tmp 5) (.tmp 13) rfl p3 (fewT x).cs.toArray rfl rfl 35 x.cs.toArray b3_16 (sizeT _) rfl (Th.onea _) ?_
      refine hK.out _ _ (Kept.next S16 (kept_row _ p3 _) (fun g h => .inl (.inr h))) (fun h17 => ?_)
      clear h16 hK K
      have b1_17 := row_far (W := ((w15.setRow p1 (fewP p).cs.toArray).setRow p3 (fewT x).cs.toArray)) b1_16 rfl (by omega)
      have b2_17 := row_far (W := ((w15.setRow p1 (fewP p).cs.toArray).setRow p3 (fewT x).cs.toArray)) b2_16 rfl (by omega)
      have b3_17 : Blk ((w15.setRow p1 (fewP p).cs.toArray).setRow p3 (fewT x).cs.toArray) p3 35 (fewT x).cs.toArray := row_named b3_16 rfl
      have kk_17 := kk_16.trans (row_below (W := ((w15.setRow p1 (fewP p).cs.toArray).setRow p3 (fewT x).cs.toArray)) rfl hp3 kk_16.size)
      try simp only [Act.put]
      refine wpAnyH_done (by kernel_rfl) ?_ _
      refine NoPanic.normal ?_
      go_wp2_with fail
      go_meet
      exact ⟨kk_17, b1_17, b2_17, b3_17⟩
  case rest =>
    clear kk b1 b2 b3
    obtain ⟨kk, b1, b2, b3⟩ := hcut
    have u1 : (fewT x).se.n ≤ 12 := Sl.cut_n _ _
    have u2 : (fewT x).bg.n ≤ 12 := Sl.cut_n _ _
    have u3 : (fewT x).sn.n ≤ 8 := Sl.cut_n _ _
    have d1 := copy_any (fewT_reads (h.on kk)) (by omega) (by omega) (by omega)
    go_wp2_with (((with_reducible refine at_load 35 (.tmp 5) ?_); refine wpList_load_row rfl 35 (.tmp 5) rfl p3 rfl 35 (fewT x).cs.toArray (0, 0) _ b3 Try.underlying35 rfl (sizeT _) ?_))
    refine (d1).mono ?_
    rintro e W41 ⟨A1, c1, A2, c2, A3, c3, rfl, ⟨o1, o2, o3⟩, k1⟩
    replace o1 := own_mono o1 kk.size
    replace o2 := own_mono o2 kk.size
    replace o3 := own_mono o3 kk.size
    replace b1 := b1.on k1
    replace b2 := b2.on k1
    replace b3 := b3.on k1
    replace kk := kk.trans (k1.mono kk.size)
    clear k1
    clear d1
    obtain ⟨p4, f4⟩ : ∃ p, W41.heap.size = p := ⟨_, rfl⟩
    obtain ⟨W42, ea42⟩ : ∃ W, W41.alloc (.cells #[.int .i64 0, .int .i64 0, .int .i64 0, .int .i64 0, .int .i64 0, .int .i64 0, .int .i64 0, .int .i64 0, .int .i64 0, .int .i64 0, .int .i64 0, .int .i64 0, .int .i64 0, .int .i64 0, .int .i64 0, .int .i64 0, .int .i64 0, .int .i64 0, .slice none 0 0, .slice none 0 0, .slice none 0 0, .int .i64 0] 35) = W := ⟨_, rfl⟩
    have ka42 : Below W41.heap.size W41 W42 := by rw [← ea42]; exact (Below.refl _ W41).alloc (Nat.le_refl _) _
    have b4 : Blk W42 p4 35 #[.int .i64 0, .int .i64 0, .int .i64 0, .int .i64 0, .int .i64 0, .int .i64 0, .int .i64 0, .int .i64 0, .int .i64 0, .int .i64 0, .int .i64 0, .int .i64 0, .int .i64 0, .int .i64 0, .int .i64 0, .int .i64 0, .int .i64 0, .int .i64 0, .slice none 0 0, .slice none 0 0, .slice none 0 0, .int .i64 0] := by rw [← ea42]; exact blk_new W41 _ 35 _ f4
    have q1_4 : p1 < p4 := by rw [← f4]; exact b1.lt
    replace b1 := b1.on ka42
    have q2_4 : p2 < p4 := by rw [← f4]; exact b2.lt
    replace b2 := b2.on ka42
    have q3_4 : p3 < p4 := by rw [← f4]; exact b3.lt
    replace b3 := b3.on ka42
    replace o1 := ownB_below o1 ka42
    replace o2 := ownB_below o2 ka42
    replace o3 := ownB_below o3 ka42
    have kk0 := kk
    replace kk := kk.trans (ka42.mono kk.size)
    have hp4 : w.heap.size ≤ p4 := by rw [← f4]; exact kk0.size
    clear ka42 kk0
    obtain ⟨W43, es43⟩ : ∃ W, W42.setRow p4 ((fewT x).put ⟨A1, (fewT x).se.n, c1⟩ ⟨A2, (fewT x).bg.n, c2⟩ ⟨A3, (fewT x).sn.n, c3⟩).cs.toArray = W := ⟨_, rfl⟩
    have bo4 := b4
    replace o1 := row_own o1 b4 (by decide) es43
    replace o2 := row_own o2 b4 (by decide) es43
    replace o3 := row_own o3 b4 (by decide) es43
    replace b1 := row_far b1 es43 (by omega)
    replace b2 := row_far b2 es43 (by omega)
    replace b3 := row_far b3 es43 (by omega)
    replace b4 : Blk W43 p4 35 ((fewT x).put ⟨A1, (fewT x).se.n, c1⟩ ⟨A2, (fewT x).bg.n, c2⟩ ⟨A3, (fewT x).sn.n, c3⟩).cs.toArray := row_named b4 es43
    replace kk := kk.trans (row_below es43 hp4 kk.size)
    skip
    have c43_2_0 : W43.cell? ⟨p2, 0, none⟩ = some (.int .i64 c.c) := b2.cell 0
    have c43_3_20 : W43.cell? ⟨p3, 20, none⟩ = some (.slice (fewT x).sn.A (fewT x).sn.n (fewT x).sn.cap) := b3.cell 20
    have hxk := (fewT_reads (h.on kk)).ok
    have hs63 := cut63 hxk.sn
    by_cases hcq : c.c = 3
    · by_cases ht : 0 < (fewT x).sn.n
      · have t1 : (c.c == 3) = true := beq_iff_eq.2 hcq
        have t2 : decide (0 < (fewT x).sn.n) = true := decide_eq_true ht
        obtain ⟨W44, es44⟩ : ∃ W, W43.setCells p4 15 (miK 8).cs.toArray.toList = W := ⟨_, rfl⟩
        have bm4 := b4
        replace o1 := mid_own o1 b4 (by decide) es44
        replace o2 := mid_own o2 b4 (by decide) es44
        replace o3 := mid_own o3 b4 (by decide) es44
        replace b1 := mid_far b1 es44 (by omega)
        replace b2 := mid_far b2 es44 (by omega)
        replace b3 := mid_far b3 es44 (by omega)
        replace b4 : Blk W44 p4 35 (((fewT x).put ⟨A1, (fewT x).se.n, c1⟩ ⟨A2, (fewT x).bg.n, c2⟩ ⟨A3, (fewT x).sn.n, c3⟩).wm (miK 8)).cs.toArray := mid_named b4 es44 rfl
        replace kk := kk.trans (mid_below es44 hp4 kk.size)
        go_wp2_with (first | ((with_reducible refine at_store 35 (.tmp 7) (.tmp 15) ?_); refine wpList_store_row rfl 35 (.tmp 7) (.tmp 15) rfl p4 ((fewT x).put ⟨A1, (fewT x).se.n, c1⟩ ⟨A2, (fewT x).bg.n, c2⟩ ⟨A3, (fewT x).sn.n, c3⟩).cs.toArray rfl rfl 35 #[.int .i64 0, .int .i64 0, .int .i64 0, .int .i64 0, .int .i64 0, .int .i64 0, .int .i64 0, .int .i64 0, .int .i64 0, .int .i64 0, .int .i64 0, .int .i64 0, .int .i64 0, .int .i64 0, .int .i64 0, .int .i64 0, .int .i64 0, .int .i64 0, .slice none 0 0, .slice none 0 0, .slice none 0 0, .int .i64 0] bo4 (sizeT _) rfl (Th.onea _) ?_; rw [es43]) | ((with_reducible refine at_store 32 (.tmp 26) (.tmp 25) ?_); refine wpList_store_mid rfl 32 (.tmp 26) (.tmp 25) rfl p4 15 (miK 8).cs.toArray rfl rfl (there_blk bm4 15 _ (Nat.le_of_ble_eq_true rfl)) size32 (Mi.onea _) ?_; rw [es44]))
        have ry : Reads W44 (((fewT x).put ⟨A1, (fewT x).se.n, c1⟩ ⟨A2, (fewT x).bg.n, c2⟩ ⟨A3, (fewT x).sn.n, c3⟩).wm (miK 8)) [] (l.take 12) (s.take 8) := ⟨⟨rfl, Nat.le_refl _, Nat.zero_le _, fun _ => rfl, fun ad e => (by cases e)⟩, own_seesB o2, own_seesI o3⟩
        have rx : Reads W44 (fewT x) (z.take 12) (l.take 12) (s.take 8) := fewT_reads (h.on kk)
        obtain ⟨wd, ed⟩ : ∃ W, W44.drew = W := ⟨_, rfl⟩
        have hd : Below W44.heap.size W44 wd := by rw [← ed]; exact (Below.refl _ _).drew
        replace b1 := b1.on hd
        replace b2 := b2.on hd
        replace b3 := b3.on hd
        replace b4 := b4.on hd
        replace rx := rx.on hd
        replace ry := ry.on hd
        replace kk := kk.trans (hd.mono kk.size)
        clear hd
        have kS : Below wd.heap.size wd wd := Below.refl _ _
        refine wp_region_noPanic ?_
        refine wp_region_held_drew (S := (fun W => Below wd.heap.size wd W)) (by kernel_rfl) (by rw [ed]; exact kS) (fun hHeld => ?_)
        rw [ed] at hHeld ⊢
        refine wpAnyH_take (i := 0) (oi := ⟨some 27, _, _, _, _, _⟩) (v := .agg (List.toArray ((fewP p).cs))) rfl (by kernel_rfl) (by kernel_rfl) (by kernel_rfl) (fun _ _ _ h => h) (yieldsIf_load_mid (by rfl) 24 (.tmp 3) rfl p1 (0) rfl ((fewP p).cs) _ (fun W hW => range_part (b1.on hW) 0 (fewP p).cs rfl) Try.underlying24 rfl size24) (by assumption) ?_
        try simp only [Act.put, List.setIfInBounds_toArray, List.set_cons_zero, List.set_cons_succ]
        refine wpAnyH_take (i := 1) (oi := ⟨some 28, _, _, _, _, _⟩) (v := .agg (List.toArray (c.cs))) rfl (by kernel_rfl) (by kernel_rfl) (by kernel_rfl) (fun _ _ _ h => h) (yieldsIf_load_mid (by rfl) 26 (.tmp 4) rfl p2 (0) rfl (c.cs) _ (fun W hW => range_part (b2.on hW) 0 c.cs rfl) Try.underlying26 rfl size26) (by assumption) ?_
        try simp only [Act.put, List.setIfInBounds_toArray, List.set_cons_zero, List.set_cons_succ]
        refine wpAnyH_take (i := 2) (oi := ⟨some 29, _, _, _, _, _⟩) (v := .agg (List.toArray ((fewT x).cs))) rfl (by kernel_rfl) (by kernel_rfl) (by kernel_rfl) (fun _ _ _ h => h) (yieldsIf_load_mid (by rfl) 35 (.tmp 5) rfl p3 (0) rfl ((fewT x).cs) _ (fun W hW => range_part (b3.on hW) 0 (fewT x).cs rfl) Try.underlying35 rfl (load35 _)) (by assumption) ?_
        try simp only [Act.put, List.setIfInBounds_toArray, List.set_cons_zero, List.set_cons_succ]
        refine wpAnyH_take (i := 4) (oi := ⟨some 31, _, _, _, _, _⟩) (v := .agg (List.toArray ((fewP p).cs))) rfl (by kernel_rfl) (by kernel_rfl) (by kernel_rfl) (fun _ _ _ h => h) (yieldsIf_load_mid (by rfl) 24 (.tmp 3) rfl p1 (0) rfl ((fewP p).cs) _ (fun W hW => range_part (b1.on hW) 0 (fewP p).cs rfl) Try.underlying24 rfl size24) (by assumption) ?_
        try simp only [Act.put, List.setIfInBounds_toArray, List.set_cons_zero, List.set_cons_succ]
        refine wpAnyH_take (i := 5) (oi := ⟨some 32, _, _, _, _, _⟩) (v := .agg (List.toArray (c.cs))) rfl (by kernel_rfl) (by kernel_rfl) (by kernel_rfl) (fun _ _ _ h => h) (yieldsIf_load_mid (by rfl) 26 (.tmp 4) rfl p2 (0) rfl (c.cs) _ (fun W hW => range_part (b2.on hW) 0 c.cs rfl) Try.underlying26 rfl size26) (by assumption) ?_
        try simp only [Act.put, List.setIfInBounds_toArray, List.set_cons_zero, List.set_cons_succ]
        refine wpAnyH_take (i := 6) (oi := ⟨some 33, _, _, _, _, _⟩) (v := .agg (List.toArray ((fewT x).cs))) rfl (by kernel_rfl) (by kernel_rfl) (by kernel_rfl) (fun _ _ _ h => h) (yieldsIf_load_mid (by rfl) 35 (.tmp 5) rfl p3 (0) rfl ((fewT x).cs) _ (fun W hW => range_part (b3.on hW) 0 (fewT x).cs rfl) Try.underlying35 rfl (load35 _)) (by assumption) ?_
        try simp only [Act.put, List.setIfInBounds_toArray, List.set_cons_zero, List.set_cons_succ]
        refine wpAnyH_ready (rs := [3]) (by kernel_rfl) (by simp) ?_
        refine AllReadyH.cons (o := ⟨some 30, _, _, _, _, _⟩) rfl (fun K hK => ?_) AllReadyH.nil
        go_simp
        refine (begin_any (fewP p) c (fewT x) hpf hxk wd).mono ?_
        rintro e w1 ⟨rfl, hb1⟩
        have rx_1 := rx.on hb1
        have ry_1 := ry.on hb1
        have S1 : (fun W => Below wd.heap.size wd W) w1 := Below.trans kS (hb1.mono (Below.size kS))
        refine hK.out _ _ S1 (fun h1 => ?_)
        clear hHeld hK K
        try simp only [Act.put, List.setIfInBounds_toArray, List.set_cons_zero, List.set_cons_succ]
        refine wpAnyH_ready (rs := [7]) (by kernel_rfl) (by simp) ?_
        refine AllReadyH.cons (o := ⟨some 34, _, _, _, _, _⟩) rfl (fun K hK => ?_) AllReadyH.nil
        go_simp
        refine (rbegin_any (fewP p) c (fewT x) hpf hxk w1).mono ?_
        rintro e w2 ⟨rfl, hb2⟩
        have rx_2 := rx_1.on hb2
        have ry_2 := ry_1.on hb2
        have S2 : (fun W => Below wd.heap.size wd W) w2 := Below.trans S1 (hb2.mono (Below.size S1))
        refine hK.out _ _ S2 (fun h2 => ?_)
        clear h1 hK K
        try simp only [Act.put, List.setIfInBounds_toArray, List.set_cons_zero, List.set_cons_succ]
        refine wpAnyH_ready (rs := [8]) (by kernel_rfl) (by simp) ?_
        refine AllReadyH.cons (o := ⟨some 35, _, _, _, _, _⟩) rfl (fun K hK => ?_) AllReadyH.nil
        go_simp
        refine (micro_same (m := miK (begK (fewP p) c (fewT x))) (A' := none) (c' := 0) (seesI_nil w2) (seesI_nil w2)).mono ?_
        rintro e w3 ⟨rfl, hb3⟩
        have rx_3 := rx_2.on hb3
        have ry_3 := ry_2.on hb3
        have S3 : (fun W => Below wd.heap.size wd W) w3 := Below.trans S2 (hb3.mono (Below.size S2))
        refine hK.out _ _ S3 (fun h3 => ?_)
        clear h2 hK K
        try simp only [Act.put, List.setIfInBounds_toArray, List.set_cons_zero, List.set_cons_succ]
        refine wpAnyH_take (i := 9) (oi := ⟨some 36, _, _, _, _, _⟩) (v := ?_) rfl (by kernel_rfl) (by kernel_rfl) (by kernel_rfl) (fun _ _ _ h => h) (Or.inl ⟨by rfl, ?_⟩) (by assumption) ?_
        rotate_left 1
        · (intro W hSw; go_simp <;> with_reducible rfl)
        try simp only [Act.put, List.setIfInBounds_toArray, List.set_cons_zero, List.set_cons_succ]
        refine wpAnyH_take (i := 10) (oi := ⟨some 37, _, _, _, _, _⟩) (v := .agg (List.toArray (c.cs))) rfl (by kernel_rfl) (by kernel_rfl) (by kernel_rfl) (fun _ _ _ h => h) (yieldsIf_load_mid (by rfl) 26 (.tmp 4) rfl p2 (0) rfl (c.cs) _ (fun W hW => range_part (b2.on hW) 0 c.cs rfl) Try.underlying26 rfl size26) (by assumption) ?_
        try simp only [Act.put, List.setIfInBounds_toArray, List.set_cons_zero, List.set_cons_succ]
        refine wpAnyH_take (i := 11) (oi := ⟨some 38, _, _, _, _, _⟩) (v := .agg (List.toArray ((fewT x).cs))) rfl (by kernel_rfl) (by kernel_rfl) (by kernel_rfl) (fun _ _ _ h => h) (yieldsIf_load_mid (by rfl) 35 (.tmp 5) rfl p3 (0) rfl ((fewT x).cs) _ (fun W hW => range_part (b3.on hW) 0 (fewT x).cs rfl) Try.underlying35 rfl (load35 _)) (by assumption) ?_
        try simp only [Act.put, List.setIfInBounds_toArray, List.set_cons_zero, List.set_cons_succ]
        refine wpAnyH_take (i := 13) (oi := ⟨some 40, _, _, _, _, _⟩) (v := .agg (List.toArray ((((fewT x).put ⟨A1, (fewT x).se.n, c1⟩ ⟨A2, (fewT x).bg.n, c2⟩ ⟨A3, (fewT x).sn.n, c3⟩).wm (miK 8)).cs))) rfl (by kernel_rfl) (by kernel_rfl) (by kernel_rfl) (fun _ _ _ h => h) (yieldsIf_load_mid (by rfl) 35 (.tmp 7) rfl p4 (0) rfl ((((fewT x).put ⟨A1, (fewT x).se.n, c1⟩ ⟨A2, (fewT x).bg.n, c2⟩ ⟨A3, (fewT x).sn.n, c3⟩).wm (miK 8)).cs) _ (fun W hW => range_part (b4.on hW) 0 (((fewT x).put ⟨A1, (fewT x).se.n, c1⟩ ⟨A2, (fewT x).bg.n, c2⟩ ⟨A3, (fewT x).sn.n, c3⟩).wm (miK 8)).cs rfl) Try.underlying35 rfl (load35 _)) (by assumption) ?_
        try simp only [Act.put, List.setIfInBounds_toArray, List.set_cons_zero, List.set_cons_succ]
        refine wpAnyH_ready (rs := [12]) (by kernel_rfl) (by simp) ?_
        refine AllReadyH.cons (o := ⟨some 39, _, _, _, _, _⟩) rfl (fun K hK => ?_) AllReadyH.nil
        go_simp
        refine (quieted_yes c rx_3 (by omega) (by omega) (by omega) hcq ht).mono ?_
        rintro e w4 ⟨D1, e1, D2, e2, D3, e3, rfl, hO, hb4⟩
        have ro_4 := hO.reads
        have rx_4 := rx_3.on hb4
        have ry_4 := ry_3.on hb4
        have S4 : (fun W => Below wd.heap.size wd W) w4 := Below.trans S3 (hb4.mono (Below.size S3))
        refine hK.out _ _ S4 (fun h4 => ?_)
        clear h3 hK K
        try simp only [Act.put, List.setIfInBounds_toArray, List.set_cons_zero, List.set_cons_succ]
        refine wpAnyH_ready (rs := [14]) (by kernel_rfl) (by simp) ?_
        refine AllReadyH.cons (o := ⟨some 41, _, _, _, _, _⟩) rfl (fun K hK => ?_) AllReadyH.nil
        go_simp
        refine ((show Calls Try.prog 12 #[.agg (((fewT x).put ⟨D1, (fewT x).se.n, e1⟩ ⟨D2, (fewT x).bg.n, e2⟩ ⟨D3, (fewT x).sn.n, e3⟩).wm (miK 8)).cs.toArray, .agg (((fewT x).put ⟨A1, (fewT x).se.n, c1⟩ ⟨A2, (fewT x).bg.n, c2⟩ ⟨A3, (fewT x).sn.n, c3⟩).wm (miK 8)).cs.toArray] w4 _ from thread_same (A1 := none) (c1 := 0) (A2 := A2) (c2 := c2) (A3 := A3) (c3 := c3) ro_4 ry_4)).mono ?_
        rintro e w5 ⟨rfl, hb5⟩
        have rx_5 := rx_4.on hb5
        have ry_5 := ry_4.on hb5
        have ro_5 := ro_4.on hb5
        have S5 : (fun W => Below wd.heap.size wd W) w5 := Below.trans S4 (hb5.mono (Below.size S4))
        refine hK.out _ _ S5 (fun h5 => ?_)
        clear h4 hK K
        try simp only [Act.put, List.setIfInBounds_toArray, List.set_cons_zero, List.set_cons_succ]
        refine wpAnyH_take (i := 15) (oi := ⟨some 42, _, _, _, _, _⟩) (v := ?_) rfl (by kernel_rfl) (by kernel_rfl) (by kernel_rfl) (fun _ _ _ h => h) (Or.inl ⟨by rfl, ?_⟩) (by assumption) ?_
        rotate_left 1
        · (intro W hSw; go_simp <;> with_reducible rfl)
        try simp only [Act.put, List.setIfInBounds_toArray, List.set_cons_zero, List.set_cons_succ]
        refine wpAnyH_take (i := 16) (oi := ⟨some 6, _, _, _, _, _⟩) (v := ?_) rfl (by kernel_rfl) (by kernel_rfl) (by kernel_rfl) (fun _ _ _ h => h) (Or.inl ⟨by rfl, ?_⟩) (by assumption) ?_
        rotate_left 1
        · (intro W hSw; go_simp <;> with_reducible rfl)
        try simp only [Act.put, List.setIfInBounds_toArray, List.set_cons_zero, List.set_cons_succ]
        refine wpAnyH_done (by kernel_rfl) ?_ _
        refine NoPanic.normal ?_
        go_wp2_with fail
        have kz := kk.trans (Below.mono S5 kk.size)
        go_ret
        first | exact ⟨rfl, kz⟩ | (rw [f1] at kz; exact ⟨rfl, kz⟩)
      · have t1 : (c.c == 3) = true := beq_iff_eq.2 hcq
        have t2 : decide (0 < (fewT x).sn.n) = false := decide_eq_false ht
        go_wp2_with (((with_reducible refine at_store 35 (.tmp 7) (.tmp 15) ?_); refine wpList_store_row rfl 35 (.tmp 7) (.tmp 15) rfl p4 ((fewT x).put ⟨A1, (fewT x).se.n, c1⟩ ⟨A2, (fewT x).bg.n, c2⟩ ⟨A3, (fewT x).sn.n, c3⟩).cs.toArray rfl rfl 35 #[.int .i64 0, .int .i64 0, .int .i64 0, .int .i64 0, .int .i64 0, .int .i64 0, .int .i64 0, .int .i64 0, .int .i64 0, .int .i64 0, .int .i64 0, .int .i64 0, .int .i64 0, .int .i64 0, .int .i64 0, .int .i64 0, .int .i64 0, .int .i64 0, .slice none 0 0, .slice none 0 0, .slice none 0 0, .int .i64 0] bo4 (sizeT _) rfl (Th.onea _) ?_; rw [es43]))
        have ry : Reads W43 ((fewT x).put ⟨A1, (fewT x).se.n, c1⟩ ⟨A2, (fewT x).bg.n, c2⟩ ⟨A3, (fewT x).sn.n, c3⟩) (z.take 12) (l.take 12) (s.take 8) := ⟨own_seesI o1, own_seesB o2, own_seesI o3⟩
        have rx : Reads W43 (fewT x) (z.take 12) (l.take 12) (s.take 8) := fewT_reads (h.on kk)
        obtain ⟨wd, ed⟩ : ∃ W, W43.drew = W := ⟨_, rfl⟩
        have hd : Below W43.heap.size W43 wd := by rw [← ed]; exact (Below.refl _ _).drew
        replace b1 := b1.on hd
        replace b2 := b2.on hd
        replace b3 := b3.on hd
        replace b4 := b4.on hd
        replace rx := rx.on hd
        replace ry := ry.on hd
        replace kk := kk.trans (hd.mono kk.size)
        clear hd
        have kS : Below wd.heap.size wd wd := Below.refl _ _
        refine wp_region_noPanic ?_
        refine wp_region_held_drew (S := (fun W => Below wd.heap.size wd W)) (by kernel_rfl) (by rw [ed]; exact kS) (fun hHeld => ?_)
        rw [ed] at hHeld ⊢
        refine wpAnyH_take (i := 0) (oi := ⟨some 27, _, _, _, _, _⟩) (v := .agg (List.toArray ((fewP p).cs))) rfl (by kernel_rfl) (by kernel_rfl) (by kernel_rfl) (fun _ _ _ h => h) (yieldsIf_load_mid (by rfl) 24 (.tmp 3) rfl p1 (0) rfl ((fewP p).cs) _ (fun W hW => range_part (b1.on hW) 0 (fewP p).cs rfl) Try.underlying24 rfl size24) (by assumption) ?_
        try simp only [Act.put, List.setIfInBounds_toArray, List.set_cons_zero, List.set_cons_succ]
        refine wpAnyH_take (i := 1) (oi := ⟨some 28, _, _, _, _, _⟩) (v := .agg (List.toArray (c.cs))) rfl (by kernel_rfl) (by kernel_rfl) (by kernel_rfl) (fun _ _ _ h => h) (yieldsIf_load_mid (by rfl) 26 (.tmp 4) rfl p2 (0) rfl (c.cs) _ (fun W hW => range_part (b2.on hW) 0 c.cs rfl) Try.underlying26 rfl size26) (by assumption) ?_
        try simp only [Act.put, List.setIfInBounds_toArray, List.set_cons_zero, List.set_cons_succ]
        refine wpAnyH_take (i := 2) (oi := ⟨some 29, _, _, _, _, _⟩) (v := .agg (List.toArray ((fewT x).cs))) rfl (by kernel_rfl) (by kernel_rfl) (by kernel_rfl) (fun _ _ _ h => h) (yieldsIf_load_mid (by rfl) 35 (.tmp 5) rfl p3 (0) rfl ((fewT x).cs) _ (fun W hW => range_part (b3.on hW) 0 (fewT x).cs rfl) Try.underlying35 rfl (load35 _)) (by assumption) ?_
        try simp only [Act.put, List.setIfInBounds_toArray, List.set_cons_zero, List.set_cons_succ]
        refine wpAnyH_take (i := 4) (oi := ⟨some 31, _, _, _, _, _⟩) (v := .agg (List.toArray ((fewP p).cs))) rfl (by kernel_rfl) (by kernel_rfl) (by kernel_rfl) (fun _ _ _ h => h) (yieldsIf_load_mid (by rfl) 24 (.tmp 3) rfl p1 (0) rfl ((fewP p).cs) _ (fun W hW => range_part (b1.on hW) 0 (fewP p).cs rfl) Try.underlying24 rfl size24) (by assumption) ?_
        try simp only [Act.put, List.setIfInBounds_toArray, List.set_cons_zero, List.set_cons_succ]
        refine wpAnyH_take (i := 5) (oi := ⟨some 32, _, _, _, _, _⟩) (v := .agg (List.toArray (c.cs))) rfl (by kernel_rfl) (by kernel_rfl) (by kernel_rfl) (fun _ _ _ h => h) (yieldsIf_load_mid (by rfl) 26 (.tmp 4) rfl p2 (0) rfl (c.cs) _ (fun W hW => range_part (b2.on hW) 0 c.cs rfl) Try.underlying26 rfl size26) (by assumption) ?_
        try simp only [Act.put, List.setIfInBounds_toArray, List.set_cons_zero, List.set_cons_succ]
        refine wpAnyH_take (i := 6) (oi := ⟨some 33, _, _, _, _, _⟩) (v := .agg (List.toArray ((fewT x).cs))) rfl (by kernel_rfl) (by kernel_rfl) (by kernel_rfl) (fun _ _ _ h => h) (yieldsIf_load_mid (by rfl) 35 (.tmp 5) rfl p3 (0) rfl ((fewT x).cs) _ (fun W hW => range_part (b3.on hW) 0 (fewT x).cs rfl) Try.underlying35 rfl (load35 _)) (by assumption) ?_
        try simp only [Act.put, List.setIfInBounds_toArray, List.set_cons_zero, List.set_cons_succ]
        refine wpAnyH_ready (rs := [3]) (by kernel_rfl) (by simp) ?_
        refine AllReadyH.cons (o := ⟨some 30, _, _, _, _, _⟩) rfl (fun K hK => ?_) AllReadyH.nil
        go_simp
        refine (begin_any (fewP p) c (fewT x) hpf hxk wd).mono ?_
        rintro e w1 ⟨rfl, hb1⟩
        have rx_1 := rx.on hb1
        have ry_1 := ry.on hb1
        have S1 : (fun W => Below wd.heap.size wd W) w1 := Below.trans kS (hb1.mono (Below.size kS))
        refine hK.out _ _ S1 (fun h1 => ?_)
        clear hHeld hK K
        try simp only [Act.put, List.setIfInBounds_toArray, List.set_cons_zero, List.set_cons_succ]
        refine wpAnyH_ready (rs := [7]) (by kernel_rfl) (by simp) ?_
        refine AllReadyH.cons (o := ⟨some 34, _, _, _, _, _⟩) rfl (fun K hK => ?_) AllReadyH.nil
        go_simp
        refine (rbegin_any (fewP p) c (fewT x) hpf hxk w1).mono ?_
        rintro e w2 ⟨rfl, hb2⟩
        have rx_2 := rx_1.on hb2
        have ry_2 := ry_1.on hb2
        have S2 : (fun W => Below wd.heap.size wd W) w2 := Below.trans S1 (hb2.mono (Below.size S1))
        refine hK.out _ _ S2 (fun h2 => ?_)
        clear h1 hK K
        try simp only [Act.put, List.setIfInBounds_toArray, List.set_cons_zero, List.set_cons_succ]
        refine wpAnyH_ready (rs := [8]) (by kernel_rfl) (by simp) ?_
        refine AllReadyH.cons (o := ⟨some 35, _, _, _, _, _⟩) rfl (fun K hK => ?_) AllReadyH.nil
        go_simp
        refine (micro_same (m := miK (begK (fewP p) c (fewT x))) (A' := none) (c' := 0) (seesI_nil w2) (seesI_nil w2)).mono ?_
        rintro e w3 ⟨rfl, hb3⟩
        have rx_3 := rx_2.on hb3
        have ry_3 := ry_2.on hb3
        have S3 : (fun W => Below wd.heap.size wd W) w3 := Below.trans S2 (hb3.mono (Below.size S2))
        refine hK.out _ _ S3 (fun h3 => ?_)
        clear h2 hK K
        try simp only [Act.put, List.setIfInBounds_toArray, List.set_cons_zero, List.set_cons_succ]
        refine wpAnyH_take (i := 9) (oi := ⟨some 36, _, _, _, _, _⟩) (v := ?_) rfl (by kernel_rfl) (by kernel_rfl) (by kernel_rfl) (fun _ _ _ h => h) (Or.inl ⟨by rfl, ?_⟩) (by assumption) ?_
        rotate_left 1
        · (intro W hSw; go_simp <;> with_reducible rfl)
        try simp only [Act.put, List.setIfInBounds_toArray, List.set_cons_zero, List.set_cons_succ]
        refine wpAnyH_take (i := 10) (oi := ⟨some 37, _, _, _, _, _⟩) (v := .agg (List.toArray (c.cs))) rfl (by kernel_rfl) (by kernel_rfl) (by kernel_rfl) (fun _ _ _ h => h) (yieldsIf_load_mid (by rfl) 26 (.tmp 4) rfl p2 (0) rfl (c.cs) _ (fun W hW => range_part (b2.on hW) 0 c.cs rfl) Try.underlying26 rfl size26) (by assumption) ?_
        try simp only [Act.put, List.setIfInBounds_toArray, List.set_cons_zero, List.set_cons_succ]
        refine wpAnyH_take (i := 11) (oi := ⟨some 38, _, _, _, _, _⟩) (v := .agg (List.toArray ((fewT x).cs))) rfl (by kernel_rfl) (by kernel_rfl) (by kernel_rfl) (fun _ _ _ h => h) (yieldsIf_load_mid (by rfl) 35 (.tmp 5) rfl p3 (0) rfl ((fewT x).cs) _ (fun W hW => range_part (b3.on hW) 0 (fewT x).cs rfl) Try.underlying35 rfl (load35 _)) (by assumption) ?_
        try simp only [Act.put, List.setIfInBounds_toArray, List.set_cons_zero, List.set_cons_succ]
        refine wpAnyH_take (i := 13) (oi := ⟨some 40, _, _, _, _, _⟩) (v := .agg (List.toArray (((fewT x).put ⟨A1, (fewT x).se.n, c1⟩ ⟨A2, (fewT x).bg.n, c2⟩ ⟨A3, (fewT x).sn.n, c3⟩).cs))) rfl (by kernel_rfl) (by kernel_rfl) (by kernel_rfl) (fun _ _ _ h => h) (yieldsIf_load_mid (by rfl) 35 (.tmp 7) rfl p4 (0) rfl (((fewT x).put ⟨A1, (fewT x).se.n, c1⟩ ⟨A2, (fewT x).bg.n, c2⟩ ⟨A3, (fewT x).sn.n, c3⟩).cs) _ (fun W hW => range_part (b4.on hW) 0 ((fewT x).put ⟨A1, (fewT x).se.n, c1⟩ ⟨A2, (fewT x).bg.n, c2⟩ ⟨A3, (fewT x).sn.n, c3⟩).cs rfl) Try.underlying35 rfl (load35 _)) (by assumption) ?_
        try simp only [Act.put, List.setIfInBounds_toArray, List.set_cons_zero, List.set_cons_succ]
        refine wpAnyH_ready (rs := [12]) (by kernel_rfl) (by simp) ?_
        refine AllReadyH.cons (o := ⟨some 39, _, _, _, _, _⟩) rfl (fun K hK => ?_) AllReadyH.nil
        go_simp
        refine (quieted_not c rx_3 (by omega) (by omega) (by omega) hcq ht).mono ?_
        rintro e w4 ⟨D1, e1, D2, e2, D3, e3, rfl, hO, hb4⟩
        have ro_4 := hO.reads
        have rx_4 := rx_3.on hb4
        have ry_4 := ry_3.on hb4
        have S4 : (fun W => Below wd.heap.size wd W) w4 := Below.trans S3 (hb4.mono (Below.size S3))
        refine hK.out _ _ S4 (fun h4 => ?_)
        clear h3 hK K
        try simp only [Act.put, List.setIfInBounds_toArray, List.set_cons_zero, List.set_cons_succ]
        refine wpAnyH_ready (rs := [14]) (by kernel_rfl) (by simp) ?_
        refine AllReadyH.cons (o := ⟨some 41, _, _, _, _, _⟩) rfl (fun K hK => ?_) AllReadyH.nil
        go_simp
        refine ((show Calls Try.prog 12 #[.agg ((fewT x).put ⟨D1, (fewT x).se.n, e1⟩ ⟨D2, (fewT x).bg.n, e2⟩ ⟨D3, (fewT x).sn.n, e3⟩).cs.toArray, .agg ((fewT x).put ⟨A1, (fewT x).se.n, c1⟩ ⟨A2, (fewT x).bg.n, c2⟩ ⟨A3, (fewT x).sn.n, c3⟩).cs.toArray] w4 _ from thread_same (A1 := A1) (c1 := c1) (A2 := A2) (c2 := c2) (A3 := A3) (c3 := c3) ro_4 ry_4)).mono ?_
        rintro e w5 ⟨rfl, hb5⟩
        have rx_5 := rx_4.on hb5
        have ry_5 := ry_4.on hb5
        have ro_5 := ro_4.on hb5
        have S5 : (fun W => Below wd.heap.size wd W) w5 := Below.trans S4 (hb5.mono (Below.size S4))
        refine hK.out _ _ S5 (fun h5 => ?_)
        clear h4 hK K
        try simp only [Act.put, List.setIfInBounds_toArray, List.set_cons_zero, List.set_cons_succ]
        refine wpAnyH_take (i := 15) (oi := ⟨some 42, _, _, _, _, _⟩) (v := ?_) rfl (by kernel_rfl) (by kernel_rfl) (by kernel_rfl) (fun _ _ _ h => h) (Or.inl ⟨by rfl, ?_⟩) (by assumption) ?_
        rotate_left 1
        · (intro W hSw; go_simp <;> with_reducible rfl)
        try simp only [Act.put, List.setIfInBounds_toArray, List.set_cons_zero, List.set_cons_succ]
        refine wpAnyH_take (i := 16) (oi := ⟨some 6, _, _, _, _, _⟩) (v := ?_) rfl (by kernel_rfl) (by kernel_rfl) (by kernel_rfl) (fun _ _ _ h => h) (Or.inl ⟨by rfl, ?_⟩) (by assumption) ?_
        rotate_left 1
        · (intro W hSw; go_simp <;> with_reducible rfl)
        try simp only [Act.put, List.setIfInBounds_toArray, List.set_cons_zero, List.set_cons_succ]
        refine wpAnyH_done (by kernel_rfl) ?_ _
        refine NoPanic.normal ?_
        go_wp2_with fail
        have kz := kk.trans (Below.mono S5 kk.size)
        go_ret
        first | exact ⟨rfl, kz⟩ | (rw [f1] at kz; exact ⟨rfl, kz⟩)
    · have t1 : (c.c == 3) = false := by simpa using hcq
      go_wp2_with (((with_reducible refine at_store 35 (.tmp 7) (.tmp 15) ?_); refine wpList_store_row rfl 35 (.tmp 7) (.tmp 15) rfl p4 ((fewT x).put ⟨A1, (fewT x).se.n, c1⟩ ⟨A2, (fewT x).bg.n, c2⟩ ⟨A3, (fewT x).sn.n, c3⟩).cs.toArray rfl rfl 35 #[.int .i64 0, .int .i64 0, .int .i64 0, .int .i64 0, .int .i64 0, .int .i64 0, .int .i64 0, .int .i64 0, .int .i64 0, .int .i64 0, .int .i64 0, .int .i64 0, .int .i64 0, .int .i64 0, .int .i64 0, .int .i64 0, .int .i64 0, .int .i64 0, .slice none 0 0, .slice none 0 0, .slice none 0 0, .int .i64 0] bo4 (sizeT _) rfl (Th.onea _) ?_; rw [es43]))
      have ry : Reads W43 ((fewT x).put ⟨A1, (fewT x).se.n, c1⟩ ⟨A2, (fewT x).bg.n, c2⟩ ⟨A3, (fewT x).sn.n, c3⟩) (z.take 12) (l.take 12) (s.take 8) := ⟨own_seesI o1, own_seesB o2, own_seesI o3⟩
      have rx : Reads W43 (fewT x) (z.take 12) (l.take 12) (s.take 8) := fewT_reads (h.on kk)
      obtain ⟨wd, ed⟩ : ∃ W, W43.drew = W := ⟨_, rfl⟩
      have hd : Below W43.heap.size W43 wd := by rw [← ed]; exact (Below.refl _ _).drew
      replace b1 := b1.on hd
      replace b2 := b2.on hd
      replace b3 := b3.on hd
      replace b4 := b4.on hd
      replace rx := rx.on hd
      replace ry := ry.on hd
      replace kk := kk.trans (hd.mono kk.size)
      clear hd
      have kS : Below wd.heap.size wd wd := Below.refl _ _
      refine wp_region_noPanic ?_
      refine wp_region_held_drew (S := (fun W => Below wd.heap.size wd W)) (by kernel_rfl) (by rw [ed]; exact kS) (fun hHeld => ?_)
      rw [ed] at hHeld ⊢
      refine wpAnyH_take (i := 0) (oi := ⟨some 27, _, _, _, _, _⟩) (v := .agg (List.toArray ((fewP p).cs))) rfl (by kernel_rfl) (by kernel_rfl) (by kernel_rfl) (fun _ _ _ h => h) (yieldsIf_load_mid (by rfl) 24 (.tmp 3) rfl p1 (0) rfl ((fewP p).cs) _ (fun W hW => range_part (b1.on hW) 0 (fewP p).cs rfl) Try.underlying24 rfl size24) (by assumption) ?_
      try simp only [Act.put, List.setIfInBounds_toArray, List.set_cons_zero, List.set_cons_succ]
      refine wpAnyH_take (i := 1) (oi := ⟨some 28, _, _, _, _, _⟩) (v := .agg (List.toArray (c.cs))) rfl (by kernel_rfl) (by kernel_rfl) (by kernel_rfl) (fun _ _ _ h => h) (yieldsIf_load_mid (by rfl) 26 (.tmp 4) rfl p2 (0) rfl (c.cs) _ (fun W hW => range_part (b2.on hW) 0 c.cs rfl) Try.underlying26 rfl size26) (by assumption) ?_
      try simp only [Act.put, List.setIfInBounds_toArray, List.set_cons_zero, List.set_cons_succ]
      refine wpAnyH_take (i := 2) (oi := ⟨some 29, _, _, _, _, _⟩) (v := .agg (List.toArray ((fewT x).cs))) rfl (by kernel_rfl) (by kernel_rfl) (by kernel_rfl) (fun _ _ _ h => h) (yieldsIf_load_mid (by rfl) 35 (.tmp 5) rfl p3 (0) rfl ((fewT x).cs) _ (fun W hW => range_part (b3.on hW) 0 (fewT x).cs rfl) Try.underlying35 rfl (load35 _)) (by assumption) ?_
      try simp only [Act.put, List.setIfInBounds_toArray, List.set_cons_zero, List.set_cons_succ]
      refine wpAnyH_take (i := 4) (oi := ⟨some 31, _, _, _, _, _⟩) (v := .agg (List.toArray ((fewP p).cs))) rfl (by kernel_rfl) (by kernel_rfl) (by kernel_rfl) (fun _ _ _ h => h) (yieldsIf_load_mid (by rfl) 24 (.tmp 3) rfl p1 (0) rfl ((fewP p).cs) _ (fun W hW => range_part (b1.on hW) 0 (fewP p).cs rfl) Try.underlying24 rfl size24) (by assumption) ?_
      try simp only [Act.put, List.setIfInBounds_toArray, List.set_cons_zero, List.set_cons_succ]
      refine wpAnyH_take (i := 5) (oi := ⟨some 32, _, _, _, _, _⟩) (v := .agg (List.toArray (c.cs))) rfl (by kernel_rfl) (by kernel_rfl) (by kernel_rfl) (fun _ _ _ h => h) (yieldsIf_load_mid (by rfl) 26 (.tmp 4) rfl p2 (0) rfl (c.cs) _ (fun W hW => range_part (b2.on hW) 0 c.cs rfl) Try.underlying26 rfl size26) (by assumption) ?_
      try simp only [Act.put, List.setIfInBounds_toArray, List.set_cons_zero, List.set_cons_succ]
      refine wpAnyH_take (i := 6) (oi := ⟨some 33, _, _, _, _, _⟩) (v := .agg (List.toArray ((fewT x).cs))) rfl (by kernel_rfl) (by kernel_rfl) (by kernel_rfl) (fun _ _ _ h => h) (yieldsIf_load_mid (by rfl) 35 (.tmp 5) rfl p3 (0) rfl ((fewT x).cs) _ (fun W hW => range_part (b3.on hW) 0 (fewT x).cs rfl) Try.underlying35 rfl (load35 _)) (by assumption) ?_
      try simp only [Act.put, List.setIfInBounds_toArray, List.set_cons_zero, List.set_cons_succ]
      refine wpAnyH_ready (rs := [3]) (by kernel_rfl) (by simp) ?_
      refine AllReadyH.cons (o := ⟨some 30, _, _, _, _, _⟩) rfl (fun K hK => ?_) AllReadyH.nil
      go_simp
      refine (begin_any (fewP p) c (fewT x) hpf hxk wd).mono ?_
      rintro e w1 ⟨rfl, hb1⟩
      have rx_1 := rx.on hb1
      have ry_1 := ry.on hb1
      have S1 : (fun W => Below wd.heap.size wd W) w1 := Below.trans kS (hb1.mono (Below.size kS))
      refine hK.out _ _ S1 (fun h1 => ?_)
      clear hHeld hK K
      try simp only [Act.put, List.setIfInBounds_toArray, List.set_cons_zero, List.set_cons_succ]
      refine wpAnyH_ready (rs := [7]) (by kernel_rfl) (by simp) ?_
      refine AllReadyH.cons (o := ⟨some 34, _, _, _, _, _⟩) rfl (fun K hK => ?_) AllReadyH.nil
      go_simp
      refine (rbegin_any (fewP p) c (fewT x) hpf hxk w1).mono ?_
      rintro e w2 ⟨rfl, hb2⟩
      have rx_2 := rx_1.on hb2
      have ry_2 := ry_1.on hb2
      have S2 : (fun W => Below wd.heap.size wd W) w2 := Below.trans S1 (hb2.mono (Below.size S1))
      refine hK.out _ _ S2 (fun h2 => ?_)
      clear h1 hK K
      try simp only [Act.put, List.setIfInBounds_toArray, List.set_cons_zero, List.set_cons_succ]
      refine wpAnyH_ready (rs := [8]) (by kernel_rfl) (by simp) ?_
      refine AllReadyH.cons (o := ⟨some 35, _, _, _, _, _⟩) rfl (fun K hK => ?_) AllReadyH.nil
      go_simp
      refine (micro_same (m := miK (begK (fewP p) c (fewT x))) (A' := none) (c' := 0) (seesI_nil w2) (seesI_nil w2)).mono ?_
      rintro e w3 ⟨rfl, hb3⟩
      have rx_3 := rx_2.on hb3
      have ry_3 := ry_2.on hb3
      have S3 : (fun W => Below wd.heap.size wd W) w3 := Below.trans S2 (hb3.mono (Below.size S2))
      refine hK.out _ _ S3 (fun h3 => ?_)
      clear h2 hK K
      try simp only [Act.put, List.setIfInBounds_toArray, List.set_cons_zero, List.set_cons_succ]
      refine wpAnyH_take (i := 9) (oi := ⟨some 36, _, _, _, _, _⟩) (v := ?_) rfl (by kernel_rfl) (by kernel_rfl) (by kernel_rfl) (fun _ _ _ h => h) (Or.inl ⟨by rfl, ?_⟩) (by assumption) ?_
      rotate_left 1
      · (intro W hSw; go_simp <;> with_reducible rfl)
      try simp only [Act.put, List.setIfInBounds_toArray, List.set_cons_zero, List.set_cons_succ]
      refine wpAnyH_take (i := 10) (oi := ⟨some 37, _, _, _, _, _⟩) (v := .agg (List.toArray (c.cs))) rfl (by kernel_rfl) (by kernel_rfl) (by kernel_rfl) (fun _ _ _ h => h) (yieldsIf_load_mid (by rfl) 26 (.tmp 4) rfl p2 (0) rfl (c.cs) _ (fun W hW => range_part (b2.on hW) 0 c.cs rfl) Try.underlying26 rfl size26) (by assumption) ?_
      try simp only [Act.put, List.setIfInBounds_toArray, List.set_cons_zero, List.set_cons_succ]
      refine wpAnyH_take (i := 11) (oi := ⟨some 38, _, _, _, _, _⟩) (v := .agg (List.toArray ((fewT x).cs))) rfl (by kernel_rfl) (by kernel_rfl) (by kernel_rfl) (fun _ _ _ h => h) (yieldsIf_load_mid (by rfl) 35 (.tmp 5) rfl p3 (0) rfl ((fewT x).cs) _ (fun W hW => range_part (b3.on hW) 0 (fewT x).cs rfl) Try.underlying35 rfl (load35 _)) (by assumption) ?_
      try simp only [Act.put, List.setIfInBounds_toArray, List.set_cons_zero, List.set_cons_succ]
      refine wpAnyH_take (i := 13) (oi := ⟨some 40, _, _, _, _, _⟩) (v := .agg (List.toArray (((fewT x).put ⟨A1, (fewT x).se.n, c1⟩ ⟨A2, (fewT x).bg.n, c2⟩ ⟨A3, (fewT x).sn.n, c3⟩).cs))) rfl (by kernel_rfl) (by kernel_rfl) (by kernel_rfl) (fun _ _ _ h => h) (yieldsIf_load_mid (by rfl) 35 (.tmp 7) rfl p4 (0) rfl (((fewT x).put ⟨A1, (fewT x).se.n, c1⟩ ⟨A2, (fewT x).bg.n, c2⟩ ⟨A3, (fewT x).sn.n, c3⟩).cs) _ (fun W hW => range_part (b4.on hW) 0 ((fewT x).put ⟨A1, (fewT x).se.n, c1⟩ ⟨A2, (fewT x).bg.n, c2⟩ ⟨A3, (fewT x).sn.n, c3⟩).cs rfl) Try.underlying35 rfl (load35 _)) (by assumption) ?_
      try simp only [Act.put, List.setIfInBounds_toArray, List.set_cons_zero, List.set_cons_succ]
      refine wpAnyH_ready (rs := [12]) (by kernel_rfl) (by simp) ?_
      refine AllReadyH.cons (o := ⟨some 39, _, _, _, _, _⟩) rfl (fun K hK => ?_) AllReadyH.nil
      go_simp
      refine (quieted_off c rx_3 (by omega) (by omega) (by omega) hcq).mono ?_
      rintro e w4 ⟨D1, e1, D2, e2, D3, e3, rfl, hO, hb4⟩
      have ro_4 := hO.reads
      have rx_4 := rx_3.on hb4
      have ry_4 := ry_3.on hb4
      have S4 : (fun W => Below wd.heap.size wd W) w4 := Below.trans S3 (hb4.mono (Below.size S3))
      refine hK.out _ _ S4 (fun h4 => ?_)
      clear h3 hK K
      try simp only [Act.put, List.setIfInBounds_toArray, List.set_cons_zero, List.set_cons_succ]
      refine wpAnyH_ready (rs := [14]) (by kernel_rfl) (by simp) ?_
      refine AllReadyH.cons (o := ⟨some 41, _, _, _, _, _⟩) rfl (fun K hK => ?_) AllReadyH.nil
      go_simp
      refine ((show Calls Try.prog 12 #[.agg ((fewT x).put ⟨D1, (fewT x).se.n, e1⟩ ⟨D2, (fewT x).bg.n, e2⟩ ⟨D3, (fewT x).sn.n, e3⟩).cs.toArray, .agg ((fewT x).put ⟨A1, (fewT x).se.n, c1⟩ ⟨A2, (fewT x).bg.n, c2⟩ ⟨A3, (fewT x).sn.n, c3⟩).cs.toArray] w4 _ from thread_same (A1 := A1) (c1 := c1) (A2 := A2) (c2 := c2) (A3 := A3) (c3 := c3) ro_4 ry_4)).mono ?_
      rintro e w5 ⟨rfl, hb5⟩
      have rx_5 := rx_4.on hb5
      have ry_5 := ry_4.on hb5
      have ro_5 := ro_4.on hb5
      have S5 : (fun W => Below wd.heap.size wd W) w5 := Below.trans S4 (hb5.mono (Below.size S4))
      refine hK.out _ _ S5 (fun h5 => ?_)
      clear h4 hK K
      try simp only [Act.put, List.setIfInBounds_toArray, List.set_cons_zero, List.set_cons_succ]
      refine wpAnyH_take (i := 15) (oi := ⟨some 42, _, _, _, _, _⟩) (v := ?_) rfl (by kernel_rfl) (by kernel_rfl) (by kernel_rfl) (fun _ _ _ h => h) (Or.inl ⟨by rfl, ?_⟩) (by assumption) ?_
      rotate_left 1
      · (intro W hSw; go_simp <;> with_reducible rfl)
      try simp only [Act.put, List.setIfInBounds_toArray, List.set_cons_zero, List.set_cons_succ]
      refine wpAnyH_take (i := 16) (oi := ⟨some 6, _, _, _, _, _⟩) (v := ?_) rfl (by kernel_rfl) (by kernel_rfl) (by kernel_rfl) (fun _ _ _ h => h) (Or.inl ⟨by rfl, ?_⟩) (by assumption) ?_
      rotate_left 1
      · (intro W hSw; go_simp <;> with_reducible rfl)
      try simp only [Act.put, List.setIfInBounds_toArray, List.set_cons_zero, List.set_cons_succ]
      refine wpAnyH_done (by kernel_rfl) ?_ _
      refine NoPanic.normal ?_
      go_wp2_with fail
      have kz := kk.trans (Below.mono S5 kk.size)
      go_ret
      first | exact ⟨rfl, kz⟩ | (rw [f1] at kz; exact ⟨rfl, kz⟩)
end Go.Proofs.Ytllcgidachbnlaa
