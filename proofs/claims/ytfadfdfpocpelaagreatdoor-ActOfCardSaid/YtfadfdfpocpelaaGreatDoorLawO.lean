/- ActOf: the act of any thread, of any program, by both sides. Conditions: the variable 'rows' lies as it is laid. -/
import Derived.Test.YtfadfdfpocpelaaGreatDoorAlive
import Derived.Test.YtfadfdfpocpelaaGreatDoorFew
import Derived.Deep.DeepCutAuto
namespace Go.Proofs.YtfadfdfpocpelaaGreatDoor
set_option linter.unusedSimpArgs false
set_option linter.unusedVariables false
open Go.RowKit Go.ChangeShapes Go.WideShapes

/-- The code lies below B0, or from B1 on. -/
structure MatX (B0 B1 : Nat) (w : World) (A : Option Addr) (n cap : Nat) (xss : List (List P.Ins)) : Prop where
  mat : P.Mat w (fun g => (g < B0 ∨ B1 ≤ g) ∧ g < w.heap.size) A n cap xss
section
variable {B0 B1 : Nat} {w w' : World} {A : Option Addr} {n cap : Nat} {xss : List (List P.Ins)}
theorem MatX.on (h : MatX B0 B1 w A n cap xss) (hb : Below w.heap.size w w') : MatX B0 B1 w' A n cap xss := ⟨(h.mat.below hb fun _ h => h.2).more fun _ h => ⟨h.1, Nat.lt_of_lt_of_le h.2 hb.size⟩⟩
theorem MatX.row (h : MatX B0 B1 w A n cap xss) {z : Nat} (h0 : B0 ≤ z) (h1 : z < B1) (cs : Array Value) : MatX B0 B1 (w.setRow z cs) A n cap xss := by
  have hs : (w.setRow z cs).heap.size = w.heap.size := by simp [World.setRow]
  refine ⟨(h.mat.keep fun p hp => P.cell_blk p (setRow_other _ _ _ _ (by have := hp.1; omega))).more fun g hg => ⟨hg.1, by rw [hs]; exact hg.2⟩⟩
theorem range_keptF {g o : Nat} {v : Value} {l : List Value} (h : w.rangeAt g o (v :: l)) (k : Kept (fun _ => False) w w') : w'.rangeAt g o (v :: l) := fun j u hu => by
  have hg := World.block_lt_of_cell? w _ (h 0 v rfl)
  exact (World.cell?_of_block (w := w) (k.block g hg (fun e => e))).trans (h j u hu)
theorem cell_keptF {g i : Nat} {v : Value} (h : w.cell? ⟨g, i, none⟩ = some v) (k : Kept (fun _ => False) w w') : w'.cell? ⟨g, i, none⟩ = some v := by
  have hg := World.block_lt_of_cell? w _ h
  exact (World.cell?_of_block (w := w) (k.block g hg (fun e => e))).trans h
end
theorem eq40 (x : Ac) (w : World) : (binOp BinOp.eql 40 (.agg x.cs.toArray) (.agg x.cs.toArray)).run Tryz.prog w = .ok (.bool true) w := by
  unfold Ac.cs
  go_simp
set_option maxRecDepth 100000 in
set_option maxHeartbeats 16000000 in
theorem acts_any {w : World} {p : Pg} {xss : List (List P.Ins)} {x : Th} {z s : List Int} {l : List Bg} (h : P.Mat w (fun g => g < w.heap.size) p.co.A p.co.n p.co.cap xss) (hr : Reads w x z l s) (hL : P.Laid w) (t own : Int) : Calls Tryz.prog 3 #[.agg p.cs.toArray, .int .i64 t, .agg x.cs.toArray, .int .i64 own] w fun e w' => e = .returned (.bool true) ∧ Below w.heap.size w w' := by
  obtain ⟨p1, f1⟩ : ∃ p, w.heap.size = p := ⟨_, rfl⟩
  obtain ⟨W1, ea1⟩ : ∃ W, w.alloc (.cells p.cs.toArray 24) = W := ⟨_, rfl⟩
  have ka1 : Below w.heap.size w W1 := by rw [← ea1]; exact (Below.refl _ w).alloc (Nat.le_refl _) _
  have b1 : Blk W1 p1 24 p.cs.toArray := by rw [← ea1]; exact blk_new w _ 24 _ f1
  have kk : Below w.heap.size w W1 := ka1
  have hp1 : w.heap.size ≤ p1 := Nat.le_of_eq f1
  clear ka1
  obtain ⟨p2, f2⟩ : ∃ p, W1.heap.size = p := ⟨_, rfl⟩
  obtain ⟨W2, ea2⟩ : ∃ W, W1.alloc (.cells x.cs.toArray 33) = W := ⟨_, rfl⟩
  have ka2 : Below W1.heap.size W1 W2 := by rw [← ea2]; exact (Below.refl _ W1).alloc (Nat.le_refl _) _
  have b2 : Blk W2 p2 33 x.cs.toArray := by rw [← ea2]; exact blk_new W1 _ 33 _ f2
  have q1_2 : p1 < p2 := by rw [← f2]; exact b1.lt
  replace b1 := b1.on ka2
  have kk0 := kk
  replace kk := kk.trans (ka2.mono kk.size)
  have hp2 : w.heap.size ≤ p2 := by rw [← f2]; exact kk0.size
  clear ka2 kk0
  have da := alive_any (hL.on kk)
  go_enter Tryz.func3, Tryz.ntmps3
  go_wp2_with fail
  refine (da).mono ?_
  rintro e W3 ⟨rfl, k1⟩
  replace b1 := b1.on k1
  replace b2 := b2.on k1
  replace kk := kk.trans (k1.mono kk.size)
  clear k1
  clear da
  go_wp2_with fail
  clear f1
  go_cut [] (fun wx => ∃ A n cap, Below w.heap.size w wx ∧ Blk wx p1 24 (Pg.mk p.r p.c p.s ⟨A, n, cap⟩).cs.toArray ∧ Blk wx p2 33 (fewT x).cs.toArray ∧ ∃ B1, MatX w.heap.size B1 wx A n cap (P.few xss))
  case first =>
    obtain ⟨wd, ed⟩ : ∃ W, W3.drew = W := ⟨_, rfl⟩
    have hd : Below W3.heap.size W3 wd := by rw [← ed]; exact (Below.refl _ _).drew
    replace b1 := b1.on hd
    replace b2 := b2.on hd
    replace kk := kk.trans (hd.mono kk.size)
    clear hd
    have hl1 : p1 < wd.heap.size := b1.lt
    have hl2 : p2 < wd.heap.size := b2.lt
    have kS : Kept (fun g => g = p1 ∨ g = p2) wd wd := Kept.refl _ _
    refine wp_region_noPanic ?_
    refine wp_region_held_drew (S := (fun W => Kept (fun g => g = p1 ∨ g = p2) wd W)) (by kernel_rfl) (by rw [ed]; exact kS) (fun hHeld => ?_)
    rw [ed] at hHeld ⊢
    refine wpAnyH_ready (rs := [0, 2]) (by kernel_rfl) (by simp) ?_
    refine AllReadyH.cons (o := ⟨some 12, _, _, _, _, _⟩) rfl (fun K hK => ?_) (AllReadyH.cons (o := ⟨some 14, _, _, _, _, _⟩) rfl (fun K hK => ?_) AllReadyH.nil)
    · rw [if_pos (by rfl)]
      refine wp_load_row 24 (.tmp 4) rfl p1 rfl 24 p.cs.toArray (0, 0) _ b1 Tryz.underlying24 rfl size24 ?_
      refine hK.out _ _ kS (fun h1 => ?_)
      clear hHeld hK K
      try simp only [Act.put, List.setIfInBounds_toArray, List.set_cons_zero, List.set_cons_succ]
      refine wpAnyH_ready (rs := [1, 2]) (by kernel_rfl) (by simp) ?_
      refine AllReadyH.cons (o := ⟨some 13, _, _, _, _, _⟩) rfl (fun K hK => ?_) (AllReadyH.cons (o := ⟨some 14, _, _, _, _, _⟩) rfl (fun K hK => ?_) AllReadyH.nil)
      · go_simp
        refine (P.few_any (w := wd) (h.below kk (fun _ e => e)) (fun _ hg => Nat.lt_of_lt_of_le hg kk.size) p.r p.c p.s).mono ?_
        rintro e w2 ⟨A2, n2, cap2, rfl, hM2, hb2⟩
        have mx2 : MatX w.heap.size wd.heap.size w2 A2 n2 cap2 (P.few xss) := ⟨hM2.more fun g hg => (by
          rcases hg with hg | hg
          · exact ⟨.inl hg, Nat.lt_of_lt_of_le hg (Nat.le_trans kk.size hb2.size)⟩
          · exact ⟨.inr (Nat.le_trans (Kept.size kS) hg.1), hg.2⟩)⟩
        have b1_2 := b1.on hb2
        have b2_2 := b2.on hb2
        have kk_2 := kk.trans (hb2.mono kk.size)
        have S2 : (fun W => Kept (fun g => g = p1 ∨ g = p2) wd W) w2 := Kept.next kS (kept_below (fun _ => False) hb2) (fun _ h => h.elim)
        refine hK.out _ _ S2 (fun h2 => ?_)
        clear h1 hK K
        try simp only [Act.put, List.setIfInBounds_toArray, List.set_cons_zero, List.set_cons_succ]
        refine wpAnyH_ready (rs := [2]) (by kernel_rfl) (by simp) ?_
        refine AllReadyH.cons (o := ⟨some 14, _, _, _, _, _⟩) rfl (fun K hK => ?_) AllReadyH.nil
        rw [if_pos (by rfl)]
        refine wp_load_row 33 (.tmp 6) rfl p2 rfl 33 x.cs.toArray (0, 0) _ b2_2 Tryz.underlying33 rfl (sizeT _) ?_
        refine hK.out _ _ S2 (fun h3 => ?_)
        clear h2 hK K
        try simp only [Act.put, List.setIfInBounds_toArray, List.set_cons_zero, List.set_cons_succ]
        refine wpAnyH_ready (rs := [3]) (by kernel_rfl) (by simp) ?_
        refine AllReadyH.cons (o := ⟨some 15, _, _, _, _, _⟩) rfl (fun K hK => ?_) AllReadyH.nil
        go_simp
        refine (fewt_any (w := w2) (hr.on kk_2)).mono ?_
        rintro e w4 ⟨rfl, hb4⟩
        have b1_4 := b1_2.on hb4
        have b2_4 := b2_2.on hb4
        have kk_4 := kk_2.trans (hb4.mono kk_2.size)
        have mx_4 := mx2.on hb4
        have S4 : (fun W => Kept (fun g => g = p1 ∨ g = p2) wd W) w4 := Kept.next S2 (kept_below (fun _ => False) hb4) (fun _ h => h.elim)
        refine hK.out _ _ S4 (fun h4 => ?_)
        clear h3 hK K
        try simp only [Act.put, List.setIfInBounds_toArray, List.set_cons_zero, List.set_cons_succ]
        refine wpAnyH_ready (rs := [4]) (by kernel_rfl) (by simp) ?_
        refine AllReadyH.cons (o := ⟨none, _, _, _, _, _⟩) rfl (fun K hK => ?_) AllReadyH.nil
        rw [if_pos (by rfl)]
        refine wp_store_row 24 (.tmp 4) (.tmp 13) rfl p1 (Pg.mk p.r p.c p.s ⟨A2, n2, cap2⟩).cs.toArray rfl rfl 24 p.cs.toArray b1_4 size24 rfl (Pg.onea _) ?_
        refine hK.out _ _ (Kept.next S4 (kept_row _ p1 _) (fun g h => .inl (by omega))) (fun h5 => ?_)
        clear h4 hK K
        have S5 : Kept (fun g => g = p1 ∨ g = p2) wd (w4.setRow p1 (Pg.mk p.r p.c p.s ⟨A2, n2, cap2⟩).cs.toArray) := Kept.next S4 (kept_row _ p1 _) (fun g h => .inl (by omega))
        have b1_5 : Blk (w4.setRow p1 (Pg.mk p.r p.c p.s ⟨A2, n2, cap2⟩).cs.toArray) p1 24 (Pg.mk p.r p.c p.s ⟨A2, n2, cap2⟩).cs.toArray := row_named b1_4 rfl
        have b2_5 := row_far (W := (w4.setRow p1 (Pg.mk p.r p.c p.s ⟨A2, n2, cap2⟩).cs.toArray)) b2_4 rfl (by omega)
        have kk_5 := kk_4.trans (row_below (W := (w4.setRow p1 (Pg.mk p.r p.c p.s ⟨A2, n2, cap2⟩).cs.toArray)) rfl hp1 kk_4.size)
        have mx_5 := mx_4.row (z := p1) hp1 hl1 (Pg.mk p.r p.c p.s ⟨A2, n2, cap2⟩).cs.toArray
        try simp only [Act.put]
        refine wpAnyH_ready (rs := [5]) (by kernel_rfl) (by simp) ?_
        refine AllReadyH.cons (o := ⟨none, _, _, _, _, _⟩) rfl (fun K hK => ?_) AllReadyH.nil
        rw [if_pos (by rfl)]
        refine wp_store_row 33 (.tmp 6) (.tmp 15) rfl p2 (fewT x).cs.toArray rfl rfl 33 x.cs.toArray b2_5 (sizeT _) rfl (Th.onea _) ?_
        refine hK.out _ _ (Kept.next S5 (kept_row _ p2 _) (fun g h => .inl (by omega))) (fun h6 => ?_)
        clear h5 hK K
        have S6 : Kept (fun g => g = p1 ∨ g = p2) wd ((w4.setRow p1 (Pg.mk p.r p.c p.s ⟨A2, n2, cap2⟩).cs.toArray).setRow p2 (fewT x).cs.toArray) := Kept.next S5 (kept_row _ p2 _) (fun g h => .inl (by omega))
        have b2_6 : Blk ((w4.setRow p1 (Pg.mk p.r p.c p.s ⟨A2, n2, cap2⟩).cs.toArray).setRow p2 (fewT x).cs.toArray) p2 33 (fewT x).cs.toArray := row_named b2_5 rfl
        have b1_6 := row_far (W := ((w4.setRow p1 (Pg.mk p.r p.c p.s ⟨A2, n2, cap2⟩).cs.toArray).setRow p2 (fewT x).cs.toArray)) b1_5 rfl (by omega)
        have kk_6 := kk_5.trans (row_below (W := ((w4.setRow p1 (Pg.mk p.r p.c p.s ⟨A2, n2, cap2⟩).cs.toArray).setRow p2 (fewT x).cs.toArray)) rfl hp2 kk_5.size)
        have mx_6 := mx_5.row (z := p2) hp2 hl2 (fewT x).cs.toArray
        try simp only [Act.put]
        refine wpAnyH_done (by kernel_rfl) ?_ _
        refine NoPanic.normal ?_
        go_wp2_with fail
        go_meet
        exact ⟨_, _, _, kk_6, b1_6, b2_6, _, mx_6⟩
      · rw [if_pos (by rfl)]
        refine wp_load_row 33 (.tmp 6) rfl p2 rfl 33 x.cs.toArray (0, 0) _ b2 Tryz.underlying33 rfl (sizeT _) ?_
        refine hK.out _ _ kS (fun h7 => ?_)
        clear h1 hK K
        try simp only [Act.put, List.setIfInBounds_toArray, List.set_cons_zero, List.set_cons_succ]
        refine wpAnyH_ready (rs := [1]) (by kernel_rfl) (by simp) ?_
        refine AllReadyH.cons (o := ⟨some 13, _, _, _, _, _⟩) rfl (fun K hK => ?_) AllReadyH.nil
        go_simp
        refine (P.few_any (w := wd) (h.below kk (fun _ e => e)) (fun _ hg => Nat.lt_of_lt_of_le hg kk.size) p.r p.c p.s).mono ?_
        rintro e w8 ⟨A8, n8, cap8, rfl, hM8, hb8⟩
        have mx8 : MatX w.heap.size wd.heap.size w8 A8 n8 cap8 (P.few xss) := ⟨hM8.more fun g hg => (by
          rcases hg with hg | hg
          · exact ⟨.inl hg, Nat.lt_of_lt_of_le hg (Nat.le_trans kk.size hb8.size)⟩
          · exact ⟨.inr (Nat.le_trans (Kept.size kS) hg.1), hg.2⟩)⟩
        have b1_8 := b1.on hb8
        have b2_8 := b2.on hb8
        have kk_8 := kk.trans (hb8.mono kk.size)
        have S8 : (fun W => Kept (fun g => g = p1 ∨ g = p2) wd W) w8 := Kept.next kS (kept_below (fun _ => False) hb8) (fun _ h => h.elim)
        refine hK.out _ _ S8 (fun h8 => ?_)
        clear h7 hK K
        try simp only [Act.put, List.setIfInBounds_toArray, List.set_cons_zero, List.set_cons_succ]
        refine wpAnyH_ready (rs := [3]) (by kernel_rfl) (by simp) ?_
        refine AllReadyH.cons (o := ⟨some 15, _, _, _, _, _⟩) rfl (fun K hK => ?_) AllReadyH.nil
        go_simp
        refine (fewt_any (w := w8) (hr.on kk_8)).mono ?_
        rintro e w9 ⟨rfl, hb9⟩
        have b1_9 := b1_8.on hb9
        have b2_9 := b2_8.on hb9
        have kk_9 := kk_8.trans (hb9.mono kk_8.size)
        have mx_9 := mx8.on hb9
        have S9 : (fun W => Kept (fun g => g = p1 ∨ g = p2) wd W) w9 := Kept.next S8 (kept_below (fun _ => False) hb9) (fun _ h => h.elim)
        refine hK.out _ _ S9 (fun h9 => ?_)
        clear h8 hK K
        try simp only [Act.put, List.setIfInBounds_toArray, List.set_cons_zero, List.set_cons_succ]
        refine wpAnyH_ready (rs := [4]) (by kernel_rfl) (by simp) ?_
        refine AllReadyH.cons (o := ⟨none, _, _, _, _, _⟩) rfl (fun K hK => ?_) AllReadyH.nil
        rw [if_pos (by rfl)]
        refine wp_store_row 24 (.tmp 4) (.tmp 13) rfl p1 (Pg.mk p.r p.c p.s ⟨A8, n8, cap8⟩).cs.toArray rfl rfl 24 p.cs.toArray b1_9 size24 rfl (Pg.onea _) ?_
        refine hK.out _ _ (Kept.next S9 (kept_row _ p1 _) (fun g h => .inl (by omega))) (fun h10 => ?_)
        clear h9 hK K
        have S10 : Kept (fun g => g = p1 ∨ g = p2) wd (w9.setRow p1 (Pg.mk p.r p.c p.s ⟨A8, n8, cap8⟩).cs.toArray) := Kept.next S9 (kept_row _ p1 _) (fun g h => .inl (by omega))
        have b1_10 : Blk (w9.setRow p1 (Pg.mk p.r p.c p.s ⟨A8, n8, cap8⟩).cs.toArray) p1 24 (Pg.mk p.r p.c p.s ⟨A8, n8, cap8⟩).cs.toArray := row_named b1_9 rfl
        have b2_10 := row_far (W := (w9.setRow p1 (Pg.mk p.r p.c p.s ⟨A8, n8, cap8⟩).cs.toArray)) b2_9 rfl (by omega)
        have kk_10 := kk_9.trans (row_below (W := (w9.setRow p1 (Pg.mk p.r p.c p.s ⟨A8, n8, cap8⟩).cs.toArray)) rfl hp1 kk_9.size)
        have mx_10 := mx_9.row (z := p1) hp1 hl1 (Pg.mk p.r p.c p.s ⟨A8, n8, cap8⟩).cs.toArray
        try simp only [Act.put]
        refine wpAnyH_ready (rs := [5]) (by kernel_rfl) (by simp) ?_
        refine AllReadyH.cons (o := ⟨none, _, _, _, _, _⟩) rfl (fun K hK => ?_) AllReadyH.nil
        rw [if_pos (by rfl)]
        refine wp_store_row 33 (.tmp 6) (.tmp 15) rfl p2 (fewT x).cs.toArray rfl rfl 33 x.cs.toArray b2_10 (sizeT _) rfl (Th.onea _) ?_
        refine hK.out _ _ (Kept.next S10 (kept_row _ p2 _) (fun g h => .inl (by omega))) (fun h11 => ?_)
        clear h10 hK K
        have S11 : Kept (fun g => g = p1 ∨ g = p2) wd ((w9.setRow p1 (Pg.mk p.r p.c p.s ⟨A8, n8, cap8⟩).cs.toArray).setRow p2 (fewT x).cs.toArray) := Kept.next S10 (kept_row _ p2 _) (fun g h => .inl (by omega))
        have b2_11 : Blk ((w9.setRow p1 (Pg.mk p.r p.c p.s ⟨A8, n8, cap8⟩).cs.toArray).setRow p2 (fewT x).cs.toArray) p2 33 (fewT x).cs.toArray := row_named b2_10 rfl
        have b1_11 := row_far (W := ((w9.setRow p1 (Pg.mk p.r p.c p.s ⟨A8, n8, cap8⟩).cs.toArray).setRow p2 (fewT x).cs.toArray)) b1_10 rfl (by omega)
        have kk_11 := kk_10.trans (row_below (W := ((w9.setRow p1 (Pg.mk p.r p.c p.s ⟨A8, n8, cap8⟩).cs.toArray).setRow p2 (fewT x).cs.toArray)) rfl hp2 kk_10.size)
        have mx_11 := mx_10.row (z := p2) hp2 hl2 (fewT x).cs.toArray
        try simp only [Act.put]
        refine wpAnyH_done (by kernel_rfl) ?_ _
        refine NoPanic.normal ?_
        go_wp2_with fail
        go_meet
        exact ⟨_, _, _, kk_11, b1_11, b2_11, _, mx_11⟩
    · rw [if_pos (by rfl)]
      refine wp_load_row 33 (.tmp 6) rfl p2 rfl 33 x.cs.toArray (0, 0) _ b2 Tryz.underlying33 rfl (sizeT _) ?_
      refine hK.out _ _ kS (fun h12 => ?_)
      clear hHeld hK K
      try simp only [Act.put, List.setIfInBounds_toArray, List.set_cons_zero, List.set_cons_succ]
      refine wpAnyH_ready (rs := [0]) (by kernel_rfl) (by simp) ?_
      refine AllReadyH.cons (o := ⟨some 12, _, _, _, _, _⟩) rfl (fun K hK => ?_) AllReadyH.nil
      rw [if_pos (by rfl)]
      refine wp_load_row 24 (.tmp 4) rfl p1 rfl 24 p.cs.toArray (0, 0) _ b1 Tryz.underlying24 rfl size24 ?_
      refine hK.out _ _ kS (fun h13 => ?_)
      clear h12 hK K
      try simp only [Act.put, List.setIfInBounds_toArray, List.set_cons_zero, List.set_cons_succ]
      refine wpAnyH_ready (rs := [1]) (by kernel_rfl) (by simp) ?_
      refine AllReadyH.cons (o := ⟨some 13, _, _, _, _, _⟩) rfl (fun K hK => ?_) AllReadyH.nil
      go_simp
      refine (P.few_any (w := wd) (h.below kk (fun _ e => e)) (fun _ hg => Nat.lt_of_lt_of_le hg kk.size) p.r p.c p.s).mono ?_
      rintro e w14 ⟨A14, n14, cap14, rfl, hM14, hb14⟩
      have mx14 : MatX w.heap.size wd.heap.size w14 A14 n14 cap14 (P.few xss) := ⟨hM14.more fun g hg => (by
        rcases hg with hg | hg
        · exact ⟨.inl hg, Nat.lt_of_lt_of_le hg (Nat.le_trans kk.size hb14.size)⟩
        · exact ⟨.inr (Nat.le_trans (Kept.size kS) hg.1), hg.2⟩)⟩
      have b1_14 := b1.on hb14
      have b2_14 := b2.on hb14
      have kk_14 := kk.trans (hb14.mono kk.size)
      have S14 : (fun W => Kept (fun g => g = p1 ∨ g = p2) wd W) w14 := Kept.next kS (kept_below (fun _ => False) hb14) (fun _ h => h.elim)
      refine hK.out _ _ S14 (fun h14 => ?_)
      clear h13 hK K
      try simp only [Act.put, List.setIfInBounds_toArray, List.set_cons_zero, List.set_cons_succ]
      refine wpAnyH_ready (rs := [3]) (by kernel_rfl) (by simp) ?_
      refine AllReadyH.cons (o := ⟨some 15, _, _, _, _, _⟩) rfl (fun K hK => ?_) AllReadyH.nil
      go_simp
      refine (fewt_any (w := w14) (hr.on kk_14)).mono ?_
      rintro e w15 ⟨rfl, hb15⟩
      have b1_15 := b1_14.on hb15
      have b2_15 := b2_14.on hb15
      have kk_15 := kk_14.trans (hb15.mono kk_14.size)
      have mx_15 := mx14.on hb15
      have S15 : (fun W => Kept (fun g => g = p1 ∨ g = p2) wd W) w15 := Kept.next S14 (kept_below (fun _ => False) hb15) (fun _ h => h.elim)
      refine hK.out _ _ S15 (fun h15 => ?_)
      clear h14 hK K
      try simp only [Act.put, List.setIfInBounds_toArray, List.set_cons_zero, List.set_cons_succ]
      refine wpAnyH_ready (rs := [4]) (by kernel_rfl) (by simp) ?_
      refine AllReadyH.cons (o := ⟨none, _, _, _, _, _⟩) rfl (fun K hK => ?_) AllReadyH.nil
      rw [if_pos (by rfl)]
      refine wp_store_row 24 (.tmp 4) (.tmp 13) rfl p1 (Pg.mk p.r p.c p.s ⟨A14, n14, cap14⟩).cs.toArray rfl rfl 24 p.cs.toArray b1_15 size24 rfl (Pg.onea _) ?_
      refine hK.out _ _ (Kept.next S15 (kept_row _ p1 _) (fun g h => .inl (by omega))) (fun h16 => ?_)
      clear h15 hK K
      have S16 : Kept (fun g => g = p1 ∨ g = p2) wd (w15.setRow p1 (Pg.mk p.r p.c p.s ⟨A14, n14, cap14⟩).cs.toArray) := Kept.next S15 (kept_row _ p1 _) (fun g h => .inl (by omega))
      have b1_16 : Blk (w15.setRow p1 (Pg.mk p.r p.c p.s ⟨A14, n14, cap14⟩).cs.toArray) p1 24 (Pg.mk p.r p.c p.s ⟨A14, n14, cap14⟩).cs.toArray := row_named b1_15 rfl
      have b2_16 := row_far (W := (w15.setRow p1 (Pg.mk p.r p.c p.s ⟨A14, n14, cap14⟩).cs.toArray)) b2_15 rfl (by omega)
      have kk_16 := kk_15.trans (row_below (W := (w15.setRow p1 (Pg.mk p.r p.c p.s ⟨A14, n14, cap14⟩).cs.toArray)) rfl hp1 kk_15.size)
      have mx_16 := mx_15.row (z := p1) hp1 hl1 (Pg.mk p.r p.c p.s ⟨A14, n14, cap14⟩).cs.toArray
      try simp only [Act.put]
      refine wpAnyH_ready (rs := [5]) (by kernel_rfl) (by simp) ?_
      refine AllReadyH.cons (o := ⟨none, _, _, _, _, _⟩) rfl (fun K hK => ?_) AllReadyH.nil
      rw [if_pos (by rfl)]
      refine wp_store_row 33 (.tmp 6) (.tmp 15) rfl p2 (fewT x).cs.toArray rfl rfl 33 x.cs.toArray b2_16 (sizeT _) rfl (Th.onea _) ?_
      refine hK.out _ _ (Kept.next S16 (kept_row _ p2 _) (fun g h => .inl (by omega))) (fun h17 => ?_)
      clear h16 hK K
      have S17 : Kept (fun g => g = p1 ∨ g = p2) wd ((w15.setRow p1 (Pg.mk p.r p.c p.s ⟨A14, n14, cap14⟩).cs.toArray).setRow p2 (fewT x).cs.toArray) := Kept.next S16 (kept_row _ p2 _) (fun g h => .inl (by omega))
      have b2_17 : Blk ((w15.setRow p1 (Pg.mk p.r p.c p.s ⟨A14, n14, cap14⟩).cs.toArray).setRow p2 (fewT x).cs.toArray) p2 33 (fewT x).cs.toArray := row_named b2_16 rfl
      have b1_17 := row_far (W := ((w15.setRow p1 (Pg.mk p.r p.c p.s ⟨A14, n14, cap14⟩).cs.toArray).setRow p2 (fewT x).cs.toArray)) b1_16 rfl (by omega)
      have kk_17 := kk_16.trans (row_below (W := ((w15.setRow p1 (Pg.mk p.r p.c p.s ⟨A14, n14, cap14⟩).cs.toArray).setRow p2 (fewT x).cs.toArray)) rfl hp2 kk_16.size)
      have mx_17 := mx_16.row (z := p2) hp2 hl2 (fewT x).cs.toArray
      try simp only [Act.put]
      refine wpAnyH_done (by kernel_rfl) ?_ _
      refine NoPanic.normal ?_
      go_wp2_with fail
      go_meet
      exact ⟨_, _, _, kk_17, b1_17, b2_17, _, mx_17⟩
  case rest =>
    clear kk b1 b2
    obtain ⟨A, n, cap, kk, b1, b2, B1, mx⟩ := hcut
    obtain ⟨q, eq⟩ : ∃ q : Pg, (⟨p.r, p.c, p.s, ⟨A, n, cap⟩⟩ : Pg) = q := ⟨_, rfl⟩
    rw [eq] at b1
    have mq : MatX w.heap.size B1 wc q.co.A q.co.n q.co.cap (P.few xss) := by rw [← eq]; exact mx
    clear mx eq
    generalize P.few xss = XS at mq
    generalize fewT x = y at b2
    have hq : q.Ok := ⟨mq.mat.room, mq.mat.most⟩
    have hn63 := Pg.n63 hq
    have hlen := mq.mat.len
    obtain ⟨F, eF⟩ : ∃ F, ofA q XS t y own = F := ⟨_, rfl⟩
    have d1 : Calls Tryz.prog 7 #[.agg q.cs.toArray, .int .i64 t, .agg y.cs.toArray, .int .i64 own] wc fun e w' => e = .returned (.agg F.cs.toArray) ∧ Below wc.heap.size wc w' := by rw [← eF]; exact actof_any mq.mat (fun _ h => h.2) (hL.on kk) t y own
    go_wp2_with (first | ((with_reducible refine at_load 24 (.tmp 4) ?_); refine wpList_load_row rfl 24 (.tmp 4) rfl p1 rfl 24 q.cs.toArray (0, 0) _ b1 Tryz.underlying24 rfl size24 ?_) | ((with_reducible refine at_load 33 (.tmp 6) ?_); refine wpList_load_row rfl 33 (.tmp 6) rfl p2 rfl 33 y.cs.toArray (0, 0) _ b2 Tryz.underlying33 rfl (sizeT _) ?_))
    refine (d1).mono ?_
    rintro e W24 ⟨rfl, k1⟩
    replace mq := mq.on k1
    replace b1 := b1.on k1
    replace b2 := b2.on k1
    replace kk := kk.trans (k1.mono kk.size)
    clear k1
    clear d1
    obtain ⟨p3, f3⟩ : ∃ p, W24.heap.size = p := ⟨_, rfl⟩
    obtain ⟨W25, ea25⟩ : ∃ W, W24.alloc (.cells #[.int .i64 0, .int .i64 0, .int .i64 0, .int .i64 0, .int .i64 0, .int .i64 0, .int .i64 0, .int .i64 0, .int .i64 0, .int .i64 0, .int .i64 0, .int .i64 0, .int .i64 0, .int .i64 0] 40) = W := ⟨_, rfl⟩
    have ka25 : Below W24.heap.size W24 W25 := by rw [← ea25]; exact (Below.refl _ W24).alloc (Nat.le_refl _) _
    have b3 : Blk W25 p3 40 #[.int .i64 0, .int .i64 0, .int .i64 0, .int .i64 0, .int .i64 0, .int .i64 0, .int .i64 0, .int .i64 0, .int .i64 0, .int .i64 0, .int .i64 0, .int .i64 0, .int .i64 0, .int .i64 0] := by rw [← ea25]; exact blk_new W24 _ 40 _ f3
    have q1_3 : p1 < p3 := by rw [← f3]; exact b1.lt
    replace b1 := b1.on ka25
    have q2_3 : p2 < p3 := by rw [← f3]; exact b2.lt
    replace b2 := b2.on ka25
    have kk0 := kk
    replace kk := kk.trans (ka25.mono kk.size)
    have hp3 : w.heap.size ≤ p3 := by rw [← f3]; exact kk0.size
    clear ka25 kk0
    obtain ⟨W26, es26⟩ : ∃ W, W25.setRow p3 F.cs.toArray = W := ⟨_, rfl⟩
    have bo3 := b3
    replace b1 := row_far b1 es26 (by omega)
    replace b2 := row_far b2 es26 (by omega)
    replace b3 : Blk W26 p3 40 F.cs.toArray := row_named b3 es26
    replace kk := kk.trans (row_below es26 hp3 kk.size)
    have kq : Below W24.heap.size W24 W26 := by
      have ka : Below W24.heap.size W24 (W24.alloc (.cells #[.int .i64 0, .int .i64 0, .int .i64 0, .int .i64 0, .int .i64 0, .int .i64 0, .int .i64 0, .int .i64 0, .int .i64 0, .int .i64 0, .int .i64 0, .int .i64 0, .int .i64 0, .int .i64 0] 40)) := (Below.refl _ _).alloc (Nat.le_refl _) _
      rw [ea25] at ka
      exact ka.trans (row_below es26 (Nat.le_of_eq f3) ka.size)
    replace mq := mq.on kq
    clear kq
    go_wp2_with (((with_reducible refine at_store 40 (.tmp 9) (.tmp 20) ?_); refine wpList_store_row rfl 40 (.tmp 9) (.tmp 20) rfl p3 F.cs.toArray rfl rfl 40 #[.int .i64 0, .int .i64 0, .int .i64 0, .int .i64 0, .int .i64 0, .int .i64 0, .int .i64 0, .int .i64 0, .int .i64 0, .int .i64 0, .int .i64 0, .int .i64 0, .int .i64 0, .int .i64 0] bo3 size40 rfl (Ac.onea _) ?_; rw [es26]))
    try simp only [Act.put]
    have h13 : p1 ≠ p3 := by omega
    have h23 : p2 ≠ p3 := by omega
    obtain ⟨v, ev⟩ : ∃ v, P.chkP q.r q.c q.s XS = v := ⟨_, rfl⟩
    have d8 : ∀ W, MatX w.heap.size B1 W q.co.A q.co.n q.co.cap XS → Calls Tryz.prog 8 #[.agg q.cs.toArray] W fun e w' => e = .returned (.int .i64 v) ∧ Below W.heap.size W w' := fun W hW => by rw [← ev]; exact P.ref_check hW.mat (fun _ h => h.2) q.r q.c q.s
    have e40 : ∀ W, (binOp BinOp.eql 40 (.agg F.cs.toArray) (.agg F.cs.toArray)).run Tryz.prog W = .ok (.bool true) W := fun W => eq40 F W
    by_cases c0 : v = 0
    · subst c0
      by_cases c1 : t < 0
      · have eN : F = noA := by rw [← eF]; unfold ofA; rw [if_neg (fun e => by omega)]
        have z1 : decide (t < 0) = true := decide_eq_true c1
        have HX := Lib.hid (And.intro eF (And.intro ev (And.intro hlen c1)))
        clear eF ev hlen c1
        go_cut [43] (fun s43 wx => s43 = .bool true ∧ Below w.heap.size w wx ∧ Blk wx p1 24 q.cs.toArray ∧ Blk wx p2 33 y.cs.toArray ∧ Blk wx p3 40 F.cs.toArray ∧ MatX w.heap.size B1 wx q.co.A q.co.n q.co.cap XS ∧ Below W26.heap.size W26 wx)
        case first =>
          obtain ⟨wd, ed_⟩ : ∃ W, W26.drew = W := ⟨_, rfl⟩
          have hd : Below W26.heap.size W26 wd := by rw [← ed_]; exact (Below.refl _ _).drew
          replace b1 := b1.on hd
          replace b2 := b2.on hd
          replace b3 := b3.on hd
          replace kk := kk.trans (hd.mono kk.size)
          replace mq := mq.on hd
          clear hd
          have hw0 : Below W26.heap.size W26 wd := by rw [← ed_]; exact (Below.refl _ _).drew
          have kS0 : Kept (fun _ => False) W26 wd := kept_below _ hw0
          have kS : Kept (fun g => False) wd wd := Kept.refl _ _
          refine wp_region_noPanic ?_
          refine wp_region_held_drew (S := (fun W => Kept (fun g => False) wd W)) (by kernel_rfl) (by rw [ed_]; exact kS) (fun hHeld => ?_)
          rw [ed_] at hHeld ⊢
          refine wpAnyH_take (i := 0) (oi := ⟨some 21, _, _, _, _, _⟩) (v := .agg (List.toArray (q.cs))) rfl (by kernel_rfl) (by kernel_rfl) (by kernel_rfl) (fun _ _ _ h => h) (yieldsIf_load_mid (by rfl) 24 (.tmp 4) rfl p1 (0) rfl (q.cs) _ (fun W hW => range_part (b1.kept hW id) 0 q.cs rfl) Tryz.underlying24 rfl size24) (by assumption) ?_
          try simp only [Act.put, List.setIfInBounds_toArray, List.set_cons_zero, List.set_cons_succ]
          refine wpAnyH_ready (rs := [1]) (by kernel_rfl) (by simp) ?_
          refine AllReadyH.cons (o := ⟨some 22, _, _, _, _, _⟩) rfl (fun K hK => ?_) AllReadyH.nil
          go_simp
          refine (d8 wd mq).mono ?_
          rintro e w1 ⟨rfl, hb1⟩
          have b1_1 := b1.on hb1
          have b2_1 := b2.on hb1
          have b3_1 := b3.on hb1
          have kk_1 := kk.trans (hb1.mono kk.size)
          have mq_1 := mq.on hb1
          have S1 : (fun W => Kept (fun g => False) wd W) w1 := Kept.next kS (kept_below (fun _ => False) hb1) (fun _ h => h.elim)
          refine hK.out _ _ S1 (fun h1 => ?_)
          clear hHeld hK K
          try simp only [Act.put, List.setIfInBounds_toArray, List.set_cons_zero, List.set_cons_succ]
          refine wpAnyH_take (i := 2) (oi := ⟨some 23, _, _, _, _, _⟩) (v := ?_) rfl (by kernel_rfl) (by kernel_rfl) (by kernel_rfl) (fun _ _ _ h => h) (Or.inl ⟨by rfl, ?_⟩) (by assumption) ?_
          rotate_left 1
          · (intro W hSw; go_simp <;> with_reducible rfl)
          try simp only [Act.put, List.setIfInBounds_toArray, List.set_cons_zero, List.set_cons_succ]
          refine wpAnyH_take (i := 3) (oi := ⟨some 24, _, _, _, _, _⟩) (v := ?_) rfl (by kernel_rfl) (by kernel_rfl) (by kernel_rfl) (fun _ _ _ h => h) (Or.inl ⟨by rfl, ?_⟩) (by assumption) ?_
          rotate_left 1
          · (intro W hSw; go_simp <;> with_reducible rfl)
          try simp only [Act.put, List.setIfInBounds_toArray, List.set_cons_zero, List.set_cons_succ]
          refine wpAnyH_take (i := 4) (oi := ⟨some 25, _, _, _, _, _⟩) (v := ?_) rfl (by kernel_rfl) (by kernel_rfl) (by kernel_rfl) (fun _ _ _ h => h) (Or.inl ⟨by rfl, ?_⟩) (by assumption) ?_
          rotate_left 1
          · (intro W hSw; go_simp <;> with_reducible rfl)
          try simp only [Act.put, List.setIfInBounds_toArray, List.set_cons_zero, List.set_cons_succ]
          refine wpAnyH_take (i := 5) (oi := ⟨some 26, _, _, _, _, _⟩) (v := ?_) rfl (by kernel_rfl) (by kernel_rfl) (by kernel_rfl) (fun _ _ _ h => h) (Or.inl ⟨by rfl, ?_⟩) (by assumption) ?_
          rotate_left 1
          · (intro W hSw; go_simp <;> with_reducible rfl)
          try simp only [Act.put, List.setIfInBounds_toArray, List.set_cons_zero, List.set_cons_succ]
          refine wpAnyH_take (i := 6) (oi := ⟨some 27, _, _, _, _, _⟩) (v := ?_) rfl (by kernel_rfl) (by kernel_rfl) (by kernel_rfl) (fun _ _ _ h => h) (Or.inl ⟨by rfl, ?_⟩) (by assumption) ?_
          rotate_left 1
          · (intro W hSw; go_simp <;> with_reducible rfl)
          try simp only [Act.put, List.setIfInBounds_toArray, List.set_cons_zero, List.set_cons_succ]
          refine wpAnyH_take (i := 7) (oi := ⟨some 28, _, _, _, _, _⟩) (v := ?_) rfl (by kernel_rfl) (by kernel_rfl) (by kernel_rfl) (fun _ _ _ h => h) (Or.inl ⟨by rfl, ?_⟩) (by assumption) ?_
          rotate_left 1
          · (intro W hSw; go_simp <;> with_reducible rfl)
          try simp only [Act.put, List.setIfInBounds_toArray, List.set_cons_zero, List.set_cons_succ]
          refine wpAnyH_take (i := 8) (oi := ⟨some 29, _, _, _, _, _⟩) (v := undef) rfl (by kernel_rfl) (by kernel_rfl) (by kernel_rfl) (fun _ _ _ h => h) (Or.inr ⟨by rfl, rfl⟩) (by assumption) ?_
          try simp only [Act.put, List.setIfInBounds_toArray, List.set_cons_zero, List.set_cons_succ]
          refine wpAnyH_take (i := 9) (oi := ⟨some 30, _, _, _, _, _⟩) (v := undef) rfl (by kernel_rfl) (by kernel_rfl) (by kernel_rfl) (fun _ _ _ h => h) (Or.inr ⟨by rfl, rfl⟩) (by assumption) ?_
          try simp only [Act.put, List.setIfInBounds_toArray, List.set_cons_zero, List.set_cons_succ]
          refine wpAnyH_take (i := 10) (oi := ⟨some 31, _, _, _, _, _⟩) (v := undef) rfl (by kernel_rfl) (by kernel_rfl) (by kernel_rfl) (fun _ _ _ h => h) (Or.inr ⟨by rfl, rfl⟩) (by assumption) ?_
          try simp only [Act.put, List.setIfInBounds_toArray, List.set_cons_zero, List.set_cons_succ]
          refine wpAnyH_take (i := 11) (oi := ⟨some 32, _, _, _, _, _⟩) (v := undef) rfl (by kernel_rfl) (by kernel_rfl) (by kernel_rfl) (fun _ _ _ h => h) (Or.inr ⟨by rfl, rfl⟩) (by assumption) ?_
          try simp only [Act.put, List.setIfInBounds_toArray, List.set_cons_zero, List.set_cons_succ]
          refine wpAnyH_take (i := 12) (oi := ⟨some 33, _, _, _, _, _⟩) (v := undef) rfl (by kernel_rfl) (by kernel_rfl) (by kernel_rfl) (fun _ _ _ h => h) (Or.inr ⟨by rfl, rfl⟩) (by assumption) ?_
          try simp only [Act.put, List.setIfInBounds_toArray, List.set_cons_zero, List.set_cons_succ]
          refine wpAnyH_take (i := 13) (oi := ⟨some 34, _, _, _, _, _⟩) (v := ?_) rfl (by kernel_rfl) (by kernel_rfl) (by kernel_rfl) (fun _ _ _ h => h) (Or.inl ⟨by rfl, ?_⟩) (by assumption) ?_
          rotate_left 1
          · (intro W hSw; go_simp <;> with_reducible rfl)
          try simp only [Act.put, List.setIfInBounds_toArray, List.set_cons_zero, List.set_cons_succ]
          refine wpAnyH_take (i := 14) (oi := ⟨some 35, _, _, _, _, _⟩) (v := ?_) rfl (by kernel_rfl) (by kernel_rfl) (by kernel_rfl) (fun _ _ _ h => h) (Or.inl ⟨by rfl, ?_⟩) (by assumption) ?_
          rotate_left 1
          · (intro W hSw; go_simp <;> with_reducible rfl)
          try simp only [Act.put, List.setIfInBounds_toArray, List.set_cons_zero, List.set_cons_succ]
          refine wpAnyH_take (i := 15) (oi := ⟨some 36, _, _, _, _, _⟩) (v := undef) rfl (by kernel_rfl) (by kernel_rfl) (by kernel_rfl) (fun _ _ _ h => h) (Or.inr ⟨by rfl, rfl⟩) (by assumption) ?_
          try simp only [Act.put, List.setIfInBounds_toArray, List.set_cons_zero, List.set_cons_succ]
          refine wpAnyH_take (i := 16) (oi := ⟨some 37, _, _, _, _, _⟩) (v := undef) rfl (by kernel_rfl) (by kernel_rfl) (by kernel_rfl) (fun _ _ _ h => h) (Or.inr ⟨by rfl, rfl⟩) (by assumption) ?_
          try simp only [Act.put, List.setIfInBounds_toArray, List.set_cons_zero, List.set_cons_succ]
          refine wpAnyH_take (i := 17) (oi := ⟨some 38, _, _, _, _, _⟩) (v := undef) rfl (by kernel_rfl) (by kernel_rfl) (by kernel_rfl) (fun _ _ _ h => h) (Or.inr ⟨by rfl, rfl⟩) (by assumption) ?_
          try simp only [Act.put, List.setIfInBounds_toArray, List.set_cons_zero, List.set_cons_succ]
          refine wpAnyH_take (i := 18) (oi := ⟨some 39, _, _, _, _, _⟩) (v := undef) rfl (by kernel_rfl) (by kernel_rfl) (by kernel_rfl) (fun _ _ _ h => h) (Or.inr ⟨by rfl, rfl⟩) (by assumption) ?_
          try simp only [Act.put, List.setIfInBounds_toArray, List.set_cons_zero, List.set_cons_succ]
          refine wpAnyH_take (i := 19) (oi := ⟨some 40, _, _, _, _, _⟩) (v := undef) rfl (by kernel_rfl) (by kernel_rfl) (by kernel_rfl) (fun _ _ _ h => h) (Or.inr ⟨by rfl, rfl⟩) (by assumption) ?_
          try simp only [Act.put, List.setIfInBounds_toArray, List.set_cons_zero, List.set_cons_succ]
          refine wpAnyH_take (i := 20) (oi := ⟨some 41, _, _, _, _, _⟩) (v := undef) rfl (by kernel_rfl) (by kernel_rfl) (by kernel_rfl) (fun _ _ _ h => h) (Or.inr ⟨by rfl, rfl⟩) (by assumption) ?_
          try simp only [Act.put, List.setIfInBounds_toArray, List.set_cons_zero, List.set_cons_succ]
          refine wpAnyH_take (i := 21) (oi := ⟨some 42, _, _, _, _, _⟩) (v := undef) rfl (by kernel_rfl) (by kernel_rfl) (by kernel_rfl) (fun _ _ _ h => h) (Or.inr ⟨by rfl, rfl⟩) (by assumption) ?_
          try simp only [Act.put, List.setIfInBounds_toArray, List.set_cons_zero, List.set_cons_succ]
          refine wpAnyH_take (i := 22) (oi := ⟨some 43, _, _, _, _, _⟩) (v := ?_) rfl (by kernel_rfl) (by kernel_rfl) (by kernel_rfl) (fun _ _ _ h => h) (Or.inl ⟨by rfl, ?_⟩) (by assumption) ?_
          rotate_left 1
          · (intro W hSw; go_simp <;> with_reducible rfl)
          try simp only [Act.put, List.setIfInBounds_toArray, List.set_cons_zero, List.set_cons_succ]
          refine wpAnyH_done (by kernel_rfl) ?_ _
          refine NoPanic.normal ?_
          go_wp2_with fail
          go_meet
          exact ⟨rfl, kk_1, b1_1, b2_1, b3_1, mq_1, hw0.trans (S1.under _ hw0.size (fun _ h => h.elim))⟩
        case rest =>
          clear kk b1 b2 b3 mq
          obtain ⟨rfl, kk, b1, b2, b3, mq, hwc⟩ := hcut
          obtain rfl : F = noA := eN
          replace e40 : ∀ W, (binOp BinOp.eql 40 (.agg noA.cs.toArray) (.agg #[.int .i64 0, .int .i64 0, .int .i64 0, .int .i64 0, .int .i64 0, .int .i64 0, .int .i64 0, .int .i64 0, .int .i64 0, .int .i64 0, .int .i64 0, .int .i64 0, .int .i64 0, .int .i64 0])).run Tryz.prog W = .ok (.bool true) W := e40
          go_wp2_with (((with_reducible refine at_load 40 (.tmp 9) ?_); refine wpList_load_row rfl 40 (.tmp 9) rfl p3 rfl 40 noA.cs.toArray (0, 0) _ b3 Tryz.underlying40 rfl size40 ?_))
          go_ret
          exact ⟨rfl, kk⟩
      by_cases c2 : (q.co.n : Int) ≤ t
      · have eN : F = noA := by rw [← eF]; unfold ofA; rw [if_neg (fun e => by have := e.2.2; omega)]
        have z1 : decide (t < 0) = false := decide_eq_false c1
        have z2 : decide ((q.co.n : Int) ≤ t) = true := decide_eq_true c2
        have HX := Lib.hid (And.intro eF (And.intro ev (And.intro hlen (And.intro c1 c2))))
        clear eF ev hlen c1 c2
        go_cut [43] (fun s43 wx => s43 = .bool true ∧ Below w.heap.size w wx ∧ Blk wx p1 24 q.cs.toArray ∧ Blk wx p2 33 y.cs.toArray ∧ Blk wx p3 40 F.cs.toArray ∧ MatX w.heap.size B1 wx q.co.A q.co.n q.co.cap XS ∧ Below W26.heap.size W26 wx)
        case first =>
          obtain ⟨wd, ed_⟩ : ∃ W, W26.drew = W := ⟨_, rfl⟩
          have hd : Below W26.heap.size W26 wd := by rw [← ed_]; exact (Below.refl _ _).drew
          replace b1 := b1.on hd
          replace b2 := b2.on hd
          replace b3 := b3.on hd
          replace kk := kk.trans (hd.mono kk.size)
          replace mq := mq.on hd
          clear hd
          have hw0 : Below W26.heap.size W26 wd := by rw [← ed_]; exact (Below.refl _ _).drew
          have kS0 : Kept (fun _ => False) W26 wd := kept_below _ hw0
          have kS : Kept (fun g => False) wd wd := Kept.refl _ _
          have tS : ∀ W, Kept (fun g => False) wd W → W.cell? ⟨p1, 3, none⟩ = some (.slice q.co.A q.co.n q.co.cap) := fun W hW => (b1.kept hW id).cell 3
          refine wp_region_noPanic ?_
          refine wp_region_held_drew (S := (fun W => Kept (fun g => False) wd W)) (by kernel_rfl) (by rw [ed_]; exact kS) (fun hHeld => ?_)
          rw [ed_] at hHeld ⊢
          refine wpAnyH_take (i := 0) (oi := ⟨some 21, _, _, _, _, _⟩) (v := .agg (List.toArray (q.cs))) rfl (by kernel_rfl) (by kernel_rfl) (by kernel_rfl) (fun _ _ _ h => h) (yieldsIf_load_mid (by rfl) 24 (.tmp 4) rfl p1 (0) rfl (q.cs) _ (fun W hW => range_part (b1.kept hW id) 0 q.cs rfl) Tryz.underlying24 rfl size24) (by assumption) ?_
          try simp only [Act.put, List.setIfInBounds_toArray, List.set_cons_zero, List.set_cons_succ]
          refine wpAnyH_ready (rs := [1]) (by kernel_rfl) (by simp) ?_
          refine AllReadyH.cons (o := ⟨some 22, _, _, _, _, _⟩) rfl (fun K hK => ?_) AllReadyH.nil
          go_simp
          refine (d8 wd mq).mono ?_
          rintro e w1 ⟨rfl, hb1⟩
          have b1_1 := b1.on hb1
          have b2_1 := b2.on hb1
          have b3_1 := b3.on hb1
          have kk_1 := kk.trans (hb1.mono kk.size)
          have mq_1 := mq.on hb1
          have S1 : (fun W => Kept (fun g => False) wd W) w1 := Kept.next kS (kept_below (fun _ => False) hb1) (fun _ h => h.elim)
          refine hK.out _ _ S1 (fun h1 => ?_)
          clear hHeld hK K
          try simp only [Act.put, List.setIfInBounds_toArray, List.set_cons_zero, List.set_cons_succ]
          refine wpAnyH_take (i := 2) (oi := ⟨some 23, _, _, _, _, _⟩) (v := ?_) rfl (by kernel_rfl) (by kernel_rfl) (by kernel_rfl) (fun _ _ _ h => h) (Or.inl ⟨by rfl, ?_⟩) (by assumption) ?_
          rotate_left 1
          · (intro W hSw; go_simp <;> with_reducible rfl)
          try simp only [Act.put, List.setIfInBounds_toArray, List.set_cons_zero, List.set_cons_succ]
          refine wpAnyH_take (i := 3) (oi := ⟨some 24, _, _, _, _, _⟩) (v := ?_) rfl (by kernel_rfl) (by kernel_rfl) (by kernel_rfl) (fun _ _ _ h => h) (Or.inl ⟨by rfl, ?_⟩) (by assumption) ?_
          rotate_left 1
          · (intro W hSw; go_simp <;> with_reducible rfl)
          try simp only [Act.put, List.setIfInBounds_toArray, List.set_cons_zero, List.set_cons_succ]
          refine wpAnyH_take (i := 4) (oi := ⟨some 25, _, _, _, _, _⟩) (v := ?_) rfl (by kernel_rfl) (by kernel_rfl) (by kernel_rfl) (fun _ _ _ h => h) (Or.inl ⟨by rfl, ?_⟩) (by assumption) ?_
          rotate_left 1
          · (intro W hSw; go_simp <;> with_reducible rfl)
          try simp only [Act.put, List.setIfInBounds_toArray, List.set_cons_zero, List.set_cons_succ]
          refine wpAnyH_take (i := 5) (oi := ⟨some 26, _, _, _, _, _⟩) (v := ?_) rfl (by kernel_rfl) (by kernel_rfl) (by kernel_rfl) (fun _ _ _ h => h) (Or.inl ⟨by rfl, ?_⟩) (by assumption) ?_
          rotate_left 1
          · (intro W hSw; go_simp <;> with_reducible rfl)
          try simp only [Act.put, List.setIfInBounds_toArray, List.set_cons_zero, List.set_cons_succ]
          refine wpAnyH_take (i := 6) (oi := ⟨some 27, _, _, _, _, _⟩) (v := ?_) rfl (by kernel_rfl) (by kernel_rfl) (by kernel_rfl) (fun _ _ _ h => h) (Or.inl ⟨by rfl, ?_⟩) (by assumption) ?_
          rotate_left 1
          · (intro W hSw; go_simp <;> with_reducible rfl)
          try simp only [Act.put, List.setIfInBounds_toArray, List.set_cons_zero, List.set_cons_succ]
          refine wpAnyH_take (i := 7) (oi := ⟨some 28, _, _, _, _, _⟩) (v := ?_) rfl (by kernel_rfl) (by kernel_rfl) (by kernel_rfl) (fun _ _ _ h => h) (Or.inl ⟨by rfl, ?_⟩) (by assumption) ?_
          rotate_left 1
          · (intro W hSw; go_simp <;> with_reducible rfl)
          try simp only [Act.put, List.setIfInBounds_toArray, List.set_cons_zero, List.set_cons_succ]
          refine wpAnyH_take (i := 8) (oi := ⟨some 29, _, _, _, _, _⟩) (v := ?_) rfl (by kernel_rfl) (by kernel_rfl) (by kernel_rfl) (fun _ _ _ h => h) (Or.inl ⟨by rfl, ?_⟩) (by assumption) ?_
          rotate_left 1
          · (intro W hSw; go_simp <;> with_reducible rfl)
          try simp only [Act.put, List.setIfInBounds_toArray, List.set_cons_zero, List.set_cons_succ]
          refine wpAnyH_take (i := 9) (oi := ⟨some 30, _, _, _, _, _⟩) (v := ?_) rfl (by kernel_rfl) (by kernel_rfl) (by kernel_rfl) (fun _ _ _ h => h) (Or.inl ⟨by rfl, ?_⟩) (by assumption) ?_
          rotate_left 1
          · (intro W hSw; go_simp <;> with_reducible rfl)
          try simp only [Act.put, List.setIfInBounds_toArray, List.set_cons_zero, List.set_cons_succ]
          refine wpAnyH_take (i := 10) (oi := ⟨some 31, _, _, _, _, _⟩) (v := ?_) rfl (by kernel_rfl) (by kernel_rfl) (by kernel_rfl) (fun _ _ _ h => h) (Or.inl ⟨by rfl, ?_⟩) (by assumption) ?_
          rotate_left 1
          · (intro W hSw; obtain q0 := tS W hSw; go_simp <;> with_reducible rfl)
          try simp only [Act.put, List.setIfInBounds_toArray, List.set_cons_zero, List.set_cons_succ]
          refine wpAnyH_take (i := 11) (oi := ⟨some 32, _, _, _, _, _⟩) (v := ?_) rfl (by kernel_rfl) (by kernel_rfl) (by kernel_rfl) (fun _ _ _ h => h) (Or.inl ⟨by rfl, ?_⟩) (by assumption) ?_
          rotate_left 1
          · (intro W hSw; go_simp <;> with_reducible rfl)
          try simp only [Act.put, List.setIfInBounds_toArray, List.set_cons_zero, List.set_cons_succ]
          refine wpAnyH_take (i := 12) (oi := ⟨some 33, _, _, _, _, _⟩) (v := ?_) rfl (by kernel_rfl) (by kernel_rfl) (by kernel_rfl) (fun _ _ _ h => h) (Or.inl ⟨by rfl, ?_⟩) (by assumption) ?_
          rotate_left 1
          · (intro W hSw; go_simp <;> with_reducible rfl)
          try simp only [Act.put, List.setIfInBounds_toArray, List.set_cons_zero, List.set_cons_succ]
          refine wpAnyH_take (i := 13) (oi := ⟨some 34, _, _, _, _, _⟩) (v := ?_) rfl (by kernel_rfl) (by kernel_rfl) (by kernel_rfl) (fun _ _ _ h => h) (Or.inl ⟨by rfl, ?_⟩) (by assumption) ?_
          rotate_left 1
          · (intro W hSw; go_simp <;> with_reducible rfl)
          try simp only [Act.put, List.setIfInBounds_toArray, List.set_cons_zero, List.set_cons_succ]
          refine wpAnyH_take (i := 14) (oi := ⟨some 35, _, _, _, _, _⟩) (v := ?_) rfl (by kernel_rfl) (by kernel_rfl) (by kernel_rfl) (fun _ _ _ h => h) (Or.inl ⟨by rfl, ?_⟩) (by assumption) ?_
          rotate_left 1
          · (intro W hSw; go_simp <;> with_reducible rfl)
          try simp only [Act.put, List.setIfInBounds_toArray, List.set_cons_zero, List.set_cons_succ]
          refine wpAnyH_take (i := 15) (oi := ⟨some 36, _, _, _, _, _⟩) (v := undef) rfl (by kernel_rfl) (by kernel_rfl) (by kernel_rfl) (fun _ _ _ h => h) (Or.inr ⟨by rfl, rfl⟩) (by assumption) ?_
          try simp only [Act.put, List.setIfInBounds_toArray, List.set_cons_zero, List.set_cons_succ]
          refine wpAnyH_take (i := 16) (oi := ⟨some 37, _, _, _, _, _⟩) (v := undef) rfl (by kernel_rfl) (by kernel_rfl) (by kernel_rfl) (fun _ _ _ h => h) (Or.inr ⟨by rfl, rfl⟩) (by assumption) ?_
          try simp only [Act.put, List.setIfInBounds_toArray, List.set_cons_zero, List.set_cons_succ]
          refine wpAnyH_take (i := 17) (oi := ⟨some 38, _, _, _, _, _⟩) (v := undef) rfl (by kernel_rfl) (by kernel_rfl) (by kernel_rfl) (fun _ _ _ h => h) (Or.inr ⟨by rfl, rfl⟩) (by assumption) ?_
          try simp only [Act.put, List.setIfInBounds_toArray, List.set_cons_zero, List.set_cons_succ]
          refine wpAnyH_take (i := 18) (oi := ⟨some 39, _, _, _, _, _⟩) (v := undef) rfl (by kernel_rfl) (by kernel_rfl) (by kernel_rfl) (fun _ _ _ h => h) (Or.inr ⟨by rfl, rfl⟩) (by assumption) ?_
          try simp only [Act.put, List.setIfInBounds_toArray, List.set_cons_zero, List.set_cons_succ]
          refine wpAnyH_take (i := 19) (oi := ⟨some 40, _, _, _, _, _⟩) (v := undef) rfl (by kernel_rfl) (by kernel_rfl) (by kernel_rfl) (fun _ _ _ h => h) (Or.inr ⟨by rfl, rfl⟩) (by assumption) ?_
          try simp only [Act.put, List.setIfInBounds_toArray, List.set_cons_zero, List.set_cons_succ]
          refine wpAnyH_take (i := 20) (oi := ⟨some 41, _, _, _, _, _⟩) (v := undef) rfl (by kernel_rfl) (by kernel_rfl) (by kernel_rfl) (fun _ _ _ h => h) (Or.inr ⟨by rfl, rfl⟩) (by assumption) ?_
          try simp only [Act.put, List.setIfInBounds_toArray, List.set_cons_zero, List.set_cons_succ]
          refine wpAnyH_take (i := 21) (oi := ⟨some 42, _, _, _, _, _⟩) (v := undef) rfl (by kernel_rfl) (by kernel_rfl) (by kernel_rfl) (fun _ _ _ h => h) (Or.inr ⟨by rfl, rfl⟩) (by assumption) ?_
          try simp only [Act.put, List.setIfInBounds_toArray, List.set_cons_zero, List.set_cons_succ]
          refine wpAnyH_take (i := 22) (oi := ⟨some 43, _, _, _, _, _⟩) (v := ?_) rfl (by kernel_rfl) (by kernel_rfl) (by kernel_rfl) (fun _ _ _ h => h) (Or.inl ⟨by rfl, ?_⟩) (by assumption) ?_
          rotate_left 1
          · (intro W hSw; go_simp <;> with_reducible rfl)
          try simp only [Act.put, List.setIfInBounds_toArray, List.set_cons_zero, List.set_cons_succ]
          refine wpAnyH_done (by kernel_rfl) ?_ _
          refine NoPanic.normal ?_
          go_wp2_with fail
          go_meet
          exact ⟨rfl, kk_1, b1_1, b2_1, b3_1, mq_1, hw0.trans (S1.under _ hw0.size (fun _ h => h.elim))⟩
        case rest =>
          clear kk b1 b2 b3 mq
          obtain ⟨rfl, kk, b1, b2, b3, mq, hwc⟩ := hcut
          obtain rfl : F = noA := eN
          replace e40 : ∀ W, (binOp BinOp.eql 40 (.agg noA.cs.toArray) (.agg #[.int .i64 0, .int .i64 0, .int .i64 0, .int .i64 0, .int .i64 0, .int .i64 0, .int .i64 0, .int .i64 0, .int .i64 0, .int .i64 0, .int .i64 0, .int .i64 0, .int .i64 0, .int .i64 0])).run Tryz.prog W = .ok (.bool true) W := e40
          go_wp2_with (((with_reducible refine at_load 40 (.tmp 9) ?_); refine wpList_load_row rfl 40 (.tmp 9) rfl p3 rfl 40 noA.cs.toArray (0, 0) _ b3 Tryz.underlying40 rfl size40 ?_))
          go_ret
          exact ⟨rfl, kk⟩
      obtain ⟨kt, rfl⟩ : ∃ kt : Nat, t = (kt : Int) := ⟨t.toNat, by omega⟩
      have hk : kt < q.co.n := by omega
      obtain ⟨g, off, A1, n1, c1_, xs, eA, hg, hx, hcell, hl⟩ := mq.mat.at_ kt hk
      have hxs : XS.getD ((kt : Int)).toNat [] = xs := by rw [Int.toNat_natCast, List.getD, hx]; rfl
      have hln : xs.length = n1 := hl.len
      have hse := lst_sees hl
      have hs2 : 0 ≤ q.s ∧ q.s ≤ 2 := (chk_good ev).1
      have eO : F = (if doneB y n1 = true then noA else if y.k = 0 then actI (kt : Int) y ((codeL xs).getD y.pc.toNat noI) own else micA q (kt : Int) y.mi) := by rw [← eF]; unfold ofA; rw [if_pos ⟨ev, by omega, by omega⟩, hxs, hln]
      have z1 : decide ((kt : Int) < 0) = false := decide_eq_false c1
      have z2 : decide ((q.co.n : Int) ≤ (kt : Int)) = false := decide_eq_false c2
      have z2n : decide (q.co.n ≤ kt) = false := decide_eq_false (by omega)
      have i0 : (0 : Int) ≤ (kt : Int) := by omega
      have i1 : (kt : Int) < (q.co.n : Int) := by omega
      have HX := Lib.hid (And.intro eF (And.intro ev hlen))
      clear eF ev hlen hxs hx c1 c2
      have d9 := rdone_any y A1 n1 c1_
      have cc : W26.cell? ⟨g, off + kt, none⟩ = some (.slice A1 n1 c1_) := hcell
      cases ed : doneB y n1 with
      | true =>
        rw [ed] at d9 eO
        rw [if_pos rfl] at eO
        have HEO := Lib.hid eO
        clear eO
        go_cut [43] (fun s43 wx => s43 = .bool true ∧ Below w.heap.size w wx ∧ Blk wx p1 24 q.cs.toArray ∧ Blk wx p2 33 y.cs.toArray ∧ Blk wx p3 40 F.cs.toArray ∧ MatX w.heap.size B1 wx q.co.A q.co.n q.co.cap XS ∧ Below W26.heap.size W26 wx)
        case first =>
          obtain ⟨wd, ed_⟩ : ∃ W, W26.drew = W := ⟨_, rfl⟩
          have hd : Below W26.heap.size W26 wd := by rw [← ed_]; exact (Below.refl _ _).drew
          replace b1 := b1.on hd
          replace b2 := b2.on hd
          replace b3 := b3.on hd
          replace kk := kk.trans (hd.mono kk.size)
          replace mq := mq.on hd
          clear hd
          have hw0 : Below W26.heap.size W26 wd := by rw [← ed_]; exact (Below.refl _ _).drew
          have kS0 : Kept (fun _ => False) W26 wd := kept_below _ hw0
          have kS : Kept (fun g => False) wd wd := Kept.refl _ _
          have tS : ∀ W, Kept (fun g => False) wd W → W.cell? ⟨p1, 3, none⟩ = some (.slice (some ⟨g, off, none⟩) q.co.n q.co.cap) ∧ W.cell? ⟨g, off + kt, none⟩ = some (.slice A1 n1 c1_) := fun W hW => ⟨(by rw [← eA]; exact (b1.kept hW id).cell 3), cell_keptF (cell_keptF cc kS0) hW⟩
          refine wp_region_noPanic ?_
          refine wp_region_held_drew (S := (fun W => Kept (fun g => False) wd W)) (by kernel_rfl) (by rw [ed_]; exact kS) (fun hHeld => ?_)
          rw [ed_] at hHeld ⊢
          refine wpAnyH_take (i := 0) (oi := ⟨some 21, _, _, _, _, _⟩) (v := .agg (List.toArray (q.cs))) rfl (by kernel_rfl) (by kernel_rfl) (by kernel_rfl) (fun _ _ _ h => h) (yieldsIf_load_mid (by rfl) 24 (.tmp 4) rfl p1 (0) rfl (q.cs) _ (fun W hW => range_part (b1.kept hW id) 0 q.cs rfl) Tryz.underlying24 rfl size24) (by assumption) ?_
          try simp only [Act.put, List.setIfInBounds_toArray, List.set_cons_zero, List.set_cons_succ]
          refine wpAnyH_ready (rs := [1]) (by kernel_rfl) (by simp) ?_
          refine AllReadyH.cons (o := ⟨some 22, _, _, _, _, _⟩) rfl (fun K hK => ?_) AllReadyH.nil
          go_simp
          refine (d8 wd mq).mono ?_
          rintro e w1 ⟨rfl, hb1⟩
          have b1_1 := b1.on hb1
          have b2_1 := b2.on hb1
          have b3_1 := b3.on hb1
          have kk_1 := kk.trans (hb1.mono kk.size)
          have mq_1 := mq.on hb1
          have S1 : (fun W => Kept (fun g => False) wd W) w1 := Kept.next kS (kept_below (fun _ => False) hb1) (fun _ h => h.elim)
          refine hK.out _ _ S1 (fun h1 => ?_)
          clear hHeld hK K
          try simp only [Act.put, List.setIfInBounds_toArray, List.set_cons_zero, List.set_cons_succ]
          refine wpAnyH_take (i := 2) (oi := ⟨some 23, _, _, _, _, _⟩) (v := ?_) rfl (by kernel_rfl) (by kernel_rfl) (by kernel_rfl) (fun _ _ _ h => h) (Or.inl ⟨by rfl, ?_⟩) (by assumption) ?_
          rotate_left 1
          · (intro W hSw; go_simp <;> with_reducible rfl)
          try simp only [Act.put, List.setIfInBounds_toArray, List.set_cons_zero, List.set_cons_succ]
          refine wpAnyH_take (i := 3) (oi := ⟨some 24, _, _, _, _, _⟩) (v := ?_) rfl (by kernel_rfl) (by kernel_rfl) (by kernel_rfl) (fun _ _ _ h => h) (Or.inl ⟨by rfl, ?_⟩) (by assumption) ?_
          rotate_left 1
          · (intro W hSw; go_simp <;> with_reducible rfl)
          try simp only [Act.put, List.setIfInBounds_toArray, List.set_cons_zero, List.set_cons_succ]
          refine wpAnyH_take (i := 4) (oi := ⟨some 25, _, _, _, _, _⟩) (v := ?_) rfl (by kernel_rfl) (by kernel_rfl) (by kernel_rfl) (fun _ _ _ h => h) (Or.inl ⟨by rfl, ?_⟩) (by assumption) ?_
          rotate_left 1
          · (intro W hSw; go_simp <;> with_reducible rfl)
          try simp only [Act.put, List.setIfInBounds_toArray, List.set_cons_zero, List.set_cons_succ]
          refine wpAnyH_take (i := 5) (oi := ⟨some 26, _, _, _, _, _⟩) (v := ?_) rfl (by kernel_rfl) (by kernel_rfl) (by kernel_rfl) (fun _ _ _ h => h) (Or.inl ⟨by rfl, ?_⟩) (by assumption) ?_
          rotate_left 1
          · (intro W hSw; go_simp <;> with_reducible rfl)
          try simp only [Act.put, List.setIfInBounds_toArray, List.set_cons_zero, List.set_cons_succ]
          refine wpAnyH_take (i := 6) (oi := ⟨some 27, _, _, _, _, _⟩) (v := ?_) rfl (by kernel_rfl) (by kernel_rfl) (by kernel_rfl) (fun _ _ _ h => h) (Or.inl ⟨by rfl, ?_⟩) (by assumption) ?_
          rotate_left 1
          · (intro W hSw; go_simp <;> with_reducible rfl)
          try simp only [Act.put, List.setIfInBounds_toArray, List.set_cons_zero, List.set_cons_succ]
          refine wpAnyH_take (i := 7) (oi := ⟨some 28, _, _, _, _, _⟩) (v := ?_) rfl (by kernel_rfl) (by kernel_rfl) (by kernel_rfl) (fun _ _ _ h => h) (Or.inl ⟨by rfl, ?_⟩) (by assumption) ?_
          rotate_left 1
          · (intro W hSw; go_simp <;> with_reducible rfl)
          try simp only [Act.put, List.setIfInBounds_toArray, List.set_cons_zero, List.set_cons_succ]
          refine wpAnyH_take (i := 8) (oi := ⟨some 29, _, _, _, _, _⟩) (v := ?_) rfl (by kernel_rfl) (by kernel_rfl) (by kernel_rfl) (fun _ _ _ h => h) (Or.inl ⟨by rfl, ?_⟩) (by assumption) ?_
          rotate_left 1
          · (intro W hSw; go_simp <;> with_reducible rfl)
          try simp only [Act.put, List.setIfInBounds_toArray, List.set_cons_zero, List.set_cons_succ]
          refine wpAnyH_take (i := 9) (oi := ⟨some 30, _, _, _, _, _⟩) (v := ?_) rfl (by kernel_rfl) (by kernel_rfl) (by kernel_rfl) (fun _ _ _ h => h) (Or.inl ⟨by rfl, ?_⟩) (by assumption) ?_
          rotate_left 1
          · (intro W hSw; go_simp <;> with_reducible rfl)
          try simp only [Act.put, List.setIfInBounds_toArray, List.set_cons_zero, List.set_cons_succ]
          refine wpAnyH_take (i := 10) (oi := ⟨some 31, _, _, _, _, _⟩) (v := ?_) rfl (by kernel_rfl) (by kernel_rfl) (by kernel_rfl) (fun _ _ _ h => h) (Or.inl ⟨by rfl, ?_⟩) (by assumption) ?_
          rotate_left 1
          · (intro W hSw; obtain ⟨q0, q1⟩ := tS W hSw; go_simp <;> with_reducible rfl)
          try simp only [Act.put, List.setIfInBounds_toArray, List.set_cons_zero, List.set_cons_succ]
          refine wpAnyH_take (i := 11) (oi := ⟨some 32, _, _, _, _, _⟩) (v := ?_) rfl (by kernel_rfl) (by kernel_rfl) (by kernel_rfl) (fun _ _ _ h => h) (Or.inl ⟨by rfl, ?_⟩) (by assumption) ?_
          rotate_left 1
          · (intro W hSw; go_simp <;> with_reducible rfl)
          try simp only [Act.put, List.setIfInBounds_toArray, List.set_cons_zero, List.set_cons_succ]
          refine wpAnyH_take (i := 12) (oi := ⟨some 33, _, _, _, _, _⟩) (v := ?_) rfl (by kernel_rfl) (by kernel_rfl) (by kernel_rfl) (fun _ _ _ h => h) (Or.inl ⟨by rfl, ?_⟩) (by assumption) ?_
          rotate_left 1
          · (intro W hSw; go_simp <;> with_reducible rfl)
          try simp only [Act.put, List.setIfInBounds_toArray, List.set_cons_zero, List.set_cons_succ]
          refine wpAnyH_take (i := 13) (oi := ⟨some 34, _, _, _, _, _⟩) (v := ?_) rfl (by kernel_rfl) (by kernel_rfl) (by kernel_rfl) (fun _ _ _ h => h) (Or.inl ⟨by rfl, ?_⟩) (by assumption) ?_
          rotate_left 1
          · (intro W hSw; go_simp <;> with_reducible rfl)
          try simp only [Act.put, List.setIfInBounds_toArray, List.set_cons_zero, List.set_cons_succ]
          refine wpAnyH_take (i := 14) (oi := ⟨some 35, _, _, _, _, _⟩) (v := ?_) rfl (by kernel_rfl) (by kernel_rfl) (by kernel_rfl) (fun _ _ _ h => h) (Or.inl ⟨by rfl, ?_⟩) (by assumption) ?_
          rotate_left 1
          · (intro W hSw; go_simp <;> with_reducible rfl)
          try simp only [Act.put, List.setIfInBounds_toArray, List.set_cons_zero, List.set_cons_succ]
          refine wpAnyH_take (i := 15) (oi := ⟨some 36, _, _, _, _, _⟩) (v := .agg (List.toArray (y.cs))) rfl (by kernel_rfl) (by kernel_rfl) (by kernel_rfl) (fun _ _ _ h => h) (yieldsIf_load_mid (by rfl) 33 (.tmp 6) rfl p2 (0) rfl (y.cs) _ (fun W hW => range_part (b2.kept hW id) 0 y.cs rfl) Tryz.underlying33 rfl (sizeT _)) (by assumption) ?_
          try simp only [Act.put, List.setIfInBounds_toArray, List.set_cons_zero, List.set_cons_succ]
          refine wpAnyH_take (i := 16) (oi := ⟨some 37, _, _, _, _, _⟩) (v := ?_) rfl (by kernel_rfl) (by kernel_rfl) (by kernel_rfl) (fun _ _ _ h => h) (Or.inl ⟨by rfl, ?_⟩) (by assumption) ?_
          rotate_left 1
          · (intro W hSw; go_simp <;> with_reducible rfl)
          try simp only [Act.put, List.setIfInBounds_toArray, List.set_cons_zero, List.set_cons_succ]
          refine wpAnyH_take (i := 17) (oi := ⟨some 38, _, _, _, _, _⟩) (v := ?_) rfl (by kernel_rfl) (by kernel_rfl) (by kernel_rfl) (fun _ _ _ h => h) (Or.inl ⟨by rfl, ?_⟩) (by assumption) ?_
          rotate_left 1
          · (intro W hSw; obtain ⟨q0, q1⟩ := tS W hSw; go_simp <;> with_reducible rfl)
          try simp only [Act.put, List.setIfInBounds_toArray, List.set_cons_zero, List.set_cons_succ]
          refine wpAnyH_take (i := 18) (oi := ⟨some 39, _, _, _, _, _⟩) (v := ?_) rfl (by kernel_rfl) (by kernel_rfl) (by kernel_rfl) (fun _ _ _ h => h) (Or.inl ⟨by rfl, ?_⟩) (by assumption) ?_
          rotate_left 1
          · (intro W hSw; go_simp <;> with_reducible rfl)
          try simp only [Act.put, List.setIfInBounds_toArray, List.set_cons_zero, List.set_cons_succ]
          refine wpAnyH_take (i := 19) (oi := ⟨some 40, _, _, _, _, _⟩) (v := ?_) rfl (by kernel_rfl) (by kernel_rfl) (by kernel_rfl) (fun _ _ _ h => h) (Or.inl ⟨by rfl, ?_⟩) (by assumption) ?_
          rotate_left 1
          · (intro W hSw; go_simp <;> with_reducible rfl)
          try simp only [Act.put, List.setIfInBounds_toArray, List.set_cons_zero, List.set_cons_succ]
          refine wpAnyH_take (i := 20) (oi := ⟨some 41, _, _, _, _, _⟩) (v := ?_) rfl (by kernel_rfl) (by kernel_rfl) (by kernel_rfl) (fun _ _ _ h => h) (Or.inl ⟨by rfl, ?_⟩) (by assumption) ?_
          rotate_left 1
          · (intro W hSw; obtain ⟨q0, q1⟩ := tS W hSw; go_simp <;> with_reducible rfl)
          try simp only [Act.put, List.setIfInBounds_toArray, List.set_cons_zero, List.set_cons_succ]
          refine wpAnyH_ready (rs := [21]) (by kernel_rfl) (by simp) ?_
          refine AllReadyH.cons (o := ⟨some 42, _, _, _, _, _⟩) rfl (fun K hK => ?_) AllReadyH.nil
          go_simp
          refine (d9 w1).mono ?_
          rintro e w2 ⟨rfl, hb2⟩
          have b1_2 := b1_1.on hb2
          have b2_2 := b2_1.on hb2
          have b3_2 := b3_1.on hb2
          have kk_2 := kk_1.trans (hb2.mono kk_1.size)
          have mq_2 := mq_1.on hb2
          have S2 : (fun W => Kept (fun g => False) wd W) w2 := Kept.next S1 (kept_below (fun _ => False) hb2) (fun _ h => h.elim)
          refine hK.out _ _ S2 (fun h2 => ?_)
          clear h1 hK K
          try simp only [Act.put, List.setIfInBounds_toArray, List.set_cons_zero, List.set_cons_succ]
          refine wpAnyH_take (i := 22) (oi := ⟨some 43, _, _, _, _, _⟩) (v := ?_) rfl (by kernel_rfl) (by kernel_rfl) (by kernel_rfl) (fun _ _ _ h => h) (Or.inl ⟨by rfl, ?_⟩) (by assumption) ?_
          rotate_left 1
          · (intro W hSw; go_simp <;> with_reducible rfl)
          try simp only [Act.put, List.setIfInBounds_toArray, List.set_cons_zero, List.set_cons_succ]
          refine wpAnyH_done (by kernel_rfl) ?_ _
          refine NoPanic.normal ?_
          go_wp2_with fail
          go_meet
          exact ⟨rfl, kk_2, b1_2, b2_2, b3_2, mq_2, hw0.trans (S2.under _ hw0.size (fun _ h => h.elim))⟩
        case rest =>
          clear kk b1 b2 b3 mq
          obtain ⟨rfl, kk, b1, b2, b3, mq, hwc⟩ := hcut
          obtain rfl : F = noA := HEO.out
          replace e40 : ∀ W, (binOp BinOp.eql 40 (.agg noA.cs.toArray) (.agg #[.int .i64 0, .int .i64 0, .int .i64 0, .int .i64 0, .int .i64 0, .int .i64 0, .int .i64 0, .int .i64 0, .int .i64 0, .int .i64 0, .int .i64 0, .int .i64 0, .int .i64 0, .int .i64 0])).run Tryz.prog W = .ok (.bool true) W := e40
          go_wp2_with (((with_reducible refine at_load 40 (.tmp 9) ?_); refine wpList_load_row rfl 40 (.tmp 9) rfl p3 rfl 40 noA.cs.toArray (0, 0) _ b3 Tryz.underlying40 rfl size40 ?_))
          go_ret
          exact ⟨rfl, kk⟩
      | false =>
        rw [ed] at d9 eO
        rw [if_neg (by decide)] at eO
        have HEO := Lib.hid eO
        clear eO
        go_cut [43] (fun s43 wx => s43 = .bool false ∧ Below w.heap.size w wx ∧ Blk wx p1 24 q.cs.toArray ∧ Blk wx p2 33 y.cs.toArray ∧ Blk wx p3 40 F.cs.toArray ∧ MatX w.heap.size B1 wx q.co.A q.co.n q.co.cap XS ∧ Below W26.heap.size W26 wx)
        case first =>
          obtain ⟨wd, ed_⟩ : ∃ W, W26.drew = W := ⟨_, rfl⟩
          have hd : Below W26.heap.size W26 wd := by rw [← ed_]; exact (Below.refl _ _).drew
          replace b1 := b1.on hd
          replace b2 := b2.on hd
          replace b3 := b3.on hd
          replace kk := kk.trans (hd.mono kk.size)
          replace mq := mq.on hd
          clear hd
          have hw0 : Below W26.heap.size W26 wd := by rw [← ed_]; exact (Below.refl _ _).drew
          have kS0 : Kept (fun _ => False) W26 wd := kept_below _ hw0
          have kS : Kept (fun g => False) wd wd := Kept.refl _ _
          have tS : ∀ W, Kept (fun g => False) wd W → W.cell? ⟨p1, 3, none⟩ = some (.slice (some ⟨g, off, none⟩) q.co.n q.co.cap) ∧ W.cell? ⟨g, off + kt, none⟩ = some (.slice A1 n1 c1_) := fun W hW => ⟨(by rw [← eA]; exact (b1.kept hW id).cell 3), cell_keptF (cell_keptF cc kS0) hW⟩
          refine wp_region_noPanic ?_
          refine wp_region_held_drew (S := (fun W => Kept (fun g => False) wd W)) (by kernel_rfl) (by rw [ed_]; exact kS) (fun hHeld => ?_)
          rw [ed_] at hHeld ⊢
          refine wpAnyH_take (i := 0) (oi := ⟨some 21, _, _, _, _, _⟩) (v := .agg (List.toArray (q.cs))) rfl (by kernel_rfl) (by kernel_rfl) (by kernel_rfl) (fun _ _ _ h => h) (yieldsIf_load_mid (by rfl) 24 (.tmp 4) rfl p1 (0) rfl (q.cs) _ (fun W hW => range_part (b1.kept hW id) 0 q.cs rfl) Tryz.underlying24 rfl size24) (by assumption) ?_
          try simp only [Act.put, List.setIfInBounds_toArray, List.set_cons_zero, List.set_cons_succ]
          refine wpAnyH_ready (rs := [1]) (by kernel_rfl) (by simp) ?_
          refine AllReadyH.cons (o := ⟨some 22, _, _, _, _, _⟩) rfl (fun K hK => ?_) AllReadyH.nil
          go_simp
          refine (d8 wd mq).mono ?_
          rintro e w1 ⟨rfl, hb1⟩
          have b1_1 := b1.on hb1
          have b2_1 := b2.on hb1
          have b3_1 := b3.on hb1
          have kk_1 := kk.trans (hb1.mono kk.size)
          have mq_1 := mq.on hb1
          have S1 : (fun W => Kept (fun g => False) wd W) w1 := Kept.next kS (kept_below (fun _ => False) hb1) (fun _ h => h.elim)
          refine hK.out _ _ S1 (fun h1 => ?_)
          clear hHeld hK K
          try simp only [Act.put, List.setIfInBounds_toArray, List.set_cons_zero, List.set_cons_succ]
          refine wpAnyH_take (i := 2) (oi := ⟨some 23, _, _, _, _, _⟩) (v := ?_) rfl (by kernel_rfl) (by kernel_rfl) (by kernel_rfl) (fun _ _ _ h => h) (Or.inl ⟨by rfl, ?_⟩) (by assumption) ?_
          rotate_left 1
          · (intro W hSw; go_simp <;> with_reducible rfl)
          try simp only [Act.put, List.setIfInBounds_toArray, List.set_cons_zero, List.set_cons_succ]
          refine wpAnyH_take (i := 3) (oi := ⟨some 24, _, _, _, _, _⟩) (v := ?_) rfl (by kernel_rfl) (by kernel_rfl) (by kernel_rfl) (fun _ _ _ h => h) (Or.inl ⟨by rfl, ?_⟩) (by assumption) ?_
          rotate_left 1
          · (intro W hSw; go_simp <;> with_reducible rfl)
          try simp only [Act.put, List.setIfInBounds_toArray, List.set_cons_zero, List.set_cons_succ]
          refine wpAnyH_take (i := 4) (oi := ⟨some 25, _, _, _, _, _⟩) (v := ?_) rfl (by kernel_rfl) (by kernel_rfl) (by kernel_rfl) (fun _ _ _ h => h) (Or.inl ⟨by rfl, ?_⟩) (by assumption) ?_
          rotate_left 1
          · (intro W hSw; go_simp <;> with_reducible rfl)
          try simp only [Act.put, List.setIfInBounds_toArray, List.set_cons_zero, List.set_cons_succ]
          refine wpAnyH_take (i := 5) (oi := ⟨some 26, _, _, _, _, _⟩) (v := ?_) rfl (by kernel_rfl) (by kernel_rfl) (by kernel_rfl) (fun _ _ _ h => h) (Or.inl ⟨by rfl, ?_⟩) (by assumption) ?_
          rotate_left 1
          · (intro W hSw; go_simp <;> with_reducible rfl)
          try simp only [Act.put, List.setIfInBounds_toArray, List.set_cons_zero, List.set_cons_succ]
          refine wpAnyH_take (i := 6) (oi := ⟨some 27, _, _, _, _, _⟩) (v := ?_) rfl (by kernel_rfl) (by kernel_rfl) (by kernel_rfl) (fun _ _ _ h => h) (Or.inl ⟨by rfl, ?_⟩) (by assumption) ?_
          rotate_left 1
          · (intro W hSw; go_simp <;> with_reducible rfl)
          try simp only [Act.put, List.setIfInBounds_toArray, List.set_cons_zero, List.set_cons_succ]
          refine wpAnyH_take (i := 7) (oi := ⟨some 28, _, _, _, _, _⟩) (v := ?_) rfl (by kernel_rfl) (by kernel_rfl) (by kernel_rfl) (fun _ _ _ h => h) (Or.inl ⟨by rfl, ?_⟩) (by assumption) ?_
          rotate_left 1
          · (intro W hSw; go_simp <;> with_reducible rfl)
          try simp only [Act.put, List.setIfInBounds_toArray, List.set_cons_zero, List.set_cons_succ]
          refine wpAnyH_take (i := 8) (oi := ⟨some 29, _, _, _, _, _⟩) (v := ?_) rfl (by kernel_rfl) (by kernel_rfl) (by kernel_rfl) (fun _ _ _ h => h) (Or.inl ⟨by rfl, ?_⟩) (by assumption) ?_
          rotate_left 1
          · (intro W hSw; go_simp <;> with_reducible rfl)
          try simp only [Act.put, List.setIfInBounds_toArray, List.set_cons_zero, List.set_cons_succ]
          refine wpAnyH_take (i := 9) (oi := ⟨some 30, _, _, _, _, _⟩) (v := ?_) rfl (by kernel_rfl) (by kernel_rfl) (by kernel_rfl) (fun _ _ _ h => h) (Or.inl ⟨by rfl, ?_⟩) (by assumption) ?_
          rotate_left 1
          · (intro W hSw; go_simp <;> with_reducible rfl)
          try simp only [Act.put, List.setIfInBounds_toArray, List.set_cons_zero, List.set_cons_succ]
          refine wpAnyH_take (i := 10) (oi := ⟨some 31, _, _, _, _, _⟩) (v := ?_) rfl (by kernel_rfl) (by kernel_rfl) (by kernel_rfl) (fun _ _ _ h => h) (Or.inl ⟨by rfl, ?_⟩) (by assumption) ?_
          rotate_left 1
          · (intro W hSw; obtain ⟨q0, q1⟩ := tS W hSw; go_simp <;> with_reducible rfl)
          try simp only [Act.put, List.setIfInBounds_toArray, List.set_cons_zero, List.set_cons_succ]
          refine wpAnyH_take (i := 11) (oi := ⟨some 32, _, _, _, _, _⟩) (v := ?_) rfl (by kernel_rfl) (by kernel_rfl) (by kernel_rfl) (fun _ _ _ h => h) (Or.inl ⟨by rfl, ?_⟩) (by assumption) ?_
          rotate_left 1
          · (intro W hSw; go_simp <;> with_reducible rfl)
          try simp only [Act.put, List.setIfInBounds_toArray, List.set_cons_zero, List.set_cons_succ]
          refine wpAnyH_take (i := 12) (oi := ⟨some 33, _, _, _, _, _⟩) (v := ?_) rfl (by kernel_rfl) (by kernel_rfl) (by kernel_rfl) (fun _ _ _ h => h) (Or.inl ⟨by rfl, ?_⟩) (by assumption) ?_
          rotate_left 1
          · (intro W hSw; go_simp <;> with_reducible rfl)
          try simp only [Act.put, List.setIfInBounds_toArray, List.set_cons_zero, List.set_cons_succ]
          refine wpAnyH_take (i := 13) (oi := ⟨some 34, _, _, _, _, _⟩) (v := ?_) rfl (by kernel_rfl) (by kernel_rfl) (by kernel_rfl) (fun _ _ _ h => h) (Or.inl ⟨by rfl, ?_⟩) (by assumption) ?_
          rotate_left 1
          · (intro W hSw; go_simp <;> with_reducible rfl)
          try simp only [Act.put, List.setIfInBounds_toArray, List.set_cons_zero, List.set_cons_succ]
          refine wpAnyH_take (i := 14) (oi := ⟨some 35, _, _, _, _, _⟩) (v := ?_) rfl (by kernel_rfl) (by kernel_rfl) (by kernel_rfl) (fun _ _ _ h => h) (Or.inl ⟨by rfl, ?_⟩) (by assumption) ?_
          rotate_left 1
          · (intro W hSw; go_simp <;> with_reducible rfl)
          try simp only [Act.put, List.setIfInBounds_toArray, List.set_cons_zero, List.set_cons_succ]
          refine wpAnyH_take (i := 15) (oi := ⟨some 36, _, _, _, _, _⟩) (v := .agg (List.toArray (y.cs))) rfl (by kernel_rfl) (by kernel_rfl) (by kernel_rfl) (fun _ _ _ h => h) (yieldsIf_load_mid (by rfl) 33 (.tmp 6) rfl p2 (0) rfl (y.cs) _ (fun W hW => range_part (b2.kept hW id) 0 y.cs rfl) Tryz.underlying33 rfl (sizeT _)) (by assumption) ?_
          try simp only [Act.put, List.setIfInBounds_toArray, List.set_cons_zero, List.set_cons_succ]
          refine wpAnyH_take (i := 16) (oi := ⟨some 37, _, _, _, _, _⟩) (v := ?_) rfl (by kernel_rfl) (by kernel_rfl) (by kernel_rfl) (fun _ _ _ h => h) (Or.inl ⟨by rfl, ?_⟩) (by assumption) ?_
          rotate_left 1
          · (intro W hSw; go_simp <;> with_reducible rfl)
          try simp only [Act.put, List.setIfInBounds_toArray, List.set_cons_zero, List.set_cons_succ]
          refine wpAnyH_take (i := 17) (oi := ⟨some 38, _, _, _, _, _⟩) (v := ?_) rfl (by kernel_rfl) (by kernel_rfl) (by kernel_rfl) (fun _ _ _ h => h) (Or.inl ⟨by rfl, ?_⟩) (by assumption) ?_
          rotate_left 1
          · (intro W hSw; obtain ⟨q0, q1⟩ := tS W hSw; go_simp <;> with_reducible rfl)
          try simp only [Act.put, List.setIfInBounds_toArray, List.set_cons_zero, List.set_cons_succ]
          refine wpAnyH_take (i := 18) (oi := ⟨some 39, _, _, _, _, _⟩) (v := ?_) rfl (by kernel_rfl) (by kernel_rfl) (by kernel_rfl) (fun _ _ _ h => h) (Or.inl ⟨by rfl, ?_⟩) (by assumption) ?_
          rotate_left 1
          · (intro W hSw; go_simp <;> with_reducible rfl)
          try simp only [Act.put, List.setIfInBounds_toArray, List.set_cons_zero, List.set_cons_succ]
          refine wpAnyH_take (i := 19) (oi := ⟨some 40, _, _, _, _, _⟩) (v := ?_) rfl (by kernel_rfl) (by kernel_rfl) (by kernel_rfl) (fun _ _ _ h => h) (Or.inl ⟨by rfl, ?_⟩) (by assumption) ?_
          rotate_left 1
          · (intro W hSw; go_simp <;> with_reducible rfl)
          try simp only [Act.put, List.setIfInBounds_toArray, List.set_cons_zero, List.set_cons_succ]
          refine wpAnyH_take (i := 20) (oi := ⟨some 41, _, _, _, _, _⟩) (v := ?_) rfl (by kernel_rfl) (by kernel_rfl) (by kernel_rfl) (fun _ _ _ h => h) (Or.inl ⟨by rfl, ?_⟩) (by assumption) ?_
          rotate_left 1
          · (intro W hSw; obtain ⟨q0, q1⟩ := tS W hSw; go_simp <;> with_reducible rfl)
          try simp only [Act.put, List.setIfInBounds_toArray, List.set_cons_zero, List.set_cons_succ]
          refine wpAnyH_ready (rs := [21]) (by kernel_rfl) (by simp) ?_
          refine AllReadyH.cons (o := ⟨some 42, _, _, _, _, _⟩) rfl (fun K hK => ?_) AllReadyH.nil
          go_simp
          refine (d9 w1).mono ?_
          rintro e w2 ⟨rfl, hb2⟩
          have b1_2 := b1_1.on hb2
          have b2_2 := b2_1.on hb2
          have b3_2 := b3_1.on hb2
          have kk_2 := kk_1.trans (hb2.mono kk_1.size)
          have mq_2 := mq_1.on hb2
          have S2 : (fun W => Kept (fun g => False) wd W) w2 := Kept.next S1 (kept_below (fun _ => False) hb2) (fun _ h => h.elim)
          refine hK.out _ _ S2 (fun h2 => ?_)
          clear h1 hK K
          try simp only [Act.put, List.setIfInBounds_toArray, List.set_cons_zero, List.set_cons_succ]
          refine wpAnyH_take (i := 22) (oi := ⟨some 43, _, _, _, _, _⟩) (v := ?_) rfl (by kernel_rfl) (by kernel_rfl) (by kernel_rfl) (fun _ _ _ h => h) (Or.inl ⟨by rfl, ?_⟩) (by assumption) ?_
          rotate_left 1
          · (intro W hSw; go_simp <;> with_reducible rfl)
          try simp only [Act.put, List.setIfInBounds_toArray, List.set_cons_zero, List.set_cons_succ]
          refine wpAnyH_done (by kernel_rfl) ?_ _
          refine NoPanic.normal ?_
          go_wp2_with fail
          go_meet
          exact ⟨rfl, kk_2, b1_2, b2_2, b3_2, mq_2, hw0.trans (S2.under _ hw0.size (fun _ h => h.elim))⟩
        case rest =>
          clear kk b1 b2 b3 mq
          obtain ⟨rfl, kk, b1, b2, b3, mq, hwc⟩ := hcut
          have c46_2_15 : wc.cell? ⟨p2, 15, none⟩ = some (.int .i64 y.k) := b2.cell 15
          by_cases ck : y.k = 0
          · have eO := HEO.out
            clear HEO
            rw [if_pos ck] at eO
            have tk : (y.k == 0) = true := by rw [ck]; rfl
            obtain ⟨kp, ek, hkp⟩ : ∃ kp : Nat, y.pc = (kp : Int) ∧ kp < n1 := by
              have hc : y.st = 0 ∧ (y.fu ≤ 0 → False) ∧ (0 ≤ y.pc ∧ y.pc ≤ (n1 : Int) - 1) := by
                simpa [doneB, inB, tk] using ed
              exact ⟨y.pc.toNat, by omega, by omega⟩
            obtain ⟨g2, o2, eA2, hrg⟩ := hse.get hkp
            have hrg0 := hrg
            rw [ek, Int.toNat_natCast] at eO
            obtain ⟨J, eJ⟩ : ∃ J, (codeL xs).getD kp noI = J := ⟨_, rfl⟩
            rw [eJ] at eO hrg
            subst eA2
            have d11 : ∀ W, Calls Tryz.prog 11 #[.int .i64 (kt : Int), .agg y.cs.toArray, .agg J.cs.toArray, .int .i64 own] W fun e w' => e = .returned (.agg F.cs.toArray) ∧ Below W.heap.size W w' := fun W => by rw [eO]; exact want_any (kt : Int) y J own W
            have tk2 : (y.k != 0) = false := by rw [ck]; rfl
            clear eO ck eJ hrg0
            have hk0 : (0 : Int) ≤ (kp : Int) := by omega
            have hkn : (kp : Int) < (n1 : Int) := by omega
            go_wp2_with fail
            clear c46_2_15
            obtain ⟨wd, ed_⟩ : ∃ W, wc.drew = W := ⟨_, rfl⟩
            have hd : Below wc.heap.size wc wd := by rw [← ed_]; exact (Below.refl _ _).drew
            replace b1 := b1.on hd
            replace b2 := b2.on hd
            replace b3 := b3.on hd
            replace kk := kk.trans (hd.mono kk.size)
            clear hd
            have hw0 : Below W26.heap.size W26 wd := hwc.trans (by rw [← ed_]; exact ((Below.refl _ _).drew).mono hwc.size)
            have kS0 : Kept (fun _ => False) W26 wd := kept_below _ hw0
            have kS : Kept (fun g => False) wd wd := Kept.refl _ _
            have tS : ∀ W, Kept (fun g => False) wd W → W.cell? ⟨p1, 3, none⟩ = some (.slice (some ⟨g, off, none⟩) q.co.n q.co.cap) ∧ W.cell? ⟨g, off + kt, none⟩ = some (.slice (some ⟨g2, o2, none⟩) n1 c1_) ∧ W.cell? ⟨p2, 0, none⟩ = some (.int .i64 (kp : Int)) := fun W hW => ⟨(by rw [← eA]; exact (b1.kept hW id).cell 3), cell_keptF (cell_keptF cc kS0) hW, (by rw [← ek]; exact (b2.kept hW id).cell 0)⟩
            refine wp_region_noPanic ?_
            refine wp_region_held_drew (S := (fun W => Kept (fun g => False) wd W)) (by kernel_rfl) (by rw [ed_]; exact kS) (fun hHeld => ?_)
            rw [ed_] at hHeld ⊢
            refine wpAnyH_take (i := 0) (oi := ⟨some 58, _, _, _, _, _⟩) (v := .agg (List.toArray (F.cs))) rfl (by kernel_rfl) (by kernel_rfl) (by kernel_rfl) (fun _ _ _ h => h) (yieldsIf_load_mid (by rfl) 40 (.tmp 9) rfl p3 (0) rfl (F.cs) _ (fun W hW => range_part (b3.kept hW id) 0 F.cs rfl) Tryz.underlying40 rfl size40) (by assumption) ?_
            try simp only [Act.put, List.setIfInBounds_toArray, List.set_cons_zero, List.set_cons_succ]
            refine wpAnyH_take (i := 1) (oi := ⟨some 59, _, _, _, _, _⟩) (v := ?_) rfl (by kernel_rfl) (by kernel_rfl) (by kernel_rfl) (fun _ _ _ h => h) (Or.inl ⟨by rfl, ?_⟩) (by assumption) ?_
            rotate_left 1
            · (intro W hSw; go_simp <;> with_reducible rfl)
            try simp only [Act.put, List.setIfInBounds_toArray, List.set_cons_zero, List.set_cons_succ]
            refine wpAnyH_take (i := 2) (oi := ⟨some 60, _, _, _, _, _⟩) (v := .agg (List.toArray (y.cs))) rfl (by kernel_rfl) (by kernel_rfl) (by kernel_rfl) (fun _ _ _ h => h) (yieldsIf_load_mid (by rfl) 33 (.tmp 6) rfl p2 (0) rfl (y.cs) _ (fun W hW => range_part (b2.kept hW id) 0 y.cs rfl) Tryz.underlying33 rfl (sizeT _)) (by assumption) ?_
            try simp only [Act.put, List.setIfInBounds_toArray, List.set_cons_zero, List.set_cons_succ]
            refine wpAnyH_take (i := 3) (oi := ⟨some 61, _, _, _, _, _⟩) (v := ?_) rfl (by kernel_rfl) (by kernel_rfl) (by kernel_rfl) (fun _ _ _ h => h) (Or.inl ⟨by rfl, ?_⟩) (by assumption) ?_
            rotate_left 1
            · (intro W hSw; go_simp <;> with_reducible rfl)
            try simp only [Act.put, List.setIfInBounds_toArray, List.set_cons_zero, List.set_cons_succ]
            refine wpAnyH_take (i := 4) (oi := ⟨some 62, _, _, _, _, _⟩) (v := ?_) rfl (by kernel_rfl) (by kernel_rfl) (by kernel_rfl) (fun _ _ _ h => h) (Or.inl ⟨by rfl, ?_⟩) (by assumption) ?_
            rotate_left 1
            · (intro W hSw; obtain ⟨q0, q1, q2⟩ := tS W hSw; go_simp <;> with_reducible rfl)
            try simp only [Act.put, List.setIfInBounds_toArray, List.set_cons_zero, List.set_cons_succ]
            refine wpAnyH_take (i := 5) (oi := ⟨some 63, _, _, _, _, _⟩) (v := ?_) rfl (by kernel_rfl) (by kernel_rfl) (by kernel_rfl) (fun _ _ _ h => h) (Or.inl ⟨by rfl, ?_⟩) (by assumption) ?_
            rotate_left 1
            · (intro W hSw; go_simp <;> with_reducible rfl)
            try simp only [Act.put, List.setIfInBounds_toArray, List.set_cons_zero, List.set_cons_succ]
            refine wpAnyH_take (i := 6) (oi := ⟨some 64, _, _, _, _, _⟩) (v := ?_) rfl (by kernel_rfl) (by kernel_rfl) (by kernel_rfl) (fun _ _ _ h => h) (Or.inl ⟨by rfl, ?_⟩) (by assumption) ?_
            rotate_left 1
            · (intro W hSw; go_simp <;> with_reducible rfl)
            try simp only [Act.put, List.setIfInBounds_toArray, List.set_cons_zero, List.set_cons_succ]
            refine wpAnyH_take (i := 7) (oi := ⟨some 65, _, _, _, _, _⟩) (v := ?_) rfl (by kernel_rfl) (by kernel_rfl) (by kernel_rfl) (fun _ _ _ h => h) (Or.inl ⟨by rfl, ?_⟩) (by assumption) ?_
            rotate_left 1
            · (intro W hSw; obtain ⟨q0, q1, q2⟩ := tS W hSw; go_simp <;> with_reducible rfl)
            try simp only [Act.put, List.setIfInBounds_toArray, List.set_cons_zero, List.set_cons_succ]
            refine wpAnyH_take (i := 8) (oi := ⟨some 66, _, _, _, _, _⟩) (v := ?_) rfl (by kernel_rfl) (by kernel_rfl) (by kernel_rfl) (fun _ _ _ h => h) (Or.inl ⟨by rfl, ?_⟩) (by assumption) ?_
            rotate_left 1
            · (intro W hSw; go_simp <;> with_reducible rfl)
            try simp only [Act.put, List.setIfInBounds_toArray, List.set_cons_zero, List.set_cons_succ]
            refine wpAnyH_take (i := 9) (oi := ⟨some 67, _, _, _, _, _⟩) (v := ?_) rfl (by kernel_rfl) (by kernel_rfl) (by kernel_rfl) (fun _ _ _ h => h) (Or.inl ⟨by rfl, ?_⟩) (by assumption) ?_
            rotate_left 1
            · (intro W hSw; obtain ⟨q0, q1, q2⟩ := tS W hSw; go_simp <;> with_reducible rfl)
            try simp only [Act.put, List.setIfInBounds_toArray, List.set_cons_zero, List.set_cons_succ]
            refine wpAnyH_take (i := 10) (oi := ⟨some 68, _, _, _, _, _⟩) (v := ?_) rfl (by kernel_rfl) (by kernel_rfl) (by kernel_rfl) (fun _ _ _ h => h) (Or.inl ⟨by rfl, ?_⟩) (by assumption) ?_
            rotate_left 1
            · (intro W hSw; go_simp <;> with_reducible rfl)
            try simp only [Act.put, List.setIfInBounds_toArray, List.set_cons_zero, List.set_cons_succ]
            refine wpAnyH_take (i := 11) (oi := ⟨some 69, _, _, _, _, _⟩) (v := .agg (List.toArray (J.cs))) rfl (by kernel_rfl) (by kernel_rfl) (by kernel_rfl) (fun _ _ _ h => h) (yieldsIf_load_mid (by rfl) 49 (.tmp 68) rfl g2 (o2 + kp * 5) rfl (J.cs) _ (fun W hW => range_keptF (range_keptF hrg kS0) hW) Tryz.underlying49 rfl size49) (by assumption) ?_
            try simp only [Act.put, List.setIfInBounds_toArray, List.set_cons_zero, List.set_cons_succ]
            refine wpAnyH_take (i := 12) (oi := ⟨some 70, _, _, _, _, _⟩) (v := ?_) rfl (by kernel_rfl) (by kernel_rfl) (by kernel_rfl) (fun _ _ _ h => h) (Or.inl ⟨by rfl, ?_⟩) (by assumption) ?_
            rotate_left 1
            · (intro W hSw; go_simp <;> with_reducible rfl)
            try simp only [Act.put, List.setIfInBounds_toArray, List.set_cons_zero, List.set_cons_succ]
            refine wpAnyH_ready (rs := [13]) (by kernel_rfl) (by simp) ?_
            refine AllReadyH.cons (o := ⟨some 71, _, _, _, _, _⟩) rfl (fun K hK => ?_) AllReadyH.nil
            go_simp
            refine (d11 wd).mono ?_
            rintro e w1 ⟨rfl, hb1⟩
            have b1_1 := b1.on hb1
            have b2_1 := b2.on hb1
            have b3_1 := b3.on hb1
            have kk_1 := kk.trans (hb1.mono kk.size)
            have S1 : (fun W => Kept (fun g => False) wd W) w1 := Kept.next kS (kept_below (fun _ => False) hb1) (fun _ h => h.elim)
            refine hK.out _ _ S1 (fun h1 => ?_)
            clear hHeld hK K
            try simp only [Act.put, List.setIfInBounds_toArray, List.set_cons_zero, List.set_cons_succ]
            refine wpAnyH_take (i := 14) (oi := ⟨some 72, _, _, _, _, _⟩) (v := ?_) rfl (by kernel_rfl) (by kernel_rfl) (by kernel_rfl) (fun _ _ _ h => h) (Or.inl ⟨by rfl, ?_⟩) (by assumption) ?_
            rotate_left 1
            · (intro W hSw; go_simp <;> with_reducible rfl)
            try simp only [Act.put, List.setIfInBounds_toArray, List.set_cons_zero, List.set_cons_succ]
            refine wpAnyH_take (i := 15) (oi := ⟨some 8, _, _, _, _, _⟩) (v := ?_) rfl (by kernel_rfl) (by kernel_rfl) (by kernel_rfl) (fun _ _ _ h => h) (Or.inl ⟨by rfl, ?_⟩) (by assumption) ?_
            rotate_left 1
            · (intro W hSw; go_simp <;> with_reducible rfl)
            try simp only [Act.put, List.setIfInBounds_toArray, List.set_cons_zero, List.set_cons_succ]
            refine wpAnyH_done (by kernel_rfl) ?_ _
            refine NoPanic.normal ?_
            go_wp2_with fail
            go_ret
            exact ⟨rfl, kk_1⟩
          · have eO := HEO.out
            clear HEO
            rw [if_neg ck] at eO
            have tk : (y.k == 0) = false := by simpa using ck
            have tk2 : (y.k != 0) = true := by simpa using ck
            have d10 : ∀ W, Calls Tryz.prog 10 #[.agg q.cs.toArray, .int .i64 (kt : Int), .agg y.mi.cs.toArray] W fun e w' => e = .returned (.agg F.cs.toArray) ∧ Below W.heap.size W w' := fun W => by rw [eO]; exact rmicro_any q hq hs2 (kt : Int) y.mi W
            clear eO ck
            go_wp2_with fail
            clear c46_2_15
            obtain ⟨wd, ed⟩ : ∃ W, wc.drew = W := ⟨_, rfl⟩
            have hd : Below wc.heap.size wc wd := by rw [← ed]; exact (Below.refl _ _).drew
            replace b1 := b1.on hd
            replace b2 := b2.on hd
            replace b3 := b3.on hd
            replace kk := kk.trans (hd.mono kk.size)
            clear hd
            have kS : Kept (fun g => False) wd wd := Kept.refl _ _
            refine wp_region_noPanic ?_
            refine wp_region_held_drew (S := (fun W => Kept (fun g => False) wd W)) (by kernel_rfl) (by rw [ed]; exact kS) (fun hHeld => ?_)
            rw [ed] at hHeld ⊢
            refine wpAnyH_take (i := 0) (oi := ⟨some 51, _, _, _, _, _⟩) (v := .agg (List.toArray (F.cs))) rfl (by kernel_rfl) (by kernel_rfl) (by kernel_rfl) (fun _ _ _ h => h) (yieldsIf_load_mid (by rfl) 40 (.tmp 9) rfl p3 (0) rfl (F.cs) _ (fun W hW => range_part (b3.kept hW id) 0 F.cs rfl) Tryz.underlying40 rfl size40) (by assumption) ?_
            try simp only [Act.put, List.setIfInBounds_toArray, List.set_cons_zero, List.set_cons_succ]
            refine wpAnyH_take (i := 1) (oi := ⟨some 52, _, _, _, _, _⟩) (v := .agg (List.toArray (q.cs))) rfl (by kernel_rfl) (by kernel_rfl) (by kernel_rfl) (fun _ _ _ h => h) (yieldsIf_load_mid (by rfl) 24 (.tmp 4) rfl p1 (0) rfl (q.cs) _ (fun W hW => range_part (b1.kept hW id) 0 q.cs rfl) Tryz.underlying24 rfl size24) (by assumption) ?_
            try simp only [Act.put, List.setIfInBounds_toArray, List.set_cons_zero, List.set_cons_succ]
            refine wpAnyH_take (i := 2) (oi := ⟨some 53, _, _, _, _, _⟩) (v := ?_) rfl (by kernel_rfl) (by kernel_rfl) (by kernel_rfl) (fun _ _ _ h => h) (Or.inl ⟨by rfl, ?_⟩) (by assumption) ?_
            rotate_left 1
            · (intro W hSw; go_simp <;> with_reducible rfl)
            try simp only [Act.put, List.setIfInBounds_toArray, List.set_cons_zero, List.set_cons_succ]
            refine wpAnyH_take (i := 3) (oi := ⟨some 54, _, _, _, _, _⟩) (v := ?_) rfl (by kernel_rfl) (by kernel_rfl) (by kernel_rfl) (fun _ _ _ h => h) (Or.inl ⟨by rfl, ?_⟩) (by assumption) ?_
            rotate_left 1
            · (intro W hSw; go_simp <;> with_reducible rfl)
            try simp only [Act.put, List.setIfInBounds_toArray, List.set_cons_zero, List.set_cons_succ]
            refine wpAnyH_take (i := 4) (oi := ⟨some 55, _, _, _, _, _⟩) (v := .agg (List.toArray (y.mi.cs))) rfl (by kernel_rfl) (by kernel_rfl) (by kernel_rfl) (fun _ _ _ h => h) (yieldsIf_load_mid (by rfl) 30 (.tmp 54) rfl p2 (15) rfl (y.mi.cs) _ (fun W hW => range_part (b2.kept hW id) 15 y.mi.cs rfl) Tryz.underlying30 rfl size30) (by assumption) ?_
            try simp only [Act.put, List.setIfInBounds_toArray, List.set_cons_zero, List.set_cons_succ]
            refine wpAnyH_ready (rs := [5]) (by kernel_rfl) (by simp) ?_
            refine AllReadyH.cons (o := ⟨some 56, _, _, _, _, _⟩) rfl (fun K hK => ?_) AllReadyH.nil
            go_simp
            refine (d10 wd).mono ?_
            rintro e w1 ⟨rfl, hb1⟩
            have b1_1 := b1.on hb1
            have b2_1 := b2.on hb1
            have b3_1 := b3.on hb1
            have kk_1 := kk.trans (hb1.mono kk.size)
            have S1 : (fun W => Kept (fun g => False) wd W) w1 := Kept.next kS (kept_below (fun _ => False) hb1) (fun _ h => h.elim)
            refine hK.out _ _ S1 (fun h1 => ?_)
            clear hHeld hK K
            try simp only [Act.put, List.setIfInBounds_toArray, List.set_cons_zero, List.set_cons_succ]
            refine wpAnyH_take (i := 6) (oi := ⟨some 57, _, _, _, _, _⟩) (v := ?_) rfl (by kernel_rfl) (by kernel_rfl) (by kernel_rfl) (fun _ _ _ h => h) (Or.inl ⟨by rfl, ?_⟩) (by assumption) ?_
            rotate_left 1
            · (intro W hSw; go_simp <;> with_reducible rfl)
            try simp only [Act.put, List.setIfInBounds_toArray, List.set_cons_zero, List.set_cons_succ]
            refine wpAnyH_take (i := 7) (oi := ⟨some 8, _, _, _, _, _⟩) (v := ?_) rfl (by kernel_rfl) (by kernel_rfl) (by kernel_rfl) (fun _ _ _ h => h) (Or.inl ⟨by rfl, ?_⟩) (by assumption) ?_
            rotate_left 1
            · (intro W hSw; go_simp <;> with_reducible rfl)
            try simp only [Act.put, List.setIfInBounds_toArray, List.set_cons_zero, List.set_cons_succ]
            refine wpAnyH_done (by kernel_rfl) ?_ _
            refine NoPanic.normal ?_
            go_wp2_with fail
            go_ret
            exact ⟨rfl, kk_1⟩
    · have eN : F = noA := by rw [← eF]; unfold ofA; rw [if_neg (fun e => c0 (ev.symm.trans e.1))]
      have tv : (v == 0) = false := beq_eq_false_iff_ne.2 c0
      have tv2 : (v != 0) = true := by simpa using c0
      clear eF ev hlen c0
      go_cut [43] (fun s43 wx => s43 = .bool true ∧ Below w.heap.size w wx ∧ Blk wx p1 24 q.cs.toArray ∧ Blk wx p2 33 y.cs.toArray ∧ Blk wx p3 40 F.cs.toArray ∧ MatX w.heap.size B1 wx q.co.A q.co.n q.co.cap XS ∧ Below W26.heap.size W26 wx)
      case first =>
        obtain ⟨wd, ed_⟩ : ∃ W, W26.drew = W := ⟨_, rfl⟩
        have hd : Below W26.heap.size W26 wd := by rw [← ed_]; exact (Below.refl _ _).drew
        replace b1 := b1.on hd
        replace b2 := b2.on hd
        replace b3 := b3.on hd
        replace kk := kk.trans (hd.mono kk.size)
        replace mq := mq.on hd
        clear hd
        have hw0 : Below W26.heap.size W26 wd := by rw [← ed_]; exact (Below.refl _ _).drew
        have kS0 : Kept (fun _ => False) W26 wd := kept_below _ hw0
        have kS : Kept (fun g => False) wd wd := Kept.refl _ _
        refine wp_region_noPanic ?_
        refine wp_region_held_drew (S := (fun W => Kept (fun g => False) wd W)) (by kernel_rfl) (by rw [ed_]; exact kS) (fun hHeld => ?_)
        rw [ed_] at hHeld ⊢
        refine wpAnyH_take (i := 0) (oi := ⟨some 21, _, _, _, _, _⟩) (v := .agg (List.toArray (q.cs))) rfl (by kernel_rfl) (by kernel_rfl) (by kernel_rfl) (fun _ _ _ h => h) (yieldsIf_load_mid (by rfl) 24 (.tmp 4) rfl p1 (0) rfl (q.cs) _ (fun W hW => range_part (b1.kept hW id) 0 q.cs rfl) Tryz.underlying24 rfl size24) (by assumption) ?_
        try simp only [Act.put, List.setIfInBounds_toArray, List.set_cons_zero, List.set_cons_succ]
        refine wpAnyH_ready (rs := [1]) (by kernel_rfl) (by simp) ?_
        refine AllReadyH.cons (o := ⟨some 22, _, _, _, _, _⟩) rfl (fun K hK => ?_) AllReadyH.nil
        go_simp
        refine (d8 wd mq).mono ?_
        rintro e w1 ⟨rfl, hb1⟩
        have b1_1 := b1.on hb1
        have b2_1 := b2.on hb1
        have b3_1 := b3.on hb1
        have kk_1 := kk.trans (hb1.mono kk.size)
        have mq_1 := mq.on hb1
        have S1 : (fun W => Kept (fun g => False) wd W) w1 := Kept.next kS (kept_below (fun _ => False) hb1) (fun _ h => h.elim)
        refine hK.out _ _ S1 (fun h1 => ?_)
        clear hHeld hK K
        try simp only [Act.put, List.setIfInBounds_toArray, List.set_cons_zero, List.set_cons_succ]
        refine wpAnyH_take (i := 2) (oi := ⟨some 23, _, _, _, _, _⟩) (v := ?_) rfl (by kernel_rfl) (by kernel_rfl) (by kernel_rfl) (fun _ _ _ h => h) (Or.inl ⟨by rfl, ?_⟩) (by assumption) ?_
        rotate_left 1
        · (intro W hSw; go_simp <;> with_reducible rfl)
        try simp only [Act.put, List.setIfInBounds_toArray, List.set_cons_zero, List.set_cons_succ]
        refine wpAnyH_take (i := 3) (oi := ⟨some 24, _, _, _, _, _⟩) (v := ?_) rfl (by kernel_rfl) (by kernel_rfl) (by kernel_rfl) (fun _ _ _ h => h) (Or.inl ⟨by rfl, ?_⟩) (by assumption) ?_
        rotate_left 1
        · (intro W hSw; go_simp <;> with_reducible rfl)
        try simp only [Act.put, List.setIfInBounds_toArray, List.set_cons_zero, List.set_cons_succ]
        refine wpAnyH_take (i := 4) (oi := ⟨some 25, _, _, _, _, _⟩) (v := undef) rfl (by kernel_rfl) (by kernel_rfl) (by kernel_rfl) (fun _ _ _ h => h) (Or.inr ⟨by rfl, rfl⟩) (by assumption) ?_
        try simp only [Act.put, List.setIfInBounds_toArray, List.set_cons_zero, List.set_cons_succ]
        refine wpAnyH_take (i := 5) (oi := ⟨some 26, _, _, _, _, _⟩) (v := undef) rfl (by kernel_rfl) (by kernel_rfl) (by kernel_rfl) (fun _ _ _ h => h) (Or.inr ⟨by rfl, rfl⟩) (by assumption) ?_
        try simp only [Act.put, List.setIfInBounds_toArray, List.set_cons_zero, List.set_cons_succ]
        refine wpAnyH_take (i := 6) (oi := ⟨some 27, _, _, _, _, _⟩) (v := ?_) rfl (by kernel_rfl) (by kernel_rfl) (by kernel_rfl) (fun _ _ _ h => h) (Or.inl ⟨by rfl, ?_⟩) (by assumption) ?_
        rotate_left 1
        · (intro W hSw; go_simp <;> with_reducible rfl)
        try simp only [Act.put, List.setIfInBounds_toArray, List.set_cons_zero, List.set_cons_succ]
        refine wpAnyH_take (i := 7) (oi := ⟨some 28, _, _, _, _, _⟩) (v := ?_) rfl (by kernel_rfl) (by kernel_rfl) (by kernel_rfl) (fun _ _ _ h => h) (Or.inl ⟨by rfl, ?_⟩) (by assumption) ?_
        rotate_left 1
        · (intro W hSw; go_simp <;> with_reducible rfl)
        try simp only [Act.put, List.setIfInBounds_toArray, List.set_cons_zero, List.set_cons_succ]
        refine wpAnyH_take (i := 8) (oi := ⟨some 29, _, _, _, _, _⟩) (v := undef) rfl (by kernel_rfl) (by kernel_rfl) (by kernel_rfl) (fun _ _ _ h => h) (Or.inr ⟨by rfl, rfl⟩) (by assumption) ?_
        try simp only [Act.put, List.setIfInBounds_toArray, List.set_cons_zero, List.set_cons_succ]
        refine wpAnyH_take (i := 9) (oi := ⟨some 30, _, _, _, _, _⟩) (v := undef) rfl (by kernel_rfl) (by kernel_rfl) (by kernel_rfl) (fun _ _ _ h => h) (Or.inr ⟨by rfl, rfl⟩) (by assumption) ?_
        try simp only [Act.put, List.setIfInBounds_toArray, List.set_cons_zero, List.set_cons_succ]
        refine wpAnyH_take (i := 10) (oi := ⟨some 31, _, _, _, _, _⟩) (v := undef) rfl (by kernel_rfl) (by kernel_rfl) (by kernel_rfl) (fun _ _ _ h => h) (Or.inr ⟨by rfl, rfl⟩) (by assumption) ?_
        try simp only [Act.put, List.setIfInBounds_toArray, List.set_cons_zero, List.set_cons_succ]
        refine wpAnyH_take (i := 11) (oi := ⟨some 32, _, _, _, _, _⟩) (v := undef) rfl (by kernel_rfl) (by kernel_rfl) (by kernel_rfl) (fun _ _ _ h => h) (Or.inr ⟨by rfl, rfl⟩) (by assumption) ?_
        try simp only [Act.put, List.setIfInBounds_toArray, List.set_cons_zero, List.set_cons_succ]
        refine wpAnyH_take (i := 12) (oi := ⟨some 33, _, _, _, _, _⟩) (v := undef) rfl (by kernel_rfl) (by kernel_rfl) (by kernel_rfl) (fun _ _ _ h => h) (Or.inr ⟨by rfl, rfl⟩) (by assumption) ?_
        try simp only [Act.put, List.setIfInBounds_toArray, List.set_cons_zero, List.set_cons_succ]
        refine wpAnyH_take (i := 13) (oi := ⟨some 34, _, _, _, _, _⟩) (v := ?_) rfl (by kernel_rfl) (by kernel_rfl) (by kernel_rfl) (fun _ _ _ h => h) (Or.inl ⟨by rfl, ?_⟩) (by assumption) ?_
        rotate_left 1
        · (intro W hSw; go_simp <;> with_reducible rfl)
        try simp only [Act.put, List.setIfInBounds_toArray, List.set_cons_zero, List.set_cons_succ]
        refine wpAnyH_take (i := 14) (oi := ⟨some 35, _, _, _, _, _⟩) (v := ?_) rfl (by kernel_rfl) (by kernel_rfl) (by kernel_rfl) (fun _ _ _ h => h) (Or.inl ⟨by rfl, ?_⟩) (by assumption) ?_
        rotate_left 1
        · (intro W hSw; go_simp <;> with_reducible rfl)
        try simp only [Act.put, List.setIfInBounds_toArray, List.set_cons_zero, List.set_cons_succ]
        refine wpAnyH_take (i := 15) (oi := ⟨some 36, _, _, _, _, _⟩) (v := undef) rfl (by kernel_rfl) (by kernel_rfl) (by kernel_rfl) (fun _ _ _ h => h) (Or.inr ⟨by rfl, rfl⟩) (by assumption) ?_
        try simp only [Act.put, List.setIfInBounds_toArray, List.set_cons_zero, List.set_cons_succ]
        refine wpAnyH_take (i := 16) (oi := ⟨some 37, _, _, _, _, _⟩) (v := undef) rfl (by kernel_rfl) (by kernel_rfl) (by kernel_rfl) (fun _ _ _ h => h) (Or.inr ⟨by rfl, rfl⟩) (by assumption) ?_
        try simp only [Act.put, List.setIfInBounds_toArray, List.set_cons_zero, List.set_cons_succ]
        refine wpAnyH_take (i := 17) (oi := ⟨some 38, _, _, _, _, _⟩) (v := undef) rfl (by kernel_rfl) (by kernel_rfl) (by kernel_rfl) (fun _ _ _ h => h) (Or.inr ⟨by rfl, rfl⟩) (by assumption) ?_
        try simp only [Act.put, List.setIfInBounds_toArray, List.set_cons_zero, List.set_cons_succ]
        refine wpAnyH_take (i := 18) (oi := ⟨some 39, _, _, _, _, _⟩) (v := undef) rfl (by kernel_rfl) (by kernel_rfl) (by kernel_rfl) (fun _ _ _ h => h) (Or.inr ⟨by rfl, rfl⟩) (by assumption) ?_
        try simp only [Act.put, List.setIfInBounds_toArray, List.set_cons_zero, List.set_cons_succ]
        refine wpAnyH_take (i := 19) (oi := ⟨some 40, _, _, _, _, _⟩) (v := undef) rfl (by kernel_rfl) (by kernel_rfl) (by kernel_rfl) (fun _ _ _ h => h) (Or.inr ⟨by rfl, rfl⟩) (by assumption) ?_
        try simp only [Act.put, List.setIfInBounds_toArray, List.set_cons_zero, List.set_cons_succ]
        refine wpAnyH_take (i := 20) (oi := ⟨some 41, _, _, _, _, _⟩) (v := undef) rfl (by kernel_rfl) (by kernel_rfl) (by kernel_rfl) (fun _ _ _ h => h) (Or.inr ⟨by rfl, rfl⟩) (by assumption) ?_
        try simp only [Act.put, List.setIfInBounds_toArray, List.set_cons_zero, List.set_cons_succ]
        refine wpAnyH_take (i := 21) (oi := ⟨some 42, _, _, _, _, _⟩) (v := undef) rfl (by kernel_rfl) (by kernel_rfl) (by kernel_rfl) (fun _ _ _ h => h) (Or.inr ⟨by rfl, rfl⟩) (by assumption) ?_
        try simp only [Act.put, List.setIfInBounds_toArray, List.set_cons_zero, List.set_cons_succ]
        refine wpAnyH_take (i := 22) (oi := ⟨some 43, _, _, _, _, _⟩) (v := ?_) rfl (by kernel_rfl) (by kernel_rfl) (by kernel_rfl) (fun _ _ _ h => h) (Or.inl ⟨by rfl, ?_⟩) (by assumption) ?_
        rotate_left 1
        · (intro W hSw; go_simp <;> with_reducible rfl)
        try simp only [Act.put, List.setIfInBounds_toArray, List.set_cons_zero, List.set_cons_succ]
        refine wpAnyH_done (by kernel_rfl) ?_ _
        refine NoPanic.normal ?_
        go_wp2_with fail
        go_meet
        exact ⟨rfl, kk_1, b1_1, b2_1, b3_1, mq_1, hw0.trans (S1.under _ hw0.size (fun _ h => h.elim))⟩
      case rest =>
        clear kk b1 b2 b3 mq
        obtain ⟨rfl, kk, b1, b2, b3, mq, hwc⟩ := hcut
        obtain rfl : F = noA := eN
        replace e40 : ∀ W, (binOp BinOp.eql 40 (.agg noA.cs.toArray) (.agg #[.int .i64 0, .int .i64 0, .int .i64 0, .int .i64 0, .int .i64 0, .int .i64 0, .int .i64 0, .int .i64 0, .int .i64 0, .int .i64 0, .int .i64 0, .int .i64 0, .int .i64 0, .int .i64 0])).run Tryz.prog W = .ok (.bool true) W := e40
        go_wp2_with (((with_reducible refine at_load 40 (.tmp 9) ?_); refine wpList_load_row rfl 40 (.tmp 9) rfl p3 rfl 40 noA.cs.toArray (0, 0) _ b3 Tryz.underlying40 rfl size40 ?_))
        go_ret
        exact ⟨rfl, kk⟩
end Go.Proofs.YtfadfdfpocpelaaGreatDoor
