/- The walk of ConfParses. Conditions: the variables lie as they are laid. -/
import Derived.Test.YtmkdmnaonddghaaDoorAlive
namespace Go.Proofs.YtmkdmnaonddghaaDoor
open Go.RowKit Nine

theorem drew_below5 (w : World) : Below w.heap.size w w.drew := ⟨rfl, rfl, rfl, Nat.le_refl _, fun _ _ => rfl⟩
theorem join_small (m : Nat) : ∀ (l : List (List UInt8)), (∀ x ∈ l, x.length ≤ m) → (joinL l).length ≤ (m + 1) * l.length
  | [], _ => by simp [joinL]
  | [x], h => by have := h x (by simp); simp [joinL]; omega
  | x :: y :: r, h => by
    have h1 := h x (by simp)
    have h2 := join_small m (y :: r) fun z hz => h z (List.mem_cons_of_mem _ hz)
    simp only [joinL, List.length_append, List.length_cons, Nat.mul_add] at h2 ⊢
    omega
theorem lineO_short {c : Cfg} {a : Ask} (hc : okC c = true) (ha : okA a = true) : (lineO c a).length ≤ 176 := by
  obtain ⟨i, p, m, hp⟩ := parts_of hc ha
  exact join_small 21 _ (lineW_short hp)
set_option maxRecDepth 100000 in
set_option maxHeartbeats 2000000 in
theorem parses_any (s : ByteArray) (w : World) (hL : Laid w) : Calls Tryd.prog 5 #[.string s] w fun e w' => e = .returned (.bool true) ∧ Below w.heap.size w w' := by
  have hA := alive_any w hL
  go_enter Tryd.func5, Tryd.ntmps5
  go_wp2_with fail
  refine hA.mono ?_
  rintro e w1 ⟨rfl, hb1⟩
  have HQ := Lib.hid hb1
  have hL1 := hL.on hb1
  clear hA hL hb1
  by_cases hn : 80 < s.size
  · have t0 : decide ((80 : Int) < (s.size : Int)) = true := decide_eq_true (by omega)
    have hx : s.extract 0 80 = txt ((oct s).take 80) := by rw [extract_txt]; rfl
    obtain ⟨ss, ess⟩ : ∃ ss, s.extract 0 80 = ss := ⟨_, rfl⟩
    have hss : ss.size ≤ 80 := by rw [← ess, hx, txt_size, List.length_take]; omega
    rw [ess] at hx
    clear hx
    have q80 : (80 : Int) ≤ (s.size : Int) := by omega
    have hP := parse_any ss (by omega) w1 hL1
    go_wp2_with fail
    refine hP.mono ?_
    rintro e w2 ⟨⟨y, hy, -, rfl⟩ | ⟨hg, rfl⟩, hb2⟩
    · obtain ⟨W, eW⟩ : ∃ W, W = (w2.alloc (.cells #[.int .i64 0, .int .i64 0, .int .i64 0, .int .i64 0, .int .i64 0] 23)).alloc (.cells #[.int .i64 0, .int .i64 0, .bool false] 25) := ⟨_, rfl⟩
      have hb : Below w2.heap.size w2 W := by rw [eW]; exact ((Below.refl _ w2).alloc (Nat.le_refl _) _).alloc (by simp) _
      have HF := Lib.hid (HQ.out.trans ((hb2.trans (hb.mono hb2.size)).mono HQ.out.size))
      rw [eW] at HF
      clear hb eW hb2
      rcases hy with rfl | rfl
      · go_wp2
        go_ret
        exact ⟨by simp, HF.out⟩
      · go_wp2
        go_ret
        exact ⟨by simp, HF.out⟩
    · obtain ⟨okc, oka, hlw⟩ := line_of hg.1 hg.2.1 hg.2.2
      have hlo := words_lineO okc oka
      rw [hlw] at hlo
      have hsho := lineO_short okc oka
      have hRC := fun W => refcheck_any (cfgP (wordsL (oct ss))) W
      have hRA := fun W => refask_any (askP (wordsL (oct ss))) W
      have hRL := fun W => refline_any (cfgP (wordsL (oct ss))) (askP (wordsL (oct ss))) W okc oka
      rw [okc] at hRC
      rw [oka] at hRA
      have hW1 := fun W => lwords_any ss (by omega) W
      have hW2 := fun W => lwords_any (txt (lineO (cfgP (wordsL (oct ss))) (askP (wordsL (oct ss))))) (by rw [txt_size]; omega) W
      rw [oct_txt, hlo] at hW2
      have h8 := hg.1
      generalize txt (lineO (cfgP (wordsL (oct ss))) (askP (wordsL (oct ss)))) = ln at *
      generalize cfgP (wordsL (oct ss)) = c at *
      generalize askP (wordsL (oct ss)) = a at *
      generalize wordsL (oct ss) = ws at *
      rw [h8] at hW1 hW2
      obtain ⟨s1, o, t, f, d⟩ := c
      obtain ⟨m, b, st⟩ := a
      simp only at hRC hRA hRL
      clear hlw hlo hsho hg okc oka h8 hP
      obtain ⟨W, eW⟩ : ∃ W, W = (w2.alloc (.cells #[.int .i64 s1, .int .i64 o, .int .i64 t, .int .i64 f, .int .i64 d] 23)).alloc (.cells #[.int .i64 m, .int .i64 b, .bool st] 25) := ⟨_, rfl⟩
      have hb : Below w2.heap.size w2 W := by rw [eW]; exact ((Below.refl _ w2).alloc (Nat.le_refl _) _).alloc (by simp) _
      have hC0 : Blk W w2.heap.size 23 #[.int .i64 s1, .int .i64 o, .int .i64 t, .int .i64 f, .int .i64 d] := by rw [eW]; exact Blk.below (heap_alloc_new w2 _) ((Below.refl _ _).alloc (Nat.le_refl _) _) (by simp)
      have hA0 : Blk W (w2.heap.size + 1) 25 #[.int .i64 m, .int .i64 b, .bool st] := by rw [eW]; exact heap_alloc2_new w2 _ _
      have HF := Lib.hid (HQ.out.trans ((hb2.trans (hb.mono hb2.size)).mono HQ.out.size))
      have HZ : Hid (∀ V, Below W.heap.size W V → (V.cell? ⟨w2.heap.size, 0, none⟩ = some (.int .i64 s1) ∧ V.cell? ⟨w2.heap.size, 1, none⟩ = some (.int .i64 o) ∧ V.cell? ⟨w2.heap.size, 2, none⟩ = some (.int .i64 t) ∧ V.cell? ⟨w2.heap.size, 3, none⟩ = some (.int .i64 f) ∧ V.cell? ⟨w2.heap.size, 4, none⟩ = some (.int .i64 d) ∧ V.cell? ⟨w2.heap.size + 1, 0, none⟩ = some (.int .i64 m) ∧ V.cell? ⟨w2.heap.size + 1, 1, none⟩ = some (.int .i64 b) ∧ V.cell? ⟨w2.heap.size + 1, 2, none⟩ = some (.bool st))) := Lib.hid fun V h => ⟨(hC0.below h hC0.lt).cell 0, (hC0.below h hC0.lt).cell 1, (hC0.below h hC0.lt).cell 2, (hC0.below h hC0.lt).cell 3, (hC0.below h hC0.lt).cell 4, (hA0.below h hA0.lt).cell 0, (hA0.below h hA0.lt).cell 1, (hA0.below h hA0.lt).cell 2⟩
      clear hb hb2 hC0 hA0
      go_wp2_with fail
      rw [← eW]
      clear eW
      have k0 := drew_below5 W
      refine wp_region_noPanic ?_
      refine wp_region_held_drew (S := fun W => W.cell? ⟨w2.heap.size, 0, none⟩ = some (.int .i64 s1) ∧ W.cell? ⟨w2.heap.size, 1, none⟩ = some (.int .i64 o) ∧ W.cell? ⟨w2.heap.size, 2, none⟩ = some (.int .i64 t) ∧ W.cell? ⟨w2.heap.size, 3, none⟩ = some (.int .i64 f) ∧ W.cell? ⟨w2.heap.size, 4, none⟩ = some (.int .i64 d) ∧ W.cell? ⟨w2.heap.size + 1, 0, none⟩ = some (.int .i64 m) ∧ W.cell? ⟨w2.heap.size + 1, 1, none⟩ = some (.int .i64 b) ∧ W.cell? ⟨w2.heap.size + 1, 2, none⟩ = some (.bool st)) (by kernel_rfl) (HZ.out _ k0) (fun hHeld => ?_)
      generalize W.drew = v at *
      refine wpAnyH_take (i := 0) (oi := ⟨some 37, _, _, _, _, _⟩) (v := ?_) rfl (by kernel_rfl) (by kernel_rfl) (by kernel_rfl) (fun _ _ _ h => h) (Or.inl ⟨by rfl, ?_⟩) (by assumption) ?_
      rotate_left 1
      · (intro W hSw; go_simp <;> with_reducible rfl)
      try simp only [Act.put, List.setIfInBounds_toArray, List.set_cons_zero, List.set_cons_succ]
      refine wpAnyH_ready (rs := [1]) (by kernel_rfl) (by simp) ?_
      refine AllReadyH.cons rfl (fun K hK => ?_) AllReadyH.nil
      go_simp
      refine (hRC _).mono ?_
      rintro e v1 ⟨rfl, cv1⟩
      have k1 := k0.trans (cv1.mono k0.size)
      refine hK.out _ _ (HZ.out _ k1) (fun h1 => ?_)
      clear hHeld hK K
      try simp only [Act.put, List.setIfInBounds_toArray, List.set_cons_zero, List.set_cons_succ]
      refine wpAnyH_take (i := 2) (oi := ⟨some 39, _, _, _, _, _⟩) (v := ?_) rfl (by kernel_rfl) (by kernel_rfl) (by kernel_rfl) (fun _ _ _ h => h) (Or.inl ⟨by rfl, ?_⟩) (by assumption) ?_
      rotate_left 1
      · (intro W hSw; go_simp <;> with_reducible rfl)
      try simp only [Act.put, List.setIfInBounds_toArray, List.set_cons_zero, List.set_cons_succ]
      refine wpAnyH_take (i := 3) (oi := ⟨some 40, _, _, _, _, _⟩) (v := ?_) rfl (by kernel_rfl) (by kernel_rfl) (by kernel_rfl) (fun _ _ _ h => h) (Or.inl ⟨by rfl, ?_⟩) (by assumption) ?_
      rotate_left 1
      · (intro W hSw; go_simp <;> with_reducible rfl)
      try simp only [Act.put, List.setIfInBounds_toArray, List.set_cons_zero, List.set_cons_succ]
      refine wpAnyH_ready (rs := [4]) (by kernel_rfl) (by simp) ?_
      refine AllReadyH.cons rfl (fun K hK => ?_) AllReadyH.nil
      go_simp
      refine (hRA _).mono ?_
      rintro e v2 ⟨rfl, cv2⟩
      have k2 := k1.trans (cv2.mono k1.size)
      refine hK.out _ _ (HZ.out _ k2) (fun h2 => ?_)
      clear h1 hK K
      try simp only [Act.put, List.setIfInBounds_toArray, List.set_cons_zero, List.set_cons_succ]
      refine wpAnyH_take (i := 5) (oi := ⟨some 42, _, _, _, _, _⟩) (v := ?_) rfl (by kernel_rfl) (by kernel_rfl) (by kernel_rfl) (fun _ _ _ h => h) (Or.inl ⟨by rfl, ?_⟩) (by assumption) ?_
      rotate_left 1
      · (intro W hSw; go_simp <;> with_reducible rfl)
      try simp only [Act.put, List.setIfInBounds_toArray, List.set_cons_zero, List.set_cons_succ]
      refine wpAnyH_take (i := 6) (oi := ⟨some 43, _, _, _, _, _⟩) (v := ?_) rfl (by kernel_rfl) (by kernel_rfl) (by kernel_rfl) (fun _ _ _ h => h) (Or.inl ⟨by rfl, ?_⟩) (by assumption) ?_
      rotate_left 1
      · (intro W hSw; go_simp <;> with_reducible rfl)
      try simp only [Act.put, List.setIfInBounds_toArray, List.set_cons_zero, List.set_cons_succ]
      refine wpAnyH_take (i := 7) (oi := ⟨some 44, _, _, _, _, _⟩) (v := ?_) rfl (by kernel_rfl) (by kernel_rfl) (by kernel_rfl) (fun _ _ _ h => h) (Or.inl ⟨by rfl, ?_⟩) (by assumption) ?_
      rotate_left 1
      · (intro W hSw; go_simp <;> with_reducible rfl)
      try simp only [Act.put, List.setIfInBounds_toArray, List.set_cons_zero, List.set_cons_succ]
      refine wpAnyH_take (i := 9) (oi := ⟨some 46, _, _, _, _, _⟩) (v := ?_) rfl (by kernel_rfl) (by kernel_rfl) (by kernel_rfl) (fun _ _ _ h => h) (Or.inl ⟨by rfl, ?_⟩) (by assumption) ?_
      rotate_left 1
      · (intro W hSw; go_simp <;> with_reducible rfl)
      try simp only [Act.put, List.setIfInBounds_toArray, List.set_cons_zero, List.set_cons_succ]
      refine wpAnyH_take (i := 10) (oi := ⟨some 47, _, _, _, _, _⟩) (v := ?_) rfl (by kernel_rfl) (by kernel_rfl) (by kernel_rfl) (fun _ _ _ h => h) (Or.inl ⟨by rfl, ?_⟩) (by assumption) ?_
      rotate_left 1
      · (intro W hSw; go_simp <;> with_reducible rfl)
      try simp only [Act.put, List.setIfInBounds_toArray, List.set_cons_zero, List.set_cons_succ]
      refine wpAnyH_ready (rs := [8]) (by kernel_rfl) (by simp) ?_
      refine AllReadyH.cons rfl (fun K hK => ?_) AllReadyH.nil
      go_simp
      refine (hW1 _).mono ?_
      rintro e v3 ⟨p3, rfl, hp3, cv3⟩
      have k3 := k2.trans (cv3.mono k2.size)
      obtain ⟨A3, cap3, rfl, r3⟩ := Row.own hp3
      clear hp3
      refine hK.out _ _ (HZ.out _ k3) (fun h3 => ?_)
      clear h2 hK K
      try simp only [Act.put, List.setIfInBounds_toArray, List.set_cons_zero, List.set_cons_succ]
      refine wpAnyH_ready (rs := [11]) (by kernel_rfl) (by simp) ?_
      refine AllReadyH.cons rfl (fun K hK => ?_) AllReadyH.nil
      go_simp
      refine (hRL _).mono ?_
      rintro e v4 ⟨rfl, cv4⟩
      have k4 := k3.trans (cv4.mono k3.size)
      refine hK.out _ _ (HZ.out _ k4) (fun h4 => ?_)
      clear h3 hK K
      try simp only [Act.put, List.setIfInBounds_toArray, List.set_cons_zero, List.set_cons_succ]
      refine wpAnyH_ready (rs := [12]) (by kernel_rfl) (by simp) ?_
      refine AllReadyH.cons rfl (fun K hK => ?_) AllReadyH.nil
      go_simp
      refine (hW2 _).mono ?_
      rintro e v5 ⟨p5, rfl, hp5, cv5⟩
      have k5 := k4.trans (cv5.mono k4.size)
      obtain ⟨A5, cap5, rfl, r5⟩ := Row.own hp5
      clear hp5
      refine hK.out _ _ (HZ.out _ k5) (fun h5 => ?_)
      clear h4 hK K
      try simp only [Act.put, List.setIfInBounds_toArray, List.set_cons_zero, List.set_cons_succ]
      refine wpAnyH_ready (rs := [13]) (by kernel_rfl) (by simp) ?_
      refine AllReadyH.cons rfl (fun K hK => ?_) AllReadyH.nil
      go_simp
      refine (texts_same A3 A5 8 cap3 cap5 ws _ _ v5 ((r3.below cv4).below (cv5.mono cv4.size)) r5).mono ?_
      rintro e v6 ⟨rfl, cv6⟩
      have k6 := k5.trans (cv6.mono k5.size)
      refine hK.out _ _ (HZ.out _ k6) (fun h6 => ?_)
      clear h5 hK K
      try simp only [Act.put, List.setIfInBounds_toArray, List.set_cons_zero, List.set_cons_succ]
      refine wpAnyH_take (i := 14) (oi := ⟨some 51, _, _, _, _, _⟩) (v := ?_) rfl (by kernel_rfl) (by kernel_rfl) (by kernel_rfl) (fun _ _ _ h => h) (Or.inl ⟨by rfl, ?_⟩) (by assumption) ?_
      rotate_left 1
      · (intro W hSw; go_simp <;> with_reducible rfl)
      try simp only [Act.put, List.setIfInBounds_toArray, List.set_cons_zero, List.set_cons_succ]
      refine wpAnyH_take (i := 15) (oi := ⟨some 2, _, _, _, _, _⟩) (v := ?_) rfl (by kernel_rfl) (by kernel_rfl) (by kernel_rfl) (fun _ _ _ h => h) (Or.inl ⟨by rfl, ?_⟩) (by assumption) ?_
      rotate_left 1
      · (intro W hSw; go_simp <;> with_reducible rfl)
      try simp only [Act.put, List.setIfInBounds_toArray, List.set_cons_zero, List.set_cons_succ]
      refine wpAnyH_done (by kernel_rfl) ?_ _
      refine NoPanic.normal ?_
      clear h6
      go_wp2
      go_ret
      exact ⟨by simp, HF.out.trans (k6.mono HF.out.size)⟩
  · have t0 : decide ((80 : Int) < (s.size : Int)) = false := decide_eq_false (by omega)
    have hP := parse_any s (by omega) w1 hL1
    go_wp2_with fail
    refine hP.mono ?_
    rintro e w2 ⟨⟨y, hy, -, rfl⟩ | ⟨hg, rfl⟩, hb2⟩
    · obtain ⟨W, eW⟩ : ∃ W, W = (w2.alloc (.cells #[.int .i64 0, .int .i64 0, .int .i64 0, .int .i64 0, .int .i64 0] 23)).alloc (.cells #[.int .i64 0, .int .i64 0, .bool false] 25) := ⟨_, rfl⟩
      have hb : Below w2.heap.size w2 W := by rw [eW]; exact ((Below.refl _ w2).alloc (Nat.le_refl _) _).alloc (by simp) _
      have HF := Lib.hid (HQ.out.trans ((hb2.trans (hb.mono hb2.size)).mono HQ.out.size))
      rw [eW] at HF
      clear hb eW hb2
      rcases hy with rfl | rfl
      · go_wp2
        go_ret
        exact ⟨by simp, HF.out⟩
      · go_wp2
        go_ret
        exact ⟨by simp, HF.out⟩
    · obtain ⟨okc, oka, hlw⟩ := line_of hg.1 hg.2.1 hg.2.2
      have hlo := words_lineO okc oka
      rw [hlw] at hlo
      have hsho := lineO_short okc oka
      have hRC := fun W => refcheck_any (cfgP (wordsL (oct s))) W
      have hRA := fun W => refask_any (askP (wordsL (oct s))) W
      have hRL := fun W => refline_any (cfgP (wordsL (oct s))) (askP (wordsL (oct s))) W okc oka
      rw [okc] at hRC
      rw [oka] at hRA
      have hW1 := fun W => lwords_any s (by omega) W
      have hW2 := fun W => lwords_any (txt (lineO (cfgP (wordsL (oct s))) (askP (wordsL (oct s))))) (by rw [txt_size]; omega) W
      rw [oct_txt, hlo] at hW2
      have h8 := hg.1
      generalize txt (lineO (cfgP (wordsL (oct s))) (askP (wordsL (oct s)))) = ln at *
      generalize cfgP (wordsL (oct s)) = c at *
      generalize askP (wordsL (oct s)) = a at *
      generalize wordsL (oct s) = ws at *
      rw [h8] at hW1 hW2
      obtain ⟨s1, o, t, f, d⟩ := c
      obtain ⟨m, b, st⟩ := a
      simp only at hRC hRA hRL
      clear hlw hlo hsho hg okc oka h8 hP
      obtain ⟨W, eW⟩ : ∃ W, W = (w2.alloc (.cells #[.int .i64 s1, .int .i64 o, .int .i64 t, .int .i64 f, .int .i64 d] 23)).alloc (.cells #[.int .i64 m, .int .i64 b, .bool st] 25) := ⟨_, rfl⟩
      have hb : Below w2.heap.size w2 W := by rw [eW]; exact ((Below.refl _ w2).alloc (Nat.le_refl _) _).alloc (by simp) _
      have hC0 : Blk W w2.heap.size 23 #[.int .i64 s1, .int .i64 o, .int .i64 t, .int .i64 f, .int .i64 d] := by rw [eW]; exact Blk.below (heap_alloc_new w2 _) ((Below.refl _ _).alloc (Nat.le_refl _) _) (by simp)
      have hA0 : Blk W (w2.heap.size + 1) 25 #[.int .i64 m, .int .i64 b, .bool st] := by rw [eW]; exact heap_alloc2_new w2 _ _
      have HF := Lib.hid (HQ.out.trans ((hb2.trans (hb.mono hb2.size)).mono HQ.out.size))
      have HZ : Hid (∀ V, Below W.heap.size W V → (V.cell? ⟨w2.heap.size, 0, none⟩ = some (.int .i64 s1) ∧ V.cell? ⟨w2.heap.size, 1, none⟩ = some (.int .i64 o) ∧ V.cell? ⟨w2.heap.size, 2, none⟩ = some (.int .i64 t) ∧ V.cell? ⟨w2.heap.size, 3, none⟩ = some (.int .i64 f) ∧ V.cell? ⟨w2.heap.size, 4, none⟩ = some (.int .i64 d) ∧ V.cell? ⟨w2.heap.size + 1, 0, none⟩ = some (.int .i64 m) ∧ V.cell? ⟨w2.heap.size + 1, 1, none⟩ = some (.int .i64 b) ∧ V.cell? ⟨w2.heap.size + 1, 2, none⟩ = some (.bool st))) := Lib.hid fun V h => ⟨(hC0.below h hC0.lt).cell 0, (hC0.below h hC0.lt).cell 1, (hC0.below h hC0.lt).cell 2, (hC0.below h hC0.lt).cell 3, (hC0.below h hC0.lt).cell 4, (hA0.below h hA0.lt).cell 0, (hA0.below h hA0.lt).cell 1, (hA0.below h hA0.lt).cell 2⟩
      clear hb hb2 hC0 hA0
      go_wp2_with fail
      rw [← eW]
      clear eW
      have k0 := drew_below5 W
      refine wp_region_noPanic ?_
      refine wp_region_held_drew (S := fun W => W.cell? ⟨w2.heap.size, 0, none⟩ = some (.int .i64 s1) ∧ W.cell? ⟨w2.heap.size, 1, none⟩ = some (.int .i64 o) ∧ W.cell? ⟨w2.heap.size, 2, none⟩ = some (.int .i64 t) ∧ W.cell? ⟨w2.heap.size, 3, none⟩ = some (.int .i64 f) ∧ W.cell? ⟨w2.heap.size, 4, none⟩ = some (.int .i64 d) ∧ W.cell? ⟨w2.heap.size + 1, 0, none⟩ = some (.int .i64 m) ∧ W.cell? ⟨w2.heap.size + 1, 1, none⟩ = some (.int .i64 b) ∧ W.cell? ⟨w2.heap.size + 1, 2, none⟩ = some (.bool st)) (by kernel_rfl) (HZ.out _ k0) (fun hHeld => ?_)
      generalize W.drew = v at *
      refine wpAnyH_take (i := 0) (oi := ⟨some 37, _, _, _, _, _⟩) (v := ?_) rfl (by kernel_rfl) (by kernel_rfl) (by kernel_rfl) (fun _ _ _ h => h) (Or.inl ⟨by rfl, ?_⟩) (by assumption) ?_
      rotate_left 1
      · (intro W hSw; go_simp <;> with_reducible rfl)
      try simp only [Act.put, List.setIfInBounds_toArray, List.set_cons_zero, List.set_cons_succ]
      refine wpAnyH_ready (rs := [1]) (by kernel_rfl) (by simp) ?_
      refine AllReadyH.cons rfl (fun K hK => ?_) AllReadyH.nil
      go_simp
      refine (hRC _).mono ?_
      rintro e v1 ⟨rfl, cv1⟩
      have k1 := k0.trans (cv1.mono k0.size)
      refine hK.out _ _ (HZ.out _ k1) (fun h1 => ?_)
      clear hHeld hK K
      try simp only [Act.put, List.setIfInBounds_toArray, List.set_cons_zero, List.set_cons_succ]
      refine wpAnyH_take (i := 2) (oi := ⟨some 39, _, _, _, _, _⟩) (v := ?_) rfl (by kernel_rfl) (by kernel_rfl) (by kernel_rfl) (fun _ _ _ h => h) (Or.inl ⟨by rfl, ?_⟩) (by assumption) ?_
      rotate_left 1
      · (intro W hSw; go_simp <;> with_reducible rfl)
      try simp only [Act.put, List.setIfInBounds_toArray, List.set_cons_zero, List.set_cons_succ]
      refine wpAnyH_take (i := 3) (oi := ⟨some 40, _, _, _, _, _⟩) (v := ?_) rfl (by kernel_rfl) (by kernel_rfl) (by kernel_rfl) (fun _ _ _ h => h) (Or.inl ⟨by rfl, ?_⟩) (by assumption) ?_
      rotate_left 1
      · (intro W hSw; go_simp <;> with_reducible rfl)
      try simp only [Act.put, List.setIfInBounds_toArray, List.set_cons_zero, List.set_cons_succ]
      refine wpAnyH_ready (rs := [4]) (by kernel_rfl) (by simp) ?_
      refine AllReadyH.cons rfl (fun K hK => ?_) AllReadyH.nil
      go_simp
      refine (hRA _).mono ?_
      rintro e v2 ⟨rfl, cv2⟩
      have k2 := k1.trans (cv2.mono k1.size)
      refine hK.out _ _ (HZ.out _ k2) (fun h2 => ?_)
      clear h1 hK K
      try simp only [Act.put, List.setIfInBounds_toArray, List.set_cons_zero, List.set_cons_succ]
      refine wpAnyH_take (i := 5) (oi := ⟨some 42, _, _, _, _, _⟩) (v := ?_) rfl (by kernel_rfl) (by kernel_rfl) (by kernel_rfl) (fun _ _ _ h => h) (Or.inl ⟨by rfl, ?_⟩) (by assumption) ?_
      rotate_left 1
      · (intro W hSw; go_simp <;> with_reducible rfl)
      try simp only [Act.put, List.setIfInBounds_toArray, List.set_cons_zero, List.set_cons_succ]
      refine wpAnyH_take (i := 6) (oi := ⟨some 43, _, _, _, _, _⟩) (v := ?_) rfl (by kernel_rfl) (by kernel_rfl) (by kernel_rfl) (fun _ _ _ h => h) (Or.inl ⟨by rfl, ?_⟩) (by assumption) ?_
      rotate_left 1
      · (intro W hSw; go_simp <;> with_reducible rfl)
      try simp only [Act.put, List.setIfInBounds_toArray, List.set_cons_zero, List.set_cons_succ]
      refine wpAnyH_take (i := 7) (oi := ⟨some 44, _, _, _, _, _⟩) (v := ?_) rfl (by kernel_rfl) (by kernel_rfl) (by kernel_rfl) (fun _ _ _ h => h) (Or.inl ⟨by rfl, ?_⟩) (by assumption) ?_
      rotate_left 1
      · (intro W hSw; go_simp <;> with_reducible rfl)
      try simp only [Act.put, List.setIfInBounds_toArray, List.set_cons_zero, List.set_cons_succ]
      refine wpAnyH_take (i := 9) (oi := ⟨some 46, _, _, _, _, _⟩) (v := ?_) rfl (by kernel_rfl) (by kernel_rfl) (by kernel_rfl) (fun _ _ _ h => h) (Or.inl ⟨by rfl, ?_⟩) (by assumption) ?_
      rotate_left 1
      · (intro W hSw; go_simp <;> with_reducible rfl)
      try simp only [Act.put, List.setIfInBounds_toArray, List.set_cons_zero, List.set_cons_succ]
      refine wpAnyH_take (i := 10) (oi := ⟨some 47, _, _, _, _, _⟩) (v := ?_) rfl (by kernel_rfl) (by kernel_rfl) (by kernel_rfl) (fun _ _ _ h => h) (Or.inl ⟨by rfl, ?_⟩) (by assumption) ?_
      rotate_left 1
      · (intro W hSw; go_simp <;> with_reducible rfl)
      try simp only [Act.put, List.setIfInBounds_toArray, List.set_cons_zero, List.set_cons_succ]
      refine wpAnyH_ready (rs := [8]) (by kernel_rfl) (by simp) ?_
      refine AllReadyH.cons rfl (fun K hK => ?_) AllReadyH.nil
      go_simp
      refine (hW1 _).mono ?_
      rintro e v3 ⟨p3, rfl, hp3, cv3⟩
      have k3 := k2.trans (cv3.mono k2.size)
      obtain ⟨A3, cap3, rfl, r3⟩ := Row.own hp3
      clear hp3
      refine hK.out _ _ (HZ.out _ k3) (fun h3 => ?_)
      clear h2 hK K
      try simp only [Act.put, List.setIfInBounds_toArray, List.set_cons_zero, List.set_cons_succ]
      refine wpAnyH_ready (rs := [11]) (by kernel_rfl) (by simp) ?_
      refine AllReadyH.cons rfl (fun K hK => ?_) AllReadyH.nil
      go_simp
      refine (hRL _).mono ?_
      rintro e v4 ⟨rfl, cv4⟩
      have k4 := k3.trans (cv4.mono k3.size)
      refine hK.out _ _ (HZ.out _ k4) (fun h4 => ?_)
      clear h3 hK K
      try simp only [Act.put, List.setIfInBounds_toArray, List.set_cons_zero, List.set_cons_succ]
      refine wpAnyH_ready (rs := [12]) (by kernel_rfl) (by simp) ?_
      refine AllReadyH.cons rfl (fun K hK => ?_) AllReadyH.nil
      go_simp
      refine (hW2 _).mono ?_
      rintro e v5 ⟨p5, rfl, hp5, cv5⟩
      have k5 := k4.trans (cv5.mono k4.size)
      obtain ⟨A5, cap5, rfl, r5⟩ := Row.own hp5
      clear hp5
      refine hK.out _ _ (HZ.out _ k5) (fun h5 => ?_)
      clear h4 hK K
      try simp only [Act.put, List.setIfInBounds_toArray, List.set_cons_zero, List.set_cons_succ]
      refine wpAnyH_ready (rs := [13]) (by kernel_rfl) (by simp) ?_
      refine AllReadyH.cons rfl (fun K hK => ?_) AllReadyH.nil
      go_simp
      refine (texts_same A3 A5 8 cap3 cap5 ws _ _ v5 ((r3.below cv4).below (cv5.mono cv4.size)) r5).mono ?_
      rintro e v6 ⟨rfl, cv6⟩
      have k6 := k5.trans (cv6.mono k5.size)
      refine hK.out _ _ (HZ.out _ k6) (fun h6 => ?_)
      clear h5 hK K
      try simp only [Act.put, List.setIfInBounds_toArray, List.set_cons_zero, List.set_cons_succ]
      refine wpAnyH_take (i := 14) (oi := ⟨some 51, _, _, _, _, _⟩) (v := ?_) rfl (by kernel_rfl) (by kernel_rfl) (by kernel_rfl) (fun _ _ _ h => h) (Or.inl ⟨by rfl, ?_⟩) (by assumption) ?_
      rotate_left 1
      · (intro W hSw; go_simp <;> with_reducible rfl)
      try simp only [Act.put, List.setIfInBounds_toArray, List.set_cons_zero, List.set_cons_succ]
      refine wpAnyH_take (i := 15) (oi := ⟨some 2, _, _, _, _, _⟩) (v := ?_) rfl (by kernel_rfl) (by kernel_rfl) (by kernel_rfl) (fun _ _ _ h => h) (Or.inl ⟨by rfl, ?_⟩) (by assumption) ?_
      rotate_left 1
      · (intro W hSw; go_simp <;> with_reducible rfl)
      try simp only [Act.put, List.setIfInBounds_toArray, List.set_cons_zero, List.set_cons_succ]
      refine wpAnyH_done (by kernel_rfl) ?_ _
      refine NoPanic.normal ?_
      clear h6
      go_wp2
      go_ret
      exact ⟨by simp, HF.out.trans (k6.mono HF.out.size)⟩
end Go.Proofs.YtmkdmnaonddghaaDoor
