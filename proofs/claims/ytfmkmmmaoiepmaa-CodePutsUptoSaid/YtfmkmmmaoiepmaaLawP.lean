/- The octets of any state, and of any part of one, are as the page says. Conditions: lists of at most 1048576. -/
import Derived.Test.YtfmkmmmaoiepmaaAlive
import Derived.Test.YtfmkmmmaoiepmaaWides
namespace Go.Proofs.Ytfmkmmmaoiepmaa
set_option linter.unusedSimpArgs false
set_option linter.unusedVariables false
open Go.RowKit Go.ChangeShapes Go.WideShapes

set_option maxRecDepth 100000 in
set_option maxHeartbeats 4000000 in
theorem puts_walk (s : St) (c : Sc) (bl : List Bu) (w : World) (hs : Stat w s c bl) (ks : Caps c bl) : Calls Try.prog 3 #[.agg s.cs.toArray] w fun e w' => e = .returned (.bool true) ∧ Below w.heap.size w w' := by
  have hokq := hs.ok
  have hq := few_stat hs
  have hfq := few_fits ks
  obtain ⟨q, eq⟩ : ∃ x, fewS s = x := ⟨_, rfl⟩
  obtain ⟨d, ed⟩ : ∃ x, c.few = x := ⟨_, rfl⟩
  obtain ⟨bq, ebq⟩ : ∃ x, bl.take 4 = x := ⟨_, rfl⟩
  have dfewq := fun W => few_any s hokq W
  rw [eq] at hq dfewq
  rw [ed] at hq hfq
  rw [ebq] at hq hfq
  clear eq ed ebq hs ks hokq
  have HR := Lib.hid hq
  have HF := Lib.hid hfq
  have L1 := Lib.hid hq.th.len
  have M1 := Lib.hid hq.bu.len
  have mx := Sees.most hq.th.sees
  have rm := Sees.room hq.th.sees
  have mx2 := Sees.most hq.bu.sees
  have rm2 := Sees.room hq.bu.sees
  unfold maxLen at mx mx2
  obtain ⟨TS, eTS⟩ : ∃ T, strOfNums (octs d.sh) = T := ⟨_, rfl⟩
  obtain ⟨TP, eTP⟩ : ∃ T, strOfNums (octs d.ns) = T := ⟨_, rfl⟩
  have ES := Lib.hid eTS
  have EP := Lib.hid eTP
  clear eTS eTP hfq
  obtain ⟨p1, f1⟩ : ∃ p, w.heap.size = p := ⟨_, rfl⟩
  obtain ⟨W1, ea1⟩ : ∃ W, w.alloc (.cells s.cs.toArray 29) = W := ⟨_, rfl⟩
  have ka1 : Below w.heap.size w W1 := by rw [← ea1]; exact (Below.refl _ w).alloc (Nat.le_refl _) _
  have b1 : Blk W1 p1 29 s.cs.toArray := by rw [← ea1]; exact blk_new w _ 29 _ f1
  have kk : Below w.heap.size w W1 := ka1
  have hp1 : w.heap.size ≤ p1 := Nat.le_of_eq f1
  clear ka1
  go_enter Try.func3, Try.ntmps3
  go_wp2_with fail
  refine (alive_any _).mono ?_
  rintro e W2 ⟨rfl, k1⟩
  replace b1 := b1.on k1
  replace kk := kk.trans (k1.mono kk.size)
  clear k1
  go_wp2_with (((with_reducible refine at_load 29 (.tmp 1) ?_); refine wpList_load_row rfl 29 (.tmp 1) rfl p1 rfl 29 s.cs.toArray (0, 0) _ b1 Try.underlying29 rfl (sizeS _) ?_))
  refine (dfewq _).mono ?_
  rintro e W3 ⟨rfl, k1⟩
  replace b1 := b1.on k1
  replace kk := kk.trans (k1.mono kk.size)
  clear k1
  clear dfewq
  obtain ⟨W4, es4⟩ : ∃ W, W3.setRow p1 q.cs.toArray = W := ⟨_, rfl⟩
  have bo1 := b1
  replace b1 : Blk W4 p1 29 q.cs.toArray := row_named b1 es4
  replace kk := kk.trans (row_below es4 hp1 kk.size)
  have c4_1_0 : W4.cell? ⟨p1, 0, none⟩ = some (.slice q.th.A q.th.n q.th.cap) := b1.cell 0
  go_wp2_with (((with_reducible refine at_store 29 (.tmp 1) (.tmp 8) ?_); refine wpList_store_row rfl 29 (.tmp 1) (.tmp 8) rfl p1 q.cs.toArray rfl rfl 29 s.cs.toArray bo1 (sizeS _) rfl (St.onea _) ?_; rw [es4]))
  clear bo1
  clear c4_1_0
  go_loopw [3] (fun i wr => ∃ k : Nat, k ≤ q.th.n ∧ i = .int .i64 k ∧ Blk wr p1 29 q.cs.toArray ∧ Below w.heap.size w wr) (fun i _ => q.th.n - (intOf i).toNat)
  case atStart => exact ⟨0, Nat.zero_le _, rfl, b1, by first | exact kk | (rw [f1]; exact kk) | (rw [f1] at kk; exact kk)⟩
  case round =>
    clear b1 kk
    obtain ⟨k, hk, rfl, b1, kk⟩ := hrel
    have hr := HR.out.on kk
    by_cases hlt : k < q.th.n
    · have hkI : (k : Int) < (q.th.n : Int) := by omega
      have hk0 : (0 : Int) ≤ (k : Int) := by omega
      have ca : wr.cell? ⟨p1, 0, none⟩ = some (.slice q.th.A q.th.n q.th.cap) := b1.cell 0
      go_wp2_with fail
      clear ca
      obtain ⟨wd, ed⟩ : ∃ W, wr.drew = W := ⟨_, rfl⟩
      have hd : Below wr.heap.size wr wd := by rw [← ed]; exact (Below.refl _ _).drew
      replace b1 := b1.on hd
      replace kk := kk.trans (hd.mono kk.size)
      replace hr := hr.on hd
      clear hd
      have kS : Kept (fun g => False) wd wd := Kept.refl _ _
      obtain ⟨g, oo, eA, c0⟩ := hr.th.get hlt
      have EA := Lib.hid eA
      clear eA
      have hy := getD_mem (show k < d.th.length by rw [L1.out]; exact hlt) noTc
      generalize d.th.getD k noTc = y at c0 hy
      obtain ⟨T, eT⟩ : ∃ T, strOfNums (octs y.ns) = T := ⟨_, rfl⟩
      have ET := Lib.hid eT
      clear eT
      have tS : ∀ W, Kept (fun g => False) wd W → W.cell? ⟨p1, 0, none⟩ = some (.slice (some ⟨g, oo, none⟩) q.th.n q.th.cap) := fun W hW => by rw [← EA.out]; exact (b1.kept hW (fun h => h)).cell 0
      refine wp_region_noPanic ?_
      refine wp_region_held_drew (S := (fun W => Kept (fun g => False) wd W)) (by kernel_rfl) (by rw [ed]; exact kS) (fun hHeld => ?_)
      rw [ed] at hHeld ⊢
      refine wpAnyH_take (i := 0) (oi := ⟨some 16, _, _, _, _, _⟩) (v := ?_) rfl (by kernel_rfl) (by kernel_rfl) (by kernel_rfl) (fun _ _ _ h => h) (Or.inl ⟨by rfl, ?_⟩) (by assumption) ?_
      rotate_left 1
      · (intro W hSw; go_simp <;> with_reducible rfl)
      try simp only [Act.put, List.setIfInBounds_toArray, List.set_cons_zero, List.set_cons_succ]
      refine wpAnyH_take (i := 1) (oi := ⟨some 17, _, _, _, _, _⟩) (v := ?_) rfl (by kernel_rfl) (by kernel_rfl) (by kernel_rfl) (fun _ _ _ h => h) (Or.inl ⟨by rfl, ?_⟩) (by assumption) ?_
      rotate_left 1
      · (intro W hSw; obtain q0 := tS W hSw; go_simp <;> with_reducible rfl)
      try simp only [Act.put, List.setIfInBounds_toArray, List.set_cons_zero, List.set_cons_succ]
      refine wpAnyH_take (i := 2) (oi := ⟨some 18, _, _, _, _, _⟩) (v := ?_) rfl (by kernel_rfl) (by kernel_rfl) (by kernel_rfl) (fun _ _ _ h => h) (Or.inl ⟨by rfl, ?_⟩) (by assumption) ?_
      rotate_left 1
      · (intro W hSw; go_simp <;> with_reducible rfl)
      try simp only [Act.put, List.setIfInBounds_toArray, List.set_cons_zero, List.set_cons_succ]
      refine wpAnyH_take (i := 3) (oi := ⟨some 19, _, _, _, _, _⟩) (v := ?_) rfl (by kernel_rfl) (by kernel_rfl) (by kernel_rfl) (fun _ _ _ h => h) (Or.inl ⟨by rfl, ?_⟩) (by assumption) ?_
      rotate_left 1
      · (intro W hSw; go_simp <;> with_reducible rfl)
      try simp only [Act.put, List.setIfInBounds_toArray, List.set_cons_zero, List.set_cons_succ]
      refine wpAnyH_take (i := 4) (oi := ⟨some 20, _, _, _, _, _⟩) (v := .agg (List.toArray (y.x.cs))) rfl (by kernel_rfl) (by kernel_rfl) (by kernel_rfl) (fun _ _ _ h => h) (yieldsIf_load_mid (by rfl) 41 (.tmp 19) rfl g (oo + k * 22) rfl (y.x.cs) _ (fun W hW => kept_range c0 hW) Try.underlying41 rfl size41) (by assumption) ?_
      try simp only [Act.put, List.setIfInBounds_toArray, List.set_cons_zero, List.set_cons_succ]
      refine wpAnyH_take (i := 7) (oi := ⟨some 23, _, _, _, _, _⟩) (v := ?_) rfl (by kernel_rfl) (by kernel_rfl) (by kernel_rfl) (fun _ _ _ h => h) (Or.inl ⟨by rfl, ?_⟩) (by assumption) ?_
      rotate_left 1
      · (intro W hSw; go_simp <;> with_reducible rfl)
      try simp only [Act.put, List.setIfInBounds_toArray, List.set_cons_zero, List.set_cons_succ]
      refine wpAnyH_take (i := 8) (oi := ⟨some 24, _, _, _, _, _⟩) (v := ?_) rfl (by kernel_rfl) (by kernel_rfl) (by kernel_rfl) (fun _ _ _ h => h) (Or.inl ⟨by rfl, ?_⟩) (by assumption) ?_
      rotate_left 1
      · (intro W hSw; obtain q0 := tS W hSw; go_simp <;> with_reducible rfl)
      try simp only [Act.put, List.setIfInBounds_toArray, List.set_cons_zero, List.set_cons_succ]
      refine wpAnyH_take (i := 9) (oi := ⟨some 25, _, _, _, _, _⟩) (v := ?_) rfl (by kernel_rfl) (by kernel_rfl) (by kernel_rfl) (fun _ _ _ h => h) (Or.inl ⟨by rfl, ?_⟩) (by assumption) ?_
      rotate_left 1
      · (intro W hSw; go_simp <;> with_reducible rfl)
      try simp only [Act.put, List.setIfInBounds_toArray, List.set_cons_zero, List.set_cons_succ]
      refine wpAnyH_take (i := 10) (oi := ⟨some 26, _, _, _, _, _⟩) (v := ?_) rfl (by kernel_rfl) (by kernel_rfl) (by kernel_rfl) (fun _ _ _ h => h) (Or.inl ⟨by rfl, ?_⟩) (by assumption) ?_
      rotate_left 1
      · (intro W hSw; go_simp <;> with_reducible rfl)
      try simp only [Act.put, List.setIfInBounds_toArray, List.set_cons_zero, List.set_cons_succ]
      refine wpAnyH_take (i := 11) (oi := ⟨some 27, _, _, _, _, _⟩) (v := .agg (List.toArray (y.x.cs))) rfl (by kernel_rfl) (by kernel_rfl) (by kernel_rfl) (fun _ _ _ h => h) (yieldsIf_load_mid (by rfl) 41 (.tmp 26) rfl g (oo + k * 22) rfl (y.x.cs) _ (fun W hW => kept_range c0 hW) Try.underlying41 rfl size41) (by assumption) ?_
      try simp only [Act.put, List.setIfInBounds_toArray, List.set_cons_zero, List.set_cons_succ]
      refine wpAnyH_ready (rs := [5]) (by kernel_rfl) (by simp) ?_
      refine AllReadyH.cons (o := ⟨some 21, _, _, _, _, _⟩) rfl (fun K hK => ?_) AllReadyH.nil
      go_simp
      refine (cthread_any y wd (hr.th.reads y hy) (HF.out.t y hy)).mono ?_
      rintro e w1 ⟨A1, n1, c1, rfl, o1, hb1⟩
      have b1_1 := b1.on hb1
      have kk_1 := kk.trans (hb1.mono kk.size)
      have hr_1 := hr.on hb1
      have S1 : (fun W => Kept (fun g => False) wd W) w1 := Kept.next kS (kept_below (fun _ => False) hb1) (fun _ h => h.elim)
      refine hK.out _ _ S1 (fun h1 => ?_)
      clear hHeld hK K
      try simp only [Act.put, List.setIfInBounds_toArray, List.set_cons_zero, List.set_cons_succ]
      refine wpAnyH_ready (rs := [6, 12]) (by kernel_rfl) (by simp) ?_
      refine AllReadyH.cons (o := ⟨some 22, _, _, _, _, _⟩) rfl (fun K hK => ?_) (AllReadyH.cons (o := ⟨some 28, _, _, _, _, _⟩) rfl (fun K hK => ?_) AllReadyH.nil)
      · rw [if_pos (by rfl)]
        have x2 := o1.text (P := Try.prog) 32 9 5 Try.underlying32 Try.underlying5 Try.underlying9
        rw [ET.out] at x2
        go_simp
        clear x2
        refine hK.out _ _ S1 (fun h2 => ?_)
        clear h1 hK K
        try simp only [Act.put, List.setIfInBounds_toArray, List.set_cons_zero, List.set_cons_succ]
        refine wpAnyH_ready (rs := [12]) (by kernel_rfl) (by simp) ?_
        refine AllReadyH.cons (o := ⟨some 28, _, _, _, _, _⟩) rfl (fun K hK => ?_) AllReadyH.nil
        go_simp
        refine (rthread_any y w1 (hr_1.th.reads y hy) (HF.out.t y hy)).mono ?_
        rintro e w3 ⟨A3, n3, c3, rfl, o3, hb3⟩
        have b1_3 := b1_1.on hb3
        have kk_3 := kk_1.trans (hb3.mono kk_1.size)
        have hr_3 := hr_1.on hb3
        have oa_3 := o1.on hb3
        have S3 : (fun W => Kept (fun g => False) wd W) w3 := Kept.next S1 (kept_below (fun _ => False) hb3) (fun _ h => h.elim)
        refine hK.out _ _ S3 (fun h3 => ?_)
        clear h2 hK K
        try simp only [Act.put, List.setIfInBounds_toArray, List.set_cons_zero, List.set_cons_succ]
        refine wpAnyH_ready (rs := [13]) (by kernel_rfl) (by simp) ?_
        refine AllReadyH.cons (o := ⟨some 29, _, _, _, _, _⟩) rfl (fun K hK => ?_) AllReadyH.nil
        rw [if_pos (by rfl)]
        have x4 := o3.text (P := Try.prog) 32 9 5 Try.underlying32 Try.underlying5 Try.underlying9
        rw [ET.out] at x4
        go_simp
        clear x4
        refine hK.out _ _ S3 (fun h4 => ?_)
        clear h3 hK K
        try simp only [Act.put, List.setIfInBounds_toArray, List.set_cons_zero, List.set_cons_succ]
        refine wpAnyH_take (i := 14) (oi := ⟨some 30, _, _, _, _, _⟩) (v := ?_) rfl (by kernel_rfl) (by kernel_rfl) (by kernel_rfl) (fun _ _ _ h => h) (Or.inl ⟨by rfl, ?_⟩) (by assumption) ?_
        rotate_left 1
        · (intro W hSw; go_simp <;> with_reducible rfl)
        try simp only [Act.put, List.setIfInBounds_toArray, List.set_cons_zero, List.set_cons_succ]
        refine wpAnyH_done (by kernel_rfl) ?_ _
        refine NoPanic.normal ?_
        go_wp2
        go_roundw
        case rel => exact ⟨k + 1, by omega, by go_num, b1_3, kk_3⟩
        case measure => simp [intOf]; omega
      · go_simp
        refine (rthread_any y w1 (hr_1.th.reads y hy) (HF.out.t y hy)).mono ?_
        rintro e w5 ⟨A5, n5, c5, rfl, o5, hb5⟩
        have b1_5 := b1_1.on hb5
        have kk_5 := kk_1.trans (hb5.mono kk_1.size)
        have hr_5 := hr_1.on hb5
        have oa_5 := o1.on hb5
        have S5 : (fun W => Kept (fun g => False) wd W) w5 := Kept.next S1 (kept_below (fun _ => False) hb5) (fun _ h => h.elim)
        refine hK.out _ _ S5 (fun h5 => ?_)
        clear h1 hK K
        try simp only [Act.put, List.setIfInBounds_toArray, List.set_cons_zero, List.set_cons_succ]
        refine wpAnyH_ready (rs := [6, 13]) (by kernel_rfl) (by simp) ?_
        refine AllReadyH.cons (o := ⟨some 22, _, _, _, _, _⟩) rfl (fun K hK => ?_) (AllReadyH.cons (o := ⟨some 29, _, _, _, _, _⟩) rfl (fun K hK => ?_) AllReadyH.nil)
        · rw [if_pos (by rfl)]
          have x6 := oa_5.text (P := Try.prog) 32 9 5 Try.underlying32 Try.underlying5 Try.underlying9
          rw [ET.out] at x6
          go_simp
          clear x6
          refine hK.out _ _ S5 (fun h6 => ?_)
          clear h5 hK K
          try simp only [Act.put, List.setIfInBounds_toArray, List.set_cons_zero, List.set_cons_succ]
          refine wpAnyH_ready (rs := [13]) (by kernel_rfl) (by simp) ?_
          refine AllReadyH.cons (o := ⟨some 29, _, _, _, _, _⟩) rfl (fun K hK => ?_) AllReadyH.nil
          rw [if_pos (by rfl)]
          have x7 := o5.text (P := Try.prog) 32 9 5 Try.underlying32 Try.underlying5 Try.underlying9
          rw [ET.out] at x7
          go_simp
          clear x7
          refine hK.out _ _ S5 (fun h7 => ?_)
          clear h6 hK K
          try simp only [Act.put, List.setIfInBounds_toArray, List.set_cons_zero, List.set_cons_succ]
          refine wpAnyH_take (i := 14) (oi := ⟨some 30, _, _, _, _, _⟩) (v := ?_) rfl (by kernel_rfl) (by kernel_rfl) (by kernel_rfl) (fun _ _ _ h => h) (Or.inl ⟨by rfl, ?_⟩) (by assumption) ?_
          rotate_left 1
          · (intro W hSw; go_simp <;> with_reducible rfl)
          try simp only [Act.put, List.setIfInBounds_toArray, List.set_cons_zero, List.set_cons_succ]
          refine wpAnyH_done (by kernel_rfl) ?_ _
          refine NoPanic.normal ?_
          go_wp2
          go_roundw
          case rel => exact ⟨k + 1, by omega, by go_num, b1_5, kk_5⟩
          case measure => simp [intOf]; omega
        · rw [if_pos (by rfl)]
          have x8 := o5.text (P := Try.prog) 32 9 5 Try.underlying32 Try.underlying5 Try.underlying9
          rw [ET.out] at x8
          go_simp
          clear x8
          refine hK.out _ _ S5 (fun h8 => ?_)
          clear h5 hK K
          try simp only [Act.put, List.setIfInBounds_toArray, List.set_cons_zero, List.set_cons_succ]
          refine wpAnyH_ready (rs := [6]) (by kernel_rfl) (by simp) ?_
          refine AllReadyH.cons (o := ⟨some 22, _, _, _, _, _⟩) rfl (fun K hK => ?_) AllReadyH.nil
          rw [if_pos (by rfl)]
          have x9 := oa_5.text (P := Try.prog) 32 9 5 Try.underlying32 Try.underlying5 Try.underlying9
          rw [ET.out] at x9
          go_simp
          clear x9
          refine hK.out _ _ S5 (fun h9 => ?_)
          clear h8 hK K
          try simp only [Act.put, List.setIfInBounds_toArray, List.set_cons_zero, List.set_cons_succ]
          refine wpAnyH_take (i := 14) (oi := ⟨some 30, _, _, _, _, _⟩) (v := ?_) rfl (by kernel_rfl) (by kernel_rfl) (by kernel_rfl) (fun _ _ _ h => h) (Or.inl ⟨by rfl, ?_⟩) (by assumption) ?_
          rotate_left 1
          · (intro W hSw; go_simp <;> with_reducible rfl)
          try simp only [Act.put, List.setIfInBounds_toArray, List.set_cons_zero, List.set_cons_succ]
          refine wpAnyH_done (by kernel_rfl) ?_ _
          refine NoPanic.normal ?_
          go_wp2
          go_roundw
          case rel => exact ⟨k + 1, by omega, by go_num, b1_5, kk_5⟩
          case measure => simp [intOf]; omega
    · have hkI : ¬ (k : Int) < (q.th.n : Int) := by omega
      have ca : wr.cell? ⟨p1, 0, none⟩ = some (.slice q.th.A q.th.n q.th.cap) := b1.cell 0
      have cb : wr.cell? ⟨p1, 1, none⟩ = some (.slice q.bu.A q.bu.n q.bu.cap) := b1.cell 1
      go_wp2
      clear ca cb hr
      go_loopw [4] (fun i wr => ∃ k : Nat, k ≤ q.bu.n ∧ i = .int .i64 k ∧ Blk wr p1 29 q.cs.toArray ∧ Below w.heap.size w wr) (fun i _ => q.bu.n - (intOf i).toNat)
      case atStart => exact ⟨0, Nat.zero_le _, rfl, b1, by first | exact kk | (rw [f1]; exact kk) | (rw [f1] at kk; exact kk)⟩
      case round =>
        clear b1 kk
        obtain ⟨k, hk, rfl, b1, kk⟩ := hrel
        have hr := HR.out.on kk
        by_cases hlt : k < q.bu.n
        · have hkI : (k : Int) < (q.bu.n : Int) := by omega
          have hk0 : (0 : Int) ≤ (k : Int) := by omega
          have ca : wr.cell? ⟨p1, 1, none⟩ = some (.slice q.bu.A q.bu.n q.bu.cap) := b1.cell 1
          go_wp2_with fail
          clear ca
          obtain ⟨wd, ed⟩ : ∃ W, wr.drew = W := ⟨_, rfl⟩
          have hd : Below wr.heap.size wr wd := by rw [← ed]; exact (Below.refl _ _).drew
          replace b1 := b1.on hd
          replace kk := kk.trans (hd.mono kk.size)
          replace hr := hr.on hd
          clear hd
          have kS : Kept (fun g => False) wd wd := Kept.refl _ _
          obtain ⟨g, oo, eA, c0⟩ := hr.bu.get hlt
          have EA := Lib.hid eA
          clear eA
          have hy := getD_mem (show k < bq.length by rw [M1.out]; exact hlt) noBu
          generalize bq.getD k noBu = y at c0 hy
          obtain ⟨T, eT⟩ : ∃ T, strOfNums (octs y.ns) = T := ⟨_, rfl⟩
          have ET := Lib.hid eT
          clear eT
          have tS : ∀ W, Kept (fun g => False) wd W → W.cell? ⟨p1, 1, none⟩ = some (.slice (some ⟨g, oo, none⟩) q.bu.n q.bu.cap) ∧ W.cell? ⟨g, oo + k, none⟩ = some (.slice y.1.A y.1.n y.1.cap) := fun W hW => ⟨by rw [← EA.out]; exact (b1.kept hW (fun h => h)).cell 1, kept_cell' c0 hW⟩
          refine wp_region_noPanic ?_
          refine wp_region_held_drew (S := (fun W => Kept (fun g => False) wd W)) (by kernel_rfl) (by rw [ed]; exact kS) (fun hHeld => ?_)
          rw [ed] at hHeld ⊢
          refine wpAnyH_take (i := 0) (oi := ⟨some 38, _, _, _, _, _⟩) (v := ?_) rfl (by kernel_rfl) (by kernel_rfl) (by kernel_rfl) (fun _ _ _ h => h) (Or.inl ⟨by rfl, ?_⟩) (by assumption) ?_
          rotate_left 1
          · (intro W hSw; go_simp <;> with_reducible rfl)
          try simp only [Act.put, List.setIfInBounds_toArray, List.set_cons_zero, List.set_cons_succ]
          refine wpAnyH_take (i := 1) (oi := ⟨some 39, _, _, _, _, _⟩) (v := ?_) rfl (by kernel_rfl) (by kernel_rfl) (by kernel_rfl) (fun _ _ _ h => h) (Or.inl ⟨by rfl, ?_⟩) (by assumption) ?_
          rotate_left 1
          · (intro W hSw; obtain ⟨q0, q1⟩ := tS W hSw; go_simp <;> with_reducible rfl)
          try simp only [Act.put, List.setIfInBounds_toArray, List.set_cons_zero, List.set_cons_succ]
          refine wpAnyH_take (i := 2) (oi := ⟨some 40, _, _, _, _, _⟩) (v := ?_) rfl (by kernel_rfl) (by kernel_rfl) (by kernel_rfl) (fun _ _ _ h => h) (Or.inl ⟨by rfl, ?_⟩) (by assumption) ?_
          rotate_left 1
          · (intro W hSw; go_simp <;> with_reducible rfl)
          try simp only [Act.put, List.setIfInBounds_toArray, List.set_cons_zero, List.set_cons_succ]
          refine wpAnyH_take (i := 3) (oi := ⟨some 41, _, _, _, _, _⟩) (v := ?_) rfl (by kernel_rfl) (by kernel_rfl) (by kernel_rfl) (fun _ _ _ h => h) (Or.inl ⟨by rfl, ?_⟩) (by assumption) ?_
          rotate_left 1
          · (intro W hSw; go_simp <;> with_reducible rfl)
          try simp only [Act.put, List.setIfInBounds_toArray, List.set_cons_zero, List.set_cons_succ]
          refine wpAnyH_take (i := 4) (oi := ⟨some 42, _, _, _, _, _⟩) (v := ?_) rfl (by kernel_rfl) (by kernel_rfl) (by kernel_rfl) (fun _ _ _ h => h) (Or.inl ⟨by rfl, ?_⟩) (by assumption) ?_
          rotate_left 1
          · (intro W hSw; obtain ⟨q0, q1⟩ := tS W hSw; go_simp <;> with_reducible rfl)
          try simp only [Act.put, List.setIfInBounds_toArray, List.set_cons_zero, List.set_cons_succ]
          refine wpAnyH_take (i := 7) (oi := ⟨some 45, _, _, _, _, _⟩) (v := ?_) rfl (by kernel_rfl) (by kernel_rfl) (by kernel_rfl) (fun _ _ _ h => h) (Or.inl ⟨by rfl, ?_⟩) (by assumption) ?_
          rotate_left 1
          · (intro W hSw; go_simp <;> with_reducible rfl)
          try simp only [Act.put, List.setIfInBounds_toArray, List.set_cons_zero, List.set_cons_succ]
          refine wpAnyH_take (i := 8) (oi := ⟨some 46, _, _, _, _, _⟩) (v := ?_) rfl (by kernel_rfl) (by kernel_rfl) (by kernel_rfl) (fun _ _ _ h => h) (Or.inl ⟨by rfl, ?_⟩) (by assumption) ?_
          rotate_left 1
          · (intro W hSw; obtain ⟨q0, q1⟩ := tS W hSw; go_simp <;> with_reducible rfl)
          try simp only [Act.put, List.setIfInBounds_toArray, List.set_cons_zero, List.set_cons_succ]
          refine wpAnyH_take (i := 9) (oi := ⟨some 47, _, _, _, _, _⟩) (v := ?_) rfl (by kernel_rfl) (by kernel_rfl) (by kernel_rfl) (fun _ _ _ h => h) (Or.inl ⟨by rfl, ?_⟩) (by assumption) ?_
          rotate_left 1
          · (intro W hSw; go_simp <;> with_reducible rfl)
          try simp only [Act.put, List.setIfInBounds_toArray, List.set_cons_zero, List.set_cons_succ]
          refine wpAnyH_take (i := 10) (oi := ⟨some 48, _, _, _, _, _⟩) (v := ?_) rfl (by kernel_rfl) (by kernel_rfl) (by kernel_rfl) (fun _ _ _ h => h) (Or.inl ⟨by rfl, ?_⟩) (by assumption) ?_
          rotate_left 1
          · (intro W hSw; go_simp <;> with_reducible rfl)
          try simp only [Act.put, List.setIfInBounds_toArray, List.set_cons_zero, List.set_cons_succ]
          refine wpAnyH_take (i := 11) (oi := ⟨some 49, _, _, _, _, _⟩) (v := ?_) rfl (by kernel_rfl) (by kernel_rfl) (by kernel_rfl) (fun _ _ _ h => h) (Or.inl ⟨by rfl, ?_⟩) (by assumption) ?_
          rotate_left 1
          · (intro W hSw; obtain ⟨q0, q1⟩ := tS W hSw; go_simp <;> with_reducible rfl)
          try simp only [Act.put, List.setIfInBounds_toArray, List.set_cons_zero, List.set_cons_succ]
          refine wpAnyH_ready (rs := [5]) (by kernel_rfl) (by simp) ?_
          refine AllReadyH.cons (o := ⟨some 43, _, _, _, _, _⟩) rfl (fun K hK => ?_) AllReadyH.nil
          go_simp
          refine (show Calls Try.prog 10 #[.slice y.1.A y.1.n y.1.cap] wd _ from (cbuffer_any y wd (hr.bu.reads y hy) (HF.out.b y hy))).mono ?_
          rintro e w1 ⟨A1, n1, c1, rfl, o1, hb1⟩
          have b1_1 := b1.on hb1
          have kk_1 := kk.trans (hb1.mono kk.size)
          have hr_1 := hr.on hb1
          have S1 : (fun W => Kept (fun g => False) wd W) w1 := Kept.next kS (kept_below (fun _ => False) hb1) (fun _ h => h.elim)
          refine hK.out _ _ S1 (fun h1 => ?_)
          clear hHeld hK K
          try simp only [Act.put, List.setIfInBounds_toArray, List.set_cons_zero, List.set_cons_succ]
          refine wpAnyH_ready (rs := [6, 12]) (by kernel_rfl) (by simp) ?_
          refine AllReadyH.cons (o := ⟨some 44, _, _, _, _, _⟩) rfl (fun K hK => ?_) (AllReadyH.cons (o := ⟨some 50, _, _, _, _, _⟩) rfl (fun K hK => ?_) AllReadyH.nil)
          · rw [if_pos (by rfl)]
            have x2 := o1.text (P := Try.prog) 32 9 5 Try.underlying32 Try.underlying5 Try.underlying9
            rw [ET.out] at x2
            go_simp
            clear x2
            refine hK.out _ _ S1 (fun h2 => ?_)
            clear h1 hK K
            try simp only [Act.put, List.setIfInBounds_toArray, List.set_cons_zero, List.set_cons_succ]
            refine wpAnyH_ready (rs := [12]) (by kernel_rfl) (by simp) ?_
            refine AllReadyH.cons (o := ⟨some 50, _, _, _, _, _⟩) rfl (fun K hK => ?_) AllReadyH.nil
            go_simp
            refine (show Calls Try.prog 11 #[.slice y.1.A y.1.n y.1.cap] w1 (Outs (octs y.ns) w1) from (rbuffer_any y.2 y.1.A y.1.n y.1.cap w1 (hr_1.bu.reads y hy) (by have h1 := bu_len (HF.out.b y hy); unfold Bu.ns at h1; omega))).mono ?_
            rintro e w3 ⟨A3, n3, c3, rfl, o3, hb3⟩
            have b1_3 := b1_1.on hb3
            have kk_3 := kk_1.trans (hb3.mono kk_1.size)
            have hr_3 := hr_1.on hb3
            have oa_3 := o1.on hb3
            have S3 : (fun W => Kept (fun g => False) wd W) w3 := Kept.next S1 (kept_below (fun _ => False) hb3) (fun _ h => h.elim)
            refine hK.out _ _ S3 (fun h3 => ?_)
            clear h2 hK K
            try simp only [Act.put, List.setIfInBounds_toArray, List.set_cons_zero, List.set_cons_succ]
            refine wpAnyH_ready (rs := [13]) (by kernel_rfl) (by simp) ?_
            refine AllReadyH.cons (o := ⟨some 51, _, _, _, _, _⟩) rfl (fun K hK => ?_) AllReadyH.nil
            rw [if_pos (by rfl)]
            have x4 := o3.text (P := Try.prog) 32 9 5 Try.underlying32 Try.underlying5 Try.underlying9
            rw [ET.out] at x4
            go_simp
            clear x4
            refine hK.out _ _ S3 (fun h4 => ?_)
            clear h3 hK K
            try simp only [Act.put, List.setIfInBounds_toArray, List.set_cons_zero, List.set_cons_succ]
            refine wpAnyH_take (i := 14) (oi := ⟨some 52, _, _, _, _, _⟩) (v := ?_) rfl (by kernel_rfl) (by kernel_rfl) (by kernel_rfl) (fun _ _ _ h => h) (Or.inl ⟨by rfl, ?_⟩) (by assumption) ?_
            rotate_left 1
            · (intro W hSw; go_simp <;> with_reducible rfl)
            try simp only [Act.put, List.setIfInBounds_toArray, List.set_cons_zero, List.set_cons_succ]
            refine wpAnyH_done (by kernel_rfl) ?_ _
            refine NoPanic.normal ?_
            go_wp2
            go_roundw
            case rel => exact ⟨k + 1, by omega, by go_num, b1_3, kk_3⟩
            case measure => simp [intOf]; omega
          · go_simp
            refine (show Calls Try.prog 11 #[.slice y.1.A y.1.n y.1.cap] w1 (Outs (octs y.ns) w1) from (rbuffer_any y.2 y.1.A y.1.n y.1.cap w1 (hr_1.bu.reads y hy) (by have h1 := bu_len (HF.out.b y hy); unfold Bu.ns at h1; omega))).mono ?_
            rintro e w5 ⟨A5, n5, c5, rfl, o5, hb5⟩
            have b1_5 := b1_1.on hb5
            have kk_5 := kk_1.trans (hb5.mono kk_1.size)
            have hr_5 := hr_1.on hb5
            have oa_5 := o1.on hb5
            have S5 : (fun W => Kept (fun g => False) wd W) w5 := Kept.next S1 (kept_below (fun _ => False) hb5) (fun _ h => h.elim)
            refine hK.out _ _ S5 (fun h5 => ?_)
            clear h1 hK K
            try simp only [Act.put, List.setIfInBounds_toArray, List.set_cons_zero, List.set_cons_succ]
            refine wpAnyH_ready (rs := [6, 13]) (by kernel_rfl) (by simp) ?_
            refine AllReadyH.cons (o := ⟨some 44, _, _, _, _, _⟩) rfl (fun K hK => ?_) (AllReadyH.cons (o := ⟨some 51, _, _, _, _, _⟩) rfl (fun K hK => ?_) AllReadyH.nil)
            · rw [if_pos (by rfl)]
              have x6 := oa_5.text (P := Try.prog) 32 9 5 Try.underlying32 Try.underlying5 Try.underlying9
              rw [ET.out] at x6
              go_simp
              clear x6
              refine hK.out _ _ S5 (fun h6 => ?_)
              clear h5 hK K
              try simp only [Act.put, List.setIfInBounds_toArray, List.set_cons_zero, List.set_cons_succ]
              refine wpAnyH_ready (rs := [13]) (by kernel_rfl) (by simp) ?_
              refine AllReadyH.cons (o := ⟨some 51, _, _, _, _, _⟩) rfl (fun K hK => ?_) AllReadyH.nil
              rw [if_pos (by rfl)]
              have x7 := o5.text (P := Try.prog) 32 9 5 Try.underlying32 Try.underlying5 Try.underlying9
              rw [ET.out] at x7
              go_simp
              clear x7
              refine hK.out _ _ S5 (fun h7 => ?_)
              clear h6 hK K
              try simp only [Act.put, List.setIfInBounds_toArray, List.set_cons_zero, List.set_cons_succ]
              refine wpAnyH_take (i := 14) (oi := ⟨some 52, _, _, _, _, _⟩) (v := ?_) rfl (by kernel_rfl) (by kernel_rfl) (by kernel_rfl) (fun _ _ _ h => h) (Or.inl ⟨by rfl, ?_⟩) (by assumption) ?_
              rotate_left 1
              · (intro W hSw; go_simp <;> with_reducible rfl)
              try simp only [Act.put, List.setIfInBounds_toArray, List.set_cons_zero, List.set_cons_succ]
              refine wpAnyH_done (by kernel_rfl) ?_ _
              refine NoPanic.normal ?_
              go_wp2
              go_roundw
              case rel => exact ⟨k + 1, by omega, by go_num, b1_5, kk_5⟩
              case measure => simp [intOf]; omega
            · rw [if_pos (by rfl)]
              have x8 := o5.text (P := Try.prog) 32 9 5 Try.underlying32 Try.underlying5 Try.underlying9
              rw [ET.out] at x8
              go_simp
              clear x8
              refine hK.out _ _ S5 (fun h8 => ?_)
              clear h5 hK K
              try simp only [Act.put, List.setIfInBounds_toArray, List.set_cons_zero, List.set_cons_succ]
              refine wpAnyH_ready (rs := [6]) (by kernel_rfl) (by simp) ?_
              refine AllReadyH.cons (o := ⟨some 44, _, _, _, _, _⟩) rfl (fun K hK => ?_) AllReadyH.nil
              rw [if_pos (by rfl)]
              have x9 := oa_5.text (P := Try.prog) 32 9 5 Try.underlying32 Try.underlying5 Try.underlying9
              rw [ET.out] at x9
              go_simp
              clear x9
              refine hK.out _ _ S5 (fun h9 => ?_)
              clear h8 hK K
              try simp only [Act.put, List.setIfInBounds_toArray, List.set_cons_zero, List.set_cons_succ]
              refine wpAnyH_take (i := 14) (oi := ⟨some 52, _, _, _, _, _⟩) (v := ?_) rfl (by kernel_rfl) (by kernel_rfl) (by kernel_rfl) (fun _ _ _ h => h) (Or.inl ⟨by rfl, ?_⟩) (by assumption) ?_
              rotate_left 1
              · (intro W hSw; go_simp <;> with_reducible rfl)
              try simp only [Act.put, List.setIfInBounds_toArray, List.set_cons_zero, List.set_cons_succ]
              refine wpAnyH_done (by kernel_rfl) ?_ _
              refine NoPanic.normal ?_
              go_wp2
              go_roundw
              case rel => exact ⟨k + 1, by omega, by go_num, b1_5, kk_5⟩
              case measure => simp [intOf]; omega
        · have hkI : ¬ (k : Int) < (q.bu.n : Int) := by omega
          have ca : wr.cell? ⟨p1, 1, none⟩ = some (.slice q.bu.A q.bu.n q.bu.cap) := b1.cell 1
          go_wp2_with fail
          clear ca
          obtain ⟨wd, ed⟩ : ∃ W, wr.drew = W := ⟨_, rfl⟩
          have hd : Below wr.heap.size wr wd := by rw [← ed]; exact (Below.refl _ _).drew
          replace b1 := b1.on hd
          replace kk := kk.trans (hd.mono kk.size)
          replace hr := hr.on hd
          clear hd
          have kS : Kept (fun g => False) wd wd := Kept.refl _ _
          refine wp_region_noPanic ?_
          refine wp_region_held_drew (S := (fun W => Kept (fun g => False) wd W)) (by kernel_rfl) (by rw [ed]; exact kS) (fun hHeld => ?_)
          rw [ed] at hHeld ⊢
          refine wpAnyH_take (i := 0) (oi := ⟨some 53, _, _, _, _, _⟩) (v := .agg (List.toArray (q.cs))) rfl (by kernel_rfl) (by kernel_rfl) (by kernel_rfl) (fun _ _ _ h => h) (yieldsIf_load_mid (by rfl) 29 (.tmp 1) rfl p1 (0) rfl (q.cs) _ (fun W hW => range_blk (b1.kept hW (fun h => h))) Try.underlying29 rfl size29) (by assumption) ?_
          try simp only [Act.put, List.setIfInBounds_toArray, List.set_cons_zero, List.set_cons_succ]
          refine wpAnyH_take (i := 3) (oi := ⟨some 56, _, _, _, _, _⟩) (v := .agg (List.toArray (q.cs))) rfl (by kernel_rfl) (by kernel_rfl) (by kernel_rfl) (fun _ _ _ h => h) (yieldsIf_load_mid (by rfl) 29 (.tmp 1) rfl p1 (0) rfl (q.cs) _ (fun W hW => range_blk (b1.kept hW (fun h => h))) Try.underlying29 rfl size29) (by assumption) ?_
          try simp only [Act.put, List.setIfInBounds_toArray, List.set_cons_zero, List.set_cons_succ]
          refine wpAnyH_ready (rs := [1]) (by kernel_rfl) (by simp) ?_
          refine AllReadyH.cons (o := ⟨some 54, _, _, _, _, _⟩) rfl (fun K hK => ?_) AllReadyH.nil
          go_simp
          refine (cshared_any q d bq wd hr.sh HF.out).mono ?_
          rintro e w1 ⟨A1, n1, c1, rfl, o1, hb1⟩
          have b1_1 := b1.on hb1
          have kk_1 := kk.trans (hb1.mono kk.size)
          have hr_1 := hr.on hb1
          have S1 : (fun W => Kept (fun g => False) wd W) w1 := Kept.next kS (kept_below (fun _ => False) hb1) (fun _ h => h.elim)
          refine hK.out _ _ S1 (fun h1 => ?_)
          clear hHeld hK K
          try simp only [Act.put, List.setIfInBounds_toArray, List.set_cons_zero, List.set_cons_succ]
          refine wpAnyH_ready (rs := [2, 4]) (by kernel_rfl) (by simp) ?_
          refine AllReadyH.cons (o := ⟨some 55, _, _, _, _, _⟩) rfl (fun K hK => ?_) (AllReadyH.cons (o := ⟨some 57, _, _, _, _, _⟩) rfl (fun K hK => ?_) AllReadyH.nil)
          · rw [if_pos (by rfl)]
            have x2 := o1.text (P := Try.prog) 32 9 5 Try.underlying32 Try.underlying5 Try.underlying9
            rw [ES.out] at x2
            go_simp
            clear x2
            refine hK.out _ _ S1 (fun h2 => ?_)
            clear h1 hK K
            try simp only [Act.put, List.setIfInBounds_toArray, List.set_cons_zero, List.set_cons_succ]
            refine wpAnyH_ready (rs := [4]) (by kernel_rfl) (by simp) ?_
            refine AllReadyH.cons (o := ⟨some 57, _, _, _, _, _⟩) rfl (fun K hK => ?_) AllReadyH.nil
            go_simp
            refine (rshared_any q d bq w1 hr_1.sh HF.out).mono ?_
            rintro e w3 ⟨A3, n3, c3, rfl, o3, hb3⟩
            have b1_3 := b1_1.on hb3
            have kk_3 := kk_1.trans (hb3.mono kk_1.size)
            have hr_3 := hr_1.on hb3
            have oa_3 := o1.on hb3
            have S3 : (fun W => Kept (fun g => False) wd W) w3 := Kept.next S1 (kept_below (fun _ => False) hb3) (fun _ h => h.elim)
            refine hK.out _ _ S3 (fun h3 => ?_)
            clear h2 hK K
            try simp only [Act.put, List.setIfInBounds_toArray, List.set_cons_zero, List.set_cons_succ]
            refine wpAnyH_ready (rs := [5]) (by kernel_rfl) (by simp) ?_
            refine AllReadyH.cons (o := ⟨some 58, _, _, _, _, _⟩) rfl (fun K hK => ?_) AllReadyH.nil
            rw [if_pos (by rfl)]
            have x4 := o3.text (P := Try.prog) 32 9 5 Try.underlying32 Try.underlying5 Try.underlying9
            rw [ES.out] at x4
            go_simp
            clear x4
            refine hK.out _ _ S3 (fun h4 => ?_)
            clear h3 hK K
            try simp only [Act.put, List.setIfInBounds_toArray, List.set_cons_zero, List.set_cons_succ]
            refine wpAnyH_take (i := 6) (oi := ⟨some 59, _, _, _, _, _⟩) (v := ?_) rfl (by kernel_rfl) (by kernel_rfl) (by kernel_rfl) (fun _ _ _ h => h) (Or.inl ⟨by rfl, ?_⟩) (by assumption) ?_
            rotate_left 1
            · (intro W hSw; go_simp <;> with_reducible rfl)
            try simp only [Act.put, List.setIfInBounds_toArray, List.set_cons_zero, List.set_cons_succ]
            refine wpAnyH_take (i := 7) (oi := ⟨some 60, _, _, _, _, _⟩) (v := ?_) rfl (by kernel_rfl) (by kernel_rfl) (by kernel_rfl) (fun _ _ _ h => h) (Or.inl ⟨by rfl, ?_⟩) (by assumption) ?_
            rotate_left 1
            · (intro W hSw; go_simp <;> with_reducible rfl)
            try simp only [Act.put, List.setIfInBounds_toArray, List.set_cons_zero, List.set_cons_succ]
            refine wpAnyH_take (i := 8) (oi := ⟨some 61, _, _, _, _, _⟩) (v := .agg (List.toArray (q.cs))) rfl (by kernel_rfl) (by kernel_rfl) (by kernel_rfl) (fun _ _ _ h => h) (yieldsIf_load_mid (by rfl) 29 (.tmp 1) rfl p1 (0) rfl (q.cs) _ (fun W hW => range_blk (b1.kept hW (fun h => h))) Try.underlying29 rfl size29) (by assumption) ?_
            try simp only [Act.put, List.setIfInBounds_toArray, List.set_cons_zero, List.set_cons_succ]
            refine wpAnyH_take (i := 11) (oi := ⟨some 64, _, _, _, _, _⟩) (v := .agg (List.toArray (q.cs))) rfl (by kernel_rfl) (by kernel_rfl) (by kernel_rfl) (fun _ _ _ h => h) (yieldsIf_load_mid (by rfl) 29 (.tmp 1) rfl p1 (0) rfl (q.cs) _ (fun W hW => range_blk (b1.kept hW (fun h => h))) Try.underlying29 rfl size29) (by assumption) ?_
            try simp only [Act.put, List.setIfInBounds_toArray, List.set_cons_zero, List.set_cons_succ]
            refine wpAnyH_ready (rs := [9]) (by kernel_rfl) (by simp) ?_
            refine AllReadyH.cons (o := ⟨some 62, _, _, _, _, _⟩) rfl (fun K hK => ?_) AllReadyH.nil
            go_simp
            refine (cput_any q d bq w3 hr_3 HF.out).mono ?_
            rintro e w5 ⟨A5, n5, c5, rfl, o5, hb5⟩
            have b1_5 := b1_3.on hb5
            have kk_5 := kk_3.trans (hb5.mono kk_3.size)
            have hr_5 := hr_3.on hb5
            have oa_5 := oa_3.on hb5
            have ob_5 := o3.on hb5
            have S5 : (fun W => Kept (fun g => False) wd W) w5 := Kept.next S3 (kept_below (fun _ => False) hb5) (fun _ h => h.elim)
            refine hK.out _ _ S5 (fun h5 => ?_)
            clear h4 hK K
            try simp only [Act.put, List.setIfInBounds_toArray, List.set_cons_zero, List.set_cons_succ]
            refine wpAnyH_ready (rs := [10, 12]) (by kernel_rfl) (by simp) ?_
            refine AllReadyH.cons (o := ⟨some 63, _, _, _, _, _⟩) rfl (fun K hK => ?_) (AllReadyH.cons (o := ⟨some 65, _, _, _, _, _⟩) rfl (fun K hK => ?_) AllReadyH.nil)
            · rw [if_pos (by rfl)]
              have x6 := o5.text (P := Try.prog) 32 9 5 Try.underlying32 Try.underlying5 Try.underlying9
              rw [EP.out] at x6
              go_simp
              clear x6
              refine hK.out _ _ S5 (fun h6 => ?_)
              clear h5 hK K
              try simp only [Act.put, List.setIfInBounds_toArray, List.set_cons_zero, List.set_cons_succ]
              refine wpAnyH_ready (rs := [12]) (by kernel_rfl) (by simp) ?_
              refine AllReadyH.cons (o := ⟨some 65, _, _, _, _, _⟩) rfl (fun K hK => ?_) AllReadyH.nil
              go_simp
              refine (rput_any q d bq w5 hr_5 HF.out).mono ?_
              rintro e w7 ⟨A7, n7, c7, rfl, o7, hb7⟩
              have b1_7 := b1_5.on hb7
              have kk_7 := kk_5.trans (hb7.mono kk_5.size)
              have hr_7 := hr_5.on hb7
              have oa_7 := oa_5.on hb7
              have ob_7 := ob_5.on hb7
              have oc_7 := o5.on hb7
              have S7 : (fun W => Kept (fun g => False) wd W) w7 := Kept.next S5 (kept_below (fun _ => False) hb7) (fun _ h => h.elim)
              refine hK.out _ _ S7 (fun h7 => ?_)
              clear h6 hK K
              try simp only [Act.put, List.setIfInBounds_toArray, List.set_cons_zero, List.set_cons_succ]
              refine wpAnyH_ready (rs := [13]) (by kernel_rfl) (by simp) ?_
              refine AllReadyH.cons (o := ⟨some 66, _, _, _, _, _⟩) rfl (fun K hK => ?_) AllReadyH.nil
              rw [if_pos (by rfl)]
              have x8 := o7.text (P := Try.prog) 32 9 5 Try.underlying32 Try.underlying5 Try.underlying9
              rw [EP.out] at x8
              go_simp
              clear x8
              refine hK.out _ _ S7 (fun h8 => ?_)
              clear h7 hK K
              try simp only [Act.put, List.setIfInBounds_toArray, List.set_cons_zero, List.set_cons_succ]
              refine wpAnyH_take (i := 14) (oi := ⟨some 67, _, _, _, _, _⟩) (v := ?_) rfl (by kernel_rfl) (by kernel_rfl) (by kernel_rfl) (fun _ _ _ h => h) (Or.inl ⟨by rfl, ?_⟩) (by assumption) ?_
              rotate_left 1
              · (intro W hSw; go_simp <;> with_reducible rfl)
              try simp only [Act.put, List.setIfInBounds_toArray, List.set_cons_zero, List.set_cons_succ]
              refine wpAnyH_take (i := 15) (oi := ⟨some 68, _, _, _, _, _⟩) (v := ?_) rfl (by kernel_rfl) (by kernel_rfl) (by kernel_rfl) (fun _ _ _ h => h) (Or.inl ⟨by rfl, ?_⟩) (by assumption) ?_
              rotate_left 1
              · (intro W hSw; go_simp <;> with_reducible rfl)
              try simp only [Act.put, List.setIfInBounds_toArray, List.set_cons_zero, List.set_cons_succ]
              refine wpAnyH_take (i := 16) (oi := ⟨some 2, _, _, _, _, _⟩) (v := ?_) rfl (by kernel_rfl) (by kernel_rfl) (by kernel_rfl) (fun _ _ _ h => h) (Or.inl ⟨by rfl, ?_⟩) (by assumption) ?_
              rotate_left 1
              · (intro W hSw; go_simp <;> with_reducible rfl)
              try simp only [Act.put, List.setIfInBounds_toArray, List.set_cons_zero, List.set_cons_succ]
              refine wpAnyH_done (by kernel_rfl) ?_ _
              refine NoPanic.normal ?_
              go_wp2
              go_ret
              have kz := kk_7
              first | exact ⟨rfl, kz⟩ | (rw [f1] at kz; exact ⟨rfl, kz⟩)
            · go_simp
              refine (rput_any q d bq w5 hr_5 HF.out).mono ?_
              rintro e w9 ⟨A9, n9, c9, rfl, o9, hb9⟩
              have b1_9 := b1_5.on hb9
              have kk_9 := kk_5.trans (hb9.mono kk_5.size)
              have hr_9 := hr_5.on hb9
              have oa_9 := oa_5.on hb9
              have ob_9 := ob_5.on hb9
              have oc_9 := o5.on hb9
              have S9 : (fun W => Kept (fun g => False) wd W) w9 := Kept.next S5 (kept_below (fun _ => False) hb9) (fun _ h => h.elim)
              refine hK.out _ _ S9 (fun h9 => ?_)
              clear h5 hK K
              try simp only [Act.put, List.setIfInBounds_toArray, List.set_cons_zero, List.set_cons_succ]
              refine wpAnyH_ready (rs := [10, 13]) (by kernel_rfl) (by simp) ?_
              refine AllReadyH.cons (o := ⟨some 63, _, _, _, _, _⟩) rfl (fun K hK => ?_) (AllReadyH.cons (o := ⟨some 66, _, _, _, _, _⟩) rfl (fun K hK => ?_) AllReadyH.nil)
              · rw [if_pos (by rfl)]
                have x10 := oc_9.text (P := Try.prog) 32 9 5 Try.underlying32 Try.underlying5 Try.underlying9
                rw [EP.out] at x10
                go_simp
                clear x10
                refine hK.out _ _ S9 (fun h10 => ?_)
                clear h9 hK K
                try simp only [Act.put, List.setIfInBounds_toArray, List.set_cons_zero, List.set_cons_succ]
                refine wpAnyH_ready (rs := [13]) (by kernel_rfl) (by simp) ?_
                refine AllReadyH.cons (o := ⟨some 66, _, _, _, _, _⟩) rfl (fun K hK => ?_) AllReadyH.nil
                rw [if_pos (by rfl)]
                have x11 := o9.text (P := Try.prog) 32 9 5 Try.underlying32 Try.underlying5 Try.underlying9
                rw [EP.out] at x11
                go_simp
                clear x11
                refine hK.out _ _ S9 (fun h11 => ?_)
                clear h10 hK K
                try simp only [Act.put, List.setIfInBounds_toArray, List.set_cons_zero, List.set_cons_succ]
                refine wpAnyH_take (i := 14) (oi := ⟨some 67, _, _, _, _, _⟩) (v := ?_) rfl (by kernel_rfl) (by kernel_rfl) (by kernel_rfl) (fun _ _ _ h => h) (Or.inl ⟨by rfl, ?_⟩) (by assumption) ?_
                rotate_left 1
                · (intro W hSw; go_simp <;> with_reducible rfl)
                try simp only [Act.put, List.setIfInBounds_toArray, List.set_cons_zero, List.set_cons_succ]
                refine wpAnyH_take (i := 15) (oi := ⟨some 68, _, _, _, _, _⟩) (v := ?_) rfl (by kernel_rfl) (by kernel_rfl) (by kernel_rfl) (fun _ _ _ h => h) (Or.inl ⟨by rfl, ?_⟩) (by assumption) ?_
                rotate_left 1
                · (intro W hSw; go_simp <;> with_reducible rfl)
                try simp only [Act.put, List.setIfInBounds_toArray, List.set_cons_zero, List.set_cons_succ]
                refine wpAnyH_take (i := 16) (oi := ⟨some 2, _, _, _, _, _⟩) (v := ?_) rfl (by kernel_rfl) (by kernel_rfl) (by kernel_rfl) (fun _ _ _ h => h) (Or.inl ⟨by rfl, ?_⟩) (by assumption) ?_
                rotate_left 1
                · (intro W hSw; go_simp <;> with_reducible rfl)
                try simp only [Act.put, List.setIfInBounds_toArray, List.set_cons_zero, List.set_cons_succ]
                refine wpAnyH_done (by kernel_rfl) ?_ _
                refine NoPanic.normal ?_
                go_wp2
                go_ret
                have kz := kk_9
                first | exact ⟨rfl, kz⟩ | (rw [f1] at kz; exact ⟨rfl, kz⟩)
              · rw [if_pos (by rfl)]
                have x12 := o9.text (P := Try.prog) 32 9 5 Try.underlying32 Try.underlying5 Try.underlying9
                rw [EP.out] at x12
                go_simp
                clear x12
                refine hK.out _ _ S9 (fun h12 => ?_)
                clear h9 hK K
                try simp only [Act.put, List.setIfInBounds_toArray, List.set_cons_zero, List.set_cons_succ]
                refine wpAnyH_ready (rs := [10]) (by kernel_rfl) (by simp) ?_
                refine AllReadyH.cons (o := ⟨some 63, _, _, _, _, _⟩) rfl (fun K hK => ?_) AllReadyH.nil
                rw [if_pos (by rfl)]
                have x13 := oc_9.text (P := Try.prog) 32 9 5 Try.underlying32 Try.underlying5 Try.underlying9
                rw [EP.out] at x13
                go_simp
                clear x13
                refine hK.out _ _ S9 (fun h13 => ?_)
                clear h12 hK K
                try simp only [Act.put, List.setIfInBounds_toArray, List.set_cons_zero, List.set_cons_succ]
                refine wpAnyH_take (i := 14) (oi := ⟨some 67, _, _, _, _, _⟩) (v := ?_) rfl (by kernel_rfl) (by kernel_rfl) (by kernel_rfl) (fun _ _ _ h => h) (Or.inl ⟨by rfl, ?_⟩) (by assumption) ?_
                rotate_left 1
                · (intro W hSw; go_simp <;> with_reducible rfl)
                try simp only [Act.put, List.setIfInBounds_toArray, List.set_cons_zero, List.set_cons_succ]
                refine wpAnyH_take (i := 15) (oi := ⟨some 68, _, _, _, _, _⟩) (v := ?_) rfl (by kernel_rfl) (by kernel_rfl) (by kernel_rfl) (fun _ _ _ h => h) (Or.inl ⟨by rfl, ?_⟩) (by assumption) ?_
                rotate_left 1
                · (intro W hSw; go_simp <;> with_reducible rfl)
                try simp only [Act.put, List.setIfInBounds_toArray, List.set_cons_zero, List.set_cons_succ]
                refine wpAnyH_take (i := 16) (oi := ⟨some 2, _, _, _, _, _⟩) (v := ?_) rfl (by kernel_rfl) (by kernel_rfl) (by kernel_rfl) (fun _ _ _ h => h) (Or.inl ⟨by rfl, ?_⟩) (by assumption) ?_
                rotate_left 1
                · (intro W hSw; go_simp <;> with_reducible rfl)
                try simp only [Act.put, List.setIfInBounds_toArray, List.set_cons_zero, List.set_cons_succ]
                refine wpAnyH_done (by kernel_rfl) ?_ _
                refine NoPanic.normal ?_
                go_wp2
                go_ret
                have kz := kk_9
                first | exact ⟨rfl, kz⟩ | (rw [f1] at kz; exact ⟨rfl, kz⟩)
          · go_simp
            refine (rshared_any q d bq w1 hr_1.sh HF.out).mono ?_
            rintro e w14 ⟨A14, n14, c14, rfl, o14, hb14⟩
            have b1_14 := b1_1.on hb14
            have kk_14 := kk_1.trans (hb14.mono kk_1.size)
            have hr_14 := hr_1.on hb14
            have oa_14 := o1.on hb14
            have S14 : (fun W => Kept (fun g => False) wd W) w14 := Kept.next S1 (kept_below (fun _ => False) hb14) (fun _ h => h.elim)
            refine hK.out _ _ S14 (fun h14 => ?_)
            clear h1 hK K
            try simp only [Act.put, List.setIfInBounds_toArray, List.set_cons_zero, List.set_cons_succ]
            refine wpAnyH_ready (rs := [2, 5]) (by kernel_rfl) (by simp) ?_
            refine AllReadyH.cons (o := ⟨some 55, _, _, _, _, _⟩) rfl (fun K hK => ?_) (AllReadyH.cons (o := ⟨some 58, _, _, _, _, _⟩) rfl (fun K hK => ?_) AllReadyH.nil)
            · rw [if_pos (by rfl)]
              have x15 := oa_14.text (P := Try.prog) 32 9 5 Try.underlying32 Try.underlying5 Try.underlying9
              rw [ES.out] at x15
              go_simp
              clear x15
              refine hK.out _ _ S14 (fun h15 => ?_)
              clear h14 hK K
              try simp only [Act.put, List.setIfInBounds_toArray, List.set_cons_zero, List.set_cons_succ]
              refine wpAnyH_ready (rs := [5]) (by kernel_rfl) (by simp) ?_
              refine AllReadyH.cons (o := ⟨some 58, _, _, _, _, _⟩) rfl (fun K hK => ?_) AllReadyH.nil
              rw [if_pos (by rfl)]
              have x16 := o14.text (P := Try.prog) 32 9 5 Try.underlying32 Try.underlying5 Try.underlying9
              rw [ES.out] at x16
              go_simp
              clear x16
              refine hK.out _ _ S14 (fun h16 => ?_)
              clear h15 hK K
              try simp only [Act.put, List.setIfInBounds_toArray, List.set_cons_zero, List.set_cons_succ]
              refine wpAnyH_take (i := 6) (oi := ⟨some 59, _, _, _, _, _⟩) (v := ?_) rfl (by kernel_rfl) (by kernel_rfl) (by kernel_rfl) (fun _ _ _ h => h) (Or.inl ⟨by rfl, ?_⟩) (by assumption) ?_
              rotate_left 1
              · (intro W hSw; go_simp <;> with_reducible rfl)
              try simp only [Act.put, List.setIfInBounds_toArray, List.set_cons_zero, List.set_cons_succ]
              refine wpAnyH_take (i := 7) (oi := ⟨some 60, _, _, _, _, _⟩) (v := ?_) rfl (by kernel_rfl) (by kernel_rfl) (by kernel_rfl) (fun _ _ _ h => h) (Or.inl ⟨by rfl, ?_⟩) (by assumption) ?_
              rotate_left 1
              · (intro W hSw; go_simp <;> with_reducible rfl)
              try simp only [Act.put, List.setIfInBounds_toArray, List.set_cons_zero, List.set_cons_succ]
              refine wpAnyH_take (i := 8) (oi := ⟨some 61, _, _, _, _, _⟩) (v := .agg (List.toArray (q.cs))) rfl (by kernel_rfl) (by kernel_rfl) (by kernel_rfl) (fun _ _ _ h => h) (yieldsIf_load_mid (by rfl) 29 (.tmp 1) rfl p1 (0) rfl (q.cs) _ (fun W hW => range_blk (b1.kept hW (fun h => h))) Try.underlying29 rfl size29) (by assumption) ?_
              try simp only [Act.put, List.setIfInBounds_toArray, List.set_cons_zero, List.set_cons_succ]
              refine wpAnyH_take (i := 11) (oi := ⟨some 64, _, _, _, _, _⟩) (v := .agg (List.toArray (q.cs))) rfl (by kernel_rfl) (by kernel_rfl) (by kernel_rfl) (fun _ _ _ h => h) (yieldsIf_load_mid (by rfl) 29 (.tmp 1) rfl p1 (0) rfl (q.cs) _ (fun W hW => range_blk (b1.kept hW (fun h => h))) Try.underlying29 rfl size29) (by assumption) ?_
              try simp only [Act.put, List.setIfInBounds_toArray, List.set_cons_zero, List.set_cons_succ]
              refine wpAnyH_ready (rs := [9]) (by kernel_rfl) (by simp) ?_
              refine AllReadyH.cons (o := ⟨some 62, _, _, _, _, _⟩) rfl (fun K hK => ?_) AllReadyH.nil
              go_simp
              refine (cput_any q d bq w14 hr_14 HF.out).mono ?_
              rintro e w17 ⟨A17, n17, c17, rfl, o17, hb17⟩
              have b1_17 := b1_14.on hb17
              have kk_17 := kk_14.trans (hb17.mono kk_14.size)
              have hr_17 := hr_14.on hb17
              have oa_17 := oa_14.on hb17
              have ob_17 := o14.on hb17
              have S17 : (fun W => Kept (fun g => False) wd W) w17 := Kept.next S14 (kept_below (fun _ => False) hb17) (fun _ h => h.elim)
              refine hK.out _ _ S17 (fun h17 => ?_)
              clear h16 hK K
              try simp only [Act.put, List.setIfInBounds_toArray, List.set_cons_zero, List.set_cons_succ]
              refine wpAnyH_ready (rs := [10, 12]) (by kernel_rfl) (by simp) ?_
              refine AllReadyH.cons (o := ⟨some 63, _, _, _, _, _⟩) rfl (fun K hK => ?_) (AllReadyH.cons (o := ⟨some 65, _, _, _, _, _⟩) rfl (fun K hK => ?_) AllReadyH.nil)
              · rw [if_pos (by rfl)]
                have x18 := o17.text (P := Try.prog) 32 9 5 Try.underlying32 Try.underlying5 Try.underlying9
                rw [EP.out] at x18
                go_simp
                clear x18
                refine hK.out _ _ S17 (fun h18 => ?_)
                clear h17 hK K
                try simp only [Act.put, List.setIfInBounds_toArray, List.set_cons_zero, List.set_cons_succ]
                refine wpAnyH_ready (rs := [12]) (by kernel_rfl) (by simp) ?_
                refine AllReadyH.cons (o := ⟨some 65, _, _, _, _, _⟩) rfl (fun K hK => ?_) AllReadyH.nil
                go_simp
                refine (rput_any q d bq w17 hr_17 HF.out).mono ?_
                rintro e w19 ⟨A19, n19, c19, rfl, o19, hb19⟩
                have b1_19 := b1_17.on hb19
                have kk_19 := kk_17.trans (hb19.mono kk_17.size)
                have hr_19 := hr_17.on hb19
                have oa_19 := oa_17.on hb19
                have ob_19 := ob_17.on hb19
                have oc_19 := o17.on hb19
                have S19 : (fun W => Kept (fun g => False) wd W) w19 := Kept.next S17 (kept_below (fun _ => False) hb19) (fun _ h => h.elim)
                refine hK.out _ _ S19 (fun h19 => ?_)
                clear h18 hK K
                try simp only [Act.put, List.setIfInBounds_toArray, List.set_cons_zero, List.set_cons_succ]
                refine wpAnyH_ready (rs := [13]) (by kernel_rfl) (by simp) ?_
                refine AllReadyH.cons (o := ⟨some 66, _, _, _, _, _⟩) rfl (fun K hK => ?_) AllReadyH.nil
                rw [if_pos (by rfl)]
                have x20 := o19.text (P := Try.prog) 32 9 5 Try.underlying32 Try.underlying5 Try.underlying9
                rw [EP.out] at x20
                go_simp
                clear x20
                refine hK.out _ _ S19 (fun h20 => ?_)
                clear h19 hK K
                try simp only [Act.put, List.setIfInBounds_toArray, List.set_cons_zero, List.set_cons_succ]
                refine wpAnyH_take (i := 14) (oi := ⟨some 67, _, _, _, _, _⟩) (v := ?_) rfl (by kernel_rfl) (by kernel_rfl) (by kernel_rfl) (fun _ _ _ h => h) (Or.inl ⟨by rfl, ?_⟩) (by assumption) ?_
                rotate_left 1
                · (intro W hSw; go_simp <;> with_reducible rfl)
                try simp only [Act.put, List.setIfInBounds_toArray, List.set_cons_zero, List.set_cons_succ]
                refine wpAnyH_take (i := 15) (oi := ⟨some 68, _, _, _, _, _⟩) (v := ?_) rfl (by kernel_rfl) (by kernel_rfl) (by kernel_rfl) (fun _ _ _ h => h) (Or.inl ⟨by rfl, ?_⟩) (by assumption) ?_
                rotate_left 1
                · (intro W hSw; go_simp <;> with_reducible rfl)
                try simp only [Act.put, List.setIfInBounds_toArray, List.set_cons_zero, List.set_cons_succ]
                refine wpAnyH_take (i := 16) (oi := ⟨some 2, _, _, _, _, _⟩) (v := ?_) rfl (by kernel_rfl) (by kernel_rfl) (by kernel_rfl) (fun _ _ _ h => h) (Or.inl ⟨by rfl, ?_⟩) (by assumption) ?_
                rotate_left 1
                · (intro W hSw; go_simp <;> with_reducible rfl)
                try simp only [Act.put, List.setIfInBounds_toArray, List.set_cons_zero, List.set_cons_succ]
                refine wpAnyH_done (by kernel_rfl) ?_ _
                refine NoPanic.normal ?_
                go_wp2
                go_ret
                have kz := kk_19
                first | exact ⟨rfl, kz⟩ | (rw [f1] at kz; exact ⟨rfl, kz⟩)
              · go_simp
                refine (rput_any q d bq w17 hr_17 HF.out).mono ?_
                rintro e w21 ⟨A21, n21, c21, rfl, o21, hb21⟩
                have b1_21 := b1_17.on hb21
                have kk_21 := kk_17.trans (hb21.mono kk_17.size)
                have hr_21 := hr_17.on hb21
                have oa_21 := oa_17.on hb21
                have ob_21 := ob_17.on hb21
                have oc_21 := o17.on hb21
                have S21 : (fun W => Kept (fun g => False) wd W) w21 := Kept.next S17 (kept_below (fun _ => False) hb21) (fun _ h => h.elim)
                refine hK.out _ _ S21 (fun h21 => ?_)
                clear h17 hK K
                try simp only [Act.put, List.setIfInBounds_toArray, List.set_cons_zero, List.set_cons_succ]
                refine wpAnyH_ready (rs := [10, 13]) (by kernel_rfl) (by simp) ?_
                refine AllReadyH.cons (o := ⟨some 63, _, _, _, _, _⟩) rfl (fun K hK => ?_) (AllReadyH.cons (o := ⟨some 66, _, _, _, _, _⟩) rfl (fun K hK => ?_) AllReadyH.nil)
                · rw [if_pos (by rfl)]
                  have x22 := oc_21.text (P := Try.prog) 32 9 5 Try.underlying32 Try.underlying5 Try.underlying9
                  rw [EP.out] at x22
                  go_simp
                  clear x22
                  refine hK.out _ _ S21 (fun h22 => ?_)
                  clear h21 hK K
                  try simp only [Act.put, List.setIfInBounds_toArray, List.set_cons_zero, List.set_cons_succ]
                  refine wpAnyH_ready (rs := [13]) (by kernel_rfl) (by simp) ?_
                  refine AllReadyH.cons (o := ⟨some 66, _, _, _, _, _⟩) rfl (fun K hK => ?_) AllReadyH.nil
                  rw [if_pos (by rfl)]
                  have x23 := o21.text (P := Try.prog) 32 9 5 Try.underlying32 Try.underlying5 Try.underlying9
                  rw [EP.out] at x23
                  go_simp
                  clear x23
                  refine hK.out _ _ S21 (fun h23 => ?_)
                  clear h22 hK K
                  try simp only [Act.put, List.setIfInBounds_toArray, List.set_cons_zero, List.set_cons_succ]
                  refine wpAnyH_take (i := 14) (oi := ⟨some 67, _, _, _, _, _⟩) (v := ?_) rfl (by kernel_rfl) (by kernel_rfl) (by kernel_rfl) (fun _ _ _ h => h) (Or.inl ⟨by rfl, ?_⟩) (by assumption) ?_
                  rotate_left 1
                  · (intro W hSw; go_simp <;> with_reducible rfl)
                  try simp only [Act.put, List.setIfInBounds_toArray, List.set_cons_zero, List.set_cons_succ]
                  refine wpAnyH_take (i := 15) (oi := ⟨some 68, _, _, _, _, _⟩) (v := ?_) rfl (by kernel_rfl) (by kernel_rfl) (by kernel_rfl) (fun _ _ _ h => h) (Or.inl ⟨by rfl, ?_⟩) (by assumption) ?_
                  rotate_left 1
                  · (intro W hSw; go_simp <;> with_reducible rfl)
                  try simp only [Act.put, List.setIfInBounds_toArray, List.set_cons_zero, List.set_cons_succ]
                  refine wpAnyH_take (i := 16) (oi := ⟨some 2, _, _, _, _, _⟩) (v := ?_) rfl (by kernel_rfl) (by kernel_rfl) (by kernel_rfl) (fun _ _ _ h => h) (Or.inl ⟨by rfl, ?_⟩) (by assumption) ?_
                  rotate_left 1
                  · (intro W hSw; go_simp <;> with_reducible rfl)
                  try simp only [Act.put, List.setIfInBounds_toArray, List.set_cons_zero, List.set_cons_succ]
                  refine wpAnyH_done (by kernel_rfl) ?_ _
                  refine NoPanic.normal ?_
                  go_wp2
                  go_ret
                  have kz := kk_21
                  first | exact ⟨rfl, kz⟩ | (rw [f1] at kz; exact ⟨rfl, kz⟩)
                · rw [if_pos (by rfl)]
                  have x24 := o21.text (P := Try.prog) 32 9 5 Try.underlying32 Try.underlying5 Try.underlying9
                  rw [EP.out] at x24
                  go_simp
                  clear x24
                  refine hK.out _ _ S21 (fun h24 => ?_)
                  clear h21 hK K
                  try simp only [Act.put, List.setIfInBounds_toArray, List.set_cons_zero, List.set_cons_succ]
                  refine wpAnyH_ready (rs := [10]) (by kernel_rfl) (by simp) ?_
                  refine AllReadyH.cons (o := ⟨some 63, _, _, _, _, _⟩) rfl (fun K hK => ?_) AllReadyH.nil
                  rw [if_pos (by rfl)]
                  have x25 := oc_21.text (P := Try.prog) 32 9 5 Try.underlying32 Try.underlying5 Try.underlying9
                  rw [EP.out] at x25
                  go_simp
                  clear x25
                  refine hK.out _ _ S21 (fun h25 => ?_)
                  clear h24 hK K
                  try simp only [Act.put, List.setIfInBounds_toArray, List.set_cons_zero, List.set_cons_succ]
                  refine wpAnyH_take (i := 14) (oi := ⟨some 67, _, _, _, _, _⟩) (v := ?_) rfl (by kernel_rfl) (by kernel_rfl) (by kernel_rfl) (fun _ _ _ h => h) (Or.inl ⟨by rfl, ?_⟩) (by assumption) ?_
                  rotate_left 1
                  · (intro W hSw; go_simp <;> with_reducible rfl)
                  try simp only [Act.put, List.setIfInBounds_toArray, List.set_cons_zero, List.set_cons_succ]
                  refine wpAnyH_take (i := 15) (oi := ⟨some 68, _, _, _, _, _⟩) (v := ?_) rfl (by kernel_rfl) (by kernel_rfl) (by kernel_rfl) (fun _ _ _ h => h) (Or.inl ⟨by rfl, ?_⟩) (by assumption) ?_
                  rotate_left 1
                  · (intro W hSw; go_simp <;> with_reducible rfl)
                  try simp only [Act.put, List.setIfInBounds_toArray, List.set_cons_zero, List.set_cons_succ]
                  refine wpAnyH_take (i := 16) (oi := ⟨some 2, _, _, _, _, _⟩) (v := ?_) rfl (by kernel_rfl) (by kernel_rfl) (by kernel_rfl) (fun _ _ _ h => h) (Or.inl ⟨by rfl, ?_⟩) (by assumption) ?_
                  rotate_left 1
                  · (intro W hSw; go_simp <;> with_reducible rfl)
                  try simp only [Act.put, List.setIfInBounds_toArray, List.set_cons_zero, List.set_cons_succ]
                  refine wpAnyH_done (by kernel_rfl) ?_ _
                  refine NoPanic.normal ?_
                  go_wp2
                  go_ret
                  have kz := kk_21
                  first | exact ⟨rfl, kz⟩ | (rw [f1] at kz; exact ⟨rfl, kz⟩)
            · rw [if_pos (by rfl)]
              have x26 := o14.text (P := Try.prog) 32 9 5 Try.underlying32 Try.underlying5 Try.underlying9
              rw [ES.out] at x26
              go_simp
              clear x26
              refine hK.out _ _ S14 (fun h26 => ?_)
              clear h14 hK K
              try simp only [Act.put, List.setIfInBounds_toArray, List.set_cons_zero, List.set_cons_succ]
              refine wpAnyH_ready (rs := [2]) (by kernel_rfl) (by simp) ?_
              refine AllReadyH.cons (o := ⟨some 55, _, _, _, _, _⟩) rfl (fun K hK => ?_) AllReadyH.nil
              rw [if_pos (by rfl)]
              have x27 := oa_14.text (P := Try.prog) 32 9 5 Try.underlying32 Try.underlying5 Try.underlying9
              rw [ES.out] at x27
              go_simp
              clear x27
              refine hK.out _ _ S14 (fun h27 => ?_)
              clear h26 hK K
              try simp only [Act.put, List.setIfInBounds_toArray, List.set_cons_zero, List.set_cons_succ]
              refine wpAnyH_take (i := 6) (oi := ⟨some 59, _, _, _, _, _⟩) (v := ?_) rfl (by kernel_rfl) (by kernel_rfl) (by kernel_rfl) (fun _ _ _ h => h) (Or.inl ⟨by rfl, ?_⟩) (by assumption) ?_
              rotate_left 1
              · (intro W hSw; go_simp <;> with_reducible rfl)
              try simp only [Act.put, List.setIfInBounds_toArray, List.set_cons_zero, List.set_cons_succ]
              refine wpAnyH_take (i := 7) (oi := ⟨some 60, _, _, _, _, _⟩) (v := ?_) rfl (by kernel_rfl) (by kernel_rfl) (by kernel_rfl) (fun _ _ _ h => h) (Or.inl ⟨by rfl, ?_⟩) (by assumption) ?_
              rotate_left 1
              · (intro W hSw; go_simp <;> with_reducible rfl)
              try simp only [Act.put, List.setIfInBounds_toArray, List.set_cons_zero, List.set_cons_succ]
              refine wpAnyH_take (i := 8) (oi := ⟨some 61, _, _, _, _, _⟩) (v := .agg (List.toArray (q.cs))) rfl (by kernel_rfl) (by kernel_rfl) (by kernel_rfl) (fun _ _ _ h => h) (yieldsIf_load_mid (by rfl) 29 (.tmp 1) rfl p1 (0) rfl (q.cs) _ (fun W hW => range_blk (b1.kept hW (fun h => h))) Try.underlying29 rfl size29) (by assumption) ?_
              try simp only [Act.put, List.setIfInBounds_toArray, List.set_cons_zero, List.set_cons_succ]
              refine wpAnyH_take (i := 11) (oi := ⟨some 64, _, _, _, _, _⟩) (v := .agg (List.toArray (q.cs))) rfl (by kernel_rfl) (by kernel_rfl) (by kernel_rfl) (fun _ _ _ h => h) (yieldsIf_load_mid (by rfl) 29 (.tmp 1) rfl p1 (0) rfl (q.cs) _ (fun W hW => range_blk (b1.kept hW (fun h => h))) Try.underlying29 rfl size29) (by assumption) ?_
              try simp only [Act.put, List.setIfInBounds_toArray, List.set_cons_zero, List.set_cons_succ]
              refine wpAnyH_ready (rs := [9]) (by kernel_rfl) (by simp) ?_
              refine AllReadyH.cons (o := ⟨some 62, _, _, _, _, _⟩) rfl (fun K hK => ?_) AllReadyH.nil
              go_simp
              refine (cput_any q d bq w14 hr_14 HF.out).mono ?_
              rintro e w28 ⟨A28, n28, c28, rfl, o28, hb28⟩
              have b1_28 := b1_14.on hb28
              have kk_28 := kk_14.trans (hb28.mono kk_14.size)
              have hr_28 := hr_14.on hb28
              have oa_28 := oa_14.on hb28
              have ob_28 := o14.on hb28
              have S28 : (fun W => Kept (fun g => False) wd W) w28 := Kept.next S14 (kept_below (fun _ => False) hb28) (fun _ h => h.elim)
              refine hK.out _ _ S28 (fun h28 => ?_)
              clear h27 hK K
              try simp only [Act.put, List.setIfInBounds_toArray, List.set_cons_zero, List.set_cons_succ]
              refine wpAnyH_ready (rs := [10, 12]) (by kernel_rfl) (by simp) ?_
              refine AllReadyH.cons (o := ⟨some 63, _, _, _, _, _⟩) rfl (fun K hK => ?_) (AllReadyH.cons (o := ⟨some 65, _, _, _, _, _⟩) rfl (fun K hK => ?_) AllReadyH.nil)
              · rw [if_pos (by rfl)]
                have x29 := o28.text (P := Try.prog) 32 9 5 Try.underlying32 Try.underlying5 Try.underlying9
                rw [EP.out] at x29
                go_simp
                clear x29
                refine hK.out _ _ S28 (fun h29 => ?_)
                clear h28 hK K
                try simp only [Act.put, List.setIfInBounds_toArray, List.set_cons_zero, List.set_cons_succ]
                refine wpAnyH_ready (rs := [12]) (by kernel_rfl) (by simp) ?_
                refine AllReadyH.cons (o := ⟨some 65, _, _, _, _, _⟩) rfl (fun K hK => ?_) AllReadyH.nil
                go_simp
                refine (rput_any q d bq w28 hr_28 HF.out).mono ?_
                rintro e w30 ⟨A30, n30, c30, rfl, o30, hb30⟩
                have b1_30 := b1_28.on hb30
                have kk_30 := kk_28.trans (hb30.mono kk_28.size)
                have hr_30 := hr_28.on hb30
                have oa_30 := oa_28.on hb30
                have ob_30 := ob_28.on hb30
                have oc_30 := o28.on hb30
                have S30 : (fun W => Kept (fun g => False) wd W) w30 := Kept.next S28 (kept_below (fun _ => False) hb30) (fun _ h => h.elim)
                refine hK.out _ _ S30 (fun h30 => ?_)
                clear h29 hK K
                try simp only [Act.put, List.setIfInBounds_toArray, List.set_cons_zero, List.set_cons_succ]
                refine wpAnyH_ready (rs := [13]) (by kernel_rfl) (by simp) ?_
                refine AllReadyH.cons (o := ⟨some 66, _, _, _, _, _⟩) rfl (fun K hK => ?_) AllReadyH.nil
                rw [if_pos (by rfl)]
                have x31 := o30.text (P := Try.prog) 32 9 5 Try.underlying32 Try.underlying5 Try.underlying9
                rw [EP.out] at x31
                go_simp
                clear x31
                refine hK.out _ _ S30 (fun h31 => ?_)
                clear h30 hK K
                try simp only [Act.put, List.setIfInBounds_toArray, List.set_cons_zero, List.set_cons_succ]
                refine wpAnyH_take (i := 14) (oi := ⟨some 67, _, _, _, _, _⟩) (v := ?_) rfl (by kernel_rfl) (by kernel_rfl) (by kernel_rfl) (fun _ _ _ h => h) (Or.inl ⟨by rfl, ?_⟩) (by assumption) ?_
                rotate_left 1
                · (intro W hSw; go_simp <;> with_reducible rfl)
                try simp only [Act.put, List.setIfInBounds_toArray, List.set_cons_zero, List.set_cons_succ]
                refine wpAnyH_take (i := 15) (oi := ⟨some 68, _, _, _, _, _⟩) (v := ?_) rfl (by kernel_rfl) (by kernel_rfl) (by kernel_rfl) (fun _ _ _ h => h) (Or.inl ⟨by rfl, ?_⟩) (by assumption) ?_
                rotate_left 1
                · (intro W hSw; go_simp <;> with_reducible rfl)
                try simp only [Act.put, List.setIfInBounds_toArray, List.set_cons_zero, List.set_cons_succ]
                refine wpAnyH_take (i := 16) (oi := ⟨some 2, _, _, _, _, _⟩) (v := ?_) rfl (by kernel_rfl) (by kernel_rfl) (by kernel_rfl) (fun _ _ _ h => h) (Or.inl ⟨by rfl, ?_⟩) (by assumption) ?_
                rotate_left 1
                · (intro W hSw; go_simp <;> with_reducible rfl)
                try simp only [Act.put, List.setIfInBounds_toArray, List.set_cons_zero, List.set_cons_succ]
                refine wpAnyH_done (by kernel_rfl) ?_ _
                refine NoPanic.normal ?_
                go_wp2
                go_ret
                have kz := kk_30
                first | exact ⟨rfl, kz⟩ | (rw [f1] at kz; exact ⟨rfl, kz⟩)
              · go_simp
                refine (rput_any q d bq w28 hr_28 HF.out).mono ?_
                rintro e w32 ⟨A32, n32, c32, rfl, o32, hb32⟩
                have b1_32 := b1_28.on hb32
                have kk_32 := kk_28.trans (hb32.mono kk_28.size)
                have hr_32 := hr_28.on hb32
                have oa_32 := oa_28.on hb32
                have ob_32 := ob_28.on hb32
                have oc_32 := o28.on hb32
                have S32 : (fun W => Kept (fun g => False) wd W) w32 := Kept.next S28 (kept_below (fun _ => False) hb32) (fun _ h => h.elim)
                refine hK.out _ _ S32 (fun h32 => ?_)
                clear h28 hK K
                try simp only [Act.put, List.setIfInBounds_toArray, List.set_cons_zero, List.set_cons_succ]
                refine wpAnyH_ready (rs := [10, 13]) (by kernel_rfl) (by simp) ?_
                refine AllReadyH.cons (o := ⟨some 63, _, _, _, _, _⟩) rfl (fun K hK => ?_) (AllReadyH.cons (o := ⟨some 66, _, _, _, _, _⟩) rfl (fun K hK => ?_) AllReadyH.nil)
                · rw [if_pos (by rfl)]
                  have x33 := oc_32.text (P := Try.prog) 32 9 5 Try.underlying32 Try.underlying5 Try.underlying9
                  rw [EP.out] at x33
                  go_simp
                  clear x33
                  refine hK.out _ _ S32 (fun h33 => ?_)
                  clear h32 hK K
                  try simp only [Act.put, List.setIfInBounds_toArray, List.set_cons_zero, List.set_cons_succ]
                  refine wpAnyH_ready (rs := [13]) (by kernel_rfl) (by simp) ?_
                  refine AllReadyH.cons (o := ⟨some 66, _, _, _, _, _⟩) rfl (fun K hK => ?_) AllReadyH.nil
                  rw [if_pos (by rfl)]
                  have x34 := o32.text (P := Try.prog) 32 9 5 Try.underlying32 Try.underlying5 Try.underlying9
                  rw [EP.out] at x34
                  go_simp
                  clear x34
                  refine hK.out _ _ S32 (fun h34 => ?_)
                  clear h33 hK K
                  try simp only [Act.put, List.setIfInBounds_toArray, List.set_cons_zero, List.set_cons_succ]
                  refine wpAnyH_take (i := 14) (oi := ⟨some 67, _, _, _, _, _⟩) (v := ?_) rfl (by kernel_rfl) (by kernel_rfl) (by kernel_rfl) (fun _ _ _ h => h) (Or.inl ⟨by rfl, ?_⟩) (by assumption) ?_
                  rotate_left 1
                  · (intro W hSw; go_simp <;> with_reducible rfl)
                  try simp only [Act.put, List.setIfInBounds_toArray, List.set_cons_zero, List.set_cons_succ]
                  refine wpAnyH_take (i := 15) (oi := ⟨some 68, _, _, _, _, _⟩) (v := ?_) rfl (by kernel_rfl) (by kernel_rfl) (by kernel_rfl) (fun _ _ _ h => h) (Or.inl ⟨by rfl, ?_⟩) (by assumption) ?_
                  rotate_left 1
                  · (intro W hSw; go_simp <;> with_reducible rfl)
                  try simp only [Act.put, List.setIfInBounds_toArray, List.set_cons_zero, List.set_cons_succ]
                  refine wpAnyH_take (i := 16) (oi := ⟨some 2, _, _, _, _, _⟩) (v := ?_) rfl (by kernel_rfl) (by kernel_rfl) (by kernel_rfl) (fun _ _ _ h => h) (Or.inl ⟨by rfl, ?_⟩) (by assumption) ?_
                  rotate_left 1
                  · (intro W hSw; go_simp <;> with_reducible rfl)
                  try simp only [Act.put, List.setIfInBounds_toArray, List.set_cons_zero, List.set_cons_succ]
                  refine wpAnyH_done (by kernel_rfl) ?_ _
                  refine NoPanic.normal ?_
                  go_wp2
                  go_ret
                  have kz := kk_32
                  first | exact ⟨rfl, kz⟩ | (rw [f1] at kz; exact ⟨rfl, kz⟩)
                · rw [if_pos (by rfl)]
                  have x35 := o32.text (P := Try.prog) 32 9 5 Try.underlying32 Try.underlying5 Try.underlying9
                  rw [EP.out] at x35
                  go_simp
                  clear x35
                  refine hK.out _ _ S32 (fun h35 => ?_)
                  clear h32 hK K
                  try simp only [Act.put, List.setIfInBounds_toArray, List.set_cons_zero, List.set_cons_succ]
                  refine wpAnyH_ready (rs := [10]) (by kernel_rfl) (by simp) ?_
                  refine AllReadyH.cons (o := ⟨some 63, _, _, _, _, _⟩) rfl (fun K hK => ?_) AllReadyH.nil
                  rw [if_pos (by rfl)]
                  have x36 := oc_32.text (P := Try.prog) 32 9 5 Try.underlying32 Try.underlying5 Try.underlying9
                  rw [EP.out] at x36
                  go_simp
                  clear x36
                  refine hK.out _ _ S32 (fun h36 => ?_)
                  clear h35 hK K
                  try simp only [Act.put, List.setIfInBounds_toArray, List.set_cons_zero, List.set_cons_succ]
                  refine wpAnyH_take (i := 14) (oi := ⟨some 67, _, _, _, _, _⟩) (v := ?_) rfl (by kernel_rfl) (by kernel_rfl) (by kernel_rfl) (fun _ _ _ h => h) (Or.inl ⟨by rfl, ?_⟩) (by assumption) ?_
                  rotate_left 1
                  · (intro W hSw; go_simp <;> with_reducible rfl)
                  try simp only [Act.put, List.setIfInBounds_toArray, List.set_cons_zero, List.set_cons_succ]
                  refine wpAnyH_take (i := 15) (oi := ⟨some 68, _, _, _, _, _⟩) (v := ?_) rfl (by kernel_rfl) (by kernel_rfl) (by kernel_rfl) (fun _ _ _ h => h) (Or.inl ⟨by rfl, ?_⟩) (by assumption) ?_
                  rotate_left 1
                  · (intro W hSw; go_simp <;> with_reducible rfl)
                  try simp only [Act.put, List.setIfInBounds_toArray, List.set_cons_zero, List.set_cons_succ]
                  refine wpAnyH_take (i := 16) (oi := ⟨some 2, _, _, _, _, _⟩) (v := ?_) rfl (by kernel_rfl) (by kernel_rfl) (by kernel_rfl) (fun _ _ _ h => h) (Or.inl ⟨by rfl, ?_⟩) (by assumption) ?_
                  rotate_left 1
                  · (intro W hSw; go_simp <;> with_reducible rfl)
                  try simp only [Act.put, List.setIfInBounds_toArray, List.set_cons_zero, List.set_cons_succ]
                  refine wpAnyH_done (by kernel_rfl) ?_ _
                  refine NoPanic.normal ?_
                  go_wp2
                  go_ret
                  have kz := kk_32
                  first | exact ⟨rfl, kz⟩ | (rw [f1] at kz; exact ⟨rfl, kz⟩)
end Go.Proofs.Ytfmkmmmaoiepmaa
