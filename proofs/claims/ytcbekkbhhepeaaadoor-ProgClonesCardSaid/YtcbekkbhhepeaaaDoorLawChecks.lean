/- The walk of ProgChecks. Conditions: the variable 'rows' lies as it is laid. -/
import Derived.Test.YtcbekkbhhepeaaaDoorBack
namespace Go.Proofs.YtcbekkbhhepeaaaDoor
open Go.RowKit
set_option linter.unusedSimpArgs false

/-- A stronger condition held is a weaker one held. -/
theorem wpAnyH_more {P : Program} {md : Region.Mode} {ops : Array Oper} {Q : Exit → Act → World → Prop} {S S' : World → Prop} (hS : ∀ w, S' w → S w) :
    ∀ (fuel : Nat) (listed : Array Bool) (a : Act) (w : World), wpAnyH P md ops Q S' fuel listed a w → wpAnyH P md ops Q S fuel listed a w
  | 0, _, _, _, h => h
  | fuel + 1, _, _, _, h => ⟨h.1, fun i hi => wpOp_mono (fun a' w' h' => ⟨hS _ h'.1, wpAnyH_more hS fuel _ a' w' h'.2⟩) (h.2 i hi)⟩

theorem few_short (xss : List (List Ins)) : (few xss).length ≤ 6 ∧ ∀ xs ∈ few xss, xs.length ≤ 20 := by
  unfold few
  refine ⟨by rw [List.length_map, List.length_take]; omega, fun xs hx => ?_⟩
  obtain ⟨y, _, rfl⟩ := List.mem_map.1 hx
  rw [List.length_take]
  omega
theorem few_size (xss : List (List Ins)) : sizeM (few xss) ≤ 1900 := by
  have h1 := sizeM_le 20 (few xss) (few_short xss).2
  have h2 := (few_short xss).1
  have : (1 + 12 * 20) * (few xss).length ≤ (1 + 12 * 20) * 6 := Nat.mul_le_mul_left _ h2
  omega

set_option maxRecDepth 100000 in
set_option maxHeartbeats 4000000 in
theorem checks_any {w : World} {S : Nat → Prop} {A : Option Addr} {n cap : Nat} {xss : List (List Ins)} (h : Mat w S A n cap xss) (hS : ∀ g, S g → g < w.heap.size) (hL : Laid w) (r c s : Int) :
    Calls Tryd.prog 3 #[.agg #[.int .i64 r, .int .i64 c, .int .i64 s, .slice A n cap]] w fun e w' => e = .returned (.bool true) ∧ Below w.heap.size w w' := by
  obtain ⟨W0, eW0⟩ : ∃ W0, W0 = w.alloc (.cells #[.int .i64 r, .int .i64 c, .int .i64 s, .slice A n cap] 24) := ⟨_, rfl⟩
  have b0 : Below w.heap.size w W0 := by rw [eW0]; exact (Below.refl _ w).alloc (Nat.le_refl _) _
  have q0 : Blk W0 w.heap.size 24 (prg r c s A n cap) := by rw [eW0]; exact heap_alloc_new w _
  have hM0 := h.below b0 hS
  have hS0 : ∀ g, S g → g < W0.heap.size := fun g hg => Nat.lt_of_lt_of_le (hS g hg) b0.size
  have hL0 := hL.on b0
  have hA := alive_any W0 hL0
  have hSw := Lib.hid hS
  have hLw := Lib.hid hL
  clear h hS hL
  go_enter Tryd.func3, Tryd.ntmps3
  go_wp2_with fail
  rw [← eW0]
  clear eW0
  refine hA.mono ?_
  rintro e w1 ⟨rfl, hb1⟩
  have q1 := q0.below hb1 q0.lt
  have z0 : w1.cell? ⟨w.heap.size, 0, none⟩ = some (.int .i64 r) := q1.cell 0
  have z1 : w1.cell? ⟨w.heap.size, 1, none⟩ = some (.int .i64 c) := q1.cell 1
  have z2 : w1.cell? ⟨w.heap.size, 2, none⟩ = some (.int .i64 s) := q1.cell 2
  have z3 : w1.cell? ⟨w.heap.size, 3, none⟩ = some (.slice A n cap) := q1.cell 3
  have hF := few_any (hM0.below hb1 hS0) (fun g hg => Nat.lt_of_lt_of_le (hS0 g hg) hb1.size) r c s
  have hL1 := hL0.on hb1
  have b1 := b0.trans (hb1.mono b0.size)
  clear hA hM0 hS0 hL0 hb1 b0 q0
  go_wp2_with fail
  refine hF.mono ?_
  rintro e w2 ⟨A2, n2, cap2, rfl, hM2, hb2⟩
  obtain ⟨V, eV⟩ : ∃ V, V = w2.setRow w.heap.size (prg r c s A2 n2 cap2) := ⟨_, rfl⟩
  have q2 := q1.below hb2 q1.lt
  have qV : Blk V w.heap.size 24 (prg r c s A2 n2 cap2) := by rw [eV]; exact setRow_heap _ _ _ _ _ _ q2
  have sV : V.heap.size = w2.heap.size := by rw [eV]; exact size_setRow _ _ _
  have bV : Below w.heap.size w V := by rw [eV]; exact below_setRow (b1.trans (hb2.mono b1.size)) (Nat.le_refl _) _
  have zV : w.heap.size < V.heap.size := by rw [sV]; exact q2.lt
  have hMV : Mat V (fun g => g < V.heap.size) A2 n2 cap2 (few xss) := by
    refine Mat.more (hM2.keep (w' := V) fun p hp => cell_blk p ?_) fun g hg => ?_
    · rw [eV]
      refine setRow_other _ _ _ _ ?_
      rcases hp with hp | hp
      · have := hSw.out _ hp; omega
      · have := hp.1; have := q1.lt; omega
    · rw [sV]
      rcases hg with hg | hg
      · exact Nat.lt_of_lt_of_le (hSw.out _ hg) (Nat.le_of_lt q2.lt)
      · exact hg.2
  have hLV : Laid V := hLw.out.on bV
  generalize hys : few xss = ys at *
  have HSZ : Hid (sizeM ys ≤ 1900) := Lib.hid (by rw [← hys]; exact few_size xss)
  clear hys hM2 b1 hL1 hF q1 z0 z1 z2 z3
  have hlen := Lib.hid hMV.len
  have hm2 := len_i64 hMV.room hMV.most
  have tc0 : ∀ W, Below V.heap.size V W → W.cell? ⟨w.heap.size, 0, none⟩ = some (.int .i64 r) := fun W hb => (qV.below hb zV).cell 0
  have tc1 : ∀ W, Below V.heap.size V W → W.cell? ⟨w.heap.size, 1, none⟩ = some (.int .i64 c) := fun W hb => (qV.below hb zV).cell 1
  have tc2 : ∀ W, Below V.heap.size V W → W.cell? ⟨w.heap.size, 2, none⟩ = some (.int .i64 s) := fun W hb => (qV.below hb zV).cell 2
  have tc3 : ∀ W, Below V.heap.size V W → W.cell? ⟨w.heap.size, 3, none⟩ = some (.slice A2 n2 cap2) := fun W hb => (qV.below hb zV).cell 3
  obtain ⟨v, ev⟩ : ∃ v, chkP r c s ys = v := ⟨_, rfl⟩
  have hC9 : ∀ W, Below V.heap.size V W → Calls Tryd.prog 9 #[.agg #[.int .i64 r, .int .i64 c, .int .i64 s, .slice A2 n2 cap2]] W fun e w' => e = .returned (.int .i64 v) ∧ Below W.heap.size W w' := fun W hW => by
    rw [← ev]; exact ref_check (hMV.below hW fun g hg => hg) (fun g hg => Nat.lt_of_lt_of_le hg hW.size) r c s
  have hC11 : ∀ W, Below V.heap.size V W → Calls Tryd.prog 11 #[.agg #[.int .i64 r, .int .i64 c, .int .i64 s, .slice A2 n2 cap2]] W fun e w' => e = .returned (.int .i64 v) ∧ Below W.heap.size W w' := fun W hW => by
    rw [← ev]; exact prog_check (hMV.below hW fun g hg => hg) (fun g hg => Nat.lt_of_lt_of_le hg hW.size) (hLV.on hW) r c s
  obtain ⟨zz, ezz⟩ : ∃ zz, 5 + sizeM ys = zz := ⟨_, rfl⟩
  have HZZ : Hid ((octP r c s ys).length = zz) := Lib.hid (by rw [octP_len, ezz])
  have hC12 : ∀ W, Below V.heap.size V W → Calls Tryd.prog 12 #[.agg #[.int .i64 r, .int .i64 c, .int .i64 s, .slice A2 n2 cap2]] W fun e w' => e = .returned (.int .i64 (zz : Int)) ∧ Below W.heap.size W w' := fun W hW =>
    size_any (hMV.below hW fun g hg => hg) (fun g hg => Nat.lt_of_lt_of_le hg hW.size) r c s HSZ.out zz ezz
  have hC13 : ∀ W, Below V.heap.size V W → Calls Tryd.prog 13 #[.agg #[.int .i64 r, .int .i64 c, .int .i64 s, .slice A2 n2 cap2]] W (Gives (octP r c s ys) W) := fun W hW =>
    ref_put (hMV.below hW fun g hg => hg) (fun g hg => Nat.lt_of_lt_of_le hg hW.size) r c s HSZ.out
  clear ezz
  have r0 := Below.refl V.heap.size V
  have d0 := tc0 V r0
  have d1 := tc1 V r0
  have d2 := tc2 V r0
  have d3 := tc3 V r0
  rw [eV] at d0 d1 d2 d3
  go_wp2_with (refine wpList_store_row rfl 24 (.tmp 1) (.tmp 9) rfl w.heap.size (prg r c s A2 n2 cap2) rfl rfl 24 (prg r c s A n cap) q2 info24 rfl (prg_one r c s A2 n2 cap2) ?_)
  rw [← eV]
  clear d0 d1 d2 d3 eV sV hb2 q2
  refine (hC9 V r0).mono ?_
  rintro e w3 ⟨rfl, hb3⟩
  have d0 := tc0 _ hb3
  have d1 := tc1 _ hb3
  have d2 := tc2 _ hb3
  have d3 := tc3 _ hb3
  have hM3 := hMV.below hb3 fun g hg => hg
  have hS3 : ∀ g, g < V.heap.size → g < w3.heap.size := fun g hg => Nat.lt_of_lt_of_le hg hb3.size
  have hL3 := hLV.on hb3
  by_cases hv : v = 0
  · subst hv
    have hP := put_good hM3 hS3 hL3 r c s ev
    obtain ⟨os, eos⟩ : ∃ os, octP r c s ys = os := ⟨_, rfl⟩
    rw [eos] at hP HZZ
    simp only [eos] at hC13
    obtain ⟨tx, etx⟩ : ∃ tx, strOfNums os = tx := ⟨_, rfl⟩
    have ETX := Lib.hid etx
    clear etx eos
    go_wp2_with fail
    refine hP.mono ?_
    rintro e w4 ⟨A4, n4, cap4, rfl, ho4, hb4⟩
    have hb4' := hb3.trans (hb4.mono hb3.size)
    clear d0 d1 d2 d3 hb4 hM3 hS3 hL3 hP hb3 hMV hLV
    have rb : ∀ W, Below w4.heap.size w4 W → Below V.heap.size V W := fun W hW => hb4'.trans (hW.mono hb4'.size)
    replace tc0 : ∀ W, Below w4.heap.size w4 W → W.cell? ⟨w.heap.size, 0, none⟩ = some (.int .i64 r) := fun W hW => tc0 W (rb W hW)
    replace tc1 : ∀ W, Below w4.heap.size w4 W → W.cell? ⟨w.heap.size, 1, none⟩ = some (.int .i64 c) := fun W hW => tc1 W (rb W hW)
    replace tc2 : ∀ W, Below w4.heap.size w4 W → W.cell? ⟨w.heap.size, 2, none⟩ = some (.int .i64 s) := fun W hW => tc2 W (rb W hW)
    replace tc3 : ∀ W, Below w4.heap.size w4 W → W.cell? ⟨w.heap.size, 3, none⟩ = some (.slice A2 n2 cap2) := fun W hW => tc3 W (rb W hW)
    replace hC11 : ∀ W, Below w4.heap.size w4 W → Calls Tryd.prog 11 #[.agg #[.int .i64 r, .int .i64 c, .int .i64 s, .slice A2 n2 cap2]] W fun e w' => e = .returned (.int .i64 0) ∧ Below W.heap.size W w' := fun W hW => hC11 W (rb W hW)
    replace hC12 : ∀ W, Below w4.heap.size w4 W → Calls Tryd.prog 12 #[.agg #[.int .i64 r, .int .i64 c, .int .i64 s, .slice A2 n2 cap2]] W fun e w' => e = .returned (.int .i64 (zz : Int)) ∧ Below W.heap.size W w' := fun W hW => hC12 W (rb W hW)
    replace hC13 : ∀ W, Below w4.heap.size w4 W → Calls Tryd.prog 13 #[.agg #[.int .i64 r, .int .i64 c, .int .i64 s, .slice A2 n2 cap2]] W (Gives os W) := fun W hW => hC13 W (rb W hW)
    have hB4 := bV.trans (hb4'.mono (Nat.le_of_lt zV))
    have k4 := (Below.refl w4.heap.size w4).drew
    clear rb hb4' hC9 bV zV qV
    go_wp2_with fail
    go_region_held3 (fun w' => Below w4.heap.size w4 w' ∧ w'.cell? ⟨w.heap.size, 0, none⟩ = some (.int .i64 r) ∧ w'.cell? ⟨w.heap.size, 1, none⟩ = some (.int .i64 c) ∧ w'.cell? ⟨w.heap.size, 2, none⟩ = some (.int .i64 s) ∧ w'.cell? ⟨w.heap.size, 3, none⟩ = some (.slice A2 n2 cap2))
      (first
        | (exact ⟨k4, tc0 _ k4, tc1 _ k4, tc2 _ k4, tc3 _ k4⟩)
        | (exact ⟨k7, tc0 _ k7, tc1 _ k7, tc2 _ k7, tc3 _ k7⟩)
        | (exact ⟨k6, tc0 _ k6, tc1 _ k6, tc2 _ k6, tc3 _ k6⟩)
        | (exact ⟨k5, tc0 _ k5, tc1 _ k5, tc2 _ k5, tc3 _ k5⟩))
      (first
        | (go_at_call 11; refine (hC11 _ k4).mono ?_; rintro e w5 ⟨rfl, hb5⟩; have k5 := k4.trans (hb5.mono k4.size))
        | (go_at_call 12; refine (hC12 _ k5).mono ?_; rintro e w6 ⟨rfl, hb6⟩; have k6 := k5.trans (hb6.mono k5.size))
        | (go_at_call 12; refine (hC12 _ k6).mono ?_; rintro e w7 ⟨rfl, hb7⟩; have k7 := k6.trans (hb7.mono k6.size))
        | (go_at_call 13; refine (hC13 _ k5).mono ?_; rintro e w6 ⟨A6, n6, cap6, rfl, ho6, hb6, _⟩; obtain rfl : n6 = zz := ho6.len.symm.trans HZZ.out; have k6 := k5.trans (hb6.mono k5.size))
        | (go_at_call 13; refine (hC13 _ k6).mono ?_; rintro e w7 ⟨A6, n6, cap6, rfl, ho6, hb7, _⟩; obtain rfl : n6 = zz := ho6.len.symm.trans HZZ.out; have k7 := k6.trans (hb7.mono k6.size)))
    have o7 : Oct w7 w7.heap.size A4 n4 cap4 os := (ho4.below k7).more k7.size
    have tc4 : ∀ W, Below w7.heap.size w7 W → (convert 29 9 (.slice A4 n4 cap4)).run Tryd.prog W = .ok (.string tx) W := fun W hW => by
      have := (o7.below hW).text (P := Tryd.prog) 29 9 5 Tryd.underlying29 Tryd.underlying5 Tryd.underlying9
      rw [ETX.out] at this
      exact this
    have kk : ∀ W, Below w7.heap.size w7 W → Below w4.heap.size w4 W := fun W hW => k7.trans (hW.mono k7.size)
    have cc : ∀ W, Below w7.heap.size w7 W → (convert 29 9 (.slice A4 n4 cap4)).run Tryd.prog W = .ok (.string tx) W ∧ Below w7.heap.size w7 W ∧ W.cell? ⟨w.heap.size, 0, none⟩ = some (.int .i64 r) ∧ W.cell? ⟨w.heap.size, 1, none⟩ = some (.int .i64 c) ∧ W.cell? ⟨w.heap.size, 2, none⟩ = some (.int .i64 s) ∧ W.cell? ⟨w.heap.size, 3, none⟩ = some (.slice A2 n2 cap2) := fun W hW =>
      ⟨tc4 W hW, hW, tc0 W (kk W hW), tc1 W (kk W hW), tc2 W (kk W hW), tc3 W (kk W hW)⟩
    have hB7 := hB4.trans (k7.mono hB4.size)
    have hC : ∀ W, Below w7.heap.size w7 W → Calls Tryd.prog 13 #[.agg #[.int .i64 r, .int .i64 c, .int .i64 s, .slice A2 n2 cap2]] W (Gives os W) := fun W hW => hC13 W (kk W hW)
    clear k4 k5 k6 tc0 tc1 tc2 tc3 tc4 hC11 hC12 hC13 ho4 o7
    go_wp2_with fail
    have q0 := (Below.refl w7.heap.size w7).drew
    refine wp_region_noPanic ?_
    refine wp_region_held_drew (S := (fun w' => (convert 29 9 (.slice A4 n4 cap4)).run Tryd.prog w' = .ok (.string tx) w' ∧ Below w7.heap.size w7 w' ∧ w'.cell? ⟨w.heap.size, 0, none⟩ = some (.int .i64 r) ∧ w'.cell? ⟨w.heap.size, 1, none⟩ = some (.int .i64 c) ∧ w'.cell? ⟨w.heap.size, 2, none⟩ = some (.int .i64 s) ∧ w'.cell? ⟨w.heap.size, 3, none⟩ = some (.slice A2 n2 cap2))) (by kernel_rfl) (cc _ q0) (fun hHeld => ?_)
    refine wpAnyH_take (i := 0) (oi := ⟨some 34, _, _, _, _, _⟩) (v := ?_) rfl (by kernel_rfl) (by kernel_rfl) (by kernel_rfl) (fun _ _ _ h => h) (Or.inl ⟨by rfl, ?_⟩) (by assumption) ?_
    rotate_left 1
    · (intro W hSw; go_simp <;> with_reducible rfl)
    try simp only [Act.put, List.setIfInBounds_toArray, List.set_cons_zero, List.set_cons_succ]
    refine wpAnyH_take (i := 1) (oi := ⟨some 35, _, _, _, _, _⟩) (v := ?_) rfl (by kernel_rfl) (by kernel_rfl) (by kernel_rfl) (fun _ _ _ h => h) (Or.inl ⟨by rfl, ?_⟩) (by assumption) ?_
    rotate_left 1
    · (intro W hSw; go_simp <;> with_reducible rfl)
    try simp only [Act.put, List.setIfInBounds_toArray, List.set_cons_zero, List.set_cons_succ]
    refine wpAnyH_take (i := 2) (oi := ⟨some 36, _, _, _, _, _⟩) (v := ?_) rfl (by kernel_rfl) (by kernel_rfl) (by kernel_rfl) (fun _ _ _ h => h) (Or.inl ⟨by rfl, ?_⟩) (by assumption) ?_
    rotate_left 1
    · (intro W hSw; go_simp <;> with_reducible rfl)
    try simp only [Act.put, List.setIfInBounds_toArray, List.set_cons_zero, List.set_cons_succ]
    refine wpAnyH_take (i := 3) (oi := ⟨some 37, _, _, _, _, _⟩) (v := ?_) rfl (by kernel_rfl) (by kernel_rfl) (by kernel_rfl) (fun _ _ _ h => h) (Or.inl ⟨by rfl, ?_⟩) (by assumption) ?_
    rotate_left 1
    · (intro W hSw; go_simp <;> with_reducible rfl)
    try simp only [Act.put, List.setIfInBounds_toArray, List.set_cons_zero, List.set_cons_succ]
    refine wpAnyH_take (i := 4) (oi := ⟨some 38, _, _, _, _, _⟩) (v := ?_) rfl (by kernel_rfl) (by kernel_rfl) (by kernel_rfl) (fun _ _ _ h => h) (Or.inl ⟨by rfl, ?_⟩) (by assumption) ?_
    rotate_left 1
    · (intro W hSw; go_simp <;> with_reducible rfl)
    try simp only [Act.put, List.setIfInBounds_toArray, List.set_cons_zero, List.set_cons_succ]
    refine wpAnyH_take (i := 5) (oi := ⟨some 39, _, _, _, _, _⟩) (v := ?_) rfl (by kernel_rfl) (by kernel_rfl) (by kernel_rfl) (fun _ _ _ h => h) (Or.inl ⟨by rfl, ?_⟩) (by assumption) ?_
    rotate_left 1
    · (intro W hSw; go_simp <;> with_reducible rfl)
    try simp only [Act.put, List.setIfInBounds_toArray, List.set_cons_zero, List.set_cons_succ]
    refine wpAnyH_ready (rs := [6]) (by kernel_rfl) (by simp) ?_
    refine AllReadyH.cons rfl (fun K hK => ?_) AllReadyH.nil
    go_simp
    refine (hC _ q0).mono ?_
    rintro e w8 ⟨A8, n8, cap8, rfl, ho8, hb8, _⟩
    have q8 : Below w7.heap.size w7 w8 := q0.trans (hb8.mono q0.size)
    have t8 := ho8.text (P := Tryd.prog) 29 9 5 Tryd.underlying29 Tryd.underlying5 Tryd.underlying9
    rw [ETX.out] at t8
    refine hK.out _ _ (cc _ q8) (fun hHeld2 => ?_)
    have hHeld3 := And.intro t8 hHeld2
    clear hHeld hHeld2 hK K hb8 t8
    refine wpAnyH_more (S' := (fun w' => (convert 29 9 (.slice A8 n8 cap8)).run Tryd.prog w' = .ok (.string tx) w' ∧ (convert 29 9 (.slice A4 n4 cap4)).run Tryd.prog w' = .ok (.string tx) w' ∧ Below w7.heap.size w7 w' ∧ w'.cell? ⟨w.heap.size, 0, none⟩ = some (.int .i64 r) ∧ w'.cell? ⟨w.heap.size, 1, none⟩ = some (.int .i64 c) ∧ w'.cell? ⟨w.heap.size, 2, none⟩ = some (.int .i64 s) ∧ w'.cell? ⟨w.heap.size, 3, none⟩ = some (.slice A2 n2 cap2))) (fun W h => h.2) _ _ _ _ ?_
    try simp only [Act.put, List.setIfInBounds_toArray, List.set_cons_zero, List.set_cons_succ]
    refine wpAnyH_take (i := 7) (oi := ⟨some 41, _, _, _, _, _⟩) (v := ?_) rfl (by kernel_rfl) (by kernel_rfl) (by kernel_rfl) (fun _ _ _ h => h) (Or.inl ⟨by rfl, ?_⟩) (by assumption) ?_
    rotate_left 1
    · (intro W hSw; go_simp <;> with_reducible rfl)
    try simp only [Act.put, List.setIfInBounds_toArray, List.set_cons_zero, List.set_cons_succ]
    refine wpAnyH_take (i := 8) (oi := ⟨some 42, _, _, _, _, _⟩) (v := ?_) rfl (by kernel_rfl) (by kernel_rfl) (by kernel_rfl) (fun _ _ _ h => h) (Or.inl ⟨by rfl, ?_⟩) (by assumption) ?_
    rotate_left 1
    · (intro W hSw; go_simp <;> with_reducible rfl)
    try simp only [Act.put, List.setIfInBounds_toArray, List.set_cons_zero, List.set_cons_succ]
    refine wpAnyH_take (i := 9) (oi := ⟨some 43, _, _, _, _, _⟩) (v := ?_) rfl (by kernel_rfl) (by kernel_rfl) (by kernel_rfl) (fun _ _ _ h => h) (Or.inl ⟨by rfl, ?_⟩) (by assumption) ?_
    rotate_left 1
    · (intro W hSw; go_simp <;> with_reducible rfl)
    try simp only [Act.put, List.setIfInBounds_toArray, List.set_cons_zero, List.set_cons_succ]
    refine wpAnyH_take (i := 10) (oi := ⟨some 44, _, _, _, _, _⟩) (v := ?_) rfl (by kernel_rfl) (by kernel_rfl) (by kernel_rfl) (fun _ _ _ h => h) (Or.inl ⟨by rfl, ?_⟩) (by assumption) ?_
    rotate_left 1
    · (intro W hSw; go_simp <;> with_reducible rfl)
    try simp only [Act.put, List.setIfInBounds_toArray, List.set_cons_zero, List.set_cons_succ]
    refine wpAnyH_take (i := 11) (oi := ⟨some 45, _, _, _, _, _⟩) (v := undef) rfl (by kernel_rfl) (by kernel_rfl) (by kernel_rfl) (fun _ _ _ h => h) (Or.inr ⟨by rfl, rfl⟩) (by assumption) ?_
    try simp only [Act.put, List.setIfInBounds_toArray, List.set_cons_zero, List.set_cons_succ]
    refine wpAnyH_take (i := 12) (oi := ⟨some 46, _, _, _, _, _⟩) (v := undef) rfl (by kernel_rfl) (by kernel_rfl) (by kernel_rfl) (fun _ _ _ h => h) (Or.inr ⟨by rfl, rfl⟩) (by assumption) ?_
    try simp only [Act.put, List.setIfInBounds_toArray, List.set_cons_zero, List.set_cons_succ]
    refine wpAnyH_take (i := 13) (oi := ⟨some 47, _, _, _, _, _⟩) (v := undef) rfl (by kernel_rfl) (by kernel_rfl) (by kernel_rfl) (fun _ _ _ h => h) (Or.inr ⟨by rfl, rfl⟩) (by assumption) ?_
    try simp only [Act.put, List.setIfInBounds_toArray, List.set_cons_zero, List.set_cons_succ]
    refine wpAnyH_take (i := 14) (oi := ⟨some 48, _, _, _, _, _⟩) (v := undef) rfl (by kernel_rfl) (by kernel_rfl) (by kernel_rfl) (fun _ _ _ h => h) (Or.inr ⟨by rfl, rfl⟩) (by assumption) ?_
    try simp only [Act.put, List.setIfInBounds_toArray, List.set_cons_zero, List.set_cons_succ]
    refine wpAnyH_take (i := 15) (oi := ⟨some 49, _, _, _, _, _⟩) (v := undef) rfl (by kernel_rfl) (by kernel_rfl) (by kernel_rfl) (fun _ _ _ h => h) (Or.inr ⟨by rfl, rfl⟩) (by assumption) ?_
    try simp only [Act.put, List.setIfInBounds_toArray, List.set_cons_zero, List.set_cons_succ]
    refine wpAnyH_take (i := 16) (oi := ⟨some 50, _, _, _, _, _⟩) (v := undef) rfl (by kernel_rfl) (by kernel_rfl) (by kernel_rfl) (fun _ _ _ h => h) (Or.inr ⟨by rfl, rfl⟩) (by assumption) ?_
    try simp only [Act.put, List.setIfInBounds_toArray, List.set_cons_zero, List.set_cons_succ]
    refine wpAnyH_take (i := 17) (oi := ⟨some 51, _, _, _, _, _⟩) (v := undef) rfl (by kernel_rfl) (by kernel_rfl) (by kernel_rfl) (fun _ _ _ h => h) (Or.inr ⟨by rfl, rfl⟩) (by assumption) ?_
    try simp only [Act.put, List.setIfInBounds_toArray, List.set_cons_zero, List.set_cons_succ]
    refine wpAnyH_take (i := 18) (oi := ⟨some 52, _, _, _, _, _⟩) (v := ?_) rfl (by kernel_rfl) (by kernel_rfl) (by kernel_rfl) (fun _ _ _ h => h) (Or.inl ⟨by rfl, ?_⟩) (by assumption) ?_
    rotate_left 1
    · (intro W hSw; go_simp <;> with_reducible rfl)
    try simp only [Act.put, List.setIfInBounds_toArray, List.set_cons_zero, List.set_cons_succ]
    refine wpAnyH_take (i := 19) (oi := ⟨some 2, _, _, _, _, _⟩) (v := ?_) rfl (by kernel_rfl) (by kernel_rfl) (by kernel_rfl) (fun _ _ _ h => h) (Or.inl ⟨by rfl, ?_⟩) (by assumption) ?_
    rotate_left 1
    · (intro W hSw; go_simp <;> with_reducible rfl)
    try simp only [Act.put, List.setIfInBounds_toArray, List.set_cons_zero, List.set_cons_succ]
    refine wpAnyH_done (by kernel_rfl) ?_ _
    refine NoPanic.normal ?_
    have HB := Lib.hid (hB7.trans (q8.mono hB7.size))
    clear q0 q8 hHeld3 cc kk hC hB7
    go_wp2
    go_ret
    exact ⟨by simp, HB.out⟩
  · have hP := put_bad hM3 hS3 hL3 r c s (by rw [ev]; exact hv)
    rw [ev] at hP
    have t0 : decide (v = 0) = false := decide_eq_false hv
    go_wp2_with fail
    refine hP.mono ?_
    rintro e w4 ⟨rfl, hb4⟩
    have hb4' := hb3.trans (hb4.mono hb3.size)
    clear d0 d1 d2 d3 hb4 hM3 hS3 hL3 hP hb3 hMV hLV
    have k4 := hb4'.drew
    go_wp2_with fail
    go_region_held3 (fun w' => Below V.heap.size V w' ∧ w'.cell? ⟨w.heap.size, 0, none⟩ = some (.int .i64 r) ∧ w'.cell? ⟨w.heap.size, 1, none⟩ = some (.int .i64 c) ∧ w'.cell? ⟨w.heap.size, 2, none⟩ = some (.int .i64 s) ∧ w'.cell? ⟨w.heap.size, 3, none⟩ = some (.slice A2 n2 cap2))
      (first
        | (exact ⟨k4, tc0 _ k4, tc1 _ k4, tc2 _ k4, tc3 _ k4⟩)
        | (exact ⟨k7, tc0 _ k7, tc1 _ k7, tc2 _ k7, tc3 _ k7⟩)
        | (exact ⟨k6, tc0 _ k6, tc1 _ k6, tc2 _ k6, tc3 _ k6⟩)
        | (exact ⟨k5, tc0 _ k5, tc1 _ k5, tc2 _ k5, tc3 _ k5⟩))
      (first
        | (go_at_call 11; refine (hC11 _ k4).mono ?_; rintro e w5 ⟨rfl, hb5⟩; have k5 := k4.trans (hb5.mono k4.size))
        | (go_at_call 12; refine (hC12 _ k5).mono ?_; rintro e w6 ⟨rfl, hb6⟩; have k6 := k5.trans (hb6.mono k5.size))
        | (go_at_call 12; refine (hC12 _ k6).mono ?_; rintro e w7 ⟨rfl, hb7⟩; have k7 := k6.trans (hb7.mono k6.size))
        | (go_at_call 13; refine (hC13 _ k5).mono ?_; rintro e w6 ⟨A6, n6, cap6, rfl, ho6, hb6, _⟩; obtain rfl : n6 = zz := ho6.len.symm.trans HZZ.out; have k6 := k5.trans (hb6.mono k5.size))
        | (go_at_call 13; refine (hC13 _ k6).mono ?_; rintro e w7 ⟨A6, n6, cap6, rfl, ho6, hb7, _⟩; obtain rfl : n6 = zz := ho6.len.symm.trans HZZ.out; have k7 := k6.trans (hb7.mono k6.size)))
    have HB := Lib.hid (bV.trans (k7.mono (Nat.le_of_lt zV)))
    clear hb4' k4 k5 k6 tc0 tc1 tc2 tc3 hC9 hC11 hC12 hC13
    go_wp2_with fail
    go_quiet (fail)
    go_wp2
    go_ret
    exact ⟨by simp [hv], below_drew HB.out _⟩
end Go.Proofs.YtcbekkbhhepeaaaDoor
