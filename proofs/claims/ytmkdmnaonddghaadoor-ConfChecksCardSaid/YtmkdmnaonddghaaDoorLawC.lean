/- The walk of ConfChecks. Conditions: the variables lie as they are laid. -/
import Derived.Test.YtmkdmnaonddghaaDoorAlive
namespace Go.Proofs.YtmkdmnaonddghaaDoor
open Go.RowKit Nine

theorem wpAnyH_more {P : Program} {md : Region.Mode} {ops : Array Oper} {Q : Exit → Act → World → Prop} {S S' : World → Prop} (hS : ∀ w, S' w → S w) :
    ∀ (fuel : Nat) (listed : Array Bool) (a : Act) (w : World), wpAnyH P md ops Q S' fuel listed a w → wpAnyH P md ops Q S fuel listed a w
  | 0, _, _, _, h => h
  | fuel + 1, _, _, _, h => ⟨h.1, fun i hi => wpOp_mono (fun a' w' h' => ⟨hS _ h'.1, wpAnyH_more hS fuel _ a' w' h'.2⟩) (h.2 i hi)⟩
theorem drew_below (w : World) : Below w.heap.size w w.drew := ⟨rfl, rfl, rfl, Nat.le_refl _, fun _ _ => rfl⟩
set_option maxRecDepth 100000 in
set_option maxHeartbeats 2000000 in
theorem checks_any (c : Cfg) (a : Ask) (w : World) (hL : Laid w) : Calls Tryd.prog 3 #[.agg #[.int .i64 c.s, .int .i64 c.o, .int .i64 c.t, .int .i64 c.f, .int .i64 c.d], .agg #[.int .i64 a.m, .int .i64 a.b, .bool a.st]] w fun e w' => e = .returned (.bool true) ∧ Below w.heap.size w w' := by
  have hRC := fun W => refcheck_any c W
  have hRA := fun W => refask_any a W
  have hCC := fun W hW => confcheck_any c W hW
  have hCA := fun W hW => confask_any a W hW
  have hPg := fun W hW => confput_good c a W hW
  have hPb := fun W hW => confput_bad c a W hW
  have hLg := fun W hW hc ha => confline_good c a W hW hc ha
  have hLb := fun W hW => confline_bad c a W hW
  have hRP := fun W => refput14 c a W
  have hRL := fun W hc ha => refline_any c a W hc ha
  have hcb := chkB_of c a
  rw [chkC_of] at hCC
  rw [chkA_of] at hCA
  generalize okC c = x at *
  generalize okA a = y at *
  obtain ⟨tx, etx⟩ : ∃ tx, strOfNums (octC c a) = tx := ⟨_, rfl⟩
  obtain ⟨ln, eln⟩ : ∃ l, txt (lineO c a) = l := ⟨_, rfl⟩
  rw [eln] at hLg hRL
  generalize octC c a = os at *
  have ETX := Lib.hid etx
  obtain ⟨s, o, t, f, d⟩ := c
  obtain ⟨m, b, st⟩ := a
  simp only at hRC hRA hCC hCA hPg hPb hLg hLb hRP hRL
  clear etx eln
  obtain ⟨W, eW⟩ : ∃ W, W = (w.alloc (.cells #[.int .i64 s, .int .i64 o, .int .i64 t, .int .i64 f, .int .i64 d] 23)).alloc (.cells #[.int .i64 m, .int .i64 b, .bool st] 25) := ⟨_, rfl⟩
  have hb : Below w.heap.size w W := by rw [eW]; exact ((Below.refl _ w).alloc (Nat.le_refl _) _).alloc (by simp) _
  have hB0 : Blk W w.heap.size 23 #[.int .i64 s, .int .i64 o, .int .i64 t, .int .i64 f, .int .i64 d] := by rw [eW]; exact Blk.below (heap_alloc_new w _) ((Below.refl _ _).alloc (Nat.le_refl _) _) (by simp)
  have hB1 : Blk W (w.heap.size + 1) 25 #[.int .i64 m, .int .i64 b, .bool st] := by rw [eW]; exact heap_alloc2_new w _ _
  have hA := alive_any W (hL.on hb)
  go_enter Tryd.func3, Tryd.ntmps3
  go_wp2_with fail
  rw [← eW]
  clear eW
  refine hA.mono ?_
  rintro e w1 ⟨rfl, hb1⟩
  have B0 := hB0.below hb1 hB0.lt
  have B1 := hB1.below hb1 hB1.lt
  have q1 := hb.trans (hb1.mono hb.size)
  have HL : Hid (∀ W, Below w1.heap.size w1 W → Laid W) := Lib.hid fun W h => hL.on (q1.trans (h.mono q1.size))
  have HZ : Hid (∀ W, Below w1.heap.size w1 W → (W.cell? ⟨w.heap.size, 0, none⟩ = some (.int .i64 s) ∧ W.cell? ⟨w.heap.size, 1, none⟩ = some (.int .i64 o) ∧ W.cell? ⟨w.heap.size, 2, none⟩ = some (.int .i64 t) ∧ W.cell? ⟨w.heap.size, 3, none⟩ = some (.int .i64 f) ∧ W.cell? ⟨w.heap.size, 4, none⟩ = some (.int .i64 d) ∧ W.cell? ⟨w.heap.size + 1, 0, none⟩ = some (.int .i64 m) ∧ W.cell? ⟨w.heap.size + 1, 1, none⟩ = some (.int .i64 b) ∧ W.cell? ⟨w.heap.size + 1, 2, none⟩ = some (.bool st))) := Lib.hid fun W h => ⟨(B0.below h B0.lt).cell 0, (B0.below h B0.lt).cell 1, (B0.below h B0.lt).cell 2, (B0.below h B0.lt).cell 3, (B0.below h B0.lt).cell 4, (B1.below h B1.lt).cell 0, (B1.below h B1.lt).cell 1, (B1.below h B1.lt).cell 2⟩
  have HQ := Lib.hid q1
  clear hA hB0 hB1 hb hb1 B0 B1 q1 hL
  go_wp2_with fail
  have k0 := drew_below w1
  refine wp_region_noPanic ?_
  refine wp_region_held_drew (S := fun W => W.cell? ⟨w.heap.size, 0, none⟩ = some (.int .i64 s) ∧ W.cell? ⟨w.heap.size, 1, none⟩ = some (.int .i64 o) ∧ W.cell? ⟨w.heap.size, 2, none⟩ = some (.int .i64 t) ∧ W.cell? ⟨w.heap.size, 3, none⟩ = some (.int .i64 f) ∧ W.cell? ⟨w.heap.size, 4, none⟩ = some (.int .i64 d) ∧ W.cell? ⟨w.heap.size + 1, 0, none⟩ = some (.int .i64 m) ∧ W.cell? ⟨w.heap.size + 1, 1, none⟩ = some (.int .i64 b) ∧ W.cell? ⟨w.heap.size + 1, 2, none⟩ = some (.bool st)) (by kernel_rfl) (HZ.out _ k0) (fun hHeld => ?_)
  generalize w1.drew = v at *
  refine wpAnyH_take (i := 0) (oi := ⟨some 13, _, _, _, _, _⟩) (v := ?_) rfl (by kernel_rfl) (by kernel_rfl) (by kernel_rfl) (fun _ _ _ h => h) (Or.inl ⟨by rfl, ?_⟩) (by assumption) ?_
  rotate_left 1
  · (intro W hSw; go_simp <;> with_reducible rfl)
  try simp only [Act.put, List.setIfInBounds_toArray, List.set_cons_zero, List.set_cons_succ]
  refine wpAnyH_take (i := 2) (oi := ⟨some 15, _, _, _, _, _⟩) (v := ?_) rfl (by kernel_rfl) (by kernel_rfl) (by kernel_rfl) (fun _ _ _ h => h) (Or.inl ⟨by rfl, ?_⟩) (by assumption) ?_
  rotate_left 1
  · (intro W hSw; go_simp <;> with_reducible rfl)
  try simp only [Act.put, List.setIfInBounds_toArray, List.set_cons_zero, List.set_cons_succ]
  refine wpAnyH_ready (rs := [1]) (by kernel_rfl) (by simp) ?_
  refine AllReadyH.cons rfl (fun K hK => ?_) AllReadyH.nil
  go_simp
  refine (hRC _).mono ?_
  rintro e v1 ⟨rfl, cv1⟩
  have k1 := k0.trans (cv1.mono k0.size)
  refine hK.out _ _ (HZ.out _ k1) (fun h1 => ?_)
  clear hHeld hK K
  try simp only [Act.put, List.setIfInBounds_toArray, List.set_cons_zero, List.set_cons_succ]
  refine wpAnyH_ready (rs := [3]) (by kernel_rfl) (by simp) ?_
  refine AllReadyH.cons rfl (fun K hK => ?_) AllReadyH.nil
  go_simp
  refine (hRA _).mono ?_
  rintro e v2 ⟨rfl, cv2⟩
  have k2 := k1.trans (cv2.mono k1.size)
  refine hK.out _ _ (HZ.out _ k2) (fun h2 => ?_)
  clear h1 hK K
  try simp only [Act.put, List.setIfInBounds_toArray, List.set_cons_zero, List.set_cons_succ]
  refine wpAnyH_take (i := 4) (oi := ⟨some 5, _, _, _, _, _⟩) (v := ?_) rfl (by kernel_rfl) (by kernel_rfl) (by kernel_rfl) (fun _ _ _ h => h) (Or.inl ⟨by rfl, ?_⟩) (by assumption) ?_
  rotate_left 1
  · (intro W hSw; go_simp <;> with_reducible rfl)
  try simp only [Act.put, List.setIfInBounds_toArray, List.set_cons_zero, List.set_cons_succ]
  refine wpAnyH_take (i := 5) (oi := ⟨some 6, _, _, _, _, _⟩) (v := ?_) rfl (by kernel_rfl) (by kernel_rfl) (by kernel_rfl) (fun _ _ _ h => h) (Or.inl ⟨by rfl, ?_⟩) (by assumption) ?_
  rotate_left 1
  · (intro W hSw; go_simp <;> with_reducible rfl)
  try simp only [Act.put, List.setIfInBounds_toArray, List.set_cons_zero, List.set_cons_succ]
  refine wpAnyH_done (by kernel_rfl) ?_ _
  refine NoPanic.normal ?_
  clear h2 cv1 cv2 k0 k1
  cases x with
  | false =>
    cases y with
    | false =>
      obtain ⟨z0, z1, z2, z3, z4, z5, z6, z7⟩ := HZ.out v2 k2
      have hP := hPb v2 (HL.out _ k2) (by rw [hcb]; rfl)
      go_wp2_with fail
      refine hP.mono ?_
      rintro e v3 ⟨rfl, cv3⟩
      have k3 := k2.trans (cv3.mono k2.size)
      clear z0 z1 z2 z3 z4 z5 z6 z7
      obtain ⟨z0, z1, z2, z3, z4, z5, z6, z7⟩ := HZ.out v3 k3
      have hN := hLb v3 (HL.out _ k3) (by rw [hcb]; rfl)
      go_wp2_with fail
      refine hN.mono ?_
      rintro e v4 ⟨rfl, cv4⟩
      have k4 := k3.trans (cv4.mono k3.size)
      clear z0 z1 z2 z3 z4 z5 z6 z7
      obtain ⟨z0, z1, z2, z3, z4, z5, z6, z7⟩ := HZ.out v4 k4
      have hT5 := hCC v4 (HL.out _ k4)
      go_wp2_with fail
      refine hT5.mono ?_
      rintro e v5 ⟨rfl, cv5⟩
      have k5 := k4.trans (cv5.mono k4.size)
      clear z0 z1 z2 z3 z4 z5 z6 z7
      clear hT5
      obtain ⟨z0, z1, z2, z3, z4, z5, z6, z7⟩ := HZ.out v5 k5
      have hT6 := hCA v5 (HL.out _ k5)
      go_wp2_with fail
      refine hT6.mono ?_
      rintro e v6 ⟨rfl, cv6⟩
      have k6 := k5.trans (cv6.mono k5.size)
      clear z0 z1 z2 z3 z4 z5 z6 z7
      clear hT6
      obtain ⟨z0, z1, z2, z3, z4, z5, z6, z7⟩ := HZ.out v6 k6
      have hT7 := hCC v6 (HL.out _ k6)
      go_wp2_with fail
      refine hT7.mono ?_
      rintro e v7 ⟨rfl, cv7⟩
      have k7 := k6.trans (cv7.mono k6.size)
      clear z0 z1 z2 z3 z4 z5 z6 z7
      clear hT7
      obtain ⟨z0, z1, z2, z3, z4, z5, z6, z7⟩ := HZ.out v7 k7
      have hT8 := hCA v7 (HL.out _ k7)
      go_wp2_with fail
      refine hT8.mono ?_
      rintro e v8 ⟨rfl, cv8⟩
      have k8 := k7.trans (cv8.mono k7.size)
      clear z0 z1 z2 z3 z4 z5 z6 z7
      clear hT8
      go_wp2
      go_ret
      exact ⟨by simp, HQ.out.trans (k8.mono HQ.out.size)⟩
    | true =>
      obtain ⟨z0, z1, z2, z3, z4, z5, z6, z7⟩ := HZ.out v2 k2
      have hP := hPb v2 (HL.out _ k2) (by rw [hcb]; rfl)
      go_wp2_with fail
      refine hP.mono ?_
      rintro e v3 ⟨rfl, cv3⟩
      have k3 := k2.trans (cv3.mono k2.size)
      clear z0 z1 z2 z3 z4 z5 z6 z7
      obtain ⟨z0, z1, z2, z3, z4, z5, z6, z7⟩ := HZ.out v3 k3
      have hN := hLb v3 (HL.out _ k3) (by rw [hcb]; rfl)
      go_wp2_with fail
      refine hN.mono ?_
      rintro e v4 ⟨rfl, cv4⟩
      have k4 := k3.trans (cv4.mono k3.size)
      clear z0 z1 z2 z3 z4 z5 z6 z7
      obtain ⟨z0, z1, z2, z3, z4, z5, z6, z7⟩ := HZ.out v4 k4
      have hT5 := hCC v4 (HL.out _ k4)
      go_wp2_with fail
      refine hT5.mono ?_
      rintro e v5 ⟨rfl, cv5⟩
      have k5 := k4.trans (cv5.mono k4.size)
      clear z0 z1 z2 z3 z4 z5 z6 z7
      clear hT5
      obtain ⟨z0, z1, z2, z3, z4, z5, z6, z7⟩ := HZ.out v5 k5
      have hT6 := hCA v5 (HL.out _ k5)
      go_wp2_with fail
      refine hT6.mono ?_
      rintro e v6 ⟨rfl, cv6⟩
      have k6 := k5.trans (cv6.mono k5.size)
      clear z0 z1 z2 z3 z4 z5 z6 z7
      clear hT6
      obtain ⟨z0, z1, z2, z3, z4, z5, z6, z7⟩ := HZ.out v6 k6
      have hT7 := hCC v6 (HL.out _ k6)
      go_wp2_with fail
      refine hT7.mono ?_
      rintro e v7 ⟨rfl, cv7⟩
      have k7 := k6.trans (cv7.mono k6.size)
      clear z0 z1 z2 z3 z4 z5 z6 z7
      clear hT7
      go_wp2
      go_ret
      exact ⟨by simp, HQ.out.trans (k7.mono HQ.out.size)⟩
  | true =>
    cases y with
    | false =>
      obtain ⟨z0, z1, z2, z3, z4, z5, z6, z7⟩ := HZ.out v2 k2
      have hP := hPb v2 (HL.out _ k2) (by rw [hcb]; rfl)
      go_wp2_with fail
      refine hP.mono ?_
      rintro e v3 ⟨rfl, cv3⟩
      have k3 := k2.trans (cv3.mono k2.size)
      clear z0 z1 z2 z3 z4 z5 z6 z7
      obtain ⟨z0, z1, z2, z3, z4, z5, z6, z7⟩ := HZ.out v3 k3
      have hN := hLb v3 (HL.out _ k3) (by rw [hcb]; rfl)
      go_wp2_with fail
      refine hN.mono ?_
      rintro e v4 ⟨rfl, cv4⟩
      have k4 := k3.trans (cv4.mono k3.size)
      clear z0 z1 z2 z3 z4 z5 z6 z7
      obtain ⟨z0, z1, z2, z3, z4, z5, z6, z7⟩ := HZ.out v4 k4
      have hT5 := hCC v4 (HL.out _ k4)
      go_wp2_with fail
      refine hT5.mono ?_
      rintro e v5 ⟨rfl, cv5⟩
      have k5 := k4.trans (cv5.mono k4.size)
      clear z0 z1 z2 z3 z4 z5 z6 z7
      clear hT5
      obtain ⟨z0, z1, z2, z3, z4, z5, z6, z7⟩ := HZ.out v5 k5
      have hT6 := hCA v5 (HL.out _ k5)
      go_wp2_with fail
      refine hT6.mono ?_
      rintro e v6 ⟨rfl, cv6⟩
      have k6 := k5.trans (cv6.mono k5.size)
      clear z0 z1 z2 z3 z4 z5 z6 z7
      clear hT6
      obtain ⟨z0, z1, z2, z3, z4, z5, z6, z7⟩ := HZ.out v6 k6
      have hT7 := hCA v6 (HL.out _ k6)
      go_wp2_with fail
      refine hT7.mono ?_
      rintro e v7 ⟨rfl, cv7⟩
      have k7 := k6.trans (cv7.mono k6.size)
      clear z0 z1 z2 z3 z4 z5 z6 z7
      clear hT7
      go_wp2
      go_ret
      exact ⟨by simp, HQ.out.trans (k7.mono HQ.out.size)⟩
    | true =>
      obtain ⟨z0, z1, z2, z3, z4, z5, z6, z7⟩ := HZ.out v2 k2
      have hP := hPg v2 (HL.out _ k2) (by rw [hcb]; rfl)
      go_wp2_with fail
      refine hP.mono ?_
      rintro e v3 ⟨A4, n4, cap4, rfl, ho4, cv3⟩
      have k3 := k2.trans (cv3.mono k2.size)
      clear z0 z1 z2 z3 z4 z5 z6 z7
      obtain ⟨z0, z1, z2, z3, z4, z5, z6, z7⟩ := HZ.out v3 k3
      have hN := hLg v3 (HL.out _ k3) (by simp) (by simp)
      go_wp2_with fail
      refine hN.mono ?_
      rintro e v4 ⟨rfl, cv4⟩
      have k4 := k3.trans (cv4.mono k3.size)
      have ho5 := (ho4.below cv4).more cv4.size
      clear z0 z1 z2 z3 z4 z5 z6 z7
      obtain ⟨z0, z1, z2, z3, z4, z5, z6, z7⟩ := HZ.out v4 k4
      have hT5 := hCC v4 (HL.out _ k4)
      go_wp2_with fail
      refine hT5.mono ?_
      rintro e v5 ⟨rfl, cv5⟩
      have k5 := k4.trans (cv5.mono k4.size)
      have ho6 := (ho5.below cv5).more cv5.size
      clear z0 z1 z2 z3 z4 z5 z6 z7
      clear hT5
      obtain ⟨z0, z1, z2, z3, z4, z5, z6, z7⟩ := HZ.out v5 k5
      have hT6 := hCA v5 (HL.out _ k5)
      go_wp2_with fail
      refine hT6.mono ?_
      rintro e v6 ⟨rfl, cv6⟩
      have k6 := k5.trans (cv6.mono k5.size)
      have ho7 := (ho6.below cv6).more cv6.size
      clear z0 z1 z2 z3 z4 z5 z6 z7
      clear hT6
      have HC : Hid (∀ W, Below v6.heap.size v6 W → ((convert 29 9 (.slice A4 n4 cap4)).run Tryd.prog W = .ok (.string tx) W ∧ Below v6.heap.size v6 W ∧ W.cell? ⟨w.heap.size, 0, none⟩ = some (.int .i64 s) ∧ W.cell? ⟨w.heap.size, 1, none⟩ = some (.int .i64 o) ∧ W.cell? ⟨w.heap.size, 2, none⟩ = some (.int .i64 t) ∧ W.cell? ⟨w.heap.size, 3, none⟩ = some (.int .i64 f) ∧ W.cell? ⟨w.heap.size, 4, none⟩ = some (.int .i64 d) ∧ W.cell? ⟨w.heap.size + 1, 0, none⟩ = some (.int .i64 m) ∧ W.cell? ⟨w.heap.size + 1, 1, none⟩ = some (.int .i64 b) ∧ W.cell? ⟨w.heap.size + 1, 2, none⟩ = some (.bool st))) := Lib.hid fun W hW => by
        refine ⟨?_, hW, HZ.out _ (k6.trans (hW.mono k6.size))⟩
        have := (ho7.below hW).text (P := Tryd.prog) 29 9 5 Tryd.underlying29 Tryd.underlying5 Tryd.underlying9
        rw [ETX.out] at this
        exact this
      clear ho4 ho5 ho6 ho7
      go_wp2_with fail
      have q0 := drew_below v6
      refine wp_region_noPanic ?_
      refine wp_region_held_drew (S := fun W => (convert 29 9 (.slice A4 n4 cap4)).run Tryd.prog W = .ok (.string tx) W ∧ Below v6.heap.size v6 W ∧ W.cell? ⟨w.heap.size, 0, none⟩ = some (.int .i64 s) ∧ W.cell? ⟨w.heap.size, 1, none⟩ = some (.int .i64 o) ∧ W.cell? ⟨w.heap.size, 2, none⟩ = some (.int .i64 t) ∧ W.cell? ⟨w.heap.size, 3, none⟩ = some (.int .i64 f) ∧ W.cell? ⟨w.heap.size, 4, none⟩ = some (.int .i64 d) ∧ W.cell? ⟨w.heap.size + 1, 0, none⟩ = some (.int .i64 m) ∧ W.cell? ⟨w.heap.size + 1, 1, none⟩ = some (.int .i64 b) ∧ W.cell? ⟨w.heap.size + 1, 2, none⟩ = some (.bool st)) (by kernel_rfl) (HC.out _ q0) (fun hHeld => ?_)
      generalize v6.drew = u at *
      refine wpAnyH_take (i := 0) (oi := ⟨some 80, _, _, _, _, _⟩) (v := ?_) rfl (by kernel_rfl) (by kernel_rfl) (by kernel_rfl) (fun _ _ _ h => h) (Or.inl ⟨by rfl, ?_⟩) (by assumption) ?_
      rotate_left 1
      · (intro W hSw; go_simp <;> with_reducible rfl)
      try simp only [Act.put, List.setIfInBounds_toArray, List.set_cons_zero, List.set_cons_succ]
      refine wpAnyH_take (i := 1) (oi := ⟨some 81, _, _, _, _, _⟩) (v := ?_) rfl (by kernel_rfl) (by kernel_rfl) (by kernel_rfl) (fun _ _ _ h => h) (Or.inl ⟨by rfl, ?_⟩) (by assumption) ?_
      rotate_left 1
      · (intro W hSw; go_simp <;> with_reducible rfl)
      try simp only [Act.put, List.setIfInBounds_toArray, List.set_cons_zero, List.set_cons_succ]
      refine wpAnyH_take (i := 2) (oi := ⟨some 82, _, _, _, _, _⟩) (v := ?_) rfl (by kernel_rfl) (by kernel_rfl) (by kernel_rfl) (fun _ _ _ h => h) (Or.inl ⟨by rfl, ?_⟩) (by assumption) ?_
      rotate_left 1
      · (intro W hSw; go_simp <;> with_reducible rfl)
      try simp only [Act.put, List.setIfInBounds_toArray, List.set_cons_zero, List.set_cons_succ]
      refine wpAnyH_take (i := 3) (oi := ⟨some 83, _, _, _, _, _⟩) (v := ?_) rfl (by kernel_rfl) (by kernel_rfl) (by kernel_rfl) (fun _ _ _ h => h) (Or.inl ⟨by rfl, ?_⟩) (by assumption) ?_
      rotate_left 1
      · (intro W hSw; go_simp <;> with_reducible rfl)
      try simp only [Act.put, List.setIfInBounds_toArray, List.set_cons_zero, List.set_cons_succ]
      refine wpAnyH_ready (rs := [4]) (by kernel_rfl) (by simp) ?_
      refine AllReadyH.cons rfl (fun K hK => ?_) AllReadyH.nil
      go_simp
      refine (hRP _).mono ?_
      rintro e u1 ⟨A8, n8, cap8, rfl, ho8, cu1⟩
      have q1 := q0.trans (cu1.mono q0.size)
      have HD : Hid (∀ W, Below u1.heap.size u1 W → ((convert 29 9 (.slice A8 n8 cap8)).run Tryd.prog W = .ok (.string tx) W ∧ (convert 29 9 (.slice A4 n4 cap4)).run Tryd.prog W = .ok (.string tx) W ∧ Below v6.heap.size v6 W ∧ W.cell? ⟨w.heap.size, 0, none⟩ = some (.int .i64 s) ∧ W.cell? ⟨w.heap.size, 1, none⟩ = some (.int .i64 o) ∧ W.cell? ⟨w.heap.size, 2, none⟩ = some (.int .i64 t) ∧ W.cell? ⟨w.heap.size, 3, none⟩ = some (.int .i64 f) ∧ W.cell? ⟨w.heap.size, 4, none⟩ = some (.int .i64 d) ∧ W.cell? ⟨w.heap.size + 1, 0, none⟩ = some (.int .i64 m) ∧ W.cell? ⟨w.heap.size + 1, 1, none⟩ = some (.int .i64 b) ∧ W.cell? ⟨w.heap.size + 1, 2, none⟩ = some (.bool st))) := Lib.hid fun W hW => by
        refine ⟨?_, HC.out _ (q1.trans (hW.mono q1.size))⟩
        have := (ho8.below hW).text (P := Tryd.prog) 29 9 5 Tryd.underlying29 Tryd.underlying5 Tryd.underlying9
        rw [ETX.out] at this
        exact this
      refine hK.out _ _ (HC.out _ q1) (fun hHeld2 => ?_)
      have hHeld3 := HD.out _ (Below.refl _ u1)
      clear hHeld hHeld2 hK K ho8
      refine wpAnyH_more (S' := fun W => (convert 29 9 (.slice A8 n8 cap8)).run Tryd.prog W = .ok (.string tx) W ∧ (convert 29 9 (.slice A4 n4 cap4)).run Tryd.prog W = .ok (.string tx) W ∧ Below v6.heap.size v6 W ∧ W.cell? ⟨w.heap.size, 0, none⟩ = some (.int .i64 s) ∧ W.cell? ⟨w.heap.size, 1, none⟩ = some (.int .i64 o) ∧ W.cell? ⟨w.heap.size, 2, none⟩ = some (.int .i64 t) ∧ W.cell? ⟨w.heap.size, 3, none⟩ = some (.int .i64 f) ∧ W.cell? ⟨w.heap.size, 4, none⟩ = some (.int .i64 d) ∧ W.cell? ⟨w.heap.size + 1, 0, none⟩ = some (.int .i64 m) ∧ W.cell? ⟨w.heap.size + 1, 1, none⟩ = some (.int .i64 b) ∧ W.cell? ⟨w.heap.size + 1, 2, none⟩ = some (.bool st)) (fun _ hh => hh.2) _ _ _ _ ?_
      try simp only [Act.put, List.setIfInBounds_toArray, List.set_cons_zero, List.set_cons_succ]
      refine wpAnyH_take (i := 5) (oi := ⟨some 85, _, _, _, _, _⟩) (v := ?_) rfl (by kernel_rfl) (by kernel_rfl) (by kernel_rfl) (fun _ _ _ h => h) (Or.inl ⟨by rfl, ?_⟩) (by assumption) ?_
      rotate_left 1
      · (intro W hSw; go_simp <;> with_reducible rfl)
      try simp only [Act.put, List.setIfInBounds_toArray, List.set_cons_zero, List.set_cons_succ]
      refine wpAnyH_take (i := 6) (oi := ⟨some 86, _, _, _, _, _⟩) (v := ?_) rfl (by kernel_rfl) (by kernel_rfl) (by kernel_rfl) (fun _ _ _ h => h) (Or.inl ⟨by rfl, ?_⟩) (by assumption) ?_
      rotate_left 1
      · (intro W hSw; go_simp <;> with_reducible rfl)
      try simp only [Act.put, List.setIfInBounds_toArray, List.set_cons_zero, List.set_cons_succ]
      refine wpAnyH_take (i := 7) (oi := ⟨some 87, _, _, _, _, _⟩) (v := ?_) rfl (by kernel_rfl) (by kernel_rfl) (by kernel_rfl) (fun _ _ _ h => h) (Or.inl ⟨by rfl, ?_⟩) (by assumption) ?_
      rotate_left 1
      · (intro W hSw; go_simp <;> with_reducible rfl)
      try simp only [Act.put, List.setIfInBounds_toArray, List.set_cons_zero, List.set_cons_succ]
      refine wpAnyH_take (i := 8) (oi := ⟨some 88, _, _, _, _, _⟩) (v := ?_) rfl (by kernel_rfl) (by kernel_rfl) (by kernel_rfl) (fun _ _ _ h => h) (Or.inl ⟨by rfl, ?_⟩) (by assumption) ?_
      rotate_left 1
      · (intro W hSw; go_simp <;> with_reducible rfl)
      try simp only [Act.put, List.setIfInBounds_toArray, List.set_cons_zero, List.set_cons_succ]
      refine wpAnyH_take (i := 9) (oi := ⟨some 89, _, _, _, _, _⟩) (v := ?_) rfl (by kernel_rfl) (by kernel_rfl) (by kernel_rfl) (fun _ _ _ h => h) (Or.inl ⟨by rfl, ?_⟩) (by assumption) ?_
      rotate_left 1
      · (intro W hSw; go_simp <;> with_reducible rfl)
      try simp only [Act.put, List.setIfInBounds_toArray, List.set_cons_zero, List.set_cons_succ]
      refine wpAnyH_take (i := 10) (oi := ⟨some 90, _, _, _, _, _⟩) (v := ?_) rfl (by kernel_rfl) (by kernel_rfl) (by kernel_rfl) (fun _ _ _ h => h) (Or.inl ⟨by rfl, ?_⟩) (by assumption) ?_
      rotate_left 1
      · (intro W hSw; go_simp <;> with_reducible rfl)
      try simp only [Act.put, List.setIfInBounds_toArray, List.set_cons_zero, List.set_cons_succ]
      refine wpAnyH_take (i := 11) (oi := ⟨some 91, _, _, _, _, _⟩) (v := ?_) rfl (by kernel_rfl) (by kernel_rfl) (by kernel_rfl) (fun _ _ _ h => h) (Or.inl ⟨by rfl, ?_⟩) (by assumption) ?_
      rotate_left 1
      · (intro W hSw; go_simp <;> with_reducible rfl)
      try simp only [Act.put, List.setIfInBounds_toArray, List.set_cons_zero, List.set_cons_succ]
      refine wpAnyH_take (i := 12) (oi := ⟨some 92, _, _, _, _, _⟩) (v := ?_) rfl (by kernel_rfl) (by kernel_rfl) (by kernel_rfl) (fun _ _ _ h => h) (Or.inl ⟨by rfl, ?_⟩) (by assumption) ?_
      rotate_left 1
      · (intro W hSw; go_simp <;> with_reducible rfl)
      try simp only [Act.put, List.setIfInBounds_toArray, List.set_cons_zero, List.set_cons_succ]
      refine wpAnyH_take (i := 13) (oi := ⟨some 93, _, _, _, _, _⟩) (v := ?_) rfl (by kernel_rfl) (by kernel_rfl) (by kernel_rfl) (fun _ _ _ h => h) (Or.inl ⟨by rfl, ?_⟩) (by assumption) ?_
      rotate_left 1
      · (intro W hSw; go_simp <;> with_reducible rfl)
      try simp only [Act.put, List.setIfInBounds_toArray, List.set_cons_zero, List.set_cons_succ]
      refine wpAnyH_take (i := 14) (oi := ⟨some 94, _, _, _, _, _⟩) (v := ?_) rfl (by kernel_rfl) (by kernel_rfl) (by kernel_rfl) (fun _ _ _ h => h) (Or.inl ⟨by rfl, ?_⟩) (by assumption) ?_
      rotate_left 1
      · (intro W hSw; go_simp <;> with_reducible rfl)
      try simp only [Act.put, List.setIfInBounds_toArray, List.set_cons_zero, List.set_cons_succ]
      refine wpAnyH_ready (rs := [15]) (by kernel_rfl) (by simp) ?_
      refine AllReadyH.cons rfl (fun K hK => ?_) AllReadyH.nil
      go_simp
      refine (hRL _ (by simp) (by simp)).mono ?_
      rintro e u2 ⟨rfl, cu2⟩
      refine hK.out _ _ (HD.out _ cu2) (fun hHeld4 => ?_)
      clear hHeld3 hK K
      try simp only [Act.put, List.setIfInBounds_toArray, List.set_cons_zero, List.set_cons_succ]
      refine wpAnyH_take (i := 16) (oi := ⟨some 96, _, _, _, _, _⟩) (v := ?_) rfl (by kernel_rfl) (by kernel_rfl) (by kernel_rfl) (fun _ _ _ h => h) (Or.inl ⟨by rfl, ?_⟩) (by assumption) ?_
      rotate_left 1
      · (intro W hSw; go_simp <;> with_reducible rfl)
      try simp only [Act.put, List.setIfInBounds_toArray, List.set_cons_zero, List.set_cons_succ]
      refine wpAnyH_take (i := 17) (oi := ⟨some 97, _, _, _, _, _⟩) (v := ?_) rfl (by kernel_rfl) (by kernel_rfl) (by kernel_rfl) (fun _ _ _ h => h) (Or.inl ⟨by rfl, ?_⟩) (by assumption) ?_
      rotate_left 1
      · (intro W hSw; go_simp <;> with_reducible rfl)
      try simp only [Act.put, List.setIfInBounds_toArray, List.set_cons_zero, List.set_cons_succ]
      refine wpAnyH_take (i := 18) (oi := ⟨some 98, _, _, _, _, _⟩) (v := ?_) rfl (by kernel_rfl) (by kernel_rfl) (by kernel_rfl) (fun _ _ _ h => h) (Or.inl ⟨by rfl, ?_⟩) (by assumption) ?_
      rotate_left 1
      · (intro W hSw; go_simp <;> with_reducible rfl)
      try simp only [Act.put, List.setIfInBounds_toArray, List.set_cons_zero, List.set_cons_succ]
      refine wpAnyH_take (i := 19) (oi := ⟨some 99, _, _, _, _, _⟩) (v := ?_) rfl (by kernel_rfl) (by kernel_rfl) (by kernel_rfl) (fun _ _ _ h => h) (Or.inl ⟨by rfl, ?_⟩) (by assumption) ?_
      rotate_left 1
      · (intro W hSw; go_simp <;> with_reducible rfl)
      try simp only [Act.put, List.setIfInBounds_toArray, List.set_cons_zero, List.set_cons_succ]
      refine wpAnyH_take (i := 20) (oi := ⟨some 100, _, _, _, _, _⟩) (v := ?_) rfl (by kernel_rfl) (by kernel_rfl) (by kernel_rfl) (fun _ _ _ h => h) (Or.inl ⟨by rfl, ?_⟩) (by assumption) ?_
      rotate_left 1
      · (intro W hSw; go_simp <;> with_reducible rfl)
      try simp only [Act.put, List.setIfInBounds_toArray, List.set_cons_zero, List.set_cons_succ]
      refine wpAnyH_take (i := 21) (oi := ⟨some 101, _, _, _, _, _⟩) (v := ?_) rfl (by kernel_rfl) (by kernel_rfl) (by kernel_rfl) (fun _ _ _ h => h) (Or.inl ⟨by rfl, ?_⟩) (by assumption) ?_
      rotate_left 1
      · (intro W hSw; go_simp <;> with_reducible rfl)
      try simp only [Act.put, List.setIfInBounds_toArray, List.set_cons_zero, List.set_cons_succ]
      refine wpAnyH_take (i := 22) (oi := ⟨some 4, _, _, _, _, _⟩) (v := ?_) rfl (by kernel_rfl) (by kernel_rfl) (by kernel_rfl) (fun _ _ _ h => h) (Or.inl ⟨by rfl, ?_⟩) (by assumption) ?_
      rotate_left 1
      · (intro W hSw; go_simp <;> with_reducible rfl)
      try simp only [Act.put, List.setIfInBounds_toArray, List.set_cons_zero, List.set_cons_succ]
      refine wpAnyH_done (by kernel_rfl) ?_ _
      refine NoPanic.normal ?_
      clear hHeld4
      go_wp2
      go_ret
      have q2 := q1.trans (cu2.mono q1.size)
      exact ⟨by simp, HQ.out.trans ((k6.trans (q2.mono k6.size)).mono HQ.out.size)⟩
end Go.Proofs.YtmkdmnaonddghaaDoor
