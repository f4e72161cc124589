/- A foot as it should be; two feet the same, place by place, by the plain answer, and by package foot. Conditions: at most 400 places a list. -/
import Derived.Test.YtmhogmhdgbdpbaaSorted
namespace Go.Proofs.Ytmhogmhdgbdpbaa
open Go.ChangeShapes Go.WideShapes Go.RowKit

set_option maxRecDepth 100000 in
set_option maxHeartbeats 4000000 in
theorem norm_any {w : World} {f : Ft} {R X : List Pl} (h : Foot w f R X) (h1 : f.r.n ≤ 400) (h2 : f.w.n ≤ 400) :
    Calls Try.prog 13 #[.agg f.cs.toArray] w fun e w' => ∃ j : Ft, e = .returned (.agg j.cs.toArray) ∧ Foot w' j (normP R) (normP X) ∧ Below w.heap.size w w' := by
  obtain ⟨⟨rA, rn, rc⟩, ⟨xA, xn, xc⟩⟩ := f
  obtain ⟨hr, hx⟩ := h
  simp only at hr hx h1 h2
  show Calls Try.prog 13 #[.agg #[.slice rA rn rc, .slice xA xn xc]] w _
  obtain ⟨z, ez⟩ : ∃ z, z = w.heap.size := ⟨_, rfl⟩
  obtain ⟨zr, ezr⟩ : ∃ zr, zr = z + 1 := ⟨_, rfl⟩
  obtain ⟨W0, eW0⟩ : ∃ W0, W0 = (w.alloc (.cells #[.slice rA rn rc, .slice xA xn xc] 24)).alloc (.cells #[.slice none 0 0, .slice none 0 0] 24) := ⟨_, rfl⟩
  have hb0 : Below w.heap.size w W0 := by rw [eW0]; exact ((Below.refl _ w).alloc (Nat.le_refl _) _).alloc (by simp) _
  have hxz : Blk W0 z 24 #[.slice rA rn rc, .slice xA xn xc] := by
    rw [eW0, ez]
    exact Blk.on (heap_alloc_new w _) ((Below.refl _ _).alloc (Nat.le_refl _) _)
  have hzz : Blk W0 zr 24 #[.slice none 0 0, .slice none 0 0] := by rw [eW0, ezr, ez]; exact blk_new _ _ 24 _ (by simp)
  have tS : ∀ W, Kept (fun k => k = zr) W0 W → W.cell? ⟨z, 0, none⟩ = some (.slice rA rn rc) ∧ W.cell? ⟨z, 1, none⟩ = some (.slice xA xn xc) :=
    fun W hW => ⟨(hxz.kept hW (by omega)).cell 0, (hxz.kept hW (by omega)).cell 1⟩
  have kd : Below W0.heap.size W0 W0.drew := (Below.refl _ W0).drew
  have k0 : Kept (fun k => k = zr) W0 W0.drew := kept_below _ kd
  have hr0 := (hr.on hb0).on kd
  have hx0 := (hx.on hb0).on kd
  have hz0 := hzz.on kd
  have hge : zr < W0.heap.size := hzz.lt
  have HX := Lib.hid (And.intro ez (And.intro ezr hb0))
  clear hr hx hb0 hxz hzz ezr
  go_enter Try.func13, Try.ntmps13
  go_wp2_with fail
  rw [← eW0, ← ez, ← HX.out.2.1]
  clear eW0 ez
  refine wp_region_noPanic ?_
  refine wp_region_held_drew (S := (fun W => Kept (fun k => k = zr) W0 W)) (by kernel_rfl) k0 (fun hHeld => ?_)
  generalize W0.drew = wd at hHeld kd k0 hr0 hx0 hz0 ⊢
  refine wpAnyH_take (i := 0) (oi := ⟨some 3, _, _, _, _, _⟩) (v := ?_) rfl (by kernel_rfl) (by kernel_rfl) (by kernel_rfl) (fun _ _ _ h => h) (Or.inl ⟨by rfl, ?_⟩) (by assumption) ?_
  rotate_left 1
  · (intro W hSw; go_simp <;> with_reducible rfl)
  try simp only [Act.put, List.setIfInBounds_toArray, List.set_cons_zero, List.set_cons_succ]
  refine wpAnyH_take (i := 1) (oi := ⟨some 4, _, _, _, _, _⟩) (v := ?_) rfl (by kernel_rfl) (by kernel_rfl) (by kernel_rfl) (fun _ _ _ h => h) (Or.inl ⟨by rfl, ?_⟩) (by assumption) ?_
  rotate_left 1
  · (intro W hSw; obtain ⟨f0, f1⟩ := tS W hSw; go_simp <;> with_reducible rfl)
  try simp only [Act.put, List.setIfInBounds_toArray, List.set_cons_zero, List.set_cons_succ]
  refine wpAnyH_take (i := 3) (oi := ⟨some 6, _, _, _, _, _⟩) (v := ?_) rfl (by kernel_rfl) (by kernel_rfl) (by kernel_rfl) (fun _ _ _ h => h) (Or.inl ⟨by rfl, ?_⟩) (by assumption) ?_
  rotate_left 1
  · (intro W hSw; go_simp <;> with_reducible rfl)
  try simp only [Act.put, List.setIfInBounds_toArray, List.set_cons_zero, List.set_cons_succ]
  refine wpAnyH_take (i := 4) (oi := ⟨some 7, _, _, _, _, _⟩) (v := ?_) rfl (by kernel_rfl) (by kernel_rfl) (by kernel_rfl) (fun _ _ _ h => h) (Or.inl ⟨by rfl, ?_⟩) (by assumption) ?_
  rotate_left 1
  · (intro W hSw; obtain ⟨f0, f1⟩ := tS W hSw; go_simp <;> with_reducible rfl)
  try simp only [Act.put, List.setIfInBounds_toArray, List.set_cons_zero, List.set_cons_succ]
  refine wpAnyH_ready (rs := [2]) (by kernel_rfl) (by simp) ?_
  refine AllReadyH.cons (o := ⟨some 5, _, _, _, _, _⟩) rfl (fun K hK => ?_) AllReadyH.nil
  go_simp
  refine (sortedref_any hr0 (by omega)).mono ?_
  rintro e w1 ⟨uA, un, uc, rfl, u_1, ug, hb1⟩
  have uh : ∀ g, holds uA un g → W0.heap.size ≤ g := fun g hg => Nat.le_trans k0.size (ug g hg)
  have a_1 := hr0.on hb1
  have c_1 := hx0.on hb1
  have z_1 := hz0.on hb1
  have S1 : (fun W => Kept (fun k => k = zr) W0 W) w1 := Kept.step k0 hb1
  refine hK.out _ _ S1 (fun h1 => ?_)
  clear hHeld hK K
  try simp only [Act.put, List.setIfInBounds_toArray, List.set_cons_zero, List.set_cons_succ]
  refine wpAnyH_ready (rs := [5]) (by kernel_rfl) (by simp) ?_
  refine AllReadyH.cons (o := ⟨some 8, _, _, _, _, _⟩) rfl (fun K hK => ?_) AllReadyH.nil
  go_simp
  refine (sortedref_any c_1 (by omega)).mono ?_
  rintro e w2 ⟨vA, vn, vc, rfl, v_2, vg, hb2⟩
  have vh : ∀ g, holds vA vn g → W0.heap.size ≤ g := fun g hg => Nat.le_trans S1.size (vg g hg)
  have a_2 := a_1.on hb2
  have c_2 := c_1.on hb2
  have z_2 := z_1.on hb2
  have u_2 := u_1.on hb2
  have S2 : (fun W => Kept (fun k => k = zr) W0 W) w2 := Kept.step S1 hb2
  refine hK.out _ _ S2 (fun h2 => ?_)
  clear h1 hK K
  try simp only [Act.put, List.setIfInBounds_toArray, List.set_cons_zero, List.set_cons_succ]
  refine wpAnyH_take (i := 6) (oi := ⟨some 9, _, _, _, _, _⟩) (v := ?_) rfl (by kernel_rfl) (by kernel_rfl) (by kernel_rfl) (fun _ _ _ h => h) (Or.inl ⟨by rfl, ?_⟩) (by assumption) ?_
  rotate_left 1
  · (intro W hSw; go_simp <;> with_reducible rfl)
  try simp only [Act.put, List.setIfInBounds_toArray, List.set_cons_zero, List.set_cons_succ]
  refine wpAnyH_ready (rs := [7]) (by kernel_rfl) (by simp) ?_
  refine AllReadyH.cons (o := ⟨none, _, _, _, _, _⟩) rfl (fun K hK => ?_) AllReadyH.nil
  rw [if_pos (by rfl)]
  have hz := z_2
  refine wp_store_row 24 (.tmp 2) (.tmp 9) rfl zr #[.slice uA un uc, .slice vA vn vc] rfl rfl 24 _ hz size24 rfl (by simp [Value.oneCell']) ?_
  refine hK.out _ _ (S2.next (kept_row _ zr _) (fun _ e => .inl e)) (fun h3 => ?_)
  clear h2 hK K
  try simp only [Act.put]
  refine wpAnyH_done (by kernel_rfl) ?_ _
  refine NoPanic.normal ?_
  have S9 := S2
  have hz9 := z_2
  have u9 := u_2
  have v9 := v_2
  have HZ := Lib.hid (And.intro hz9 (And.intro (Kept.next S9 (kept_row _ zr #[.slice uA un uc, .slice vA vn vc]) (fun _ e => .inl e)) (foot_row (f := ⟨⟨uA, un, uc⟩, ⟨vA, vn, vc⟩⟩) ⟨u9, v9⟩ (z := zr) #[.slice uA un uc, .slice vA vn vc] (fun g hg => by have := uh g hg; have := hge; omega) (fun g hg => by have := vh g hg; have := hge; omega))))
  clear hz9 u9 v9 S9
  go_wp2_with fail
  refine bodyPost_ret (results_cell_row (cs := #[.slice uA un uc, .slice vA vn vc]) rfl _ _ zr 24 (0, 0) _ rfl (setRow_heap _ _ _ _ _ _ HZ.out.1) Try.underlying24 rfl size24) rfl ?_
  obtain ⟨ez, ezr, hb0⟩ := HX.out
  exact ⟨⟨⟨uA, un, uc⟩, ⟨vA, vn, vc⟩⟩, rfl, HZ.out.2.2, (hb0.trans (HZ.out.2.1.under _ hb0.size (fun k e => by have e : k = zr := e; omega)))⟩
set_option maxRecDepth 100000 in
set_option maxHeartbeats 2000000 in
theorem plainfoot_any {w : World} {f f' : Ft} {R X Q Y : List Pl} (h : Foot w f R X) (h' : Foot w f' Q Y) (h1 : f.r.n ≤ 1000) (h2 : f.w.n ≤ 1000) (h3 : f'.r.n ≤ 1000) (h4 : f'.w.n ≤ 1000) :
    Calls Try.prog 12 #[.agg f.cs.toArray, .agg f'.cs.toArray] w fun e w' => e = .returned (.bool (decide (R = Q) && decide (X = Y))) ∧ Below w.heap.size w w' := by
  obtain ⟨⟨rA, rn, rc⟩, ⟨xA, xn, xc⟩⟩ := f
  obtain ⟨⟨rB, rm, rd⟩, ⟨xB, xm, xd⟩⟩ := f'
  obtain ⟨hr, hx⟩ := h
  obtain ⟨hr', hx'⟩ := h'
  simp only at hr hx hr' hx' h1 h2 h3 h4
  show Calls Try.prog 12 #[.agg #[.slice rA rn rc, .slice xA xn xc], .agg #[.slice rB rm rd, .slice xB xm xd]] w _
  obtain ⟨z, ez⟩ : ∃ z, z = w.heap.size := ⟨_, rfl⟩
  obtain ⟨W0, eW0⟩ : ∃ W0, W0 = (w.alloc (.cells #[.slice rA rn rc, .slice xA xn xc] 24)).alloc (.cells #[.slice rB rm rd, .slice xB xm xd] 24) := ⟨_, rfl⟩
  have hb0 : Below w.heap.size w W0 := by rw [eW0]; exact ((Below.refl _ w).alloc (Nat.le_refl _) _).alloc (by simp) _
  have hxz : Blk W0 z 24 #[.slice rA rn rc, .slice xA xn xc] := by
    rw [eW0, ez]
    exact Blk.on (heap_alloc_new w _) ((Below.refl _ _).alloc (Nat.le_refl _) _)
  have hyz : Blk W0 (z + 1) 24 #[.slice rB rm rd, .slice xB xm xd] := by rw [eW0, ez]; exact blk_new _ _ 24 _ (by simp)
  have hc1 := places_any (hr.on hb0) (hr'.on hb0) h1 h3
  obtain ⟨T, eT⟩ : ∃ T, T = decide (R = Q) := ⟨_, rfl⟩
  rw [← eT] at hc1
  rw [← eT]
  have hx0 := hx.on hb0
  have hx1 := hx'.on hb0
  have HX := Lib.hid (And.intro hb0 (And.intro hxz (And.intro hyz (And.intro hx0 hx1))))
  have HE := Lib.hid (And.intro ez eW0)
  rw [eW0] at hc1
  clear eT hb0 hxz hyz ez eW0 hr hx hr' hx' hx0 hx1
  go_enter Try.func12, Try.ntmps12
  go_wp2_with fail
  refine hc1.mono ?_
  rw [← HE.out.2, ← HE.out.1]
  rintro e w1 ⟨rfl, hb1⟩
  obtain ⟨hb0, hxz, hyz, hx0, hx1⟩ := HX.out
  have hb2 := stepB hb0 hb1
  cases T with
  | false =>
    have HB := Lib.hid hb2
    clear hb1 hb2 hb0 hxz hyz hx0 hx1 hc1
    go_wp2
    go_ret
    exact ⟨by simp, HB.out⟩
  | true =>
    have c0 : w1.cell? ⟨z, 1, none⟩ = some (.slice xA xn xc) := (hxz.on hb1).cell 1
    have c1 : w1.cell? ⟨z + 1, 1, none⟩ = some (.slice xB xm xd) := (hyz.on hb1).cell 1
    have hc2 := places_any (hx0.on hb1) (hx1.on hb1) h2 h4
    obtain ⟨T2, eT2⟩ : ∃ T, T = decide (X = Y) := ⟨_, rfl⟩
    rw [← eT2] at hc2
    have HB := Lib.hid (And.intro hb2 eT2)
    clear hb1 hb2 hb0 hxz hyz hx0 hx1 hc1 eT2
    go_wp2_with fail
    refine hc2.mono ?_
    rintro e w2 ⟨rfl, hb3⟩
    have HC := Lib.hid (stepB HB.out.1 hb3)
    clear hb3
    go_wp2
    go_ret
    exact ⟨by rw [← HB.out.2]; simp, HC.out⟩
theorem equal_any2 {w : World} {A A' : Option Addr} {n n' cap cap' : Nat} {l m : List Pl} {T : Bool} (h : SeesP w ⟨A, n, cap⟩ (normP l)) (h' : SeesP w ⟨A', n', cap'⟩ (normP m)) (hl : l.length ≤ 1000) (hm : m.length ≤ 1000) (eT : T = decide (normP l = normP m)) :
    Calls Try.prog 22 #[.slice A n cap, .slice A' n' cap'] w fun e w' => e = .returned (.bool T) ∧ Below w.heap.size w w' := by
  have h1 : (normP l).length = n := h.len
  have h2 : (normP m).length = n' := h'.len
  have h3 := normP_len l
  have h4 := normP_len m
  rw [eT]
  exact equal_any h h' (by omega) (by omega)
set_option maxRecDepth 100000 in
set_option maxHeartbeats 8000000 in
theorem same_any {w : World} {f f' : Ft} {R X Q Y : List Pl} (h : Foot w f R X) (h' : Foot w f' Q Y) (h1 : f.r.n ≤ 1000) (h2 : f.w.n ≤ 1000) (h3 : f'.r.n ≤ 1000) (h4 : f'.w.n ≤ 1000) :
    Calls Try.prog 16 #[.agg f.cs.toArray, .agg f'.cs.toArray] w fun e w' => e = .returned (.bool (decide (normP R = normP Q) && decide (normP X = normP Y))) ∧ Below w.heap.size w w' := by
  obtain ⟨⟨rA, rn, rc⟩, ⟨xA, xn, xc⟩⟩ := f
  obtain ⟨⟨rB, rm, rd⟩, ⟨xB, xm, xd⟩⟩ := f'
  obtain ⟨hr, hx⟩ := h
  obtain ⟨hr', hx'⟩ := h'
  simp only at hr hx hr' hx' h1 h2 h3 h4
  have l1 : R.length = rn := hr.len
  have l2 : X.length = xn := hx.len
  have l3 : Q.length = rm := hr'.len
  have l4 : Y.length = xm := hx'.len
  show Calls Try.prog 16 #[.agg #[.slice rA rn rc, .slice xA xn xc], .agg #[.slice rB rm rd, .slice xB xm xd]] w _
  obtain ⟨z, ez⟩ : ∃ z, z = w.heap.size := ⟨_, rfl⟩
  obtain ⟨W0, eW0⟩ : ∃ W0, W0 = (w.alloc (.cells #[.slice rA rn rc, .slice xA xn xc] 24)).alloc (.cells #[.slice rB rm rd, .slice xB xm xd] 24) := ⟨_, rfl⟩
  have hb0 : Below w.heap.size w W0 := by rw [eW0]; exact ((Below.refl _ w).alloc (Nat.le_refl _) _).alloc (by simp) _
  have hxz : Blk W0 z 24 #[.slice rA rn rc, .slice xA xn xc] := by
    rw [eW0, ez]
    exact Blk.on (heap_alloc_new w _) ((Below.refl _ _).alloc (Nat.le_refl _) _)
  have hyz : Blk W0 (z + 1) 24 #[.slice rB rm rd, .slice xB xm xd] := by rw [eW0, ez]; exact blk_new _ _ 24 _ (by simp)
  have tS : ∀ W, Below W0.heap.size W0 W → W.cell? ⟨z, 0, none⟩ = some (.slice rA rn rc) ∧ W.cell? ⟨z, 1, none⟩ = some (.slice xA xn xc) ∧ W.cell? ⟨z + 1, 0, none⟩ = some (.slice rB rm rd) ∧ W.cell? ⟨z + 1, 1, none⟩ = some (.slice xB xm xd) :=
    fun W hW => ⟨(hxz.on hW).cell 0, (hxz.on hW).cell 1, (hyz.on hW).cell 0, (hyz.on hW).cell 1⟩
  have k0 : Below W0.heap.size W0 W0.drew := (Below.refl _ W0).drew
  have hr0 := (hr.on hb0).on k0
  have hr1 := (hr'.on hb0).on k0
  have hx0 := (hx.on hb0).on k0
  have hx1 := (hx'.on hb0).on k0
  obtain ⟨T1, eT1⟩ : ∃ T, T = decide (normP R = normP Q) := ⟨_, rfl⟩
  obtain ⟨T2, eT2⟩ : ∃ T, T = decide (normP X = normP Y) := ⟨_, rfl⟩
  rw [← eT1, ← eT2]
  have HE := Lib.hid (And.intro ez eW0)
  clear hr hx hr' hx' hxz hyz ez eW0
  cases T1 with
  | false =>
    have HT1 := Lib.hid eT1
    have HT2 := Lib.hid eT2
    clear eT1 eT2
    go_enter Try.func16, Try.ntmps16
    go_wp2_with fail
    rw [← HE.out.2, ← HE.out.1]
    refine wp_region_noPanic ?_
    refine wp_region_held_drew (S := (fun W => Below W0.heap.size W0 W)) (by kernel_rfl) k0 (fun hHeld => ?_)
    generalize W0.drew = wd at hHeld k0 hr0 hr1 hx0 hx1 ⊢
    refine wpAnyH_take (i := 0) (oi := ⟨some 5, _, _, _, _, _⟩) (v := ?_) rfl (by kernel_rfl) (by kernel_rfl) (by kernel_rfl) (fun _ _ _ h => h) (Or.inl ⟨by rfl, ?_⟩) (by assumption) ?_
    rotate_left 1
    · (intro W hSw; go_simp <;> with_reducible rfl)
    try simp only [Act.put, List.setIfInBounds_toArray, List.set_cons_zero, List.set_cons_succ]
    refine wpAnyH_take (i := 1) (oi := ⟨some 6, _, _, _, _, _⟩) (v := ?_) rfl (by kernel_rfl) (by kernel_rfl) (by kernel_rfl) (fun _ _ _ h => h) (Or.inl ⟨by rfl, ?_⟩) (by assumption) ?_
    rotate_left 1
    · (intro W hSw; obtain ⟨f0, f1, f2, f3⟩ := tS W hSw; go_simp <;> with_reducible rfl)
    try simp only [Act.put, List.setIfInBounds_toArray, List.set_cons_zero, List.set_cons_succ]
    refine wpAnyH_take (i := 4) (oi := ⟨some 9, _, _, _, _, _⟩) (v := ?_) rfl (by kernel_rfl) (by kernel_rfl) (by kernel_rfl) (fun _ _ _ h => h) (Or.inl ⟨by rfl, ?_⟩) (by assumption) ?_
    rotate_left 1
    · (intro W hSw; go_simp <;> with_reducible rfl)
    try simp only [Act.put, List.setIfInBounds_toArray, List.set_cons_zero, List.set_cons_succ]
    refine wpAnyH_take (i := 5) (oi := ⟨some 10, _, _, _, _, _⟩) (v := ?_) rfl (by kernel_rfl) (by kernel_rfl) (by kernel_rfl) (fun _ _ _ h => h) (Or.inl ⟨by rfl, ?_⟩) (by assumption) ?_
    rotate_left 1
    · (intro W hSw; obtain ⟨f0, f1, f2, f3⟩ := tS W hSw; go_simp <;> with_reducible rfl)
    try simp only [Act.put, List.setIfInBounds_toArray, List.set_cons_zero, List.set_cons_succ]
    refine wpAnyH_ready (rs := [2, 6]) (by kernel_rfl) (by simp) ?_
    refine AllReadyH.cons (o := ⟨some 7, _, _, _, _, _⟩) rfl (fun K hK => ?_) (AllReadyH.cons (o := ⟨some 11, _, _, _, _, _⟩) rfl (fun K hK => ?_) AllReadyH.nil)
    · go_simp
      obtain ⟨w1, ew1⟩ : ∃ zz, zz = wd.alloc (.cells #[.slice rA rn rc] 22) := ⟨_, rfl⟩
      have hb1 : Below wd.heap.size wd w1 := by rw [ew1]; exact (Below.refl _ _).alloc (Nat.le_refl _) _
      rw [← ew1]
      have D_1 := head_one (g := wd.heap.size) rfl ew1 hr0
      have a_1 := hr0.on hb1
      have b_1 := hr1.on hb1
      have c_1 := hx0.on hb1
      have d_1 := hx1.on hb1
      have S1 : (fun W => Below W0.heap.size W0 W) w1 := stepB k0 hb1
      refine hK.out _ _ S1 (fun h1 => ?_)
      clear hHeld hK K ew1
      try simp only [Act.put, List.setIfInBounds_toArray, List.set_cons_zero, List.set_cons_succ]
      refine wpAnyH_ready (rs := [3, 6]) (by kernel_rfl) (by simp) ?_
      refine AllReadyH.cons (o := ⟨some 8, _, _, _, _, _⟩) rfl (fun K hK => ?_) (AllReadyH.cons (o := ⟨some 11, _, _, _, _, _⟩) rfl (fun K hK => ?_) AllReadyH.nil)
      · go_simp
        refine (union_any D_1 (L := R) (by simp) (by omega) (by simp)).mono ?_
        rintro e w2 ⟨pA, pn, pc, rfl, p_2, _, hb2⟩
        have a_2 := a_1.on hb2
        have b_2 := b_1.on hb2
        have c_2 := c_1.on hb2
        have d_2 := d_1.on hb2
        have D_2 := D_1.on hb2
        have S2 : (fun W => Below W0.heap.size W0 W) w2 := stepB S1 hb2
        refine hK.out _ _ S2 (fun h2 => ?_)
        clear h1 hK K
        try simp only [Act.put, List.setIfInBounds_toArray, List.set_cons_zero, List.set_cons_succ]
        refine wpAnyH_ready (rs := [6]) (by kernel_rfl) (by simp) ?_
        refine AllReadyH.cons (o := ⟨some 11, _, _, _, _, _⟩) rfl (fun K hK => ?_) AllReadyH.nil
        go_simp
        obtain ⟨w3, ew3⟩ : ∃ zz, zz = w2.alloc (.cells #[.slice rB rm rd] 22) := ⟨_, rfl⟩
        have hb3 : Below w2.heap.size w2 w3 := by rw [ew3]; exact (Below.refl _ _).alloc (Nat.le_refl _) _
        rw [← ew3]
        have E_3 := head_one (g := w2.heap.size) rfl ew3 b_2
        have a_3 := a_2.on hb3
        have b_3 := b_2.on hb3
        have c_3 := c_2.on hb3
        have d_3 := d_2.on hb3
        have D_3 := D_2.on hb3
        have p_3 := p_2.on hb3
        have S3 : (fun W => Below W0.heap.size W0 W) w3 := stepB S2 hb3
        refine hK.out _ _ S3 (fun h3 => ?_)
        clear h2 hK K ew3
        try simp only [Act.put, List.setIfInBounds_toArray, List.set_cons_zero, List.set_cons_succ]
        refine wpAnyH_ready (rs := [7]) (by kernel_rfl) (by simp) ?_
        refine AllReadyH.cons (o := ⟨some 12, _, _, _, _, _⟩) rfl (fun K hK => ?_) AllReadyH.nil
        go_simp
        refine (union_any E_3 (L := Q) (by simp) (by omega) (by simp)).mono ?_
        rintro e w4 ⟨qA, qn, qc, rfl, q_4, _, hb4⟩
        have a_4 := a_3.on hb4
        have b_4 := b_3.on hb4
        have c_4 := c_3.on hb4
        have d_4 := d_3.on hb4
        have D_4 := D_3.on hb4
        have p_4 := p_3.on hb4
        have E_4 := E_3.on hb4
        have S4 : (fun W => Below W0.heap.size W0 W) w4 := stepB S3 hb4
        refine hK.out _ _ S4 (fun h4 => ?_)
        clear h3 hK K
        try simp only [Act.put, List.setIfInBounds_toArray, List.set_cons_zero, List.set_cons_succ]
        refine wpAnyH_ready (rs := [8]) (by kernel_rfl) (by simp) ?_
        refine AllReadyH.cons (o := ⟨some 13, _, _, _, _, _⟩) rfl (fun K hK => ?_) AllReadyH.nil
        go_simp
        refine (equal_any2 p_4 q_4 (by omega) (by omega) HT1.out).mono ?_
        rintro e w5 ⟨rfl, hb5⟩
        have a_5 := a_4.on hb5
        have b_5 := b_4.on hb5
        have c_5 := c_4.on hb5
        have d_5 := d_4.on hb5
        have D_5 := D_4.on hb5
        have p_5 := p_4.on hb5
        have E_5 := E_4.on hb5
        have q_5 := q_4.on hb5
        have S5 : (fun W => Below W0.heap.size W0 W) w5 := stepB S4 hb5
        refine hK.out _ _ S5 (fun h5 => ?_)
        clear h4 hK K
        try simp only [Act.put, List.setIfInBounds_toArray, List.set_cons_zero, List.set_cons_succ]
        refine wpAnyH_take (i := 9) (oi := ⟨some 14, _, _, _, _, _⟩) (v := ?_) rfl (by kernel_rfl) (by kernel_rfl) (by kernel_rfl) (fun _ _ _ h => h) (Or.inl ⟨by rfl, ?_⟩) (by assumption) ?_
        rotate_left 1
        · (intro W hSw; go_simp <;> with_reducible rfl)
        try simp only [Act.put, List.setIfInBounds_toArray, List.set_cons_zero, List.set_cons_succ]
        refine wpAnyH_take (i := 10) (oi := ⟨some 15, _, _, _, _, _⟩) (v := undef) rfl (by kernel_rfl) (by kernel_rfl) (by kernel_rfl) (fun _ _ _ h => h) (Or.inr ⟨by rfl, rfl⟩) (by assumption) ?_
        try simp only [Act.put, List.setIfInBounds_toArray, List.set_cons_zero, List.set_cons_succ]
        refine wpAnyH_take (i := 11) (oi := ⟨some 16, _, _, _, _, _⟩) (v := undef) rfl (by kernel_rfl) (by kernel_rfl) (by kernel_rfl) (fun _ _ _ h => h) (Or.inr ⟨by rfl, rfl⟩) (by assumption) ?_
        try simp only [Act.put, List.setIfInBounds_toArray, List.set_cons_zero, List.set_cons_succ]
        refine wpAnyH_take (i := 12) (oi := ⟨some 17, _, _, _, _, _⟩) (v := undef) rfl (by kernel_rfl) (by kernel_rfl) (by kernel_rfl) (fun _ _ _ h => h) (Or.inr ⟨by rfl, rfl⟩) (by assumption) ?_
        try simp only [Act.put, List.setIfInBounds_toArray, List.set_cons_zero, List.set_cons_succ]
        refine wpAnyH_take (i := 13) (oi := ⟨some 18, _, _, _, _, _⟩) (v := undef) rfl (by kernel_rfl) (by kernel_rfl) (by kernel_rfl) (fun _ _ _ h => h) (Or.inr ⟨by rfl, rfl⟩) (by assumption) ?_
        try simp only [Act.put, List.setIfInBounds_toArray, List.set_cons_zero, List.set_cons_succ]
        refine wpAnyH_take (i := 14) (oi := ⟨some 19, _, _, _, _, _⟩) (v := undef) rfl (by kernel_rfl) (by kernel_rfl) (by kernel_rfl) (fun _ _ _ h => h) (Or.inr ⟨by rfl, rfl⟩) (by assumption) ?_
        try simp only [Act.put, List.setIfInBounds_toArray, List.set_cons_zero, List.set_cons_succ]
        refine wpAnyH_take (i := 15) (oi := ⟨some 20, _, _, _, _, _⟩) (v := undef) rfl (by kernel_rfl) (by kernel_rfl) (by kernel_rfl) (fun _ _ _ h => h) (Or.inr ⟨by rfl, rfl⟩) (by assumption) ?_
        try simp only [Act.put, List.setIfInBounds_toArray, List.set_cons_zero, List.set_cons_succ]
        refine wpAnyH_take (i := 16) (oi := ⟨some 21, _, _, _, _, _⟩) (v := undef) rfl (by kernel_rfl) (by kernel_rfl) (by kernel_rfl) (fun _ _ _ h => h) (Or.inr ⟨by rfl, rfl⟩) (by assumption) ?_
        try simp only [Act.put, List.setIfInBounds_toArray, List.set_cons_zero, List.set_cons_succ]
        refine wpAnyH_take (i := 17) (oi := ⟨some 22, _, _, _, _, _⟩) (v := undef) rfl (by kernel_rfl) (by kernel_rfl) (by kernel_rfl) (fun _ _ _ h => h) (Or.inr ⟨by rfl, rfl⟩) (by assumption) ?_
        try simp only [Act.put, List.setIfInBounds_toArray, List.set_cons_zero, List.set_cons_succ]
        refine wpAnyH_take (i := 18) (oi := ⟨some 23, _, _, _, _, _⟩) (v := undef) rfl (by kernel_rfl) (by kernel_rfl) (by kernel_rfl) (fun _ _ _ h => h) (Or.inr ⟨by rfl, rfl⟩) (by assumption) ?_
        try simp only [Act.put, List.setIfInBounds_toArray, List.set_cons_zero, List.set_cons_succ]
        refine wpAnyH_take (i := 19) (oi := ⟨some 24, _, _, _, _, _⟩) (v := ?_) rfl (by kernel_rfl) (by kernel_rfl) (by kernel_rfl) (fun _ _ _ h => h) (Or.inl ⟨by rfl, ?_⟩) (by assumption) ?_
        rotate_left 1
        · (intro W hSw; go_simp <;> with_reducible rfl)
        try simp only [Act.put, List.setIfInBounds_toArray, List.set_cons_zero, List.set_cons_succ]
        refine wpAnyH_take (i := 20) (oi := ⟨some 4, _, _, _, _, _⟩) (v := ?_) rfl (by kernel_rfl) (by kernel_rfl) (by kernel_rfl) (fun _ _ _ h => h) (Or.inl ⟨by rfl, ?_⟩) (by assumption) ?_
        rotate_left 1
        · (intro W hSw; go_simp <;> with_reducible rfl)
        try simp only [Act.put, List.setIfInBounds_toArray, List.set_cons_zero, List.set_cons_succ]
        refine wpAnyH_done (by kernel_rfl) ?_ _
        refine NoPanic.normal ?_
        have HZ := Lib.hid (stepB hb0 S5)
        go_wp2
        go_ret
        exact ⟨by simp, HZ.out⟩
      · go_simp
        obtain ⟨w6, ew6⟩ : ∃ zz, zz = w1.alloc (.cells #[.slice rB rm rd] 22) := ⟨_, rfl⟩
        have hb6 : Below w1.heap.size w1 w6 := by rw [ew6]; exact (Below.refl _ _).alloc (Nat.le_refl _) _
        rw [← ew6]
        have E_6 := head_one (g := w1.heap.size) rfl ew6 b_1
        have a_6 := a_1.on hb6
        have b_6 := b_1.on hb6
        have c_6 := c_1.on hb6
        have d_6 := d_1.on hb6
        have D_6 := D_1.on hb6
        have S6 : (fun W => Below W0.heap.size W0 W) w6 := stepB S1 hb6
        refine hK.out _ _ S6 (fun h6 => ?_)
        clear h1 hK K ew6
        try simp only [Act.put, List.setIfInBounds_toArray, List.set_cons_zero, List.set_cons_succ]
        refine wpAnyH_ready (rs := [3]) (by kernel_rfl) (by simp) ?_
        refine AllReadyH.cons (o := ⟨some 8, _, _, _, _, _⟩) rfl (fun K hK => ?_) AllReadyH.nil
        go_simp
        refine (union_any D_6 (L := R) (by simp) (by omega) (by simp)).mono ?_
        rintro e w7 ⟨pA, pn, pc, rfl, p_7, _, hb7⟩
        have a_7 := a_6.on hb7
        have b_7 := b_6.on hb7
        have c_7 := c_6.on hb7
        have d_7 := d_6.on hb7
        have D_7 := D_6.on hb7
        have E_7 := E_6.on hb7
        have S7 : (fun W => Below W0.heap.size W0 W) w7 := stepB S6 hb7
        refine hK.out _ _ S7 (fun h7 => ?_)
        clear h6 hK K
        try simp only [Act.put, List.setIfInBounds_toArray, List.set_cons_zero, List.set_cons_succ]
        refine wpAnyH_ready (rs := [7]) (by kernel_rfl) (by simp) ?_
        refine AllReadyH.cons (o := ⟨some 12, _, _, _, _, _⟩) rfl (fun K hK => ?_) AllReadyH.nil
        go_simp
        refine (union_any E_7 (L := Q) (by simp) (by omega) (by simp)).mono ?_
        rintro e w8 ⟨qA, qn, qc, rfl, q_8, _, hb8⟩
        have a_8 := a_7.on hb8
        have b_8 := b_7.on hb8
        have c_8 := c_7.on hb8
        have d_8 := d_7.on hb8
        have D_8 := D_7.on hb8
        have E_8 := E_7.on hb8
        have p_8 := p_7.on hb8
        have S8 : (fun W => Below W0.heap.size W0 W) w8 := stepB S7 hb8
        refine hK.out _ _ S8 (fun h8 => ?_)
        clear h7 hK K
        try simp only [Act.put, List.setIfInBounds_toArray, List.set_cons_zero, List.set_cons_succ]
        refine wpAnyH_ready (rs := [8]) (by kernel_rfl) (by simp) ?_
        refine AllReadyH.cons (o := ⟨some 13, _, _, _, _, _⟩) rfl (fun K hK => ?_) AllReadyH.nil
        go_simp
        refine (equal_any2 p_8 q_8 (by omega) (by omega) HT1.out).mono ?_
        rintro e w9 ⟨rfl, hb9⟩
        have a_9 := a_8.on hb9
        have b_9 := b_8.on hb9
        have c_9 := c_8.on hb9
        have d_9 := d_8.on hb9
        have D_9 := D_8.on hb9
        have E_9 := E_8.on hb9
        have p_9 := p_8.on hb9
        have q_9 := q_8.on hb9
        have S9 : (fun W => Below W0.heap.size W0 W) w9 := stepB S8 hb9
        refine hK.out _ _ S9 (fun h9 => ?_)
        clear h8 hK K
        try simp only [Act.put, List.setIfInBounds_toArray, List.set_cons_zero, List.set_cons_succ]
        refine wpAnyH_take (i := 9) (oi := ⟨some 14, _, _, _, _, _⟩) (v := ?_) rfl (by kernel_rfl) (by kernel_rfl) (by kernel_rfl) (fun _ _ _ h => h) (Or.inl ⟨by rfl, ?_⟩) (by assumption) ?_
        rotate_left 1
        · (intro W hSw; go_simp <;> with_reducible rfl)
        try simp only [Act.put, List.setIfInBounds_toArray, List.set_cons_zero, List.set_cons_succ]
        refine wpAnyH_take (i := 10) (oi := ⟨some 15, _, _, _, _, _⟩) (v := undef) rfl (by kernel_rfl) (by kernel_rfl) (by kernel_rfl) (fun _ _ _ h => h) (Or.inr ⟨by rfl, rfl⟩) (by assumption) ?_
        try simp only [Act.put, List.setIfInBounds_toArray, List.set_cons_zero, List.set_cons_succ]
        refine wpAnyH_take (i := 11) (oi := ⟨some 16, _, _, _, _, _⟩) (v := undef) rfl (by kernel_rfl) (by kernel_rfl) (by kernel_rfl) (fun _ _ _ h => h) (Or.inr ⟨by rfl, rfl⟩) (by assumption) ?_
        try simp only [Act.put, List.setIfInBounds_toArray, List.set_cons_zero, List.set_cons_succ]
        refine wpAnyH_take (i := 12) (oi := ⟨some 17, _, _, _, _, _⟩) (v := undef) rfl (by kernel_rfl) (by kernel_rfl) (by kernel_rfl) (fun _ _ _ h => h) (Or.inr ⟨by rfl, rfl⟩) (by assumption) ?_
        try simp only [Act.put, List.setIfInBounds_toArray, List.set_cons_zero, List.set_cons_succ]
        refine wpAnyH_take (i := 13) (oi := ⟨some 18, _, _, _, _, _⟩) (v := undef) rfl (by kernel_rfl) (by kernel_rfl) (by kernel_rfl) (fun _ _ _ h => h) (Or.inr ⟨by rfl, rfl⟩) (by assumption) ?_
        try simp only [Act.put, List.setIfInBounds_toArray, List.set_cons_zero, List.set_cons_succ]
        refine wpAnyH_take (i := 14) (oi := ⟨some 19, _, _, _, _, _⟩) (v := undef) rfl (by kernel_rfl) (by kernel_rfl) (by kernel_rfl) (fun _ _ _ h => h) (Or.inr ⟨by rfl, rfl⟩) (by assumption) ?_
        try simp only [Act.put, List.setIfInBounds_toArray, List.set_cons_zero, List.set_cons_succ]
        refine wpAnyH_take (i := 15) (oi := ⟨some 20, _, _, _, _, _⟩) (v := undef) rfl (by kernel_rfl) (by kernel_rfl) (by kernel_rfl) (fun _ _ _ h => h) (Or.inr ⟨by rfl, rfl⟩) (by assumption) ?_
        try simp only [Act.put, List.setIfInBounds_toArray, List.set_cons_zero, List.set_cons_succ]
        refine wpAnyH_take (i := 16) (oi := ⟨some 21, _, _, _, _, _⟩) (v := undef) rfl (by kernel_rfl) (by kernel_rfl) (by kernel_rfl) (fun _ _ _ h => h) (Or.inr ⟨by rfl, rfl⟩) (by assumption) ?_
        try simp only [Act.put, List.setIfInBounds_toArray, List.set_cons_zero, List.set_cons_succ]
        refine wpAnyH_take (i := 17) (oi := ⟨some 22, _, _, _, _, _⟩) (v := undef) rfl (by kernel_rfl) (by kernel_rfl) (by kernel_rfl) (fun _ _ _ h => h) (Or.inr ⟨by rfl, rfl⟩) (by assumption) ?_
        try simp only [Act.put, List.setIfInBounds_toArray, List.set_cons_zero, List.set_cons_succ]
        refine wpAnyH_take (i := 18) (oi := ⟨some 23, _, _, _, _, _⟩) (v := undef) rfl (by kernel_rfl) (by kernel_rfl) (by kernel_rfl) (fun _ _ _ h => h) (Or.inr ⟨by rfl, rfl⟩) (by assumption) ?_
        try simp only [Act.put, List.setIfInBounds_toArray, List.set_cons_zero, List.set_cons_succ]
        refine wpAnyH_take (i := 19) (oi := ⟨some 24, _, _, _, _, _⟩) (v := ?_) rfl (by kernel_rfl) (by kernel_rfl) (by kernel_rfl) (fun _ _ _ h => h) (Or.inl ⟨by rfl, ?_⟩) (by assumption) ?_
        rotate_left 1
        · (intro W hSw; go_simp <;> with_reducible rfl)
        try simp only [Act.put, List.setIfInBounds_toArray, List.set_cons_zero, List.set_cons_succ]
        refine wpAnyH_take (i := 20) (oi := ⟨some 4, _, _, _, _, _⟩) (v := ?_) rfl (by kernel_rfl) (by kernel_rfl) (by kernel_rfl) (fun _ _ _ h => h) (Or.inl ⟨by rfl, ?_⟩) (by assumption) ?_
        rotate_left 1
        · (intro W hSw; go_simp <;> with_reducible rfl)
        try simp only [Act.put, List.setIfInBounds_toArray, List.set_cons_zero, List.set_cons_succ]
        refine wpAnyH_done (by kernel_rfl) ?_ _
        refine NoPanic.normal ?_
        have HZ := Lib.hid (stepB hb0 S9)
        go_wp2
        go_ret
        exact ⟨by simp, HZ.out⟩
    · go_simp
      obtain ⟨w10, ew10⟩ : ∃ zz, zz = wd.alloc (.cells #[.slice rB rm rd] 22) := ⟨_, rfl⟩
      have hb10 : Below wd.heap.size wd w10 := by rw [ew10]; exact (Below.refl _ _).alloc (Nat.le_refl _) _
      rw [← ew10]
      have E_10 := head_one (g := wd.heap.size) rfl ew10 hr1
      have a_10 := hr0.on hb10
      have b_10 := hr1.on hb10
      have c_10 := hx0.on hb10
      have d_10 := hx1.on hb10
      have S10 : (fun W => Below W0.heap.size W0 W) w10 := stepB k0 hb10
      refine hK.out _ _ S10 (fun h10 => ?_)
      clear hHeld hK K ew10
      try simp only [Act.put, List.setIfInBounds_toArray, List.set_cons_zero, List.set_cons_succ]
      refine wpAnyH_ready (rs := [2]) (by kernel_rfl) (by simp) ?_
      refine AllReadyH.cons (o := ⟨some 7, _, _, _, _, _⟩) rfl (fun K hK => ?_) AllReadyH.nil
      go_simp
      obtain ⟨w11, ew11⟩ : ∃ zz, zz = w10.alloc (.cells #[.slice rA rn rc] 22) := ⟨_, rfl⟩
      have hb11 : Below w10.heap.size w10 w11 := by rw [ew11]; exact (Below.refl _ _).alloc (Nat.le_refl _) _
      rw [← ew11]
      have D_11 := head_one (g := w10.heap.size) rfl ew11 a_10
      have a_11 := a_10.on hb11
      have b_11 := b_10.on hb11
      have c_11 := c_10.on hb11
      have d_11 := d_10.on hb11
      have E_11 := E_10.on hb11
      have S11 : (fun W => Below W0.heap.size W0 W) w11 := stepB S10 hb11
      refine hK.out _ _ S11 (fun h11 => ?_)
      clear h10 hK K ew11
      try simp only [Act.put, List.setIfInBounds_toArray, List.set_cons_zero, List.set_cons_succ]
      refine wpAnyH_ready (rs := [3]) (by kernel_rfl) (by simp) ?_
      refine AllReadyH.cons (o := ⟨some 8, _, _, _, _, _⟩) rfl (fun K hK => ?_) AllReadyH.nil
      go_simp
      refine (union_any D_11 (L := R) (by simp) (by omega) (by simp)).mono ?_
      rintro e w12 ⟨pA, pn, pc, rfl, p_12, _, hb12⟩
      have a_12 := a_11.on hb12
      have b_12 := b_11.on hb12
      have c_12 := c_11.on hb12
      have d_12 := d_11.on hb12
      have E_12 := E_11.on hb12
      have D_12 := D_11.on hb12
      have S12 : (fun W => Below W0.heap.size W0 W) w12 := stepB S11 hb12
      refine hK.out _ _ S12 (fun h12 => ?_)
      clear h11 hK K
      try simp only [Act.put, List.setIfInBounds_toArray, List.set_cons_zero, List.set_cons_succ]
      refine wpAnyH_ready (rs := [7]) (by kernel_rfl) (by simp) ?_
      refine AllReadyH.cons (o := ⟨some 12, _, _, _, _, _⟩) rfl (fun K hK => ?_) AllReadyH.nil
      go_simp
      refine (union_any E_12 (L := Q) (by simp) (by omega) (by simp)).mono ?_
      rintro e w13 ⟨qA, qn, qc, rfl, q_13, _, hb13⟩
      have a_13 := a_12.on hb13
      have b_13 := b_12.on hb13
      have c_13 := c_12.on hb13
      have d_13 := d_12.on hb13
      have E_13 := E_12.on hb13
      have D_13 := D_12.on hb13
      have p_13 := p_12.on hb13
      have S13 : (fun W => Below W0.heap.size W0 W) w13 := stepB S12 hb13
      refine hK.out _ _ S13 (fun h13 => ?_)
      clear h12 hK K
      try simp only [Act.put, List.setIfInBounds_toArray, List.set_cons_zero, List.set_cons_succ]
      refine wpAnyH_ready (rs := [8]) (by kernel_rfl) (by simp) ?_
      refine AllReadyH.cons (o := ⟨some 13, _, _, _, _, _⟩) rfl (fun K hK => ?_) AllReadyH.nil
      go_simp
      refine (equal_any2 p_13 q_13 (by omega) (by omega) HT1.out).mono ?_
      rintro e w14 ⟨rfl, hb14⟩
      have a_14 := a_13.on hb14
      have b_14 := b_13.on hb14
      have c_14 := c_13.on hb14
      have d_14 := d_13.on hb14
      have E_14 := E_13.on hb14
      have D_14 := D_13.on hb14
      have p_14 := p_13.on hb14
      have q_14 := q_13.on hb14
      have S14 : (fun W => Below W0.heap.size W0 W) w14 := stepB S13 hb14
      refine hK.out _ _ S14 (fun h14 => ?_)
      clear h13 hK K
      try simp only [Act.put, List.setIfInBounds_toArray, List.set_cons_zero, List.set_cons_succ]
      refine wpAnyH_take (i := 9) (oi := ⟨some 14, _, _, _, _, _⟩) (v := ?_) rfl (by kernel_rfl) (by kernel_rfl) (by kernel_rfl) (fun _ _ _ h => h) (Or.inl ⟨by rfl, ?_⟩) (by assumption) ?_
      rotate_left 1
      · (intro W hSw; go_simp <;> with_reducible rfl)
      try simp only [Act.put, List.setIfInBounds_toArray, List.set_cons_zero, List.set_cons_succ]
      refine wpAnyH_take (i := 10) (oi := ⟨some 15, _, _, _, _, _⟩) (v := undef) rfl (by kernel_rfl) (by kernel_rfl) (by kernel_rfl) (fun _ _ _ h => h) (Or.inr ⟨by rfl, rfl⟩) (by assumption) ?_
      try simp only [Act.put, List.setIfInBounds_toArray, List.set_cons_zero, List.set_cons_succ]
      refine wpAnyH_take (i := 11) (oi := ⟨some 16, _, _, _, _, _⟩) (v := undef) rfl (by kernel_rfl) (by kernel_rfl) (by kernel_rfl) (fun _ _ _ h => h) (Or.inr ⟨by rfl, rfl⟩) (by assumption) ?_
      try simp only [Act.put, List.setIfInBounds_toArray, List.set_cons_zero, List.set_cons_succ]
      refine wpAnyH_take (i := 12) (oi := ⟨some 17, _, _, _, _, _⟩) (v := undef) rfl (by kernel_rfl) (by kernel_rfl) (by kernel_rfl) (fun _ _ _ h => h) (Or.inr ⟨by rfl, rfl⟩) (by assumption) ?_
      try simp only [Act.put, List.setIfInBounds_toArray, List.set_cons_zero, List.set_cons_succ]
      refine wpAnyH_take (i := 13) (oi := ⟨some 18, _, _, _, _, _⟩) (v := undef) rfl (by kernel_rfl) (by kernel_rfl) (by kernel_rfl) (fun _ _ _ h => h) (Or.inr ⟨by rfl, rfl⟩) (by assumption) ?_
      try simp only [Act.put, List.setIfInBounds_toArray, List.set_cons_zero, List.set_cons_succ]
      refine wpAnyH_take (i := 14) (oi := ⟨some 19, _, _, _, _, _⟩) (v := undef) rfl (by kernel_rfl) (by kernel_rfl) (by kernel_rfl) (fun _ _ _ h => h) (Or.inr ⟨by rfl, rfl⟩) (by assumption) ?_
      try simp only [Act.put, List.setIfInBounds_toArray, List.set_cons_zero, List.set_cons_succ]
      refine wpAnyH_take (i := 15) (oi := ⟨some 20, _, _, _, _, _⟩) (v := undef) rfl (by kernel_rfl) (by kernel_rfl) (by kernel_rfl) (fun _ _ _ h => h) (Or.inr ⟨by rfl, rfl⟩) (by assumption) ?_
      try simp only [Act.put, List.setIfInBounds_toArray, List.set_cons_zero, List.set_cons_succ]
      refine wpAnyH_take (i := 16) (oi := ⟨some 21, _, _, _, _, _⟩) (v := undef) rfl (by kernel_rfl) (by kernel_rfl) (by kernel_rfl) (fun _ _ _ h => h) (Or.inr ⟨by rfl, rfl⟩) (by assumption) ?_
      try simp only [Act.put, List.setIfInBounds_toArray, List.set_cons_zero, List.set_cons_succ]
      refine wpAnyH_take (i := 17) (oi := ⟨some 22, _, _, _, _, _⟩) (v := undef) rfl (by kernel_rfl) (by kernel_rfl) (by kernel_rfl) (fun _ _ _ h => h) (Or.inr ⟨by rfl, rfl⟩) (by assumption) ?_
      try simp only [Act.put, List.setIfInBounds_toArray, List.set_cons_zero, List.set_cons_succ]
      refine wpAnyH_take (i := 18) (oi := ⟨some 23, _, _, _, _, _⟩) (v := undef) rfl (by kernel_rfl) (by kernel_rfl) (by kernel_rfl) (fun _ _ _ h => h) (Or.inr ⟨by rfl, rfl⟩) (by assumption) ?_
      try simp only [Act.put, List.setIfInBounds_toArray, List.set_cons_zero, List.set_cons_succ]
      refine wpAnyH_take (i := 19) (oi := ⟨some 24, _, _, _, _, _⟩) (v := ?_) rfl (by kernel_rfl) (by kernel_rfl) (by kernel_rfl) (fun _ _ _ h => h) (Or.inl ⟨by rfl, ?_⟩) (by assumption) ?_
      rotate_left 1
      · (intro W hSw; go_simp <;> with_reducible rfl)
      try simp only [Act.put, List.setIfInBounds_toArray, List.set_cons_zero, List.set_cons_succ]
      refine wpAnyH_take (i := 20) (oi := ⟨some 4, _, _, _, _, _⟩) (v := ?_) rfl (by kernel_rfl) (by kernel_rfl) (by kernel_rfl) (fun _ _ _ h => h) (Or.inl ⟨by rfl, ?_⟩) (by assumption) ?_
      rotate_left 1
      · (intro W hSw; go_simp <;> with_reducible rfl)
      try simp only [Act.put, List.setIfInBounds_toArray, List.set_cons_zero, List.set_cons_succ]
      refine wpAnyH_done (by kernel_rfl) ?_ _
      refine NoPanic.normal ?_
      have HZ := Lib.hid (stepB hb0 S14)
      go_wp2
      go_ret
      exact ⟨by simp, HZ.out⟩
  | true =>
    have HT1 := Lib.hid eT1
    have HT2 := Lib.hid eT2
    clear eT1 eT2
    go_enter Try.func16, Try.ntmps16
    go_wp2_with fail
    rw [← HE.out.2, ← HE.out.1]
    refine wp_region_noPanic ?_
    refine wp_region_held_drew (S := (fun W => Below W0.heap.size W0 W)) (by kernel_rfl) k0 (fun hHeld => ?_)
    generalize W0.drew = wd at hHeld k0 hr0 hr1 hx0 hx1 ⊢
    refine wpAnyH_take (i := 0) (oi := ⟨some 5, _, _, _, _, _⟩) (v := ?_) rfl (by kernel_rfl) (by kernel_rfl) (by kernel_rfl) (fun _ _ _ h => h) (Or.inl ⟨by rfl, ?_⟩) (by assumption) ?_
    rotate_left 1
    · (intro W hSw; go_simp <;> with_reducible rfl)
    try simp only [Act.put, List.setIfInBounds_toArray, List.set_cons_zero, List.set_cons_succ]
    refine wpAnyH_take (i := 1) (oi := ⟨some 6, _, _, _, _, _⟩) (v := ?_) rfl (by kernel_rfl) (by kernel_rfl) (by kernel_rfl) (fun _ _ _ h => h) (Or.inl ⟨by rfl, ?_⟩) (by assumption) ?_
    rotate_left 1
    · (intro W hSw; obtain ⟨f0, f1, f2, f3⟩ := tS W hSw; go_simp <;> with_reducible rfl)
    try simp only [Act.put, List.setIfInBounds_toArray, List.set_cons_zero, List.set_cons_succ]
    refine wpAnyH_take (i := 4) (oi := ⟨some 9, _, _, _, _, _⟩) (v := ?_) rfl (by kernel_rfl) (by kernel_rfl) (by kernel_rfl) (fun _ _ _ h => h) (Or.inl ⟨by rfl, ?_⟩) (by assumption) ?_
    rotate_left 1
    · (intro W hSw; go_simp <;> with_reducible rfl)
    try simp only [Act.put, List.setIfInBounds_toArray, List.set_cons_zero, List.set_cons_succ]
    refine wpAnyH_take (i := 5) (oi := ⟨some 10, _, _, _, _, _⟩) (v := ?_) rfl (by kernel_rfl) (by kernel_rfl) (by kernel_rfl) (fun _ _ _ h => h) (Or.inl ⟨by rfl, ?_⟩) (by assumption) ?_
    rotate_left 1
    · (intro W hSw; obtain ⟨f0, f1, f2, f3⟩ := tS W hSw; go_simp <;> with_reducible rfl)
    try simp only [Act.put, List.setIfInBounds_toArray, List.set_cons_zero, List.set_cons_succ]
    refine wpAnyH_ready (rs := [2, 6]) (by kernel_rfl) (by simp) ?_
    refine AllReadyH.cons (o := ⟨some 7, _, _, _, _, _⟩) rfl (fun K hK => ?_) (AllReadyH.cons (o := ⟨some 11, _, _, _, _, _⟩) rfl (fun K hK => ?_) AllReadyH.nil)
    · go_simp
      obtain ⟨w1, ew1⟩ : ∃ zz, zz = wd.alloc (.cells #[.slice rA rn rc] 22) := ⟨_, rfl⟩
      have hb1 : Below wd.heap.size wd w1 := by rw [ew1]; exact (Below.refl _ _).alloc (Nat.le_refl _) _
      rw [← ew1]
      have D_1 := head_one (g := wd.heap.size) rfl ew1 hr0
      have a_1 := hr0.on hb1
      have b_1 := hr1.on hb1
      have c_1 := hx0.on hb1
      have d_1 := hx1.on hb1
      have S1 : (fun W => Below W0.heap.size W0 W) w1 := stepB k0 hb1
      refine hK.out _ _ S1 (fun h1 => ?_)
      clear hHeld hK K ew1
      try simp only [Act.put, List.setIfInBounds_toArray, List.set_cons_zero, List.set_cons_succ]
      refine wpAnyH_ready (rs := [3, 6]) (by kernel_rfl) (by simp) ?_
      refine AllReadyH.cons (o := ⟨some 8, _, _, _, _, _⟩) rfl (fun K hK => ?_) (AllReadyH.cons (o := ⟨some 11, _, _, _, _, _⟩) rfl (fun K hK => ?_) AllReadyH.nil)
      · go_simp
        refine (union_any D_1 (L := R) (by simp) (by omega) (by simp)).mono ?_
        rintro e w2 ⟨pA, pn, pc, rfl, p_2, _, hb2⟩
        have a_2 := a_1.on hb2
        have b_2 := b_1.on hb2
        have c_2 := c_1.on hb2
        have d_2 := d_1.on hb2
        have D_2 := D_1.on hb2
        have S2 : (fun W => Below W0.heap.size W0 W) w2 := stepB S1 hb2
        refine hK.out _ _ S2 (fun h2 => ?_)
        clear h1 hK K
        try simp only [Act.put, List.setIfInBounds_toArray, List.set_cons_zero, List.set_cons_succ]
        refine wpAnyH_ready (rs := [6]) (by kernel_rfl) (by simp) ?_
        refine AllReadyH.cons (o := ⟨some 11, _, _, _, _, _⟩) rfl (fun K hK => ?_) AllReadyH.nil
        go_simp
        obtain ⟨w3, ew3⟩ : ∃ zz, zz = w2.alloc (.cells #[.slice rB rm rd] 22) := ⟨_, rfl⟩
        have hb3 : Below w2.heap.size w2 w3 := by rw [ew3]; exact (Below.refl _ _).alloc (Nat.le_refl _) _
        rw [← ew3]
        have E_3 := head_one (g := w2.heap.size) rfl ew3 b_2
        have a_3 := a_2.on hb3
        have b_3 := b_2.on hb3
        have c_3 := c_2.on hb3
        have d_3 := d_2.on hb3
        have D_3 := D_2.on hb3
        have p_3 := p_2.on hb3
        have S3 : (fun W => Below W0.heap.size W0 W) w3 := stepB S2 hb3
        refine hK.out _ _ S3 (fun h3 => ?_)
        clear h2 hK K ew3
        try simp only [Act.put, List.setIfInBounds_toArray, List.set_cons_zero, List.set_cons_succ]
        refine wpAnyH_ready (rs := [7]) (by kernel_rfl) (by simp) ?_
        refine AllReadyH.cons (o := ⟨some 12, _, _, _, _, _⟩) rfl (fun K hK => ?_) AllReadyH.nil
        go_simp
        refine (union_any E_3 (L := Q) (by simp) (by omega) (by simp)).mono ?_
        rintro e w4 ⟨qA, qn, qc, rfl, q_4, _, hb4⟩
        have a_4 := a_3.on hb4
        have b_4 := b_3.on hb4
        have c_4 := c_3.on hb4
        have d_4 := d_3.on hb4
        have D_4 := D_3.on hb4
        have p_4 := p_3.on hb4
        have E_4 := E_3.on hb4
        have S4 : (fun W => Below W0.heap.size W0 W) w4 := stepB S3 hb4
        refine hK.out _ _ S4 (fun h4 => ?_)
        clear h3 hK K
        try simp only [Act.put, List.setIfInBounds_toArray, List.set_cons_zero, List.set_cons_succ]
        refine wpAnyH_ready (rs := [8]) (by kernel_rfl) (by simp) ?_
        refine AllReadyH.cons (o := ⟨some 13, _, _, _, _, _⟩) rfl (fun K hK => ?_) AllReadyH.nil
        go_simp
        refine (equal_any2 p_4 q_4 (by omega) (by omega) HT1.out).mono ?_
        rintro e w5 ⟨rfl, hb5⟩
        have a_5 := a_4.on hb5
        have b_5 := b_4.on hb5
        have c_5 := c_4.on hb5
        have d_5 := d_4.on hb5
        have D_5 := D_4.on hb5
        have p_5 := p_4.on hb5
        have E_5 := E_4.on hb5
        have q_5 := q_4.on hb5
        have S5 : (fun W => Below W0.heap.size W0 W) w5 := stepB S4 hb5
        refine hK.out _ _ S5 (fun h5 => ?_)
        clear h4 hK K
        try simp only [Act.put, List.setIfInBounds_toArray, List.set_cons_zero, List.set_cons_succ]
        refine wpAnyH_take (i := 9) (oi := ⟨some 14, _, _, _, _, _⟩) (v := ?_) rfl (by kernel_rfl) (by kernel_rfl) (by kernel_rfl) (fun _ _ _ h => h) (Or.inl ⟨by rfl, ?_⟩) (by assumption) ?_
        rotate_left 1
        · (intro W hSw; go_simp <;> with_reducible rfl)
        try simp only [Act.put, List.setIfInBounds_toArray, List.set_cons_zero, List.set_cons_succ]
        refine wpAnyH_take (i := 10) (oi := ⟨some 15, _, _, _, _, _⟩) (v := ?_) rfl (by kernel_rfl) (by kernel_rfl) (by kernel_rfl) (fun _ _ _ h => h) (Or.inl ⟨by rfl, ?_⟩) (by assumption) ?_
        rotate_left 1
        · (intro W hSw; go_simp <;> with_reducible rfl)
        try simp only [Act.put, List.setIfInBounds_toArray, List.set_cons_zero, List.set_cons_succ]
        refine wpAnyH_take (i := 11) (oi := ⟨some 16, _, _, _, _, _⟩) (v := ?_) rfl (by kernel_rfl) (by kernel_rfl) (by kernel_rfl) (fun _ _ _ h => h) (Or.inl ⟨by rfl, ?_⟩) (by assumption) ?_
        rotate_left 1
        · (intro W hSw; obtain ⟨f0, f1, f2, f3⟩ := tS W hSw; go_simp <;> with_reducible rfl)
        try simp only [Act.put, List.setIfInBounds_toArray, List.set_cons_zero, List.set_cons_succ]
        refine wpAnyH_take (i := 14) (oi := ⟨some 19, _, _, _, _, _⟩) (v := ?_) rfl (by kernel_rfl) (by kernel_rfl) (by kernel_rfl) (fun _ _ _ h => h) (Or.inl ⟨by rfl, ?_⟩) (by assumption) ?_
        rotate_left 1
        · (intro W hSw; go_simp <;> with_reducible rfl)
        try simp only [Act.put, List.setIfInBounds_toArray, List.set_cons_zero, List.set_cons_succ]
        refine wpAnyH_take (i := 15) (oi := ⟨some 20, _, _, _, _, _⟩) (v := ?_) rfl (by kernel_rfl) (by kernel_rfl) (by kernel_rfl) (fun _ _ _ h => h) (Or.inl ⟨by rfl, ?_⟩) (by assumption) ?_
        rotate_left 1
        · (intro W hSw; obtain ⟨f0, f1, f2, f3⟩ := tS W hSw; go_simp <;> with_reducible rfl)
        try simp only [Act.put, List.setIfInBounds_toArray, List.set_cons_zero, List.set_cons_succ]
        refine wpAnyH_ready (rs := [12, 16]) (by kernel_rfl) (by simp) ?_
        refine AllReadyH.cons (o := ⟨some 17, _, _, _, _, _⟩) rfl (fun K hK => ?_) (AllReadyH.cons (o := ⟨some 21, _, _, _, _, _⟩) rfl (fun K hK => ?_) AllReadyH.nil)
        · go_simp
          obtain ⟨w6, ew6⟩ : ∃ zz, zz = w5.alloc (.cells #[.slice xA xn xc] 22) := ⟨_, rfl⟩
          have hb6 : Below w5.heap.size w5 w6 := by rw [ew6]; exact (Below.refl _ _).alloc (Nat.le_refl _) _
          rw [← ew6]
          have F_6 := head_one (g := w5.heap.size) rfl ew6 c_5
          have a_6 := a_5.on hb6
          have b_6 := b_5.on hb6
          have c_6 := c_5.on hb6
          have d_6 := d_5.on hb6
          have D_6 := D_5.on hb6
          have p_6 := p_5.on hb6
          have E_6 := E_5.on hb6
          have q_6 := q_5.on hb6
          have S6 : (fun W => Below W0.heap.size W0 W) w6 := stepB S5 hb6
          refine hK.out _ _ S6 (fun h6 => ?_)
          clear h5 hK K ew6
          try simp only [Act.put, List.setIfInBounds_toArray, List.set_cons_zero, List.set_cons_succ]
          refine wpAnyH_ready (rs := [13, 16]) (by kernel_rfl) (by simp) ?_
          refine AllReadyH.cons (o := ⟨some 18, _, _, _, _, _⟩) rfl (fun K hK => ?_) (AllReadyH.cons (o := ⟨some 21, _, _, _, _, _⟩) rfl (fun K hK => ?_) AllReadyH.nil)
          · go_simp
            refine (union_any F_6 (L := X) (by simp) (by omega) (by simp)).mono ?_
            rintro e w7 ⟨sA, sn, sc, rfl, s_7, _, hb7⟩
            have a_7 := a_6.on hb7
            have b_7 := b_6.on hb7
            have c_7 := c_6.on hb7
            have d_7 := d_6.on hb7
            have D_7 := D_6.on hb7
            have p_7 := p_6.on hb7
            have E_7 := E_6.on hb7
            have q_7 := q_6.on hb7
            have F_7 := F_6.on hb7
            have S7 : (fun W => Below W0.heap.size W0 W) w7 := stepB S6 hb7
            refine hK.out _ _ S7 (fun h7 => ?_)
            clear h6 hK K
            try simp only [Act.put, List.setIfInBounds_toArray, List.set_cons_zero, List.set_cons_succ]
            refine wpAnyH_ready (rs := [16]) (by kernel_rfl) (by simp) ?_
            refine AllReadyH.cons (o := ⟨some 21, _, _, _, _, _⟩) rfl (fun K hK => ?_) AllReadyH.nil
            go_simp
            obtain ⟨w8, ew8⟩ : ∃ zz, zz = w7.alloc (.cells #[.slice xB xm xd] 22) := ⟨_, rfl⟩
            have hb8 : Below w7.heap.size w7 w8 := by rw [ew8]; exact (Below.refl _ _).alloc (Nat.le_refl _) _
            rw [← ew8]
            have G_8 := head_one (g := w7.heap.size) rfl ew8 d_7
            have a_8 := a_7.on hb8
            have b_8 := b_7.on hb8
            have c_8 := c_7.on hb8
            have d_8 := d_7.on hb8
            have D_8 := D_7.on hb8
            have p_8 := p_7.on hb8
            have E_8 := E_7.on hb8
            have q_8 := q_7.on hb8
            have F_8 := F_7.on hb8
            have s_8 := s_7.on hb8
            have S8 : (fun W => Below W0.heap.size W0 W) w8 := stepB S7 hb8
            refine hK.out _ _ S8 (fun h8 => ?_)
            clear h7 hK K ew8
            try simp only [Act.put, List.setIfInBounds_toArray, List.set_cons_zero, List.set_cons_succ]
            refine wpAnyH_ready (rs := [17]) (by kernel_rfl) (by simp) ?_
            refine AllReadyH.cons (o := ⟨some 22, _, _, _, _, _⟩) rfl (fun K hK => ?_) AllReadyH.nil
            go_simp
            refine (union_any G_8 (L := Y) (by simp) (by omega) (by simp)).mono ?_
            rintro e w9 ⟨tA, tn, tc, rfl, t_9, _, hb9⟩
            have a_9 := a_8.on hb9
            have b_9 := b_8.on hb9
            have c_9 := c_8.on hb9
            have d_9 := d_8.on hb9
            have D_9 := D_8.on hb9
            have p_9 := p_8.on hb9
            have E_9 := E_8.on hb9
            have q_9 := q_8.on hb9
            have F_9 := F_8.on hb9
            have s_9 := s_8.on hb9
            have G_9 := G_8.on hb9
            have S9 : (fun W => Below W0.heap.size W0 W) w9 := stepB S8 hb9
            refine hK.out _ _ S9 (fun h9 => ?_)
            clear h8 hK K
            try simp only [Act.put, List.setIfInBounds_toArray, List.set_cons_zero, List.set_cons_succ]
            refine wpAnyH_ready (rs := [18]) (by kernel_rfl) (by simp) ?_
            refine AllReadyH.cons (o := ⟨some 23, _, _, _, _, _⟩) rfl (fun K hK => ?_) AllReadyH.nil
            go_simp
            refine (equal_any2 s_9 t_9 (by omega) (by omega) HT2.out).mono ?_
            rintro e w10 ⟨rfl, hb10⟩
            have a_10 := a_9.on hb10
            have b_10 := b_9.on hb10
            have c_10 := c_9.on hb10
            have d_10 := d_9.on hb10
            have D_10 := D_9.on hb10
            have p_10 := p_9.on hb10
            have E_10 := E_9.on hb10
            have q_10 := q_9.on hb10
            have F_10 := F_9.on hb10
            have s_10 := s_9.on hb10
            have G_10 := G_9.on hb10
            have t_10 := t_9.on hb10
            have S10 : (fun W => Below W0.heap.size W0 W) w10 := stepB S9 hb10
            refine hK.out _ _ S10 (fun h10 => ?_)
            clear h9 hK K
            try simp only [Act.put, List.setIfInBounds_toArray, List.set_cons_zero, List.set_cons_succ]
            refine wpAnyH_take (i := 19) (oi := ⟨some 24, _, _, _, _, _⟩) (v := ?_) rfl (by kernel_rfl) (by kernel_rfl) (by kernel_rfl) (fun _ _ _ h => h) (Or.inl ⟨by rfl, ?_⟩) (by assumption) ?_
            rotate_left 1
            · (intro W hSw; go_simp <;> with_reducible rfl)
            try simp only [Act.put, List.setIfInBounds_toArray, List.set_cons_zero, List.set_cons_succ]
            refine wpAnyH_take (i := 20) (oi := ⟨some 4, _, _, _, _, _⟩) (v := ?_) rfl (by kernel_rfl) (by kernel_rfl) (by kernel_rfl) (fun _ _ _ h => h) (Or.inl ⟨by rfl, ?_⟩) (by assumption) ?_
            rotate_left 1
            · (intro W hSw; go_simp <;> with_reducible rfl)
            try simp only [Act.put, List.setIfInBounds_toArray, List.set_cons_zero, List.set_cons_succ]
            refine wpAnyH_done (by kernel_rfl) ?_ _
            refine NoPanic.normal ?_
            have HZ := Lib.hid (stepB hb0 S10)
            go_wp2
            go_ret
            exact ⟨by simp, HZ.out⟩
          · go_simp
            obtain ⟨w11, ew11⟩ : ∃ zz, zz = w6.alloc (.cells #[.slice xB xm xd] 22) := ⟨_, rfl⟩
            have hb11 : Below w6.heap.size w6 w11 := by rw [ew11]; exact (Below.refl _ _).alloc (Nat.le_refl _) _
            rw [← ew11]
            have G_11 := head_one (g := w6.heap.size) rfl ew11 d_6
            have a_11 := a_6.on hb11
            have b_11 := b_6.on hb11
            have c_11 := c_6.on hb11
            have d_11 := d_6.on hb11
            have D_11 := D_6.on hb11
            have p_11 := p_6.on hb11
            have E_11 := E_6.on hb11
            have q_11 := q_6.on hb11
            have F_11 := F_6.on hb11
            have S11 : (fun W => Below W0.heap.size W0 W) w11 := stepB S6 hb11
            refine hK.out _ _ S11 (fun h11 => ?_)
            clear h6 hK K ew11
            try simp only [Act.put, List.setIfInBounds_toArray, List.set_cons_zero, List.set_cons_succ]
            refine wpAnyH_ready (rs := [13]) (by kernel_rfl) (by simp) ?_
            refine AllReadyH.cons (o := ⟨some 18, _, _, _, _, _⟩) rfl (fun K hK => ?_) AllReadyH.nil
            go_simp
            refine (union_any F_11 (L := X) (by simp) (by omega) (by simp)).mono ?_
            rintro e w12 ⟨sA, sn, sc, rfl, s_12, _, hb12⟩
            have a_12 := a_11.on hb12
            have b_12 := b_11.on hb12
            have c_12 := c_11.on hb12
            have d_12 := d_11.on hb12
            have D_12 := D_11.on hb12
            have p_12 := p_11.on hb12
            have E_12 := E_11.on hb12
            have q_12 := q_11.on hb12
            have F_12 := F_11.on hb12
            have G_12 := G_11.on hb12
            have S12 : (fun W => Below W0.heap.size W0 W) w12 := stepB S11 hb12
            refine hK.out _ _ S12 (fun h12 => ?_)
            clear h11 hK K
            try simp only [Act.put, List.setIfInBounds_toArray, List.set_cons_zero, List.set_cons_succ]
            refine wpAnyH_ready (rs := [17]) (by kernel_rfl) (by simp) ?_
            refine AllReadyH.cons (o := ⟨some 22, _, _, _, _, _⟩) rfl (fun K hK => ?_) AllReadyH.nil
            go_simp
            refine (union_any G_12 (L := Y) (by simp) (by omega) (by simp)).mono ?_
            rintro e w13 ⟨tA, tn, tc, rfl, t_13, _, hb13⟩
            have a_13 := a_12.on hb13
            have b_13 := b_12.on hb13
            have c_13 := c_12.on hb13
            have d_13 := d_12.on hb13
            have D_13 := D_12.on hb13
            have p_13 := p_12.on hb13
            have E_13 := E_12.on hb13
            have q_13 := q_12.on hb13
            have F_13 := F_12.on hb13
            have G_13 := G_12.on hb13
            have s_13 := s_12.on hb13
            have S13 : (fun W => Below W0.heap.size W0 W) w13 := stepB S12 hb13
            refine hK.out _ _ S13 (fun h13 => ?_)
            clear h12 hK K
            try simp only [Act.put, List.setIfInBounds_toArray, List.set_cons_zero, List.set_cons_succ]
            refine wpAnyH_ready (rs := [18]) (by kernel_rfl) (by simp) ?_
            refine AllReadyH.cons (o := ⟨some 23, _, _, _, _, _⟩) rfl (fun K hK => ?_) AllReadyH.nil
            go_simp
            refine (equal_any2 s_13 t_13 (by omega) (by omega) HT2.out).mono ?_
            rintro e w14 ⟨rfl, hb14⟩
            have a_14 := a_13.on hb14
            have b_14 := b_13.on hb14
            have c_14 := c_13.on hb14
            have d_14 := d_13.on hb14
            have D_14 := D_13.on hb14
            have p_14 := p_13.on hb14
            have E_14 := E_13.on hb14
            have q_14 := q_13.on hb14
            have F_14 := F_13.on hb14
            have G_14 := G_13.on hb14
            have s_14 := s_13.on hb14
            have t_14 := t_13.on hb14
            have S14 : (fun W => Below W0.heap.size W0 W) w14 := stepB S13 hb14
            refine hK.out _ _ S14 (fun h14 => ?_)
            clear h13 hK K
            try simp only [Act.put, List.setIfInBounds_toArray, List.set_cons_zero, List.set_cons_succ]
            refine wpAnyH_take (i := 19) (oi := ⟨some 24, _, _, _, _, _⟩) (v := ?_) rfl (by kernel_rfl) (by kernel_rfl) (by kernel_rfl) (fun _ _ _ h => h) (Or.inl ⟨by rfl, ?_⟩) (by assumption) ?_
            rotate_left 1
            · (intro W hSw; go_simp <;> with_reducible rfl)
            try simp only [Act.put, List.setIfInBounds_toArray, List.set_cons_zero, List.set_cons_succ]
            refine wpAnyH_take (i := 20) (oi := ⟨some 4, _, _, _, _, _⟩) (v := ?_) rfl (by kernel_rfl) (by kernel_rfl) (by kernel_rfl) (fun _ _ _ h => h) (Or.inl ⟨by rfl, ?_⟩) (by assumption) ?_
            rotate_left 1
            · (intro W hSw; go_simp <;> with_reducible rfl)
            try simp only [Act.put, List.setIfInBounds_toArray, List.set_cons_zero, List.set_cons_succ]
            refine wpAnyH_done (by kernel_rfl) ?_ _
            refine NoPanic.normal ?_
            have HZ := Lib.hid (stepB hb0 S14)
            go_wp2
            go_ret
            exact ⟨by simp, HZ.out⟩
        · go_simp
          obtain ⟨w15, ew15⟩ : ∃ zz, zz = w5.alloc (.cells #[.slice xB xm xd] 22) := ⟨_, rfl⟩
          have hb15 : Below w5.heap.size w5 w15 := by rw [ew15]; exact (Below.refl _ _).alloc (Nat.le_refl _) _
          rw [← ew15]
          have G_15 := head_one (g := w5.heap.size) rfl ew15 d_5
          have a_15 := a_5.on hb15
          have b_15 := b_5.on hb15
          have c_15 := c_5.on hb15
          have d_15 := d_5.on hb15
          have D_15 := D_5.on hb15
          have p_15 := p_5.on hb15
          have E_15 := E_5.on hb15
          have q_15 := q_5.on hb15
          have S15 : (fun W => Below W0.heap.size W0 W) w15 := stepB S5 hb15
          refine hK.out _ _ S15 (fun h15 => ?_)
          clear h5 hK K ew15
          try simp only [Act.put, List.setIfInBounds_toArray, List.set_cons_zero, List.set_cons_succ]
          refine wpAnyH_ready (rs := [12]) (by kernel_rfl) (by simp) ?_
          refine AllReadyH.cons (o := ⟨some 17, _, _, _, _, _⟩) rfl (fun K hK => ?_) AllReadyH.nil
          go_simp
          obtain ⟨w16, ew16⟩ : ∃ zz, zz = w15.alloc (.cells #[.slice xA xn xc] 22) := ⟨_, rfl⟩
          have hb16 : Below w15.heap.size w15 w16 := by rw [ew16]; exact (Below.refl _ _).alloc (Nat.le_refl _) _
          rw [← ew16]
          have F_16 := head_one (g := w15.heap.size) rfl ew16 c_15
          have a_16 := a_15.on hb16
          have b_16 := b_15.on hb16
          have c_16 := c_15.on hb16
          have d_16 := d_15.on hb16
          have D_16 := D_15.on hb16
          have p_16 := p_15.on hb16
          have E_16 := E_15.on hb16
          have q_16 := q_15.on hb16
          have G_16 := G_15.on hb16
          have S16 : (fun W => Below W0.heap.size W0 W) w16 := stepB S15 hb16
          refine hK.out _ _ S16 (fun h16 => ?_)
          clear h15 hK K ew16
          try simp only [Act.put, List.setIfInBounds_toArray, List.set_cons_zero, List.set_cons_succ]
          refine wpAnyH_ready (rs := [13]) (by kernel_rfl) (by simp) ?_
          refine AllReadyH.cons (o := ⟨some 18, _, _, _, _, _⟩) rfl (fun K hK => ?_) AllReadyH.nil
          go_simp
          refine (union_any F_16 (L := X) (by simp) (by omega) (by simp)).mono ?_
          rintro e w17 ⟨sA, sn, sc, rfl, s_17, _, hb17⟩
          have a_17 := a_16.on hb17
          have b_17 := b_16.on hb17
          have c_17 := c_16.on hb17
          have d_17 := d_16.on hb17
          have D_17 := D_16.on hb17
          have p_17 := p_16.on hb17
          have E_17 := E_16.on hb17
          have q_17 := q_16.on hb17
          have G_17 := G_16.on hb17
          have F_17 := F_16.on hb17
          have S17 : (fun W => Below W0.heap.size W0 W) w17 := stepB S16 hb17
          refine hK.out _ _ S17 (fun h17 => ?_)
          clear h16 hK K
          try simp only [Act.put, List.setIfInBounds_toArray, List.set_cons_zero, List.set_cons_succ]
          refine wpAnyH_ready (rs := [17]) (by kernel_rfl) (by simp) ?_
          refine AllReadyH.cons (o := ⟨some 22, _, _, _, _, _⟩) rfl (fun K hK => ?_) AllReadyH.nil
          go_simp
          refine (union_any G_17 (L := Y) (by simp) (by omega) (by simp)).mono ?_
          rintro e w18 ⟨tA, tn, tc, rfl, t_18, _, hb18⟩
          have a_18 := a_17.on hb18
          have b_18 := b_17.on hb18
          have c_18 := c_17.on hb18
          have d_18 := d_17.on hb18
          have D_18 := D_17.on hb18
          have p_18 := p_17.on hb18
          have E_18 := E_17.on hb18
          have q_18 := q_17.on hb18
          have G_18 := G_17.on hb18
          have F_18 := F_17.on hb18
          have s_18 := s_17.on hb18
          have S18 : (fun W => Below W0.heap.size W0 W) w18 := stepB S17 hb18
          refine hK.out _ _ S18 (fun h18 => ?_)
          clear h17 hK K
          try simp only [Act.put, List.setIfInBounds_toArray, List.set_cons_zero, List.set_cons_succ]
          refine wpAnyH_ready (rs := [18]) (by kernel_rfl) (by simp) ?_
          refine AllReadyH.cons (o := ⟨some 23, _, _, _, _, _⟩) rfl (fun K hK => ?_) AllReadyH.nil
          go_simp
          refine (equal_any2 s_18 t_18 (by omega) (by omega) HT2.out).mono ?_
          rintro e w19 ⟨rfl, hb19⟩
          have a_19 := a_18.on hb19
          have b_19 := b_18.on hb19
          have c_19 := c_18.on hb19
          have d_19 := d_18.on hb19
          have D_19 := D_18.on hb19
          have p_19 := p_18.on hb19
          have E_19 := E_18.on hb19
          have q_19 := q_18.on hb19
          have G_19 := G_18.on hb19
          have F_19 := F_18.on hb19
          have s_19 := s_18.on hb19
          have t_19 := t_18.on hb19
          have S19 : (fun W => Below W0.heap.size W0 W) w19 := stepB S18 hb19
          refine hK.out _ _ S19 (fun h19 => ?_)
          clear h18 hK K
          try simp only [Act.put, List.setIfInBounds_toArray, List.set_cons_zero, List.set_cons_succ]
          refine wpAnyH_take (i := 19) (oi := ⟨some 24, _, _, _, _, _⟩) (v := ?_) rfl (by kernel_rfl) (by kernel_rfl) (by kernel_rfl) (fun _ _ _ h => h) (Or.inl ⟨by rfl, ?_⟩) (by assumption) ?_
          rotate_left 1
          · (intro W hSw; go_simp <;> with_reducible rfl)
          try simp only [Act.put, List.setIfInBounds_toArray, List.set_cons_zero, List.set_cons_succ]
          refine wpAnyH_take (i := 20) (oi := ⟨some 4, _, _, _, _, _⟩) (v := ?_) rfl (by kernel_rfl) (by kernel_rfl) (by kernel_rfl) (fun _ _ _ h => h) (Or.inl ⟨by rfl, ?_⟩) (by assumption) ?_
          rotate_left 1
          · (intro W hSw; go_simp <;> with_reducible rfl)
          try simp only [Act.put, List.setIfInBounds_toArray, List.set_cons_zero, List.set_cons_succ]
          refine wpAnyH_done (by kernel_rfl) ?_ _
          refine NoPanic.normal ?_
          have HZ := Lib.hid (stepB hb0 S19)
          go_wp2
          go_ret
          exact ⟨by simp, HZ.out⟩
      · go_simp
        obtain ⟨w20, ew20⟩ : ∃ zz, zz = w1.alloc (.cells #[.slice rB rm rd] 22) := ⟨_, rfl⟩
        have hb20 : Below w1.heap.size w1 w20 := by rw [ew20]; exact (Below.refl _ _).alloc (Nat.le_refl _) _
        rw [← ew20]
        have E_20 := head_one (g := w1.heap.size) rfl ew20 b_1
        have a_20 := a_1.on hb20
        have b_20 := b_1.on hb20
        have c_20 := c_1.on hb20
        have d_20 := d_1.on hb20
        have D_20 := D_1.on hb20
        have S20 : (fun W => Below W0.heap.size W0 W) w20 := stepB S1 hb20
        refine hK.out _ _ S20 (fun h20 => ?_)
        clear h1 hK K ew20
        try simp only [Act.put, List.setIfInBounds_toArray, List.set_cons_zero, List.set_cons_succ]
        refine wpAnyH_ready (rs := [3]) (by kernel_rfl) (by simp) ?_
        refine AllReadyH.cons (o := ⟨some 8, _, _, _, _, _⟩) rfl (fun K hK => ?_) AllReadyH.nil
        go_simp
        refine (union_any D_20 (L := R) (by simp) (by omega) (by simp)).mono ?_
        rintro e w21 ⟨pA, pn, pc, rfl, p_21, _, hb21⟩
        have a_21 := a_20.on hb21
        have b_21 := b_20.on hb21
        have c_21 := c_20.on hb21
        have d_21 := d_20.on hb21
        have D_21 := D_20.on hb21
        have E_21 := E_20.on hb21
        have S21 : (fun W => Below W0.heap.size W0 W) w21 := stepB S20 hb21
        refine hK.out _ _ S21 (fun h21 => ?_)
        clear h20 hK K
        try simp only [Act.put, List.setIfInBounds_toArray, List.set_cons_zero, List.set_cons_succ]
        refine wpAnyH_ready (rs := [7]) (by kernel_rfl) (by simp) ?_
        refine AllReadyH.cons (o := ⟨some 12, _, _, _, _, _⟩) rfl (fun K hK => ?_) AllReadyH.nil
        go_simp
        refine (union_any E_21 (L := Q) (by simp) (by omega) (by simp)).mono ?_
        rintro e w22 ⟨qA, qn, qc, rfl, q_22, _, hb22⟩
        have a_22 := a_21.on hb22
        have b_22 := b_21.on hb22
        have c_22 := c_21.on hb22
        have d_22 := d_21.on hb22
        have D_22 := D_21.on hb22
        have E_22 := E_21.on hb22
        have p_22 := p_21.on hb22
        have S22 : (fun W => Below W0.heap.size W0 W) w22 := stepB S21 hb22
        refine hK.out _ _ S22 (fun h22 => ?_)
        clear h21 hK K
        try simp only [Act.put, List.setIfInBounds_toArray, List.set_cons_zero, List.set_cons_succ]
        refine wpAnyH_ready (rs := [8]) (by kernel_rfl) (by simp) ?_
        refine AllReadyH.cons (o := ⟨some 13, _, _, _, _, _⟩) rfl (fun K hK => ?_) AllReadyH.nil
        go_simp
        refine (equal_any2 p_22 q_22 (by omega) (by omega) HT1.out).mono ?_
        rintro e w23 ⟨rfl, hb23⟩
        have a_23 := a_22.on hb23
        have b_23 := b_22.on hb23
        have c_23 := c_22.on hb23
        have d_23 := d_22.on hb23
        have D_23 := D_22.on hb23
        have E_23 := E_22.on hb23
        have p_23 := p_22.on hb23
        have q_23 := q_22.on hb23
        have S23 : (fun W => Below W0.heap.size W0 W) w23 := stepB S22 hb23
        refine hK.out _ _ S23 (fun h23 => ?_)
        clear h22 hK K
        try simp only [Act.put, List.setIfInBounds_toArray, List.set_cons_zero, List.set_cons_succ]
        refine wpAnyH_take (i := 9) (oi := ⟨some 14, _, _, _, _, _⟩) (v := ?_) rfl (by kernel_rfl) (by kernel_rfl) (by kernel_rfl) (fun _ _ _ h => h) (Or.inl ⟨by rfl, ?_⟩) (by assumption) ?_
        rotate_left 1
        · (intro W hSw; go_simp <;> with_reducible rfl)
        try simp only [Act.put, List.setIfInBounds_toArray, List.set_cons_zero, List.set_cons_succ]
        refine wpAnyH_take (i := 10) (oi := ⟨some 15, _, _, _, _, _⟩) (v := ?_) rfl (by kernel_rfl) (by kernel_rfl) (by kernel_rfl) (fun _ _ _ h => h) (Or.inl ⟨by rfl, ?_⟩) (by assumption) ?_
        rotate_left 1
        · (intro W hSw; go_simp <;> with_reducible rfl)
        try simp only [Act.put, List.setIfInBounds_toArray, List.set_cons_zero, List.set_cons_succ]
        refine wpAnyH_take (i := 11) (oi := ⟨some 16, _, _, _, _, _⟩) (v := ?_) rfl (by kernel_rfl) (by kernel_rfl) (by kernel_rfl) (fun _ _ _ h => h) (Or.inl ⟨by rfl, ?_⟩) (by assumption) ?_
        rotate_left 1
        · (intro W hSw; obtain ⟨f0, f1, f2, f3⟩ := tS W hSw; go_simp <;> with_reducible rfl)
        try simp only [Act.put, List.setIfInBounds_toArray, List.set_cons_zero, List.set_cons_succ]
        refine wpAnyH_take (i := 14) (oi := ⟨some 19, _, _, _, _, _⟩) (v := ?_) rfl (by kernel_rfl) (by kernel_rfl) (by kernel_rfl) (fun _ _ _ h => h) (Or.inl ⟨by rfl, ?_⟩) (by assumption) ?_
        rotate_left 1
        · (intro W hSw; go_simp <;> with_reducible rfl)
        try simp only [Act.put, List.setIfInBounds_toArray, List.set_cons_zero, List.set_cons_succ]
        refine wpAnyH_take (i := 15) (oi := ⟨some 20, _, _, _, _, _⟩) (v := ?_) rfl (by kernel_rfl) (by kernel_rfl) (by kernel_rfl) (fun _ _ _ h => h) (Or.inl ⟨by rfl, ?_⟩) (by assumption) ?_
        rotate_left 1
        · (intro W hSw; obtain ⟨f0, f1, f2, f3⟩ := tS W hSw; go_simp <;> with_reducible rfl)
        try simp only [Act.put, List.setIfInBounds_toArray, List.set_cons_zero, List.set_cons_succ]
        refine wpAnyH_ready (rs := [12, 16]) (by kernel_rfl) (by simp) ?_
        refine AllReadyH.cons (o := ⟨some 17, _, _, _, _, _⟩) rfl (fun K hK => ?_) (AllReadyH.cons (o := ⟨some 21, _, _, _, _, _⟩) rfl (fun K hK => ?_) AllReadyH.nil)
        · go_simp
          obtain ⟨w24, ew24⟩ : ∃ zz, zz = w23.alloc (.cells #[.slice xA xn xc] 22) := ⟨_, rfl⟩
          have hb24 : Below w23.heap.size w23 w24 := by rw [ew24]; exact (Below.refl _ _).alloc (Nat.le_refl _) _
          rw [← ew24]
          have F_24 := head_one (g := w23.heap.size) rfl ew24 c_23
          have a_24 := a_23.on hb24
          have b_24 := b_23.on hb24
          have c_24 := c_23.on hb24
          have d_24 := d_23.on hb24
          have D_24 := D_23.on hb24
          have E_24 := E_23.on hb24
          have p_24 := p_23.on hb24
          have q_24 := q_23.on hb24
          have S24 : (fun W => Below W0.heap.size W0 W) w24 := stepB S23 hb24
          refine hK.out _ _ S24 (fun h24 => ?_)
          clear h23 hK K ew24
          try simp only [Act.put, List.setIfInBounds_toArray, List.set_cons_zero, List.set_cons_succ]
          refine wpAnyH_ready (rs := [13, 16]) (by kernel_rfl) (by simp) ?_
          refine AllReadyH.cons (o := ⟨some 18, _, _, _, _, _⟩) rfl (fun K hK => ?_) (AllReadyH.cons (o := ⟨some 21, _, _, _, _, _⟩) rfl (fun K hK => ?_) AllReadyH.nil)
          · go_simp
            refine (union_any F_24 (L := X) (by simp) (by omega) (by simp)).mono ?_
            rintro e w25 ⟨sA, sn, sc, rfl, s_25, _, hb25⟩
            have a_25 := a_24.on hb25
            have b_25 := b_24.on hb25
            have c_25 := c_24.on hb25
            have d_25 := d_24.on hb25
            have D_25 := D_24.on hb25
            have E_25 := E_24.on hb25
            have p_25 := p_24.on hb25
            have q_25 := q_24.on hb25
            have F_25 := F_24.on hb25
            have S25 : (fun W => Below W0.heap.size W0 W) w25 := stepB S24 hb25
            refine hK.out _ _ S25 (fun h25 => ?_)
            clear h24 hK K
            try simp only [Act.put, List.setIfInBounds_toArray, List.set_cons_zero, List.set_cons_succ]
            refine wpAnyH_ready (rs := [16]) (by kernel_rfl) (by simp) ?_
            refine AllReadyH.cons (o := ⟨some 21, _, _, _, _, _⟩) rfl (fun K hK => ?_) AllReadyH.nil
            go_simp
            obtain ⟨w26, ew26⟩ : ∃ zz, zz = w25.alloc (.cells #[.slice xB xm xd] 22) := ⟨_, rfl⟩
            have hb26 : Below w25.heap.size w25 w26 := by rw [ew26]; exact (Below.refl _ _).alloc (Nat.le_refl _) _
            rw [← ew26]
            have G_26 := head_one (g := w25.heap.size) rfl ew26 d_25
            have a_26 := a_25.on hb26
            have b_26 := b_25.on hb26
            have c_26 := c_25.on hb26
            have d_26 := d_25.on hb26
            have D_26 := D_25.on hb26
            have E_26 := E_25.on hb26
            have p_26 := p_25.on hb26
            have q_26 := q_25.on hb26
            have F_26 := F_25.on hb26
            have s_26 := s_25.on hb26
            have S26 : (fun W => Below W0.heap.size W0 W) w26 := stepB S25 hb26
            refine hK.out _ _ S26 (fun h26 => ?_)
            clear h25 hK K ew26
            try simp only [Act.put, List.setIfInBounds_toArray, List.set_cons_zero, List.set_cons_succ]
            refine wpAnyH_ready (rs := [17]) (by kernel_rfl) (by simp) ?_
            refine AllReadyH.cons (o := ⟨some 22, _, _, _, _, _⟩) rfl (fun K hK => ?_) AllReadyH.nil
            go_simp
            refine (union_any G_26 (L := Y) (by simp) (by omega) (by simp)).mono ?_
            rintro e w27 ⟨tA, tn, tc, rfl, t_27, _, hb27⟩
            have a_27 := a_26.on hb27
            have b_27 := b_26.on hb27
            have c_27 := c_26.on hb27
            have d_27 := d_26.on hb27
            have D_27 := D_26.on hb27
            have E_27 := E_26.on hb27
            have p_27 := p_26.on hb27
            have q_27 := q_26.on hb27
            have F_27 := F_26.on hb27
            have s_27 := s_26.on hb27
            have G_27 := G_26.on hb27
            have S27 : (fun W => Below W0.heap.size W0 W) w27 := stepB S26 hb27
            refine hK.out _ _ S27 (fun h27 => ?_)
            clear h26 hK K
            try simp only [Act.put, List.setIfInBounds_toArray, List.set_cons_zero, List.set_cons_succ]
            refine wpAnyH_ready (rs := [18]) (by kernel_rfl) (by simp) ?_
            refine AllReadyH.cons (o := ⟨some 23, _, _, _, _, _⟩) rfl (fun K hK => ?_) AllReadyH.nil
            go_simp
            refine (equal_any2 s_27 t_27 (by omega) (by omega) HT2.out).mono ?_
            rintro e w28 ⟨rfl, hb28⟩
            have a_28 := a_27.on hb28
            have b_28 := b_27.on hb28
            have c_28 := c_27.on hb28
            have d_28 := d_27.on hb28
            have D_28 := D_27.on hb28
            have E_28 := E_27.on hb28
            have p_28 := p_27.on hb28
            have q_28 := q_27.on hb28
            have F_28 := F_27.on hb28
            have s_28 := s_27.on hb28
            have G_28 := G_27.on hb28
            have t_28 := t_27.on hb28
            have S28 : (fun W => Below W0.heap.size W0 W) w28 := stepB S27 hb28
            refine hK.out _ _ S28 (fun h28 => ?_)
            clear h27 hK K
            try simp only [Act.put, List.setIfInBounds_toArray, List.set_cons_zero, List.set_cons_succ]
            refine wpAnyH_take (i := 19) (oi := ⟨some 24, _, _, _, _, _⟩) (v := ?_) rfl (by kernel_rfl) (by kernel_rfl) (by kernel_rfl) (fun _ _ _ h => h) (Or.inl ⟨by rfl, ?_⟩) (by assumption) ?_
            rotate_left 1
            · (intro W hSw; go_simp <;> with_reducible rfl)
            try simp only [Act.put, List.setIfInBounds_toArray, List.set_cons_zero, List.set_cons_succ]
            refine wpAnyH_take (i := 20) (oi := ⟨some 4, _, _, _, _, _⟩) (v := ?_) rfl (by kernel_rfl) (by kernel_rfl) (by kernel_rfl) (fun _ _ _ h => h) (Or.inl ⟨by rfl, ?_⟩) (by assumption) ?_
            rotate_left 1
            · (intro W hSw; go_simp <;> with_reducible rfl)
            try simp only [Act.put, List.setIfInBounds_toArray, List.set_cons_zero, List.set_cons_succ]
            refine wpAnyH_done (by kernel_rfl) ?_ _
            refine NoPanic.normal ?_
            have HZ := Lib.hid (stepB hb0 S28)
            go_wp2
            go_ret
            exact ⟨by simp, HZ.out⟩
          · go_simp
            obtain ⟨w29, ew29⟩ : ∃ zz, zz = w24.alloc (.cells #[.slice xB xm xd] 22) := ⟨_, rfl⟩
            have hb29 : Below w24.heap.size w24 w29 := by rw [ew29]; exact (Below.refl _ _).alloc (Nat.le_refl _) _
            rw [← ew29]
            have G_29 := head_one (g := w24.heap.size) rfl ew29 d_24
            have a_29 := a_24.on hb29
            have b_29 := b_24.on hb29
            have c_29 := c_24.on hb29
            have d_29 := d_24.on hb29
            have D_29 := D_24.on hb29
            have E_29 := E_24.on hb29
            have p_29 := p_24.on hb29
            have q_29 := q_24.on hb29
            have F_29 := F_24.on hb29
            have S29 : (fun W => Below W0.heap.size W0 W) w29 := stepB S24 hb29
            refine hK.out _ _ S29 (fun h29 => ?_)
            clear h24 hK K ew29
            try simp only [Act.put, List.setIfInBounds_toArray, List.set_cons_zero, List.set_cons_succ]
            refine wpAnyH_ready (rs := [13]) (by kernel_rfl) (by simp) ?_
            refine AllReadyH.cons (o := ⟨some 18, _, _, _, _, _⟩) rfl (fun K hK => ?_) AllReadyH.nil
            go_simp
            refine (union_any F_29 (L := X) (by simp) (by omega) (by simp)).mono ?_
            rintro e w30 ⟨sA, sn, sc, rfl, s_30, _, hb30⟩
            have a_30 := a_29.on hb30
            have b_30 := b_29.on hb30
            have c_30 := c_29.on hb30
            have d_30 := d_29.on hb30
            have D_30 := D_29.on hb30
            have E_30 := E_29.on hb30
            have p_30 := p_29.on hb30
            have q_30 := q_29.on hb30
            have F_30 := F_29.on hb30
            have G_30 := G_29.on hb30
            have S30 : (fun W => Below W0.heap.size W0 W) w30 := stepB S29 hb30
            refine hK.out _ _ S30 (fun h30 => ?_)
            clear h29 hK K
            try simp only [Act.put, List.setIfInBounds_toArray, List.set_cons_zero, List.set_cons_succ]
            refine wpAnyH_ready (rs := [17]) (by kernel_rfl) (by simp) ?_
            refine AllReadyH.cons (o := ⟨some 22, _, _, _, _, _⟩) rfl (fun K hK => ?_) AllReadyH.nil
            go_simp
            refine (union_any G_30 (L := Y) (by simp) (by omega) (by simp)).mono ?_
            rintro e w31 ⟨tA, tn, tc, rfl, t_31, _, hb31⟩
            have a_31 := a_30.on hb31
            have b_31 := b_30.on hb31
            have c_31 := c_30.on hb31
            have d_31 := d_30.on hb31
            have D_31 := D_30.on hb31
            have E_31 := E_30.on hb31
            have p_31 := p_30.on hb31
            have q_31 := q_30.on hb31
            have F_31 := F_30.on hb31
            have G_31 := G_30.on hb31
            have s_31 := s_30.on hb31
            have S31 : (fun W => Below W0.heap.size W0 W) w31 := stepB S30 hb31
            refine hK.out _ _ S31 (fun h31 => ?_)
            clear h30 hK K
            try simp only [Act.put, List.setIfInBounds_toArray, List.set_cons_zero, List.set_cons_succ]
            refine wpAnyH_ready (rs := [18]) (by kernel_rfl) (by simp) ?_
            refine AllReadyH.cons (o := ⟨some 23, _, _, _, _, _⟩) rfl (fun K hK => ?_) AllReadyH.nil
            go_simp
            refine (equal_any2 s_31 t_31 (by omega) (by omega) HT2.out).mono ?_
            rintro e w32 ⟨rfl, hb32⟩
            have a_32 := a_31.on hb32
            have b_32 := b_31.on hb32
            have c_32 := c_31.on hb32
            have d_32 := d_31.on hb32
            have D_32 := D_31.on hb32
            have E_32 := E_31.on hb32
            have p_32 := p_31.on hb32
            have q_32 := q_31.on hb32
            have F_32 := F_31.on hb32
            have G_32 := G_31.on hb32
            have s_32 := s_31.on hb32
            have t_32 := t_31.on hb32
            have S32 : (fun W => Below W0.heap.size W0 W) w32 := stepB S31 hb32
            refine hK.out _ _ S32 (fun h32 => ?_)
            clear h31 hK K
            try simp only [Act.put, List.setIfInBounds_toArray, List.set_cons_zero, List.set_cons_succ]
            refine wpAnyH_take (i := 19) (oi := ⟨some 24, _, _, _, _, _⟩) (v := ?_) rfl (by kernel_rfl) (by kernel_rfl) (by kernel_rfl) (fun _ _ _ h => h) (Or.inl ⟨by rfl, ?_⟩) (by assumption) ?_
            rotate_left 1
            · (intro W hSw; go_simp <;> with_reducible rfl)
            try simp only [Act.put, List.setIfInBounds_toArray, List.set_cons_zero, List.set_cons_succ]
            refine wpAnyH_take (i := 20) (oi := ⟨some 4, _, _, _, _, _⟩) (v := ?_) rfl (by kernel_rfl) (by kernel_rfl) (by kernel_rfl) (fun _ _ _ h => h) (Or.inl ⟨by rfl, ?_⟩) (by assumption) ?_
            rotate_left 1
            · (intro W hSw; go_simp <;> with_reducible rfl)
            try simp only [Act.put, List.setIfInBounds_toArray, List.set_cons_zero, List.set_cons_succ]
            refine wpAnyH_done (by kernel_rfl) ?_ _
            refine NoPanic.normal ?_
            have HZ := Lib.hid (stepB hb0 S32)
            go_wp2
            go_ret
            exact ⟨by simp, HZ.out⟩
        · go_simp
          obtain ⟨w33, ew33⟩ : ∃ zz, zz = w23.alloc (.cells #[.slice xB xm xd] 22) := ⟨_, rfl⟩
          have hb33 : Below w23.heap.size w23 w33 := by rw [ew33]; exact (Below.refl _ _).alloc (Nat.le_refl _) _
          rw [← ew33]
          have G_33 := head_one (g := w23.heap.size) rfl ew33 d_23
          have a_33 := a_23.on hb33
          have b_33 := b_23.on hb33
          have c_33 := c_23.on hb33
          have d_33 := d_23.on hb33
          have D_33 := D_23.on hb33
          have E_33 := E_23.on hb33
          have p_33 := p_23.on hb33
          have q_33 := q_23.on hb33
          have S33 : (fun W => Below W0.heap.size W0 W) w33 := stepB S23 hb33
          refine hK.out _ _ S33 (fun h33 => ?_)
          clear h23 hK K ew33
          try simp only [Act.put, List.setIfInBounds_toArray, List.set_cons_zero, List.set_cons_succ]
          refine wpAnyH_ready (rs := [12]) (by kernel_rfl) (by simp) ?_
          refine AllReadyH.cons (o := ⟨some 17, _, _, _, _, _⟩) rfl (fun K hK => ?_) AllReadyH.nil
          go_simp
          obtain ⟨w34, ew34⟩ : ∃ zz, zz = w33.alloc (.cells #[.slice xA xn xc] 22) := ⟨_, rfl⟩
          have hb34 : Below w33.heap.size w33 w34 := by rw [ew34]; exact (Below.refl _ _).alloc (Nat.le_refl _) _
          rw [← ew34]
          have F_34 := head_one (g := w33.heap.size) rfl ew34 c_33
          have a_34 := a_33.on hb34
          have b_34 := b_33.on hb34
          have c_34 := c_33.on hb34
          have d_34 := d_33.on hb34
          have D_34 := D_33.on hb34
          have E_34 := E_33.on hb34
          have p_34 := p_33.on hb34
          have q_34 := q_33.on hb34
          have G_34 := G_33.on hb34
          have S34 : (fun W => Below W0.heap.size W0 W) w34 := stepB S33 hb34
          refine hK.out _ _ S34 (fun h34 => ?_)
          clear h33 hK K ew34
          try simp only [Act.put, List.setIfInBounds_toArray, List.set_cons_zero, List.set_cons_succ]
          refine wpAnyH_ready (rs := [13]) (by kernel_rfl) (by simp) ?_
          refine AllReadyH.cons (o := ⟨some 18, _, _, _, _, _⟩) rfl (fun K hK => ?_) AllReadyH.nil
          go_simp
          refine (union_any F_34 (L := X) (by simp) (by omega) (by simp)).mono ?_
          rintro e w35 ⟨sA, sn, sc, rfl, s_35, _, hb35⟩
          have a_35 := a_34.on hb35
          have b_35 := b_34.on hb35
          have c_35 := c_34.on hb35
          have d_35 := d_34.on hb35
          have D_35 := D_34.on hb35
          have E_35 := E_34.on hb35
          have p_35 := p_34.on hb35
          have q_35 := q_34.on hb35
          have G_35 := G_34.on hb35
          have F_35 := F_34.on hb35
          have S35 : (fun W => Below W0.heap.size W0 W) w35 := stepB S34 hb35
          refine hK.out _ _ S35 (fun h35 => ?_)
          clear h34 hK K
          try simp only [Act.put, List.setIfInBounds_toArray, List.set_cons_zero, List.set_cons_succ]
          refine wpAnyH_ready (rs := [17]) (by kernel_rfl) (by simp) ?_
          refine AllReadyH.cons (o := ⟨some 22, _, _, _, _, _⟩) rfl (fun K hK => ?_) AllReadyH.nil
          go_simp
          refine (union_any G_35 (L := Y) (by simp) (by omega) (by simp)).mono ?_
          rintro e w36 ⟨tA, tn, tc, rfl, t_36, _, hb36⟩
          have a_36 := a_35.on hb36
          have b_36 := b_35.on hb36
          have c_36 := c_35.on hb36
          have d_36 := d_35.on hb36
          have D_36 := D_35.on hb36
          have E_36 := E_35.on hb36
          have p_36 := p_35.on hb36
          have q_36 := q_35.on hb36
          have G_36 := G_35.on hb36
          have F_36 := F_35.on hb36
          have s_36 := s_35.on hb36
          have S36 : (fun W => Below W0.heap.size W0 W) w36 := stepB S35 hb36
          refine hK.out _ _ S36 (fun h36 => ?_)
          clear h35 hK K
          try simp only [Act.put, List.setIfInBounds_toArray, List.set_cons_zero, List.set_cons_succ]
          refine wpAnyH_ready (rs := [18]) (by kernel_rfl) (by simp) ?_
          refine AllReadyH.cons (o := ⟨some 23, _, _, _, _, _⟩) rfl (fun K hK => ?_) AllReadyH.nil
          go_simp
          refine (equal_any2 s_36 t_36 (by omega) (by omega) HT2.out).mono ?_
          rintro e w37 ⟨rfl, hb37⟩
          have a_37 := a_36.on hb37
          have b_37 := b_36.on hb37
          have c_37 := c_36.on hb37
          have d_37 := d_36.on hb37
          have D_37 := D_36.on hb37
          have E_37 := E_36.on hb37
          have p_37 := p_36.on hb37
          have q_37 := q_36.on hb37
          have G_37 := G_36.on hb37
          have F_37 := F_36.on hb37
          have s_37 := s_36.on hb37
          have t_37 := t_36.on hb37
          have S37 : (fun W => Below W0.heap.size W0 W) w37 := stepB S36 hb37
          refine hK.out _ _ S37 (fun h37 => ?_)
          clear h36 hK K
          try simp only [Act.put, List.setIfInBounds_toArray, List.set_cons_zero, List.set_cons_succ]
          refine wpAnyH_take (i := 19) (oi := ⟨some 24, _, _, _, _, _⟩) (v := ?_) rfl (by kernel_rfl) (by kernel_rfl) (by kernel_rfl) (fun _ _ _ h => h) (Or.inl ⟨by rfl, ?_⟩) (by assumption) ?_
          rotate_left 1
          · (intro W hSw; go_simp <;> with_reducible rfl)
          try simp only [Act.put, List.setIfInBounds_toArray, List.set_cons_zero, List.set_cons_succ]
          refine wpAnyH_take (i := 20) (oi := ⟨some 4, _, _, _, _, _⟩) (v := ?_) rfl (by kernel_rfl) (by kernel_rfl) (by kernel_rfl) (fun _ _ _ h => h) (Or.inl ⟨by rfl, ?_⟩) (by assumption) ?_
          rotate_left 1
          · (intro W hSw; go_simp <;> with_reducible rfl)
          try simp only [Act.put, List.setIfInBounds_toArray, List.set_cons_zero, List.set_cons_succ]
          refine wpAnyH_done (by kernel_rfl) ?_ _
          refine NoPanic.normal ?_
          have HZ := Lib.hid (stepB hb0 S37)
          go_wp2
          go_ret
          exact ⟨by simp, HZ.out⟩
    · go_simp
      obtain ⟨w38, ew38⟩ : ∃ zz, zz = wd.alloc (.cells #[.slice rB rm rd] 22) := ⟨_, rfl⟩
      have hb38 : Below wd.heap.size wd w38 := by rw [ew38]; exact (Below.refl _ _).alloc (Nat.le_refl _) _
      rw [← ew38]
      have E_38 := head_one (g := wd.heap.size) rfl ew38 hr1
      have a_38 := hr0.on hb38
      have b_38 := hr1.on hb38
      have c_38 := hx0.on hb38
      have d_38 := hx1.on hb38
      have S38 : (fun W => Below W0.heap.size W0 W) w38 := stepB k0 hb38
      refine hK.out _ _ S38 (fun h38 => ?_)
      clear hHeld hK K ew38
      try simp only [Act.put, List.setIfInBounds_toArray, List.set_cons_zero, List.set_cons_succ]
      refine wpAnyH_ready (rs := [2]) (by kernel_rfl) (by simp) ?_
      refine AllReadyH.cons (o := ⟨some 7, _, _, _, _, _⟩) rfl (fun K hK => ?_) AllReadyH.nil
      go_simp
      obtain ⟨w39, ew39⟩ : ∃ zz, zz = w38.alloc (.cells #[.slice rA rn rc] 22) := ⟨_, rfl⟩
      have hb39 : Below w38.heap.size w38 w39 := by rw [ew39]; exact (Below.refl _ _).alloc (Nat.le_refl _) _
      rw [← ew39]
      have D_39 := head_one (g := w38.heap.size) rfl ew39 a_38
      have a_39 := a_38.on hb39
      have b_39 := b_38.on hb39
      have c_39 := c_38.on hb39
      have d_39 := d_38.on hb39
      have E_39 := E_38.on hb39
      have S39 : (fun W => Below W0.heap.size W0 W) w39 := stepB S38 hb39
      refine hK.out _ _ S39 (fun h39 => ?_)
      clear h38 hK K ew39
      try simp only [Act.put, List.setIfInBounds_toArray, List.set_cons_zero, List.set_cons_succ]
      refine wpAnyH_ready (rs := [3]) (by kernel_rfl) (by simp) ?_
      refine AllReadyH.cons (o := ⟨some 8, _, _, _, _, _⟩) rfl (fun K hK => ?_) AllReadyH.nil
      go_simp
      refine (union_any D_39 (L := R) (by simp) (by omega) (by simp)).mono ?_
      rintro e w40 ⟨pA, pn, pc, rfl, p_40, _, hb40⟩
      have a_40 := a_39.on hb40
      have b_40 := b_39.on hb40
      have c_40 := c_39.on hb40
      have d_40 := d_39.on hb40
      have E_40 := E_39.on hb40
      have D_40 := D_39.on hb40
      have S40 : (fun W => Below W0.heap.size W0 W) w40 := stepB S39 hb40
      refine hK.out _ _ S40 (fun h40 => ?_)
      clear h39 hK K
      try simp only [Act.put, List.setIfInBounds_toArray, List.set_cons_zero, List.set_cons_succ]
      refine wpAnyH_ready (rs := [7]) (by kernel_rfl) (by simp) ?_
      refine AllReadyH.cons (o := ⟨some 12, _, _, _, _, _⟩) rfl (fun K hK => ?_) AllReadyH.nil
      go_simp
      refine (union_any E_40 (L := Q) (by simp) (by omega) (by simp)).mono ?_
      rintro e w41 ⟨qA, qn, qc, rfl, q_41, _, hb41⟩
      have a_41 := a_40.on hb41
      have b_41 := b_40.on hb41
      have c_41 := c_40.on hb41
      have d_41 := d_40.on hb41
      have E_41 := E_40.on hb41
      have D_41 := D_40.on hb41
      have p_41 := p_40.on hb41
      have S41 : (fun W => Below W0.heap.size W0 W) w41 := stepB S40 hb41
      refine hK.out _ _ S41 (fun h41 => ?_)
      clear h40 hK K
      try simp only [Act.put, List.setIfInBounds_toArray, List.set_cons_zero, List.set_cons_succ]
      refine wpAnyH_ready (rs := [8]) (by kernel_rfl) (by simp) ?_
      refine AllReadyH.cons (o := ⟨some 13, _, _, _, _, _⟩) rfl (fun K hK => ?_) AllReadyH.nil
      go_simp
      refine (equal_any2 p_41 q_41 (by omega) (by omega) HT1.out).mono ?_
      rintro e w42 ⟨rfl, hb42⟩
      have a_42 := a_41.on hb42
      have b_42 := b_41.on hb42
      have c_42 := c_41.on hb42
      have d_42 := d_41.on hb42
      have E_42 := E_41.on hb42
      have D_42 := D_41.on hb42
      have p_42 := p_41.on hb42
      have q_42 := q_41.on hb42
      have S42 : (fun W => Below W0.heap.size W0 W) w42 := stepB S41 hb42
      refine hK.out _ _ S42 (fun h42 => ?_)
      clear h41 hK K
      try simp only [Act.put, List.setIfInBounds_toArray, List.set_cons_zero, List.set_cons_succ]
      refine wpAnyH_take (i := 9) (oi := ⟨some 14, _, _, _, _, _⟩) (v := ?_) rfl (by kernel_rfl) (by kernel_rfl) (by kernel_rfl) (fun _ _ _ h => h) (Or.inl ⟨by rfl, ?_⟩) (by assumption) ?_
      rotate_left 1
      · (intro W hSw; go_simp <;> with_reducible rfl)
      try simp only [Act.put, List.setIfInBounds_toArray, List.set_cons_zero, List.set_cons_succ]
      refine wpAnyH_take (i := 10) (oi := ⟨some 15, _, _, _, _, _⟩) (v := ?_) rfl (by kernel_rfl) (by kernel_rfl) (by kernel_rfl) (fun _ _ _ h => h) (Or.inl ⟨by rfl, ?_⟩) (by assumption) ?_
      rotate_left 1
      · (intro W hSw; go_simp <;> with_reducible rfl)
      try simp only [Act.put, List.setIfInBounds_toArray, List.set_cons_zero, List.set_cons_succ]
      refine wpAnyH_take (i := 11) (oi := ⟨some 16, _, _, _, _, _⟩) (v := ?_) rfl (by kernel_rfl) (by kernel_rfl) (by kernel_rfl) (fun _ _ _ h => h) (Or.inl ⟨by rfl, ?_⟩) (by assumption) ?_
      rotate_left 1
      · (intro W hSw; obtain ⟨f0, f1, f2, f3⟩ := tS W hSw; go_simp <;> with_reducible rfl)
      try simp only [Act.put, List.setIfInBounds_toArray, List.set_cons_zero, List.set_cons_succ]
      refine wpAnyH_take (i := 14) (oi := ⟨some 19, _, _, _, _, _⟩) (v := ?_) rfl (by kernel_rfl) (by kernel_rfl) (by kernel_rfl) (fun _ _ _ h => h) (Or.inl ⟨by rfl, ?_⟩) (by assumption) ?_
      rotate_left 1
      · (intro W hSw; go_simp <;> with_reducible rfl)
      try simp only [Act.put, List.setIfInBounds_toArray, List.set_cons_zero, List.set_cons_succ]
      refine wpAnyH_take (i := 15) (oi := ⟨some 20, _, _, _, _, _⟩) (v := ?_) rfl (by kernel_rfl) (by kernel_rfl) (by kernel_rfl) (fun _ _ _ h => h) (Or.inl ⟨by rfl, ?_⟩) (by assumption) ?_
      rotate_left 1
      · (intro W hSw; obtain ⟨f0, f1, f2, f3⟩ := tS W hSw; go_simp <;> with_reducible rfl)
      try simp only [Act.put, List.setIfInBounds_toArray, List.set_cons_zero, List.set_cons_succ]
      refine wpAnyH_ready (rs := [12, 16]) (by kernel_rfl) (by simp) ?_
      refine AllReadyH.cons (o := ⟨some 17, _, _, _, _, _⟩) rfl (fun K hK => ?_) (AllReadyH.cons (o := ⟨some 21, _, _, _, _, _⟩) rfl (fun K hK => ?_) AllReadyH.nil)
      · go_simp
        obtain ⟨w43, ew43⟩ : ∃ zz, zz = w42.alloc (.cells #[.slice xA xn xc] 22) := ⟨_, rfl⟩
        have hb43 : Below w42.heap.size w42 w43 := by rw [ew43]; exact (Below.refl _ _).alloc (Nat.le_refl _) _
        rw [← ew43]
        have F_43 := head_one (g := w42.heap.size) rfl ew43 c_42
        have a_43 := a_42.on hb43
        have b_43 := b_42.on hb43
        have c_43 := c_42.on hb43
        have d_43 := d_42.on hb43
        have E_43 := E_42.on hb43
        have D_43 := D_42.on hb43
        have p_43 := p_42.on hb43
        have q_43 := q_42.on hb43
        have S43 : (fun W => Below W0.heap.size W0 W) w43 := stepB S42 hb43
        refine hK.out _ _ S43 (fun h43 => ?_)
        clear h42 hK K ew43
        try simp only [Act.put, List.setIfInBounds_toArray, List.set_cons_zero, List.set_cons_succ]
        refine wpAnyH_ready (rs := [13, 16]) (by kernel_rfl) (by simp) ?_
        refine AllReadyH.cons (o := ⟨some 18, _, _, _, _, _⟩) rfl (fun K hK => ?_) (AllReadyH.cons (o := ⟨some 21, _, _, _, _, _⟩) rfl (fun K hK => ?_) AllReadyH.nil)
        · go_simp
          refine (union_any F_43 (L := X) (by simp) (by omega) (by simp)).mono ?_
          rintro e w44 ⟨sA, sn, sc, rfl, s_44, _, hb44⟩
          have a_44 := a_43.on hb44
          have b_44 := b_43.on hb44
          have c_44 := c_43.on hb44
          have d_44 := d_43.on hb44
          have E_44 := E_43.on hb44
          have D_44 := D_43.on hb44
          have p_44 := p_43.on hb44
          have q_44 := q_43.on hb44
          have F_44 := F_43.on hb44
          have S44 : (fun W => Below W0.heap.size W0 W) w44 := stepB S43 hb44
          refine hK.out _ _ S44 (fun h44 => ?_)
          clear h43 hK K
          try simp only [Act.put, List.setIfInBounds_toArray, List.set_cons_zero, List.set_cons_succ]
          refine wpAnyH_ready (rs := [16]) (by kernel_rfl) (by simp) ?_
          refine AllReadyH.cons (o := ⟨some 21, _, _, _, _, _⟩) rfl (fun K hK => ?_) AllReadyH.nil
          go_simp
          obtain ⟨w45, ew45⟩ : ∃ zz, zz = w44.alloc (.cells #[.slice xB xm xd] 22) := ⟨_, rfl⟩
          have hb45 : Below w44.heap.size w44 w45 := by rw [ew45]; exact (Below.refl _ _).alloc (Nat.le_refl _) _
          rw [← ew45]
          have G_45 := head_one (g := w44.heap.size) rfl ew45 d_44
          have a_45 := a_44.on hb45
          have b_45 := b_44.on hb45
          have c_45 := c_44.on hb45
          have d_45 := d_44.on hb45
          have E_45 := E_44.on hb45
          have D_45 := D_44.on hb45
          have p_45 := p_44.on hb45
          have q_45 := q_44.on hb45
          have F_45 := F_44.on hb45
          have s_45 := s_44.on hb45
          have S45 : (fun W => Below W0.heap.size W0 W) w45 := stepB S44 hb45
          refine hK.out _ _ S45 (fun h45 => ?_)
          clear h44 hK K ew45
          try simp only [Act.put, List.setIfInBounds_toArray, List.set_cons_zero, List.set_cons_succ]
          refine wpAnyH_ready (rs := [17]) (by kernel_rfl) (by simp) ?_
          refine AllReadyH.cons (o := ⟨some 22, _, _, _, _, _⟩) rfl (fun K hK => ?_) AllReadyH.nil
          go_simp
          refine (union_any G_45 (L := Y) (by simp) (by omega) (by simp)).mono ?_
          rintro e w46 ⟨tA, tn, tc, rfl, t_46, _, hb46⟩
          have a_46 := a_45.on hb46
          have b_46 := b_45.on hb46
          have c_46 := c_45.on hb46
          have d_46 := d_45.on hb46
          have E_46 := E_45.on hb46
          have D_46 := D_45.on hb46
          have p_46 := p_45.on hb46
          have q_46 := q_45.on hb46
          have F_46 := F_45.on hb46
          have s_46 := s_45.on hb46
          have G_46 := G_45.on hb46
          have S46 : (fun W => Below W0.heap.size W0 W) w46 := stepB S45 hb46
          refine hK.out _ _ S46 (fun h46 => ?_)
          clear h45 hK K
          try simp only [Act.put, List.setIfInBounds_toArray, List.set_cons_zero, List.set_cons_succ]
          refine wpAnyH_ready (rs := [18]) (by kernel_rfl) (by simp) ?_
          refine AllReadyH.cons (o := ⟨some 23, _, _, _, _, _⟩) rfl (fun K hK => ?_) AllReadyH.nil
          go_simp
          refine (equal_any2 s_46 t_46 (by omega) (by omega) HT2.out).mono ?_
          rintro e w47 ⟨rfl, hb47⟩
          have a_47 := a_46.on hb47
          have b_47 := b_46.on hb47
          have c_47 := c_46.on hb47
          have d_47 := d_46.on hb47
          have E_47 := E_46.on hb47
          have D_47 := D_46.on hb47
          have p_47 := p_46.on hb47
          have q_47 := q_46.on hb47
          have F_47 := F_46.on hb47
          have s_47 := s_46.on hb47
          have G_47 := G_46.on hb47
          have t_47 := t_46.on hb47
          have S47 : (fun W => Below W0.heap.size W0 W) w47 := stepB S46 hb47
          refine hK.out _ _ S47 (fun h47 => ?_)
          clear h46 hK K
          try simp only [Act.put, List.setIfInBounds_toArray, List.set_cons_zero, List.set_cons_succ]
          refine wpAnyH_take (i := 19) (oi := ⟨some 24, _, _, _, _, _⟩) (v := ?_) rfl (by kernel_rfl) (by kernel_rfl) (by kernel_rfl) (fun _ _ _ h => h) (Or.inl ⟨by rfl, ?_⟩) (by assumption) ?_
          rotate_left 1
          · (intro W hSw; go_simp <;> with_reducible rfl)
          try simp only [Act.put, List.setIfInBounds_toArray, List.set_cons_zero, List.set_cons_succ]
          refine wpAnyH_take (i := 20) (oi := ⟨some 4, _, _, _, _, _⟩) (v := ?_) rfl (by kernel_rfl) (by kernel_rfl) (by kernel_rfl) (fun _ _ _ h => h) (Or.inl ⟨by rfl, ?_⟩) (by assumption) ?_
          rotate_left 1
          · (intro W hSw; go_simp <;> with_reducible rfl)
          try simp only [Act.put, List.setIfInBounds_toArray, List.set_cons_zero, List.set_cons_succ]
          refine wpAnyH_done (by kernel_rfl) ?_ _
          refine NoPanic.normal ?_
          have HZ := Lib.hid (stepB hb0 S47)
          go_wp2
          go_ret
          exact ⟨by simp, HZ.out⟩
        · go_simp
          obtain ⟨w48, ew48⟩ : ∃ zz, zz = w43.alloc (.cells #[.slice xB xm xd] 22) := ⟨_, rfl⟩
          have hb48 : Below w43.heap.size w43 w48 := by rw [ew48]; exact (Below.refl _ _).alloc (Nat.le_refl _) _
          rw [← ew48]
          have G_48 := head_one (g := w43.heap.size) rfl ew48 d_43
          have a_48 := a_43.on hb48
          have b_48 := b_43.on hb48
          have c_48 := c_43.on hb48
          have d_48 := d_43.on hb48
          have E_48 := E_43.on hb48
          have D_48 := D_43.on hb48
          have p_48 := p_43.on hb48
          have q_48 := q_43.on hb48
          have F_48 := F_43.on hb48
          have S48 : (fun W => Below W0.heap.size W0 W) w48 := stepB S43 hb48
          refine hK.out _ _ S48 (fun h48 => ?_)
          clear h43 hK K ew48
          try simp only [Act.put, List.setIfInBounds_toArray, List.set_cons_zero, List.set_cons_succ]
          refine wpAnyH_ready (rs := [13]) (by kernel_rfl) (by simp) ?_
          refine AllReadyH.cons (o := ⟨some 18, _, _, _, _, _⟩) rfl (fun K hK => ?_) AllReadyH.nil
          go_simp
          refine (union_any F_48 (L := X) (by simp) (by omega) (by simp)).mono ?_
          rintro e w49 ⟨sA, sn, sc, rfl, s_49, _, hb49⟩
          have a_49 := a_48.on hb49
          have b_49 := b_48.on hb49
          have c_49 := c_48.on hb49
          have d_49 := d_48.on hb49
          have E_49 := E_48.on hb49
          have D_49 := D_48.on hb49
          have p_49 := p_48.on hb49
          have q_49 := q_48.on hb49
          have F_49 := F_48.on hb49
          have G_49 := G_48.on hb49
          have S49 : (fun W => Below W0.heap.size W0 W) w49 := stepB S48 hb49
          refine hK.out _ _ S49 (fun h49 => ?_)
          clear h48 hK K
          try simp only [Act.put, List.setIfInBounds_toArray, List.set_cons_zero, List.set_cons_succ]
          refine wpAnyH_ready (rs := [17]) (by kernel_rfl) (by simp) ?_
          refine AllReadyH.cons (o := ⟨some 22, _, _, _, _, _⟩) rfl (fun K hK => ?_) AllReadyH.nil
          go_simp
          refine (union_any G_49 (L := Y) (by simp) (by omega) (by simp)).mono ?_
          rintro e w50 ⟨tA, tn, tc, rfl, t_50, _, hb50⟩
          have a_50 := a_49.on hb50
          have b_50 := b_49.on hb50
          have c_50 := c_49.on hb50
          have d_50 := d_49.on hb50
          have E_50 := E_49.on hb50
          have D_50 := D_49.on hb50
          have p_50 := p_49.on hb50
          have q_50 := q_49.on hb50
          have F_50 := F_49.on hb50
          have G_50 := G_49.on hb50
          have s_50 := s_49.on hb50
          have S50 : (fun W => Below W0.heap.size W0 W) w50 := stepB S49 hb50
          refine hK.out _ _ S50 (fun h50 => ?_)
          clear h49 hK K
          try simp only [Act.put, List.setIfInBounds_toArray, List.set_cons_zero, List.set_cons_succ]
          refine wpAnyH_ready (rs := [18]) (by kernel_rfl) (by simp) ?_
          refine AllReadyH.cons (o := ⟨some 23, _, _, _, _, _⟩) rfl (fun K hK => ?_) AllReadyH.nil
          go_simp
          refine (equal_any2 s_50 t_50 (by omega) (by omega) HT2.out).mono ?_
          rintro e w51 ⟨rfl, hb51⟩
          have a_51 := a_50.on hb51
          have b_51 := b_50.on hb51
          have c_51 := c_50.on hb51
          have d_51 := d_50.on hb51
          have E_51 := E_50.on hb51
          have D_51 := D_50.on hb51
          have p_51 := p_50.on hb51
          have q_51 := q_50.on hb51
          have F_51 := F_50.on hb51
          have G_51 := G_50.on hb51
          have s_51 := s_50.on hb51
          have t_51 := t_50.on hb51
          have S51 : (fun W => Below W0.heap.size W0 W) w51 := stepB S50 hb51
          refine hK.out _ _ S51 (fun h51 => ?_)
          clear h50 hK K
          try simp only [Act.put, List.setIfInBounds_toArray, List.set_cons_zero, List.set_cons_succ]
          refine wpAnyH_take (i := 19) (oi := ⟨some 24, _, _, _, _, _⟩) (v := ?_) rfl (by kernel_rfl) (by kernel_rfl) (by kernel_rfl) (fun _ _ _ h => h) (Or.inl ⟨by rfl, ?_⟩) (by assumption) ?_
          rotate_left 1
          · (intro W hSw; go_simp <;> with_reducible rfl)
          try simp only [Act.put, List.setIfInBounds_toArray, List.set_cons_zero, List.set_cons_succ]
          refine wpAnyH_take (i := 20) (oi := ⟨some 4, _, _, _, _, _⟩) (v := ?_) rfl (by kernel_rfl) (by kernel_rfl) (by kernel_rfl) (fun _ _ _ h => h) (Or.inl ⟨by rfl, ?_⟩) (by assumption) ?_
          rotate_left 1
          · (intro W hSw; go_simp <;> with_reducible rfl)
          try simp only [Act.put, List.setIfInBounds_toArray, List.set_cons_zero, List.set_cons_succ]
          refine wpAnyH_done (by kernel_rfl) ?_ _
          refine NoPanic.normal ?_
          have HZ := Lib.hid (stepB hb0 S51)
          go_wp2
          go_ret
          exact ⟨by simp, HZ.out⟩
      · go_simp
        obtain ⟨w52, ew52⟩ : ∃ zz, zz = w42.alloc (.cells #[.slice xB xm xd] 22) := ⟨_, rfl⟩
        have hb52 : Below w42.heap.size w42 w52 := by rw [ew52]; exact (Below.refl _ _).alloc (Nat.le_refl _) _
        rw [← ew52]
        have G_52 := head_one (g := w42.heap.size) rfl ew52 d_42
        have a_52 := a_42.on hb52
        have b_52 := b_42.on hb52
        have c_52 := c_42.on hb52
        have d_52 := d_42.on hb52
        have E_52 := E_42.on hb52
        have D_52 := D_42.on hb52
        have p_52 := p_42.on hb52
        have q_52 := q_42.on hb52
        have S52 : (fun W => Below W0.heap.size W0 W) w52 := stepB S42 hb52
        refine hK.out _ _ S52 (fun h52 => ?_)
        clear h42 hK K ew52
        try simp only [Act.put, List.setIfInBounds_toArray, List.set_cons_zero, List.set_cons_succ]
        refine wpAnyH_ready (rs := [12]) (by kernel_rfl) (by simp) ?_
        refine AllReadyH.cons (o := ⟨some 17, _, _, _, _, _⟩) rfl (fun K hK => ?_) AllReadyH.nil
        go_simp
        obtain ⟨w53, ew53⟩ : ∃ zz, zz = w52.alloc (.cells #[.slice xA xn xc] 22) := ⟨_, rfl⟩
        have hb53 : Below w52.heap.size w52 w53 := by rw [ew53]; exact (Below.refl _ _).alloc (Nat.le_refl _) _
        rw [← ew53]
        have F_53 := head_one (g := w52.heap.size) rfl ew53 c_52
        have a_53 := a_52.on hb53
        have b_53 := b_52.on hb53
        have c_53 := c_52.on hb53
        have d_53 := d_52.on hb53
        have E_53 := E_52.on hb53
        have D_53 := D_52.on hb53
        have p_53 := p_52.on hb53
        have q_53 := q_52.on hb53
        have G_53 := G_52.on hb53
        have S53 : (fun W => Below W0.heap.size W0 W) w53 := stepB S52 hb53
        refine hK.out _ _ S53 (fun h53 => ?_)
        clear h52 hK K ew53
        try simp only [Act.put, List.setIfInBounds_toArray, List.set_cons_zero, List.set_cons_succ]
        refine wpAnyH_ready (rs := [13]) (by kernel_rfl) (by simp) ?_
        refine AllReadyH.cons (o := ⟨some 18, _, _, _, _, _⟩) rfl (fun K hK => ?_) AllReadyH.nil
        go_simp
        refine (union_any F_53 (L := X) (by simp) (by omega) (by simp)).mono ?_
        rintro e w54 ⟨sA, sn, sc, rfl, s_54, _, hb54⟩
        have a_54 := a_53.on hb54
        have b_54 := b_53.on hb54
        have c_54 := c_53.on hb54
        have d_54 := d_53.on hb54
        have E_54 := E_53.on hb54
        have D_54 := D_53.on hb54
        have p_54 := p_53.on hb54
        have q_54 := q_53.on hb54
        have G_54 := G_53.on hb54
        have F_54 := F_53.on hb54
        have S54 : (fun W => Below W0.heap.size W0 W) w54 := stepB S53 hb54
        refine hK.out _ _ S54 (fun h54 => ?_)
        clear h53 hK K
        try simp only [Act.put, List.setIfInBounds_toArray, List.set_cons_zero, List.set_cons_succ]
        refine wpAnyH_ready (rs := [17]) (by kernel_rfl) (by simp) ?_
        refine AllReadyH.cons (o := ⟨some 22, _, _, _, _, _⟩) rfl (fun K hK => ?_) AllReadyH.nil
        go_simp
        refine (union_any G_54 (L := Y) (by simp) (by omega) (by simp)).mono ?_
        rintro e w55 ⟨tA, tn, tc, rfl, t_55, _, hb55⟩
        have a_55 := a_54.on hb55
        have b_55 := b_54.on hb55
        have c_55 := c_54.on hb55
        have d_55 := d_54.on hb55
        have E_55 := E_54.on hb55
        have D_55 := D_54.on hb55
        have p_55 := p_54.on hb55
        have q_55 := q_54.on hb55
        have G_55 := G_54.on hb55
        have F_55 := F_54.on hb55
        have s_55 := s_54.on hb55
        have S55 : (fun W => Below W0.heap.size W0 W) w55 := stepB S54 hb55
        refine hK.out _ _ S55 (fun h55 => ?_)
        clear h54 hK K
        try simp only [Act.put, List.setIfInBounds_toArray, List.set_cons_zero, List.set_cons_succ]
        refine wpAnyH_ready (rs := [18]) (by kernel_rfl) (by simp) ?_
        refine AllReadyH.cons (o := ⟨some 23, _, _, _, _, _⟩) rfl (fun K hK => ?_) AllReadyH.nil
        go_simp
        refine (equal_any2 s_55 t_55 (by omega) (by omega) HT2.out).mono ?_
        rintro e w56 ⟨rfl, hb56⟩
        have a_56 := a_55.on hb56
        have b_56 := b_55.on hb56
        have c_56 := c_55.on hb56
        have d_56 := d_55.on hb56
        have E_56 := E_55.on hb56
        have D_56 := D_55.on hb56
        have p_56 := p_55.on hb56
        have q_56 := q_55.on hb56
        have G_56 := G_55.on hb56
        have F_56 := F_55.on hb56
        have s_56 := s_55.on hb56
        have t_56 := t_55.on hb56
        have S56 : (fun W => Below W0.heap.size W0 W) w56 := stepB S55 hb56
        refine hK.out _ _ S56 (fun h56 => ?_)
        clear h55 hK K
        try simp only [Act.put, List.setIfInBounds_toArray, List.set_cons_zero, List.set_cons_succ]
        refine wpAnyH_take (i := 19) (oi := ⟨some 24, _, _, _, _, _⟩) (v := ?_) rfl (by kernel_rfl) (by kernel_rfl) (by kernel_rfl) (fun _ _ _ h => h) (Or.inl ⟨by rfl, ?_⟩) (by assumption) ?_
        rotate_left 1
        · (intro W hSw; go_simp <;> with_reducible rfl)
        try simp only [Act.put, List.setIfInBounds_toArray, List.set_cons_zero, List.set_cons_succ]
        refine wpAnyH_take (i := 20) (oi := ⟨some 4, _, _, _, _, _⟩) (v := ?_) rfl (by kernel_rfl) (by kernel_rfl) (by kernel_rfl) (fun _ _ _ h => h) (Or.inl ⟨by rfl, ?_⟩) (by assumption) ?_
        rotate_left 1
        · (intro W hSw; go_simp <;> with_reducible rfl)
        try simp only [Act.put, List.setIfInBounds_toArray, List.set_cons_zero, List.set_cons_succ]
        refine wpAnyH_done (by kernel_rfl) ?_ _
        refine NoPanic.normal ?_
        have HZ := Lib.hid (stepB hb0 S56)
        go_wp2
        go_ret
        exact ⟨by simp, HZ.out⟩
end Go.Proofs.Ytmhogmhdgbdpbaa
