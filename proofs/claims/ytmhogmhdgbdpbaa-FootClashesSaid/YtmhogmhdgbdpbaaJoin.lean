/- Two feet joined. Conditions: at most 400 places a list. -/
import Derived.Test.YtmhogmhdgbdpbaaOf
namespace Go.Proofs.Ytmhogmhdgbdpbaa
open Go.ChangeShapes Go.WideShapes Go.RowKit

theorem stepB {w w1 w2 : World} (h : Below w.heap.size w w1) (hb : Below w1.heap.size w1 w2) : Below w.heap.size w w2 := h.trans (hb.mono h.size)
theorem Kept.step {S : Nat → Prop} {w w1 w2 : World} (h : Kept S w w1) (hb : Below w1.heap.size w1 w2) : Kept S w w2 := h.next (kept_below (fun _ => False) hb) (fun _ e => e.elim)
theorem head_one {w W : World} {g : Nat} {A : Option Addr} {n cap : Nat} {l : List Pl} (eg : w.heap.size = g) (eW : W = w.alloc (.cells #[.slice A n cap] 22)) (h : SeesP w ⟨A, n, cap⟩ l) : Head W g [(⟨A, n, cap⟩, l)] := by
  subst eg
  have hb1 : Below w.heap.size w W := by rw [eW]; exact (Below.refl _ w).alloc (Nat.le_refl _) _
  exact ⟨by rw [eW]; exact heap_alloc_new w _, fun x hx => by
    rw [List.mem_singleton] at hx
    subst hx
    exact h.on hb1⟩
theorem head_two {w W : World} {g : Nat} {A A1 : Option Addr} {n n1 cap cap1 : Nat} {l l1 : List Pl} (eg : w.heap.size = g) (eW : W = w.alloc (.cells #[.slice A n cap, .slice A1 n1 cap1] 22)) (h : SeesP w ⟨A, n, cap⟩ l) (h1 : SeesP w ⟨A1, n1, cap1⟩ l1) : Head W g [(⟨A, n, cap⟩, l), (⟨A1, n1, cap1⟩, l1)] := by
  subst eg
  have hb1 : Below w.heap.size w W := by rw [eW]; exact (Below.refl _ w).alloc (Nat.le_refl _) _
  exact ⟨by rw [eW]; exact heap_alloc_new w _, fun x hx => by
    simp only [List.mem_cons, List.not_mem_nil, or_false] at hx
    rcases hx with rfl | rfl
    · exact h.on hb1
    · exact h1.on hb1⟩
set_option maxRecDepth 100000 in
set_option maxHeartbeats 4000000 in
theorem join_any {w : World} {f f' : Ft} {R X Q Y : List Pl} (h : Foot w f R X) (h' : Foot w f' Q Y) (h1 : f.r.n ≤ 400) (h2 : f.w.n ≤ 400) (h3 : f'.r.n ≤ 400) (h4 : f'.w.n ≤ 400) :
    Calls Try.prog 11 #[.agg f.cs.toArray, .agg f'.cs.toArray] w fun e w' => ∃ j : Ft, e = .returned (.agg j.cs.toArray) ∧ Foot w' j (normP (R ++ Q)) (normP (X ++ Y)) ∧ Below w.heap.size w w' := by
  obtain ⟨⟨rA, rn, rc⟩, ⟨xA, xn, xc⟩⟩ := f
  obtain ⟨⟨rB, rm, rd⟩, ⟨xB, xm, xd⟩⟩ := f'
  obtain ⟨hr, hx⟩ := h
  obtain ⟨hr', hx'⟩ := h'
  simp only at hr hx hr' hx' h1 h2 h3 h4
  have l1 : R.length = rn := hr.len
  have l2 : X.length = xn := hx.len
  have l3 : Q.length = rm := hr'.len
  have l4 : Y.length = xm := hx'.len
  show Calls Try.prog 11 #[.agg #[.slice rA rn rc, .slice xA xn xc], .agg #[.slice rB rm rd, .slice xB xm xd]] w _
  obtain ⟨z, ez⟩ : ∃ z, z = w.heap.size := ⟨_, rfl⟩
  obtain ⟨zr, ezr⟩ : ∃ zr, zr = z + 1 + 1 := ⟨_, rfl⟩
  obtain ⟨W0, eW0⟩ : ∃ W0, W0 = ((w.alloc (.cells #[.slice rA rn rc, .slice xA xn xc] 24)).alloc (.cells #[.slice rB rm rd, .slice xB xm xd] 24)).alloc (.cells #[.slice none 0 0, .slice none 0 0] 24) := ⟨_, rfl⟩
  have hb0 : Below w.heap.size w W0 := by rw [eW0]; exact (((Below.refl _ w).alloc (Nat.le_refl _) _).alloc (by simp) _).alloc (by simp; omega) _
  have hxz : Blk W0 z 24 #[.slice rA rn rc, .slice xA xn xc] := by
    rw [eW0, ez]
    exact Blk.on (Blk.on (heap_alloc_new w _) ((Below.refl _ _).alloc (Nat.le_refl _) _)) ((Below.refl _ _).alloc (Nat.le_refl _) _)
  have hyz : Blk W0 (z + 1) 24 #[.slice rB rm rd, .slice xB xm xd] := by
    rw [eW0, ez]
    exact Blk.on (blk_new _ _ 24 _ (by simp)) ((Below.refl _ _).alloc (Nat.le_refl _) _)
  have hzz : Blk W0 zr 24 #[.slice none 0 0, .slice none 0 0] := by rw [eW0, ezr, ez]; exact blk_new _ _ 24 _ (by simp)
  have tS : ∀ W, Kept (fun k => k = zr) W0 W → W.cell? ⟨z, 0, none⟩ = some (.slice rA rn rc) ∧ W.cell? ⟨z, 1, none⟩ = some (.slice xA xn xc) ∧ W.cell? ⟨z + 1, 0, none⟩ = some (.slice rB rm rd) ∧ W.cell? ⟨z + 1, 1, none⟩ = some (.slice xB xm xd) :=
    fun W hW => ⟨(hxz.kept hW (by omega)).cell 0, (hxz.kept hW (by omega)).cell 1, (hyz.kept hW (by omega)).cell 0, (hyz.kept hW (by omega)).cell 1⟩
  have kd : Below W0.heap.size W0 W0.drew := (Below.refl _ W0).drew
  have k0 : Kept (fun k => k = zr) W0 W0.drew := kept_below _ kd
  have hr0 := (hr.on hb0).on kd
  have hr1 := (hr'.on hb0).on kd
  have hx0 := (hx.on hb0).on kd
  have hx1 := (hx'.on hb0).on kd
  have hz0 := hzz.on kd
  have hge : zr < W0.heap.size := hzz.lt
  have HX := Lib.hid (And.intro ez (And.intro ezr hb0))
  clear hr hx hr' hx' hb0 hxz hyz hzz ezr
  go_enter Try.func11, Try.ntmps11
  go_wp2_with fail
  rw [← eW0, ← ez, ← HX.out.2.1]
  clear eW0 ez
  refine wp_region_noPanic ?_
  refine wp_region_held_drew (S := (fun W => Kept (fun k => k = zr) W0 W)) (by kernel_rfl) k0 (fun hHeld => ?_)
  generalize W0.drew = wd at hHeld kd k0 hr0 hr1 hx0 hx1 hz0 ⊢
  refine wpAnyH_take (i := 0) (oi := ⟨some 5, _, _, _, _, _⟩) (v := ?_) rfl (by kernel_rfl) (by kernel_rfl) (by kernel_rfl) (fun _ _ _ h => h) (Or.inl ⟨by rfl, ?_⟩) (by assumption) ?_
  rotate_left 1
  · (intro W hSw; go_simp <;> with_reducible rfl)
  try simp only [Act.put, List.setIfInBounds_toArray, List.set_cons_zero, List.set_cons_succ]
  refine wpAnyH_take (i := 1) (oi := ⟨some 6, _, _, _, _, _⟩) (v := ?_) rfl (by kernel_rfl) (by kernel_rfl) (by kernel_rfl) (fun _ _ _ h => h) (Or.inl ⟨by rfl, ?_⟩) (by assumption) ?_
  rotate_left 1
  · (intro W hSw; obtain ⟨f0, f1, f2, f3⟩ := tS W hSw; go_simp <;> with_reducible rfl)
  try simp only [Act.put, List.setIfInBounds_toArray, List.set_cons_zero, List.set_cons_succ]
  refine wpAnyH_take (i := 2) (oi := ⟨some 7, _, _, _, _, _⟩) (v := ?_) rfl (by kernel_rfl) (by kernel_rfl) (by kernel_rfl) (fun _ _ _ h => h) (Or.inl ⟨by rfl, ?_⟩) (by assumption) ?_
  rotate_left 1
  · (intro W hSw; go_simp <;> with_reducible rfl)
  try simp only [Act.put, List.setIfInBounds_toArray, List.set_cons_zero, List.set_cons_succ]
  refine wpAnyH_take (i := 3) (oi := ⟨some 8, _, _, _, _, _⟩) (v := ?_) rfl (by kernel_rfl) (by kernel_rfl) (by kernel_rfl) (fun _ _ _ h => h) (Or.inl ⟨by rfl, ?_⟩) (by assumption) ?_
  rotate_left 1
  · (intro W hSw; obtain ⟨f0, f1, f2, f3⟩ := tS W hSw; go_simp <;> with_reducible rfl)
  try simp only [Act.put, List.setIfInBounds_toArray, List.set_cons_zero, List.set_cons_succ]
  refine wpAnyH_take (i := 6) (oi := ⟨some 11, _, _, _, _, _⟩) (v := ?_) rfl (by kernel_rfl) (by kernel_rfl) (by kernel_rfl) (fun _ _ _ h => h) (Or.inl ⟨by rfl, ?_⟩) (by assumption) ?_
  rotate_left 1
  · (intro W hSw; go_simp <;> with_reducible rfl)
  try simp only [Act.put, List.setIfInBounds_toArray, List.set_cons_zero, List.set_cons_succ]
  refine wpAnyH_take (i := 7) (oi := ⟨some 12, _, _, _, _, _⟩) (v := ?_) rfl (by kernel_rfl) (by kernel_rfl) (by kernel_rfl) (fun _ _ _ h => h) (Or.inl ⟨by rfl, ?_⟩) (by assumption) ?_
  rotate_left 1
  · (intro W hSw; obtain ⟨f0, f1, f2, f3⟩ := tS W hSw; go_simp <;> with_reducible rfl)
  try simp only [Act.put, List.setIfInBounds_toArray, List.set_cons_zero, List.set_cons_succ]
  refine wpAnyH_take (i := 8) (oi := ⟨some 13, _, _, _, _, _⟩) (v := ?_) rfl (by kernel_rfl) (by kernel_rfl) (by kernel_rfl) (fun _ _ _ h => h) (Or.inl ⟨by rfl, ?_⟩) (by assumption) ?_
  rotate_left 1
  · (intro W hSw; go_simp <;> with_reducible rfl)
  try simp only [Act.put, List.setIfInBounds_toArray, List.set_cons_zero, List.set_cons_succ]
  refine wpAnyH_take (i := 9) (oi := ⟨some 14, _, _, _, _, _⟩) (v := ?_) rfl (by kernel_rfl) (by kernel_rfl) (by kernel_rfl) (fun _ _ _ h => h) (Or.inl ⟨by rfl, ?_⟩) (by assumption) ?_
  rotate_left 1
  · (intro W hSw; obtain ⟨f0, f1, f2, f3⟩ := tS W hSw; go_simp <;> with_reducible rfl)
  try simp only [Act.put, List.setIfInBounds_toArray, List.set_cons_zero, List.set_cons_succ]
  refine wpAnyH_ready (rs := [4, 10]) (by kernel_rfl) (by simp) ?_
  refine AllReadyH.cons (o := ⟨some 9, _, _, _, _, _⟩) rfl (fun K hK => ?_) (AllReadyH.cons (o := ⟨some 15, _, _, _, _, _⟩) rfl (fun K hK => ?_) AllReadyH.nil)
  · go_simp
    obtain ⟨w1, ew1⟩ : ∃ zz, zz = wd.alloc (.cells #[.slice rA rn rc, .slice rB rm rd] 22) := ⟨_, rfl⟩
    have hb1 : Below wd.heap.size wd w1 := by rw [ew1]; exact (Below.refl _ _).alloc (Nat.le_refl _) _
    rw [← ew1]
    have D_1 := head_two (g := wd.heap.size) rfl ew1 hr0 hr1
    have a_1 := hr0.on hb1
    have b_1 := hr1.on hb1
    have c_1 := hx0.on hb1
    have d_1 := hx1.on hb1
    have z_1 := hz0.on hb1
    have S1 : (fun W => Kept (fun k => k = zr) W0 W) w1 := Kept.step k0 hb1
    refine hK.out _ _ S1 (fun h1 => ?_)
    clear hHeld hK K ew1
    try simp only [Act.put, List.setIfInBounds_toArray, List.set_cons_zero, List.set_cons_succ]
    refine wpAnyH_ready (rs := [5, 10]) (by kernel_rfl) (by simp) ?_
    refine AllReadyH.cons (o := ⟨some 10, _, _, _, _, _⟩) rfl (fun K hK => ?_) (AllReadyH.cons (o := ⟨some 15, _, _, _, _, _⟩) rfl (fun K hK => ?_) AllReadyH.nil)
    · go_simp
      refine (union_any D_1 (L := R ++ Q) (by simp) (by rw [List.length_append]; omega) (by simp)).mono ?_
      rintro e w2 ⟨uA, un, uc, rfl, u_2, ug, hb2⟩
      have uh : ∀ g, holds uA un g → W0.heap.size ≤ g := fun g hg => Nat.le_trans S1.size (ug g hg)
      have a_2 := a_1.on hb2
      have b_2 := b_1.on hb2
      have c_2 := c_1.on hb2
      have d_2 := d_1.on hb2
      have z_2 := z_1.on hb2
      have D_2 := D_1.on hb2
      have S2 : (fun W => Kept (fun k => k = zr) W0 W) w2 := Kept.step S1 hb2
      refine hK.out _ _ S2 (fun h2 => ?_)
      clear h1 hK K
      try simp only [Act.put, List.setIfInBounds_toArray, List.set_cons_zero, List.set_cons_succ]
      refine wpAnyH_ready (rs := [10]) (by kernel_rfl) (by simp) ?_
      refine AllReadyH.cons (o := ⟨some 15, _, _, _, _, _⟩) rfl (fun K hK => ?_) AllReadyH.nil
      go_simp
      obtain ⟨w3, ew3⟩ : ∃ zz, zz = w2.alloc (.cells #[.slice xA xn xc, .slice xB xm xd] 22) := ⟨_, rfl⟩
      have hb3 : Below w2.heap.size w2 w3 := by rw [ew3]; exact (Below.refl _ _).alloc (Nat.le_refl _) _
      rw [← ew3]
      have E_3 := head_two (g := w2.heap.size) rfl ew3 c_2 d_2
      have a_3 := a_2.on hb3
      have b_3 := b_2.on hb3
      have c_3 := c_2.on hb3
      have d_3 := d_2.on hb3
      have z_3 := z_2.on hb3
      have D_3 := D_2.on hb3
      have u_3 := u_2.on hb3
      have S3 : (fun W => Kept (fun k => k = zr) W0 W) w3 := Kept.step S2 hb3
      refine hK.out _ _ S3 (fun h3 => ?_)
      clear h2 hK K ew3
      try simp only [Act.put, List.setIfInBounds_toArray, List.set_cons_zero, List.set_cons_succ]
      refine wpAnyH_ready (rs := [11]) (by kernel_rfl) (by simp) ?_
      refine AllReadyH.cons (o := ⟨some 16, _, _, _, _, _⟩) rfl (fun K hK => ?_) AllReadyH.nil
      go_simp
      refine (union_any E_3 (L := X ++ Y) (by simp) (by rw [List.length_append]; omega) (by simp)).mono ?_
      rintro e w4 ⟨vA, vn, vc, rfl, v_4, vg, hb4⟩
      have vh : ∀ g, holds vA vn g → W0.heap.size ≤ g := fun g hg => Nat.le_trans S3.size (vg g hg)
      have a_4 := a_3.on hb4
      have b_4 := b_3.on hb4
      have c_4 := c_3.on hb4
      have d_4 := d_3.on hb4
      have z_4 := z_3.on hb4
      have D_4 := D_3.on hb4
      have u_4 := u_3.on hb4
      have E_4 := E_3.on hb4
      have S4 : (fun W => Kept (fun k => k = zr) W0 W) w4 := Kept.step S3 hb4
      refine hK.out _ _ S4 (fun h4 => ?_)
      clear h3 hK K
      try simp only [Act.put, List.setIfInBounds_toArray, List.set_cons_zero, List.set_cons_succ]
      refine wpAnyH_take (i := 12) (oi := ⟨some 17, _, _, _, _, _⟩) (v := ?_) rfl (by kernel_rfl) (by kernel_rfl) (by kernel_rfl) (fun _ _ _ h => h) (Or.inl ⟨by rfl, ?_⟩) (by assumption) ?_
      rotate_left 1
      · (intro W hSw; go_simp <;> with_reducible rfl)
      try simp only [Act.put, List.setIfInBounds_toArray, List.set_cons_zero, List.set_cons_succ]
      refine wpAnyH_ready (rs := [13]) (by kernel_rfl) (by simp) ?_
      refine AllReadyH.cons (o := ⟨none, _, _, _, _, _⟩) rfl (fun K hK => ?_) AllReadyH.nil
      rw [if_pos (by rfl)]
      have hz := z_4
      refine wp_store_row 24 (.tmp 4) (.tmp 17) rfl zr #[.slice uA un uc, .slice vA vn vc] rfl rfl 24 _ hz size24 rfl (by simp [Value.oneCell']) ?_
      refine hK.out _ _ (S4.next (kept_row _ zr _) (fun _ e => .inl e)) (fun h5 => ?_)
      clear h4 hK K
      try simp only [Act.put]
      refine wpAnyH_done (by kernel_rfl) ?_ _
      refine NoPanic.normal ?_
      have S9 := S4
      have hz9 := z_4
      have u9 := u_4
      have v9 := v_4
      have HZ := Lib.hid (And.intro hz9 (And.intro (Kept.next S9 (kept_row _ zr #[.slice uA un uc, .slice vA vn vc]) (fun _ e => .inl e)) (foot_row (f := ⟨⟨uA, un, uc⟩, ⟨vA, vn, vc⟩⟩) ⟨u9, v9⟩ (z := zr) #[.slice uA un uc, .slice vA vn vc] (fun g hg => by have := uh g hg; have := hge; omega) (fun g hg => by have := vh g hg; have := hge; omega))))
      clear hz9 u9 v9 S9
      go_wp2_with fail
      refine bodyPost_ret (results_cell_row (cs := #[.slice uA un uc, .slice vA vn vc]) rfl _ _ zr 24 (0, 0) _ rfl (setRow_heap _ _ _ _ _ _ HZ.out.1) Try.underlying24 rfl size24) rfl ?_
      obtain ⟨ez, ezr, hb0⟩ := HX.out
      exact ⟨⟨⟨uA, un, uc⟩, ⟨vA, vn, vc⟩⟩, rfl, HZ.out.2.2, (hb0.trans (HZ.out.2.1.under _ hb0.size (fun k e => by have e : k = zr := e; omega)))⟩
    · go_simp
      obtain ⟨w6, ew6⟩ : ∃ zz, zz = w1.alloc (.cells #[.slice xA xn xc, .slice xB xm xd] 22) := ⟨_, rfl⟩
      have hb6 : Below w1.heap.size w1 w6 := by rw [ew6]; exact (Below.refl _ _).alloc (Nat.le_refl _) _
      rw [← ew6]
      have E_6 := head_two (g := w1.heap.size) rfl ew6 c_1 d_1
      have a_6 := a_1.on hb6
      have b_6 := b_1.on hb6
      have c_6 := c_1.on hb6
      have d_6 := d_1.on hb6
      have z_6 := z_1.on hb6
      have D_6 := D_1.on hb6
      have S6 : (fun W => Kept (fun k => k = zr) W0 W) w6 := Kept.step S1 hb6
      refine hK.out _ _ S6 (fun h6 => ?_)
      clear h1 hK K ew6
      try simp only [Act.put, List.setIfInBounds_toArray, List.set_cons_zero, List.set_cons_succ]
      refine wpAnyH_ready (rs := [5]) (by kernel_rfl) (by simp) ?_
      refine AllReadyH.cons (o := ⟨some 10, _, _, _, _, _⟩) rfl (fun K hK => ?_) AllReadyH.nil
      go_simp
      refine (union_any D_6 (L := R ++ Q) (by simp) (by rw [List.length_append]; omega) (by simp)).mono ?_
      rintro e w7 ⟨uA, un, uc, rfl, u_7, ug, hb7⟩
      have uh : ∀ g, holds uA un g → W0.heap.size ≤ g := fun g hg => Nat.le_trans S6.size (ug g hg)
      have a_7 := a_6.on hb7
      have b_7 := b_6.on hb7
      have c_7 := c_6.on hb7
      have d_7 := d_6.on hb7
      have z_7 := z_6.on hb7
      have D_7 := D_6.on hb7
      have E_7 := E_6.on hb7
      have S7 : (fun W => Kept (fun k => k = zr) W0 W) w7 := Kept.step S6 hb7
      refine hK.out _ _ S7 (fun h7 => ?_)
      clear h6 hK K
      try simp only [Act.put, List.setIfInBounds_toArray, List.set_cons_zero, List.set_cons_succ]
      refine wpAnyH_ready (rs := [11]) (by kernel_rfl) (by simp) ?_
      refine AllReadyH.cons (o := ⟨some 16, _, _, _, _, _⟩) rfl (fun K hK => ?_) AllReadyH.nil
      go_simp
      refine (union_any E_7 (L := X ++ Y) (by simp) (by rw [List.length_append]; omega) (by simp)).mono ?_
      rintro e w8 ⟨vA, vn, vc, rfl, v_8, vg, hb8⟩
      have vh : ∀ g, holds vA vn g → W0.heap.size ≤ g := fun g hg => Nat.le_trans S7.size (vg g hg)
      have a_8 := a_7.on hb8
      have b_8 := b_7.on hb8
      have c_8 := c_7.on hb8
      have d_8 := d_7.on hb8
      have z_8 := z_7.on hb8
      have D_8 := D_7.on hb8
      have E_8 := E_7.on hb8
      have u_8 := u_7.on hb8
      have S8 : (fun W => Kept (fun k => k = zr) W0 W) w8 := Kept.step S7 hb8
      refine hK.out _ _ S8 (fun h8 => ?_)
      clear h7 hK K
      try simp only [Act.put, List.setIfInBounds_toArray, List.set_cons_zero, List.set_cons_succ]
      refine wpAnyH_take (i := 12) (oi := ⟨some 17, _, _, _, _, _⟩) (v := ?_) rfl (by kernel_rfl) (by kernel_rfl) (by kernel_rfl) (fun _ _ _ h => h) (Or.inl ⟨by rfl, ?_⟩) (by assumption) ?_
      rotate_left 1
      · (intro W hSw; go_simp <;> with_reducible rfl)
      try simp only [Act.put, List.setIfInBounds_toArray, List.set_cons_zero, List.set_cons_succ]
      refine wpAnyH_ready (rs := [13]) (by kernel_rfl) (by simp) ?_
      refine AllReadyH.cons (o := ⟨none, _, _, _, _, _⟩) rfl (fun K hK => ?_) AllReadyH.nil
      rw [if_pos (by rfl)]
      have hz := z_8
      refine wp_store_row 24 (.tmp 4) (.tmp 17) rfl zr #[.slice uA un uc, .slice vA vn vc] rfl rfl 24 _ hz size24 rfl (by simp [Value.oneCell']) ?_
      refine hK.out _ _ (S8.next (kept_row _ zr _) (fun _ e => .inl e)) (fun h9 => ?_)
      clear h8 hK K
      try simp only [Act.put]
      refine wpAnyH_done (by kernel_rfl) ?_ _
      refine NoPanic.normal ?_
      have S9 := S8
      have hz9 := z_8
      have u9 := u_8
      have v9 := v_8
      have HZ := Lib.hid (And.intro hz9 (And.intro (Kept.next S9 (kept_row _ zr #[.slice uA un uc, .slice vA vn vc]) (fun _ e => .inl e)) (foot_row (f := ⟨⟨uA, un, uc⟩, ⟨vA, vn, vc⟩⟩) ⟨u9, v9⟩ (z := zr) #[.slice uA un uc, .slice vA vn vc] (fun g hg => by have := uh g hg; have := hge; omega) (fun g hg => by have := vh g hg; have := hge; omega))))
      clear hz9 u9 v9 S9
      go_wp2_with fail
      refine bodyPost_ret (results_cell_row (cs := #[.slice uA un uc, .slice vA vn vc]) rfl _ _ zr 24 (0, 0) _ rfl (setRow_heap _ _ _ _ _ _ HZ.out.1) Try.underlying24 rfl size24) rfl ?_
      obtain ⟨ez, ezr, hb0⟩ := HX.out
      exact ⟨⟨⟨uA, un, uc⟩, ⟨vA, vn, vc⟩⟩, rfl, HZ.out.2.2, (hb0.trans (HZ.out.2.1.under _ hb0.size (fun k e => by have e : k = zr := e; omega)))⟩
  · go_simp
    obtain ⟨w10, ew10⟩ : ∃ zz, zz = wd.alloc (.cells #[.slice xA xn xc, .slice xB xm xd] 22) := ⟨_, rfl⟩
    have hb10 : Below wd.heap.size wd w10 := by rw [ew10]; exact (Below.refl _ _).alloc (Nat.le_refl _) _
    rw [← ew10]
    have E_10 := head_two (g := wd.heap.size) rfl ew10 hx0 hx1
    have a_10 := hr0.on hb10
    have b_10 := hr1.on hb10
    have c_10 := hx0.on hb10
    have d_10 := hx1.on hb10
    have z_10 := hz0.on hb10
    have S10 : (fun W => Kept (fun k => k = zr) W0 W) w10 := Kept.step k0 hb10
    refine hK.out _ _ S10 (fun h10 => ?_)
    clear hHeld hK K ew10
    try simp only [Act.put, List.setIfInBounds_toArray, List.set_cons_zero, List.set_cons_succ]
    refine wpAnyH_ready (rs := [4]) (by kernel_rfl) (by simp) ?_
    refine AllReadyH.cons (o := ⟨some 9, _, _, _, _, _⟩) rfl (fun K hK => ?_) AllReadyH.nil
    go_simp
    obtain ⟨w11, ew11⟩ : ∃ zz, zz = w10.alloc (.cells #[.slice rA rn rc, .slice rB rm rd] 22) := ⟨_, rfl⟩
    have hb11 : Below w10.heap.size w10 w11 := by rw [ew11]; exact (Below.refl _ _).alloc (Nat.le_refl _) _
    rw [← ew11]
    have D_11 := head_two (g := w10.heap.size) rfl ew11 a_10 b_10
    have a_11 := a_10.on hb11
    have b_11 := b_10.on hb11
    have c_11 := c_10.on hb11
    have d_11 := d_10.on hb11
    have z_11 := z_10.on hb11
    have E_11 := E_10.on hb11
    have S11 : (fun W => Kept (fun k => k = zr) W0 W) w11 := Kept.step S10 hb11
    refine hK.out _ _ S11 (fun h11 => ?_)
    clear h10 hK K ew11
    try simp only [Act.put, List.setIfInBounds_toArray, List.set_cons_zero, List.set_cons_succ]
    refine wpAnyH_ready (rs := [5]) (by kernel_rfl) (by simp) ?_
    refine AllReadyH.cons (o := ⟨some 10, _, _, _, _, _⟩) rfl (fun K hK => ?_) AllReadyH.nil
    go_simp
    refine (union_any D_11 (L := R ++ Q) (by simp) (by rw [List.length_append]; omega) (by simp)).mono ?_
    rintro e w12 ⟨uA, un, uc, rfl, u_12, ug, hb12⟩
    have uh : ∀ g, holds uA un g → W0.heap.size ≤ g := fun g hg => Nat.le_trans S11.size (ug g hg)
    have a_12 := a_11.on hb12
    have b_12 := b_11.on hb12
    have c_12 := c_11.on hb12
    have d_12 := d_11.on hb12
    have z_12 := z_11.on hb12
    have E_12 := E_11.on hb12
    have D_12 := D_11.on hb12
    have S12 : (fun W => Kept (fun k => k = zr) W0 W) w12 := Kept.step S11 hb12
    refine hK.out _ _ S12 (fun h12 => ?_)
    clear h11 hK K
    try simp only [Act.put, List.setIfInBounds_toArray, List.set_cons_zero, List.set_cons_succ]
    refine wpAnyH_ready (rs := [11]) (by kernel_rfl) (by simp) ?_
    refine AllReadyH.cons (o := ⟨some 16, _, _, _, _, _⟩) rfl (fun K hK => ?_) AllReadyH.nil
    go_simp
    refine (union_any E_12 (L := X ++ Y) (by simp) (by rw [List.length_append]; omega) (by simp)).mono ?_
    rintro e w13 ⟨vA, vn, vc, rfl, v_13, vg, hb13⟩
    have vh : ∀ g, holds vA vn g → W0.heap.size ≤ g := fun g hg => Nat.le_trans S12.size (vg g hg)
    have a_13 := a_12.on hb13
    have b_13 := b_12.on hb13
    have c_13 := c_12.on hb13
    have d_13 := d_12.on hb13
    have z_13 := z_12.on hb13
    have E_13 := E_12.on hb13
    have D_13 := D_12.on hb13
    have u_13 := u_12.on hb13
    have S13 : (fun W => Kept (fun k => k = zr) W0 W) w13 := Kept.step S12 hb13
    refine hK.out _ _ S13 (fun h13 => ?_)
    clear h12 hK K
    try simp only [Act.put, List.setIfInBounds_toArray, List.set_cons_zero, List.set_cons_succ]
    refine wpAnyH_take (i := 12) (oi := ⟨some 17, _, _, _, _, _⟩) (v := ?_) rfl (by kernel_rfl) (by kernel_rfl) (by kernel_rfl) (fun _ _ _ h => h) (Or.inl ⟨by rfl, ?_⟩) (by assumption) ?_
    rotate_left 1
    · (intro W hSw; go_simp <;> with_reducible rfl)
    try simp only [Act.put, List.setIfInBounds_toArray, List.set_cons_zero, List.set_cons_succ]
    refine wpAnyH_ready (rs := [13]) (by kernel_rfl) (by simp) ?_
    refine AllReadyH.cons (o := ⟨none, _, _, _, _, _⟩) rfl (fun K hK => ?_) AllReadyH.nil
    rw [if_pos (by rfl)]
    have hz := z_13
    refine wp_store_row 24 (.tmp 4) (.tmp 17) rfl zr #[.slice uA un uc, .slice vA vn vc] rfl rfl 24 _ hz size24 rfl (by simp [Value.oneCell']) ?_
    refine hK.out _ _ (S13.next (kept_row _ zr _) (fun _ e => .inl e)) (fun h14 => ?_)
    clear h13 hK K
    try simp only [Act.put]
    refine wpAnyH_done (by kernel_rfl) ?_ _
    refine NoPanic.normal ?_
    have S9 := S13
    have hz9 := z_13
    have u9 := u_13
    have v9 := v_13
    have HZ := Lib.hid (And.intro hz9 (And.intro (Kept.next S9 (kept_row _ zr #[.slice uA un uc, .slice vA vn vc]) (fun _ e => .inl e)) (foot_row (f := ⟨⟨uA, un, uc⟩, ⟨vA, vn, vc⟩⟩) ⟨u9, v9⟩ (z := zr) #[.slice uA un uc, .slice vA vn vc] (fun g hg => by have := uh g hg; have := hge; omega) (fun g hg => by have := vh g hg; have := hge; omega))))
    clear hz9 u9 v9 S9
    go_wp2_with fail
    refine bodyPost_ret (results_cell_row (cs := #[.slice uA un uc, .slice vA vn vc]) rfl _ _ zr 24 (0, 0) _ rfl (setRow_heap _ _ _ _ _ _ HZ.out.1) Try.underlying24 rfl size24) rfl ?_
    obtain ⟨ez, ezr, hb0⟩ := HX.out
    exact ⟨⟨⟨uA, un, uc⟩, ⟨vA, vn, vc⟩⟩, rfl, HZ.out.2.2, (hb0.trans (HZ.out.2.1.under _ hb0.size (fun k e => by have e : k = zr := e; omega)))⟩
end Go.Proofs.Ytmhogmhdgbdpbaa
