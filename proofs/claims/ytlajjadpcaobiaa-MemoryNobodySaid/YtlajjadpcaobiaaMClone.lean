/- A clone of a memory: apart from it, in whatever order its map is gone through. Conditions: at most a million Puts. -/
import Derived.Test.YtlajjadpcaobiaaClone
import Derived.Deep.DeepCutAuto
namespace Go.Proofs.Ytlajjadpcaobiaa
open Go.RowKit Go.ChangeShapes Go.WideShapes

/-- A list of the call's own. -/
structure OwR (T k B : Nat) (w : World) (A : Option Addr) (n c : Nat) (vs : List Value) : Prop where
  h : w.ownsRow B T k (.slice A n c) n vs
theorem OwR.on {T k B n c : Nat} {w w' : World} {A : Option Addr} {vs : List Value} (h : OwR T k B w A n c vs) (hb : Below w.heap.size w w') : OwR T k B w' A n c vs := ⟨ownB_below h.h hb⟩
/-- The original, and what is being made. -/
structure Cl (w W : World) (m h b : Nat) (sp sq : Sl) (p : Pg) (L : List Ch) (h2 b2 : Nat) (A1 : Option Addr) (c1 : Nat) (A2 : Option Addr) (c2 n' : Nat) (f : Pl → Option Wd) : Prop where
  old : Mem W m h b sp sq p L
  held : Blk W h2 62 #[.slice A1 sp.n c1, .map (some b2), .slice A2 sq.n c2]
  map : MP W b2 n' f
  pl : W.ownsRow w.heap.size 27 3 (.slice A1 sp.n c1) sp.n (flatP (placesM p))
  pa : W.ownsRow w.heap.size 74 6 (.slice A2 sq.n c2) sq.n (flatC (pastP L))
  below : Below w.heap.size w W
  far : w.heap.size ≤ h2 ∧ w.heap.size ≤ b2
section
variable {w W W' : World} {m h b h2 b2 c1 c2 n' r n cnt : Nat} {sp sq : Sl} {p : Pg} {L : List Ch} {A1 A2 : Option Addr} {f g' : Pl → Option Wd} {left : Pl → Bool}
theorem Cl.on (q : Cl w W m h b sp sq p L h2 b2 A1 c1 A2 c2 n' f) (hb : Below W.heap.size W W') : Cl w W' m h b sp sq p L h2 b2 A1 c1 A2 c2 n' f :=
  ⟨q.old.on hb, q.held.on hb, q.map.on hb, ownB_below q.pl hb, ownB_below q.pa hb, q.below.trans (hb.mono q.below.size), q.far⟩
theorem rg_row (hr : RG W b r n g' left cnt) {B k N cap : Nat} {T : TypeId} {A : Option Addr} {vs : List Value} (ho : W.ownsRow B T k (.slice A N cap) N vs) {x : Nat} (hx : lies A x) : x ≠ r := by
  obtain ⟨cs, hcs⟩ := own_blk (own_low ho) hx
  exact hr.not hcs
theorem Mem.rg (q : Mem W m h b sp sq p L) (hr : RG W b r n g' left cnt) {x : Nat} (hx : foot m h b sp sq x) : x ≠ r := by
  rcases hx with rfl | rfl | rfl | e | e
  · exact hr.not q.mem
  · exact hr.not q.held
  · exact hr.nomap q.map
  · exact rg_row hr q.places e
  · rcases hA : sq.A with _ | ad
    · rw [hA] at e
      cases e
    · obtain ⟨g, o, cur, rfl, _, hcu, _⟩ := q.past.own _ hA
      rw [hA] at e
      injection e with e
      subst e
      exact hr.not hcu
theorem RG.on (hr : RG W b r n g' left cnt) (hb : Below W.heap.size W W') : RG W' b r n g' left cnt := hr.grown ((kept_below (fun _ => False) hb).grown none (fun _ e => e.elim)) (by simp) (by simp)
/-- The new map written. -/
theorem Cl.turn (q : Cl w W m h b sp sq p L h2 b2 A1 c1 A2 c2 n' f) (hf : ∀ x, foot m h b sp sq x → x < w.heap.size) {k' : Nat} {f' : Pl → Option Wd} (hm : MP W' b2 k' f') (hg : W.grownBy W' (some b2)) : Cl w W' m h b sp sq p L h2 b2 A1 c1 A2 c2 k' f' := by
  have hk : Kept (fun x => some b2 = some x) W W' := kept_grown hg
  have e : ∀ x, some b2 = some x → b2 = x := fun x e => by injection e
  have hfar := q.far
  exact ⟨q.old.kept hk (fun x hx e2 => by have := hf x hx; have := e x e2; omega), q.held.kept hk (fun e2 => q.map.ne q.held (e _ e2).symm), hm,
    own_kept' q.pl hk (fun x hx e2 => by
      obtain ⟨cs, hcs⟩ := own_blk (own_low q.pl) hx
      exact q.map.ne hcs (e x e2).symm), own_kept' q.pa hk (fun x hx e2 => by
      obtain ⟨cs, hcs⟩ := own_blk (own_low q.pa) hx
      exact q.map.ne hcs (e x e2).symm), q.below.trans (hk.under _ q.below.size (fun x e2 => by have := e x e2; omega)), hfar⟩
/-- The iterator turned. -/
theorem Cl.step (q : Cl w W m h b sp sq p L h2 b2 A1 c1 A2 c2 n' f) (hr : RG W b r n g' left cnt) (hrw : w.heap.size ≤ r) (hg : W.grownBy W' (some r)) : Cl w W' m h b sp sq p L h2 b2 A1 c1 A2 c2 n' f := by
  have hk : Kept (fun x => some r = some x) W W' := kept_grown hg
  have e : ∀ x, some r = some x → r = x := fun x e => by injection e
  exact ⟨q.old.kept hk (fun x hx e2 => q.old.rg hr hx (e x e2).symm), q.held.kept hk (fun e2 => hr.not q.held (e _ e2).symm), q.map.kept hk (fun e2 => hr.nomap q.map (e _ e2).symm),
    own_kept' q.pl hk (fun x hx e2 => rg_row hr q.pl hx (e x e2).symm), own_kept' q.pa hk (fun x hx e2 => rg_row hr q.pa hx (e x e2).symm), q.below.trans (hk.under _ q.below.size (fun x e2 => by have := e x e2; omega)), q.far⟩
end
set_option maxRecDepth 100000 in
set_option maxHeartbeats 4000000 in
theorem mclone_any {w : World} {m h b : Nat} {sp sq : Sl} {p : Pg} {L : List Ch} (q : Mem w m h b sp sq p L) (hn : L.length ≤ 900000) : Calls Try.prog 13 #[.pointer (some ⟨m, 0, none⟩)] w fun e w' => ∃ m2 h2 b2 sp2 sq2, e = .returned (.pointer (some ⟨m2, 0, none⟩)) ∧ Mem w' m h b sp sq p L ∧ Mem w' m2 h2 b2 sp2 sq2 p L ∧ (∀ g, foot m2 h2 b2 sp2 sq2 g → w.heap.size ≤ g) ∧ Below w.heap.size w w' := by
  have hlen := q.len
  have hfew : sp.n ≤ 1000 := by
    have h1 := places_few p
    have h2 : (placesM p).length = sp.n := (own_seesP (A := sp.A) (cap := sp.cap) q.places).len
    omega
  have c1 := made_any q.mem
  have q0 := q
  have hmm := @run_makeMap Try.prog
  go_enter Try.func13, Try.ntmps13
  go_wp2_with fail
  refine c1.mono ?_
  rintro e w' ⟨rfl, rfl⟩
  clear c1
  have kk : Below w.heap.size w w := Below.refl _ _
  go_wp2_with fail
  go_cut [3] (fun s3 wx => ∃ h2 b2 A1 c1 A2 c2, s3 = .pointer (some ⟨h2, 0, none⟩) ∧ Cl w wx m h b sp sq p L h2 b2 A1 c1 A2 c2 0 (fun _ => none))
  case first =>
    obtain ⟨wd, ed⟩ : ∃ W, w.drew = W := ⟨_, rfl⟩
    have hd : Below w.heap.size w wd := by rw [← ed]; exact (Below.refl _ _).drew
    replace q := q.on hd
    replace kk := kk.trans (hd.mono kk.size)
    clear hd
    have kS : Kept (fun g => False) wd wd := Kept.refl _ _
    have tS : ∀ W, Kept (fun g => False) wd W → W.cell? ⟨m, 0, none⟩ = some (.pointer (some ⟨h, 0, none⟩)) ∧ W.cell? ⟨h, 0, none⟩ = some (.slice sp.A sp.n sp.cap) ∧ W.cell? ⟨h, 2, none⟩ = some (.slice sq.A sq.n sq.cap) := fun W hW => ⟨(q.mem.kept hW (fun h => h)).cell 0, (q.held.kept hW (fun h => h)).cell 0, (q.held.kept hW (fun h => h)).cell 2⟩
    refine wp_region_noPanic ?_
    refine wp_region_held_drew (S := (fun W => Kept (fun g => False) wd W)) (by kernel_rfl) (by rw [ed]; exact kS) (fun hHeld => ?_)
    rw [ed] at hHeld ⊢
    refine wpAnyH_take (i := 0) (oi := ⟨some 9, _, _, _, _, _⟩) (v := ?_) rfl (by kernel_rfl) (by kernel_rfl) (by kernel_rfl) (fun _ _ _ h => h) (Or.inl ⟨by rfl, ?_⟩) (by assumption) ?_
    rotate_left 1
    · (intro W hSw; go_simp <;> with_reducible rfl)
    try simp only [Act.put, List.setIfInBounds_toArray, List.set_cons_zero, List.set_cons_succ]
    refine wpAnyH_take (i := 1) (oi := ⟨some 10, _, _, _, _, _⟩) (v := ?_) rfl (by kernel_rfl) (by kernel_rfl) (by kernel_rfl) (fun _ _ _ h => h) (Or.inl ⟨by rfl, ?_⟩) (by assumption) ?_
    rotate_left 1
    · (intro W hSw; go_simp <;> with_reducible rfl)
    try simp only [Act.put, List.setIfInBounds_toArray, List.set_cons_zero, List.set_cons_succ]
    refine wpAnyH_take (i := 2) (oi := ⟨some 11, _, _, _, _, _⟩) (v := ?_) rfl (by kernel_rfl) (by kernel_rfl) (by kernel_rfl) (fun _ _ _ h => h) (Or.inl ⟨by rfl, ?_⟩) (by assumption) ?_
    rotate_left 1
    · (intro W hSw; go_simp <;> with_reducible rfl)
    try simp only [Act.put, List.setIfInBounds_toArray, List.set_cons_zero, List.set_cons_succ]
    refine wpAnyH_take (i := 3) (oi := ⟨some 12, _, _, _, _, _⟩) (v := ?_) rfl (by kernel_rfl) (by kernel_rfl) (by kernel_rfl) (fun _ _ _ h => h) (Or.inl ⟨by rfl, ?_⟩) (by assumption) ?_
    rotate_left 1
    · (intro W hSw; obtain ⟨q0, q1, q2⟩ := tS W hSw; go_simp <;> with_reducible rfl)
    try simp only [Act.put, List.setIfInBounds_toArray, List.set_cons_zero, List.set_cons_succ]
    refine wpAnyH_take (i := 4) (oi := ⟨some 13, _, _, _, _, _⟩) (v := ?_) rfl (by kernel_rfl) (by kernel_rfl) (by kernel_rfl) (fun _ _ _ h => h) (Or.inl ⟨by rfl, ?_⟩) (by assumption) ?_
    rotate_left 1
    · (intro W hSw; go_simp <;> with_reducible rfl)
    try simp only [Act.put, List.setIfInBounds_toArray, List.set_cons_zero, List.set_cons_succ]
    refine wpAnyH_take (i := 5) (oi := ⟨some 14, _, _, _, _, _⟩) (v := ?_) rfl (by kernel_rfl) (by kernel_rfl) (by kernel_rfl) (fun _ _ _ h => h) (Or.inl ⟨by rfl, ?_⟩) (by assumption) ?_
    rotate_left 1
    · (intro W hSw; go_simp <;> with_reducible rfl)
    try simp only [Act.put, List.setIfInBounds_toArray, List.set_cons_zero, List.set_cons_succ]
    refine wpAnyH_take (i := 6) (oi := ⟨some 15, _, _, _, _, _⟩) (v := ?_) rfl (by kernel_rfl) (by kernel_rfl) (by kernel_rfl) (fun _ _ _ h => h) (Or.inl ⟨by rfl, ?_⟩) (by assumption) ?_
    rotate_left 1
    · (intro W hSw; obtain ⟨q0, q1, q2⟩ := tS W hSw; go_simp <;> with_reducible rfl)
    try simp only [Act.put, List.setIfInBounds_toArray, List.set_cons_zero, List.set_cons_succ]
    refine wpAnyH_take (i := 9) (oi := ⟨some 18, _, _, _, _, _⟩) (v := ?_) rfl (by kernel_rfl) (by kernel_rfl) (by kernel_rfl) (fun _ _ _ h => h) (Or.inl ⟨by rfl, ?_⟩) (by assumption) ?_
    rotate_left 1
    · (intro W hSw; go_simp <;> with_reducible rfl)
    try simp only [Act.put, List.setIfInBounds_toArray, List.set_cons_zero, List.set_cons_succ]
    refine wpAnyH_take (i := 10) (oi := ⟨some 19, _, _, _, _, _⟩) (v := ?_) rfl (by kernel_rfl) (by kernel_rfl) (by kernel_rfl) (fun _ _ _ h => h) (Or.inl ⟨by rfl, ?_⟩) (by assumption) ?_
    rotate_left 1
    · (intro W hSw; go_simp <;> with_reducible rfl)
    try simp only [Act.put, List.setIfInBounds_toArray, List.set_cons_zero, List.set_cons_succ]
    refine wpAnyH_take (i := 11) (oi := ⟨some 20, _, _, _, _, _⟩) (v := ?_) rfl (by kernel_rfl) (by kernel_rfl) (by kernel_rfl) (fun _ _ _ h => h) (Or.inl ⟨by rfl, ?_⟩) (by assumption) ?_
    rotate_left 1
    · (intro W hSw; go_simp <;> with_reducible rfl)
    try simp only [Act.put, List.setIfInBounds_toArray, List.set_cons_zero, List.set_cons_succ]
    refine wpAnyH_take (i := 12) (oi := ⟨some 21, _, _, _, _, _⟩) (v := ?_) rfl (by kernel_rfl) (by kernel_rfl) (by kernel_rfl) (fun _ _ _ h => h) (Or.inl ⟨by rfl, ?_⟩) (by assumption) ?_
    rotate_left 1
    · (intro W hSw; obtain ⟨q0, q1, q2⟩ := tS W hSw; go_simp <;> with_reducible rfl)
    try simp only [Act.put, List.setIfInBounds_toArray, List.set_cons_zero, List.set_cons_succ]
    refine wpAnyH_take (i := 13) (oi := ⟨some 22, _, _, _, _, _⟩) (v := ?_) rfl (by kernel_rfl) (by kernel_rfl) (by kernel_rfl) (fun _ _ _ h => h) (Or.inl ⟨by rfl, ?_⟩) (by assumption) ?_
    rotate_left 1
    · (intro W hSw; go_simp <;> with_reducible rfl)
    try simp only [Act.put, List.setIfInBounds_toArray, List.set_cons_zero, List.set_cons_succ]
    refine wpAnyH_take (i := 14) (oi := ⟨some 23, _, _, _, _, _⟩) (v := ?_) rfl (by kernel_rfl) (by kernel_rfl) (by kernel_rfl) (fun _ _ _ h => h) (Or.inl ⟨by rfl, ?_⟩) (by assumption) ?_
    rotate_left 1
    · (intro W hSw; go_simp <;> with_reducible rfl)
    try simp only [Act.put, List.setIfInBounds_toArray, List.set_cons_zero, List.set_cons_succ]
    refine wpAnyH_take (i := 15) (oi := ⟨some 24, _, _, _, _, _⟩) (v := ?_) rfl (by kernel_rfl) (by kernel_rfl) (by kernel_rfl) (fun _ _ _ h => h) (Or.inl ⟨by rfl, ?_⟩) (by assumption) ?_
    rotate_left 1
    · (intro W hSw; obtain ⟨q0, q1, q2⟩ := tS W hSw; go_simp <;> with_reducible rfl)
    try simp only [Act.put, List.setIfInBounds_toArray, List.set_cons_zero, List.set_cons_succ]
    refine wpAnyH_ready (rs := [7, 8]) (by kernel_rfl) (by simp) ?_
    refine AllReadyH.cons (o := ⟨some 16, _, _, _, _, _⟩) rfl (fun K hK => ?_) (AllReadyH.cons (o := ⟨some 17, _, _, _, _, _⟩) rfl (fun K hK => ?_) AllReadyH.nil)
    · go_simp
      refine (sloneP_any (own_seesP (A := sp.A) (cap := sp.cap) q.places) (by omega)).mono ?_
      rintro e w1 ⟨A1, c1, rfl, o1, hb1⟩
      have r1_1 : OwR 27 3 w.heap.size w1 A1 sp.n c1 (flatP (placesM p)) := ⟨own_mono o1 kk.size⟩
      have q_1 := q.on hb1
      have kk_1 := kk.trans (hb1.mono kk.size)
      have S1 : (fun W => Kept (fun g => False) wd W) w1 := Kept.next kS (kept_below (fun _ => False) hb1) (fun _ h => h.elim)
      refine hK.out _ _ S1 (fun h1 => ?_)
      clear hHeld hK K
      try simp only [Act.put, List.setIfInBounds_toArray, List.set_cons_zero, List.set_cons_succ]
      refine wpAnyH_ready (rs := [8, 16]) (by kernel_rfl) (by simp) ?_
      refine AllReadyH.cons (o := ⟨some 17, _, _, _, _, _⟩) rfl (fun K hK => ?_) (AllReadyH.cons (o := ⟨some 25, _, _, _, _, _⟩) rfl (fun K hK => ?_) AllReadyH.nil)
      · go_simp
        obtain ⟨w2, ew2⟩ : ∃ zz, zz = w1.alloc (.map #[] 0) := ⟨_, rfl⟩
        have hb2 : Below w1.heap.size w1 w2 := by rw [ew2]; exact (Below.refl _ _).alloc (Nat.le_refl _) _
        rw [← ew2]
        have mp_2 : MP w2 w1.heap.size 0 (fun _ => none) := by rw [ew2]; exact mp_made _
        have hbf : w.heap.size ≤ w1.heap.size := kk_1.size
        obtain ⟨b2, eb2⟩ : ∃ z, w1.heap.size = z := ⟨_, rfl⟩
        rw [eb2] at mp_2 hbf ⊢
        have q_2 := q_1.on hb2
        have kk_2 := kk_1.trans (hb2.mono kk_1.size)
        have r1_2 := r1_1.on hb2
        have S2 : (fun W => Kept (fun g => False) wd W) w2 := Kept.next S1 (kept_below (fun _ => False) hb2) (fun _ h => h.elim)
        refine hK.out _ _ S2 (fun h2 => ?_)
        clear h1 hK K ew2
        try simp only [Act.put, List.setIfInBounds_toArray, List.set_cons_zero, List.set_cons_succ]
        refine wpAnyH_ready (rs := [16]) (by kernel_rfl) (by simp) ?_
        refine AllReadyH.cons (o := ⟨some 25, _, _, _, _, _⟩) rfl (fun K hK => ?_) AllReadyH.nil
        go_simp
        refine (sloneC_any q_2.past.sees (by omega)).mono ?_
        rintro e w3 ⟨A2, c2, rfl, o2, hb3⟩
        have r2_3 : OwR 74 6 w.heap.size w3 A2 sq.n c2 (flatC (pastP L)) := ⟨own_mono o2 kk_2.size⟩
        have q_3 := q_2.on hb3
        have kk_3 := kk_2.trans (hb3.mono kk_2.size)
        have r1_3 := r1_2.on hb3
        have mp_3 := mp_2.on hb3
        have S3 : (fun W => Kept (fun g => False) wd W) w3 := Kept.next S2 (kept_below (fun _ => False) hb3) (fun _ h => h.elim)
        refine hK.out _ _ S3 (fun h3 => ?_)
        clear h2 hK K
        try simp only [Act.put, List.setIfInBounds_toArray, List.set_cons_zero, List.set_cons_succ]
        refine wpAnyH_take (i := 17) (oi := ⟨some 26, _, _, _, _, _⟩) (v := ?_) rfl (by kernel_rfl) (by kernel_rfl) (by kernel_rfl) (fun _ _ _ h => h) (Or.inl ⟨by rfl, ?_⟩) (by assumption) ?_
        rotate_left 1
        · (intro W hSw; go_simp <;> with_reducible rfl)
        try simp only [Act.put, List.setIfInBounds_toArray, List.set_cons_zero, List.set_cons_succ]
        refine wpAnyH_ready (rs := [18]) (by kernel_rfl) (by simp) ?_
        refine AllReadyH.cons (o := ⟨some 27, _, _, _, _, _⟩) rfl (fun K hK => ?_) AllReadyH.nil
        go_simp
        obtain ⟨w4, ew4⟩ : ∃ zz, zz = w3.alloc (.cells #[.slice A1 sp.n c1, .map (some b2), .slice A2 sq.n c2] 62) := ⟨_, rfl⟩
        have hb4 : Below w3.heap.size w3 w4 := by rw [ew4]; exact (Below.refl _ _).alloc (Nat.le_refl _) _
        rw [← ew4]
        have hhf : w.heap.size ≤ w3.heap.size := kk_3.size
        have hh_4 : Blk w4 w3.heap.size 62 #[.slice A1 sp.n c1, .map (some b2), .slice A2 sq.n c2] := by rw [ew4]; exact blk_new _ _ 62 _ rfl
        obtain ⟨h2, eh2⟩ : ∃ z, w3.heap.size = z := ⟨_, rfl⟩
        rw [eh2] at hh_4 hhf ⊢
        have q_4 := q_3.on hb4
        have kk_4 := kk_3.trans (hb4.mono kk_3.size)
        have r1_4 := r1_3.on hb4
        have mp_4 := mp_3.on hb4
        have r2_4 := r2_3.on hb4
        have S4 : (fun W => Kept (fun g => False) wd W) w4 := Kept.next S3 (kept_below (fun _ => False) hb4) (fun _ h => h.elim)
        refine hK.out _ _ S4 (fun h4 => ?_)
        clear h3 hK K ew4
        try simp only [Act.put, List.setIfInBounds_toArray, List.set_cons_zero, List.set_cons_succ]
        refine wpAnyH_take (i := 19) (oi := ⟨some 3, _, _, _, _, _⟩) (v := ?_) rfl (by kernel_rfl) (by kernel_rfl) (by kernel_rfl) (fun _ _ _ h => h) (Or.inl ⟨by rfl, ?_⟩) (by assumption) ?_
        rotate_left 1
        · (intro W hSw; go_simp <;> with_reducible rfl)
        try simp only [Act.put, List.setIfInBounds_toArray, List.set_cons_zero, List.set_cons_succ]
        refine wpAnyH_done (by kernel_rfl) ?_ _
        refine NoPanic.normal ?_
        go_wp2_with fail
        go_meet
        have qc : Cl w w4 m h b sp sq p L h2 b2 A1 c1 A2 c2 0 (fun _ => none) := ⟨q_4, hh_4, mp_4, r1_4.h, r2_4.h, kk_4, hhf, hbf⟩
        exact ⟨h2, b2, A1, c1, A2, c2, rfl, qc⟩
      · go_simp
        refine (sloneC_any q_1.past.sees (by omega)).mono ?_
        rintro e w5 ⟨A2, c2, rfl, o2, hb5⟩
        have r2_5 : OwR 74 6 w.heap.size w5 A2 sq.n c2 (flatC (pastP L)) := ⟨own_mono o2 kk_1.size⟩
        have q_5 := q_1.on hb5
        have kk_5 := kk_1.trans (hb5.mono kk_1.size)
        have r1_5 := r1_1.on hb5
        have S5 : (fun W => Kept (fun g => False) wd W) w5 := Kept.next S1 (kept_below (fun _ => False) hb5) (fun _ h => h.elim)
        refine hK.out _ _ S5 (fun h5 => ?_)
        clear h1 hK K
        try simp only [Act.put, List.setIfInBounds_toArray, List.set_cons_zero, List.set_cons_succ]
        refine wpAnyH_ready (rs := [8]) (by kernel_rfl) (by simp) ?_
        refine AllReadyH.cons (o := ⟨some 17, _, _, _, _, _⟩) rfl (fun K hK => ?_) AllReadyH.nil
        go_simp
        obtain ⟨w6, ew6⟩ : ∃ zz, zz = w5.alloc (.map #[] 0) := ⟨_, rfl⟩
        have hb6 : Below w5.heap.size w5 w6 := by rw [ew6]; exact (Below.refl _ _).alloc (Nat.le_refl _) _
        rw [← ew6]
        have mp_6 : MP w6 w5.heap.size 0 (fun _ => none) := by rw [ew6]; exact mp_made _
        have hbf : w.heap.size ≤ w5.heap.size := kk_5.size
        obtain ⟨b2, eb2⟩ : ∃ z, w5.heap.size = z := ⟨_, rfl⟩
        rw [eb2] at mp_6 hbf ⊢
        have q_6 := q_5.on hb6
        have kk_6 := kk_5.trans (hb6.mono kk_5.size)
        have r1_6 := r1_5.on hb6
        have r2_6 := r2_5.on hb6
        have S6 : (fun W => Kept (fun g => False) wd W) w6 := Kept.next S5 (kept_below (fun _ => False) hb6) (fun _ h => h.elim)
        refine hK.out _ _ S6 (fun h6 => ?_)
        clear h5 hK K ew6
        try simp only [Act.put, List.setIfInBounds_toArray, List.set_cons_zero, List.set_cons_succ]
        refine wpAnyH_take (i := 17) (oi := ⟨some 26, _, _, _, _, _⟩) (v := ?_) rfl (by kernel_rfl) (by kernel_rfl) (by kernel_rfl) (fun _ _ _ h => h) (Or.inl ⟨by rfl, ?_⟩) (by assumption) ?_
        rotate_left 1
        · (intro W hSw; go_simp <;> with_reducible rfl)
        try simp only [Act.put, List.setIfInBounds_toArray, List.set_cons_zero, List.set_cons_succ]
        refine wpAnyH_ready (rs := [18]) (by kernel_rfl) (by simp) ?_
        refine AllReadyH.cons (o := ⟨some 27, _, _, _, _, _⟩) rfl (fun K hK => ?_) AllReadyH.nil
        go_simp
        obtain ⟨w7, ew7⟩ : ∃ zz, zz = w6.alloc (.cells #[.slice A1 sp.n c1, .map (some b2), .slice A2 sq.n c2] 62) := ⟨_, rfl⟩
        have hb7 : Below w6.heap.size w6 w7 := by rw [ew7]; exact (Below.refl _ _).alloc (Nat.le_refl _) _
        rw [← ew7]
        have hhf : w.heap.size ≤ w6.heap.size := kk_6.size
        have hh_7 : Blk w7 w6.heap.size 62 #[.slice A1 sp.n c1, .map (some b2), .slice A2 sq.n c2] := by rw [ew7]; exact blk_new _ _ 62 _ rfl
        obtain ⟨h2, eh2⟩ : ∃ z, w6.heap.size = z := ⟨_, rfl⟩
        rw [eh2] at hh_7 hhf ⊢
        have q_7 := q_6.on hb7
        have kk_7 := kk_6.trans (hb7.mono kk_6.size)
        have r1_7 := r1_6.on hb7
        have r2_7 := r2_6.on hb7
        have mp_7 := mp_6.on hb7
        have S7 : (fun W => Kept (fun g => False) wd W) w7 := Kept.next S6 (kept_below (fun _ => False) hb7) (fun _ h => h.elim)
        refine hK.out _ _ S7 (fun h7 => ?_)
        clear h6 hK K ew7
        try simp only [Act.put, List.setIfInBounds_toArray, List.set_cons_zero, List.set_cons_succ]
        refine wpAnyH_take (i := 19) (oi := ⟨some 3, _, _, _, _, _⟩) (v := ?_) rfl (by kernel_rfl) (by kernel_rfl) (by kernel_rfl) (fun _ _ _ h => h) (Or.inl ⟨by rfl, ?_⟩) (by assumption) ?_
        rotate_left 1
        · (intro W hSw; go_simp <;> with_reducible rfl)
        try simp only [Act.put, List.setIfInBounds_toArray, List.set_cons_zero, List.set_cons_succ]
        refine wpAnyH_done (by kernel_rfl) ?_ _
        refine NoPanic.normal ?_
        go_wp2_with fail
        go_meet
        have qc : Cl w w7 m h b sp sq p L h2 b2 A1 c1 A2 c2 0 (fun _ => none) := ⟨q_7, hh_7, mp_7, r1_7.h, r2_7.h, kk_7, hhf, hbf⟩
        exact ⟨h2, b2, A1, c1, A2, c2, rfl, qc⟩
    · go_simp
      obtain ⟨w8, ew8⟩ : ∃ zz, zz = wd.alloc (.map #[] 0) := ⟨_, rfl⟩
      have hb8 : Below wd.heap.size wd w8 := by rw [ew8]; exact (Below.refl _ _).alloc (Nat.le_refl _) _
      rw [← ew8]
      have mp_8 : MP w8 wd.heap.size 0 (fun _ => none) := by rw [ew8]; exact mp_made _
      have hbf : w.heap.size ≤ wd.heap.size := kk.size
      obtain ⟨b2, eb2⟩ : ∃ z, wd.heap.size = z := ⟨_, rfl⟩
      rw [eb2] at mp_8 hbf ⊢
      have q_8 := q.on hb8
      have kk_8 := kk.trans (hb8.mono kk.size)
      have S8 : (fun W => Kept (fun g => False) wd W) w8 := Kept.next kS (kept_below (fun _ => False) hb8) (fun _ h => h.elim)
      refine hK.out _ _ S8 (fun h8 => ?_)
      clear hHeld hK K ew8
      try simp only [Act.put, List.setIfInBounds_toArray, List.set_cons_zero, List.set_cons_succ]
      refine wpAnyH_ready (rs := [7]) (by kernel_rfl) (by simp) ?_
      refine AllReadyH.cons (o := ⟨some 16, _, _, _, _, _⟩) rfl (fun K hK => ?_) AllReadyH.nil
      go_simp
      refine (sloneP_any (own_seesP (A := sp.A) (cap := sp.cap) q_8.places) (by omega)).mono ?_
      rintro e w9 ⟨A1, c1, rfl, o1, hb9⟩
      have r1_9 : OwR 27 3 w.heap.size w9 A1 sp.n c1 (flatP (placesM p)) := ⟨own_mono o1 kk_8.size⟩
      have q_9 := q_8.on hb9
      have kk_9 := kk_8.trans (hb9.mono kk_8.size)
      have mp_9 := mp_8.on hb9
      have S9 : (fun W => Kept (fun g => False) wd W) w9 := Kept.next S8 (kept_below (fun _ => False) hb9) (fun _ h => h.elim)
      refine hK.out _ _ S9 (fun h9 => ?_)
      clear h8 hK K
      try simp only [Act.put, List.setIfInBounds_toArray, List.set_cons_zero, List.set_cons_succ]
      refine wpAnyH_ready (rs := [16]) (by kernel_rfl) (by simp) ?_
      refine AllReadyH.cons (o := ⟨some 25, _, _, _, _, _⟩) rfl (fun K hK => ?_) AllReadyH.nil
      go_simp
      refine (sloneC_any q_9.past.sees (by omega)).mono ?_
      rintro e w10 ⟨A2, c2, rfl, o2, hb10⟩
      have r2_10 : OwR 74 6 w.heap.size w10 A2 sq.n c2 (flatC (pastP L)) := ⟨own_mono o2 kk_9.size⟩
      have q_10 := q_9.on hb10
      have kk_10 := kk_9.trans (hb10.mono kk_9.size)
      have mp_10 := mp_9.on hb10
      have r1_10 := r1_9.on hb10
      have S10 : (fun W => Kept (fun g => False) wd W) w10 := Kept.next S9 (kept_below (fun _ => False) hb10) (fun _ h => h.elim)
      refine hK.out _ _ S10 (fun h10 => ?_)
      clear h9 hK K
      try simp only [Act.put, List.setIfInBounds_toArray, List.set_cons_zero, List.set_cons_succ]
      refine wpAnyH_take (i := 17) (oi := ⟨some 26, _, _, _, _, _⟩) (v := ?_) rfl (by kernel_rfl) (by kernel_rfl) (by kernel_rfl) (fun _ _ _ h => h) (Or.inl ⟨by rfl, ?_⟩) (by assumption) ?_
      rotate_left 1
      · (intro W hSw; go_simp <;> with_reducible rfl)
      try simp only [Act.put, List.setIfInBounds_toArray, List.set_cons_zero, List.set_cons_succ]
      refine wpAnyH_ready (rs := [18]) (by kernel_rfl) (by simp) ?_
      refine AllReadyH.cons (o := ⟨some 27, _, _, _, _, _⟩) rfl (fun K hK => ?_) AllReadyH.nil
      go_simp
      obtain ⟨w11, ew11⟩ : ∃ zz, zz = w10.alloc (.cells #[.slice A1 sp.n c1, .map (some b2), .slice A2 sq.n c2] 62) := ⟨_, rfl⟩
      have hb11 : Below w10.heap.size w10 w11 := by rw [ew11]; exact (Below.refl _ _).alloc (Nat.le_refl _) _
      rw [← ew11]
      have hhf : w.heap.size ≤ w10.heap.size := kk_10.size
      have hh_11 : Blk w11 w10.heap.size 62 #[.slice A1 sp.n c1, .map (some b2), .slice A2 sq.n c2] := by rw [ew11]; exact blk_new _ _ 62 _ rfl
      obtain ⟨h2, eh2⟩ : ∃ z, w10.heap.size = z := ⟨_, rfl⟩
      rw [eh2] at hh_11 hhf ⊢
      have q_11 := q_10.on hb11
      have kk_11 := kk_10.trans (hb11.mono kk_10.size)
      have mp_11 := mp_10.on hb11
      have r1_11 := r1_10.on hb11
      have r2_11 := r2_10.on hb11
      have S11 : (fun W => Kept (fun g => False) wd W) w11 := Kept.next S10 (kept_below (fun _ => False) hb11) (fun _ h => h.elim)
      refine hK.out _ _ S11 (fun h11 => ?_)
      clear h10 hK K ew11
      try simp only [Act.put, List.setIfInBounds_toArray, List.set_cons_zero, List.set_cons_succ]
      refine wpAnyH_take (i := 19) (oi := ⟨some 3, _, _, _, _, _⟩) (v := ?_) rfl (by kernel_rfl) (by kernel_rfl) (by kernel_rfl) (fun _ _ _ h => h) (Or.inl ⟨by rfl, ?_⟩) (by assumption) ?_
      rotate_left 1
      · (intro W hSw; go_simp <;> with_reducible rfl)
      try simp only [Act.put, List.setIfInBounds_toArray, List.set_cons_zero, List.set_cons_succ]
      refine wpAnyH_done (by kernel_rfl) ?_ _
      refine NoPanic.normal ?_
      go_wp2_with fail
      go_meet
      have qc : Cl w w11 m h b sp sq p L h2 b2 A1 c1 A2 c2 0 (fun _ => none) := ⟨q_11, hh_11, mp_11, r1_11.h, r2_11.h, kk_11, hhf, hbf⟩
      exact ⟨h2, b2, A1, c1, A2, c2, rfl, qc⟩
  case rest =>
    obtain ⟨h2, b2, A1, c1, A2, c2, rfl, qc⟩ := hcut
    clear q kk
    have qc0 := qc.below.size
    have m0 : wc.cell? ⟨m, 0, none⟩ = some (.pointer (some ⟨h, 0, none⟩)) := qc.old.mem.cell 0
    have h1 : wc.cell? ⟨h, 1, none⟩ = some (.map (some b)) := qc.old.held.cell 1
    go_wp2_with (first | (at_range; refine wpList_range_mp rfl _ rfl rfl qc.old.map ?_; intro W5 cnt hrg hg5 hs5 hcnt) | go_in)
    have hb5 : Below wc.heap.size wc W5 := (kept_grown hg5).under _ (Nat.le_refl _) (fun g e => by cases e)
    replace qc := qc.on hb5
    have hrw : w.heap.size ≤ wc.heap.size := qc0
    clear m0 h1 hg5 hb5
    generalize wc.heap.size = R at *
    go_frame
    go_loopw [36] (fun _ wr => ∃ left cnt n' f, RG wr b R 100 (memF p L) left cnt ∧ Cl w wr m h b sp sq p L h2 b2 A1 c1 A2 c2 n' f ∧ n' + cnt ≤ 100 ∧ (∀ x : Pl, x.Wide → f x = if left x = true then none else memF p L x)) (fun _ wr => wr.rangeLeft b R)
    case atStart => exact ⟨_, cnt, 0, _, hrg, qc, by omega, fun x _ => by cases hx : memF p L x <;> simp⟩
    case round =>
      clear hrg qc hcnt hs5
      obtain ⟨left, cnt1, n', f, hrg, qc, hle, hf⟩ := hrel
      go_wp2_with (first | (at_next; refine wpList_next_mp rfl _ rfl rfl hrg ?_ ?_) | go_in)
      · intro hc0 hl0
        have hff : ∀ x : Pl, x.Wide → memF p L x = f x := fun x hx => by rw [hf x hx, hl0 x hx]; rfl
        have HF := Lib.hid hff
        clear hf hl0 hff
        go_wp2
        go_ret
        have hbk : Below wr.heap.size wr (wr.alloc (.cells #[.pointer (some ⟨h2, 0, none⟩)] 46)) := (Below.refl _ wr).alloc (Nat.le_refl _) _
        have bm : Blk (wr.alloc (.cells #[.pointer (some ⟨h2, 0, none⟩)] 46)) wr.heap.size 46 #[.pointer (some ⟨h2, 0, none⟩)] := blk_new wr _ 46 _ rfl
        have hws := qc.below.size
        have hfar := qc.far
        have hl1 := fun g (e : lies A1 g) => own_new qc.pl g e
        have hl2 := fun g (e : blk A2 = some g) => own_new qc.pa g e
        replace qc := qc.on hbk
        obtain ⟨A3, c3, e3, ho3⟩ := own_of qc.pa
        injection e3 with e3 _ e4
        subst e3 e4
        refine ⟨wr.heap.size, h2, b2, ⟨A1, sp.n, c1⟩, ⟨A2, sq.n, c2⟩, rfl, qc.old, ⟨⟨bm, qc.held, (qc.map.mono (by omega)).same HF.out, own_low qc.pl, ho3.lower (Nat.zero_le _)⟩, qc.old.all⟩, fun g hg => ?_, qc.below⟩
        rcases hg with e | e | e | e | e
        · rw [e]
          exact hws
        · omega
        · omega
        · exact hl1 g e
        · exact hl2 g e
      · intro x v w1 cnt2 hxw hfx hlx hrg1 hlt hg1 hs1 hen
        have qc1 := qc.step hrg hrw hg1
        clear hs1 qc
        obtain ⟨p8, f8⟩ : ∃ p, w1.heap.size = p := ⟨_, rfl⟩
        obtain ⟨W1, ea1⟩ : ∃ W, w1.alloc (.cells #[.int .i64 0, .int .i64 0, .int .i64 0] 27) = W := ⟨_, rfl⟩
        have ka1 : Below w1.heap.size w1 W1 := by rw [← ea1]; exact (Below.refl _ w1).alloc (Nat.le_refl _) _
        have b8 : Blk W1 p8 27 #[.int .i64 0, .int .i64 0, .int .i64 0] := by rw [← ea1]; exact blk_new w1 _ 27 _ f8
        have kk : Below w1.heap.size w1 W1 := ka1
        have hp8 : w1.heap.size ≤ p8 := Nat.le_of_eq f8
        clear ka1
        obtain ⟨p9, f9⟩ : ∃ p, W1.heap.size = p := ⟨_, rfl⟩
        obtain ⟨W2, ea2⟩ : ∃ W, W1.alloc (.cells #[.int .i64 0, .int .i64 0, .int .i64 0] 35) = W := ⟨_, rfl⟩
        have ka2 : Below W1.heap.size W1 W2 := by rw [← ea2]; exact (Below.refl _ W1).alloc (Nat.le_refl _) _
        have b9 : Blk W2 p9 35 #[.int .i64 0, .int .i64 0, .int .i64 0] := by rw [← ea2]; exact blk_new W1 _ 35 _ f9
        have q8_9 : p8 < p9 := by rw [← f9]; exact b8.lt
        replace b8 := b8.on ka2
        have kk0 := kk
        replace kk := kk.trans (ka2.mono kk.size)
        have hp9 : w1.heap.size ≤ p9 := by rw [← f9]; exact kk0.size
        clear ka2 kk0
        obtain ⟨W3, es3⟩ : ∃ W, W2.setRow p8 x.cs.toArray = W := ⟨_, rfl⟩
        have bo8 := b8
        replace b9 := row_far b9 es3 (by omega)
        replace b8 : Blk W3 p8 27 x.cs.toArray := row_named b8 es3
        replace kk := kk.trans (row_below es3 hp8 kk.size)
        obtain ⟨W4, es4⟩ : ∃ W, W3.setRow p9 v.cs.toArray = W := ⟨_, rfl⟩
        have bo9 := b9
        replace b8 := row_far b8 es4 (by omega)
        replace b9 : Blk W4 p9 35 v.cs.toArray := row_named b9 es4
        replace kk := kk.trans (row_below es4 hp9 kk.size)
        go_wp2_with (first | ((with_reducible refine at_store 27 (.tmp 4) (.tmp 39) ?_); refine wpList_store_row rfl 27 (.tmp 4) (.tmp 39) rfl p8 x.cs.toArray rfl rfl 27 #[.int .i64 0, .int .i64 0, .int .i64 0] bo8 size27 rfl (Pl.onea _) ?_; rw [es3]) | ((with_reducible refine at_store 35 (.tmp 5) (.tmp 40) ?_); refine wpList_store_row rfl 35 (.tmp 5) (.tmp 40) rfl p9 v.cs.toArray rfl rfl 35 #[.int .i64 0, .int .i64 0, .int .i64 0] bo9 size35 rfl (Wd.onea _) ?_; rw [es4]))
        replace qc1 := qc1.on kk
        replace hrg1 := hrg1.on kk
        have hb8 : p8 ≠ b2 := qc1.map.ne b8
        have hb9 : p9 ≠ b2 := qc1.map.ne b9
        have hbh : h2 ≠ b2 := qc1.map.ne qc1.held
        obtain ⟨wd, ed⟩ : ∃ W, W4.drew = W := ⟨_, rfl⟩
        have hd : Below W4.heap.size W4 wd := by rw [← ed]; exact (Below.refl _ _).drew
        replace b8 := b8.on hd
        replace b9 := b9.on hd
        replace qc1 := qc1.on hd
        replace hrg1 := hrg1.on hd
        clear hd
        have kS : Kept (fun g => g = b2) wd wd := Kept.refl _ _
        have tS : ∀ W, Kept (fun g => g = b2) wd W → W.cell? ⟨h2, 1, none⟩ = some (.map (some b2)) := fun W hW => (qc1.held.kept hW hbh).cell 1
        refine wp_region_noPanic ?_
        refine wp_region_held_drew (S := (fun W => Kept (fun g => g = b2) wd W)) (by kernel_rfl) (by rw [ed]; exact kS) (fun hHeld => ?_)
        rw [ed] at hHeld ⊢
        refine wpAnyH_take (i := 0) (oi := ⟨some 41, _, _, _, _, _⟩) (v := ?_) rfl (by kernel_rfl) (by kernel_rfl) (by kernel_rfl) (fun _ _ _ h => h) (Or.inl ⟨by rfl, ?_⟩) (by assumption) ?_
        rotate_left 1
        · (intro W hSw; go_simp <;> with_reducible rfl)
        try simp only [Act.put, List.setIfInBounds_toArray, List.set_cons_zero, List.set_cons_succ]
        refine wpAnyH_take (i := 1) (oi := ⟨some 42, _, _, _, _, _⟩) (v := ?_) rfl (by kernel_rfl) (by kernel_rfl) (by kernel_rfl) (fun _ _ _ h => h) (Or.inl ⟨by rfl, ?_⟩) (by assumption) ?_
        rotate_left 1
        · (intro W hSw; go_simp <;> with_reducible rfl)
        try simp only [Act.put, List.setIfInBounds_toArray, List.set_cons_zero, List.set_cons_succ]
        refine wpAnyH_take (i := 2) (oi := ⟨some 43, _, _, _, _, _⟩) (v := ?_) rfl (by kernel_rfl) (by kernel_rfl) (by kernel_rfl) (fun _ _ _ h => h) (Or.inl ⟨by rfl, ?_⟩) (by assumption) ?_
        rotate_left 1
        · (intro W hSw; go_simp <;> with_reducible rfl)
        try simp only [Act.put, List.setIfInBounds_toArray, List.set_cons_zero, List.set_cons_succ]
        refine wpAnyH_take (i := 3) (oi := ⟨some 44, _, _, _, _, _⟩) (v := ?_) rfl (by kernel_rfl) (by kernel_rfl) (by kernel_rfl) (fun _ _ _ h => h) (Or.inl ⟨by rfl, ?_⟩) (by assumption) ?_
        rotate_left 1
        · (intro W hSw; obtain q0 := tS W hSw; go_simp <;> with_reducible rfl)
        try simp only [Act.put, List.setIfInBounds_toArray, List.set_cons_zero, List.set_cons_succ]
        refine wpAnyH_take (i := 4) (oi := ⟨some 45, _, _, _, _, _⟩) (v := .agg (List.toArray (x.cs))) rfl (by kernel_rfl) (by kernel_rfl) (by kernel_rfl) (fun _ _ _ h => h) (yieldsIf_load_mid (by rfl) 27 (.tmp 4) rfl p8 (0) rfl (x.cs) _ (fun W hW => range_part (b8.kept hW hb8) 0 x.cs rfl) Try.underlying27 rfl size27) (by assumption) ?_
        try simp only [Act.put, List.setIfInBounds_toArray, List.set_cons_zero, List.set_cons_succ]
        refine wpAnyH_take (i := 5) (oi := ⟨some 46, _, _, _, _, _⟩) (v := .agg (List.toArray (v.cs))) rfl (by kernel_rfl) (by kernel_rfl) (by kernel_rfl) (fun _ _ _ h => h) (yieldsIf_load_mid (by rfl) 35 (.tmp 5) rfl p9 (0) rfl (v.cs) _ (fun W hW => range_part (b9.kept hW hb9) 0 v.cs rfl) Try.underlying35 rfl size35) (by assumption) ?_
        try simp only [Act.put, List.setIfInBounds_toArray, List.set_cons_zero, List.set_cons_succ]
        refine wpAnyH_ready (rs := [6]) (by kernel_rfl) (by simp) ?_
        refine AllReadyH.cons (o := ⟨none, _, _, _, _, _⟩) rfl (fun K hK => ?_) AllReadyH.nil
        rw [if_pos (by rfl)]
        refine wp_enter (.tmp 44) (.tmp 45) (.tmp 46) rfl rfl rfl rfl qc1.map hxw (by unfold maxLen; omega) ?_
        intro w1 hm1 hg1 hs1
        have S1 : (fun W => Kept (fun g => g = b2) wd W) w1 := kS.next (kept_grown hg1) (fun g e => .inl (by injection e with e; exact e.symm))
        refine hK.out _ _ S1 (fun h1 => ?_)
        clear hHeld hK K
        try simp only [Act.put]
        refine wpAnyH_done (by kernel_rfl) ?_ _
        refine NoPanic.normal ?_
        have qc2 := qc1.turn (fun y hy => q0.lt hy) hm1 hg1
        have hb2 : b ≠ b2 := by have := q0.lt (g := b) (.inr (.inr (.inl rfl))); have := qc1.far; omega
        have hrg2 := hrg1.grown hg1 (fun e => hb2 (by injection e)) (fun e => hrg1.nomap qc1.map (by injection e with e; exact e.symm))
        go_wp2
        go_roundw
        case rel =>
          refine ⟨_, cnt2, n' + 1, upd f x v, hrg2, qc2, by omega, fun y hy => ?_⟩
          by_cases e : y = x
          · subst e
            rw [upd_same, if_neg (by simp), hfx]
          · rw [upd_other _ _ e, hf y hy, decide_eq_false e]
            simp
        case measure => rw [hrg2.left_eq, hrg.left_eq]; omega
end Go.Proofs.Ytlajjadpcaobiaa
