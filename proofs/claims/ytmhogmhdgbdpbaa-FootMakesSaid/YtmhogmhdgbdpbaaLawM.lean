/- The law on feet that are made and joined. Conditions: none. -/
import Derived.Deep.DeepCutAuto
import Derived.Test.YtmhogmhdgbdpbaaLit
namespace Go.Proofs.Ytmhogmhdgbdpbaa
open Go.ChangeShapes Go.WideShapes Go.RowKit

theorem sees_off {w : World} {s a b : Sl} {l : List Pl} {P : Nat} (h : SeesP w s l) (hB : Blk w P 24 #[a.v, b.v]) : ∀ g, holds s.A s.n g → g ≠ P := fun g hg e => by
  subst e
  have hl := h.len
  obtain ⟨x, hx⟩ : ∃ x, l[0]? = some x := ⟨_, List.getElem?_eq_getElem (by have := hg.1; omega)⟩
  obtain ⟨g', o, hA, hr⟩ := h.at_ hx
  have e2 : g' = g := by
    have := hg.2
    rw [hA] at this
    simpa [lies] using this
  subst e2
  have h0 := hr 0 _ rfl
  rw [hB.cell] at h0
  match o, h0 with
  | 0, h0 => simp [Sl.v] at h0
  | 1, h0 => simp [Sl.v] at h0
  | o + 2, h0 => simp at h0
theorem foot_off {w : World} {f : Ft} {R W : List Pl} {a1 a2 : Option Addr} {b1 b2 c1 c2 P : Nat} (h : Foot w f R W) (hB : Blk w P 24 #[.slice a1 b1 c1, .slice a2 b2 c2]) : (∀ g, holds f.r.A f.r.n g → g ≠ P) ∧ ∀ g, holds f.w.A f.w.n g → g ≠ P :=
  ⟨sees_off (a := ⟨a1, b1, c1⟩) (b := ⟨a2, b2, c2⟩) h.r hB, sees_off (a := ⟨a1, b1, c1⟩) (b := ⟨a2, b2, c2⟩) h.w hB⟩
set_option maxRecDepth 100000 in
set_option maxHeartbeats 16000000 in
theorem makes_any {w : World} {f f' : Ft} {R X Q Y : List Pl} (hA : Foot w f R X) (hB : Foot w f' Q Y) :
    Calls Try.prog 3 #[.agg f.cs.toArray, .agg f'.cs.toArray] w fun e w' => e = .returned (.bool true) ∧ Below w.heap.size w w' := by
  obtain ⟨gA, cA, FA, nA1, nA2⟩ := few_lit hA
  obtain ⟨gB, cB, FB, nB1, nB2⟩ := few_lit hB
  obtain ⟨⟨rA, rn, rc⟩, ⟨xA, xn, xc⟩⟩ := f
  obtain ⟨⟨pA, pn, pc⟩, ⟨qA, qn, qc⟩⟩ := gA
  simp only at nA1 nA2
  change ∀ W', Below w.heap.size w W' → Calls Try.prog 8 #[.agg #[.slice rA rn rc, .slice xA xn xc]] W' fun e w' => e = .returned (.agg #[.slice pA pn pc, .slice qA qn qc]) ∧ Below W'.heap.size W' w' at cA
  obtain ⟨⟨rB, rm, rd⟩, ⟨xB, xm, xd⟩⟩ := f'
  obtain ⟨⟨sA, sn, sc⟩, ⟨tA, tn, tc⟩⟩ := gB
  simp only at nB1 nB2
  change ∀ W', Below w.heap.size w W' → Calls Try.prog 8 #[.agg #[.slice rB rm rd, .slice xB xm xd]] W' fun e w' => e = .returned (.agg #[.slice sA sn sc, .slice tA tn tc]) ∧ Below W'.heap.size W' w' at cB
  show Calls Try.prog 3 #[.agg #[.slice rA rn rc, .slice xA xn xc], .agg #[.slice rB rm rd, .slice xB xm xd]] w _
  obtain ⟨z, ez⟩ : ∃ z, z = w.heap.size := ⟨_, rfl⟩
  obtain ⟨W0, eW0⟩ : ∃ W0, W0 = ((w.alloc (.cells #[.slice rA rn rc, .slice xA xn xc] 24)).alloc (.cells #[.slice rB rm rd, .slice xB xm xd] 24)) := ⟨_, rfl⟩
  have hb0 : Below w.heap.size w W0 := by rw [eW0]; exact (((Below.refl _ w).alloc (Nat.le_refl _) _).alloc (by simp) _)
  have bA : Blk W0 z 24 #[.slice rA rn rc, .slice xA xn xc] := by
    rw [eW0, ez]
    exact Blk.on (heap_alloc_new w _) ((Below.refl _ _).alloc (Nat.le_refl _) _)
  have bB : Blk W0 (z + 1) 24 #[.slice rB rm rd, .slice xB xm xd] := by
    rw [eW0, ez]
    exact blk_new _ _ 24 _ (by simp)
  have HF := Lib.hid (And.intro FA FB)
  have HE := Lib.hid (And.intro ez eW0)
  clear FA FB hA hB ez eW0
  go_enter Try.func3, Try.ntmps3
  go_wp2_with fail
  refine (alive_any _).mono ?_
  rw [← HE.out.2, ← HE.out.1]
  rintro e w1 ⟨rfl, hb1⟩
  have kA := bA.on hb1
  have kB := bB.on hb1
  have hB1 := stepB hb0 hb1
  clear bA bB hb0 hb1
  have k0 : Below w.heap.size w w1.drew := hB1.drew
  have hA : Blk w1.drew z 24 #[.slice rA rn rc, .slice xA xn xc] := kA
  have hB : Blk w1.drew (z + 1) 24 #[.slice rB rm rd, .slice xB xm xd] := kB
  have hzw : w.heap.size ≤ z := Nat.le_of_eq HE.out.1.symm
  clear kA kB hB1
  go_wp2_with fail
  go_cut [] (fun wx => Below w.heap.size w wx ∧ Blk wx z 24 #[.slice pA pn pc, .slice qA qn qc] ∧ Blk wx (z + 1) 24 #[.slice sA sn sc, .slice tA tn tc])
  case first =>
    refine wp_region_noPanic ?_
    refine wp_region_held_drew (S := (fun W => Below w.heap.size w W)) (by kernel_rfl) k0 (fun hHeld => ?_)
    generalize w1.drew = wd at hHeld k0 hA hB ⊢
    refine wpAnyH_ready (rs := [0, 2]) (by kernel_rfl) (by simp) ?_
    refine AllReadyH.cons (o := ⟨some 10, _, _, _, _, _⟩) rfl (fun K hK => ?_) (AllReadyH.cons (o := ⟨some 12, _, _, _, _, _⟩) rfl (fun K hK => ?_) AllReadyH.nil)
    · rw [if_pos (by rfl)]
      refine wp_load_row 24 (.tmp 2) rfl z rfl 24 #[.slice rA rn rc, .slice xA xn xc] (0, 0) _ hA Try.underlying24 rfl size24 ?_
      refine hK.out _ _ k0 (fun h1 => ?_)
      clear hHeld hK K
      try simp only [Act.put, List.setIfInBounds_toArray, List.set_cons_zero, List.set_cons_succ]
      refine wpAnyH_ready (rs := [1, 2]) (by kernel_rfl) (by simp) ?_
      refine AllReadyH.cons (o := ⟨some 11, _, _, _, _, _⟩) rfl (fun K hK => ?_) (AllReadyH.cons (o := ⟨some 12, _, _, _, _, _⟩) rfl (fun K hK => ?_) AllReadyH.nil)
      · go_simp
        refine (cA _ k0).mono ?_
        rintro e w2 ⟨rfl, hb2⟩
        have A_2 := hA.on hb2
        have B_2 := hB.on hb2
        have S2 : (fun W => Below w.heap.size w W) w2 := stepB k0 hb2
        refine hK.out _ _ S2 (fun h2 => ?_)
        clear h1 hK K
        try simp only [Act.put, List.setIfInBounds_toArray, List.set_cons_zero, List.set_cons_succ]
        refine wpAnyH_ready (rs := [2]) (by kernel_rfl) (by simp) ?_
        refine AllReadyH.cons (o := ⟨some 12, _, _, _, _, _⟩) rfl (fun K hK => ?_) AllReadyH.nil
        rw [if_pos (by rfl)]
        refine wp_load_row 24 (.tmp 3) rfl (z + 1) rfl 24 #[.slice rB rm rd, .slice xB xm xd] (0, 0) _ B_2 Try.underlying24 rfl size24 ?_
        refine hK.out _ _ S2 (fun h3 => ?_)
        clear h2 hK K
        try simp only [Act.put, List.setIfInBounds_toArray, List.set_cons_zero, List.set_cons_succ]
        refine wpAnyH_ready (rs := [3]) (by kernel_rfl) (by simp) ?_
        refine AllReadyH.cons (o := ⟨some 13, _, _, _, _, _⟩) rfl (fun K hK => ?_) AllReadyH.nil
        go_simp
        refine (cB _ S2).mono ?_
        rintro e w4 ⟨rfl, hb4⟩
        have A_4 := A_2.on hb4
        have B_4 := B_2.on hb4
        have S4 : (fun W => Below w.heap.size w W) w4 := stepB S2 hb4
        refine hK.out _ _ S4 (fun h4 => ?_)
        clear h3 hK K
        try simp only [Act.put, List.setIfInBounds_toArray, List.set_cons_zero, List.set_cons_succ]
        refine wpAnyH_ready (rs := [4]) (by kernel_rfl) (by simp) ?_
        refine AllReadyH.cons (o := ⟨none, _, _, _, _, _⟩) rfl (fun K hK => ?_) AllReadyH.nil
        rw [if_pos (by rfl)]
        refine wp_store_row 24 (.tmp 2) (.tmp 11) rfl z #[.slice pA pn pc, .slice qA qn qc] rfl rfl 24 _ A_4 size24 rfl (by simp [Value.oneCell']) ?_
        refine hK.out _ _ (below_row S4 (by omega) _) (fun h5 => ?_)
        clear h4 hK K
        have S5 : Below w.heap.size w (w4.setRow z #[.slice pA pn pc, .slice qA qn qc]) := below_row S4 (by omega) _
        have A_5 : Blk (w4.setRow z #[.slice pA pn pc, .slice qA qn qc]) z 24 #[.slice pA pn pc, .slice qA qn qc] := setRow_heap _ _ _ _ _ _ A_4
        have B_5 := (show Blk (w4.setRow z #[.slice pA pn pc, .slice qA qn qc]) ((z + 1)) 24 _ from (setRow_other _ _ _ _ (by omega)).trans B_4)
        try simp only [Act.put]
        refine wpAnyH_ready (rs := [5]) (by kernel_rfl) (by simp) ?_
        refine AllReadyH.cons (o := ⟨none, _, _, _, _, _⟩) rfl (fun K hK => ?_) AllReadyH.nil
        rw [if_pos (by rfl)]
        refine wp_store_row 24 (.tmp 3) (.tmp 13) rfl (z + 1) #[.slice sA sn sc, .slice tA tn tc] rfl rfl 24 _ B_5 size24 rfl (by simp [Value.oneCell']) ?_
        refine hK.out _ _ (below_row S5 (by omega) _) (fun h6 => ?_)
        clear h5 hK K
        have S6 : Below w.heap.size w ((w4.setRow z #[.slice pA pn pc, .slice qA qn qc]).setRow (z + 1) #[.slice sA sn sc, .slice tA tn tc]) := below_row S5 (by omega) _
        have A_6 := (show Blk ((w4.setRow z #[.slice pA pn pc, .slice qA qn qc]).setRow (z + 1) #[.slice sA sn sc, .slice tA tn tc]) (z) 24 _ from (setRow_other _ _ _ _ (by omega)).trans A_5)
        have B_6 : Blk ((w4.setRow z #[.slice pA pn pc, .slice qA qn qc]).setRow (z + 1) #[.slice sA sn sc, .slice tA tn tc]) (z + 1) 24 #[.slice sA sn sc, .slice tA tn tc] := setRow_heap _ _ _ _ _ _ B_5
        try simp only [Act.put]
        refine wpAnyH_done (by kernel_rfl) ?_ _
        refine NoPanic.normal ?_
        go_wp2_with fail
        go_meet
        exact ⟨S6, A_6, B_6⟩
      · rw [if_pos (by rfl)]
        refine wp_load_row 24 (.tmp 3) rfl (z + 1) rfl 24 #[.slice rB rm rd, .slice xB xm xd] (0, 0) _ hB Try.underlying24 rfl size24 ?_
        refine hK.out _ _ k0 (fun h7 => ?_)
        clear h1 hK K
        try simp only [Act.put, List.setIfInBounds_toArray, List.set_cons_zero, List.set_cons_succ]
        refine wpAnyH_ready (rs := [1]) (by kernel_rfl) (by simp) ?_
        refine AllReadyH.cons (o := ⟨some 11, _, _, _, _, _⟩) rfl (fun K hK => ?_) AllReadyH.nil
        go_simp
        refine (cA _ k0).mono ?_
        rintro e w8 ⟨rfl, hb8⟩
        have A_8 := hA.on hb8
        have B_8 := hB.on hb8
        have S8 : (fun W => Below w.heap.size w W) w8 := stepB k0 hb8
        refine hK.out _ _ S8 (fun h8 => ?_)
        clear h7 hK K
        try simp only [Act.put, List.setIfInBounds_toArray, List.set_cons_zero, List.set_cons_succ]
        refine wpAnyH_ready (rs := [3]) (by kernel_rfl) (by simp) ?_
        refine AllReadyH.cons (o := ⟨some 13, _, _, _, _, _⟩) rfl (fun K hK => ?_) AllReadyH.nil
        go_simp
        refine (cB _ S8).mono ?_
        rintro e w9 ⟨rfl, hb9⟩
        have A_9 := A_8.on hb9
        have B_9 := B_8.on hb9
        have S9 : (fun W => Below w.heap.size w W) w9 := stepB S8 hb9
        refine hK.out _ _ S9 (fun h9 => ?_)
        clear h8 hK K
        try simp only [Act.put, List.setIfInBounds_toArray, List.set_cons_zero, List.set_cons_succ]
        refine wpAnyH_ready (rs := [4]) (by kernel_rfl) (by simp) ?_
        refine AllReadyH.cons (o := ⟨none, _, _, _, _, _⟩) rfl (fun K hK => ?_) AllReadyH.nil
        rw [if_pos (by rfl)]
        refine wp_store_row 24 (.tmp 2) (.tmp 11) rfl z #[.slice pA pn pc, .slice qA qn qc] rfl rfl 24 _ A_9 size24 rfl (by simp [Value.oneCell']) ?_
        refine hK.out _ _ (below_row S9 (by omega) _) (fun h10 => ?_)
        clear h9 hK K
        have S10 : Below w.heap.size w (w9.setRow z #[.slice pA pn pc, .slice qA qn qc]) := below_row S9 (by omega) _
        have A_10 : Blk (w9.setRow z #[.slice pA pn pc, .slice qA qn qc]) z 24 #[.slice pA pn pc, .slice qA qn qc] := setRow_heap _ _ _ _ _ _ A_9
        have B_10 := (show Blk (w9.setRow z #[.slice pA pn pc, .slice qA qn qc]) ((z + 1)) 24 _ from (setRow_other _ _ _ _ (by omega)).trans B_9)
        try simp only [Act.put]
        refine wpAnyH_ready (rs := [5]) (by kernel_rfl) (by simp) ?_
        refine AllReadyH.cons (o := ⟨none, _, _, _, _, _⟩) rfl (fun K hK => ?_) AllReadyH.nil
        rw [if_pos (by rfl)]
        refine wp_store_row 24 (.tmp 3) (.tmp 13) rfl (z + 1) #[.slice sA sn sc, .slice tA tn tc] rfl rfl 24 _ B_10 size24 rfl (by simp [Value.oneCell']) ?_
        refine hK.out _ _ (below_row S10 (by omega) _) (fun h11 => ?_)
        clear h10 hK K
        have S11 : Below w.heap.size w ((w9.setRow z #[.slice pA pn pc, .slice qA qn qc]).setRow (z + 1) #[.slice sA sn sc, .slice tA tn tc]) := below_row S10 (by omega) _
        have A_11 := (show Blk ((w9.setRow z #[.slice pA pn pc, .slice qA qn qc]).setRow (z + 1) #[.slice sA sn sc, .slice tA tn tc]) (z) 24 _ from (setRow_other _ _ _ _ (by omega)).trans A_10)
        have B_11 : Blk ((w9.setRow z #[.slice pA pn pc, .slice qA qn qc]).setRow (z + 1) #[.slice sA sn sc, .slice tA tn tc]) (z + 1) 24 #[.slice sA sn sc, .slice tA tn tc] := setRow_heap _ _ _ _ _ _ B_10
        try simp only [Act.put]
        refine wpAnyH_done (by kernel_rfl) ?_ _
        refine NoPanic.normal ?_
        go_wp2_with fail
        go_meet
        exact ⟨S11, A_11, B_11⟩
    · rw [if_pos (by rfl)]
      refine wp_load_row 24 (.tmp 3) rfl (z + 1) rfl 24 #[.slice rB rm rd, .slice xB xm xd] (0, 0) _ hB Try.underlying24 rfl size24 ?_
      refine hK.out _ _ k0 (fun h12 => ?_)
      clear hHeld hK K
      try simp only [Act.put, List.setIfInBounds_toArray, List.set_cons_zero, List.set_cons_succ]
      refine wpAnyH_ready (rs := [0]) (by kernel_rfl) (by simp) ?_
      refine AllReadyH.cons (o := ⟨some 10, _, _, _, _, _⟩) rfl (fun K hK => ?_) AllReadyH.nil
      rw [if_pos (by rfl)]
      refine wp_load_row 24 (.tmp 2) rfl z rfl 24 #[.slice rA rn rc, .slice xA xn xc] (0, 0) _ hA Try.underlying24 rfl size24 ?_
      refine hK.out _ _ k0 (fun h13 => ?_)
      clear h12 hK K
      try simp only [Act.put, List.setIfInBounds_toArray, List.set_cons_zero, List.set_cons_succ]
      refine wpAnyH_ready (rs := [1]) (by kernel_rfl) (by simp) ?_
      refine AllReadyH.cons (o := ⟨some 11, _, _, _, _, _⟩) rfl (fun K hK => ?_) AllReadyH.nil
      go_simp
      refine (cA _ k0).mono ?_
      rintro e w14 ⟨rfl, hb14⟩
      have A_14 := hA.on hb14
      have B_14 := hB.on hb14
      have S14 : (fun W => Below w.heap.size w W) w14 := stepB k0 hb14
      refine hK.out _ _ S14 (fun h14 => ?_)
      clear h13 hK K
      try simp only [Act.put, List.setIfInBounds_toArray, List.set_cons_zero, List.set_cons_succ]
      refine wpAnyH_ready (rs := [3]) (by kernel_rfl) (by simp) ?_
      refine AllReadyH.cons (o := ⟨some 13, _, _, _, _, _⟩) rfl (fun K hK => ?_) AllReadyH.nil
      go_simp
      refine (cB _ S14).mono ?_
      rintro e w15 ⟨rfl, hb15⟩
      have A_15 := A_14.on hb15
      have B_15 := B_14.on hb15
      have S15 : (fun W => Below w.heap.size w W) w15 := stepB S14 hb15
      refine hK.out _ _ S15 (fun h15 => ?_)
      clear h14 hK K
      try simp only [Act.put, List.setIfInBounds_toArray, List.set_cons_zero, List.set_cons_succ]
      refine wpAnyH_ready (rs := [4]) (by kernel_rfl) (by simp) ?_
      refine AllReadyH.cons (o := ⟨none, _, _, _, _, _⟩) rfl (fun K hK => ?_) AllReadyH.nil
      rw [if_pos (by rfl)]
      refine wp_store_row 24 (.tmp 2) (.tmp 11) rfl z #[.slice pA pn pc, .slice qA qn qc] rfl rfl 24 _ A_15 size24 rfl (by simp [Value.oneCell']) ?_
      refine hK.out _ _ (below_row S15 (by omega) _) (fun h16 => ?_)
      clear h15 hK K
      have S16 : Below w.heap.size w (w15.setRow z #[.slice pA pn pc, .slice qA qn qc]) := below_row S15 (by omega) _
      have A_16 : Blk (w15.setRow z #[.slice pA pn pc, .slice qA qn qc]) z 24 #[.slice pA pn pc, .slice qA qn qc] := setRow_heap _ _ _ _ _ _ A_15
      have B_16 := (show Blk (w15.setRow z #[.slice pA pn pc, .slice qA qn qc]) ((z + 1)) 24 _ from (setRow_other _ _ _ _ (by omega)).trans B_15)
      try simp only [Act.put]
      refine wpAnyH_ready (rs := [5]) (by kernel_rfl) (by simp) ?_
      refine AllReadyH.cons (o := ⟨none, _, _, _, _, _⟩) rfl (fun K hK => ?_) AllReadyH.nil
      rw [if_pos (by rfl)]
      refine wp_store_row 24 (.tmp 3) (.tmp 13) rfl (z + 1) #[.slice sA sn sc, .slice tA tn tc] rfl rfl 24 _ B_16 size24 rfl (by simp [Value.oneCell']) ?_
      refine hK.out _ _ (below_row S16 (by omega) _) (fun h17 => ?_)
      clear h16 hK K
      have S17 : Below w.heap.size w ((w15.setRow z #[.slice pA pn pc, .slice qA qn qc]).setRow (z + 1) #[.slice sA sn sc, .slice tA tn tc]) := below_row S16 (by omega) _
      have A_17 := (show Blk ((w15.setRow z #[.slice pA pn pc, .slice qA qn qc]).setRow (z + 1) #[.slice sA sn sc, .slice tA tn tc]) (z) 24 _ from (setRow_other _ _ _ _ (by omega)).trans A_16)
      have B_17 : Blk ((w15.setRow z #[.slice pA pn pc, .slice qA qn qc]).setRow (z + 1) #[.slice sA sn sc, .slice tA tn tc]) (z + 1) 24 #[.slice sA sn sc, .slice tA tn tc] := setRow_heap _ _ _ _ _ _ B_16
      try simp only [Act.put]
      refine wpAnyH_done (by kernel_rfl) ?_ _
      refine NoPanic.normal ?_
      go_wp2_with fail
      go_meet
      exact ⟨S17, A_17, B_17⟩
  case rest =>
    obtain ⟨hb, bA, bB⟩ := hcut
    obtain ⟨FA, FB⟩ := HF.out
    have F1 := FA.on hb
    have F2 := FB.on hb
    have hbo := both_lit F1 F2 nA1 nA2 nB1 nB2
    have q0 : wc.cell? ⟨z, 0, none⟩ = some (.slice pA pn pc) := bA.cell 0
    have q1 : wc.cell? ⟨z, 1, none⟩ = some (.slice qA qn qc) := bA.cell 1
    have q2 : wc.cell? ⟨z + 1, 0, none⟩ = some (.slice sA sn sc) := bB.cell 0
    have q3 : wc.cell? ⟨z + 1, 1, none⟩ = some (.slice tA tn tc) := bB.cell 1
    have HX := Lib.hid (And.intro hb (And.intro bA (And.intro bB (And.intro F1 F2))))
    clear hb bA bB FA FB F1 F2 cA cB k0 hA hB
    go_wp2_with fail
    refine hbo.mono ?_
    rintro e wE ⟨eA, en, ea, eB, em, eb, rfl, FE, el, hb3⟩
    clear hbo q0 q1 q2 q3
    go_wp2_with fail
    obtain ⟨hb, bA, bB, F1, F2⟩ := HX.out
    obtain ⟨P5, eP5⟩ : ∃ P5, P5 = wE.heap.size := ⟨_, rfl⟩
    obtain ⟨wF, ewF⟩ : ∃ wF, wF = wE.alloc (.cells #[.slice eA en ea, .slice eB em eb] 24) := ⟨_, rfl⟩
    have hb4 : Below wE.heap.size wE wF := by rw [ewF]; exact (Below.refl _ _).alloc (Nat.le_refl _) _
    have b5 : Blk wF P5 24 #[.slice eA en ea, .slice eB em eb] := by rw [ewF, eP5]; exact heap_alloc_new wE _
    have bA4 := (bA.on hb3).on hb4
    have bB4 := (bB.on hb3).on hb4
    have G1 := (F1.on hb3).on hb4
    have G2 := (F2.on hb3).on hb4
    have G5 := FE.on hb4
    have hbw := stepB (stepB hb hb3) hb4
    rw [← ewF, ← eP5]
    have HE4 := Lib.hid (And.intro ewF eP5)
    have HW4 := Lib.hid hbw
    clear hb bA bB F1 F2 hb3 hb4 FE ewF eP5 hbw
    have zA : ∀ W, Below wF.heap.size wF W → W.rangeAt z 0 [.slice pA pn pc, .slice qA qn qc] := fun W hW => range_blk (cs := [.slice pA pn pc, .slice qA qn qc]) (bA4.on hW)
    have zB : ∀ W, Below wF.heap.size wF W → W.rangeAt (z + 1) 0 [.slice sA sn sc, .slice tA tn tc] := fun W hW => range_blk (cs := [.slice sA sn sc, .slice tA tn tc]) (bB4.on hW)
    have tS : ∀ W, Below wF.heap.size wF W → W.cell? ⟨z, 0, none⟩ = some (.slice pA pn pc) ∧ W.cell? ⟨z, 1, none⟩ = some (.slice qA qn qc) := fun W hW => ⟨(bA4.on hW).cell 0, (bA4.on hW).cell 1⟩
    have k4 : Below wF.heap.size wF wF.drew := (Below.refl _ wF).drew
    have GA := G1.on k4
    have GB := G2.on k4
    have HG := Lib.hid (And.intro bA4 (And.intro bB4 (And.intro G1 (And.intro G2 (And.intro G5 b5)))))
    clear bA4 bB4 G1 G2 G5 b5
    go_cut [6, 7] (fun s6 s7 wx => ∃ P6 P7, s6 = .pointer (some ⟨P6, 0, none⟩) ∧ s7 = .pointer (some ⟨P7, 0, none⟩) ∧ Below wF.heap.size wF wx ∧ ∃ f1 f2 : Ft, Blk wx P6 24 #[f1.r.v, f1.w.v] ∧ Blk wx P7 24 #[f2.r.v, f2.w.v] ∧ Foot wx f1 (normP (R.take 12)) (normP (X.take 12)) ∧ Foot wx f2 (normP (R.take 12 ++ Q.take 12)) (normP (X.take 12 ++ Y.take 12)) ∧ (f1.r.n ≤ 24 ∧ f1.w.n ≤ 24) ∧ (f2.r.n ≤ 24 ∧ f2.w.n ≤ 24))
    case first =>
      refine wp_region_noPanic ?_
      refine wp_region_held_drew (S := (fun W => Below wF.heap.size wF W)) (by kernel_rfl) k4 (fun hHeld => ?_)
      generalize wF.drew = wd at hHeld k4 GA GB ⊢
      refine wpAnyH_take (i := 0) (oi := ⟨some 17, _, _, _, _, _⟩) (v := ?_) rfl (by kernel_rfl) (by kernel_rfl) (by kernel_rfl) (fun _ _ _ h => h) (Or.inl ⟨by rfl, ?_⟩) (by assumption) ?_
      rotate_left 1
      · (intro W hSw; go_simp <;> with_reducible rfl)
      try simp only [Act.put, List.setIfInBounds_toArray, List.set_cons_zero, List.set_cons_succ]
      refine wpAnyH_take (i := 1) (oi := ⟨some 18, _, _, _, _, _⟩) (v := ?_) rfl (by kernel_rfl) (by kernel_rfl) (by kernel_rfl) (fun _ _ _ h => h) (Or.inl ⟨by rfl, ?_⟩) (by assumption) ?_
      rotate_left 1
      · (intro W hSw; obtain ⟨f0, f1⟩ := tS W hSw; go_simp <;> with_reducible rfl)
      try simp only [Act.put, List.setIfInBounds_toArray, List.set_cons_zero, List.set_cons_succ]
      refine wpAnyH_take (i := 2) (oi := ⟨some 19, _, _, _, _, _⟩) (v := ?_) rfl (by kernel_rfl) (by kernel_rfl) (by kernel_rfl) (fun _ _ _ h => h) (Or.inl ⟨by rfl, ?_⟩) (by assumption) ?_
      rotate_left 1
      · (intro W hSw; go_simp <;> with_reducible rfl)
      try simp only [Act.put, List.setIfInBounds_toArray, List.set_cons_zero, List.set_cons_succ]
      refine wpAnyH_take (i := 3) (oi := ⟨some 20, _, _, _, _, _⟩) (v := ?_) rfl (by kernel_rfl) (by kernel_rfl) (by kernel_rfl) (fun _ _ _ h => h) (Or.inl ⟨by rfl, ?_⟩) (by assumption) ?_
      rotate_left 1
      · (intro W hSw; obtain ⟨f0, f1⟩ := tS W hSw; go_simp <;> with_reducible rfl)
      try simp only [Act.put, List.setIfInBounds_toArray, List.set_cons_zero, List.set_cons_succ]
      refine wpAnyH_take (i := 5) (oi := ⟨some 22, _, _, _, _, _⟩) (v := .agg (List.toArray ([.slice pA pn pc, .slice qA qn qc]))) rfl (by kernel_rfl) (by kernel_rfl) (by kernel_rfl) (fun _ _ _ h => h) (yieldsIf_load_mid (by rfl) 24 (.tmp 2) rfl z (0) rfl ([.slice pA pn pc, .slice qA qn qc]) _ (fun W hW => zA W hW) Try.underlying24 rfl size24) (by assumption) ?_
      try simp only [Act.put, List.setIfInBounds_toArray, List.set_cons_zero, List.set_cons_succ]
      refine wpAnyH_take (i := 6) (oi := ⟨some 23, _, _, _, _, _⟩) (v := .agg (List.toArray ([.slice sA sn sc, .slice tA tn tc]))) rfl (by kernel_rfl) (by kernel_rfl) (by kernel_rfl) (fun _ _ _ h => h) (yieldsIf_load_mid (by rfl) 24 (.tmp 3) rfl (z + 1) (0) rfl ([.slice sA sn sc, .slice tA tn tc]) _ (fun W hW => zB W hW) Try.underlying24 rfl size24) (by assumption) ?_
      try simp only [Act.put, List.setIfInBounds_toArray, List.set_cons_zero, List.set_cons_succ]
      refine wpAnyH_ready (rs := [4, 8, 9]) (by kernel_rfl) (by simp) ?_
      refine AllReadyH.cons (o := ⟨some 21, _, _, _, _, _⟩) rfl (fun K hK => ?_) (AllReadyH.cons (o := ⟨some 6, _, _, _, _, _⟩) rfl (fun K hK => ?_) (AllReadyH.cons (o := ⟨some 7, _, _, _, _, _⟩) rfl (fun K hK => ?_) AllReadyH.nil))
      · go_simp
        refine (of_lit2 GA (by omega) (by omega)).mono ?_
        rintro e w1 ⟨uA, un, ua, uB, um, ub, rfl, u_1, ul, hb1⟩
        have A_1 := GA.on hb1
        have B_1 := GB.on hb1
        have S1 : (fun W => Below wF.heap.size wF W) w1 := stepB k4 hb1
        refine hK.out _ _ S1 (fun h1 => ?_)
        clear hHeld hK K
        try simp only [Act.put, List.setIfInBounds_toArray, List.set_cons_zero, List.set_cons_succ]
        refine wpAnyH_ready (rs := [7, 8, 9]) (by kernel_rfl) (by simp) ?_
        refine AllReadyH.cons (o := ⟨some 24, _, _, _, _, _⟩) rfl (fun K hK => ?_) (AllReadyH.cons (o := ⟨some 6, _, _, _, _, _⟩) rfl (fun K hK => ?_) (AllReadyH.cons (o := ⟨some 7, _, _, _, _, _⟩) rfl (fun K hK => ?_) AllReadyH.nil))
        · go_simp
          refine (join_lit A_1 B_1 (by omega) (by omega) (by omega) (by omega)).mono ?_
          rintro e w2 ⟨vA, vn, va, vB, vm, vb, rfl, v_2, vl, hb2⟩
          have A_2 := A_1.on hb2
          have B_2 := B_1.on hb2
          have u_2 := u_1.on hb2
          have S2 : (fun W => Below wF.heap.size wF W) w2 := stepB S1 hb2
          refine hK.out _ _ S2 (fun h2 => ?_)
          clear h1 hK K
          try simp only [Act.put, List.setIfInBounds_toArray, List.set_cons_zero, List.set_cons_succ]
          refine wpAnyH_ready (rs := [8, 9]) (by kernel_rfl) (by simp) ?_
          refine AllReadyH.cons (o := ⟨some 6, _, _, _, _, _⟩) rfl (fun K hK => ?_) (AllReadyH.cons (o := ⟨some 7, _, _, _, _, _⟩) rfl (fun K hK => ?_) AllReadyH.nil)
          · go_simp
            obtain ⟨w3, ew3⟩ : ∃ zz, zz = w2.alloc (.cells #[.slice none 0 0, .slice none 0 0] 24) := ⟨_, rfl⟩
            have hb3 : Below w2.heap.size w2 w3 := by rw [ew3]; exact (Below.refl _ _).alloc (Nat.le_refl _) _
            rw [← ew3]
            have P_3 : Blk w3 w2.heap.size 24 #[.slice none 0 0, .slice none 0 0] := by rw [ew3]; exact heap_alloc_new _ _
            have geP : wF.heap.size ≤ w2.heap.size := S2.size
            have A_3 := A_2.on hb3
            have B_3 := B_2.on hb3
            have u_3 := u_2.on hb3
            have v_3 := v_2.on hb3
            have S3 : (fun W => Below wF.heap.size wF W) w3 := stepB S2 hb3
            refine hK.out _ _ S3 (fun h3 => ?_)
            clear h2 hK K ew3
            try simp only [Act.put, List.setIfInBounds_toArray, List.set_cons_zero, List.set_cons_succ]
            refine wpAnyH_ready (rs := [9]) (by kernel_rfl) (by simp) ?_
            refine AllReadyH.cons (o := ⟨some 7, _, _, _, _, _⟩) rfl (fun K hK => ?_) AllReadyH.nil
            go_simp
            obtain ⟨w4, ew4⟩ : ∃ zz, zz = w3.alloc (.cells #[.slice none 0 0, .slice none 0 0] 24) := ⟨_, rfl⟩
            have hb4 : Below w3.heap.size w3 w4 := by rw [ew4]; exact (Below.refl _ _).alloc (Nat.le_refl _) _
            rw [← ew4]
            have Q_4 : Blk w4 w3.heap.size 24 #[.slice none 0 0, .slice none 0 0] := by rw [ew4]; exact heap_alloc_new _ _
            have geQ : wF.heap.size ≤ w3.heap.size := S3.size
            have lt9 := P_3.lt
            have A_4 := A_3.on hb4
            have B_4 := B_3.on hb4
            have u_4 := u_3.on hb4
            have v_4 := v_3.on hb4
            have P_4 := P_3.on hb4
            have S4 : (fun W => Below wF.heap.size wF W) w4 := stepB S3 hb4
            refine hK.out _ _ S4 (fun h4 => ?_)
            clear h3 hK K ew4
            try simp only [Act.put, List.setIfInBounds_toArray, List.set_cons_zero, List.set_cons_succ]
            refine wpAnyH_ready (rs := [10]) (by kernel_rfl) (by simp) ?_
            refine AllReadyH.cons (o := ⟨none, _, _, _, _, _⟩) rfl (fun K hK => ?_) AllReadyH.nil
            rw [if_pos (by rfl)]
            refine wp_store_row 24 (.tmp 6) (.tmp 21) rfl w2.heap.size #[.slice uA un ua, .slice uB um ub] rfl rfl 24 _ P_4 size24 rfl (by simp [Value.oneCell']) ?_
            refine hK.out _ _ (below_row S4 (by omega) _) (fun h5 => ?_)
            clear h4 hK K
            have S5 : Below wF.heap.size wF ((w4).setRow w2.heap.size #[.slice uA un ua, .slice uB um ub]) := below_row S4 (by omega) _
            have u_5 := foot_row u_4 (z := w2.heap.size) #[.slice uA un ua, .slice uB um ub] (foot_off u_4 P_4).1 (foot_off u_4 P_4).2
            have v_5 := foot_row v_4 (z := w2.heap.size) #[.slice uA un ua, .slice uB um ub] (foot_off v_4 P_4).1 (foot_off v_4 P_4).2
            have P_5 : Blk ((w4).setRow w2.heap.size #[.slice uA un ua, .slice uB um ub]) w2.heap.size 24 #[.slice uA un ua, .slice uB um ub] := setRow_heap _ _ _ _ _ _ P_4
            have Q_5 : Blk ((w4).setRow w2.heap.size #[.slice uA un ua, .slice uB um ub]) w3.heap.size 24 #[.slice none 0 0, .slice none 0 0] := (setRow_other _ _ _ _ (by omega)).trans Q_4
            try simp only [Act.put]
            refine wpAnyH_ready (rs := [11]) (by kernel_rfl) (by simp) ?_
            refine AllReadyH.cons (o := ⟨none, _, _, _, _, _⟩) rfl (fun K hK => ?_) AllReadyH.nil
            rw [if_pos (by rfl)]
            refine wp_store_row 24 (.tmp 7) (.tmp 24) rfl w3.heap.size #[.slice vA vn va, .slice vB vm vb] rfl rfl 24 _ Q_5 size24 rfl (by simp [Value.oneCell']) ?_
            refine hK.out _ _ (below_row S5 (by omega) _) (fun h6 => ?_)
            clear h5 hK K
            have S6 : Below wF.heap.size wF ((((w4).setRow w2.heap.size #[.slice uA un ua, .slice uB um ub])).setRow w3.heap.size #[.slice vA vn va, .slice vB vm vb]) := below_row S5 (by omega) _
            have u_6 := foot_row u_5 (z := w3.heap.size) #[.slice vA vn va, .slice vB vm vb] (foot_off u_5 Q_5).1 (foot_off u_5 Q_5).2
            have v_6 := foot_row v_5 (z := w3.heap.size) #[.slice vA vn va, .slice vB vm vb] (foot_off v_5 Q_5).1 (foot_off v_5 Q_5).2
            have Q_6 : Blk ((((w4).setRow w2.heap.size #[.slice uA un ua, .slice uB um ub])).setRow w3.heap.size #[.slice vA vn va, .slice vB vm vb]) w3.heap.size 24 #[.slice vA vn va, .slice vB vm vb] := setRow_heap _ _ _ _ _ _ Q_5
            have P_6 : Blk ((((w4).setRow w2.heap.size #[.slice uA un ua, .slice uB um ub])).setRow w3.heap.size #[.slice vA vn va, .slice vB vm vb]) w2.heap.size 24 #[.slice uA un ua, .slice uB um ub] := (setRow_other _ _ _ _ (by omega)).trans P_5
            try simp only [Act.put]
            refine wpAnyH_done (by kernel_rfl) ?_ _
            refine NoPanic.normal ?_
            go_wp2_with fail
            go_meet
            exact ⟨_, _, rfl, rfl, S6, ⟨⟨uA, un, ua⟩, ⟨uB, um, ub⟩⟩, ⟨⟨vA, vn, va⟩, ⟨vB, vm, vb⟩⟩, P_6, Q_6, u_6, v_6, ul, vl⟩
          · go_simp
            obtain ⟨w7, ew7⟩ : ∃ zz, zz = w2.alloc (.cells #[.slice none 0 0, .slice none 0 0] 24) := ⟨_, rfl⟩
            have hb7 : Below w2.heap.size w2 w7 := by rw [ew7]; exact (Below.refl _ _).alloc (Nat.le_refl _) _
            rw [← ew7]
            have Q_7 : Blk w7 w2.heap.size 24 #[.slice none 0 0, .slice none 0 0] := by rw [ew7]; exact heap_alloc_new _ _
            have geQ : wF.heap.size ≤ w2.heap.size := S2.size
            have A_7 := A_2.on hb7
            have B_7 := B_2.on hb7
            have u_7 := u_2.on hb7
            have v_7 := v_2.on hb7
            have S7 : (fun W => Below wF.heap.size wF W) w7 := stepB S2 hb7
            refine hK.out _ _ S7 (fun h7 => ?_)
            clear h2 hK K ew7
            try simp only [Act.put, List.setIfInBounds_toArray, List.set_cons_zero, List.set_cons_succ]
            refine wpAnyH_ready (rs := [8]) (by kernel_rfl) (by simp) ?_
            refine AllReadyH.cons (o := ⟨some 6, _, _, _, _, _⟩) rfl (fun K hK => ?_) AllReadyH.nil
            go_simp
            obtain ⟨w8, ew8⟩ : ∃ zz, zz = w7.alloc (.cells #[.slice none 0 0, .slice none 0 0] 24) := ⟨_, rfl⟩
            have hb8 : Below w7.heap.size w7 w8 := by rw [ew8]; exact (Below.refl _ _).alloc (Nat.le_refl _) _
            rw [← ew8]
            have P_8 : Blk w8 w7.heap.size 24 #[.slice none 0 0, .slice none 0 0] := by rw [ew8]; exact heap_alloc_new _ _
            have geP : wF.heap.size ≤ w7.heap.size := S7.size
            have lt9 := Q_7.lt
            have A_8 := A_7.on hb8
            have B_8 := B_7.on hb8
            have u_8 := u_7.on hb8
            have v_8 := v_7.on hb8
            have Q_8 := Q_7.on hb8
            have S8 : (fun W => Below wF.heap.size wF W) w8 := stepB S7 hb8
            refine hK.out _ _ S8 (fun h8 => ?_)
            clear h7 hK K ew8
            try simp only [Act.put, List.setIfInBounds_toArray, List.set_cons_zero, List.set_cons_succ]
            refine wpAnyH_ready (rs := [10]) (by kernel_rfl) (by simp) ?_
            refine AllReadyH.cons (o := ⟨none, _, _, _, _, _⟩) rfl (fun K hK => ?_) AllReadyH.nil
            rw [if_pos (by rfl)]
            refine wp_store_row 24 (.tmp 6) (.tmp 21) rfl w7.heap.size #[.slice uA un ua, .slice uB um ub] rfl rfl 24 _ P_8 size24 rfl (by simp [Value.oneCell']) ?_
            refine hK.out _ _ (below_row S8 (by omega) _) (fun h9 => ?_)
            clear h8 hK K
            have S9 : Below wF.heap.size wF ((w8).setRow w7.heap.size #[.slice uA un ua, .slice uB um ub]) := below_row S8 (by omega) _
            have u_9 := foot_row u_8 (z := w7.heap.size) #[.slice uA un ua, .slice uB um ub] (foot_off u_8 P_8).1 (foot_off u_8 P_8).2
            have v_9 := foot_row v_8 (z := w7.heap.size) #[.slice uA un ua, .slice uB um ub] (foot_off v_8 P_8).1 (foot_off v_8 P_8).2
            have P_9 : Blk ((w8).setRow w7.heap.size #[.slice uA un ua, .slice uB um ub]) w7.heap.size 24 #[.slice uA un ua, .slice uB um ub] := setRow_heap _ _ _ _ _ _ P_8
            have Q_9 : Blk ((w8).setRow w7.heap.size #[.slice uA un ua, .slice uB um ub]) w2.heap.size 24 #[.slice none 0 0, .slice none 0 0] := (setRow_other _ _ _ _ (by omega)).trans Q_8
            try simp only [Act.put]
            refine wpAnyH_ready (rs := [11]) (by kernel_rfl) (by simp) ?_
            refine AllReadyH.cons (o := ⟨none, _, _, _, _, _⟩) rfl (fun K hK => ?_) AllReadyH.nil
            rw [if_pos (by rfl)]
            refine wp_store_row 24 (.tmp 7) (.tmp 24) rfl w2.heap.size #[.slice vA vn va, .slice vB vm vb] rfl rfl 24 _ Q_9 size24 rfl (by simp [Value.oneCell']) ?_
            refine hK.out _ _ (below_row S9 (by omega) _) (fun h10 => ?_)
            clear h9 hK K
            have S10 : Below wF.heap.size wF ((((w8).setRow w7.heap.size #[.slice uA un ua, .slice uB um ub])).setRow w2.heap.size #[.slice vA vn va, .slice vB vm vb]) := below_row S9 (by omega) _
            have u_10 := foot_row u_9 (z := w2.heap.size) #[.slice vA vn va, .slice vB vm vb] (foot_off u_9 Q_9).1 (foot_off u_9 Q_9).2
            have v_10 := foot_row v_9 (z := w2.heap.size) #[.slice vA vn va, .slice vB vm vb] (foot_off v_9 Q_9).1 (foot_off v_9 Q_9).2
            have Q_10 : Blk ((((w8).setRow w7.heap.size #[.slice uA un ua, .slice uB um ub])).setRow w2.heap.size #[.slice vA vn va, .slice vB vm vb]) w2.heap.size 24 #[.slice vA vn va, .slice vB vm vb] := setRow_heap _ _ _ _ _ _ Q_9
            have P_10 : Blk ((((w8).setRow w7.heap.size #[.slice uA un ua, .slice uB um ub])).setRow w2.heap.size #[.slice vA vn va, .slice vB vm vb]) w7.heap.size 24 #[.slice uA un ua, .slice uB um ub] := (setRow_other _ _ _ _ (by omega)).trans P_9
            try simp only [Act.put]
            refine wpAnyH_done (by kernel_rfl) ?_ _
            refine NoPanic.normal ?_
            go_wp2_with fail
            go_meet
            exact ⟨_, _, rfl, rfl, S10, ⟨⟨uA, un, ua⟩, ⟨uB, um, ub⟩⟩, ⟨⟨vA, vn, va⟩, ⟨vB, vm, vb⟩⟩, P_10, Q_10, u_10, v_10, ul, vl⟩
        · go_simp
          obtain ⟨w11, ew11⟩ : ∃ zz, zz = w1.alloc (.cells #[.slice none 0 0, .slice none 0 0] 24) := ⟨_, rfl⟩
          have hb11 : Below w1.heap.size w1 w11 := by rw [ew11]; exact (Below.refl _ _).alloc (Nat.le_refl _) _
          rw [← ew11]
          have P_11 : Blk w11 w1.heap.size 24 #[.slice none 0 0, .slice none 0 0] := by rw [ew11]; exact heap_alloc_new _ _
          have geP : wF.heap.size ≤ w1.heap.size := S1.size
          have A_11 := A_1.on hb11
          have B_11 := B_1.on hb11
          have u_11 := u_1.on hb11
          have S11 : (fun W => Below wF.heap.size wF W) w11 := stepB S1 hb11
          refine hK.out _ _ S11 (fun h11 => ?_)
          clear h1 hK K ew11
          try simp only [Act.put, List.setIfInBounds_toArray, List.set_cons_zero, List.set_cons_succ]
          refine wpAnyH_ready (rs := [7, 9]) (by kernel_rfl) (by simp) ?_
          refine AllReadyH.cons (o := ⟨some 24, _, _, _, _, _⟩) rfl (fun K hK => ?_) (AllReadyH.cons (o := ⟨some 7, _, _, _, _, _⟩) rfl (fun K hK => ?_) AllReadyH.nil)
          · go_simp
            refine (join_lit A_11 B_11 (by omega) (by omega) (by omega) (by omega)).mono ?_
            rintro e w12 ⟨vA, vn, va, vB, vm, vb, rfl, v_12, vl, hb12⟩
            have A_12 := A_11.on hb12
            have B_12 := B_11.on hb12
            have u_12 := u_11.on hb12
            have P_12 := P_11.on hb12
            have S12 : (fun W => Below wF.heap.size wF W) w12 := stepB S11 hb12
            refine hK.out _ _ S12 (fun h12 => ?_)
            clear h11 hK K
            try simp only [Act.put, List.setIfInBounds_toArray, List.set_cons_zero, List.set_cons_succ]
            refine wpAnyH_ready (rs := [9]) (by kernel_rfl) (by simp) ?_
            refine AllReadyH.cons (o := ⟨some 7, _, _, _, _, _⟩) rfl (fun K hK => ?_) AllReadyH.nil
            go_simp
            obtain ⟨w13, ew13⟩ : ∃ zz, zz = w12.alloc (.cells #[.slice none 0 0, .slice none 0 0] 24) := ⟨_, rfl⟩
            have hb13 : Below w12.heap.size w12 w13 := by rw [ew13]; exact (Below.refl _ _).alloc (Nat.le_refl _) _
            rw [← ew13]
            have Q_13 : Blk w13 w12.heap.size 24 #[.slice none 0 0, .slice none 0 0] := by rw [ew13]; exact heap_alloc_new _ _
            have geQ : wF.heap.size ≤ w12.heap.size := S12.size
            have lt9 := P_12.lt
            have A_13 := A_12.on hb13
            have B_13 := B_12.on hb13
            have u_13 := u_12.on hb13
            have P_13 := P_12.on hb13
            have v_13 := v_12.on hb13
            have S13 : (fun W => Below wF.heap.size wF W) w13 := stepB S12 hb13
            refine hK.out _ _ S13 (fun h13 => ?_)
            clear h12 hK K ew13
            try simp only [Act.put, List.setIfInBounds_toArray, List.set_cons_zero, List.set_cons_succ]
            refine wpAnyH_ready (rs := [10]) (by kernel_rfl) (by simp) ?_
            refine AllReadyH.cons (o := ⟨none, _, _, _, _, _⟩) rfl (fun K hK => ?_) AllReadyH.nil
            rw [if_pos (by rfl)]
            refine wp_store_row 24 (.tmp 6) (.tmp 21) rfl w1.heap.size #[.slice uA un ua, .slice uB um ub] rfl rfl 24 _ P_13 size24 rfl (by simp [Value.oneCell']) ?_
            refine hK.out _ _ (below_row S13 (by omega) _) (fun h14 => ?_)
            clear h13 hK K
            have S14 : Below wF.heap.size wF ((w13).setRow w1.heap.size #[.slice uA un ua, .slice uB um ub]) := below_row S13 (by omega) _
            have u_14 := foot_row u_13 (z := w1.heap.size) #[.slice uA un ua, .slice uB um ub] (foot_off u_13 P_13).1 (foot_off u_13 P_13).2
            have v_14 := foot_row v_13 (z := w1.heap.size) #[.slice uA un ua, .slice uB um ub] (foot_off v_13 P_13).1 (foot_off v_13 P_13).2
            have P_14 : Blk ((w13).setRow w1.heap.size #[.slice uA un ua, .slice uB um ub]) w1.heap.size 24 #[.slice uA un ua, .slice uB um ub] := setRow_heap _ _ _ _ _ _ P_13
            have Q_14 : Blk ((w13).setRow w1.heap.size #[.slice uA un ua, .slice uB um ub]) w12.heap.size 24 #[.slice none 0 0, .slice none 0 0] := (setRow_other _ _ _ _ (by omega)).trans Q_13
            try simp only [Act.put]
            refine wpAnyH_ready (rs := [11]) (by kernel_rfl) (by simp) ?_
            refine AllReadyH.cons (o := ⟨none, _, _, _, _, _⟩) rfl (fun K hK => ?_) AllReadyH.nil
            rw [if_pos (by rfl)]
            refine wp_store_row 24 (.tmp 7) (.tmp 24) rfl w12.heap.size #[.slice vA vn va, .slice vB vm vb] rfl rfl 24 _ Q_14 size24 rfl (by simp [Value.oneCell']) ?_
            refine hK.out _ _ (below_row S14 (by omega) _) (fun h15 => ?_)
            clear h14 hK K
            have S15 : Below wF.heap.size wF ((((w13).setRow w1.heap.size #[.slice uA un ua, .slice uB um ub])).setRow w12.heap.size #[.slice vA vn va, .slice vB vm vb]) := below_row S14 (by omega) _
            have u_15 := foot_row u_14 (z := w12.heap.size) #[.slice vA vn va, .slice vB vm vb] (foot_off u_14 Q_14).1 (foot_off u_14 Q_14).2
            have v_15 := foot_row v_14 (z := w12.heap.size) #[.slice vA vn va, .slice vB vm vb] (foot_off v_14 Q_14).1 (foot_off v_14 Q_14).2
            have Q_15 : Blk ((((w13).setRow w1.heap.size #[.slice uA un ua, .slice uB um ub])).setRow w12.heap.size #[.slice vA vn va, .slice vB vm vb]) w12.heap.size 24 #[.slice vA vn va, .slice vB vm vb] := setRow_heap _ _ _ _ _ _ Q_14
            have P_15 : Blk ((((w13).setRow w1.heap.size #[.slice uA un ua, .slice uB um ub])).setRow w12.heap.size #[.slice vA vn va, .slice vB vm vb]) w1.heap.size 24 #[.slice uA un ua, .slice uB um ub] := (setRow_other _ _ _ _ (by omega)).trans P_14
            try simp only [Act.put]
            refine wpAnyH_done (by kernel_rfl) ?_ _
            refine NoPanic.normal ?_
            go_wp2_with fail
            go_meet
            exact ⟨_, _, rfl, rfl, S15, ⟨⟨uA, un, ua⟩, ⟨uB, um, ub⟩⟩, ⟨⟨vA, vn, va⟩, ⟨vB, vm, vb⟩⟩, P_15, Q_15, u_15, v_15, ul, vl⟩
          · go_simp
            obtain ⟨w16, ew16⟩ : ∃ zz, zz = w11.alloc (.cells #[.slice none 0 0, .slice none 0 0] 24) := ⟨_, rfl⟩
            have hb16 : Below w11.heap.size w11 w16 := by rw [ew16]; exact (Below.refl _ _).alloc (Nat.le_refl _) _
            rw [← ew16]
            have Q_16 : Blk w16 w11.heap.size 24 #[.slice none 0 0, .slice none 0 0] := by rw [ew16]; exact heap_alloc_new _ _
            have geQ : wF.heap.size ≤ w11.heap.size := S11.size
            have lt9 := P_11.lt
            have A_16 := A_11.on hb16
            have B_16 := B_11.on hb16
            have u_16 := u_11.on hb16
            have P_16 := P_11.on hb16
            have S16 : (fun W => Below wF.heap.size wF W) w16 := stepB S11 hb16
            refine hK.out _ _ S16 (fun h16 => ?_)
            clear h11 hK K ew16
            try simp only [Act.put, List.setIfInBounds_toArray, List.set_cons_zero, List.set_cons_succ]
            refine wpAnyH_ready (rs := [7]) (by kernel_rfl) (by simp) ?_
            refine AllReadyH.cons (o := ⟨some 24, _, _, _, _, _⟩) rfl (fun K hK => ?_) AllReadyH.nil
            go_simp
            refine (join_lit A_16 B_16 (by omega) (by omega) (by omega) (by omega)).mono ?_
            rintro e w17 ⟨vA, vn, va, vB, vm, vb, rfl, v_17, vl, hb17⟩
            have A_17 := A_16.on hb17
            have B_17 := B_16.on hb17
            have u_17 := u_16.on hb17
            have P_17 := P_16.on hb17
            have Q_17 := Q_16.on hb17
            have S17 : (fun W => Below wF.heap.size wF W) w17 := stepB S16 hb17
            refine hK.out _ _ S17 (fun h17 => ?_)
            clear h16 hK K
            try simp only [Act.put, List.setIfInBounds_toArray, List.set_cons_zero, List.set_cons_succ]
            refine wpAnyH_ready (rs := [10]) (by kernel_rfl) (by simp) ?_
            refine AllReadyH.cons (o := ⟨none, _, _, _, _, _⟩) rfl (fun K hK => ?_) AllReadyH.nil
            rw [if_pos (by rfl)]
            refine wp_store_row 24 (.tmp 6) (.tmp 21) rfl w1.heap.size #[.slice uA un ua, .slice uB um ub] rfl rfl 24 _ P_17 size24 rfl (by simp [Value.oneCell']) ?_
            refine hK.out _ _ (below_row S17 (by omega) _) (fun h18 => ?_)
            clear h17 hK K
            have S18 : Below wF.heap.size wF ((w17).setRow w1.heap.size #[.slice uA un ua, .slice uB um ub]) := below_row S17 (by omega) _
            have u_18 := foot_row u_17 (z := w1.heap.size) #[.slice uA un ua, .slice uB um ub] (foot_off u_17 P_17).1 (foot_off u_17 P_17).2
            have v_18 := foot_row v_17 (z := w1.heap.size) #[.slice uA un ua, .slice uB um ub] (foot_off v_17 P_17).1 (foot_off v_17 P_17).2
            have P_18 : Blk ((w17).setRow w1.heap.size #[.slice uA un ua, .slice uB um ub]) w1.heap.size 24 #[.slice uA un ua, .slice uB um ub] := setRow_heap _ _ _ _ _ _ P_17
            have Q_18 : Blk ((w17).setRow w1.heap.size #[.slice uA un ua, .slice uB um ub]) w11.heap.size 24 #[.slice none 0 0, .slice none 0 0] := (setRow_other _ _ _ _ (by omega)).trans Q_17
            try simp only [Act.put]
            refine wpAnyH_ready (rs := [11]) (by kernel_rfl) (by simp) ?_
            refine AllReadyH.cons (o := ⟨none, _, _, _, _, _⟩) rfl (fun K hK => ?_) AllReadyH.nil
            rw [if_pos (by rfl)]
            refine wp_store_row 24 (.tmp 7) (.tmp 24) rfl w11.heap.size #[.slice vA vn va, .slice vB vm vb] rfl rfl 24 _ Q_18 size24 rfl (by simp [Value.oneCell']) ?_
            refine hK.out _ _ (below_row S18 (by omega) _) (fun h19 => ?_)
            clear h18 hK K
            have S19 : Below wF.heap.size wF ((((w17).setRow w1.heap.size #[.slice uA un ua, .slice uB um ub])).setRow w11.heap.size #[.slice vA vn va, .slice vB vm vb]) := below_row S18 (by omega) _
            have u_19 := foot_row u_18 (z := w11.heap.size) #[.slice vA vn va, .slice vB vm vb] (foot_off u_18 Q_18).1 (foot_off u_18 Q_18).2
            have v_19 := foot_row v_18 (z := w11.heap.size) #[.slice vA vn va, .slice vB vm vb] (foot_off v_18 Q_18).1 (foot_off v_18 Q_18).2
            have Q_19 : Blk ((((w17).setRow w1.heap.size #[.slice uA un ua, .slice uB um ub])).setRow w11.heap.size #[.slice vA vn va, .slice vB vm vb]) w11.heap.size 24 #[.slice vA vn va, .slice vB vm vb] := setRow_heap _ _ _ _ _ _ Q_18
            have P_19 : Blk ((((w17).setRow w1.heap.size #[.slice uA un ua, .slice uB um ub])).setRow w11.heap.size #[.slice vA vn va, .slice vB vm vb]) w1.heap.size 24 #[.slice uA un ua, .slice uB um ub] := (setRow_other _ _ _ _ (by omega)).trans P_18
            try simp only [Act.put]
            refine wpAnyH_done (by kernel_rfl) ?_ _
            refine NoPanic.normal ?_
            go_wp2_with fail
            go_meet
            exact ⟨_, _, rfl, rfl, S19, ⟨⟨uA, un, ua⟩, ⟨uB, um, ub⟩⟩, ⟨⟨vA, vn, va⟩, ⟨vB, vm, vb⟩⟩, P_19, Q_19, u_19, v_19, ul, vl⟩
        · go_simp
          obtain ⟨w20, ew20⟩ : ∃ zz, zz = w1.alloc (.cells #[.slice none 0 0, .slice none 0 0] 24) := ⟨_, rfl⟩
          have hb20 : Below w1.heap.size w1 w20 := by rw [ew20]; exact (Below.refl _ _).alloc (Nat.le_refl _) _
          rw [← ew20]
          have Q_20 : Blk w20 w1.heap.size 24 #[.slice none 0 0, .slice none 0 0] := by rw [ew20]; exact heap_alloc_new _ _
          have geQ : wF.heap.size ≤ w1.heap.size := S1.size
          have A_20 := A_1.on hb20
          have B_20 := B_1.on hb20
          have u_20 := u_1.on hb20
          have S20 : (fun W => Below wF.heap.size wF W) w20 := stepB S1 hb20
          refine hK.out _ _ S20 (fun h20 => ?_)
          clear h1 hK K ew20
          try simp only [Act.put, List.setIfInBounds_toArray, List.set_cons_zero, List.set_cons_succ]
          refine wpAnyH_ready (rs := [7, 8]) (by kernel_rfl) (by simp) ?_
          refine AllReadyH.cons (o := ⟨some 24, _, _, _, _, _⟩) rfl (fun K hK => ?_) (AllReadyH.cons (o := ⟨some 6, _, _, _, _, _⟩) rfl (fun K hK => ?_) AllReadyH.nil)
          · go_simp
            refine (join_lit A_20 B_20 (by omega) (by omega) (by omega) (by omega)).mono ?_
            rintro e w21 ⟨vA, vn, va, vB, vm, vb, rfl, v_21, vl, hb21⟩
            have A_21 := A_20.on hb21
            have B_21 := B_20.on hb21
            have u_21 := u_20.on hb21
            have Q_21 := Q_20.on hb21
            have S21 : (fun W => Below wF.heap.size wF W) w21 := stepB S20 hb21
            refine hK.out _ _ S21 (fun h21 => ?_)
            clear h20 hK K
            try simp only [Act.put, List.setIfInBounds_toArray, List.set_cons_zero, List.set_cons_succ]
            refine wpAnyH_ready (rs := [8]) (by kernel_rfl) (by simp) ?_
            refine AllReadyH.cons (o := ⟨some 6, _, _, _, _, _⟩) rfl (fun K hK => ?_) AllReadyH.nil
            go_simp
            obtain ⟨w22, ew22⟩ : ∃ zz, zz = w21.alloc (.cells #[.slice none 0 0, .slice none 0 0] 24) := ⟨_, rfl⟩
            have hb22 : Below w21.heap.size w21 w22 := by rw [ew22]; exact (Below.refl _ _).alloc (Nat.le_refl _) _
            rw [← ew22]
            have P_22 : Blk w22 w21.heap.size 24 #[.slice none 0 0, .slice none 0 0] := by rw [ew22]; exact heap_alloc_new _ _
            have geP : wF.heap.size ≤ w21.heap.size := S21.size
            have lt9 := Q_21.lt
            have A_22 := A_21.on hb22
            have B_22 := B_21.on hb22
            have u_22 := u_21.on hb22
            have Q_22 := Q_21.on hb22
            have v_22 := v_21.on hb22
            have S22 : (fun W => Below wF.heap.size wF W) w22 := stepB S21 hb22
            refine hK.out _ _ S22 (fun h22 => ?_)
            clear h21 hK K ew22
            try simp only [Act.put, List.setIfInBounds_toArray, List.set_cons_zero, List.set_cons_succ]
            refine wpAnyH_ready (rs := [10]) (by kernel_rfl) (by simp) ?_
            refine AllReadyH.cons (o := ⟨none, _, _, _, _, _⟩) rfl (fun K hK => ?_) AllReadyH.nil
            rw [if_pos (by rfl)]
            refine wp_store_row 24 (.tmp 6) (.tmp 21) rfl w21.heap.size #[.slice uA un ua, .slice uB um ub] rfl rfl 24 _ P_22 size24 rfl (by simp [Value.oneCell']) ?_
            refine hK.out _ _ (below_row S22 (by omega) _) (fun h23 => ?_)
            clear h22 hK K
            have S23 : Below wF.heap.size wF ((w22).setRow w21.heap.size #[.slice uA un ua, .slice uB um ub]) := below_row S22 (by omega) _
            have u_23 := foot_row u_22 (z := w21.heap.size) #[.slice uA un ua, .slice uB um ub] (foot_off u_22 P_22).1 (foot_off u_22 P_22).2
            have v_23 := foot_row v_22 (z := w21.heap.size) #[.slice uA un ua, .slice uB um ub] (foot_off v_22 P_22).1 (foot_off v_22 P_22).2
            have P_23 : Blk ((w22).setRow w21.heap.size #[.slice uA un ua, .slice uB um ub]) w21.heap.size 24 #[.slice uA un ua, .slice uB um ub] := setRow_heap _ _ _ _ _ _ P_22
            have Q_23 : Blk ((w22).setRow w21.heap.size #[.slice uA un ua, .slice uB um ub]) w1.heap.size 24 #[.slice none 0 0, .slice none 0 0] := (setRow_other _ _ _ _ (by omega)).trans Q_22
            try simp only [Act.put]
            refine wpAnyH_ready (rs := [11]) (by kernel_rfl) (by simp) ?_
            refine AllReadyH.cons (o := ⟨none, _, _, _, _, _⟩) rfl (fun K hK => ?_) AllReadyH.nil
            rw [if_pos (by rfl)]
            refine wp_store_row 24 (.tmp 7) (.tmp 24) rfl w1.heap.size #[.slice vA vn va, .slice vB vm vb] rfl rfl 24 _ Q_23 size24 rfl (by simp [Value.oneCell']) ?_
            refine hK.out _ _ (below_row S23 (by omega) _) (fun h24 => ?_)
            clear h23 hK K
            have S24 : Below wF.heap.size wF ((((w22).setRow w21.heap.size #[.slice uA un ua, .slice uB um ub])).setRow w1.heap.size #[.slice vA vn va, .slice vB vm vb]) := below_row S23 (by omega) _
            have u_24 := foot_row u_23 (z := w1.heap.size) #[.slice vA vn va, .slice vB vm vb] (foot_off u_23 Q_23).1 (foot_off u_23 Q_23).2
            have v_24 := foot_row v_23 (z := w1.heap.size) #[.slice vA vn va, .slice vB vm vb] (foot_off v_23 Q_23).1 (foot_off v_23 Q_23).2
            have Q_24 : Blk ((((w22).setRow w21.heap.size #[.slice uA un ua, .slice uB um ub])).setRow w1.heap.size #[.slice vA vn va, .slice vB vm vb]) w1.heap.size 24 #[.slice vA vn va, .slice vB vm vb] := setRow_heap _ _ _ _ _ _ Q_23
            have P_24 : Blk ((((w22).setRow w21.heap.size #[.slice uA un ua, .slice uB um ub])).setRow w1.heap.size #[.slice vA vn va, .slice vB vm vb]) w21.heap.size 24 #[.slice uA un ua, .slice uB um ub] := (setRow_other _ _ _ _ (by omega)).trans P_23
            try simp only [Act.put]
            refine wpAnyH_done (by kernel_rfl) ?_ _
            refine NoPanic.normal ?_
            go_wp2_with fail
            go_meet
            exact ⟨_, _, rfl, rfl, S24, ⟨⟨uA, un, ua⟩, ⟨uB, um, ub⟩⟩, ⟨⟨vA, vn, va⟩, ⟨vB, vm, vb⟩⟩, P_24, Q_24, u_24, v_24, ul, vl⟩
          · go_simp
            obtain ⟨w25, ew25⟩ : ∃ zz, zz = w20.alloc (.cells #[.slice none 0 0, .slice none 0 0] 24) := ⟨_, rfl⟩
            have hb25 : Below w20.heap.size w20 w25 := by rw [ew25]; exact (Below.refl _ _).alloc (Nat.le_refl _) _
            rw [← ew25]
            have P_25 : Blk w25 w20.heap.size 24 #[.slice none 0 0, .slice none 0 0] := by rw [ew25]; exact heap_alloc_new _ _
            have geP : wF.heap.size ≤ w20.heap.size := S20.size
            have lt9 := Q_20.lt
            have A_25 := A_20.on hb25
            have B_25 := B_20.on hb25
            have u_25 := u_20.on hb25
            have Q_25 := Q_20.on hb25
            have S25 : (fun W => Below wF.heap.size wF W) w25 := stepB S20 hb25
            refine hK.out _ _ S25 (fun h25 => ?_)
            clear h20 hK K ew25
            try simp only [Act.put, List.setIfInBounds_toArray, List.set_cons_zero, List.set_cons_succ]
            refine wpAnyH_ready (rs := [7]) (by kernel_rfl) (by simp) ?_
            refine AllReadyH.cons (o := ⟨some 24, _, _, _, _, _⟩) rfl (fun K hK => ?_) AllReadyH.nil
            go_simp
            refine (join_lit A_25 B_25 (by omega) (by omega) (by omega) (by omega)).mono ?_
            rintro e w26 ⟨vA, vn, va, vB, vm, vb, rfl, v_26, vl, hb26⟩
            have A_26 := A_25.on hb26
            have B_26 := B_25.on hb26
            have u_26 := u_25.on hb26
            have Q_26 := Q_25.on hb26
            have P_26 := P_25.on hb26
            have S26 : (fun W => Below wF.heap.size wF W) w26 := stepB S25 hb26
            refine hK.out _ _ S26 (fun h26 => ?_)
            clear h25 hK K
            try simp only [Act.put, List.setIfInBounds_toArray, List.set_cons_zero, List.set_cons_succ]
            refine wpAnyH_ready (rs := [10]) (by kernel_rfl) (by simp) ?_
            refine AllReadyH.cons (o := ⟨none, _, _, _, _, _⟩) rfl (fun K hK => ?_) AllReadyH.nil
            rw [if_pos (by rfl)]
            refine wp_store_row 24 (.tmp 6) (.tmp 21) rfl w20.heap.size #[.slice uA un ua, .slice uB um ub] rfl rfl 24 _ P_26 size24 rfl (by simp [Value.oneCell']) ?_
            refine hK.out _ _ (below_row S26 (by omega) _) (fun h27 => ?_)
            clear h26 hK K
            have S27 : Below wF.heap.size wF ((w26).setRow w20.heap.size #[.slice uA un ua, .slice uB um ub]) := below_row S26 (by omega) _
            have u_27 := foot_row u_26 (z := w20.heap.size) #[.slice uA un ua, .slice uB um ub] (foot_off u_26 P_26).1 (foot_off u_26 P_26).2
            have v_27 := foot_row v_26 (z := w20.heap.size) #[.slice uA un ua, .slice uB um ub] (foot_off v_26 P_26).1 (foot_off v_26 P_26).2
            have P_27 : Blk ((w26).setRow w20.heap.size #[.slice uA un ua, .slice uB um ub]) w20.heap.size 24 #[.slice uA un ua, .slice uB um ub] := setRow_heap _ _ _ _ _ _ P_26
            have Q_27 : Blk ((w26).setRow w20.heap.size #[.slice uA un ua, .slice uB um ub]) w1.heap.size 24 #[.slice none 0 0, .slice none 0 0] := (setRow_other _ _ _ _ (by omega)).trans Q_26
            try simp only [Act.put]
            refine wpAnyH_ready (rs := [11]) (by kernel_rfl) (by simp) ?_
            refine AllReadyH.cons (o := ⟨none, _, _, _, _, _⟩) rfl (fun K hK => ?_) AllReadyH.nil
            rw [if_pos (by rfl)]
            refine wp_store_row 24 (.tmp 7) (.tmp 24) rfl w1.heap.size #[.slice vA vn va, .slice vB vm vb] rfl rfl 24 _ Q_27 size24 rfl (by simp [Value.oneCell']) ?_
            refine hK.out _ _ (below_row S27 (by omega) _) (fun h28 => ?_)
            clear h27 hK K
            have S28 : Below wF.heap.size wF ((((w26).setRow w20.heap.size #[.slice uA un ua, .slice uB um ub])).setRow w1.heap.size #[.slice vA vn va, .slice vB vm vb]) := below_row S27 (by omega) _
            have u_28 := foot_row u_27 (z := w1.heap.size) #[.slice vA vn va, .slice vB vm vb] (foot_off u_27 Q_27).1 (foot_off u_27 Q_27).2
            have v_28 := foot_row v_27 (z := w1.heap.size) #[.slice vA vn va, .slice vB vm vb] (foot_off v_27 Q_27).1 (foot_off v_27 Q_27).2
            have Q_28 : Blk ((((w26).setRow w20.heap.size #[.slice uA un ua, .slice uB um ub])).setRow w1.heap.size #[.slice vA vn va, .slice vB vm vb]) w1.heap.size 24 #[.slice vA vn va, .slice vB vm vb] := setRow_heap _ _ _ _ _ _ Q_27
            have P_28 : Blk ((((w26).setRow w20.heap.size #[.slice uA un ua, .slice uB um ub])).setRow w1.heap.size #[.slice vA vn va, .slice vB vm vb]) w20.heap.size 24 #[.slice uA un ua, .slice uB um ub] := (setRow_other _ _ _ _ (by omega)).trans P_27
            try simp only [Act.put]
            refine wpAnyH_done (by kernel_rfl) ?_ _
            refine NoPanic.normal ?_
            go_wp2_with fail
            go_meet
            exact ⟨_, _, rfl, rfl, S28, ⟨⟨uA, un, ua⟩, ⟨uB, um, ub⟩⟩, ⟨⟨vA, vn, va⟩, ⟨vB, vm, vb⟩⟩, P_28, Q_28, u_28, v_28, ul, vl⟩
      · go_simp
        obtain ⟨w29, ew29⟩ : ∃ zz, zz = wd.alloc (.cells #[.slice none 0 0, .slice none 0 0] 24) := ⟨_, rfl⟩
        have hb29 : Below wd.heap.size wd w29 := by rw [ew29]; exact (Below.refl _ _).alloc (Nat.le_refl _) _
        rw [← ew29]
        have P_29 : Blk w29 wd.heap.size 24 #[.slice none 0 0, .slice none 0 0] := by rw [ew29]; exact heap_alloc_new _ _
        have geP : wF.heap.size ≤ wd.heap.size := k4.size
        have A_29 := GA.on hb29
        have B_29 := GB.on hb29
        have S29 : (fun W => Below wF.heap.size wF W) w29 := stepB k4 hb29
        refine hK.out _ _ S29 (fun h29 => ?_)
        clear hHeld hK K ew29
        try simp only [Act.put, List.setIfInBounds_toArray, List.set_cons_zero, List.set_cons_succ]
        refine wpAnyH_ready (rs := [4, 9]) (by kernel_rfl) (by simp) ?_
        refine AllReadyH.cons (o := ⟨some 21, _, _, _, _, _⟩) rfl (fun K hK => ?_) (AllReadyH.cons (o := ⟨some 7, _, _, _, _, _⟩) rfl (fun K hK => ?_) AllReadyH.nil)
        · go_simp
          refine (of_lit2 A_29 (by omega) (by omega)).mono ?_
          rintro e w30 ⟨uA, un, ua, uB, um, ub, rfl, u_30, ul, hb30⟩
          have A_30 := A_29.on hb30
          have B_30 := B_29.on hb30
          have P_30 := P_29.on hb30
          have S30 : (fun W => Below wF.heap.size wF W) w30 := stepB S29 hb30
          refine hK.out _ _ S30 (fun h30 => ?_)
          clear h29 hK K
          try simp only [Act.put, List.setIfInBounds_toArray, List.set_cons_zero, List.set_cons_succ]
          refine wpAnyH_ready (rs := [7, 9]) (by kernel_rfl) (by simp) ?_
          refine AllReadyH.cons (o := ⟨some 24, _, _, _, _, _⟩) rfl (fun K hK => ?_) (AllReadyH.cons (o := ⟨some 7, _, _, _, _, _⟩) rfl (fun K hK => ?_) AllReadyH.nil)
          · go_simp
            refine (join_lit A_30 B_30 (by omega) (by omega) (by omega) (by omega)).mono ?_
            rintro e w31 ⟨vA, vn, va, vB, vm, vb, rfl, v_31, vl, hb31⟩
            have A_31 := A_30.on hb31
            have B_31 := B_30.on hb31
            have P_31 := P_30.on hb31
            have u_31 := u_30.on hb31
            have S31 : (fun W => Below wF.heap.size wF W) w31 := stepB S30 hb31
            refine hK.out _ _ S31 (fun h31 => ?_)
            clear h30 hK K
            try simp only [Act.put, List.setIfInBounds_toArray, List.set_cons_zero, List.set_cons_succ]
            refine wpAnyH_ready (rs := [9]) (by kernel_rfl) (by simp) ?_
            refine AllReadyH.cons (o := ⟨some 7, _, _, _, _, _⟩) rfl (fun K hK => ?_) AllReadyH.nil
            go_simp
            obtain ⟨w32, ew32⟩ : ∃ zz, zz = w31.alloc (.cells #[.slice none 0 0, .slice none 0 0] 24) := ⟨_, rfl⟩
            have hb32 : Below w31.heap.size w31 w32 := by rw [ew32]; exact (Below.refl _ _).alloc (Nat.le_refl _) _
            rw [← ew32]
            have Q_32 : Blk w32 w31.heap.size 24 #[.slice none 0 0, .slice none 0 0] := by rw [ew32]; exact heap_alloc_new _ _
            have geQ : wF.heap.size ≤ w31.heap.size := S31.size
            have lt9 := P_31.lt
            have A_32 := A_31.on hb32
            have B_32 := B_31.on hb32
            have P_32 := P_31.on hb32
            have u_32 := u_31.on hb32
            have v_32 := v_31.on hb32
            have S32 : (fun W => Below wF.heap.size wF W) w32 := stepB S31 hb32
            refine hK.out _ _ S32 (fun h32 => ?_)
            clear h31 hK K ew32
            try simp only [Act.put, List.setIfInBounds_toArray, List.set_cons_zero, List.set_cons_succ]
            refine wpAnyH_ready (rs := [10]) (by kernel_rfl) (by simp) ?_
            refine AllReadyH.cons (o := ⟨none, _, _, _, _, _⟩) rfl (fun K hK => ?_) AllReadyH.nil
            rw [if_pos (by rfl)]
            refine wp_store_row 24 (.tmp 6) (.tmp 21) rfl wd.heap.size #[.slice uA un ua, .slice uB um ub] rfl rfl 24 _ P_32 size24 rfl (by simp [Value.oneCell']) ?_
            refine hK.out _ _ (below_row S32 (by omega) _) (fun h33 => ?_)
            clear h32 hK K
            have S33 : Below wF.heap.size wF ((w32).setRow wd.heap.size #[.slice uA un ua, .slice uB um ub]) := below_row S32 (by omega) _
            have u_33 := foot_row u_32 (z := wd.heap.size) #[.slice uA un ua, .slice uB um ub] (foot_off u_32 P_32).1 (foot_off u_32 P_32).2
            have v_33 := foot_row v_32 (z := wd.heap.size) #[.slice uA un ua, .slice uB um ub] (foot_off v_32 P_32).1 (foot_off v_32 P_32).2
            have P_33 : Blk ((w32).setRow wd.heap.size #[.slice uA un ua, .slice uB um ub]) wd.heap.size 24 #[.slice uA un ua, .slice uB um ub] := setRow_heap _ _ _ _ _ _ P_32
            have Q_33 : Blk ((w32).setRow wd.heap.size #[.slice uA un ua, .slice uB um ub]) w31.heap.size 24 #[.slice none 0 0, .slice none 0 0] := (setRow_other _ _ _ _ (by omega)).trans Q_32
            try simp only [Act.put]
            refine wpAnyH_ready (rs := [11]) (by kernel_rfl) (by simp) ?_
            refine AllReadyH.cons (o := ⟨none, _, _, _, _, _⟩) rfl (fun K hK => ?_) AllReadyH.nil
            rw [if_pos (by rfl)]
            refine wp_store_row 24 (.tmp 7) (.tmp 24) rfl w31.heap.size #[.slice vA vn va, .slice vB vm vb] rfl rfl 24 _ Q_33 size24 rfl (by simp [Value.oneCell']) ?_
            refine hK.out _ _ (below_row S33 (by omega) _) (fun h34 => ?_)
            clear h33 hK K
            have S34 : Below wF.heap.size wF ((((w32).setRow wd.heap.size #[.slice uA un ua, .slice uB um ub])).setRow w31.heap.size #[.slice vA vn va, .slice vB vm vb]) := below_row S33 (by omega) _
            have u_34 := foot_row u_33 (z := w31.heap.size) #[.slice vA vn va, .slice vB vm vb] (foot_off u_33 Q_33).1 (foot_off u_33 Q_33).2
            have v_34 := foot_row v_33 (z := w31.heap.size) #[.slice vA vn va, .slice vB vm vb] (foot_off v_33 Q_33).1 (foot_off v_33 Q_33).2
            have Q_34 : Blk ((((w32).setRow wd.heap.size #[.slice uA un ua, .slice uB um ub])).setRow w31.heap.size #[.slice vA vn va, .slice vB vm vb]) w31.heap.size 24 #[.slice vA vn va, .slice vB vm vb] := setRow_heap _ _ _ _ _ _ Q_33
            have P_34 : Blk ((((w32).setRow wd.heap.size #[.slice uA un ua, .slice uB um ub])).setRow w31.heap.size #[.slice vA vn va, .slice vB vm vb]) wd.heap.size 24 #[.slice uA un ua, .slice uB um ub] := (setRow_other _ _ _ _ (by omega)).trans P_33
            try simp only [Act.put]
            refine wpAnyH_done (by kernel_rfl) ?_ _
            refine NoPanic.normal ?_
            go_wp2_with fail
            go_meet
            exact ⟨_, _, rfl, rfl, S34, ⟨⟨uA, un, ua⟩, ⟨uB, um, ub⟩⟩, ⟨⟨vA, vn, va⟩, ⟨vB, vm, vb⟩⟩, P_34, Q_34, u_34, v_34, ul, vl⟩
          · go_simp
            obtain ⟨w35, ew35⟩ : ∃ zz, zz = w30.alloc (.cells #[.slice none 0 0, .slice none 0 0] 24) := ⟨_, rfl⟩
            have hb35 : Below w30.heap.size w30 w35 := by rw [ew35]; exact (Below.refl _ _).alloc (Nat.le_refl _) _
            rw [← ew35]
            have Q_35 : Blk w35 w30.heap.size 24 #[.slice none 0 0, .slice none 0 0] := by rw [ew35]; exact heap_alloc_new _ _
            have geQ : wF.heap.size ≤ w30.heap.size := S30.size
            have lt9 := P_30.lt
            have A_35 := A_30.on hb35
            have B_35 := B_30.on hb35
            have P_35 := P_30.on hb35
            have u_35 := u_30.on hb35
            have S35 : (fun W => Below wF.heap.size wF W) w35 := stepB S30 hb35
            refine hK.out _ _ S35 (fun h35 => ?_)
            clear h30 hK K ew35
            try simp only [Act.put, List.setIfInBounds_toArray, List.set_cons_zero, List.set_cons_succ]
            refine wpAnyH_ready (rs := [7]) (by kernel_rfl) (by simp) ?_
            refine AllReadyH.cons (o := ⟨some 24, _, _, _, _, _⟩) rfl (fun K hK => ?_) AllReadyH.nil
            go_simp
            refine (join_lit A_35 B_35 (by omega) (by omega) (by omega) (by omega)).mono ?_
            rintro e w36 ⟨vA, vn, va, vB, vm, vb, rfl, v_36, vl, hb36⟩
            have A_36 := A_35.on hb36
            have B_36 := B_35.on hb36
            have P_36 := P_35.on hb36
            have u_36 := u_35.on hb36
            have Q_36 := Q_35.on hb36
            have S36 : (fun W => Below wF.heap.size wF W) w36 := stepB S35 hb36
            refine hK.out _ _ S36 (fun h36 => ?_)
            clear h35 hK K
            try simp only [Act.put, List.setIfInBounds_toArray, List.set_cons_zero, List.set_cons_succ]
            refine wpAnyH_ready (rs := [10]) (by kernel_rfl) (by simp) ?_
            refine AllReadyH.cons (o := ⟨none, _, _, _, _, _⟩) rfl (fun K hK => ?_) AllReadyH.nil
            rw [if_pos (by rfl)]
            refine wp_store_row 24 (.tmp 6) (.tmp 21) rfl wd.heap.size #[.slice uA un ua, .slice uB um ub] rfl rfl 24 _ P_36 size24 rfl (by simp [Value.oneCell']) ?_
            refine hK.out _ _ (below_row S36 (by omega) _) (fun h37 => ?_)
            clear h36 hK K
            have S37 : Below wF.heap.size wF ((w36).setRow wd.heap.size #[.slice uA un ua, .slice uB um ub]) := below_row S36 (by omega) _
            have u_37 := foot_row u_36 (z := wd.heap.size) #[.slice uA un ua, .slice uB um ub] (foot_off u_36 P_36).1 (foot_off u_36 P_36).2
            have v_37 := foot_row v_36 (z := wd.heap.size) #[.slice uA un ua, .slice uB um ub] (foot_off v_36 P_36).1 (foot_off v_36 P_36).2
            have P_37 : Blk ((w36).setRow wd.heap.size #[.slice uA un ua, .slice uB um ub]) wd.heap.size 24 #[.slice uA un ua, .slice uB um ub] := setRow_heap _ _ _ _ _ _ P_36
            have Q_37 : Blk ((w36).setRow wd.heap.size #[.slice uA un ua, .slice uB um ub]) w30.heap.size 24 #[.slice none 0 0, .slice none 0 0] := (setRow_other _ _ _ _ (by omega)).trans Q_36
            try simp only [Act.put]
            refine wpAnyH_ready (rs := [11]) (by kernel_rfl) (by simp) ?_
            refine AllReadyH.cons (o := ⟨none, _, _, _, _, _⟩) rfl (fun K hK => ?_) AllReadyH.nil
            rw [if_pos (by rfl)]
            refine wp_store_row 24 (.tmp 7) (.tmp 24) rfl w30.heap.size #[.slice vA vn va, .slice vB vm vb] rfl rfl 24 _ Q_37 size24 rfl (by simp [Value.oneCell']) ?_
            refine hK.out _ _ (below_row S37 (by omega) _) (fun h38 => ?_)
            clear h37 hK K
            have S38 : Below wF.heap.size wF ((((w36).setRow wd.heap.size #[.slice uA un ua, .slice uB um ub])).setRow w30.heap.size #[.slice vA vn va, .slice vB vm vb]) := below_row S37 (by omega) _
            have u_38 := foot_row u_37 (z := w30.heap.size) #[.slice vA vn va, .slice vB vm vb] (foot_off u_37 Q_37).1 (foot_off u_37 Q_37).2
            have v_38 := foot_row v_37 (z := w30.heap.size) #[.slice vA vn va, .slice vB vm vb] (foot_off v_37 Q_37).1 (foot_off v_37 Q_37).2
            have Q_38 : Blk ((((w36).setRow wd.heap.size #[.slice uA un ua, .slice uB um ub])).setRow w30.heap.size #[.slice vA vn va, .slice vB vm vb]) w30.heap.size 24 #[.slice vA vn va, .slice vB vm vb] := setRow_heap _ _ _ _ _ _ Q_37
            have P_38 : Blk ((((w36).setRow wd.heap.size #[.slice uA un ua, .slice uB um ub])).setRow w30.heap.size #[.slice vA vn va, .slice vB vm vb]) wd.heap.size 24 #[.slice uA un ua, .slice uB um ub] := (setRow_other _ _ _ _ (by omega)).trans P_37
            try simp only [Act.put]
            refine wpAnyH_done (by kernel_rfl) ?_ _
            refine NoPanic.normal ?_
            go_wp2_with fail
            go_meet
            exact ⟨_, _, rfl, rfl, S38, ⟨⟨uA, un, ua⟩, ⟨uB, um, ub⟩⟩, ⟨⟨vA, vn, va⟩, ⟨vB, vm, vb⟩⟩, P_38, Q_38, u_38, v_38, ul, vl⟩
        · go_simp
          obtain ⟨w39, ew39⟩ : ∃ zz, zz = w29.alloc (.cells #[.slice none 0 0, .slice none 0 0] 24) := ⟨_, rfl⟩
          have hb39 : Below w29.heap.size w29 w39 := by rw [ew39]; exact (Below.refl _ _).alloc (Nat.le_refl _) _
          rw [← ew39]
          have Q_39 : Blk w39 w29.heap.size 24 #[.slice none 0 0, .slice none 0 0] := by rw [ew39]; exact heap_alloc_new _ _
          have geQ : wF.heap.size ≤ w29.heap.size := S29.size
          have lt9 := P_29.lt
          have A_39 := A_29.on hb39
          have B_39 := B_29.on hb39
          have P_39 := P_29.on hb39
          have S39 : (fun W => Below wF.heap.size wF W) w39 := stepB S29 hb39
          refine hK.out _ _ S39 (fun h39 => ?_)
          clear h29 hK K ew39
          try simp only [Act.put, List.setIfInBounds_toArray, List.set_cons_zero, List.set_cons_succ]
          refine wpAnyH_ready (rs := [4]) (by kernel_rfl) (by simp) ?_
          refine AllReadyH.cons (o := ⟨some 21, _, _, _, _, _⟩) rfl (fun K hK => ?_) AllReadyH.nil
          go_simp
          refine (of_lit2 A_39 (by omega) (by omega)).mono ?_
          rintro e w40 ⟨uA, un, ua, uB, um, ub, rfl, u_40, ul, hb40⟩
          have A_40 := A_39.on hb40
          have B_40 := B_39.on hb40
          have P_40 := P_39.on hb40
          have Q_40 := Q_39.on hb40
          have S40 : (fun W => Below wF.heap.size wF W) w40 := stepB S39 hb40
          refine hK.out _ _ S40 (fun h40 => ?_)
          clear h39 hK K
          try simp only [Act.put, List.setIfInBounds_toArray, List.set_cons_zero, List.set_cons_succ]
          refine wpAnyH_ready (rs := [7]) (by kernel_rfl) (by simp) ?_
          refine AllReadyH.cons (o := ⟨some 24, _, _, _, _, _⟩) rfl (fun K hK => ?_) AllReadyH.nil
          go_simp
          refine (join_lit A_40 B_40 (by omega) (by omega) (by omega) (by omega)).mono ?_
          rintro e w41 ⟨vA, vn, va, vB, vm, vb, rfl, v_41, vl, hb41⟩
          have A_41 := A_40.on hb41
          have B_41 := B_40.on hb41
          have P_41 := P_40.on hb41
          have Q_41 := Q_40.on hb41
          have u_41 := u_40.on hb41
          have S41 : (fun W => Below wF.heap.size wF W) w41 := stepB S40 hb41
          refine hK.out _ _ S41 (fun h41 => ?_)
          clear h40 hK K
          try simp only [Act.put, List.setIfInBounds_toArray, List.set_cons_zero, List.set_cons_succ]
          refine wpAnyH_ready (rs := [10]) (by kernel_rfl) (by simp) ?_
          refine AllReadyH.cons (o := ⟨none, _, _, _, _, _⟩) rfl (fun K hK => ?_) AllReadyH.nil
          rw [if_pos (by rfl)]
          refine wp_store_row 24 (.tmp 6) (.tmp 21) rfl wd.heap.size #[.slice uA un ua, .slice uB um ub] rfl rfl 24 _ P_41 size24 rfl (by simp [Value.oneCell']) ?_
          refine hK.out _ _ (below_row S41 (by omega) _) (fun h42 => ?_)
          clear h41 hK K
          have S42 : Below wF.heap.size wF ((w41).setRow wd.heap.size #[.slice uA un ua, .slice uB um ub]) := below_row S41 (by omega) _
          have u_42 := foot_row u_41 (z := wd.heap.size) #[.slice uA un ua, .slice uB um ub] (foot_off u_41 P_41).1 (foot_off u_41 P_41).2
          have v_42 := foot_row v_41 (z := wd.heap.size) #[.slice uA un ua, .slice uB um ub] (foot_off v_41 P_41).1 (foot_off v_41 P_41).2
          have P_42 : Blk ((w41).setRow wd.heap.size #[.slice uA un ua, .slice uB um ub]) wd.heap.size 24 #[.slice uA un ua, .slice uB um ub] := setRow_heap _ _ _ _ _ _ P_41
          have Q_42 : Blk ((w41).setRow wd.heap.size #[.slice uA un ua, .slice uB um ub]) w29.heap.size 24 #[.slice none 0 0, .slice none 0 0] := (setRow_other _ _ _ _ (by omega)).trans Q_41
          try simp only [Act.put]
          refine wpAnyH_ready (rs := [11]) (by kernel_rfl) (by simp) ?_
          refine AllReadyH.cons (o := ⟨none, _, _, _, _, _⟩) rfl (fun K hK => ?_) AllReadyH.nil
          rw [if_pos (by rfl)]
          refine wp_store_row 24 (.tmp 7) (.tmp 24) rfl w29.heap.size #[.slice vA vn va, .slice vB vm vb] rfl rfl 24 _ Q_42 size24 rfl (by simp [Value.oneCell']) ?_
          refine hK.out _ _ (below_row S42 (by omega) _) (fun h43 => ?_)
          clear h42 hK K
          have S43 : Below wF.heap.size wF ((((w41).setRow wd.heap.size #[.slice uA un ua, .slice uB um ub])).setRow w29.heap.size #[.slice vA vn va, .slice vB vm vb]) := below_row S42 (by omega) _
          have u_43 := foot_row u_42 (z := w29.heap.size) #[.slice vA vn va, .slice vB vm vb] (foot_off u_42 Q_42).1 (foot_off u_42 Q_42).2
          have v_43 := foot_row v_42 (z := w29.heap.size) #[.slice vA vn va, .slice vB vm vb] (foot_off v_42 Q_42).1 (foot_off v_42 Q_42).2
          have Q_43 : Blk ((((w41).setRow wd.heap.size #[.slice uA un ua, .slice uB um ub])).setRow w29.heap.size #[.slice vA vn va, .slice vB vm vb]) w29.heap.size 24 #[.slice vA vn va, .slice vB vm vb] := setRow_heap _ _ _ _ _ _ Q_42
          have P_43 : Blk ((((w41).setRow wd.heap.size #[.slice uA un ua, .slice uB um ub])).setRow w29.heap.size #[.slice vA vn va, .slice vB vm vb]) wd.heap.size 24 #[.slice uA un ua, .slice uB um ub] := (setRow_other _ _ _ _ (by omega)).trans P_42
          try simp only [Act.put]
          refine wpAnyH_done (by kernel_rfl) ?_ _
          refine NoPanic.normal ?_
          go_wp2_with fail
          go_meet
          exact ⟨_, _, rfl, rfl, S43, ⟨⟨uA, un, ua⟩, ⟨uB, um, ub⟩⟩, ⟨⟨vA, vn, va⟩, ⟨vB, vm, vb⟩⟩, P_43, Q_43, u_43, v_43, ul, vl⟩
      · go_simp
        obtain ⟨w44, ew44⟩ : ∃ zz, zz = wd.alloc (.cells #[.slice none 0 0, .slice none 0 0] 24) := ⟨_, rfl⟩
        have hb44 : Below wd.heap.size wd w44 := by rw [ew44]; exact (Below.refl _ _).alloc (Nat.le_refl _) _
        rw [← ew44]
        have Q_44 : Blk w44 wd.heap.size 24 #[.slice none 0 0, .slice none 0 0] := by rw [ew44]; exact heap_alloc_new _ _
        have geQ : wF.heap.size ≤ wd.heap.size := k4.size
        have A_44 := GA.on hb44
        have B_44 := GB.on hb44
        have S44 : (fun W => Below wF.heap.size wF W) w44 := stepB k4 hb44
        refine hK.out _ _ S44 (fun h44 => ?_)
        clear hHeld hK K ew44
        try simp only [Act.put, List.setIfInBounds_toArray, List.set_cons_zero, List.set_cons_succ]
        refine wpAnyH_ready (rs := [4, 8]) (by kernel_rfl) (by simp) ?_
        refine AllReadyH.cons (o := ⟨some 21, _, _, _, _, _⟩) rfl (fun K hK => ?_) (AllReadyH.cons (o := ⟨some 6, _, _, _, _, _⟩) rfl (fun K hK => ?_) AllReadyH.nil)
        · go_simp
          refine (of_lit2 A_44 (by omega) (by omega)).mono ?_
          rintro e w45 ⟨uA, un, ua, uB, um, ub, rfl, u_45, ul, hb45⟩
          have A_45 := A_44.on hb45
          have B_45 := B_44.on hb45
          have Q_45 := Q_44.on hb45
          have S45 : (fun W => Below wF.heap.size wF W) w45 := stepB S44 hb45
          refine hK.out _ _ S45 (fun h45 => ?_)
          clear h44 hK K
          try simp only [Act.put, List.setIfInBounds_toArray, List.set_cons_zero, List.set_cons_succ]
          refine wpAnyH_ready (rs := [7, 8]) (by kernel_rfl) (by simp) ?_
          refine AllReadyH.cons (o := ⟨some 24, _, _, _, _, _⟩) rfl (fun K hK => ?_) (AllReadyH.cons (o := ⟨some 6, _, _, _, _, _⟩) rfl (fun K hK => ?_) AllReadyH.nil)
          · go_simp
            refine (join_lit A_45 B_45 (by omega) (by omega) (by omega) (by omega)).mono ?_
            rintro e w46 ⟨vA, vn, va, vB, vm, vb, rfl, v_46, vl, hb46⟩
            have A_46 := A_45.on hb46
            have B_46 := B_45.on hb46
            have Q_46 := Q_45.on hb46
            have u_46 := u_45.on hb46
            have S46 : (fun W => Below wF.heap.size wF W) w46 := stepB S45 hb46
            refine hK.out _ _ S46 (fun h46 => ?_)
            clear h45 hK K
            try simp only [Act.put, List.setIfInBounds_toArray, List.set_cons_zero, List.set_cons_succ]
            refine wpAnyH_ready (rs := [8]) (by kernel_rfl) (by simp) ?_
            refine AllReadyH.cons (o := ⟨some 6, _, _, _, _, _⟩) rfl (fun K hK => ?_) AllReadyH.nil
            go_simp
            obtain ⟨w47, ew47⟩ : ∃ zz, zz = w46.alloc (.cells #[.slice none 0 0, .slice none 0 0] 24) := ⟨_, rfl⟩
            have hb47 : Below w46.heap.size w46 w47 := by rw [ew47]; exact (Below.refl _ _).alloc (Nat.le_refl _) _
            rw [← ew47]
            have P_47 : Blk w47 w46.heap.size 24 #[.slice none 0 0, .slice none 0 0] := by rw [ew47]; exact heap_alloc_new _ _
            have geP : wF.heap.size ≤ w46.heap.size := S46.size
            have lt9 := Q_46.lt
            have A_47 := A_46.on hb47
            have B_47 := B_46.on hb47
            have Q_47 := Q_46.on hb47
            have u_47 := u_46.on hb47
            have v_47 := v_46.on hb47
            have S47 : (fun W => Below wF.heap.size wF W) w47 := stepB S46 hb47
            refine hK.out _ _ S47 (fun h47 => ?_)
            clear h46 hK K ew47
            try simp only [Act.put, List.setIfInBounds_toArray, List.set_cons_zero, List.set_cons_succ]
            refine wpAnyH_ready (rs := [10]) (by kernel_rfl) (by simp) ?_
            refine AllReadyH.cons (o := ⟨none, _, _, _, _, _⟩) rfl (fun K hK => ?_) AllReadyH.nil
            rw [if_pos (by rfl)]
            refine wp_store_row 24 (.tmp 6) (.tmp 21) rfl w46.heap.size #[.slice uA un ua, .slice uB um ub] rfl rfl 24 _ P_47 size24 rfl (by simp [Value.oneCell']) ?_
            refine hK.out _ _ (below_row S47 (by omega) _) (fun h48 => ?_)
            clear h47 hK K
            have S48 : Below wF.heap.size wF ((w47).setRow w46.heap.size #[.slice uA un ua, .slice uB um ub]) := below_row S47 (by omega) _
            have u_48 := foot_row u_47 (z := w46.heap.size) #[.slice uA un ua, .slice uB um ub] (foot_off u_47 P_47).1 (foot_off u_47 P_47).2
            have v_48 := foot_row v_47 (z := w46.heap.size) #[.slice uA un ua, .slice uB um ub] (foot_off v_47 P_47).1 (foot_off v_47 P_47).2
            have P_48 : Blk ((w47).setRow w46.heap.size #[.slice uA un ua, .slice uB um ub]) w46.heap.size 24 #[.slice uA un ua, .slice uB um ub] := setRow_heap _ _ _ _ _ _ P_47
            have Q_48 : Blk ((w47).setRow w46.heap.size #[.slice uA un ua, .slice uB um ub]) wd.heap.size 24 #[.slice none 0 0, .slice none 0 0] := (setRow_other _ _ _ _ (by omega)).trans Q_47
            try simp only [Act.put]
            refine wpAnyH_ready (rs := [11]) (by kernel_rfl) (by simp) ?_
            refine AllReadyH.cons (o := ⟨none, _, _, _, _, _⟩) rfl (fun K hK => ?_) AllReadyH.nil
            rw [if_pos (by rfl)]
            refine wp_store_row 24 (.tmp 7) (.tmp 24) rfl wd.heap.size #[.slice vA vn va, .slice vB vm vb] rfl rfl 24 _ Q_48 size24 rfl (by simp [Value.oneCell']) ?_
            refine hK.out _ _ (below_row S48 (by omega) _) (fun h49 => ?_)
            clear h48 hK K
            have S49 : Below wF.heap.size wF ((((w47).setRow w46.heap.size #[.slice uA un ua, .slice uB um ub])).setRow wd.heap.size #[.slice vA vn va, .slice vB vm vb]) := below_row S48 (by omega) _
            have u_49 := foot_row u_48 (z := wd.heap.size) #[.slice vA vn va, .slice vB vm vb] (foot_off u_48 Q_48).1 (foot_off u_48 Q_48).2
            have v_49 := foot_row v_48 (z := wd.heap.size) #[.slice vA vn va, .slice vB vm vb] (foot_off v_48 Q_48).1 (foot_off v_48 Q_48).2
            have Q_49 : Blk ((((w47).setRow w46.heap.size #[.slice uA un ua, .slice uB um ub])).setRow wd.heap.size #[.slice vA vn va, .slice vB vm vb]) wd.heap.size 24 #[.slice vA vn va, .slice vB vm vb] := setRow_heap _ _ _ _ _ _ Q_48
            have P_49 : Blk ((((w47).setRow w46.heap.size #[.slice uA un ua, .slice uB um ub])).setRow wd.heap.size #[.slice vA vn va, .slice vB vm vb]) w46.heap.size 24 #[.slice uA un ua, .slice uB um ub] := (setRow_other _ _ _ _ (by omega)).trans P_48
            try simp only [Act.put]
            refine wpAnyH_done (by kernel_rfl) ?_ _
            refine NoPanic.normal ?_
            go_wp2_with fail
            go_meet
            exact ⟨_, _, rfl, rfl, S49, ⟨⟨uA, un, ua⟩, ⟨uB, um, ub⟩⟩, ⟨⟨vA, vn, va⟩, ⟨vB, vm, vb⟩⟩, P_49, Q_49, u_49, v_49, ul, vl⟩
          · go_simp
            obtain ⟨w50, ew50⟩ : ∃ zz, zz = w45.alloc (.cells #[.slice none 0 0, .slice none 0 0] 24) := ⟨_, rfl⟩
            have hb50 : Below w45.heap.size w45 w50 := by rw [ew50]; exact (Below.refl _ _).alloc (Nat.le_refl _) _
            rw [← ew50]
            have P_50 : Blk w50 w45.heap.size 24 #[.slice none 0 0, .slice none 0 0] := by rw [ew50]; exact heap_alloc_new _ _
            have geP : wF.heap.size ≤ w45.heap.size := S45.size
            have lt9 := Q_45.lt
            have A_50 := A_45.on hb50
            have B_50 := B_45.on hb50
            have Q_50 := Q_45.on hb50
            have u_50 := u_45.on hb50
            have S50 : (fun W => Below wF.heap.size wF W) w50 := stepB S45 hb50
            refine hK.out _ _ S50 (fun h50 => ?_)
            clear h45 hK K ew50
            try simp only [Act.put, List.setIfInBounds_toArray, List.set_cons_zero, List.set_cons_succ]
            refine wpAnyH_ready (rs := [7]) (by kernel_rfl) (by simp) ?_
            refine AllReadyH.cons (o := ⟨some 24, _, _, _, _, _⟩) rfl (fun K hK => ?_) AllReadyH.nil
            go_simp
            refine (join_lit A_50 B_50 (by omega) (by omega) (by omega) (by omega)).mono ?_
            rintro e w51 ⟨vA, vn, va, vB, vm, vb, rfl, v_51, vl, hb51⟩
            have A_51 := A_50.on hb51
            have B_51 := B_50.on hb51
            have Q_51 := Q_50.on hb51
            have u_51 := u_50.on hb51
            have P_51 := P_50.on hb51
            have S51 : (fun W => Below wF.heap.size wF W) w51 := stepB S50 hb51
            refine hK.out _ _ S51 (fun h51 => ?_)
            clear h50 hK K
            try simp only [Act.put, List.setIfInBounds_toArray, List.set_cons_zero, List.set_cons_succ]
            refine wpAnyH_ready (rs := [10]) (by kernel_rfl) (by simp) ?_
            refine AllReadyH.cons (o := ⟨none, _, _, _, _, _⟩) rfl (fun K hK => ?_) AllReadyH.nil
            rw [if_pos (by rfl)]
            refine wp_store_row 24 (.tmp 6) (.tmp 21) rfl w45.heap.size #[.slice uA un ua, .slice uB um ub] rfl rfl 24 _ P_51 size24 rfl (by simp [Value.oneCell']) ?_
            refine hK.out _ _ (below_row S51 (by omega) _) (fun h52 => ?_)
            clear h51 hK K
            have S52 : Below wF.heap.size wF ((w51).setRow w45.heap.size #[.slice uA un ua, .slice uB um ub]) := below_row S51 (by omega) _
            have u_52 := foot_row u_51 (z := w45.heap.size) #[.slice uA un ua, .slice uB um ub] (foot_off u_51 P_51).1 (foot_off u_51 P_51).2
            have v_52 := foot_row v_51 (z := w45.heap.size) #[.slice uA un ua, .slice uB um ub] (foot_off v_51 P_51).1 (foot_off v_51 P_51).2
            have P_52 : Blk ((w51).setRow w45.heap.size #[.slice uA un ua, .slice uB um ub]) w45.heap.size 24 #[.slice uA un ua, .slice uB um ub] := setRow_heap _ _ _ _ _ _ P_51
            have Q_52 : Blk ((w51).setRow w45.heap.size #[.slice uA un ua, .slice uB um ub]) wd.heap.size 24 #[.slice none 0 0, .slice none 0 0] := (setRow_other _ _ _ _ (by omega)).trans Q_51
            try simp only [Act.put]
            refine wpAnyH_ready (rs := [11]) (by kernel_rfl) (by simp) ?_
            refine AllReadyH.cons (o := ⟨none, _, _, _, _, _⟩) rfl (fun K hK => ?_) AllReadyH.nil
            rw [if_pos (by rfl)]
            refine wp_store_row 24 (.tmp 7) (.tmp 24) rfl wd.heap.size #[.slice vA vn va, .slice vB vm vb] rfl rfl 24 _ Q_52 size24 rfl (by simp [Value.oneCell']) ?_
            refine hK.out _ _ (below_row S52 (by omega) _) (fun h53 => ?_)
            clear h52 hK K
            have S53 : Below wF.heap.size wF ((((w51).setRow w45.heap.size #[.slice uA un ua, .slice uB um ub])).setRow wd.heap.size #[.slice vA vn va, .slice vB vm vb]) := below_row S52 (by omega) _
            have u_53 := foot_row u_52 (z := wd.heap.size) #[.slice vA vn va, .slice vB vm vb] (foot_off u_52 Q_52).1 (foot_off u_52 Q_52).2
            have v_53 := foot_row v_52 (z := wd.heap.size) #[.slice vA vn va, .slice vB vm vb] (foot_off v_52 Q_52).1 (foot_off v_52 Q_52).2
            have Q_53 : Blk ((((w51).setRow w45.heap.size #[.slice uA un ua, .slice uB um ub])).setRow wd.heap.size #[.slice vA vn va, .slice vB vm vb]) wd.heap.size 24 #[.slice vA vn va, .slice vB vm vb] := setRow_heap _ _ _ _ _ _ Q_52
            have P_53 : Blk ((((w51).setRow w45.heap.size #[.slice uA un ua, .slice uB um ub])).setRow wd.heap.size #[.slice vA vn va, .slice vB vm vb]) w45.heap.size 24 #[.slice uA un ua, .slice uB um ub] := (setRow_other _ _ _ _ (by omega)).trans P_52
            try simp only [Act.put]
            refine wpAnyH_done (by kernel_rfl) ?_ _
            refine NoPanic.normal ?_
            go_wp2_with fail
            go_meet
            exact ⟨_, _, rfl, rfl, S53, ⟨⟨uA, un, ua⟩, ⟨uB, um, ub⟩⟩, ⟨⟨vA, vn, va⟩, ⟨vB, vm, vb⟩⟩, P_53, Q_53, u_53, v_53, ul, vl⟩
        · go_simp
          obtain ⟨w54, ew54⟩ : ∃ zz, zz = w44.alloc (.cells #[.slice none 0 0, .slice none 0 0] 24) := ⟨_, rfl⟩
          have hb54 : Below w44.heap.size w44 w54 := by rw [ew54]; exact (Below.refl _ _).alloc (Nat.le_refl _) _
          rw [← ew54]
          have P_54 : Blk w54 w44.heap.size 24 #[.slice none 0 0, .slice none 0 0] := by rw [ew54]; exact heap_alloc_new _ _
          have geP : wF.heap.size ≤ w44.heap.size := S44.size
          have lt9 := Q_44.lt
          have A_54 := A_44.on hb54
          have B_54 := B_44.on hb54
          have Q_54 := Q_44.on hb54
          have S54 : (fun W => Below wF.heap.size wF W) w54 := stepB S44 hb54
          refine hK.out _ _ S54 (fun h54 => ?_)
          clear h44 hK K ew54
          try simp only [Act.put, List.setIfInBounds_toArray, List.set_cons_zero, List.set_cons_succ]
          refine wpAnyH_ready (rs := [4]) (by kernel_rfl) (by simp) ?_
          refine AllReadyH.cons (o := ⟨some 21, _, _, _, _, _⟩) rfl (fun K hK => ?_) AllReadyH.nil
          go_simp
          refine (of_lit2 A_54 (by omega) (by omega)).mono ?_
          rintro e w55 ⟨uA, un, ua, uB, um, ub, rfl, u_55, ul, hb55⟩
          have A_55 := A_54.on hb55
          have B_55 := B_54.on hb55
          have Q_55 := Q_54.on hb55
          have P_55 := P_54.on hb55
          have S55 : (fun W => Below wF.heap.size wF W) w55 := stepB S54 hb55
          refine hK.out _ _ S55 (fun h55 => ?_)
          clear h54 hK K
          try simp only [Act.put, List.setIfInBounds_toArray, List.set_cons_zero, List.set_cons_succ]
          refine wpAnyH_ready (rs := [7]) (by kernel_rfl) (by simp) ?_
          refine AllReadyH.cons (o := ⟨some 24, _, _, _, _, _⟩) rfl (fun K hK => ?_) AllReadyH.nil
          go_simp
          refine (join_lit A_55 B_55 (by omega) (by omega) (by omega) (by omega)).mono ?_
          rintro e w56 ⟨vA, vn, va, vB, vm, vb, rfl, v_56, vl, hb56⟩
          have A_56 := A_55.on hb56
          have B_56 := B_55.on hb56
          have Q_56 := Q_55.on hb56
          have P_56 := P_55.on hb56
          have u_56 := u_55.on hb56
          have S56 : (fun W => Below wF.heap.size wF W) w56 := stepB S55 hb56
          refine hK.out _ _ S56 (fun h56 => ?_)
          clear h55 hK K
          try simp only [Act.put, List.setIfInBounds_toArray, List.set_cons_zero, List.set_cons_succ]
          refine wpAnyH_ready (rs := [10]) (by kernel_rfl) (by simp) ?_
          refine AllReadyH.cons (o := ⟨none, _, _, _, _, _⟩) rfl (fun K hK => ?_) AllReadyH.nil
          rw [if_pos (by rfl)]
          refine wp_store_row 24 (.tmp 6) (.tmp 21) rfl w44.heap.size #[.slice uA un ua, .slice uB um ub] rfl rfl 24 _ P_56 size24 rfl (by simp [Value.oneCell']) ?_
          refine hK.out _ _ (below_row S56 (by omega) _) (fun h57 => ?_)
          clear h56 hK K
          have S57 : Below wF.heap.size wF ((w56).setRow w44.heap.size #[.slice uA un ua, .slice uB um ub]) := below_row S56 (by omega) _
          have u_57 := foot_row u_56 (z := w44.heap.size) #[.slice uA un ua, .slice uB um ub] (foot_off u_56 P_56).1 (foot_off u_56 P_56).2
          have v_57 := foot_row v_56 (z := w44.heap.size) #[.slice uA un ua, .slice uB um ub] (foot_off v_56 P_56).1 (foot_off v_56 P_56).2
          have P_57 : Blk ((w56).setRow w44.heap.size #[.slice uA un ua, .slice uB um ub]) w44.heap.size 24 #[.slice uA un ua, .slice uB um ub] := setRow_heap _ _ _ _ _ _ P_56
          have Q_57 : Blk ((w56).setRow w44.heap.size #[.slice uA un ua, .slice uB um ub]) wd.heap.size 24 #[.slice none 0 0, .slice none 0 0] := (setRow_other _ _ _ _ (by omega)).trans Q_56
          try simp only [Act.put]
          refine wpAnyH_ready (rs := [11]) (by kernel_rfl) (by simp) ?_
          refine AllReadyH.cons (o := ⟨none, _, _, _, _, _⟩) rfl (fun K hK => ?_) AllReadyH.nil
          rw [if_pos (by rfl)]
          refine wp_store_row 24 (.tmp 7) (.tmp 24) rfl wd.heap.size #[.slice vA vn va, .slice vB vm vb] rfl rfl 24 _ Q_57 size24 rfl (by simp [Value.oneCell']) ?_
          refine hK.out _ _ (below_row S57 (by omega) _) (fun h58 => ?_)
          clear h57 hK K
          have S58 : Below wF.heap.size wF ((((w56).setRow w44.heap.size #[.slice uA un ua, .slice uB um ub])).setRow wd.heap.size #[.slice vA vn va, .slice vB vm vb]) := below_row S57 (by omega) _
          have u_58 := foot_row u_57 (z := wd.heap.size) #[.slice vA vn va, .slice vB vm vb] (foot_off u_57 Q_57).1 (foot_off u_57 Q_57).2
          have v_58 := foot_row v_57 (z := wd.heap.size) #[.slice vA vn va, .slice vB vm vb] (foot_off v_57 Q_57).1 (foot_off v_57 Q_57).2
          have Q_58 : Blk ((((w56).setRow w44.heap.size #[.slice uA un ua, .slice uB um ub])).setRow wd.heap.size #[.slice vA vn va, .slice vB vm vb]) wd.heap.size 24 #[.slice vA vn va, .slice vB vm vb] := setRow_heap _ _ _ _ _ _ Q_57
          have P_58 : Blk ((((w56).setRow w44.heap.size #[.slice uA un ua, .slice uB um ub])).setRow wd.heap.size #[.slice vA vn va, .slice vB vm vb]) w44.heap.size 24 #[.slice uA un ua, .slice uB um ub] := (setRow_other _ _ _ _ (by omega)).trans P_57
          try simp only [Act.put]
          refine wpAnyH_done (by kernel_rfl) ?_ _
          refine NoPanic.normal ?_
          go_wp2_with fail
          go_meet
          exact ⟨_, _, rfl, rfl, S58, ⟨⟨uA, un, ua⟩, ⟨uB, um, ub⟩⟩, ⟨⟨vA, vn, va⟩, ⟨vB, vm, vb⟩⟩, P_58, Q_58, u_58, v_58, ul, vl⟩
    case rest =>
      obtain ⟨P6, P7, rfl, rfl, hbx, ⟨⟨uA, un, ua⟩, ⟨uB, um, ub⟩⟩, ⟨⟨vA, vn, va⟩, ⟨vB, vm, vb⟩⟩, bU, bV, FU, FV, ul, vl⟩ := hcut
      obtain ⟨bA4, bB4, G1, G2, G5, b5⟩ := HG.out
      simp only at ul vl
      have bAx := bA4.on hbx
      have bBx := bB4.on hbx
      have b5x := b5.on hbx
      have hbw := stepB HW4.out hbx
      generalize wc = wx at *
      have zA : ∀ W, Below wx.heap.size wx W → W.rangeAt z 0 [.slice pA pn pc, .slice qA qn qc] := fun W hW => range_blk (cs := [.slice pA pn pc, .slice qA qn qc]) (bAx.on hW)
      have zB : ∀ W, Below wx.heap.size wx W → W.rangeAt (z + 1) 0 [.slice sA sn sc, .slice tA tn tc] := fun W hW => range_blk (cs := [.slice sA sn sc, .slice tA tn tc]) (bBx.on hW)
      have zE : ∀ W, Below wx.heap.size wx W → W.rangeAt P5 0 [.slice eA en ea, .slice eB em eb] := fun W hW => range_blk (cs := [.slice eA en ea, .slice eB em eb]) (b5x.on hW)
      have zU : ∀ W, Below wx.heap.size wx W → W.rangeAt P6 0 [.slice uA un ua, .slice uB um ub] := fun W hW => range_blk (cs := [.slice uA un ua, .slice uB um ub]) (bU.on hW)
      have zV : ∀ W, Below wx.heap.size wx W → W.rangeAt P7 0 [.slice vA vn va, .slice vB vm vb] := fun W hW => range_blk (cs := [.slice vA vn va, .slice vB vm vb]) (bV.on hW)
      have k5 : Below wx.heap.size wx wx.drew := (Below.refl _ wx).drew
      have GA := (G1.on hbx).on k5
      have GB := (G2.on hbx).on k5
      have GE := (G5.on hbx).on k5
      have GU := FU.on k5
      have GV := FV.on k5
      have HW := Lib.hid hbw
      clear hbx bU bV FU FV bA4 bB4 G1 G2 G5 b5 bAx bBx b5x hbw k4 tS
      go_wp2_with fail
      refine wp_region_noPanic ?_
      refine wp_region_held_drew (S := (fun W => Below wx.heap.size wx W)) (by kernel_rfl) k5 (fun hHeld => ?_)
      generalize wx.drew = wd at hHeld k5 GA GB GE GU GV ⊢
      refine wpAnyH_take (i := 0) (oi := ⟨some 25, _, _, _, _, _⟩) (v := .agg (List.toArray ([.slice uA un ua, .slice uB um ub]))) rfl (by kernel_rfl) (by kernel_rfl) (by kernel_rfl) (fun _ _ _ h => h) (yieldsIf_load_mid (by rfl) 24 (.tmp 6) rfl P6 (0) rfl ([.slice uA un ua, .slice uB um ub]) _ (fun W hW => zU W hW) Try.underlying24 rfl size24) (by assumption) ?_
      try simp only [Act.put, List.setIfInBounds_toArray, List.set_cons_zero, List.set_cons_succ]
      refine wpAnyH_take (i := 1) (oi := ⟨some 26, _, _, _, _, _⟩) (v := .agg (List.toArray ([.slice pA pn pc, .slice qA qn qc]))) rfl (by kernel_rfl) (by kernel_rfl) (by kernel_rfl) (fun _ _ _ h => h) (yieldsIf_load_mid (by rfl) 24 (.tmp 2) rfl z (0) rfl ([.slice pA pn pc, .slice qA qn qc]) _ (fun W hW => zA W hW) Try.underlying24 rfl size24) (by assumption) ?_
      try simp only [Act.put, List.setIfInBounds_toArray, List.set_cons_zero, List.set_cons_succ]
      refine wpAnyH_ready (rs := [2]) (by kernel_rfl) (by simp) ?_
      refine AllReadyH.cons (o := ⟨some 27, _, _, _, _, _⟩) rfl (fun K hK => ?_) AllReadyH.nil
      go_simp
      refine (norm_lit GA (by omega) (by omega)).mono ?_
      rintro e w1 ⟨xA, xn, xa, xB, xm, xb, rfl, x_1, xl, hb1⟩
      have A_1 := GA.on hb1
      have B_1 := GB.on hb1
      have e_1 := GE.on hb1
      have u_1 := GU.on hb1
      have v_1 := GV.on hb1
      have S1 : (fun W => Below wx.heap.size wx W) w1 := stepB k5 hb1
      refine hK.out _ _ S1 (fun h1 => ?_)
      clear hHeld hK K
      try simp only [Act.put, List.setIfInBounds_toArray, List.set_cons_zero, List.set_cons_succ]
      refine wpAnyH_ready (rs := [3]) (by kernel_rfl) (by simp) ?_
      refine AllReadyH.cons (o := ⟨some 28, _, _, _, _, _⟩) rfl (fun K hK => ?_) AllReadyH.nil
      go_simp
      refine (foot_lit (T := true) u_1 x_1 ul xl (by simp)).mono ?_
      rintro e w2 ⟨rfl, hb2⟩
      have A_2 := A_1.on hb2
      have B_2 := B_1.on hb2
      have e_2 := e_1.on hb2
      have u_2 := u_1.on hb2
      have v_2 := v_1.on hb2
      have x_2 := x_1.on hb2
      have S2 : (fun W => Below wx.heap.size wx W) w2 := stepB S1 hb2
      refine hK.out _ _ S2 (fun h2 => ?_)
      clear h1 hK K
      try simp only [Act.put, List.setIfInBounds_toArray, List.set_cons_zero, List.set_cons_succ]
      refine wpAnyH_take (i := 4) (oi := ⟨some 29, _, _, _, _, _⟩) (v := ?_) rfl (by kernel_rfl) (by kernel_rfl) (by kernel_rfl) (fun _ _ _ h => h) (Or.inl ⟨by rfl, ?_⟩) (by assumption) ?_
      rotate_left 1
      · (intro W hSw; go_simp <;> with_reducible rfl)
      try simp only [Act.put, List.setIfInBounds_toArray, List.set_cons_zero, List.set_cons_succ]
      refine wpAnyH_take (i := 5) (oi := ⟨some 30, _, _, _, _, _⟩) (v := .agg (List.toArray ([.slice vA vn va, .slice vB vm vb]))) rfl (by kernel_rfl) (by kernel_rfl) (by kernel_rfl) (fun _ _ _ h => h) (yieldsIf_load_mid (by rfl) 24 (.tmp 7) rfl P7 (0) rfl ([.slice vA vn va, .slice vB vm vb]) _ (fun W hW => zV W hW) Try.underlying24 rfl size24) (by assumption) ?_
      try simp only [Act.put, List.setIfInBounds_toArray, List.set_cons_zero, List.set_cons_succ]
      refine wpAnyH_take (i := 6) (oi := ⟨some 31, _, _, _, _, _⟩) (v := .agg (List.toArray ([.slice pA pn pc, .slice qA qn qc]))) rfl (by kernel_rfl) (by kernel_rfl) (by kernel_rfl) (fun _ _ _ h => h) (yieldsIf_load_mid (by rfl) 24 (.tmp 2) rfl z (0) rfl ([.slice pA pn pc, .slice qA qn qc]) _ (fun W hW => zA W hW) Try.underlying24 rfl size24) (by assumption) ?_
      try simp only [Act.put, List.setIfInBounds_toArray, List.set_cons_zero, List.set_cons_succ]
      refine wpAnyH_take (i := 7) (oi := ⟨some 32, _, _, _, _, _⟩) (v := .agg (List.toArray ([.slice sA sn sc, .slice tA tn tc]))) rfl (by kernel_rfl) (by kernel_rfl) (by kernel_rfl) (fun _ _ _ h => h) (yieldsIf_load_mid (by rfl) 24 (.tmp 3) rfl (z + 1) (0) rfl ([.slice sA sn sc, .slice tA tn tc]) _ (fun W hW => zB W hW) Try.underlying24 rfl size24) (by assumption) ?_
      try simp only [Act.put, List.setIfInBounds_toArray, List.set_cons_zero, List.set_cons_succ]
      refine wpAnyH_ready (rs := [8]) (by kernel_rfl) (by simp) ?_
      refine AllReadyH.cons (o := ⟨some 33, _, _, _, _, _⟩) rfl (fun K hK => ?_) AllReadyH.nil
      go_simp
      refine (both_lit A_2 B_2 (by omega) (by omega) (by omega) (by omega)).mono ?_
      rintro e w3 ⟨yA, yn, ya, yB, ym, yb, rfl, y_3, yl, hb3⟩
      have A_3 := A_2.on hb3
      have B_3 := B_2.on hb3
      have e_3 := e_2.on hb3
      have u_3 := u_2.on hb3
      have v_3 := v_2.on hb3
      have x_3 := x_2.on hb3
      have S3 : (fun W => Below wx.heap.size wx W) w3 := stepB S2 hb3
      refine hK.out _ _ S3 (fun h3 => ?_)
      clear h2 hK K
      try simp only [Act.put, List.setIfInBounds_toArray, List.set_cons_zero, List.set_cons_succ]
      refine wpAnyH_ready (rs := [9]) (by kernel_rfl) (by simp) ?_
      refine AllReadyH.cons (o := ⟨some 34, _, _, _, _, _⟩) rfl (fun K hK => ?_) AllReadyH.nil
      go_simp
      refine (norm_lit y_3 yl.1 yl.2).mono ?_
      rintro e w4 ⟨kA, kn, ka, kB, km, kb, rfl, k_4, kl, hb4⟩
      have A_4 := A_3.on hb4
      have B_4 := B_3.on hb4
      have e_4 := e_3.on hb4
      have u_4 := u_3.on hb4
      have v_4 := v_3.on hb4
      have x_4 := x_3.on hb4
      have y_4 := y_3.on hb4
      have S4 : (fun W => Below wx.heap.size wx W) w4 := stepB S3 hb4
      refine hK.out _ _ S4 (fun h4 => ?_)
      clear h3 hK K
      try simp only [Act.put, List.setIfInBounds_toArray, List.set_cons_zero, List.set_cons_succ]
      refine wpAnyH_ready (rs := [10]) (by kernel_rfl) (by simp) ?_
      refine AllReadyH.cons (o := ⟨some 35, _, _, _, _, _⟩) rfl (fun K hK => ?_) AllReadyH.nil
      go_simp
      refine (foot_lit (T := true) v_4 k_4 vl kl (by simp)).mono ?_
      rintro e w5 ⟨rfl, hb5⟩
      have A_5 := A_4.on hb5
      have B_5 := B_4.on hb5
      have e_5 := e_4.on hb5
      have u_5 := u_4.on hb5
      have v_5 := v_4.on hb5
      have x_5 := x_4.on hb5
      have y_5 := y_4.on hb5
      have k_5 := k_4.on hb5
      have S5 : (fun W => Below wx.heap.size wx W) w5 := stepB S4 hb5
      refine hK.out _ _ S5 (fun h5 => ?_)
      clear h4 hK K
      try simp only [Act.put, List.setIfInBounds_toArray, List.set_cons_zero, List.set_cons_succ]
      refine wpAnyH_take (i := 11) (oi := ⟨some 36, _, _, _, _, _⟩) (v := ?_) rfl (by kernel_rfl) (by kernel_rfl) (by kernel_rfl) (fun _ _ _ h => h) (Or.inl ⟨by rfl, ?_⟩) (by assumption) ?_
      rotate_left 1
      · (intro W hSw; go_simp <;> with_reducible rfl)
      try simp only [Act.put, List.setIfInBounds_toArray, List.set_cons_zero, List.set_cons_succ]
      refine wpAnyH_take (i := 12) (oi := ⟨some 37, _, _, _, _, _⟩) (v := ?_) rfl (by kernel_rfl) (by kernel_rfl) (by kernel_rfl) (fun _ _ _ h => h) (Or.inl ⟨by rfl, ?_⟩) (by assumption) ?_
      rotate_left 1
      · (intro W hSw; go_simp <;> with_reducible rfl)
      try simp only [Act.put, List.setIfInBounds_toArray, List.set_cons_zero, List.set_cons_succ]
      refine wpAnyH_take (i := 13) (oi := ⟨some 38, _, _, _, _, _⟩) (v := .agg (List.toArray ([.slice eA en ea, .slice eB em eb]))) rfl (by kernel_rfl) (by kernel_rfl) (by kernel_rfl) (fun _ _ _ h => h) (yieldsIf_load_mid (by rfl) 24 (.tmp 5) rfl P5 (0) rfl ([.slice eA en ea, .slice eB em eb]) _ (fun W hW => zE W hW) Try.underlying24 rfl size24) (by assumption) ?_
      try simp only [Act.put, List.setIfInBounds_toArray, List.set_cons_zero, List.set_cons_succ]
      refine wpAnyH_take (i := 14) (oi := ⟨some 39, _, _, _, _, _⟩) (v := .agg (List.toArray ([.slice pA pn pc, .slice qA qn qc]))) rfl (by kernel_rfl) (by kernel_rfl) (by kernel_rfl) (fun _ _ _ h => h) (yieldsIf_load_mid (by rfl) 24 (.tmp 2) rfl z (0) rfl ([.slice pA pn pc, .slice qA qn qc]) _ (fun W hW => zA W hW) Try.underlying24 rfl size24) (by assumption) ?_
      try simp only [Act.put, List.setIfInBounds_toArray, List.set_cons_zero, List.set_cons_succ]
      refine wpAnyH_take (i := 15) (oi := ⟨some 40, _, _, _, _, _⟩) (v := .agg (List.toArray ([.slice sA sn sc, .slice tA tn tc]))) rfl (by kernel_rfl) (by kernel_rfl) (by kernel_rfl) (fun _ _ _ h => h) (yieldsIf_load_mid (by rfl) 24 (.tmp 3) rfl (z + 1) (0) rfl ([.slice sA sn sc, .slice tA tn tc]) _ (fun W hW => zB W hW) Try.underlying24 rfl size24) (by assumption) ?_
      try simp only [Act.put, List.setIfInBounds_toArray, List.set_cons_zero, List.set_cons_succ]
      refine wpAnyH_ready (rs := [16]) (by kernel_rfl) (by simp) ?_
      refine AllReadyH.cons (o := ⟨some 41, _, _, _, _, _⟩) rfl (fun K hK => ?_) AllReadyH.nil
      go_simp
      refine (both_lit A_5 B_5 (by omega) (by omega) (by omega) (by omega)).mono ?_
      rintro e w6 ⟨jA, jn, ja, jB, jm, jb, rfl, j_6, jl, hb6⟩
      have A_6 := A_5.on hb6
      have B_6 := B_5.on hb6
      have e_6 := e_5.on hb6
      have u_6 := u_5.on hb6
      have v_6 := v_5.on hb6
      have x_6 := x_5.on hb6
      have y_6 := y_5.on hb6
      have k_6 := k_5.on hb6
      have S6 : (fun W => Below wx.heap.size wx W) w6 := stepB S5 hb6
      refine hK.out _ _ S6 (fun h6 => ?_)
      clear h5 hK K
      try simp only [Act.put, List.setIfInBounds_toArray, List.set_cons_zero, List.set_cons_succ]
      refine wpAnyH_ready (rs := [17]) (by kernel_rfl) (by simp) ?_
      refine AllReadyH.cons (o := ⟨some 42, _, _, _, _, _⟩) rfl (fun K hK => ?_) AllReadyH.nil
      go_simp
      refine (foot_lit (T := true) e_6 j_6 el jl (by simp)).mono ?_
      rintro e w7 ⟨rfl, hb7⟩
      have A_7 := A_6.on hb7
      have B_7 := B_6.on hb7
      have e_7 := e_6.on hb7
      have u_7 := u_6.on hb7
      have v_7 := v_6.on hb7
      have x_7 := x_6.on hb7
      have y_7 := y_6.on hb7
      have k_7 := k_6.on hb7
      have j_7 := j_6.on hb7
      have S7 : (fun W => Below wx.heap.size wx W) w7 := stepB S6 hb7
      refine hK.out _ _ S7 (fun h7 => ?_)
      clear h6 hK K
      try simp only [Act.put, List.setIfInBounds_toArray, List.set_cons_zero, List.set_cons_succ]
      refine wpAnyH_take (i := 18) (oi := ⟨some 43, _, _, _, _, _⟩) (v := ?_) rfl (by kernel_rfl) (by kernel_rfl) (by kernel_rfl) (fun _ _ _ h => h) (Or.inl ⟨by rfl, ?_⟩) (by assumption) ?_
      rotate_left 1
      · (intro W hSw; go_simp <;> with_reducible rfl)
      try simp only [Act.put, List.setIfInBounds_toArray, List.set_cons_zero, List.set_cons_succ]
      refine wpAnyH_take (i := 19) (oi := ⟨some 4, _, _, _, _, _⟩) (v := ?_) rfl (by kernel_rfl) (by kernel_rfl) (by kernel_rfl) (fun _ _ _ h => h) (Or.inl ⟨by rfl, ?_⟩) (by assumption) ?_
      rotate_left 1
      · (intro W hSw; go_simp <;> with_reducible rfl)
      try simp only [Act.put, List.setIfInBounds_toArray, List.set_cons_zero, List.set_cons_succ]
      refine wpAnyH_done (by kernel_rfl) ?_ _
      refine NoPanic.normal ?_
      have HZ := Lib.hid (stepB HW.out S7)
      go_wp2
      go_ret
      exact ⟨rfl, HZ.out⟩
end Go.Proofs.Ytmhogmhdgbdpbaa
