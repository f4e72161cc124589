/- The law on clashes. Conditions: none. -/
import Derived.Test.YtmhogmhdgbdpbaaAlive
import Derived.Deep.DeepCutAuto
namespace Go.Proofs.Ytmhogmhdgbdpbaa
open Go.ChangeShapes Go.WideShapes Go.RowKit

theorem few_lit {w : World} {f : Ft} {R W : List Pl} (h : Foot w f R W) : ∃ g : Ft, (∀ W', Below w.heap.size w W' → Calls Try.prog 8 #[.agg f.cs.toArray] W' fun e w' => e = .returned (.agg g.cs.toArray) ∧ Below W'.heap.size W' w') ∧ Foot w g (R.take 12) (W.take 12) ∧ g.r.n ≤ 12 ∧ g.w.n ≤ 12 :=
  ⟨f.few, fun _ hb => few_any (h.on hb), h.few, few_n _, few_n _⟩
set_option maxRecDepth 100000 in
set_option maxHeartbeats 8000000 in
theorem clashes_any {w : World} {f f' : Ft} {R X Q Y : List Pl} (hA : Foot w f R X) (hB : Foot w f' Q Y) :
    Calls Try.prog 4 #[.agg f.cs.toArray, .agg f'.cs.toArray] w fun e w' => e = .returned (.bool true) ∧ Below w.heap.size w w' := by
  obtain ⟨gA, cA, FA, nA1, nA2⟩ := few_lit hA
  obtain ⟨gB, cB, FB, nB1, nB2⟩ := few_lit hB
  obtain ⟨⟨rA, rn, rc⟩, ⟨xA, xn, xc⟩⟩ := f
  obtain ⟨⟨pA, pn, pc⟩, ⟨qA, qn, qc⟩⟩ := gA
  simp only at nA1 nA2
  change ∀ W', Below w.heap.size w W' → Calls Try.prog 8 #[.agg #[.slice rA rn rc, .slice xA xn xc]] W' fun e w' => e = .returned (.agg #[.slice pA pn pc, .slice qA qn qc]) ∧ Below W'.heap.size W' w' at cA
  obtain ⟨⟨rB, rm, rd⟩, ⟨xB, xm, xd⟩⟩ := f'
  obtain ⟨⟨sA, sn, sc⟩, ⟨tA, tn, tc⟩⟩ := gB
  simp only at nB1 nB2
  change ∀ W', Below w.heap.size w W' → Calls Try.prog 8 #[.agg #[.slice rB rm rd, .slice xB xm xd]] W' fun e w' => e = .returned (.agg #[.slice sA sn sc, .slice tA tn tc]) ∧ Below W'.heap.size W' w' at cB
  show Calls Try.prog 4 #[.agg #[.slice rA rn rc, .slice xA xn xc], .agg #[.slice rB rm rd, .slice xB xm xd]] w _
  obtain ⟨z, ez⟩ : ∃ z, z = w.heap.size := ⟨_, rfl⟩
  obtain ⟨W0, eW0⟩ : ∃ W0, W0 = ((w.alloc (.cells #[.slice rA rn rc, .slice xA xn xc] 24)).alloc (.cells #[.slice rB rm rd, .slice xB xm xd] 24)) := ⟨_, rfl⟩
  have hb0 : Below w.heap.size w W0 := by rw [eW0]; exact (((Below.refl _ w).alloc (Nat.le_refl _) _).alloc (by simp) _)
  have bA : Blk W0 z 24 #[.slice rA rn rc, .slice xA xn xc] := by
    rw [eW0, ez]
    exact Blk.on (heap_alloc_new w _) ((Below.refl _ _).alloc (Nat.le_refl _) _)
  have bB : Blk W0 (z + 1) 24 #[.slice rB rm rd, .slice xB xm xd] := by
    rw [eW0, ez]
    exact blk_new _ _ 24 _ (by simp)
  have HF := Lib.hid (And.intro FA FB)
  have HE := Lib.hid (And.intro ez eW0)
  clear FA FB hA hB ez eW0
  go_enter Try.func4, Try.ntmps4
  go_wp2_with fail
  refine (alive_any _).mono ?_
  rw [← HE.out.2, ← HE.out.1]
  rintro e w1 ⟨rfl, hb1⟩
  have kA := bA.on hb1
  have kB := bB.on hb1
  have hB1 := stepB hb0 hb1
  clear bA bB hb0 hb1
  have k0 : Below w.heap.size w w1.drew := hB1.drew
  have hA : Blk w1.drew z 24 #[.slice rA rn rc, .slice xA xn xc] := kA
  have hB : Blk w1.drew (z + 1) 24 #[.slice rB rm rd, .slice xB xm xd] := kB
  have hzw : w.heap.size ≤ z := Nat.le_of_eq HE.out.1.symm
  clear kA kB hB1
  go_wp2_with fail
  go_cut [] (fun wx => Below w.heap.size w wx ∧ Blk wx z 24 #[.slice pA pn pc, .slice qA qn qc] ∧ Blk wx (z + 1) 24 #[.slice sA sn sc, .slice tA tn tc])
  case first =>
    refine wp_region_noPanic ?_
    refine wp_region_held_drew (S := (fun W => Below w.heap.size w W)) (by kernel_rfl) k0 (fun hHeld => ?_)
    generalize w1.drew = wd at hHeld k0 hA hB ⊢
    refine wpAnyH_ready (rs := [0, 2]) (by kernel_rfl) (by simp) ?_
    refine AllReadyH.cons (o := ⟨some 8, _, _, _, _, _⟩) rfl (fun K hK => ?_) (AllReadyH.cons (o := ⟨some 10, _, _, _, _, _⟩) rfl (fun K hK => ?_) AllReadyH.nil)
    · rw [if_pos (by rfl)]
      refine wp_load_row 24 (.tmp 2) rfl z rfl 24 #[.slice rA rn rc, .slice xA xn xc] (0, 0) _ hA Try.underlying24 rfl size24 ?_
      refine hK.out _ _ k0 (fun h1 => ?_)
      clear hHeld hK K
      try simp only [Act.put, List.setIfInBounds_toArray, List.set_cons_zero, List.set_cons_succ]
      refine wpAnyH_ready (rs := [1, 2]) (by kernel_rfl) (by simp) ?_
      refine AllReadyH.cons (o := ⟨some 9, _, _, _, _, _⟩) rfl (fun K hK => ?_) (AllReadyH.cons (o := ⟨some 10, _, _, _, _, _⟩) rfl (fun K hK => ?_) AllReadyH.nil)
      · go_simp
        refine (cA _ k0).mono ?_
        rintro e w2 ⟨rfl, hb2⟩
        have A_2 := hA.on hb2
        have B_2 := hB.on hb2
        have S2 : (fun W => Below w.heap.size w W) w2 := stepB k0 hb2
        refine hK.out _ _ S2 (fun h2 => ?_)
        clear h1 hK K
        try simp only [Act.put, List.setIfInBounds_toArray, List.set_cons_zero, List.set_cons_succ]
        refine wpAnyH_ready (rs := [2]) (by kernel_rfl) (by simp) ?_
        refine AllReadyH.cons (o := ⟨some 10, _, _, _, _, _⟩) rfl (fun K hK => ?_) AllReadyH.nil
        rw [if_pos (by rfl)]
        refine wp_load_row 24 (.tmp 3) rfl (z + 1) rfl 24 #[.slice rB rm rd, .slice xB xm xd] (0, 0) _ B_2 Try.underlying24 rfl size24 ?_
        refine hK.out _ _ S2 (fun h3 => ?_)
        clear h2 hK K
        try simp only [Act.put, List.setIfInBounds_toArray, List.set_cons_zero, List.set_cons_succ]
        refine wpAnyH_ready (rs := [3]) (by kernel_rfl) (by simp) ?_
        refine AllReadyH.cons (o := ⟨some 11, _, _, _, _, _⟩) rfl (fun K hK => ?_) AllReadyH.nil
        go_simp
        refine (cB _ S2).mono ?_
        rintro e w4 ⟨rfl, hb4⟩
        have A_4 := A_2.on hb4
        have B_4 := B_2.on hb4
        have S4 : (fun W => Below w.heap.size w W) w4 := stepB S2 hb4
        refine hK.out _ _ S4 (fun h4 => ?_)
        clear h3 hK K
        try simp only [Act.put, List.setIfInBounds_toArray, List.set_cons_zero, List.set_cons_succ]
        refine wpAnyH_ready (rs := [4]) (by kernel_rfl) (by simp) ?_
        refine AllReadyH.cons (o := ⟨none, _, _, _, _, _⟩) rfl (fun K hK => ?_) AllReadyH.nil
        rw [if_pos (by rfl)]
        refine wp_store_row 24 (.tmp 2) (.tmp 9) rfl z #[.slice pA pn pc, .slice qA qn qc] rfl rfl 24 _ A_4 size24 rfl (by simp [Value.oneCell']) ?_
        refine hK.out _ _ (below_row S4 (by omega) _) (fun h5 => ?_)
        clear h4 hK K
        have S5 : Below w.heap.size w (w4.setRow z #[.slice pA pn pc, .slice qA qn qc]) := below_row S4 (by omega) _
        have A_5 : Blk (w4.setRow z #[.slice pA pn pc, .slice qA qn qc]) z 24 #[.slice pA pn pc, .slice qA qn qc] := setRow_heap _ _ _ _ _ _ A_4
        have B_5 := (show Blk (w4.setRow z #[.slice pA pn pc, .slice qA qn qc]) ((z + 1)) 24 _ from (setRow_other _ _ _ _ (by omega)).trans B_4)
        try simp only [Act.put]
        refine wpAnyH_ready (rs := [5]) (by kernel_rfl) (by simp) ?_
        refine AllReadyH.cons (o := ⟨none, _, _, _, _, _⟩) rfl (fun K hK => ?_) AllReadyH.nil
        rw [if_pos (by rfl)]
        refine wp_store_row 24 (.tmp 3) (.tmp 11) rfl (z + 1) #[.slice sA sn sc, .slice tA tn tc] rfl rfl 24 _ B_5 size24 rfl (by simp [Value.oneCell']) ?_
        refine hK.out _ _ (below_row S5 (by omega) _) (fun h6 => ?_)
        clear h5 hK K
        have S6 : Below w.heap.size w ((w4.setRow z #[.slice pA pn pc, .slice qA qn qc]).setRow (z + 1) #[.slice sA sn sc, .slice tA tn tc]) := below_row S5 (by omega) _
        have A_6 := (show Blk ((w4.setRow z #[.slice pA pn pc, .slice qA qn qc]).setRow (z + 1) #[.slice sA sn sc, .slice tA tn tc]) (z) 24 _ from (setRow_other _ _ _ _ (by omega)).trans A_5)
        have B_6 : Blk ((w4.setRow z #[.slice pA pn pc, .slice qA qn qc]).setRow (z + 1) #[.slice sA sn sc, .slice tA tn tc]) (z + 1) 24 #[.slice sA sn sc, .slice tA tn tc] := setRow_heap _ _ _ _ _ _ B_5
        try simp only [Act.put]
        refine wpAnyH_done (by kernel_rfl) ?_ _
        refine NoPanic.normal ?_
        go_wp2_with fail
        go_meet
        exact ⟨S6, A_6, B_6⟩
      · rw [if_pos (by rfl)]
        refine wp_load_row 24 (.tmp 3) rfl (z + 1) rfl 24 #[.slice rB rm rd, .slice xB xm xd] (0, 0) _ hB Try.underlying24 rfl size24 ?_
        refine hK.out _ _ k0 (fun h7 => ?_)
        clear h1 hK K
        try simp only [Act.put, List.setIfInBounds_toArray, List.set_cons_zero, List.set_cons_succ]
        refine wpAnyH_ready (rs := [1]) (by kernel_rfl) (by simp) ?_
        refine AllReadyH.cons (o := ⟨some 9, _, _, _, _, _⟩) rfl (fun K hK => ?_) AllReadyH.nil
        go_simp
        refine (cA _ k0).mono ?_
        rintro e w8 ⟨rfl, hb8⟩
        have A_8 := hA.on hb8
        have B_8 := hB.on hb8
        have S8 : (fun W => Below w.heap.size w W) w8 := stepB k0 hb8
        refine hK.out _ _ S8 (fun h8 => ?_)
        clear h7 hK K
        try simp only [Act.put, List.setIfInBounds_toArray, List.set_cons_zero, List.set_cons_succ]
        refine wpAnyH_ready (rs := [3]) (by kernel_rfl) (by simp) ?_
        refine AllReadyH.cons (o := ⟨some 11, _, _, _, _, _⟩) rfl (fun K hK => ?_) AllReadyH.nil
        go_simp
        refine (cB _ S8).mono ?_
        rintro e w9 ⟨rfl, hb9⟩
        have A_9 := A_8.on hb9
        have B_9 := B_8.on hb9
        have S9 : (fun W => Below w.heap.size w W) w9 := stepB S8 hb9
        refine hK.out _ _ S9 (fun h9 => ?_)
        clear h8 hK K
        try simp only [Act.put, List.setIfInBounds_toArray, List.set_cons_zero, List.set_cons_succ]
        refine wpAnyH_ready (rs := [4]) (by kernel_rfl) (by simp) ?_
        refine AllReadyH.cons (o := ⟨none, _, _, _, _, _⟩) rfl (fun K hK => ?_) AllReadyH.nil
        rw [if_pos (by rfl)]
        refine wp_store_row 24 (.tmp 2) (.tmp 9) rfl z #[.slice pA pn pc, .slice qA qn qc] rfl rfl 24 _ A_9 size24 rfl (by simp [Value.oneCell']) ?_
        refine hK.out _ _ (below_row S9 (by omega) _) (fun h10 => ?_)
        clear h9 hK K
        have S10 : Below w.heap.size w (w9.setRow z #[.slice pA pn pc, .slice qA qn qc]) := below_row S9 (by omega) _
        have A_10 : Blk (w9.setRow z #[.slice pA pn pc, .slice qA qn qc]) z 24 #[.slice pA pn pc, .slice qA qn qc] := setRow_heap _ _ _ _ _ _ A_9
        have B_10 := (show Blk (w9.setRow z #[.slice pA pn pc, .slice qA qn qc]) ((z + 1)) 24 _ from (setRow_other _ _ _ _ (by omega)).trans B_9)
        try simp only [Act.put]
        refine wpAnyH_ready (rs := [5]) (by kernel_rfl) (by simp) ?_
        refine AllReadyH.cons (o := ⟨none, _, _, _, _, _⟩) rfl (fun K hK => ?_) AllReadyH.nil
        rw [if_pos (by rfl)]
        refine wp_store_row 24 (.tmp 3) (.tmp 11) rfl (z + 1) #[.slice sA sn sc, .slice tA tn tc] rfl rfl 24 _ B_10 size24 rfl (by simp [Value.oneCell']) ?_
        refine hK.out _ _ (below_row S10 (by omega) _) (fun h11 => ?_)
        clear h10 hK K
        have S11 : Below w.heap.size w ((w9.setRow z #[.slice pA pn pc, .slice qA qn qc]).setRow (z + 1) #[.slice sA sn sc, .slice tA tn tc]) := below_row S10 (by omega) _
        have A_11 := (show Blk ((w9.setRow z #[.slice pA pn pc, .slice qA qn qc]).setRow (z + 1) #[.slice sA sn sc, .slice tA tn tc]) (z) 24 _ from (setRow_other _ _ _ _ (by omega)).trans A_10)
        have B_11 : Blk ((w9.setRow z #[.slice pA pn pc, .slice qA qn qc]).setRow (z + 1) #[.slice sA sn sc, .slice tA tn tc]) (z + 1) 24 #[.slice sA sn sc, .slice tA tn tc] := setRow_heap _ _ _ _ _ _ B_10
        try simp only [Act.put]
        refine wpAnyH_done (by kernel_rfl) ?_ _
        refine NoPanic.normal ?_
        go_wp2_with fail
        go_meet
        exact ⟨S11, A_11, B_11⟩
    · rw [if_pos (by rfl)]
      refine wp_load_row 24 (.tmp 3) rfl (z + 1) rfl 24 #[.slice rB rm rd, .slice xB xm xd] (0, 0) _ hB Try.underlying24 rfl size24 ?_
      refine hK.out _ _ k0 (fun h12 => ?_)
      clear hHeld hK K
      try simp only [Act.put, List.setIfInBounds_toArray, List.set_cons_zero, List.set_cons_succ]
      refine wpAnyH_ready (rs := [0]) (by kernel_rfl) (by simp) ?_
      refine AllReadyH.cons (o := ⟨some 8, _, _, _, _, _⟩) rfl (fun K hK => ?_) AllReadyH.nil
      rw [if_pos (by rfl)]
      refine wp_load_row 24 (.tmp 2) rfl z rfl 24 #[.slice rA rn rc, .slice xA xn xc] (0, 0) _ hA Try.underlying24 rfl size24 ?_
      refine hK.out _ _ k0 (fun h13 => ?_)
      clear h12 hK K
      try simp only [Act.put, List.setIfInBounds_toArray, List.set_cons_zero, List.set_cons_succ]
      refine wpAnyH_ready (rs := [1]) (by kernel_rfl) (by simp) ?_
      refine AllReadyH.cons (o := ⟨some 9, _, _, _, _, _⟩) rfl (fun K hK => ?_) AllReadyH.nil
      go_simp
      refine (cA _ k0).mono ?_
      rintro e w14 ⟨rfl, hb14⟩
      have A_14 := hA.on hb14
      have B_14 := hB.on hb14
      have S14 : (fun W => Below w.heap.size w W) w14 := stepB k0 hb14
      refine hK.out _ _ S14 (fun h14 => ?_)
      clear h13 hK K
      try simp only [Act.put, List.setIfInBounds_toArray, List.set_cons_zero, List.set_cons_succ]
      refine wpAnyH_ready (rs := [3]) (by kernel_rfl) (by simp) ?_
      refine AllReadyH.cons (o := ⟨some 11, _, _, _, _, _⟩) rfl (fun K hK => ?_) AllReadyH.nil
      go_simp
      refine (cB _ S14).mono ?_
      rintro e w15 ⟨rfl, hb15⟩
      have A_15 := A_14.on hb15
      have B_15 := B_14.on hb15
      have S15 : (fun W => Below w.heap.size w W) w15 := stepB S14 hb15
      refine hK.out _ _ S15 (fun h15 => ?_)
      clear h14 hK K
      try simp only [Act.put, List.setIfInBounds_toArray, List.set_cons_zero, List.set_cons_succ]
      refine wpAnyH_ready (rs := [4]) (by kernel_rfl) (by simp) ?_
      refine AllReadyH.cons (o := ⟨none, _, _, _, _, _⟩) rfl (fun K hK => ?_) AllReadyH.nil
      rw [if_pos (by rfl)]
      refine wp_store_row 24 (.tmp 2) (.tmp 9) rfl z #[.slice pA pn pc, .slice qA qn qc] rfl rfl 24 _ A_15 size24 rfl (by simp [Value.oneCell']) ?_
      refine hK.out _ _ (below_row S15 (by omega) _) (fun h16 => ?_)
      clear h15 hK K
      have S16 : Below w.heap.size w (w15.setRow z #[.slice pA pn pc, .slice qA qn qc]) := below_row S15 (by omega) _
      have A_16 : Blk (w15.setRow z #[.slice pA pn pc, .slice qA qn qc]) z 24 #[.slice pA pn pc, .slice qA qn qc] := setRow_heap _ _ _ _ _ _ A_15
      have B_16 := (show Blk (w15.setRow z #[.slice pA pn pc, .slice qA qn qc]) ((z + 1)) 24 _ from (setRow_other _ _ _ _ (by omega)).trans B_15)
      try simp only [Act.put]
      refine wpAnyH_ready (rs := [5]) (by kernel_rfl) (by simp) ?_
      refine AllReadyH.cons (o := ⟨none, _, _, _, _, _⟩) rfl (fun K hK => ?_) AllReadyH.nil
      rw [if_pos (by rfl)]
      refine wp_store_row 24 (.tmp 3) (.tmp 11) rfl (z + 1) #[.slice sA sn sc, .slice tA tn tc] rfl rfl 24 _ B_16 size24 rfl (by simp [Value.oneCell']) ?_
      refine hK.out _ _ (below_row S16 (by omega) _) (fun h17 => ?_)
      clear h16 hK K
      have S17 : Below w.heap.size w ((w15.setRow z #[.slice pA pn pc, .slice qA qn qc]).setRow (z + 1) #[.slice sA sn sc, .slice tA tn tc]) := below_row S16 (by omega) _
      have A_17 := (show Blk ((w15.setRow z #[.slice pA pn pc, .slice qA qn qc]).setRow (z + 1) #[.slice sA sn sc, .slice tA tn tc]) (z) 24 _ from (setRow_other _ _ _ _ (by omega)).trans A_16)
      have B_17 : Blk ((w15.setRow z #[.slice pA pn pc, .slice qA qn qc]).setRow (z + 1) #[.slice sA sn sc, .slice tA tn tc]) (z + 1) 24 #[.slice sA sn sc, .slice tA tn tc] := setRow_heap _ _ _ _ _ _ B_16
      try simp only [Act.put]
      refine wpAnyH_done (by kernel_rfl) ?_ _
      refine NoPanic.normal ?_
      go_wp2_with fail
      go_meet
      exact ⟨S17, A_17, B_17⟩
  case rest =>
    obtain ⟨hb, bA, bB⟩ := hcut
    obtain ⟨FA, FB⟩ := HF.out
    have FA1 := FA.on hb
    have FB1 := FB.on hb
    have hc1 := refclash_any FA1 FB1 (by simp only; omega) (by simp only; omega) (by simp only; omega) (by simp only; omega)
    have q0 : wc.cell? ⟨z, 0, none⟩ = some (.slice pA pn pc) := bA.cell 0
    have q1 : wc.cell? ⟨z, 1, none⟩ = some (.slice qA qn qc) := bA.cell 1
    have q2 : wc.cell? ⟨z + 1, 0, none⟩ = some (.slice sA sn sc) := bB.cell 0
    have q3 : wc.cell? ⟨z + 1, 1, none⟩ = some (.slice tA tn tc) := bB.cell 1
    obtain ⟨T, eT⟩ : ∃ T, T = clashP (R.take 12) (X.take 12) (Q.take 12) (Y.take 12) := ⟨_, rfl⟩
    rw [← eT] at hc1
    change Calls Try.prog 14 #[.agg #[.slice pA pn pc, .slice qA qn qc], .agg #[.slice sA sn sc, .slice tA tn tc]] _ _ at hc1
    have HX := Lib.hid (And.intro hb (And.intro bA (And.intro bB (And.intro FA1 (And.intro FB1 eT)))))
    clear hb bA bB FA FB FA1 FB1 eT cA cB k0 hA hB
    go_wp2_with fail
    refine hc1.mono ?_
    rintro e w2 ⟨rfl, hb2⟩
    obtain ⟨hb, bA, bB, FA1, FB1, eT⟩ := HX.out
    have bA2 := bA.on hb2
    have bB2 := bB.on hb2
    have FA2 := FA1.on hb2
    have FB2 := FB1.on hb2
    have hc2 := clash_any FA2 FB2 ⟨by simp only; omega, by simp only; omega⟩ ⟨by simp only; omega, by simp only; omega⟩
    rw [← eT] at hc2
    change Calls Try.prog 15 #[.agg #[.slice pA pn pc, .slice qA qn qc], .agg #[.slice sA sn sc, .slice tA tn tc]] _ _ at hc2
    have q0 : w2.cell? ⟨z, 0, none⟩ = some (.slice pA pn pc) := bA2.cell 0
    have q1 : w2.cell? ⟨z, 1, none⟩ = some (.slice qA qn qc) := bA2.cell 1
    have q2 : w2.cell? ⟨z + 1, 0, none⟩ = some (.slice sA sn sc) := bB2.cell 0
    have q3 : w2.cell? ⟨z + 1, 1, none⟩ = some (.slice tA tn tc) := bB2.cell 1
    have HY := Lib.hid (And.intro (stepB hb hb2) (And.intro bA2 (And.intro bB2 (And.intro FA2 (And.intro FB2 eT)))))
    clear hb bA bB FA1 FB1 eT hb2 bA2 bB2 FA2 FB2 hc1
    go_wp2_with fail
    refine hc2.mono ?_
    rintro e w3 ⟨rfl, hb3⟩
    obtain ⟨hb2, bA2, bB2, FA2, FB2, eT⟩ := HY.out
    have bA3 := bA2.on hb3
    have bB3 := bB2.on hb3
    have hc3 := clash_any (FB2.on hb3) (FA2.on hb3) ⟨by simp only; omega, by simp only; omega⟩ ⟨by simp only; omega, by simp only; omega⟩
    rw [clashP_comm, ← eT] at hc3
    change Calls Try.prog 15 #[.agg #[.slice sA sn sc, .slice tA tn tc], .agg #[.slice pA pn pc, .slice qA qn qc]] _ _ at hc3
    have q0 : w3.cell? ⟨z, 0, none⟩ = some (.slice pA pn pc) := bA3.cell 0
    have q1 : w3.cell? ⟨z, 1, none⟩ = some (.slice qA qn qc) := bA3.cell 1
    have q2 : w3.cell? ⟨z + 1, 0, none⟩ = some (.slice sA sn sc) := bB3.cell 0
    have q3 : w3.cell? ⟨z + 1, 1, none⟩ = some (.slice tA tn tc) := bB3.cell 1
    have HZ := Lib.hid (stepB hb2 hb3)
    clear hb2 bA2 bB2 FA2 FB2 eT hb3 bA3 bB3 hc2
    cases T with
    | true =>
      go_wp2_with fail
      refine hc3.mono ?_
      rintro e w4 ⟨rfl, hb4⟩
      have HW := Lib.hid (stepB HZ.out hb4)
      clear hb4 hc3
      go_wp2
      go_ret
      exact ⟨rfl, HW.out⟩
    | false =>
      go_wp2_with fail
      refine hc3.mono ?_
      rintro e w4 ⟨rfl, hb4⟩
      have HW := Lib.hid (stepB HZ.out hb4)
      clear hb4 hc3
      go_wp2
      go_ret
      exact ⟨rfl, HW.out⟩
end Go.Proofs.Ytmhogmhdgbdpbaa
