/- The law on more places. Conditions: none. -/
import Derived.Test.YtmhogmhdgbdpbaaLit
namespace Go.Proofs.Ytmhogmhdgbdpbaa
open Go.ChangeShapes Go.WideShapes Go.RowKit

set_option maxRecDepth 100000 in
set_option maxHeartbeats 8000000 in
theorem more_any {w : World} {f f' f'' : Ft} {R X Q Y U V : List Pl} (hA : Foot w f R X) (hB : Foot w f' Q Y) (hC : Foot w f'' U V) :
    Calls Try.prog 5 #[.agg f.cs.toArray, .agg f'.cs.toArray, .agg f''.cs.toArray] w fun e w' => e = .returned (.bool true) ∧ Below w.heap.size w w' := by
  obtain ⟨gA, cA, FA, nA1, nA2⟩ := few_lit hA
  obtain ⟨gB, cB, FB, nB1, nB2⟩ := few_lit hB
  obtain ⟨gC, cC, FC, nC1, nC2⟩ := few_lit hC
  obtain ⟨⟨rA, rn, rc⟩, ⟨xA, xn, xc⟩⟩ := f
  obtain ⟨⟨pA, pn, pc⟩, ⟨qA, qn, qc⟩⟩ := gA
  simp only at nA1 nA2
  change ∀ W', Below w.heap.size w W' → Calls Try.prog 8 #[.agg #[.slice rA rn rc, .slice xA xn xc]] W' fun e w' => e = .returned (.agg #[.slice pA pn pc, .slice qA qn qc]) ∧ Below W'.heap.size W' w' at cA
  obtain ⟨⟨rB, rm, rd⟩, ⟨xB, xm, xd⟩⟩ := f'
  obtain ⟨⟨sA, sn, sc⟩, ⟨tA, tn, tc⟩⟩ := gB
  simp only at nB1 nB2
  change ∀ W', Below w.heap.size w W' → Calls Try.prog 8 #[.agg #[.slice rB rm rd, .slice xB xm xd]] W' fun e w' => e = .returned (.agg #[.slice sA sn sc, .slice tA tn tc]) ∧ Below W'.heap.size W' w' at cB
  obtain ⟨⟨rC, rk, re⟩, ⟨xC, xk, xe⟩⟩ := f''
  obtain ⟨⟨uA, un, uc⟩, ⟨vA, vn, vc⟩⟩ := gC
  simp only at nC1 nC2
  change ∀ W', Below w.heap.size w W' → Calls Try.prog 8 #[.agg #[.slice rC rk re, .slice xC xk xe]] W' fun e w' => e = .returned (.agg #[.slice uA un uc, .slice vA vn vc]) ∧ Below W'.heap.size W' w' at cC
  show Calls Try.prog 5 #[.agg #[.slice rA rn rc, .slice xA xn xc], .agg #[.slice rB rm rd, .slice xB xm xd], .agg #[.slice rC rk re, .slice xC xk xe]] w _
  obtain ⟨z, ez⟩ : ∃ z, z = w.heap.size := ⟨_, rfl⟩
  obtain ⟨W0, eW0⟩ : ∃ W0, W0 = (((w.alloc (.cells #[.slice rA rn rc, .slice xA xn xc] 24)).alloc (.cells #[.slice rB rm rd, .slice xB xm xd] 24)).alloc (.cells #[.slice rC rk re, .slice xC xk xe] 24)) := ⟨_, rfl⟩
  have hb0 : Below w.heap.size w W0 := by rw [eW0]; exact ((((Below.refl _ w).alloc (Nat.le_refl _) _).alloc (by simp) _).alloc (by simp; omega) _)
  have bA : Blk W0 z 24 #[.slice rA rn rc, .slice xA xn xc] := by
    rw [eW0, ez]
    exact Blk.on (Blk.on (heap_alloc_new w _) ((Below.refl _ _).alloc (Nat.le_refl _) _)) ((Below.refl _ _).alloc (Nat.le_refl _) _)
  have bB : Blk W0 (z + 1) 24 #[.slice rB rm rd, .slice xB xm xd] := by
    rw [eW0, ez]
    exact Blk.on (blk_new _ _ 24 _ (by simp)) ((Below.refl _ _).alloc (Nat.le_refl _) _)
  have bC : Blk W0 (z + 1 + 1) 24 #[.slice rC rk re, .slice xC xk xe] := by
    rw [eW0, ez]
    exact blk_new _ _ 24 _ (by simp)
  have HF := Lib.hid (And.intro FA (And.intro FB FC))
  have HE := Lib.hid (And.intro ez eW0)
  clear FA FB FC hA hB hC ez eW0
  go_enter Try.func5, Try.ntmps5
  go_wp2_with fail
  refine (alive_any _).mono ?_
  rw [← HE.out.2, ← HE.out.1]
  rintro e w1 ⟨rfl, hb1⟩
  have kA := bA.on hb1
  have kB := bB.on hb1
  have kC := bC.on hb1
  have hB1 := stepB hb0 hb1
  clear bA bB bC hb0 hb1
  have k0 : Below w.heap.size w w1.drew := hB1.drew
  have hA : Blk w1.drew z 24 #[.slice rA rn rc, .slice xA xn xc] := kA
  have hB : Blk w1.drew (z + 1) 24 #[.slice rB rm rd, .slice xB xm xd] := kB
  have hC : Blk w1.drew (z + 1 + 1) 24 #[.slice rC rk re, .slice xC xk xe] := kC
  have hzw : w.heap.size ≤ z := Nat.le_of_eq HE.out.1.symm
  clear kA kB kC hB1
  go_wp2_with fail
  go_cut [] (fun wx => Below w.heap.size w wx ∧ Blk wx z 24 #[.slice pA pn pc, .slice qA qn qc] ∧ Blk wx (z + 1) 24 #[.slice sA sn sc, .slice tA tn tc] ∧ Blk wx (z + 1 + 1) 24 #[.slice uA un uc, .slice vA vn vc])
  case first =>
    refine wp_region_noPanic ?_
    refine wp_region_held_drew (S := (fun W => Below w.heap.size w W)) (by kernel_rfl) k0 (fun hHeld => ?_)
    generalize w1.drew = wd at hHeld k0 hA hB hC ⊢
    refine wpAnyH_ready (rs := [0, 2, 4]) (by kernel_rfl) (by simp) ?_
    refine AllReadyH.cons (o := ⟨some 9, _, _, _, _, _⟩) rfl (fun K hK => ?_) (AllReadyH.cons (o := ⟨some 11, _, _, _, _, _⟩) rfl (fun K hK => ?_) (AllReadyH.cons (o := ⟨some 13, _, _, _, _, _⟩) rfl (fun K hK => ?_) AllReadyH.nil))
    · rw [if_pos (by rfl)]
      refine wp_load_row 24 (.tmp 3) rfl z rfl 24 #[.slice rA rn rc, .slice xA xn xc] (0, 0) _ hA Try.underlying24 rfl size24 ?_
      refine hK.out _ _ k0 (fun h1 => ?_)
      clear hHeld hK K
      try simp only [Act.put, List.setIfInBounds_toArray, List.set_cons_zero, List.set_cons_succ]
      refine wpAnyH_ready (rs := [1, 2, 4]) (by kernel_rfl) (by simp) ?_
      refine AllReadyH.cons (o := ⟨some 10, _, _, _, _, _⟩) rfl (fun K hK => ?_) (AllReadyH.cons (o := ⟨some 11, _, _, _, _, _⟩) rfl (fun K hK => ?_) (AllReadyH.cons (o := ⟨some 13, _, _, _, _, _⟩) rfl (fun K hK => ?_) AllReadyH.nil))
      · go_simp
        refine (cA _ k0).mono ?_
        rintro e w2 ⟨rfl, hb2⟩
        have A_2 := hA.on hb2
        have B_2 := hB.on hb2
        have C_2 := hC.on hb2
        have S2 : (fun W => Below w.heap.size w W) w2 := stepB k0 hb2
        refine hK.out _ _ S2 (fun h2 => ?_)
        clear h1 hK K
        try simp only [Act.put, List.setIfInBounds_toArray, List.set_cons_zero, List.set_cons_succ]
        refine wpAnyH_ready (rs := [2, 4]) (by kernel_rfl) (by simp) ?_
        refine AllReadyH.cons (o := ⟨some 11, _, _, _, _, _⟩) rfl (fun K hK => ?_) (AllReadyH.cons (o := ⟨some 13, _, _, _, _, _⟩) rfl (fun K hK => ?_) AllReadyH.nil)
        · rw [if_pos (by rfl)]
          refine wp_load_row 24 (.tmp 4) rfl (z + 1) rfl 24 #[.slice rB rm rd, .slice xB xm xd] (0, 0) _ B_2 Try.underlying24 rfl size24 ?_
          refine hK.out _ _ S2 (fun h3 => ?_)
          clear h2 hK K
          try simp only [Act.put, List.setIfInBounds_toArray, List.set_cons_zero, List.set_cons_succ]
          refine wpAnyH_ready (rs := [3, 4]) (by kernel_rfl) (by simp) ?_
          refine AllReadyH.cons (o := ⟨some 12, _, _, _, _, _⟩) rfl (fun K hK => ?_) (AllReadyH.cons (o := ⟨some 13, _, _, _, _, _⟩) rfl (fun K hK => ?_) AllReadyH.nil)
          · go_simp
            refine (cB _ S2).mono ?_
            rintro e w4 ⟨rfl, hb4⟩
            have A_4 := A_2.on hb4
            have B_4 := B_2.on hb4
            have C_4 := C_2.on hb4
            have S4 : (fun W => Below w.heap.size w W) w4 := stepB S2 hb4
            refine hK.out _ _ S4 (fun h4 => ?_)
            clear h3 hK K
            try simp only [Act.put, List.setIfInBounds_toArray, List.set_cons_zero, List.set_cons_succ]
            refine wpAnyH_ready (rs := [4]) (by kernel_rfl) (by simp) ?_
            refine AllReadyH.cons (o := ⟨some 13, _, _, _, _, _⟩) rfl (fun K hK => ?_) AllReadyH.nil
            rw [if_pos (by rfl)]
            refine wp_load_row 24 (.tmp 5) rfl (z + 1 + 1) rfl 24 #[.slice rC rk re, .slice xC xk xe] (0, 0) _ C_4 Try.underlying24 rfl size24 ?_
            refine hK.out _ _ S4 (fun h5 => ?_)
            clear h4 hK K
            try simp only [Act.put, List.setIfInBounds_toArray, List.set_cons_zero, List.set_cons_succ]
            refine wpAnyH_ready (rs := [5]) (by kernel_rfl) (by simp) ?_
            refine AllReadyH.cons (o := ⟨some 14, _, _, _, _, _⟩) rfl (fun K hK => ?_) AllReadyH.nil
            go_simp
            refine (cC _ S4).mono ?_
            rintro e w6 ⟨rfl, hb6⟩
            have A_6 := A_4.on hb6
            have B_6 := B_4.on hb6
            have C_6 := C_4.on hb6
            have S6 : (fun W => Below w.heap.size w W) w6 := stepB S4 hb6
            refine hK.out _ _ S6 (fun h6 => ?_)
            clear h5 hK K
            try simp only [Act.put, List.setIfInBounds_toArray, List.set_cons_zero, List.set_cons_succ]
            refine wpAnyH_ready (rs := [6]) (by kernel_rfl) (by simp) ?_
            refine AllReadyH.cons (o := ⟨none, _, _, _, _, _⟩) rfl (fun K hK => ?_) AllReadyH.nil
            rw [if_pos (by rfl)]
            refine wp_store_row 24 (.tmp 3) (.tmp 10) rfl z #[.slice pA pn pc, .slice qA qn qc] rfl rfl 24 _ A_6 size24 rfl (by simp [Value.oneCell']) ?_
            refine hK.out _ _ (below_row S6 (by omega) _) (fun h7 => ?_)
            clear h6 hK K
            have S7 : Below w.heap.size w (w6.setRow z #[.slice pA pn pc, .slice qA qn qc]) := below_row S6 (by omega) _
            have A_7 : Blk (w6.setRow z #[.slice pA pn pc, .slice qA qn qc]) z 24 #[.slice pA pn pc, .slice qA qn qc] := setRow_heap _ _ _ _ _ _ A_6
            have B_7 := (show Blk (w6.setRow z #[.slice pA pn pc, .slice qA qn qc]) ((z + 1)) 24 _ from (setRow_other _ _ _ _ (by omega)).trans B_6)
            have C_7 := (show Blk (w6.setRow z #[.slice pA pn pc, .slice qA qn qc]) ((z + 1 + 1)) 24 _ from (setRow_other _ _ _ _ (by omega)).trans C_6)
            try simp only [Act.put]
            refine wpAnyH_ready (rs := [7]) (by kernel_rfl) (by simp) ?_
            refine AllReadyH.cons (o := ⟨none, _, _, _, _, _⟩) rfl (fun K hK => ?_) AllReadyH.nil
            rw [if_pos (by rfl)]
            refine wp_store_row 24 (.tmp 4) (.tmp 12) rfl (z + 1) #[.slice sA sn sc, .slice tA tn tc] rfl rfl 24 _ B_7 size24 rfl (by simp [Value.oneCell']) ?_
            refine hK.out _ _ (below_row S7 (by omega) _) (fun h8 => ?_)
            clear h7 hK K
            have S8 : Below w.heap.size w ((w6.setRow z #[.slice pA pn pc, .slice qA qn qc]).setRow (z + 1) #[.slice sA sn sc, .slice tA tn tc]) := below_row S7 (by omega) _
            have A_8 := (show Blk ((w6.setRow z #[.slice pA pn pc, .slice qA qn qc]).setRow (z + 1) #[.slice sA sn sc, .slice tA tn tc]) (z) 24 _ from (setRow_other _ _ _ _ (by omega)).trans A_7)
            have B_8 : Blk ((w6.setRow z #[.slice pA pn pc, .slice qA qn qc]).setRow (z + 1) #[.slice sA sn sc, .slice tA tn tc]) (z + 1) 24 #[.slice sA sn sc, .slice tA tn tc] := setRow_heap _ _ _ _ _ _ B_7
            have C_8 := (show Blk ((w6.setRow z #[.slice pA pn pc, .slice qA qn qc]).setRow (z + 1) #[.slice sA sn sc, .slice tA tn tc]) ((z + 1 + 1)) 24 _ from (setRow_other _ _ _ _ (by omega)).trans C_7)
            try simp only [Act.put]
            refine wpAnyH_ready (rs := [8]) (by kernel_rfl) (by simp) ?_
            refine AllReadyH.cons (o := ⟨none, _, _, _, _, _⟩) rfl (fun K hK => ?_) AllReadyH.nil
            rw [if_pos (by rfl)]
            refine wp_store_row 24 (.tmp 5) (.tmp 14) rfl (z + 1 + 1) #[.slice uA un uc, .slice vA vn vc] rfl rfl 24 _ C_8 size24 rfl (by simp [Value.oneCell']) ?_
            refine hK.out _ _ (below_row S8 (by omega) _) (fun h9 => ?_)
            clear h8 hK K
            have S9 : Below w.heap.size w (((w6.setRow z #[.slice pA pn pc, .slice qA qn qc]).setRow (z + 1) #[.slice sA sn sc, .slice tA tn tc]).setRow (z + 1 + 1) #[.slice uA un uc, .slice vA vn vc]) := below_row S8 (by omega) _
            have A_9 := (show Blk (((w6.setRow z #[.slice pA pn pc, .slice qA qn qc]).setRow (z + 1) #[.slice sA sn sc, .slice tA tn tc]).setRow (z + 1 + 1) #[.slice uA un uc, .slice vA vn vc]) (z) 24 _ from (setRow_other _ _ _ _ (by omega)).trans A_8)
            have B_9 := (show Blk (((w6.setRow z #[.slice pA pn pc, .slice qA qn qc]).setRow (z + 1) #[.slice sA sn sc, .slice tA tn tc]).setRow (z + 1 + 1) #[.slice uA un uc, .slice vA vn vc]) ((z + 1)) 24 _ from (setRow_other _ _ _ _ (by omega)).trans B_8)
            have C_9 : Blk (((w6.setRow z #[.slice pA pn pc, .slice qA qn qc]).setRow (z + 1) #[.slice sA sn sc, .slice tA tn tc]).setRow (z + 1 + 1) #[.slice uA un uc, .slice vA vn vc]) (z + 1 + 1) 24 #[.slice uA un uc, .slice vA vn vc] := setRow_heap _ _ _ _ _ _ C_8
            try simp only [Act.put]
            refine wpAnyH_done (by kernel_rfl) ?_ _
            refine NoPanic.normal ?_
            go_wp2_with fail
            go_meet
            exact ⟨S9, A_9, B_9, C_9⟩
          · rw [if_pos (by rfl)]
            refine wp_load_row 24 (.tmp 5) rfl (z + 1 + 1) rfl 24 #[.slice rC rk re, .slice xC xk xe] (0, 0) _ C_2 Try.underlying24 rfl size24 ?_
            refine hK.out _ _ S2 (fun h10 => ?_)
            clear h3 hK K
            try simp only [Act.put, List.setIfInBounds_toArray, List.set_cons_zero, List.set_cons_succ]
            refine wpAnyH_ready (rs := [3]) (by kernel_rfl) (by simp) ?_
            refine AllReadyH.cons (o := ⟨some 12, _, _, _, _, _⟩) rfl (fun K hK => ?_) AllReadyH.nil
            go_simp
            refine (cB _ S2).mono ?_
            rintro e w11 ⟨rfl, hb11⟩
            have A_11 := A_2.on hb11
            have B_11 := B_2.on hb11
            have C_11 := C_2.on hb11
            have S11 : (fun W => Below w.heap.size w W) w11 := stepB S2 hb11
            refine hK.out _ _ S11 (fun h11 => ?_)
            clear h10 hK K
            try simp only [Act.put, List.setIfInBounds_toArray, List.set_cons_zero, List.set_cons_succ]
            refine wpAnyH_ready (rs := [5]) (by kernel_rfl) (by simp) ?_
            refine AllReadyH.cons (o := ⟨some 14, _, _, _, _, _⟩) rfl (fun K hK => ?_) AllReadyH.nil
            go_simp
            refine (cC _ S11).mono ?_
            rintro e w12 ⟨rfl, hb12⟩
            have A_12 := A_11.on hb12
            have B_12 := B_11.on hb12
            have C_12 := C_11.on hb12
            have S12 : (fun W => Below w.heap.size w W) w12 := stepB S11 hb12
            refine hK.out _ _ S12 (fun h12 => ?_)
            clear h11 hK K
            try simp only [Act.put, List.setIfInBounds_toArray, List.set_cons_zero, List.set_cons_succ]
            refine wpAnyH_ready (rs := [6]) (by kernel_rfl) (by simp) ?_
            refine AllReadyH.cons (o := ⟨none, _, _, _, _, _⟩) rfl (fun K hK => ?_) AllReadyH.nil
            rw [if_pos (by rfl)]
            refine wp_store_row 24 (.tmp 3) (.tmp 10) rfl z #[.slice pA pn pc, .slice qA qn qc] rfl rfl 24 _ A_12 size24 rfl (by simp [Value.oneCell']) ?_
            refine hK.out _ _ (below_row S12 (by omega) _) (fun h13 => ?_)
            clear h12 hK K
            have S13 : Below w.heap.size w (w12.setRow z #[.slice pA pn pc, .slice qA qn qc]) := below_row S12 (by omega) _
            have A_13 : Blk (w12.setRow z #[.slice pA pn pc, .slice qA qn qc]) z 24 #[.slice pA pn pc, .slice qA qn qc] := setRow_heap _ _ _ _ _ _ A_12
            have B_13 := (show Blk (w12.setRow z #[.slice pA pn pc, .slice qA qn qc]) ((z + 1)) 24 _ from (setRow_other _ _ _ _ (by omega)).trans B_12)
            have C_13 := (show Blk (w12.setRow z #[.slice pA pn pc, .slice qA qn qc]) ((z + 1 + 1)) 24 _ from (setRow_other _ _ _ _ (by omega)).trans C_12)
            try simp only [Act.put]
            refine wpAnyH_ready (rs := [7]) (by kernel_rfl) (by simp) ?_
            refine AllReadyH.cons (o := ⟨none, _, _, _, _, _⟩) rfl (fun K hK => ?_) AllReadyH.nil
            rw [if_pos (by rfl)]
            refine wp_store_row 24 (.tmp 4) (.tmp 12) rfl (z + 1) #[.slice sA sn sc, .slice tA tn tc] rfl rfl 24 _ B_13 size24 rfl (by simp [Value.oneCell']) ?_
            refine hK.out _ _ (below_row S13 (by omega) _) (fun h14 => ?_)
            clear h13 hK K
            have S14 : Below w.heap.size w ((w12.setRow z #[.slice pA pn pc, .slice qA qn qc]).setRow (z + 1) #[.slice sA sn sc, .slice tA tn tc]) := below_row S13 (by omega) _
            have A_14 := (show Blk ((w12.setRow z #[.slice pA pn pc, .slice qA qn qc]).setRow (z + 1) #[.slice sA sn sc, .slice tA tn tc]) (z) 24 _ from (setRow_other _ _ _ _ (by omega)).trans A_13)
            have B_14 : Blk ((w12.setRow z #[.slice pA pn pc, .slice qA qn qc]).setRow (z + 1) #[.slice sA sn sc, .slice tA tn tc]) (z + 1) 24 #[.slice sA sn sc, .slice tA tn tc] := setRow_heap _ _ _ _ _ _ B_13
            have C_14 := (show Blk ((w12.setRow z #[.slice pA pn pc, .slice qA qn qc]).setRow (z + 1) #[.slice sA sn sc, .slice tA tn tc]) ((z + 1 + 1)) 24 _ from (setRow_other _ _ _ _ (by omega)).trans C_13)
            try simp only [Act.put]
            refine wpAnyH_ready (rs := [8]) (by kernel_rfl) (by simp) ?_
            refine AllReadyH.cons (o := ⟨none, _, _, _, _, _⟩) rfl (fun K hK => ?_) AllReadyH.nil
            rw [if_pos (by rfl)]
            refine wp_store_row 24 (.tmp 5) (.tmp 14) rfl (z + 1 + 1) #[.slice uA un uc, .slice vA vn vc] rfl rfl 24 _ C_14 size24 rfl (by simp [Value.oneCell']) ?_
            refine hK.out _ _ (below_row S14 (by omega) _) (fun h15 => ?_)
            clear h14 hK K
            have S15 : Below w.heap.size w (((w12.setRow z #[.slice pA pn pc, .slice qA qn qc]).setRow (z + 1) #[.slice sA sn sc, .slice tA tn tc]).setRow (z + 1 + 1) #[.slice uA un uc, .slice vA vn vc]) := below_row S14 (by omega) _
            have A_15 := (show Blk (((w12.setRow z #[.slice pA pn pc, .slice qA qn qc]).setRow (z + 1) #[.slice sA sn sc, .slice tA tn tc]).setRow (z + 1 + 1) #[.slice uA un uc, .slice vA vn vc]) (z) 24 _ from (setRow_other _ _ _ _ (by omega)).trans A_14)
            have B_15 := (show Blk (((w12.setRow z #[.slice pA pn pc, .slice qA qn qc]).setRow (z + 1) #[.slice sA sn sc, .slice tA tn tc]).setRow (z + 1 + 1) #[.slice uA un uc, .slice vA vn vc]) ((z + 1)) 24 _ from (setRow_other _ _ _ _ (by omega)).trans B_14)
            have C_15 : Blk (((w12.setRow z #[.slice pA pn pc, .slice qA qn qc]).setRow (z + 1) #[.slice sA sn sc, .slice tA tn tc]).setRow (z + 1 + 1) #[.slice uA un uc, .slice vA vn vc]) (z + 1 + 1) 24 #[.slice uA un uc, .slice vA vn vc] := setRow_heap _ _ _ _ _ _ C_14
            try simp only [Act.put]
            refine wpAnyH_done (by kernel_rfl) ?_ _
            refine NoPanic.normal ?_
            go_wp2_with fail
            go_meet
            exact ⟨S15, A_15, B_15, C_15⟩
        · rw [if_pos (by rfl)]
          refine wp_load_row 24 (.tmp 5) rfl (z + 1 + 1) rfl 24 #[.slice rC rk re, .slice xC xk xe] (0, 0) _ C_2 Try.underlying24 rfl size24 ?_
          refine hK.out _ _ S2 (fun h16 => ?_)
          clear h2 hK K
          try simp only [Act.put, List.setIfInBounds_toArray, List.set_cons_zero, List.set_cons_succ]
          refine wpAnyH_ready (rs := [2]) (by kernel_rfl) (by simp) ?_
          refine AllReadyH.cons (o := ⟨some 11, _, _, _, _, _⟩) rfl (fun K hK => ?_) AllReadyH.nil
          rw [if_pos (by rfl)]
          refine wp_load_row 24 (.tmp 4) rfl (z + 1) rfl 24 #[.slice rB rm rd, .slice xB xm xd] (0, 0) _ B_2 Try.underlying24 rfl size24 ?_
          refine hK.out _ _ S2 (fun h17 => ?_)
          clear h16 hK K
          try simp only [Act.put, List.setIfInBounds_toArray, List.set_cons_zero, List.set_cons_succ]
          refine wpAnyH_ready (rs := [3]) (by kernel_rfl) (by simp) ?_
          refine AllReadyH.cons (o := ⟨some 12, _, _, _, _, _⟩) rfl (fun K hK => ?_) AllReadyH.nil
          go_simp
          refine (cB _ S2).mono ?_
          rintro e w18 ⟨rfl, hb18⟩
          have A_18 := A_2.on hb18
          have B_18 := B_2.on hb18
          have C_18 := C_2.on hb18
          have S18 : (fun W => Below w.heap.size w W) w18 := stepB S2 hb18
          refine hK.out _ _ S18 (fun h18 => ?_)
          clear h17 hK K
          try simp only [Act.put, List.setIfInBounds_toArray, List.set_cons_zero, List.set_cons_succ]
          refine wpAnyH_ready (rs := [5]) (by kernel_rfl) (by simp) ?_
          refine AllReadyH.cons (o := ⟨some 14, _, _, _, _, _⟩) rfl (fun K hK => ?_) AllReadyH.nil
          go_simp
          refine (cC _ S18).mono ?_
          rintro e w19 ⟨rfl, hb19⟩
          have A_19 := A_18.on hb19
          have B_19 := B_18.on hb19
          have C_19 := C_18.on hb19
          have S19 : (fun W => Below w.heap.size w W) w19 := stepB S18 hb19
          refine hK.out _ _ S19 (fun h19 => ?_)
          clear h18 hK K
          try simp only [Act.put, List.setIfInBounds_toArray, List.set_cons_zero, List.set_cons_succ]
          refine wpAnyH_ready (rs := [6]) (by kernel_rfl) (by simp) ?_
          refine AllReadyH.cons (o := ⟨none, _, _, _, _, _⟩) rfl (fun K hK => ?_) AllReadyH.nil
          rw [if_pos (by rfl)]
          refine wp_store_row 24 (.tmp 3) (.tmp 10) rfl z #[.slice pA pn pc, .slice qA qn qc] rfl rfl 24 _ A_19 size24 rfl (by simp [Value.oneCell']) ?_
          refine hK.out _ _ (below_row S19 (by omega) _) (fun h20 => ?_)
          clear h19 hK K
          have S20 : Below w.heap.size w (w19.setRow z #[.slice pA pn pc, .slice qA qn qc]) := below_row S19 (by omega) _
          have A_20 : Blk (w19.setRow z #[.slice pA pn pc, .slice qA qn qc]) z 24 #[.slice pA pn pc, .slice qA qn qc] := setRow_heap _ _ _ _ _ _ A_19
          have B_20 := (show Blk (w19.setRow z #[.slice pA pn pc, .slice qA qn qc]) ((z + 1)) 24 _ from (setRow_other _ _ _ _ (by omega)).trans B_19)
          have C_20 := (show Blk (w19.setRow z #[.slice pA pn pc, .slice qA qn qc]) ((z + 1 + 1)) 24 _ from (setRow_other _ _ _ _ (by omega)).trans C_19)
          try simp only [Act.put]
          refine wpAnyH_ready (rs := [7]) (by kernel_rfl) (by simp) ?_
          refine AllReadyH.cons (o := ⟨none, _, _, _, _, _⟩) rfl (fun K hK => ?_) AllReadyH.nil
          rw [if_pos (by rfl)]
          refine wp_store_row 24 (.tmp 4) (.tmp 12) rfl (z + 1) #[.slice sA sn sc, .slice tA tn tc] rfl rfl 24 _ B_20 size24 rfl (by simp [Value.oneCell']) ?_
          refine hK.out _ _ (below_row S20 (by omega) _) (fun h21 => ?_)
          clear h20 hK K
          have S21 : Below w.heap.size w ((w19.setRow z #[.slice pA pn pc, .slice qA qn qc]).setRow (z + 1) #[.slice sA sn sc, .slice tA tn tc]) := below_row S20 (by omega) _
          have A_21 := (show Blk ((w19.setRow z #[.slice pA pn pc, .slice qA qn qc]).setRow (z + 1) #[.slice sA sn sc, .slice tA tn tc]) (z) 24 _ from (setRow_other _ _ _ _ (by omega)).trans A_20)
          have B_21 : Blk ((w19.setRow z #[.slice pA pn pc, .slice qA qn qc]).setRow (z + 1) #[.slice sA sn sc, .slice tA tn tc]) (z + 1) 24 #[.slice sA sn sc, .slice tA tn tc] := setRow_heap _ _ _ _ _ _ B_20
          have C_21 := (show Blk ((w19.setRow z #[.slice pA pn pc, .slice qA qn qc]).setRow (z + 1) #[.slice sA sn sc, .slice tA tn tc]) ((z + 1 + 1)) 24 _ from (setRow_other _ _ _ _ (by omega)).trans C_20)
          try simp only [Act.put]
          refine wpAnyH_ready (rs := [8]) (by kernel_rfl) (by simp) ?_
          refine AllReadyH.cons (o := ⟨none, _, _, _, _, _⟩) rfl (fun K hK => ?_) AllReadyH.nil
          rw [if_pos (by rfl)]
          refine wp_store_row 24 (.tmp 5) (.tmp 14) rfl (z + 1 + 1) #[.slice uA un uc, .slice vA vn vc] rfl rfl 24 _ C_21 size24 rfl (by simp [Value.oneCell']) ?_
          refine hK.out _ _ (below_row S21 (by omega) _) (fun h22 => ?_)
          clear h21 hK K
          have S22 : Below w.heap.size w (((w19.setRow z #[.slice pA pn pc, .slice qA qn qc]).setRow (z + 1) #[.slice sA sn sc, .slice tA tn tc]).setRow (z + 1 + 1) #[.slice uA un uc, .slice vA vn vc]) := below_row S21 (by omega) _
          have A_22 := (show Blk (((w19.setRow z #[.slice pA pn pc, .slice qA qn qc]).setRow (z + 1) #[.slice sA sn sc, .slice tA tn tc]).setRow (z + 1 + 1) #[.slice uA un uc, .slice vA vn vc]) (z) 24 _ from (setRow_other _ _ _ _ (by omega)).trans A_21)
          have B_22 := (show Blk (((w19.setRow z #[.slice pA pn pc, .slice qA qn qc]).setRow (z + 1) #[.slice sA sn sc, .slice tA tn tc]).setRow (z + 1 + 1) #[.slice uA un uc, .slice vA vn vc]) ((z + 1)) 24 _ from (setRow_other _ _ _ _ (by omega)).trans B_21)
          have C_22 : Blk (((w19.setRow z #[.slice pA pn pc, .slice qA qn qc]).setRow (z + 1) #[.slice sA sn sc, .slice tA tn tc]).setRow (z + 1 + 1) #[.slice uA un uc, .slice vA vn vc]) (z + 1 + 1) 24 #[.slice uA un uc, .slice vA vn vc] := setRow_heap _ _ _ _ _ _ C_21
          try simp only [Act.put]
          refine wpAnyH_done (by kernel_rfl) ?_ _
          refine NoPanic.normal ?_
          go_wp2_with fail
          go_meet
          exact ⟨S22, A_22, B_22, C_22⟩
      · rw [if_pos (by rfl)]
        refine wp_load_row 24 (.tmp 4) rfl (z + 1) rfl 24 #[.slice rB rm rd, .slice xB xm xd] (0, 0) _ hB Try.underlying24 rfl size24 ?_
        refine hK.out _ _ k0 (fun h23 => ?_)
        clear h1 hK K
        try simp only [Act.put, List.setIfInBounds_toArray, List.set_cons_zero, List.set_cons_succ]
        refine wpAnyH_ready (rs := [1, 4]) (by kernel_rfl) (by simp) ?_
        refine AllReadyH.cons (o := ⟨some 10, _, _, _, _, _⟩) rfl (fun K hK => ?_) (AllReadyH.cons (o := ⟨some 13, _, _, _, _, _⟩) rfl (fun K hK => ?_) AllReadyH.nil)
        · go_simp
          refine (cA _ k0).mono ?_
          rintro e w24 ⟨rfl, hb24⟩
          have A_24 := hA.on hb24
          have B_24 := hB.on hb24
          have C_24 := hC.on hb24
          have S24 : (fun W => Below w.heap.size w W) w24 := stepB k0 hb24
          refine hK.out _ _ S24 (fun h24 => ?_)
          clear h23 hK K
          try simp only [Act.put, List.setIfInBounds_toArray, List.set_cons_zero, List.set_cons_succ]
          refine wpAnyH_ready (rs := [3, 4]) (by kernel_rfl) (by simp) ?_
          refine AllReadyH.cons (o := ⟨some 12, _, _, _, _, _⟩) rfl (fun K hK => ?_) (AllReadyH.cons (o := ⟨some 13, _, _, _, _, _⟩) rfl (fun K hK => ?_) AllReadyH.nil)
          · go_simp
            refine (cB _ S24).mono ?_
            rintro e w25 ⟨rfl, hb25⟩
            have A_25 := A_24.on hb25
            have B_25 := B_24.on hb25
            have C_25 := C_24.on hb25
            have S25 : (fun W => Below w.heap.size w W) w25 := stepB S24 hb25
            refine hK.out _ _ S25 (fun h25 => ?_)
            clear h24 hK K
            try simp only [Act.put, List.setIfInBounds_toArray, List.set_cons_zero, List.set_cons_succ]
            refine wpAnyH_ready (rs := [4]) (by kernel_rfl) (by simp) ?_
            refine AllReadyH.cons (o := ⟨some 13, _, _, _, _, _⟩) rfl (fun K hK => ?_) AllReadyH.nil
            rw [if_pos (by rfl)]
            refine wp_load_row 24 (.tmp 5) rfl (z + 1 + 1) rfl 24 #[.slice rC rk re, .slice xC xk xe] (0, 0) _ C_25 Try.underlying24 rfl size24 ?_
            refine hK.out _ _ S25 (fun h26 => ?_)
            clear h25 hK K
            try simp only [Act.put, List.setIfInBounds_toArray, List.set_cons_zero, List.set_cons_succ]
            refine wpAnyH_ready (rs := [5]) (by kernel_rfl) (by simp) ?_
            refine AllReadyH.cons (o := ⟨some 14, _, _, _, _, _⟩) rfl (fun K hK => ?_) AllReadyH.nil
            go_simp
            refine (cC _ S25).mono ?_
            rintro e w27 ⟨rfl, hb27⟩
            have A_27 := A_25.on hb27
            have B_27 := B_25.on hb27
            have C_27 := C_25.on hb27
            have S27 : (fun W => Below w.heap.size w W) w27 := stepB S25 hb27
            refine hK.out _ _ S27 (fun h27 => ?_)
            clear h26 hK K
            try simp only [Act.put, List.setIfInBounds_toArray, List.set_cons_zero, List.set_cons_succ]
            refine wpAnyH_ready (rs := [6]) (by kernel_rfl) (by simp) ?_
            refine AllReadyH.cons (o := ⟨none, _, _, _, _, _⟩) rfl (fun K hK => ?_) AllReadyH.nil
            rw [if_pos (by rfl)]
            refine wp_store_row 24 (.tmp 3) (.tmp 10) rfl z #[.slice pA pn pc, .slice qA qn qc] rfl rfl 24 _ A_27 size24 rfl (by simp [Value.oneCell']) ?_
            refine hK.out _ _ (below_row S27 (by omega) _) (fun h28 => ?_)
            clear h27 hK K
            have S28 : Below w.heap.size w (w27.setRow z #[.slice pA pn pc, .slice qA qn qc]) := below_row S27 (by omega) _
            have A_28 : Blk (w27.setRow z #[.slice pA pn pc, .slice qA qn qc]) z 24 #[.slice pA pn pc, .slice qA qn qc] := setRow_heap _ _ _ _ _ _ A_27
            have B_28 := (show Blk (w27.setRow z #[.slice pA pn pc, .slice qA qn qc]) ((z + 1)) 24 _ from (setRow_other _ _ _ _ (by omega)).trans B_27)
            have C_28 := (show Blk (w27.setRow z #[.slice pA pn pc, .slice qA qn qc]) ((z + 1 + 1)) 24 _ from (setRow_other _ _ _ _ (by omega)).trans C_27)
            try simp only [Act.put]
            refine wpAnyH_ready (rs := [7]) (by kernel_rfl) (by simp) ?_
            refine AllReadyH.cons (o := ⟨none, _, _, _, _, _⟩) rfl (fun K hK => ?_) AllReadyH.nil
            rw [if_pos (by rfl)]
            refine wp_store_row 24 (.tmp 4) (.tmp 12) rfl (z + 1) #[.slice sA sn sc, .slice tA tn tc] rfl rfl 24 _ B_28 size24 rfl (by simp [Value.oneCell']) ?_
            refine hK.out _ _ (below_row S28 (by omega) _) (fun h29 => ?_)
            clear h28 hK K
            have S29 : Below w.heap.size w ((w27.setRow z #[.slice pA pn pc, .slice qA qn qc]).setRow (z + 1) #[.slice sA sn sc, .slice tA tn tc]) := below_row S28 (by omega) _
            have A_29 := (show Blk ((w27.setRow z #[.slice pA pn pc, .slice qA qn qc]).setRow (z + 1) #[.slice sA sn sc, .slice tA tn tc]) (z) 24 _ from (setRow_other _ _ _ _ (by omega)).trans A_28)
            have B_29 : Blk ((w27.setRow z #[.slice pA pn pc, .slice qA qn qc]).setRow (z + 1) #[.slice sA sn sc, .slice tA tn tc]) (z + 1) 24 #[.slice sA sn sc, .slice tA tn tc] := setRow_heap _ _ _ _ _ _ B_28
            have C_29 := (show Blk ((w27.setRow z #[.slice pA pn pc, .slice qA qn qc]).setRow (z + 1) #[.slice sA sn sc, .slice tA tn tc]) ((z + 1 + 1)) 24 _ from (setRow_other _ _ _ _ (by omega)).trans C_28)
            try simp only [Act.put]
            refine wpAnyH_ready (rs := [8]) (by kernel_rfl) (by simp) ?_
            refine AllReadyH.cons (o := ⟨none, _, _, _, _, _⟩) rfl (fun K hK => ?_) AllReadyH.nil
            rw [if_pos (by rfl)]
            refine wp_store_row 24 (.tmp 5) (.tmp 14) rfl (z + 1 + 1) #[.slice uA un uc, .slice vA vn vc] rfl rfl 24 _ C_29 size24 rfl (by simp [Value.oneCell']) ?_
            refine hK.out _ _ (below_row S29 (by omega) _) (fun h30 => ?_)
            clear h29 hK K
            have S30 : Below w.heap.size w (((w27.setRow z #[.slice pA pn pc, .slice qA qn qc]).setRow (z + 1) #[.slice sA sn sc, .slice tA tn tc]).setRow (z + 1 + 1) #[.slice uA un uc, .slice vA vn vc]) := below_row S29 (by omega) _
            have A_30 := (show Blk (((w27.setRow z #[.slice pA pn pc, .slice qA qn qc]).setRow (z + 1) #[.slice sA sn sc, .slice tA tn tc]).setRow (z + 1 + 1) #[.slice uA un uc, .slice vA vn vc]) (z) 24 _ from (setRow_other _ _ _ _ (by omega)).trans A_29)
            have B_30 := (show Blk (((w27.setRow z #[.slice pA pn pc, .slice qA qn qc]).setRow (z + 1) #[.slice sA sn sc, .slice tA tn tc]).setRow (z + 1 + 1) #[.slice uA un uc, .slice vA vn vc]) ((z + 1)) 24 _ from (setRow_other _ _ _ _ (by omega)).trans B_29)
            have C_30 : Blk (((w27.setRow z #[.slice pA pn pc, .slice qA qn qc]).setRow (z + 1) #[.slice sA sn sc, .slice tA tn tc]).setRow (z + 1 + 1) #[.slice uA un uc, .slice vA vn vc]) (z + 1 + 1) 24 #[.slice uA un uc, .slice vA vn vc] := setRow_heap _ _ _ _ _ _ C_29
            try simp only [Act.put]
            refine wpAnyH_done (by kernel_rfl) ?_ _
            refine NoPanic.normal ?_
            go_wp2_with fail
            go_meet
            exact ⟨S30, A_30, B_30, C_30⟩
          · rw [if_pos (by rfl)]
            refine wp_load_row 24 (.tmp 5) rfl (z + 1 + 1) rfl 24 #[.slice rC rk re, .slice xC xk xe] (0, 0) _ C_24 Try.underlying24 rfl size24 ?_
            refine hK.out _ _ S24 (fun h31 => ?_)
            clear h24 hK K
            try simp only [Act.put, List.setIfInBounds_toArray, List.set_cons_zero, List.set_cons_succ]
            refine wpAnyH_ready (rs := [3]) (by kernel_rfl) (by simp) ?_
            refine AllReadyH.cons (o := ⟨some 12, _, _, _, _, _⟩) rfl (fun K hK => ?_) AllReadyH.nil
            go_simp
            refine (cB _ S24).mono ?_
            rintro e w32 ⟨rfl, hb32⟩
            have A_32 := A_24.on hb32
            have B_32 := B_24.on hb32
            have C_32 := C_24.on hb32
            have S32 : (fun W => Below w.heap.size w W) w32 := stepB S24 hb32
            refine hK.out _ _ S32 (fun h32 => ?_)
            clear h31 hK K
            try simp only [Act.put, List.setIfInBounds_toArray, List.set_cons_zero, List.set_cons_succ]
            refine wpAnyH_ready (rs := [5]) (by kernel_rfl) (by simp) ?_
            refine AllReadyH.cons (o := ⟨some 14, _, _, _, _, _⟩) rfl (fun K hK => ?_) AllReadyH.nil
            go_simp
            refine (cC _ S32).mono ?_
            rintro e w33 ⟨rfl, hb33⟩
            have A_33 := A_32.on hb33
            have B_33 := B_32.on hb33
            have C_33 := C_32.on hb33
            have S33 : (fun W => Below w.heap.size w W) w33 := stepB S32 hb33
            refine hK.out _ _ S33 (fun h33 => ?_)
            clear h32 hK K
            try simp only [Act.put, List.setIfInBounds_toArray, List.set_cons_zero, List.set_cons_succ]
            refine wpAnyH_ready (rs := [6]) (by kernel_rfl) (by simp) ?_
            refine AllReadyH.cons (o := ⟨none, _, _, _, _, _⟩) rfl (fun K hK => ?_) AllReadyH.nil
            rw [if_pos (by rfl)]
            refine wp_store_row 24 (.tmp 3) (.tmp 10) rfl z #[.slice pA pn pc, .slice qA qn qc] rfl rfl 24 _ A_33 size24 rfl (by simp [Value.oneCell']) ?_
            refine hK.out _ _ (below_row S33 (by omega) _) (fun h34 => ?_)
            clear h33 hK K
            have S34 : Below w.heap.size w (w33.setRow z #[.slice pA pn pc, .slice qA qn qc]) := below_row S33 (by omega) _
            have A_34 : Blk (w33.setRow z #[.slice pA pn pc, .slice qA qn qc]) z 24 #[.slice pA pn pc, .slice qA qn qc] := setRow_heap _ _ _ _ _ _ A_33
            have B_34 := (show Blk (w33.setRow z #[.slice pA pn pc, .slice qA qn qc]) ((z + 1)) 24 _ from (setRow_other _ _ _ _ (by omega)).trans B_33)
            have C_34 := (show Blk (w33.setRow z #[.slice pA pn pc, .slice qA qn qc]) ((z + 1 + 1)) 24 _ from (setRow_other _ _ _ _ (by omega)).trans C_33)
            try simp only [Act.put]
            refine wpAnyH_ready (rs := [7]) (by kernel_rfl) (by simp) ?_
            refine AllReadyH.cons (o := ⟨none, _, _, _, _, _⟩) rfl (fun K hK => ?_) AllReadyH.nil
            rw [if_pos (by rfl)]
            refine wp_store_row 24 (.tmp 4) (.tmp 12) rfl (z + 1) #[.slice sA sn sc, .slice tA tn tc] rfl rfl 24 _ B_34 size24 rfl (by simp [Value.oneCell']) ?_
            refine hK.out _ _ (below_row S34 (by omega) _) (fun h35 => ?_)
            clear h34 hK K
            have S35 : Below w.heap.size w ((w33.setRow z #[.slice pA pn pc, .slice qA qn qc]).setRow (z + 1) #[.slice sA sn sc, .slice tA tn tc]) := below_row S34 (by omega) _
            have A_35 := (show Blk ((w33.setRow z #[.slice pA pn pc, .slice qA qn qc]).setRow (z + 1) #[.slice sA sn sc, .slice tA tn tc]) (z) 24 _ from (setRow_other _ _ _ _ (by omega)).trans A_34)
            have B_35 : Blk ((w33.setRow z #[.slice pA pn pc, .slice qA qn qc]).setRow (z + 1) #[.slice sA sn sc, .slice tA tn tc]) (z + 1) 24 #[.slice sA sn sc, .slice tA tn tc] := setRow_heap _ _ _ _ _ _ B_34
            have C_35 := (show Blk ((w33.setRow z #[.slice pA pn pc, .slice qA qn qc]).setRow (z + 1) #[.slice sA sn sc, .slice tA tn tc]) ((z + 1 + 1)) 24 _ from (setRow_other _ _ _ _ (by omega)).trans C_34)
            try simp only [Act.put]
            refine wpAnyH_ready (rs := [8]) (by kernel_rfl) (by simp) ?_
            refine AllReadyH.cons (o := ⟨none, _, _, _, _, _⟩) rfl (fun K hK => ?_) AllReadyH.nil
            rw [if_pos (by rfl)]
            refine wp_store_row 24 (.tmp 5) (.tmp 14) rfl (z + 1 + 1) #[.slice uA un uc, .slice vA vn vc] rfl rfl 24 _ C_35 size24 rfl (by simp [Value.oneCell']) ?_
            refine hK.out _ _ (below_row S35 (by omega) _) (fun h36 => ?_)
            clear h35 hK K
            have S36 : Below w.heap.size w (((w33.setRow z #[.slice pA pn pc, .slice qA qn qc]).setRow (z + 1) #[.slice sA sn sc, .slice tA tn tc]).setRow (z + 1 + 1) #[.slice uA un uc, .slice vA vn vc]) := below_row S35 (by omega) _
            have A_36 := (show Blk (((w33.setRow z #[.slice pA pn pc, .slice qA qn qc]).setRow (z + 1) #[.slice sA sn sc, .slice tA tn tc]).setRow (z + 1 + 1) #[.slice uA un uc, .slice vA vn vc]) (z) 24 _ from (setRow_other _ _ _ _ (by omega)).trans A_35)
            have B_36 := (show Blk (((w33.setRow z #[.slice pA pn pc, .slice qA qn qc]).setRow (z + 1) #[.slice sA sn sc, .slice tA tn tc]).setRow (z + 1 + 1) #[.slice uA un uc, .slice vA vn vc]) ((z + 1)) 24 _ from (setRow_other _ _ _ _ (by omega)).trans B_35)
            have C_36 : Blk (((w33.setRow z #[.slice pA pn pc, .slice qA qn qc]).setRow (z + 1) #[.slice sA sn sc, .slice tA tn tc]).setRow (z + 1 + 1) #[.slice uA un uc, .slice vA vn vc]) (z + 1 + 1) 24 #[.slice uA un uc, .slice vA vn vc] := setRow_heap _ _ _ _ _ _ C_35
            try simp only [Act.put]
            refine wpAnyH_done (by kernel_rfl) ?_ _
            refine NoPanic.normal ?_
            go_wp2_with fail
            go_meet
            exact ⟨S36, A_36, B_36, C_36⟩
        · rw [if_pos (by rfl)]
          refine wp_load_row 24 (.tmp 5) rfl (z + 1 + 1) rfl 24 #[.slice rC rk re, .slice xC xk xe] (0, 0) _ hC Try.underlying24 rfl size24 ?_
          refine hK.out _ _ k0 (fun h37 => ?_)
          clear h23 hK K
          try simp only [Act.put, List.setIfInBounds_toArray, List.set_cons_zero, List.set_cons_succ]
          refine wpAnyH_ready (rs := [1]) (by kernel_rfl) (by simp) ?_
          refine AllReadyH.cons (o := ⟨some 10, _, _, _, _, _⟩) rfl (fun K hK => ?_) AllReadyH.nil
          go_simp
          refine (cA _ k0).mono ?_
          rintro e w38 ⟨rfl, hb38⟩
          have A_38 := hA.on hb38
          have B_38 := hB.on hb38
          have C_38 := hC.on hb38
          have S38 : (fun W => Below w.heap.size w W) w38 := stepB k0 hb38
          refine hK.out _ _ S38 (fun h38 => ?_)
          clear h37 hK K
          try simp only [Act.put, List.setIfInBounds_toArray, List.set_cons_zero, List.set_cons_succ]
          refine wpAnyH_ready (rs := [3]) (by kernel_rfl) (by simp) ?_
          refine AllReadyH.cons (o := ⟨some 12, _, _, _, _, _⟩) rfl (fun K hK => ?_) AllReadyH.nil
          go_simp
          refine (cB _ S38).mono ?_
          rintro e w39 ⟨rfl, hb39⟩
          have A_39 := A_38.on hb39
          have B_39 := B_38.on hb39
          have C_39 := C_38.on hb39
          have S39 : (fun W => Below w.heap.size w W) w39 := stepB S38 hb39
          refine hK.out _ _ S39 (fun h39 => ?_)
          clear h38 hK K
          try simp only [Act.put, List.setIfInBounds_toArray, List.set_cons_zero, List.set_cons_succ]
          refine wpAnyH_ready (rs := [5]) (by kernel_rfl) (by simp) ?_
          refine AllReadyH.cons (o := ⟨some 14, _, _, _, _, _⟩) rfl (fun K hK => ?_) AllReadyH.nil
          go_simp
          refine (cC _ S39).mono ?_
          rintro e w40 ⟨rfl, hb40⟩
          have A_40 := A_39.on hb40
          have B_40 := B_39.on hb40
          have C_40 := C_39.on hb40
          have S40 : (fun W => Below w.heap.size w W) w40 := stepB S39 hb40
          refine hK.out _ _ S40 (fun h40 => ?_)
          clear h39 hK K
          try simp only [Act.put, List.setIfInBounds_toArray, List.set_cons_zero, List.set_cons_succ]
          refine wpAnyH_ready (rs := [6]) (by kernel_rfl) (by simp) ?_
          refine AllReadyH.cons (o := ⟨none, _, _, _, _, _⟩) rfl (fun K hK => ?_) AllReadyH.nil
          rw [if_pos (by rfl)]
          refine wp_store_row 24 (.tmp 3) (.tmp 10) rfl z #[.slice pA pn pc, .slice qA qn qc] rfl rfl 24 _ A_40 size24 rfl (by simp [Value.oneCell']) ?_
          refine hK.out _ _ (below_row S40 (by omega) _) (fun h41 => ?_)
          clear h40 hK K
          have S41 : Below w.heap.size w (w40.setRow z #[.slice pA pn pc, .slice qA qn qc]) := below_row S40 (by omega) _
          have A_41 : Blk (w40.setRow z #[.slice pA pn pc, .slice qA qn qc]) z 24 #[.slice pA pn pc, .slice qA qn qc] := setRow_heap _ _ _ _ _ _ A_40
          have B_41 := (show Blk (w40.setRow z #[.slice pA pn pc, .slice qA qn qc]) ((z + 1)) 24 _ from (setRow_other _ _ _ _ (by omega)).trans B_40)
          have C_41 := (show Blk (w40.setRow z #[.slice pA pn pc, .slice qA qn qc]) ((z + 1 + 1)) 24 _ from (setRow_other _ _ _ _ (by omega)).trans C_40)
          try simp only [Act.put]
          refine wpAnyH_ready (rs := [7]) (by kernel_rfl) (by simp) ?_
          refine AllReadyH.cons (o := ⟨none, _, _, _, _, _⟩) rfl (fun K hK => ?_) AllReadyH.nil
          rw [if_pos (by rfl)]
          refine wp_store_row 24 (.tmp 4) (.tmp 12) rfl (z + 1) #[.slice sA sn sc, .slice tA tn tc] rfl rfl 24 _ B_41 size24 rfl (by simp [Value.oneCell']) ?_
          refine hK.out _ _ (below_row S41 (by omega) _) (fun h42 => ?_)
          clear h41 hK K
          have S42 : Below w.heap.size w ((w40.setRow z #[.slice pA pn pc, .slice qA qn qc]).setRow (z + 1) #[.slice sA sn sc, .slice tA tn tc]) := below_row S41 (by omega) _
          have A_42 := (show Blk ((w40.setRow z #[.slice pA pn pc, .slice qA qn qc]).setRow (z + 1) #[.slice sA sn sc, .slice tA tn tc]) (z) 24 _ from (setRow_other _ _ _ _ (by omega)).trans A_41)
          have B_42 : Blk ((w40.setRow z #[.slice pA pn pc, .slice qA qn qc]).setRow (z + 1) #[.slice sA sn sc, .slice tA tn tc]) (z + 1) 24 #[.slice sA sn sc, .slice tA tn tc] := setRow_heap _ _ _ _ _ _ B_41
          have C_42 := (show Blk ((w40.setRow z #[.slice pA pn pc, .slice qA qn qc]).setRow (z + 1) #[.slice sA sn sc, .slice tA tn tc]) ((z + 1 + 1)) 24 _ from (setRow_other _ _ _ _ (by omega)).trans C_41)
          try simp only [Act.put]
          refine wpAnyH_ready (rs := [8]) (by kernel_rfl) (by simp) ?_
          refine AllReadyH.cons (o := ⟨none, _, _, _, _, _⟩) rfl (fun K hK => ?_) AllReadyH.nil
          rw [if_pos (by rfl)]
          refine wp_store_row 24 (.tmp 5) (.tmp 14) rfl (z + 1 + 1) #[.slice uA un uc, .slice vA vn vc] rfl rfl 24 _ C_42 size24 rfl (by simp [Value.oneCell']) ?_
          refine hK.out _ _ (below_row S42 (by omega) _) (fun h43 => ?_)
          clear h42 hK K
          have S43 : Below w.heap.size w (((w40.setRow z #[.slice pA pn pc, .slice qA qn qc]).setRow (z + 1) #[.slice sA sn sc, .slice tA tn tc]).setRow (z + 1 + 1) #[.slice uA un uc, .slice vA vn vc]) := below_row S42 (by omega) _
          have A_43 := (show Blk (((w40.setRow z #[.slice pA pn pc, .slice qA qn qc]).setRow (z + 1) #[.slice sA sn sc, .slice tA tn tc]).setRow (z + 1 + 1) #[.slice uA un uc, .slice vA vn vc]) (z) 24 _ from (setRow_other _ _ _ _ (by omega)).trans A_42)
          have B_43 := (show Blk (((w40.setRow z #[.slice pA pn pc, .slice qA qn qc]).setRow (z + 1) #[.slice sA sn sc, .slice tA tn tc]).setRow (z + 1 + 1) #[.slice uA un uc, .slice vA vn vc]) ((z + 1)) 24 _ from (setRow_other _ _ _ _ (by omega)).trans B_42)
          have C_43 : Blk (((w40.setRow z #[.slice pA pn pc, .slice qA qn qc]).setRow (z + 1) #[.slice sA sn sc, .slice tA tn tc]).setRow (z + 1 + 1) #[.slice uA un uc, .slice vA vn vc]) (z + 1 + 1) 24 #[.slice uA un uc, .slice vA vn vc] := setRow_heap _ _ _ _ _ _ C_42
          try simp only [Act.put]
          refine wpAnyH_done (by kernel_rfl) ?_ _
          refine NoPanic.normal ?_
          go_wp2_with fail
          go_meet
          exact ⟨S43, A_43, B_43, C_43⟩
      · rw [if_pos (by rfl)]
        refine wp_load_row 24 (.tmp 5) rfl (z + 1 + 1) rfl 24 #[.slice rC rk re, .slice xC xk xe] (0, 0) _ hC Try.underlying24 rfl size24 ?_
        refine hK.out _ _ k0 (fun h44 => ?_)
        clear h1 hK K
        try simp only [Act.put, List.setIfInBounds_toArray, List.set_cons_zero, List.set_cons_succ]
        refine wpAnyH_ready (rs := [1, 2]) (by kernel_rfl) (by simp) ?_
        refine AllReadyH.cons (o := ⟨some 10, _, _, _, _, _⟩) rfl (fun K hK => ?_) (AllReadyH.cons (o := ⟨some 11, _, _, _, _, _⟩) rfl (fun K hK => ?_) AllReadyH.nil)
        · go_simp
          refine (cA _ k0).mono ?_
          rintro e w45 ⟨rfl, hb45⟩
          have A_45 := hA.on hb45
          have B_45 := hB.on hb45
          have C_45 := hC.on hb45
          have S45 : (fun W => Below w.heap.size w W) w45 := stepB k0 hb45
          refine hK.out _ _ S45 (fun h45 => ?_)
          clear h44 hK K
          try simp only [Act.put, List.setIfInBounds_toArray, List.set_cons_zero, List.set_cons_succ]
          refine wpAnyH_ready (rs := [2]) (by kernel_rfl) (by simp) ?_
          refine AllReadyH.cons (o := ⟨some 11, _, _, _, _, _⟩) rfl (fun K hK => ?_) AllReadyH.nil
          rw [if_pos (by rfl)]
          refine wp_load_row 24 (.tmp 4) rfl (z + 1) rfl 24 #[.slice rB rm rd, .slice xB xm xd] (0, 0) _ B_45 Try.underlying24 rfl size24 ?_
          refine hK.out _ _ S45 (fun h46 => ?_)
          clear h45 hK K
          try simp only [Act.put, List.setIfInBounds_toArray, List.set_cons_zero, List.set_cons_succ]
          refine wpAnyH_ready (rs := [3]) (by kernel_rfl) (by simp) ?_
          refine AllReadyH.cons (o := ⟨some 12, _, _, _, _, _⟩) rfl (fun K hK => ?_) AllReadyH.nil
          go_simp
          refine (cB _ S45).mono ?_
          rintro e w47 ⟨rfl, hb47⟩
          have A_47 := A_45.on hb47
          have B_47 := B_45.on hb47
          have C_47 := C_45.on hb47
          have S47 : (fun W => Below w.heap.size w W) w47 := stepB S45 hb47
          refine hK.out _ _ S47 (fun h47 => ?_)
          clear h46 hK K
          try simp only [Act.put, List.setIfInBounds_toArray, List.set_cons_zero, List.set_cons_succ]
          refine wpAnyH_ready (rs := [5]) (by kernel_rfl) (by simp) ?_
          refine AllReadyH.cons (o := ⟨some 14, _, _, _, _, _⟩) rfl (fun K hK => ?_) AllReadyH.nil
          go_simp
          refine (cC _ S47).mono ?_
          rintro e w48 ⟨rfl, hb48⟩
          have A_48 := A_47.on hb48
          have B_48 := B_47.on hb48
          have C_48 := C_47.on hb48
          have S48 : (fun W => Below w.heap.size w W) w48 := stepB S47 hb48
          refine hK.out _ _ S48 (fun h48 => ?_)
          clear h47 hK K
          try simp only [Act.put, List.setIfInBounds_toArray, List.set_cons_zero, List.set_cons_succ]
          refine wpAnyH_ready (rs := [6]) (by kernel_rfl) (by simp) ?_
          refine AllReadyH.cons (o := ⟨none, _, _, _, _, _⟩) rfl (fun K hK => ?_) AllReadyH.nil
          rw [if_pos (by rfl)]
          refine wp_store_row 24 (.tmp 3) (.tmp 10) rfl z #[.slice pA pn pc, .slice qA qn qc] rfl rfl 24 _ A_48 size24 rfl (by simp [Value.oneCell']) ?_
          refine hK.out _ _ (below_row S48 (by omega) _) (fun h49 => ?_)
          clear h48 hK K
          have S49 : Below w.heap.size w (w48.setRow z #[.slice pA pn pc, .slice qA qn qc]) := below_row S48 (by omega) _
          have A_49 : Blk (w48.setRow z #[.slice pA pn pc, .slice qA qn qc]) z 24 #[.slice pA pn pc, .slice qA qn qc] := setRow_heap _ _ _ _ _ _ A_48
          have B_49 := (show Blk (w48.setRow z #[.slice pA pn pc, .slice qA qn qc]) ((z + 1)) 24 _ from (setRow_other _ _ _ _ (by omega)).trans B_48)
          have C_49 := (show Blk (w48.setRow z #[.slice pA pn pc, .slice qA qn qc]) ((z + 1 + 1)) 24 _ from (setRow_other _ _ _ _ (by omega)).trans C_48)
          try simp only [Act.put]
          refine wpAnyH_ready (rs := [7]) (by kernel_rfl) (by simp) ?_
          refine AllReadyH.cons (o := ⟨none, _, _, _, _, _⟩) rfl (fun K hK => ?_) AllReadyH.nil
          rw [if_pos (by rfl)]
          refine wp_store_row 24 (.tmp 4) (.tmp 12) rfl (z + 1) #[.slice sA sn sc, .slice tA tn tc] rfl rfl 24 _ B_49 size24 rfl (by simp [Value.oneCell']) ?_
          refine hK.out _ _ (below_row S49 (by omega) _) (fun h50 => ?_)
          clear h49 hK K
          have S50 : Below w.heap.size w ((w48.setRow z #[.slice pA pn pc, .slice qA qn qc]).setRow (z + 1) #[.slice sA sn sc, .slice tA tn tc]) := below_row S49 (by omega) _
          have A_50 := (show Blk ((w48.setRow z #[.slice pA pn pc, .slice qA qn qc]).setRow (z + 1) #[.slice sA sn sc, .slice tA tn tc]) (z) 24 _ from (setRow_other _ _ _ _ (by omega)).trans A_49)
          have B_50 : Blk ((w48.setRow z #[.slice pA pn pc, .slice qA qn qc]).setRow (z + 1) #[.slice sA sn sc, .slice tA tn tc]) (z + 1) 24 #[.slice sA sn sc, .slice tA tn tc] := setRow_heap _ _ _ _ _ _ B_49
          have C_50 := (show Blk ((w48.setRow z #[.slice pA pn pc, .slice qA qn qc]).setRow (z + 1) #[.slice sA sn sc, .slice tA tn tc]) ((z + 1 + 1)) 24 _ from (setRow_other _ _ _ _ (by omega)).trans C_49)
          try simp only [Act.put]
          refine wpAnyH_ready (rs := [8]) (by kernel_rfl) (by simp) ?_
          refine AllReadyH.cons (o := ⟨none, _, _, _, _, _⟩) rfl (fun K hK => ?_) AllReadyH.nil
          rw [if_pos (by rfl)]
          refine wp_store_row 24 (.tmp 5) (.tmp 14) rfl (z + 1 + 1) #[.slice uA un uc, .slice vA vn vc] rfl rfl 24 _ C_50 size24 rfl (by simp [Value.oneCell']) ?_
          refine hK.out _ _ (below_row S50 (by omega) _) (fun h51 => ?_)
          clear h50 hK K
          have S51 : Below w.heap.size w (((w48.setRow z #[.slice pA pn pc, .slice qA qn qc]).setRow (z + 1) #[.slice sA sn sc, .slice tA tn tc]).setRow (z + 1 + 1) #[.slice uA un uc, .slice vA vn vc]) := below_row S50 (by omega) _
          have A_51 := (show Blk (((w48.setRow z #[.slice pA pn pc, .slice qA qn qc]).setRow (z + 1) #[.slice sA sn sc, .slice tA tn tc]).setRow (z + 1 + 1) #[.slice uA un uc, .slice vA vn vc]) (z) 24 _ from (setRow_other _ _ _ _ (by omega)).trans A_50)
          have B_51 := (show Blk (((w48.setRow z #[.slice pA pn pc, .slice qA qn qc]).setRow (z + 1) #[.slice sA sn sc, .slice tA tn tc]).setRow (z + 1 + 1) #[.slice uA un uc, .slice vA vn vc]) ((z + 1)) 24 _ from (setRow_other _ _ _ _ (by omega)).trans B_50)
          have C_51 : Blk (((w48.setRow z #[.slice pA pn pc, .slice qA qn qc]).setRow (z + 1) #[.slice sA sn sc, .slice tA tn tc]).setRow (z + 1 + 1) #[.slice uA un uc, .slice vA vn vc]) (z + 1 + 1) 24 #[.slice uA un uc, .slice vA vn vc] := setRow_heap _ _ _ _ _ _ C_50
          try simp only [Act.put]
          refine wpAnyH_done (by kernel_rfl) ?_ _
          refine NoPanic.normal ?_
          go_wp2_with fail
          go_meet
          exact ⟨S51, A_51, B_51, C_51⟩
        · rw [if_pos (by rfl)]
          refine wp_load_row 24 (.tmp 4) rfl (z + 1) rfl 24 #[.slice rB rm rd, .slice xB xm xd] (0, 0) _ hB Try.underlying24 rfl size24 ?_
          refine hK.out _ _ k0 (fun h52 => ?_)
          clear h44 hK K
          try simp only [Act.put, List.setIfInBounds_toArray, List.set_cons_zero, List.set_cons_succ]
          refine wpAnyH_ready (rs := [1]) (by kernel_rfl) (by simp) ?_
          refine AllReadyH.cons (o := ⟨some 10, _, _, _, _, _⟩) rfl (fun K hK => ?_) AllReadyH.nil
          go_simp
          refine (cA _ k0).mono ?_
          rintro e w53 ⟨rfl, hb53⟩
          have A_53 := hA.on hb53
          have B_53 := hB.on hb53
          have C_53 := hC.on hb53
          have S53 : (fun W => Below w.heap.size w W) w53 := stepB k0 hb53
          refine hK.out _ _ S53 (fun h53 => ?_)
          clear h52 hK K
          try simp only [Act.put, List.setIfInBounds_toArray, List.set_cons_zero, List.set_cons_succ]
          refine wpAnyH_ready (rs := [3]) (by kernel_rfl) (by simp) ?_
          refine AllReadyH.cons (o := ⟨some 12, _, _, _, _, _⟩) rfl (fun K hK => ?_) AllReadyH.nil
          go_simp
          refine (cB _ S53).mono ?_
          rintro e w54 ⟨rfl, hb54⟩
          have A_54 := A_53.on hb54
          have B_54 := B_53.on hb54
          have C_54 := C_53.on hb54
          have S54 : (fun W => Below w.heap.size w W) w54 := stepB S53 hb54
          refine hK.out _ _ S54 (fun h54 => ?_)
          clear h53 hK K
          try simp only [Act.put, List.setIfInBounds_toArray, List.set_cons_zero, List.set_cons_succ]
          refine wpAnyH_ready (rs := [5]) (by kernel_rfl) (by simp) ?_
          refine AllReadyH.cons (o := ⟨some 14, _, _, _, _, _⟩) rfl (fun K hK => ?_) AllReadyH.nil
          go_simp
          refine (cC _ S54).mono ?_
          rintro e w55 ⟨rfl, hb55⟩
          have A_55 := A_54.on hb55
          have B_55 := B_54.on hb55
          have C_55 := C_54.on hb55
          have S55 : (fun W => Below w.heap.size w W) w55 := stepB S54 hb55
          refine hK.out _ _ S55 (fun h55 => ?_)
          clear h54 hK K
          try simp only [Act.put, List.setIfInBounds_toArray, List.set_cons_zero, List.set_cons_succ]
          refine wpAnyH_ready (rs := [6]) (by kernel_rfl) (by simp) ?_
          refine AllReadyH.cons (o := ⟨none, _, _, _, _, _⟩) rfl (fun K hK => ?_) AllReadyH.nil
          rw [if_pos (by rfl)]
          refine wp_store_row 24 (.tmp 3) (.tmp 10) rfl z #[.slice pA pn pc, .slice qA qn qc] rfl rfl 24 _ A_55 size24 rfl (by simp [Value.oneCell']) ?_
          refine hK.out _ _ (below_row S55 (by omega) _) (fun h56 => ?_)
          clear h55 hK K
          have S56 : Below w.heap.size w (w55.setRow z #[.slice pA pn pc, .slice qA qn qc]) := below_row S55 (by omega) _
          have A_56 : Blk (w55.setRow z #[.slice pA pn pc, .slice qA qn qc]) z 24 #[.slice pA pn pc, .slice qA qn qc] := setRow_heap _ _ _ _ _ _ A_55
          have B_56 := (show Blk (w55.setRow z #[.slice pA pn pc, .slice qA qn qc]) ((z + 1)) 24 _ from (setRow_other _ _ _ _ (by omega)).trans B_55)
          have C_56 := (show Blk (w55.setRow z #[.slice pA pn pc, .slice qA qn qc]) ((z + 1 + 1)) 24 _ from (setRow_other _ _ _ _ (by omega)).trans C_55)
          try simp only [Act.put]
          refine wpAnyH_ready (rs := [7]) (by kernel_rfl) (by simp) ?_
          refine AllReadyH.cons (o := ⟨none, _, _, _, _, _⟩) rfl (fun K hK => ?_) AllReadyH.nil
          rw [if_pos (by rfl)]
          refine wp_store_row 24 (.tmp 4) (.tmp 12) rfl (z + 1) #[.slice sA sn sc, .slice tA tn tc] rfl rfl 24 _ B_56 size24 rfl (by simp [Value.oneCell']) ?_
          refine hK.out _ _ (below_row S56 (by omega) _) (fun h57 => ?_)
          clear h56 hK K
          have S57 : Below w.heap.size w ((w55.setRow z #[.slice pA pn pc, .slice qA qn qc]).setRow (z + 1) #[.slice sA sn sc, .slice tA tn tc]) := below_row S56 (by omega) _
          have A_57 := (show Blk ((w55.setRow z #[.slice pA pn pc, .slice qA qn qc]).setRow (z + 1) #[.slice sA sn sc, .slice tA tn tc]) (z) 24 _ from (setRow_other _ _ _ _ (by omega)).trans A_56)
          have B_57 : Blk ((w55.setRow z #[.slice pA pn pc, .slice qA qn qc]).setRow (z + 1) #[.slice sA sn sc, .slice tA tn tc]) (z + 1) 24 #[.slice sA sn sc, .slice tA tn tc] := setRow_heap _ _ _ _ _ _ B_56
          have C_57 := (show Blk ((w55.setRow z #[.slice pA pn pc, .slice qA qn qc]).setRow (z + 1) #[.slice sA sn sc, .slice tA tn tc]) ((z + 1 + 1)) 24 _ from (setRow_other _ _ _ _ (by omega)).trans C_56)
          try simp only [Act.put]
          refine wpAnyH_ready (rs := [8]) (by kernel_rfl) (by simp) ?_
          refine AllReadyH.cons (o := ⟨none, _, _, _, _, _⟩) rfl (fun K hK => ?_) AllReadyH.nil
          rw [if_pos (by rfl)]
          refine wp_store_row 24 (.tmp 5) (.tmp 14) rfl (z + 1 + 1) #[.slice uA un uc, .slice vA vn vc] rfl rfl 24 _ C_57 size24 rfl (by simp [Value.oneCell']) ?_
          refine hK.out _ _ (below_row S57 (by omega) _) (fun h58 => ?_)
          clear h57 hK K
          have S58 : Below w.heap.size w (((w55.setRow z #[.slice pA pn pc, .slice qA qn qc]).setRow (z + 1) #[.slice sA sn sc, .slice tA tn tc]).setRow (z + 1 + 1) #[.slice uA un uc, .slice vA vn vc]) := below_row S57 (by omega) _
          have A_58 := (show Blk (((w55.setRow z #[.slice pA pn pc, .slice qA qn qc]).setRow (z + 1) #[.slice sA sn sc, .slice tA tn tc]).setRow (z + 1 + 1) #[.slice uA un uc, .slice vA vn vc]) (z) 24 _ from (setRow_other _ _ _ _ (by omega)).trans A_57)
          have B_58 := (show Blk (((w55.setRow z #[.slice pA pn pc, .slice qA qn qc]).setRow (z + 1) #[.slice sA sn sc, .slice tA tn tc]).setRow (z + 1 + 1) #[.slice uA un uc, .slice vA vn vc]) ((z + 1)) 24 _ from (setRow_other _ _ _ _ (by omega)).trans B_57)
          have C_58 : Blk (((w55.setRow z #[.slice pA pn pc, .slice qA qn qc]).setRow (z + 1) #[.slice sA sn sc, .slice tA tn tc]).setRow (z + 1 + 1) #[.slice uA un uc, .slice vA vn vc]) (z + 1 + 1) 24 #[.slice uA un uc, .slice vA vn vc] := setRow_heap _ _ _ _ _ _ C_57
          try simp only [Act.put]
          refine wpAnyH_done (by kernel_rfl) ?_ _
          refine NoPanic.normal ?_
          go_wp2_with fail
          go_meet
          exact ⟨S58, A_58, B_58, C_58⟩
    · rw [if_pos (by rfl)]
      refine wp_load_row 24 (.tmp 4) rfl (z + 1) rfl 24 #[.slice rB rm rd, .slice xB xm xd] (0, 0) _ hB Try.underlying24 rfl size24 ?_
      refine hK.out _ _ k0 (fun h59 => ?_)
      clear hHeld hK K
      try simp only [Act.put, List.setIfInBounds_toArray, List.set_cons_zero, List.set_cons_succ]
      refine wpAnyH_ready (rs := [0, 4]) (by kernel_rfl) (by simp) ?_
      refine AllReadyH.cons (o := ⟨some 9, _, _, _, _, _⟩) rfl (fun K hK => ?_) (AllReadyH.cons (o := ⟨some 13, _, _, _, _, _⟩) rfl (fun K hK => ?_) AllReadyH.nil)
      · rw [if_pos (by rfl)]
        refine wp_load_row 24 (.tmp 3) rfl z rfl 24 #[.slice rA rn rc, .slice xA xn xc] (0, 0) _ hA Try.underlying24 rfl size24 ?_
        refine hK.out _ _ k0 (fun h60 => ?_)
        clear h59 hK K
        try simp only [Act.put, List.setIfInBounds_toArray, List.set_cons_zero, List.set_cons_succ]
        refine wpAnyH_ready (rs := [1, 4]) (by kernel_rfl) (by simp) ?_
        refine AllReadyH.cons (o := ⟨some 10, _, _, _, _, _⟩) rfl (fun K hK => ?_) (AllReadyH.cons (o := ⟨some 13, _, _, _, _, _⟩) rfl (fun K hK => ?_) AllReadyH.nil)
        · go_simp
          refine (cA _ k0).mono ?_
          rintro e w61 ⟨rfl, hb61⟩
          have A_61 := hA.on hb61
          have B_61 := hB.on hb61
          have C_61 := hC.on hb61
          have S61 : (fun W => Below w.heap.size w W) w61 := stepB k0 hb61
          refine hK.out _ _ S61 (fun h61 => ?_)
          clear h60 hK K
          try simp only [Act.put, List.setIfInBounds_toArray, List.set_cons_zero, List.set_cons_succ]
          refine wpAnyH_ready (rs := [3, 4]) (by kernel_rfl) (by simp) ?_
          refine AllReadyH.cons (o := ⟨some 12, _, _, _, _, _⟩) rfl (fun K hK => ?_) (AllReadyH.cons (o := ⟨some 13, _, _, _, _, _⟩) rfl (fun K hK => ?_) AllReadyH.nil)
          · go_simp
            refine (cB _ S61).mono ?_
            rintro e w62 ⟨rfl, hb62⟩
            have A_62 := A_61.on hb62
            have B_62 := B_61.on hb62
            have C_62 := C_61.on hb62
            have S62 : (fun W => Below w.heap.size w W) w62 := stepB S61 hb62
            refine hK.out _ _ S62 (fun h62 => ?_)
            clear h61 hK K
            try simp only [Act.put, List.setIfInBounds_toArray, List.set_cons_zero, List.set_cons_succ]
            refine wpAnyH_ready (rs := [4]) (by kernel_rfl) (by simp) ?_
            refine AllReadyH.cons (o := ⟨some 13, _, _, _, _, _⟩) rfl (fun K hK => ?_) AllReadyH.nil
            rw [if_pos (by rfl)]
            refine wp_load_row 24 (.tmp 5) rfl (z + 1 + 1) rfl 24 #[.slice rC rk re, .slice xC xk xe] (0, 0) _ C_62 Try.underlying24 rfl size24 ?_
            refine hK.out _ _ S62 (fun h63 => ?_)
            clear h62 hK K
            try simp only [Act.put, List.setIfInBounds_toArray, List.set_cons_zero, List.set_cons_succ]
            refine wpAnyH_ready (rs := [5]) (by kernel_rfl) (by simp) ?_
            refine AllReadyH.cons (o := ⟨some 14, _, _, _, _, _⟩) rfl (fun K hK => ?_) AllReadyH.nil
            go_simp
            refine (cC _ S62).mono ?_
            rintro e w64 ⟨rfl, hb64⟩
            have A_64 := A_62.on hb64
            have B_64 := B_62.on hb64
            have C_64 := C_62.on hb64
            have S64 : (fun W => Below w.heap.size w W) w64 := stepB S62 hb64
            refine hK.out _ _ S64 (fun h64 => ?_)
            clear h63 hK K
            try simp only [Act.put, List.setIfInBounds_toArray, List.set_cons_zero, List.set_cons_succ]
            refine wpAnyH_ready (rs := [6]) (by kernel_rfl) (by simp) ?_
            refine AllReadyH.cons (o := ⟨none, _, _, _, _, _⟩) rfl (fun K hK => ?_) AllReadyH.nil
            rw [if_pos (by rfl)]
            refine wp_store_row 24 (.tmp 3) (.tmp 10) rfl z #[.slice pA pn pc, .slice qA qn qc] rfl rfl 24 _ A_64 size24 rfl (by simp [Value.oneCell']) ?_
            refine hK.out _ _ (below_row S64 (by omega) _) (fun h65 => ?_)
            clear h64 hK K
            have S65 : Below w.heap.size w (w64.setRow z #[.slice pA pn pc, .slice qA qn qc]) := below_row S64 (by omega) _
            have A_65 : Blk (w64.setRow z #[.slice pA pn pc, .slice qA qn qc]) z 24 #[.slice pA pn pc, .slice qA qn qc] := setRow_heap _ _ _ _ _ _ A_64
            have B_65 := (show Blk (w64.setRow z #[.slice pA pn pc, .slice qA qn qc]) ((z + 1)) 24 _ from (setRow_other _ _ _ _ (by omega)).trans B_64)
            have C_65 := (show Blk (w64.setRow z #[.slice pA pn pc, .slice qA qn qc]) ((z + 1 + 1)) 24 _ from (setRow_other _ _ _ _ (by omega)).trans C_64)
            try simp only [Act.put]
            refine wpAnyH_ready (rs := [7]) (by kernel_rfl) (by simp) ?_
            refine AllReadyH.cons (o := ⟨none, _, _, _, _, _⟩) rfl (fun K hK => ?_) AllReadyH.nil
            rw [if_pos (by rfl)]
            refine wp_store_row 24 (.tmp 4) (.tmp 12) rfl (z + 1) #[.slice sA sn sc, .slice tA tn tc] rfl rfl 24 _ B_65 size24 rfl (by simp [Value.oneCell']) ?_
            refine hK.out _ _ (below_row S65 (by omega) _) (fun h66 => ?_)
            clear h65 hK K
            have S66 : Below w.heap.size w ((w64.setRow z #[.slice pA pn pc, .slice qA qn qc]).setRow (z + 1) #[.slice sA sn sc, .slice tA tn tc]) := below_row S65 (by omega) _
            have A_66 := (show Blk ((w64.setRow z #[.slice pA pn pc, .slice qA qn qc]).setRow (z + 1) #[.slice sA sn sc, .slice tA tn tc]) (z) 24 _ from (setRow_other _ _ _ _ (by omega)).trans A_65)
            have B_66 : Blk ((w64.setRow z #[.slice pA pn pc, .slice qA qn qc]).setRow (z + 1) #[.slice sA sn sc, .slice tA tn tc]) (z + 1) 24 #[.slice sA sn sc, .slice tA tn tc] := setRow_heap _ _ _ _ _ _ B_65
            have C_66 := (show Blk ((w64.setRow z #[.slice pA pn pc, .slice qA qn qc]).setRow (z + 1) #[.slice sA sn sc, .slice tA tn tc]) ((z + 1 + 1)) 24 _ from (setRow_other _ _ _ _ (by omega)).trans C_65)
            try simp only [Act.put]
            refine wpAnyH_ready (rs := [8]) (by kernel_rfl) (by simp) ?_
            refine AllReadyH.cons (o := ⟨none, _, _, _, _, _⟩) rfl (fun K hK => ?_) AllReadyH.nil
            rw [if_pos (by rfl)]
            refine wp_store_row 24 (.tmp 5) (.tmp 14) rfl (z + 1 + 1) #[.slice uA un uc, .slice vA vn vc] rfl rfl 24 _ C_66 size24 rfl (by simp [Value.oneCell']) ?_
            refine hK.out _ _ (below_row S66 (by omega) _) (fun h67 => ?_)
            clear h66 hK K
            have S67 : Below w.heap.size w (((w64.setRow z #[.slice pA pn pc, .slice qA qn qc]).setRow (z + 1) #[.slice sA sn sc, .slice tA tn tc]).setRow (z + 1 + 1) #[.slice uA un uc, .slice vA vn vc]) := below_row S66 (by omega) _
            have A_67 := (show Blk (((w64.setRow z #[.slice pA pn pc, .slice qA qn qc]).setRow (z + 1) #[.slice sA sn sc, .slice tA tn tc]).setRow (z + 1 + 1) #[.slice uA un uc, .slice vA vn vc]) (z) 24 _ from (setRow_other _ _ _ _ (by omega)).trans A_66)
            have B_67 := (show Blk (((w64.setRow z #[.slice pA pn pc, .slice qA qn qc]).setRow (z + 1) #[.slice sA sn sc, .slice tA tn tc]).setRow (z + 1 + 1) #[.slice uA un uc, .slice vA vn vc]) ((z + 1)) 24 _ from (setRow_other _ _ _ _ (by omega)).trans B_66)
            have C_67 : Blk (((w64.setRow z #[.slice pA pn pc, .slice qA qn qc]).setRow (z + 1) #[.slice sA sn sc, .slice tA tn tc]).setRow (z + 1 + 1) #[.slice uA un uc, .slice vA vn vc]) (z + 1 + 1) 24 #[.slice uA un uc, .slice vA vn vc] := setRow_heap _ _ _ _ _ _ C_66
            try simp only [Act.put]
            refine wpAnyH_done (by kernel_rfl) ?_ _
            refine NoPanic.normal ?_
            go_wp2_with fail
            go_meet
            exact ⟨S67, A_67, B_67, C_67⟩
          · rw [if_pos (by rfl)]
            refine wp_load_row 24 (.tmp 5) rfl (z + 1 + 1) rfl 24 #[.slice rC rk re, .slice xC xk xe] (0, 0) _ C_61 Try.underlying24 rfl size24 ?_
            refine hK.out _ _ S61 (fun h68 => ?_)
            clear h61 hK K
            try simp only [Act.put, List.setIfInBounds_toArray, List.set_cons_zero, List.set_cons_succ]
            refine wpAnyH_ready (rs := [3]) (by kernel_rfl) (by simp) ?_
            refine AllReadyH.cons (o := ⟨some 12, _, _, _, _, _⟩) rfl (fun K hK => ?_) AllReadyH.nil
            go_simp
            refine (cB _ S61).mono ?_
            rintro e w69 ⟨rfl, hb69⟩
            have A_69 := A_61.on hb69
            have B_69 := B_61.on hb69
            have C_69 := C_61.on hb69
            have S69 : (fun W => Below w.heap.size w W) w69 := stepB S61 hb69
            refine hK.out _ _ S69 (fun h69 => ?_)
            clear h68 hK K
            try simp only [Act.put, List.setIfInBounds_toArray, List.set_cons_zero, List.set_cons_succ]
            refine wpAnyH_ready (rs := [5]) (by kernel_rfl) (by simp) ?_
            refine AllReadyH.cons (o := ⟨some 14, _, _, _, _, _⟩) rfl (fun K hK => ?_) AllReadyH.nil
            go_simp
            refine (cC _ S69).mono ?_
            rintro e w70 ⟨rfl, hb70⟩
            have A_70 := A_69.on hb70
            have B_70 := B_69.on hb70
            have C_70 := C_69.on hb70
            have S70 : (fun W => Below w.heap.size w W) w70 := stepB S69 hb70
            refine hK.out _ _ S70 (fun h70 => ?_)
            clear h69 hK K
            try simp only [Act.put, List.setIfInBounds_toArray, List.set_cons_zero, List.set_cons_succ]
            refine wpAnyH_ready (rs := [6]) (by kernel_rfl) (by simp) ?_
            refine AllReadyH.cons (o := ⟨none, _, _, _, _, _⟩) rfl (fun K hK => ?_) AllReadyH.nil
            rw [if_pos (by rfl)]
            refine wp_store_row 24 (.tmp 3) (.tmp 10) rfl z #[.slice pA pn pc, .slice qA qn qc] rfl rfl 24 _ A_70 size24 rfl (by simp [Value.oneCell']) ?_
            refine hK.out _ _ (below_row S70 (by omega) _) (fun h71 => ?_)
            clear h70 hK K
            have S71 : Below w.heap.size w (w70.setRow z #[.slice pA pn pc, .slice qA qn qc]) := below_row S70 (by omega) _
            have A_71 : Blk (w70.setRow z #[.slice pA pn pc, .slice qA qn qc]) z 24 #[.slice pA pn pc, .slice qA qn qc] := setRow_heap _ _ _ _ _ _ A_70
            have B_71 := (show Blk (w70.setRow z #[.slice pA pn pc, .slice qA qn qc]) ((z + 1)) 24 _ from (setRow_other _ _ _ _ (by omega)).trans B_70)
            have C_71 := (show Blk (w70.setRow z #[.slice pA pn pc, .slice qA qn qc]) ((z + 1 + 1)) 24 _ from (setRow_other _ _ _ _ (by omega)).trans C_70)
            try simp only [Act.put]
            refine wpAnyH_ready (rs := [7]) (by kernel_rfl) (by simp) ?_
            refine AllReadyH.cons (o := ⟨none, _, _, _, _, _⟩) rfl (fun K hK => ?_) AllReadyH.nil
            rw [if_pos (by rfl)]
            refine wp_store_row 24 (.tmp 4) (.tmp 12) rfl (z + 1) #[.slice sA sn sc, .slice tA tn tc] rfl rfl 24 _ B_71 size24 rfl (by simp [Value.oneCell']) ?_
            refine hK.out _ _ (below_row S71 (by omega) _) (fun h72 => ?_)
            clear h71 hK K
            have S72 : Below w.heap.size w ((w70.setRow z #[.slice pA pn pc, .slice qA qn qc]).setRow (z + 1) #[.slice sA sn sc, .slice tA tn tc]) := below_row S71 (by omega) _
            have A_72 := (show Blk ((w70.setRow z #[.slice pA pn pc, .slice qA qn qc]).setRow (z + 1) #[.slice sA sn sc, .slice tA tn tc]) (z) 24 _ from (setRow_other _ _ _ _ (by omega)).trans A_71)
            have B_72 : Blk ((w70.setRow z #[.slice pA pn pc, .slice qA qn qc]).setRow (z + 1) #[.slice sA sn sc, .slice tA tn tc]) (z + 1) 24 #[.slice sA sn sc, .slice tA tn tc] := setRow_heap _ _ _ _ _ _ B_71
            have C_72 := (show Blk ((w70.setRow z #[.slice pA pn pc, .slice qA qn qc]).setRow (z + 1) #[.slice sA sn sc, .slice tA tn tc]) ((z + 1 + 1)) 24 _ from (setRow_other _ _ _ _ (by omega)).trans C_71)
            try simp only [Act.put]
            refine wpAnyH_ready (rs := [8]) (by kernel_rfl) (by simp) ?_
            refine AllReadyH.cons (o := ⟨none, _, _, _, _, _⟩) rfl (fun K hK => ?_) AllReadyH.nil
            rw [if_pos (by rfl)]
            refine wp_store_row 24 (.tmp 5) (.tmp 14) rfl (z + 1 + 1) #[.slice uA un uc, .slice vA vn vc] rfl rfl 24 _ C_72 size24 rfl (by simp [Value.oneCell']) ?_
            refine hK.out _ _ (below_row S72 (by omega) _) (fun h73 => ?_)
            clear h72 hK K
            have S73 : Below w.heap.size w (((w70.setRow z #[.slice pA pn pc, .slice qA qn qc]).setRow (z + 1) #[.slice sA sn sc, .slice tA tn tc]).setRow (z + 1 + 1) #[.slice uA un uc, .slice vA vn vc]) := below_row S72 (by omega) _
            have A_73 := (show Blk (((w70.setRow z #[.slice pA pn pc, .slice qA qn qc]).setRow (z + 1) #[.slice sA sn sc, .slice tA tn tc]).setRow (z + 1 + 1) #[.slice uA un uc, .slice vA vn vc]) (z) 24 _ from (setRow_other _ _ _ _ (by omega)).trans A_72)
            have B_73 := (show Blk (((w70.setRow z #[.slice pA pn pc, .slice qA qn qc]).setRow (z + 1) #[.slice sA sn sc, .slice tA tn tc]).setRow (z + 1 + 1) #[.slice uA un uc, .slice vA vn vc]) ((z + 1)) 24 _ from (setRow_other _ _ _ _ (by omega)).trans B_72)
            have C_73 : Blk (((w70.setRow z #[.slice pA pn pc, .slice qA qn qc]).setRow (z + 1) #[.slice sA sn sc, .slice tA tn tc]).setRow (z + 1 + 1) #[.slice uA un uc, .slice vA vn vc]) (z + 1 + 1) 24 #[.slice uA un uc, .slice vA vn vc] := setRow_heap _ _ _ _ _ _ C_72
            try simp only [Act.put]
            refine wpAnyH_done (by kernel_rfl) ?_ _
            refine NoPanic.normal ?_
            go_wp2_with fail
            go_meet
            exact ⟨S73, A_73, B_73, C_73⟩
        · rw [if_pos (by rfl)]
          refine wp_load_row 24 (.tmp 5) rfl (z + 1 + 1) rfl 24 #[.slice rC rk re, .slice xC xk xe] (0, 0) _ hC Try.underlying24 rfl size24 ?_
          refine hK.out _ _ k0 (fun h74 => ?_)
          clear h60 hK K
          try simp only [Act.put, List.setIfInBounds_toArray, List.set_cons_zero, List.set_cons_succ]
          refine wpAnyH_ready (rs := [1]) (by kernel_rfl) (by simp) ?_
          refine AllReadyH.cons (o := ⟨some 10, _, _, _, _, _⟩) rfl (fun K hK => ?_) AllReadyH.nil
          go_simp
          refine (cA _ k0).mono ?_
          rintro e w75 ⟨rfl, hb75⟩
          have A_75 := hA.on hb75
          have B_75 := hB.on hb75
          have C_75 := hC.on hb75
          have S75 : (fun W => Below w.heap.size w W) w75 := stepB k0 hb75
          refine hK.out _ _ S75 (fun h75 => ?_)
          clear h74 hK K
          try simp only [Act.put, List.setIfInBounds_toArray, List.set_cons_zero, List.set_cons_succ]
          refine wpAnyH_ready (rs := [3]) (by kernel_rfl) (by simp) ?_
          refine AllReadyH.cons (o := ⟨some 12, _, _, _, _, _⟩) rfl (fun K hK => ?_) AllReadyH.nil
          go_simp
          refine (cB _ S75).mono ?_
          rintro e w76 ⟨rfl, hb76⟩
          have A_76 := A_75.on hb76
          have B_76 := B_75.on hb76
          have C_76 := C_75.on hb76
          have S76 : (fun W => Below w.heap.size w W) w76 := stepB S75 hb76
          refine hK.out _ _ S76 (fun h76 => ?_)
          clear h75 hK K
          try simp only [Act.put, List.setIfInBounds_toArray, List.set_cons_zero, List.set_cons_succ]
          refine wpAnyH_ready (rs := [5]) (by kernel_rfl) (by simp) ?_
          refine AllReadyH.cons (o := ⟨some 14, _, _, _, _, _⟩) rfl (fun K hK => ?_) AllReadyH.nil
          go_simp
          refine (cC _ S76).mono ?_
          rintro e w77 ⟨rfl, hb77⟩
          have A_77 := A_76.on hb77
          have B_77 := B_76.on hb77
          have C_77 := C_76.on hb77
          have S77 : (fun W => Below w.heap.size w W) w77 := stepB S76 hb77
          refine hK.out _ _ S77 (fun h77 => ?_)
          clear h76 hK K
          try simp only [Act.put, List.setIfInBounds_toArray, List.set_cons_zero, List.set_cons_succ]
          refine wpAnyH_ready (rs := [6]) (by kernel_rfl) (by simp) ?_
          refine AllReadyH.cons (o := ⟨none, _, _, _, _, _⟩) rfl (fun K hK => ?_) AllReadyH.nil
          rw [if_pos (by rfl)]
          refine wp_store_row 24 (.tmp 3) (.tmp 10) rfl z #[.slice pA pn pc, .slice qA qn qc] rfl rfl 24 _ A_77 size24 rfl (by simp [Value.oneCell']) ?_
          refine hK.out _ _ (below_row S77 (by omega) _) (fun h78 => ?_)
          clear h77 hK K
          have S78 : Below w.heap.size w (w77.setRow z #[.slice pA pn pc, .slice qA qn qc]) := below_row S77 (by omega) _
          have A_78 : Blk (w77.setRow z #[.slice pA pn pc, .slice qA qn qc]) z 24 #[.slice pA pn pc, .slice qA qn qc] := setRow_heap _ _ _ _ _ _ A_77
          have B_78 := (show Blk (w77.setRow z #[.slice pA pn pc, .slice qA qn qc]) ((z + 1)) 24 _ from (setRow_other _ _ _ _ (by omega)).trans B_77)
          have C_78 := (show Blk (w77.setRow z #[.slice pA pn pc, .slice qA qn qc]) ((z + 1 + 1)) 24 _ from (setRow_other _ _ _ _ (by omega)).trans C_77)
          try simp only [Act.put]
          refine wpAnyH_ready (rs := [7]) (by kernel_rfl) (by simp) ?_
          refine AllReadyH.cons (o := ⟨none, _, _, _, _, _⟩) rfl (fun K hK => ?_) AllReadyH.nil
          rw [if_pos (by rfl)]
          refine wp_store_row 24 (.tmp 4) (.tmp 12) rfl (z + 1) #[.slice sA sn sc, .slice tA tn tc] rfl rfl 24 _ B_78 size24 rfl (by simp [Value.oneCell']) ?_
          refine hK.out _ _ (below_row S78 (by omega) _) (fun h79 => ?_)
          clear h78 hK K
          have S79 : Below w.heap.size w ((w77.setRow z #[.slice pA pn pc, .slice qA qn qc]).setRow (z + 1) #[.slice sA sn sc, .slice tA tn tc]) := below_row S78 (by omega) _
          have A_79 := (show Blk ((w77.setRow z #[.slice pA pn pc, .slice qA qn qc]).setRow (z + 1) #[.slice sA sn sc, .slice tA tn tc]) (z) 24 _ from (setRow_other _ _ _ _ (by omega)).trans A_78)
          have B_79 : Blk ((w77.setRow z #[.slice pA pn pc, .slice qA qn qc]).setRow (z + 1) #[.slice sA sn sc, .slice tA tn tc]) (z + 1) 24 #[.slice sA sn sc, .slice tA tn tc] := setRow_heap _ _ _ _ _ _ B_78
          have C_79 := (show Blk ((w77.setRow z #[.slice pA pn pc, .slice qA qn qc]).setRow (z + 1) #[.slice sA sn sc, .slice tA tn tc]) ((z + 1 + 1)) 24 _ from (setRow_other _ _ _ _ (by omega)).trans C_78)
          try simp only [Act.put]
          refine wpAnyH_ready (rs := [8]) (by kernel_rfl) (by simp) ?_
          refine AllReadyH.cons (o := ⟨none, _, _, _, _, _⟩) rfl (fun K hK => ?_) AllReadyH.nil
          rw [if_pos (by rfl)]
          refine wp_store_row 24 (.tmp 5) (.tmp 14) rfl (z + 1 + 1) #[.slice uA un uc, .slice vA vn vc] rfl rfl 24 _ C_79 size24 rfl (by simp [Value.oneCell']) ?_
          refine hK.out _ _ (below_row S79 (by omega) _) (fun h80 => ?_)
          clear h79 hK K
          have S80 : Below w.heap.size w (((w77.setRow z #[.slice pA pn pc, .slice qA qn qc]).setRow (z + 1) #[.slice sA sn sc, .slice tA tn tc]).setRow (z + 1 + 1) #[.slice uA un uc, .slice vA vn vc]) := below_row S79 (by omega) _
          have A_80 := (show Blk (((w77.setRow z #[.slice pA pn pc, .slice qA qn qc]).setRow (z + 1) #[.slice sA sn sc, .slice tA tn tc]).setRow (z + 1 + 1) #[.slice uA un uc, .slice vA vn vc]) (z) 24 _ from (setRow_other _ _ _ _ (by omega)).trans A_79)
          have B_80 := (show Blk (((w77.setRow z #[.slice pA pn pc, .slice qA qn qc]).setRow (z + 1) #[.slice sA sn sc, .slice tA tn tc]).setRow (z + 1 + 1) #[.slice uA un uc, .slice vA vn vc]) ((z + 1)) 24 _ from (setRow_other _ _ _ _ (by omega)).trans B_79)
          have C_80 : Blk (((w77.setRow z #[.slice pA pn pc, .slice qA qn qc]).setRow (z + 1) #[.slice sA sn sc, .slice tA tn tc]).setRow (z + 1 + 1) #[.slice uA un uc, .slice vA vn vc]) (z + 1 + 1) 24 #[.slice uA un uc, .slice vA vn vc] := setRow_heap _ _ _ _ _ _ C_79
          try simp only [Act.put]
          refine wpAnyH_done (by kernel_rfl) ?_ _
          refine NoPanic.normal ?_
          go_wp2_with fail
          go_meet
          exact ⟨S80, A_80, B_80, C_80⟩
      · rw [if_pos (by rfl)]
        refine wp_load_row 24 (.tmp 5) rfl (z + 1 + 1) rfl 24 #[.slice rC rk re, .slice xC xk xe] (0, 0) _ hC Try.underlying24 rfl size24 ?_
        refine hK.out _ _ k0 (fun h81 => ?_)
        clear h59 hK K
        try simp only [Act.put, List.setIfInBounds_toArray, List.set_cons_zero, List.set_cons_succ]
        refine wpAnyH_ready (rs := [0]) (by kernel_rfl) (by simp) ?_
        refine AllReadyH.cons (o := ⟨some 9, _, _, _, _, _⟩) rfl (fun K hK => ?_) AllReadyH.nil
        rw [if_pos (by rfl)]
        refine wp_load_row 24 (.tmp 3) rfl z rfl 24 #[.slice rA rn rc, .slice xA xn xc] (0, 0) _ hA Try.underlying24 rfl size24 ?_
        refine hK.out _ _ k0 (fun h82 => ?_)
        clear h81 hK K
        try simp only [Act.put, List.setIfInBounds_toArray, List.set_cons_zero, List.set_cons_succ]
        refine wpAnyH_ready (rs := [1]) (by kernel_rfl) (by simp) ?_
        refine AllReadyH.cons (o := ⟨some 10, _, _, _, _, _⟩) rfl (fun K hK => ?_) AllReadyH.nil
        go_simp
        refine (cA _ k0).mono ?_
        rintro e w83 ⟨rfl, hb83⟩
        have A_83 := hA.on hb83
        have B_83 := hB.on hb83
        have C_83 := hC.on hb83
        have S83 : (fun W => Below w.heap.size w W) w83 := stepB k0 hb83
        refine hK.out _ _ S83 (fun h83 => ?_)
        clear h82 hK K
        try simp only [Act.put, List.setIfInBounds_toArray, List.set_cons_zero, List.set_cons_succ]
        refine wpAnyH_ready (rs := [3]) (by kernel_rfl) (by simp) ?_
        refine AllReadyH.cons (o := ⟨some 12, _, _, _, _, _⟩) rfl (fun K hK => ?_) AllReadyH.nil
        go_simp
        refine (cB _ S83).mono ?_
        rintro e w84 ⟨rfl, hb84⟩
        have A_84 := A_83.on hb84
        have B_84 := B_83.on hb84
        have C_84 := C_83.on hb84
        have S84 : (fun W => Below w.heap.size w W) w84 := stepB S83 hb84
        refine hK.out _ _ S84 (fun h84 => ?_)
        clear h83 hK K
        try simp only [Act.put, List.setIfInBounds_toArray, List.set_cons_zero, List.set_cons_succ]
        refine wpAnyH_ready (rs := [5]) (by kernel_rfl) (by simp) ?_
        refine AllReadyH.cons (o := ⟨some 14, _, _, _, _, _⟩) rfl (fun K hK => ?_) AllReadyH.nil
        go_simp
        refine (cC _ S84).mono ?_
        rintro e w85 ⟨rfl, hb85⟩
        have A_85 := A_84.on hb85
        have B_85 := B_84.on hb85
        have C_85 := C_84.on hb85
        have S85 : (fun W => Below w.heap.size w W) w85 := stepB S84 hb85
        refine hK.out _ _ S85 (fun h85 => ?_)
        clear h84 hK K
        try simp only [Act.put, List.setIfInBounds_toArray, List.set_cons_zero, List.set_cons_succ]
        refine wpAnyH_ready (rs := [6]) (by kernel_rfl) (by simp) ?_
        refine AllReadyH.cons (o := ⟨none, _, _, _, _, _⟩) rfl (fun K hK => ?_) AllReadyH.nil
        rw [if_pos (by rfl)]
        refine wp_store_row 24 (.tmp 3) (.tmp 10) rfl z #[.slice pA pn pc, .slice qA qn qc] rfl rfl 24 _ A_85 size24 rfl (by simp [Value.oneCell']) ?_
        refine hK.out _ _ (below_row S85 (by omega) _) (fun h86 => ?_)
        clear h85 hK K
        have S86 : Below w.heap.size w (w85.setRow z #[.slice pA pn pc, .slice qA qn qc]) := below_row S85 (by omega) _
        have A_86 : Blk (w85.setRow z #[.slice pA pn pc, .slice qA qn qc]) z 24 #[.slice pA pn pc, .slice qA qn qc] := setRow_heap _ _ _ _ _ _ A_85
        have B_86 := (show Blk (w85.setRow z #[.slice pA pn pc, .slice qA qn qc]) ((z + 1)) 24 _ from (setRow_other _ _ _ _ (by omega)).trans B_85)
        have C_86 := (show Blk (w85.setRow z #[.slice pA pn pc, .slice qA qn qc]) ((z + 1 + 1)) 24 _ from (setRow_other _ _ _ _ (by omega)).trans C_85)
        try simp only [Act.put]
        refine wpAnyH_ready (rs := [7]) (by kernel_rfl) (by simp) ?_
        refine AllReadyH.cons (o := ⟨none, _, _, _, _, _⟩) rfl (fun K hK => ?_) AllReadyH.nil
        rw [if_pos (by rfl)]
        refine wp_store_row 24 (.tmp 4) (.tmp 12) rfl (z + 1) #[.slice sA sn sc, .slice tA tn tc] rfl rfl 24 _ B_86 size24 rfl (by simp [Value.oneCell']) ?_
        refine hK.out _ _ (below_row S86 (by omega) _) (fun h87 => ?_)
        clear h86 hK K
        have S87 : Below w.heap.size w ((w85.setRow z #[.slice pA pn pc, .slice qA qn qc]).setRow (z + 1) #[.slice sA sn sc, .slice tA tn tc]) := below_row S86 (by omega) _
        have A_87 := (show Blk ((w85.setRow z #[.slice pA pn pc, .slice qA qn qc]).setRow (z + 1) #[.slice sA sn sc, .slice tA tn tc]) (z) 24 _ from (setRow_other _ _ _ _ (by omega)).trans A_86)
        have B_87 : Blk ((w85.setRow z #[.slice pA pn pc, .slice qA qn qc]).setRow (z + 1) #[.slice sA sn sc, .slice tA tn tc]) (z + 1) 24 #[.slice sA sn sc, .slice tA tn tc] := setRow_heap _ _ _ _ _ _ B_86
        have C_87 := (show Blk ((w85.setRow z #[.slice pA pn pc, .slice qA qn qc]).setRow (z + 1) #[.slice sA sn sc, .slice tA tn tc]) ((z + 1 + 1)) 24 _ from (setRow_other _ _ _ _ (by omega)).trans C_86)
        try simp only [Act.put]
        refine wpAnyH_ready (rs := [8]) (by kernel_rfl) (by simp) ?_
        refine AllReadyH.cons (o := ⟨none, _, _, _, _, _⟩) rfl (fun K hK => ?_) AllReadyH.nil
        rw [if_pos (by rfl)]
        refine wp_store_row 24 (.tmp 5) (.tmp 14) rfl (z + 1 + 1) #[.slice uA un uc, .slice vA vn vc] rfl rfl 24 _ C_87 size24 rfl (by simp [Value.oneCell']) ?_
        refine hK.out _ _ (below_row S87 (by omega) _) (fun h88 => ?_)
        clear h87 hK K
        have S88 : Below w.heap.size w (((w85.setRow z #[.slice pA pn pc, .slice qA qn qc]).setRow (z + 1) #[.slice sA sn sc, .slice tA tn tc]).setRow (z + 1 + 1) #[.slice uA un uc, .slice vA vn vc]) := below_row S87 (by omega) _
        have A_88 := (show Blk (((w85.setRow z #[.slice pA pn pc, .slice qA qn qc]).setRow (z + 1) #[.slice sA sn sc, .slice tA tn tc]).setRow (z + 1 + 1) #[.slice uA un uc, .slice vA vn vc]) (z) 24 _ from (setRow_other _ _ _ _ (by omega)).trans A_87)
        have B_88 := (show Blk (((w85.setRow z #[.slice pA pn pc, .slice qA qn qc]).setRow (z + 1) #[.slice sA sn sc, .slice tA tn tc]).setRow (z + 1 + 1) #[.slice uA un uc, .slice vA vn vc]) ((z + 1)) 24 _ from (setRow_other _ _ _ _ (by omega)).trans B_87)
        have C_88 : Blk (((w85.setRow z #[.slice pA pn pc, .slice qA qn qc]).setRow (z + 1) #[.slice sA sn sc, .slice tA tn tc]).setRow (z + 1 + 1) #[.slice uA un uc, .slice vA vn vc]) (z + 1 + 1) 24 #[.slice uA un uc, .slice vA vn vc] := setRow_heap _ _ _ _ _ _ C_87
        try simp only [Act.put]
        refine wpAnyH_done (by kernel_rfl) ?_ _
        refine NoPanic.normal ?_
        go_wp2_with fail
        go_meet
        exact ⟨S88, A_88, B_88, C_88⟩
    · rw [if_pos (by rfl)]
      refine wp_load_row 24 (.tmp 5) rfl (z + 1 + 1) rfl 24 #[.slice rC rk re, .slice xC xk xe] (0, 0) _ hC Try.underlying24 rfl size24 ?_
      refine hK.out _ _ k0 (fun h89 => ?_)
      clear hHeld hK K
      try simp only [Act.put, List.setIfInBounds_toArray, List.set_cons_zero, List.set_cons_succ]
      refine wpAnyH_ready (rs := [0, 2]) (by kernel_rfl) (by simp) ?_
      refine AllReadyH.cons (o := ⟨some 9, _, _, _, _, _⟩) rfl (fun K hK => ?_) (AllReadyH.cons (o := ⟨some 11, _, _, _, _, _⟩) rfl (fun K hK => ?_) AllReadyH.nil)
      · rw [if_pos (by rfl)]
        refine wp_load_row 24 (.tmp 3) rfl z rfl 24 #[.slice rA rn rc, .slice xA xn xc] (0, 0) _ hA Try.underlying24 rfl size24 ?_
        refine hK.out _ _ k0 (fun h90 => ?_)
        clear h89 hK K
        try simp only [Act.put, List.setIfInBounds_toArray, List.set_cons_zero, List.set_cons_succ]
        refine wpAnyH_ready (rs := [1, 2]) (by kernel_rfl) (by simp) ?_
        refine AllReadyH.cons (o := ⟨some 10, _, _, _, _, _⟩) rfl (fun K hK => ?_) (AllReadyH.cons (o := ⟨some 11, _, _, _, _, _⟩) rfl (fun K hK => ?_) AllReadyH.nil)
        · go_simp
          refine (cA _ k0).mono ?_
          rintro e w91 ⟨rfl, hb91⟩
          have A_91 := hA.on hb91
          have B_91 := hB.on hb91
          have C_91 := hC.on hb91
          have S91 : (fun W => Below w.heap.size w W) w91 := stepB k0 hb91
          refine hK.out _ _ S91 (fun h91 => ?_)
          clear h90 hK K
          try simp only [Act.put, List.setIfInBounds_toArray, List.set_cons_zero, List.set_cons_succ]
          refine wpAnyH_ready (rs := [2]) (by kernel_rfl) (by simp) ?_
          refine AllReadyH.cons (o := ⟨some 11, _, _, _, _, _⟩) rfl (fun K hK => ?_) AllReadyH.nil
          rw [if_pos (by rfl)]
          refine wp_load_row 24 (.tmp 4) rfl (z + 1) rfl 24 #[.slice rB rm rd, .slice xB xm xd] (0, 0) _ B_91 Try.underlying24 rfl size24 ?_
          refine hK.out _ _ S91 (fun h92 => ?_)
          clear h91 hK K
          try simp only [Act.put, List.setIfInBounds_toArray, List.set_cons_zero, List.set_cons_succ]
          refine wpAnyH_ready (rs := [3]) (by kernel_rfl) (by simp) ?_
          refine AllReadyH.cons (o := ⟨some 12, _, _, _, _, _⟩) rfl (fun K hK => ?_) AllReadyH.nil
          go_simp
          refine (cB _ S91).mono ?_
          rintro e w93 ⟨rfl, hb93⟩
          have A_93 := A_91.on hb93
          have B_93 := B_91.on hb93
          have C_93 := C_91.on hb93
          have S93 : (fun W => Below w.heap.size w W) w93 := stepB S91 hb93
          refine hK.out _ _ S93 (fun h93 => ?_)
          clear h92 hK K
          try simp only [Act.put, List.setIfInBounds_toArray, List.set_cons_zero, List.set_cons_succ]
          refine wpAnyH_ready (rs := [5]) (by kernel_rfl) (by simp) ?_
          refine AllReadyH.cons (o := ⟨some 14, _, _, _, _, _⟩) rfl (fun K hK => ?_) AllReadyH.nil
          go_simp
          refine (cC _ S93).mono ?_
          rintro e w94 ⟨rfl, hb94⟩
          have A_94 := A_93.on hb94
          have B_94 := B_93.on hb94
          have C_94 := C_93.on hb94
          have S94 : (fun W => Below w.heap.size w W) w94 := stepB S93 hb94
          refine hK.out _ _ S94 (fun h94 => ?_)
          clear h93 hK K
          try simp only [Act.put, List.setIfInBounds_toArray, List.set_cons_zero, List.set_cons_succ]
          refine wpAnyH_ready (rs := [6]) (by kernel_rfl) (by simp) ?_
          refine AllReadyH.cons (o := ⟨none, _, _, _, _, _⟩) rfl (fun K hK => ?_) AllReadyH.nil
          rw [if_pos (by rfl)]
          refine wp_store_row 24 (.tmp 3) (.tmp 10) rfl z #[.slice pA pn pc, .slice qA qn qc] rfl rfl 24 _ A_94 size24 rfl (by simp [Value.oneCell']) ?_
          refine hK.out _ _ (below_row S94 (by omega) _) (fun h95 => ?_)
          clear h94 hK K
          have S95 : Below w.heap.size w (w94.setRow z #[.slice pA pn pc, .slice qA qn qc]) := below_row S94 (by omega) _
          have A_95 : Blk (w94.setRow z #[.slice pA pn pc, .slice qA qn qc]) z 24 #[.slice pA pn pc, .slice qA qn qc] := setRow_heap _ _ _ _ _ _ A_94
          have B_95 := (show Blk (w94.setRow z #[.slice pA pn pc, .slice qA qn qc]) ((z + 1)) 24 _ from (setRow_other _ _ _ _ (by omega)).trans B_94)
          have C_95 := (show Blk (w94.setRow z #[.slice pA pn pc, .slice qA qn qc]) ((z + 1 + 1)) 24 _ from (setRow_other _ _ _ _ (by omega)).trans C_94)
          try simp only [Act.put]
          refine wpAnyH_ready (rs := [7]) (by kernel_rfl) (by simp) ?_
          refine AllReadyH.cons (o := ⟨none, _, _, _, _, _⟩) rfl (fun K hK => ?_) AllReadyH.nil
          rw [if_pos (by rfl)]
          refine wp_store_row 24 (.tmp 4) (.tmp 12) rfl (z + 1) #[.slice sA sn sc, .slice tA tn tc] rfl rfl 24 _ B_95 size24 rfl (by simp [Value.oneCell']) ?_
          refine hK.out _ _ (below_row S95 (by omega) _) (fun h96 => ?_)
          clear h95 hK K
          have S96 : Below w.heap.size w ((w94.setRow z #[.slice pA pn pc, .slice qA qn qc]).setRow (z + 1) #[.slice sA sn sc, .slice tA tn tc]) := below_row S95 (by omega) _
          have A_96 := (show Blk ((w94.setRow z #[.slice pA pn pc, .slice qA qn qc]).setRow (z + 1) #[.slice sA sn sc, .slice tA tn tc]) (z) 24 _ from (setRow_other _ _ _ _ (by omega)).trans A_95)
          have B_96 : Blk ((w94.setRow z #[.slice pA pn pc, .slice qA qn qc]).setRow (z + 1) #[.slice sA sn sc, .slice tA tn tc]) (z + 1) 24 #[.slice sA sn sc, .slice tA tn tc] := setRow_heap _ _ _ _ _ _ B_95
          have C_96 := (show Blk ((w94.setRow z #[.slice pA pn pc, .slice qA qn qc]).setRow (z + 1) #[.slice sA sn sc, .slice tA tn tc]) ((z + 1 + 1)) 24 _ from (setRow_other _ _ _ _ (by omega)).trans C_95)
          try simp only [Act.put]
          refine wpAnyH_ready (rs := [8]) (by kernel_rfl) (by simp) ?_
          refine AllReadyH.cons (o := ⟨none, _, _, _, _, _⟩) rfl (fun K hK => ?_) AllReadyH.nil
          rw [if_pos (by rfl)]
          refine wp_store_row 24 (.tmp 5) (.tmp 14) rfl (z + 1 + 1) #[.slice uA un uc, .slice vA vn vc] rfl rfl 24 _ C_96 size24 rfl (by simp [Value.oneCell']) ?_
          refine hK.out _ _ (below_row S96 (by omega) _) (fun h97 => ?_)
          clear h96 hK K
          have S97 : Below w.heap.size w (((w94.setRow z #[.slice pA pn pc, .slice qA qn qc]).setRow (z + 1) #[.slice sA sn sc, .slice tA tn tc]).setRow (z + 1 + 1) #[.slice uA un uc, .slice vA vn vc]) := below_row S96 (by omega) _
          have A_97 := (show Blk (((w94.setRow z #[.slice pA pn pc, .slice qA qn qc]).setRow (z + 1) #[.slice sA sn sc, .slice tA tn tc]).setRow (z + 1 + 1) #[.slice uA un uc, .slice vA vn vc]) (z) 24 _ from (setRow_other _ _ _ _ (by omega)).trans A_96)
          have B_97 := (show Blk (((w94.setRow z #[.slice pA pn pc, .slice qA qn qc]).setRow (z + 1) #[.slice sA sn sc, .slice tA tn tc]).setRow (z + 1 + 1) #[.slice uA un uc, .slice vA vn vc]) ((z + 1)) 24 _ from (setRow_other _ _ _ _ (by omega)).trans B_96)
          have C_97 : Blk (((w94.setRow z #[.slice pA pn pc, .slice qA qn qc]).setRow (z + 1) #[.slice sA sn sc, .slice tA tn tc]).setRow (z + 1 + 1) #[.slice uA un uc, .slice vA vn vc]) (z + 1 + 1) 24 #[.slice uA un uc, .slice vA vn vc] := setRow_heap _ _ _ _ _ _ C_96
          try simp only [Act.put]
          refine wpAnyH_done (by kernel_rfl) ?_ _
          refine NoPanic.normal ?_
          go_wp2_with fail
          go_meet
          exact ⟨S97, A_97, B_97, C_97⟩
        · rw [if_pos (by rfl)]
          refine wp_load_row 24 (.tmp 4) rfl (z + 1) rfl 24 #[.slice rB rm rd, .slice xB xm xd] (0, 0) _ hB Try.underlying24 rfl size24 ?_
          refine hK.out _ _ k0 (fun h98 => ?_)
          clear h90 hK K
          try simp only [Act.put, List.setIfInBounds_toArray, List.set_cons_zero, List.set_cons_succ]
          refine wpAnyH_ready (rs := [1]) (by kernel_rfl) (by simp) ?_
          refine AllReadyH.cons (o := ⟨some 10, _, _, _, _, _⟩) rfl (fun K hK => ?_) AllReadyH.nil
          go_simp
          refine (cA _ k0).mono ?_
          rintro e w99 ⟨rfl, hb99⟩
          have A_99 := hA.on hb99
          have B_99 := hB.on hb99
          have C_99 := hC.on hb99
          have S99 : (fun W => Below w.heap.size w W) w99 := stepB k0 hb99
          refine hK.out _ _ S99 (fun h99 => ?_)
          clear h98 hK K
          try simp only [Act.put, List.setIfInBounds_toArray, List.set_cons_zero, List.set_cons_succ]
          refine wpAnyH_ready (rs := [3]) (by kernel_rfl) (by simp) ?_
          refine AllReadyH.cons (o := ⟨some 12, _, _, _, _, _⟩) rfl (fun K hK => ?_) AllReadyH.nil
          go_simp
          refine (cB _ S99).mono ?_
          rintro e w100 ⟨rfl, hb100⟩
          have A_100 := A_99.on hb100
          have B_100 := B_99.on hb100
          have C_100 := C_99.on hb100
          have S100 : (fun W => Below w.heap.size w W) w100 := stepB S99 hb100
          refine hK.out _ _ S100 (fun h100 => ?_)
          clear h99 hK K
          try simp only [Act.put, List.setIfInBounds_toArray, List.set_cons_zero, List.set_cons_succ]
          refine wpAnyH_ready (rs := [5]) (by kernel_rfl) (by simp) ?_
          refine AllReadyH.cons (o := ⟨some 14, _, _, _, _, _⟩) rfl (fun K hK => ?_) AllReadyH.nil
          go_simp
          refine (cC _ S100).mono ?_
          rintro e w101 ⟨rfl, hb101⟩
          have A_101 := A_100.on hb101
          have B_101 := B_100.on hb101
          have C_101 := C_100.on hb101
          have S101 : (fun W => Below w.heap.size w W) w101 := stepB S100 hb101
          refine hK.out _ _ S101 (fun h101 => ?_)
          clear h100 hK K
          try simp only [Act.put, List.setIfInBounds_toArray, List.set_cons_zero, List.set_cons_succ]
          refine wpAnyH_ready (rs := [6]) (by kernel_rfl) (by simp) ?_
          refine AllReadyH.cons (o := ⟨none, _, _, _, _, _⟩) rfl (fun K hK => ?_) AllReadyH.nil
          rw [if_pos (by rfl)]
          refine wp_store_row 24 (.tmp 3) (.tmp 10) rfl z #[.slice pA pn pc, .slice qA qn qc] rfl rfl 24 _ A_101 size24 rfl (by simp [Value.oneCell']) ?_
          refine hK.out _ _ (below_row S101 (by omega) _) (fun h102 => ?_)
          clear h101 hK K
          have S102 : Below w.heap.size w (w101.setRow z #[.slice pA pn pc, .slice qA qn qc]) := below_row S101 (by omega) _
          have A_102 : Blk (w101.setRow z #[.slice pA pn pc, .slice qA qn qc]) z 24 #[.slice pA pn pc, .slice qA qn qc] := setRow_heap _ _ _ _ _ _ A_101
          have B_102 := (show Blk (w101.setRow z #[.slice pA pn pc, .slice qA qn qc]) ((z + 1)) 24 _ from (setRow_other _ _ _ _ (by omega)).trans B_101)
          have C_102 := (show Blk (w101.setRow z #[.slice pA pn pc, .slice qA qn qc]) ((z + 1 + 1)) 24 _ from (setRow_other _ _ _ _ (by omega)).trans C_101)
          try simp only [Act.put]
          refine wpAnyH_ready (rs := [7]) (by kernel_rfl) (by simp) ?_
          refine AllReadyH.cons (o := ⟨none, _, _, _, _, _⟩) rfl (fun K hK => ?_) AllReadyH.nil
          rw [if_pos (by rfl)]
          refine wp_store_row 24 (.tmp 4) (.tmp 12) rfl (z + 1) #[.slice sA sn sc, .slice tA tn tc] rfl rfl 24 _ B_102 size24 rfl (by simp [Value.oneCell']) ?_
          refine hK.out _ _ (below_row S102 (by omega) _) (fun h103 => ?_)
          clear h102 hK K
          have S103 : Below w.heap.size w ((w101.setRow z #[.slice pA pn pc, .slice qA qn qc]).setRow (z + 1) #[.slice sA sn sc, .slice tA tn tc]) := below_row S102 (by omega) _
          have A_103 := (show Blk ((w101.setRow z #[.slice pA pn pc, .slice qA qn qc]).setRow (z + 1) #[.slice sA sn sc, .slice tA tn tc]) (z) 24 _ from (setRow_other _ _ _ _ (by omega)).trans A_102)
          have B_103 : Blk ((w101.setRow z #[.slice pA pn pc, .slice qA qn qc]).setRow (z + 1) #[.slice sA sn sc, .slice tA tn tc]) (z + 1) 24 #[.slice sA sn sc, .slice tA tn tc] := setRow_heap _ _ _ _ _ _ B_102
          have C_103 := (show Blk ((w101.setRow z #[.slice pA pn pc, .slice qA qn qc]).setRow (z + 1) #[.slice sA sn sc, .slice tA tn tc]) ((z + 1 + 1)) 24 _ from (setRow_other _ _ _ _ (by omega)).trans C_102)
          try simp only [Act.put]
          refine wpAnyH_ready (rs := [8]) (by kernel_rfl) (by simp) ?_
          refine AllReadyH.cons (o := ⟨none, _, _, _, _, _⟩) rfl (fun K hK => ?_) AllReadyH.nil
          rw [if_pos (by rfl)]
          refine wp_store_row 24 (.tmp 5) (.tmp 14) rfl (z + 1 + 1) #[.slice uA un uc, .slice vA vn vc] rfl rfl 24 _ C_103 size24 rfl (by simp [Value.oneCell']) ?_
          refine hK.out _ _ (below_row S103 (by omega) _) (fun h104 => ?_)
          clear h103 hK K
          have S104 : Below w.heap.size w (((w101.setRow z #[.slice pA pn pc, .slice qA qn qc]).setRow (z + 1) #[.slice sA sn sc, .slice tA tn tc]).setRow (z + 1 + 1) #[.slice uA un uc, .slice vA vn vc]) := below_row S103 (by omega) _
          have A_104 := (show Blk (((w101.setRow z #[.slice pA pn pc, .slice qA qn qc]).setRow (z + 1) #[.slice sA sn sc, .slice tA tn tc]).setRow (z + 1 + 1) #[.slice uA un uc, .slice vA vn vc]) (z) 24 _ from (setRow_other _ _ _ _ (by omega)).trans A_103)
          have B_104 := (show Blk (((w101.setRow z #[.slice pA pn pc, .slice qA qn qc]).setRow (z + 1) #[.slice sA sn sc, .slice tA tn tc]).setRow (z + 1 + 1) #[.slice uA un uc, .slice vA vn vc]) ((z + 1)) 24 _ from (setRow_other _ _ _ _ (by omega)).trans B_103)
          have C_104 : Blk (((w101.setRow z #[.slice pA pn pc, .slice qA qn qc]).setRow (z + 1) #[.slice sA sn sc, .slice tA tn tc]).setRow (z + 1 + 1) #[.slice uA un uc, .slice vA vn vc]) (z + 1 + 1) 24 #[.slice uA un uc, .slice vA vn vc] := setRow_heap _ _ _ _ _ _ C_103
          try simp only [Act.put]
          refine wpAnyH_done (by kernel_rfl) ?_ _
          refine NoPanic.normal ?_
          go_wp2_with fail
          go_meet
          exact ⟨S104, A_104, B_104, C_104⟩
      · rw [if_pos (by rfl)]
        refine wp_load_row 24 (.tmp 4) rfl (z + 1) rfl 24 #[.slice rB rm rd, .slice xB xm xd] (0, 0) _ hB Try.underlying24 rfl size24 ?_
        refine hK.out _ _ k0 (fun h105 => ?_)
        clear h89 hK K
        try simp only [Act.put, List.setIfInBounds_toArray, List.set_cons_zero, List.set_cons_succ]
        refine wpAnyH_ready (rs := [0]) (by kernel_rfl) (by simp) ?_
        refine AllReadyH.cons (o := ⟨some 9, _, _, _, _, _⟩) rfl (fun K hK => ?_) AllReadyH.nil
        rw [if_pos (by rfl)]
        refine wp_load_row 24 (.tmp 3) rfl z rfl 24 #[.slice rA rn rc, .slice xA xn xc] (0, 0) _ hA Try.underlying24 rfl size24 ?_
        refine hK.out _ _ k0 (fun h106 => ?_)
        clear h105 hK K
        try simp only [Act.put, List.setIfInBounds_toArray, List.set_cons_zero, List.set_cons_succ]
        refine wpAnyH_ready (rs := [1]) (by kernel_rfl) (by simp) ?_
        refine AllReadyH.cons (o := ⟨some 10, _, _, _, _, _⟩) rfl (fun K hK => ?_) AllReadyH.nil
        go_simp
        refine (cA _ k0).mono ?_
        rintro e w107 ⟨rfl, hb107⟩
        have A_107 := hA.on hb107
        have B_107 := hB.on hb107
        have C_107 := hC.on hb107
        have S107 : (fun W => Below w.heap.size w W) w107 := stepB k0 hb107
        refine hK.out _ _ S107 (fun h107 => ?_)
        clear h106 hK K
        try simp only [Act.put, List.setIfInBounds_toArray, List.set_cons_zero, List.set_cons_succ]
        refine wpAnyH_ready (rs := [3]) (by kernel_rfl) (by simp) ?_
        refine AllReadyH.cons (o := ⟨some 12, _, _, _, _, _⟩) rfl (fun K hK => ?_) AllReadyH.nil
        go_simp
        refine (cB _ S107).mono ?_
        rintro e w108 ⟨rfl, hb108⟩
        have A_108 := A_107.on hb108
        have B_108 := B_107.on hb108
        have C_108 := C_107.on hb108
        have S108 : (fun W => Below w.heap.size w W) w108 := stepB S107 hb108
        refine hK.out _ _ S108 (fun h108 => ?_)
        clear h107 hK K
        try simp only [Act.put, List.setIfInBounds_toArray, List.set_cons_zero, List.set_cons_succ]
        refine wpAnyH_ready (rs := [5]) (by kernel_rfl) (by simp) ?_
        refine AllReadyH.cons (o := ⟨some 14, _, _, _, _, _⟩) rfl (fun K hK => ?_) AllReadyH.nil
        go_simp
        refine (cC _ S108).mono ?_
        rintro e w109 ⟨rfl, hb109⟩
        have A_109 := A_108.on hb109
        have B_109 := B_108.on hb109
        have C_109 := C_108.on hb109
        have S109 : (fun W => Below w.heap.size w W) w109 := stepB S108 hb109
        refine hK.out _ _ S109 (fun h109 => ?_)
        clear h108 hK K
        try simp only [Act.put, List.setIfInBounds_toArray, List.set_cons_zero, List.set_cons_succ]
        refine wpAnyH_ready (rs := [6]) (by kernel_rfl) (by simp) ?_
        refine AllReadyH.cons (o := ⟨none, _, _, _, _, _⟩) rfl (fun K hK => ?_) AllReadyH.nil
        rw [if_pos (by rfl)]
        refine wp_store_row 24 (.tmp 3) (.tmp 10) rfl z #[.slice pA pn pc, .slice qA qn qc] rfl rfl 24 _ A_109 size24 rfl (by simp [Value.oneCell']) ?_
        refine hK.out _ _ (below_row S109 (by omega) _) (fun h110 => ?_)
        clear h109 hK K
        have S110 : Below w.heap.size w (w109.setRow z #[.slice pA pn pc, .slice qA qn qc]) := below_row S109 (by omega) _
        have A_110 : Blk (w109.setRow z #[.slice pA pn pc, .slice qA qn qc]) z 24 #[.slice pA pn pc, .slice qA qn qc] := setRow_heap _ _ _ _ _ _ A_109
        have B_110 := (show Blk (w109.setRow z #[.slice pA pn pc, .slice qA qn qc]) ((z + 1)) 24 _ from (setRow_other _ _ _ _ (by omega)).trans B_109)
        have C_110 := (show Blk (w109.setRow z #[.slice pA pn pc, .slice qA qn qc]) ((z + 1 + 1)) 24 _ from (setRow_other _ _ _ _ (by omega)).trans C_109)
        try simp only [Act.put]
        refine wpAnyH_ready (rs := [7]) (by kernel_rfl) (by simp) ?_
        refine AllReadyH.cons (o := ⟨none, _, _, _, _, _⟩) rfl (fun K hK => ?_) AllReadyH.nil
        rw [if_pos (by rfl)]
        refine wp_store_row 24 (.tmp 4) (.tmp 12) rfl (z + 1) #[.slice sA sn sc, .slice tA tn tc] rfl rfl 24 _ B_110 size24 rfl (by simp [Value.oneCell']) ?_
        refine hK.out _ _ (below_row S110 (by omega) _) (fun h111 => ?_)
        clear h110 hK K
        have S111 : Below w.heap.size w ((w109.setRow z #[.slice pA pn pc, .slice qA qn qc]).setRow (z + 1) #[.slice sA sn sc, .slice tA tn tc]) := below_row S110 (by omega) _
        have A_111 := (show Blk ((w109.setRow z #[.slice pA pn pc, .slice qA qn qc]).setRow (z + 1) #[.slice sA sn sc, .slice tA tn tc]) (z) 24 _ from (setRow_other _ _ _ _ (by omega)).trans A_110)
        have B_111 : Blk ((w109.setRow z #[.slice pA pn pc, .slice qA qn qc]).setRow (z + 1) #[.slice sA sn sc, .slice tA tn tc]) (z + 1) 24 #[.slice sA sn sc, .slice tA tn tc] := setRow_heap _ _ _ _ _ _ B_110
        have C_111 := (show Blk ((w109.setRow z #[.slice pA pn pc, .slice qA qn qc]).setRow (z + 1) #[.slice sA sn sc, .slice tA tn tc]) ((z + 1 + 1)) 24 _ from (setRow_other _ _ _ _ (by omega)).trans C_110)
        try simp only [Act.put]
        refine wpAnyH_ready (rs := [8]) (by kernel_rfl) (by simp) ?_
        refine AllReadyH.cons (o := ⟨none, _, _, _, _, _⟩) rfl (fun K hK => ?_) AllReadyH.nil
        rw [if_pos (by rfl)]
        refine wp_store_row 24 (.tmp 5) (.tmp 14) rfl (z + 1 + 1) #[.slice uA un uc, .slice vA vn vc] rfl rfl 24 _ C_111 size24 rfl (by simp [Value.oneCell']) ?_
        refine hK.out _ _ (below_row S111 (by omega) _) (fun h112 => ?_)
        clear h111 hK K
        have S112 : Below w.heap.size w (((w109.setRow z #[.slice pA pn pc, .slice qA qn qc]).setRow (z + 1) #[.slice sA sn sc, .slice tA tn tc]).setRow (z + 1 + 1) #[.slice uA un uc, .slice vA vn vc]) := below_row S111 (by omega) _
        have A_112 := (show Blk (((w109.setRow z #[.slice pA pn pc, .slice qA qn qc]).setRow (z + 1) #[.slice sA sn sc, .slice tA tn tc]).setRow (z + 1 + 1) #[.slice uA un uc, .slice vA vn vc]) (z) 24 _ from (setRow_other _ _ _ _ (by omega)).trans A_111)
        have B_112 := (show Blk (((w109.setRow z #[.slice pA pn pc, .slice qA qn qc]).setRow (z + 1) #[.slice sA sn sc, .slice tA tn tc]).setRow (z + 1 + 1) #[.slice uA un uc, .slice vA vn vc]) ((z + 1)) 24 _ from (setRow_other _ _ _ _ (by omega)).trans B_111)
        have C_112 : Blk (((w109.setRow z #[.slice pA pn pc, .slice qA qn qc]).setRow (z + 1) #[.slice sA sn sc, .slice tA tn tc]).setRow (z + 1 + 1) #[.slice uA un uc, .slice vA vn vc]) (z + 1 + 1) 24 #[.slice uA un uc, .slice vA vn vc] := setRow_heap _ _ _ _ _ _ C_111
        try simp only [Act.put]
        refine wpAnyH_done (by kernel_rfl) ?_ _
        refine NoPanic.normal ?_
        go_wp2_with fail
        go_meet
        exact ⟨S112, A_112, B_112, C_112⟩
  case rest =>
    obtain ⟨hb, bA, bB, bC⟩ := hcut
    obtain ⟨FA, FB, FC⟩ := HF.out
    have zA : ∀ W, Below wc.heap.size wc W → W.rangeAt (z) 0 [.slice pA pn pc, .slice qA qn qc] := fun W hW => range_blk (cs := [.slice pA pn pc, .slice qA qn qc]) (bA.on hW)
    have zB : ∀ W, Below wc.heap.size wc W → W.rangeAt (z + 1) 0 [.slice sA sn sc, .slice tA tn tc] := fun W hW => range_blk (cs := [.slice sA sn sc, .slice tA tn tc]) (bB.on hW)
    have zC : ∀ W, Below wc.heap.size wc W → W.rangeAt (z + 1 + 1) 0 [.slice uA un uc, .slice vA vn vc] := fun W hW => range_blk (cs := [.slice uA un uc, .slice vA vn vc]) (bC.on hW)
    have k9 : Below wc.heap.size wc wc.drew := (Below.refl _ wc).drew
    have GA := (FA.on hb).on k9
    have GB := (FB.on hb).on k9
    have GC := (FC.on hb).on k9
    obtain ⟨T1, eT1⟩ : ∃ T, T = clashP (R.take 12) (X.take 12) (Q.take 12) (Y.take 12) := ⟨_, rfl⟩
    obtain ⟨T2, eT2⟩ : ∃ T, T = clashP (U.take 12) (V.take 12) (Q.take 12) (Y.take 12) := ⟨_, rfl⟩
    have eT3 := clashP_join (R.take 12) (X.take 12) (U.take 12) (V.take 12) (Q.take 12) (Y.take 12)
    rw [← eT1, ← eT2] at eT3
    have HT1 := Lib.hid eT1
    have HT2 := Lib.hid eT2
    have HB := Lib.hid hb
    clear bA bB bC FA FB FC cA cB cC hA hB hC k0 hb eT1 eT2
    cases T1 with
    | true =>
      rw [Bool.true_or] at eT3
      have HT3 := Lib.hid eT3.symm
      clear eT3
      go_wp2_with fail
      refine wp_region_noPanic ?_
      refine wp_region_held_drew (S := (fun W => Below wc.heap.size wc W)) (by kernel_rfl) k9 (fun hHeld => ?_)
      generalize wc.drew = wd at hHeld k9 GA GB GC ⊢
      refine wpAnyH_take (i := 0) (oi := ⟨some 15, _, _, _, _, _⟩) (v := .agg (List.toArray ([.slice pA pn pc, .slice qA qn qc]))) rfl (by kernel_rfl) (by kernel_rfl) (by kernel_rfl) (fun _ _ _ h => h) (yieldsIf_load_mid (by rfl) 24 (.tmp 3) rfl z (0) rfl ([.slice pA pn pc, .slice qA qn qc]) _ (fun W hW => zA W hW) Try.underlying24 rfl size24) (by assumption) ?_
      try simp only [Act.put, List.setIfInBounds_toArray, List.set_cons_zero, List.set_cons_succ]
      refine wpAnyH_take (i := 1) (oi := ⟨some 16, _, _, _, _, _⟩) (v := .agg (List.toArray ([.slice uA un uc, .slice vA vn vc]))) rfl (by kernel_rfl) (by kernel_rfl) (by kernel_rfl) (fun _ _ _ h => h) (yieldsIf_load_mid (by rfl) 24 (.tmp 5) rfl (z + 1 + 1) (0) rfl ([.slice uA un uc, .slice vA vn vc]) _ (fun W hW => zC W hW) Try.underlying24 rfl size24) (by assumption) ?_
      try simp only [Act.put, List.setIfInBounds_toArray, List.set_cons_zero, List.set_cons_succ]
      refine wpAnyH_take (i := 3) (oi := ⟨some 18, _, _, _, _, _⟩) (v := .agg (List.toArray ([.slice sA sn sc, .slice tA tn tc]))) rfl (by kernel_rfl) (by kernel_rfl) (by kernel_rfl) (fun _ _ _ h => h) (yieldsIf_load_mid (by rfl) 24 (.tmp 4) rfl (z + 1) (0) rfl ([.slice sA sn sc, .slice tA tn tc]) _ (fun W hW => zB W hW) Try.underlying24 rfl size24) (by assumption) ?_
      try simp only [Act.put, List.setIfInBounds_toArray, List.set_cons_zero, List.set_cons_succ]
      refine wpAnyH_take (i := 5) (oi := ⟨some 20, _, _, _, _, _⟩) (v := .agg (List.toArray ([.slice pA pn pc, .slice qA qn qc]))) rfl (by kernel_rfl) (by kernel_rfl) (by kernel_rfl) (fun _ _ _ h => h) (yieldsIf_load_mid (by rfl) 24 (.tmp 3) rfl z (0) rfl ([.slice pA pn pc, .slice qA qn qc]) _ (fun W hW => zA W hW) Try.underlying24 rfl size24) (by assumption) ?_
      try simp only [Act.put, List.setIfInBounds_toArray, List.set_cons_zero, List.set_cons_succ]
      refine wpAnyH_take (i := 6) (oi := ⟨some 21, _, _, _, _, _⟩) (v := .agg (List.toArray ([.slice sA sn sc, .slice tA tn tc]))) rfl (by kernel_rfl) (by kernel_rfl) (by kernel_rfl) (fun _ _ _ h => h) (yieldsIf_load_mid (by rfl) 24 (.tmp 4) rfl (z + 1) (0) rfl ([.slice sA sn sc, .slice tA tn tc]) _ (fun W hW => zB W hW) Try.underlying24 rfl size24) (by assumption) ?_
      try simp only [Act.put, List.setIfInBounds_toArray, List.set_cons_zero, List.set_cons_succ]
      refine wpAnyH_ready (rs := [2]) (by kernel_rfl) (by simp) ?_
      refine AllReadyH.cons (o := ⟨some 17, _, _, _, _, _⟩) rfl (fun K hK => ?_) AllReadyH.nil
      go_simp
      refine (join_lit GA GC (by omega) (by omega) (by omega) (by omega)).mono ?_
      rintro e w1 ⟨jA, jn, ja, jB, jm, jb, rfl, j_1, jl, hb1⟩
      have A_1 := GA.on hb1
      have B_1 := GB.on hb1
      have C_1 := GC.on hb1
      have S1 : (fun W => Below wc.heap.size wc W) w1 := stepB k9 hb1
      refine hK.out _ _ S1 (fun h1 => ?_)
      clear hHeld hK K
      try simp only [Act.put, List.setIfInBounds_toArray, List.set_cons_zero, List.set_cons_succ]
      refine wpAnyH_ready (rs := [4]) (by kernel_rfl) (by simp) ?_
      refine AllReadyH.cons (o := ⟨some 19, _, _, _, _, _⟩) rfl (fun K hK => ?_) AllReadyH.nil
      go_simp
      refine (clash_lit j_1 B_1 jl ⟨by omega, by omega⟩ HT3.out).mono ?_
      rintro e w2 ⟨rfl, hb2⟩
      have A_2 := A_1.on hb2
      have B_2 := B_1.on hb2
      have C_2 := C_1.on hb2
      have j_2 := j_1.on hb2
      have S2 : (fun W => Below wc.heap.size wc W) w2 := stepB S1 hb2
      refine hK.out _ _ S2 (fun h2 => ?_)
      clear h1 hK K
      try simp only [Act.put, List.setIfInBounds_toArray, List.set_cons_zero, List.set_cons_succ]
      refine wpAnyH_ready (rs := [7]) (by kernel_rfl) (by simp) ?_
      refine AllReadyH.cons (o := ⟨some 22, _, _, _, _, _⟩) rfl (fun K hK => ?_) AllReadyH.nil
      go_simp
      refine (clash_lit A_2 B_2 ⟨by omega, by omega⟩ ⟨by omega, by omega⟩ HT1.out).mono ?_
      rintro e w3 ⟨rfl, hb3⟩
      have A_3 := A_2.on hb3
      have B_3 := B_2.on hb3
      have C_3 := C_2.on hb3
      have j_3 := j_2.on hb3
      have S3 : (fun W => Below wc.heap.size wc W) w3 := stepB S2 hb3
      refine hK.out _ _ S3 (fun h3 => ?_)
      clear h2 hK K
      try simp only [Act.put, List.setIfInBounds_toArray, List.set_cons_zero, List.set_cons_succ]
      refine wpAnyH_take (i := 8) (oi := ⟨some 23, _, _, _, _, _⟩) (v := ?_) rfl (by kernel_rfl) (by kernel_rfl) (by kernel_rfl) (fun _ _ _ h => h) (Or.inl ⟨by rfl, ?_⟩) (by assumption) ?_
      rotate_left 1
      · (intro W hSw; go_simp <;> with_reducible rfl)
      try simp only [Act.put, List.setIfInBounds_toArray, List.set_cons_zero, List.set_cons_succ]
      refine wpAnyH_take (i := 9) (oi := ⟨some 24, _, _, _, _, _⟩) (v := undef) rfl (by kernel_rfl) (by kernel_rfl) (by kernel_rfl) (fun _ _ _ h => h) (Or.inr ⟨by rfl, rfl⟩) (by assumption) ?_
      try simp only [Act.put, List.setIfInBounds_toArray, List.set_cons_zero, List.set_cons_succ]
      refine wpAnyH_take (i := 10) (oi := ⟨some 25, _, _, _, _, _⟩) (v := undef) rfl (by kernel_rfl) (by kernel_rfl) (by kernel_rfl) (fun _ _ _ h => h) (Or.inr ⟨by rfl, rfl⟩) (by assumption) ?_
      try simp only [Act.put, List.setIfInBounds_toArray, List.set_cons_zero, List.set_cons_succ]
      refine wpAnyH_take (i := 11) (oi := ⟨some 26, _, _, _, _, _⟩) (v := undef) rfl (by kernel_rfl) (by kernel_rfl) (by kernel_rfl) (fun _ _ _ h => h) (Or.inr ⟨by rfl, rfl⟩) (by assumption) ?_
      try simp only [Act.put, List.setIfInBounds_toArray, List.set_cons_zero, List.set_cons_succ]
      refine wpAnyH_take (i := 12) (oi := ⟨some 27, _, _, _, _, _⟩) (v := ?_) rfl (by kernel_rfl) (by kernel_rfl) (by kernel_rfl) (fun _ _ _ h => h) (Or.inl ⟨by rfl, ?_⟩) (by assumption) ?_
      rotate_left 1
      · (intro W hSw; go_simp <;> with_reducible rfl)
      try simp only [Act.put, List.setIfInBounds_toArray, List.set_cons_zero, List.set_cons_succ]
      refine wpAnyH_take (i := 13) (oi := ⟨some 28, _, _, _, _, _⟩) (v := ?_) rfl (by kernel_rfl) (by kernel_rfl) (by kernel_rfl) (fun _ _ _ h => h) (Or.inl ⟨by rfl, ?_⟩) (by assumption) ?_
      rotate_left 1
      · (intro W hSw; go_simp <;> with_reducible rfl)
      try simp only [Act.put, List.setIfInBounds_toArray, List.set_cons_zero, List.set_cons_succ]
      refine wpAnyH_take (i := 14) (oi := ⟨some 6, _, _, _, _, _⟩) (v := ?_) rfl (by kernel_rfl) (by kernel_rfl) (by kernel_rfl) (fun _ _ _ h => h) (Or.inl ⟨by rfl, ?_⟩) (by assumption) ?_
      rotate_left 1
      · (intro W hSw; go_simp <;> with_reducible rfl)
      try simp only [Act.put, List.setIfInBounds_toArray, List.set_cons_zero, List.set_cons_succ]
      refine wpAnyH_done (by kernel_rfl) ?_ _
      refine NoPanic.normal ?_
      have HZ := Lib.hid (stepB HB.out S3)
      go_wp2
      go_ret
      exact ⟨rfl, HZ.out⟩
    | false =>
      rw [Bool.false_or] at eT3
      have HT3 := Lib.hid eT3.symm
      clear eT3
      cases T2 with
      | true =>
        go_wp2_with fail
        refine wp_region_noPanic ?_
        refine wp_region_held_drew (S := (fun W => Below wc.heap.size wc W)) (by kernel_rfl) k9 (fun hHeld => ?_)
        generalize wc.drew = wd at hHeld k9 GA GB GC ⊢
        refine wpAnyH_take (i := 0) (oi := ⟨some 15, _, _, _, _, _⟩) (v := .agg (List.toArray ([.slice pA pn pc, .slice qA qn qc]))) rfl (by kernel_rfl) (by kernel_rfl) (by kernel_rfl) (fun _ _ _ h => h) (yieldsIf_load_mid (by rfl) 24 (.tmp 3) rfl z (0) rfl ([.slice pA pn pc, .slice qA qn qc]) _ (fun W hW => zA W hW) Try.underlying24 rfl size24) (by assumption) ?_
        try simp only [Act.put, List.setIfInBounds_toArray, List.set_cons_zero, List.set_cons_succ]
        refine wpAnyH_take (i := 1) (oi := ⟨some 16, _, _, _, _, _⟩) (v := .agg (List.toArray ([.slice uA un uc, .slice vA vn vc]))) rfl (by kernel_rfl) (by kernel_rfl) (by kernel_rfl) (fun _ _ _ h => h) (yieldsIf_load_mid (by rfl) 24 (.tmp 5) rfl (z + 1 + 1) (0) rfl ([.slice uA un uc, .slice vA vn vc]) _ (fun W hW => zC W hW) Try.underlying24 rfl size24) (by assumption) ?_
        try simp only [Act.put, List.setIfInBounds_toArray, List.set_cons_zero, List.set_cons_succ]
        refine wpAnyH_take (i := 3) (oi := ⟨some 18, _, _, _, _, _⟩) (v := .agg (List.toArray ([.slice sA sn sc, .slice tA tn tc]))) rfl (by kernel_rfl) (by kernel_rfl) (by kernel_rfl) (fun _ _ _ h => h) (yieldsIf_load_mid (by rfl) 24 (.tmp 4) rfl (z + 1) (0) rfl ([.slice sA sn sc, .slice tA tn tc]) _ (fun W hW => zB W hW) Try.underlying24 rfl size24) (by assumption) ?_
        try simp only [Act.put, List.setIfInBounds_toArray, List.set_cons_zero, List.set_cons_succ]
        refine wpAnyH_take (i := 5) (oi := ⟨some 20, _, _, _, _, _⟩) (v := .agg (List.toArray ([.slice pA pn pc, .slice qA qn qc]))) rfl (by kernel_rfl) (by kernel_rfl) (by kernel_rfl) (fun _ _ _ h => h) (yieldsIf_load_mid (by rfl) 24 (.tmp 3) rfl z (0) rfl ([.slice pA pn pc, .slice qA qn qc]) _ (fun W hW => zA W hW) Try.underlying24 rfl size24) (by assumption) ?_
        try simp only [Act.put, List.setIfInBounds_toArray, List.set_cons_zero, List.set_cons_succ]
        refine wpAnyH_take (i := 6) (oi := ⟨some 21, _, _, _, _, _⟩) (v := .agg (List.toArray ([.slice sA sn sc, .slice tA tn tc]))) rfl (by kernel_rfl) (by kernel_rfl) (by kernel_rfl) (fun _ _ _ h => h) (yieldsIf_load_mid (by rfl) 24 (.tmp 4) rfl (z + 1) (0) rfl ([.slice sA sn sc, .slice tA tn tc]) _ (fun W hW => zB W hW) Try.underlying24 rfl size24) (by assumption) ?_
        try simp only [Act.put, List.setIfInBounds_toArray, List.set_cons_zero, List.set_cons_succ]
        refine wpAnyH_ready (rs := [2]) (by kernel_rfl) (by simp) ?_
        refine AllReadyH.cons (o := ⟨some 17, _, _, _, _, _⟩) rfl (fun K hK => ?_) AllReadyH.nil
        go_simp
        refine (join_lit GA GC (by omega) (by omega) (by omega) (by omega)).mono ?_
        rintro e w1 ⟨jA, jn, ja, jB, jm, jb, rfl, j_1, jl, hb1⟩
        have A_1 := GA.on hb1
        have B_1 := GB.on hb1
        have C_1 := GC.on hb1
        have S1 : (fun W => Below wc.heap.size wc W) w1 := stepB k9 hb1
        refine hK.out _ _ S1 (fun h1 => ?_)
        clear hHeld hK K
        try simp only [Act.put, List.setIfInBounds_toArray, List.set_cons_zero, List.set_cons_succ]
        refine wpAnyH_ready (rs := [4]) (by kernel_rfl) (by simp) ?_
        refine AllReadyH.cons (o := ⟨some 19, _, _, _, _, _⟩) rfl (fun K hK => ?_) AllReadyH.nil
        go_simp
        refine (clash_lit j_1 B_1 jl ⟨by omega, by omega⟩ HT3.out).mono ?_
        rintro e w2 ⟨rfl, hb2⟩
        have A_2 := A_1.on hb2
        have B_2 := B_1.on hb2
        have C_2 := C_1.on hb2
        have j_2 := j_1.on hb2
        have S2 : (fun W => Below wc.heap.size wc W) w2 := stepB S1 hb2
        refine hK.out _ _ S2 (fun h2 => ?_)
        clear h1 hK K
        try simp only [Act.put, List.setIfInBounds_toArray, List.set_cons_zero, List.set_cons_succ]
        refine wpAnyH_ready (rs := [7]) (by kernel_rfl) (by simp) ?_
        refine AllReadyH.cons (o := ⟨some 22, _, _, _, _, _⟩) rfl (fun K hK => ?_) AllReadyH.nil
        go_simp
        refine (clash_lit A_2 B_2 ⟨by omega, by omega⟩ ⟨by omega, by omega⟩ HT1.out).mono ?_
        rintro e w3 ⟨rfl, hb3⟩
        have A_3 := A_2.on hb3
        have B_3 := B_2.on hb3
        have C_3 := C_2.on hb3
        have j_3 := j_2.on hb3
        have S3 : (fun W => Below wc.heap.size wc W) w3 := stepB S2 hb3
        refine hK.out _ _ S3 (fun h3 => ?_)
        clear h2 hK K
        try simp only [Act.put, List.setIfInBounds_toArray, List.set_cons_zero, List.set_cons_succ]
        refine wpAnyH_take (i := 8) (oi := ⟨some 23, _, _, _, _, _⟩) (v := ?_) rfl (by kernel_rfl) (by kernel_rfl) (by kernel_rfl) (fun _ _ _ h => h) (Or.inl ⟨by rfl, ?_⟩) (by assumption) ?_
        rotate_left 1
        · (intro W hSw; go_simp <;> with_reducible rfl)
        try simp only [Act.put, List.setIfInBounds_toArray, List.set_cons_zero, List.set_cons_succ]
        refine wpAnyH_take (i := 9) (oi := ⟨some 24, _, _, _, _, _⟩) (v := .agg (List.toArray ([.slice uA un uc, .slice vA vn vc]))) rfl (by kernel_rfl) (by kernel_rfl) (by kernel_rfl) (fun _ _ _ h => h) (yieldsIf_load_mid (by rfl) 24 (.tmp 5) rfl (z + 1 + 1) (0) rfl ([.slice uA un uc, .slice vA vn vc]) _ (fun W hW => zC W hW) Try.underlying24 rfl size24) (by assumption) ?_
        try simp only [Act.put, List.setIfInBounds_toArray, List.set_cons_zero, List.set_cons_succ]
        refine wpAnyH_take (i := 10) (oi := ⟨some 25, _, _, _, _, _⟩) (v := .agg (List.toArray ([.slice sA sn sc, .slice tA tn tc]))) rfl (by kernel_rfl) (by kernel_rfl) (by kernel_rfl) (fun _ _ _ h => h) (yieldsIf_load_mid (by rfl) 24 (.tmp 4) rfl (z + 1) (0) rfl ([.slice sA sn sc, .slice tA tn tc]) _ (fun W hW => zB W hW) Try.underlying24 rfl size24) (by assumption) ?_
        try simp only [Act.put, List.setIfInBounds_toArray, List.set_cons_zero, List.set_cons_succ]
        refine wpAnyH_ready (rs := [11]) (by kernel_rfl) (by simp) ?_
        refine AllReadyH.cons (o := ⟨some 26, _, _, _, _, _⟩) rfl (fun K hK => ?_) AllReadyH.nil
        go_simp
        refine (clash_lit C_3 B_3 ⟨by omega, by omega⟩ ⟨by omega, by omega⟩ HT2.out).mono ?_
        rintro e w4 ⟨rfl, hb4⟩
        have A_4 := A_3.on hb4
        have B_4 := B_3.on hb4
        have C_4 := C_3.on hb4
        have j_4 := j_3.on hb4
        have S4 : (fun W => Below wc.heap.size wc W) w4 := stepB S3 hb4
        refine hK.out _ _ S4 (fun h4 => ?_)
        clear h3 hK K
        try simp only [Act.put, List.setIfInBounds_toArray, List.set_cons_zero, List.set_cons_succ]
        refine wpAnyH_take (i := 12) (oi := ⟨some 27, _, _, _, _, _⟩) (v := ?_) rfl (by kernel_rfl) (by kernel_rfl) (by kernel_rfl) (fun _ _ _ h => h) (Or.inl ⟨by rfl, ?_⟩) (by assumption) ?_
        rotate_left 1
        · (intro W hSw; go_simp <;> with_reducible rfl)
        try simp only [Act.put, List.setIfInBounds_toArray, List.set_cons_zero, List.set_cons_succ]
        refine wpAnyH_take (i := 13) (oi := ⟨some 28, _, _, _, _, _⟩) (v := ?_) rfl (by kernel_rfl) (by kernel_rfl) (by kernel_rfl) (fun _ _ _ h => h) (Or.inl ⟨by rfl, ?_⟩) (by assumption) ?_
        rotate_left 1
        · (intro W hSw; go_simp <;> with_reducible rfl)
        try simp only [Act.put, List.setIfInBounds_toArray, List.set_cons_zero, List.set_cons_succ]
        refine wpAnyH_take (i := 14) (oi := ⟨some 6, _, _, _, _, _⟩) (v := ?_) rfl (by kernel_rfl) (by kernel_rfl) (by kernel_rfl) (fun _ _ _ h => h) (Or.inl ⟨by rfl, ?_⟩) (by assumption) ?_
        rotate_left 1
        · (intro W hSw; go_simp <;> with_reducible rfl)
        try simp only [Act.put, List.setIfInBounds_toArray, List.set_cons_zero, List.set_cons_succ]
        refine wpAnyH_done (by kernel_rfl) ?_ _
        refine NoPanic.normal ?_
        have HZ := Lib.hid (stepB HB.out S4)
        go_wp2
        go_ret
        exact ⟨rfl, HZ.out⟩
      | false =>
        go_wp2_with fail
        refine wp_region_noPanic ?_
        refine wp_region_held_drew (S := (fun W => Below wc.heap.size wc W)) (by kernel_rfl) k9 (fun hHeld => ?_)
        generalize wc.drew = wd at hHeld k9 GA GB GC ⊢
        refine wpAnyH_take (i := 0) (oi := ⟨some 15, _, _, _, _, _⟩) (v := .agg (List.toArray ([.slice pA pn pc, .slice qA qn qc]))) rfl (by kernel_rfl) (by kernel_rfl) (by kernel_rfl) (fun _ _ _ h => h) (yieldsIf_load_mid (by rfl) 24 (.tmp 3) rfl z (0) rfl ([.slice pA pn pc, .slice qA qn qc]) _ (fun W hW => zA W hW) Try.underlying24 rfl size24) (by assumption) ?_
        try simp only [Act.put, List.setIfInBounds_toArray, List.set_cons_zero, List.set_cons_succ]
        refine wpAnyH_take (i := 1) (oi := ⟨some 16, _, _, _, _, _⟩) (v := .agg (List.toArray ([.slice uA un uc, .slice vA vn vc]))) rfl (by kernel_rfl) (by kernel_rfl) (by kernel_rfl) (fun _ _ _ h => h) (yieldsIf_load_mid (by rfl) 24 (.tmp 5) rfl (z + 1 + 1) (0) rfl ([.slice uA un uc, .slice vA vn vc]) _ (fun W hW => zC W hW) Try.underlying24 rfl size24) (by assumption) ?_
        try simp only [Act.put, List.setIfInBounds_toArray, List.set_cons_zero, List.set_cons_succ]
        refine wpAnyH_take (i := 3) (oi := ⟨some 18, _, _, _, _, _⟩) (v := .agg (List.toArray ([.slice sA sn sc, .slice tA tn tc]))) rfl (by kernel_rfl) (by kernel_rfl) (by kernel_rfl) (fun _ _ _ h => h) (yieldsIf_load_mid (by rfl) 24 (.tmp 4) rfl (z + 1) (0) rfl ([.slice sA sn sc, .slice tA tn tc]) _ (fun W hW => zB W hW) Try.underlying24 rfl size24) (by assumption) ?_
        try simp only [Act.put, List.setIfInBounds_toArray, List.set_cons_zero, List.set_cons_succ]
        refine wpAnyH_take (i := 5) (oi := ⟨some 20, _, _, _, _, _⟩) (v := .agg (List.toArray ([.slice pA pn pc, .slice qA qn qc]))) rfl (by kernel_rfl) (by kernel_rfl) (by kernel_rfl) (fun _ _ _ h => h) (yieldsIf_load_mid (by rfl) 24 (.tmp 3) rfl z (0) rfl ([.slice pA pn pc, .slice qA qn qc]) _ (fun W hW => zA W hW) Try.underlying24 rfl size24) (by assumption) ?_
        try simp only [Act.put, List.setIfInBounds_toArray, List.set_cons_zero, List.set_cons_succ]
        refine wpAnyH_take (i := 6) (oi := ⟨some 21, _, _, _, _, _⟩) (v := .agg (List.toArray ([.slice sA sn sc, .slice tA tn tc]))) rfl (by kernel_rfl) (by kernel_rfl) (by kernel_rfl) (fun _ _ _ h => h) (yieldsIf_load_mid (by rfl) 24 (.tmp 4) rfl (z + 1) (0) rfl ([.slice sA sn sc, .slice tA tn tc]) _ (fun W hW => zB W hW) Try.underlying24 rfl size24) (by assumption) ?_
        try simp only [Act.put, List.setIfInBounds_toArray, List.set_cons_zero, List.set_cons_succ]
        refine wpAnyH_ready (rs := [2]) (by kernel_rfl) (by simp) ?_
        refine AllReadyH.cons (o := ⟨some 17, _, _, _, _, _⟩) rfl (fun K hK => ?_) AllReadyH.nil
        go_simp
        refine (join_lit GA GC (by omega) (by omega) (by omega) (by omega)).mono ?_
        rintro e w1 ⟨jA, jn, ja, jB, jm, jb, rfl, j_1, jl, hb1⟩
        have A_1 := GA.on hb1
        have B_1 := GB.on hb1
        have C_1 := GC.on hb1
        have S1 : (fun W => Below wc.heap.size wc W) w1 := stepB k9 hb1
        refine hK.out _ _ S1 (fun h1 => ?_)
        clear hHeld hK K
        try simp only [Act.put, List.setIfInBounds_toArray, List.set_cons_zero, List.set_cons_succ]
        refine wpAnyH_ready (rs := [4]) (by kernel_rfl) (by simp) ?_
        refine AllReadyH.cons (o := ⟨some 19, _, _, _, _, _⟩) rfl (fun K hK => ?_) AllReadyH.nil
        go_simp
        refine (clash_lit j_1 B_1 jl ⟨by omega, by omega⟩ HT3.out).mono ?_
        rintro e w2 ⟨rfl, hb2⟩
        have A_2 := A_1.on hb2
        have B_2 := B_1.on hb2
        have C_2 := C_1.on hb2
        have j_2 := j_1.on hb2
        have S2 : (fun W => Below wc.heap.size wc W) w2 := stepB S1 hb2
        refine hK.out _ _ S2 (fun h2 => ?_)
        clear h1 hK K
        try simp only [Act.put, List.setIfInBounds_toArray, List.set_cons_zero, List.set_cons_succ]
        refine wpAnyH_ready (rs := [7]) (by kernel_rfl) (by simp) ?_
        refine AllReadyH.cons (o := ⟨some 22, _, _, _, _, _⟩) rfl (fun K hK => ?_) AllReadyH.nil
        go_simp
        refine (clash_lit A_2 B_2 ⟨by omega, by omega⟩ ⟨by omega, by omega⟩ HT1.out).mono ?_
        rintro e w3 ⟨rfl, hb3⟩
        have A_3 := A_2.on hb3
        have B_3 := B_2.on hb3
        have C_3 := C_2.on hb3
        have j_3 := j_2.on hb3
        have S3 : (fun W => Below wc.heap.size wc W) w3 := stepB S2 hb3
        refine hK.out _ _ S3 (fun h3 => ?_)
        clear h2 hK K
        try simp only [Act.put, List.setIfInBounds_toArray, List.set_cons_zero, List.set_cons_succ]
        refine wpAnyH_take (i := 8) (oi := ⟨some 23, _, _, _, _, _⟩) (v := ?_) rfl (by kernel_rfl) (by kernel_rfl) (by kernel_rfl) (fun _ _ _ h => h) (Or.inl ⟨by rfl, ?_⟩) (by assumption) ?_
        rotate_left 1
        · (intro W hSw; go_simp <;> with_reducible rfl)
        try simp only [Act.put, List.setIfInBounds_toArray, List.set_cons_zero, List.set_cons_succ]
        refine wpAnyH_take (i := 9) (oi := ⟨some 24, _, _, _, _, _⟩) (v := .agg (List.toArray ([.slice uA un uc, .slice vA vn vc]))) rfl (by kernel_rfl) (by kernel_rfl) (by kernel_rfl) (fun _ _ _ h => h) (yieldsIf_load_mid (by rfl) 24 (.tmp 5) rfl (z + 1 + 1) (0) rfl ([.slice uA un uc, .slice vA vn vc]) _ (fun W hW => zC W hW) Try.underlying24 rfl size24) (by assumption) ?_
        try simp only [Act.put, List.setIfInBounds_toArray, List.set_cons_zero, List.set_cons_succ]
        refine wpAnyH_take (i := 10) (oi := ⟨some 25, _, _, _, _, _⟩) (v := .agg (List.toArray ([.slice sA sn sc, .slice tA tn tc]))) rfl (by kernel_rfl) (by kernel_rfl) (by kernel_rfl) (fun _ _ _ h => h) (yieldsIf_load_mid (by rfl) 24 (.tmp 4) rfl (z + 1) (0) rfl ([.slice sA sn sc, .slice tA tn tc]) _ (fun W hW => zB W hW) Try.underlying24 rfl size24) (by assumption) ?_
        try simp only [Act.put, List.setIfInBounds_toArray, List.set_cons_zero, List.set_cons_succ]
        refine wpAnyH_ready (rs := [11]) (by kernel_rfl) (by simp) ?_
        refine AllReadyH.cons (o := ⟨some 26, _, _, _, _, _⟩) rfl (fun K hK => ?_) AllReadyH.nil
        go_simp
        refine (clash_lit C_3 B_3 ⟨by omega, by omega⟩ ⟨by omega, by omega⟩ HT2.out).mono ?_
        rintro e w4 ⟨rfl, hb4⟩
        have A_4 := A_3.on hb4
        have B_4 := B_3.on hb4
        have C_4 := C_3.on hb4
        have j_4 := j_3.on hb4
        have S4 : (fun W => Below wc.heap.size wc W) w4 := stepB S3 hb4
        refine hK.out _ _ S4 (fun h4 => ?_)
        clear h3 hK K
        try simp only [Act.put, List.setIfInBounds_toArray, List.set_cons_zero, List.set_cons_succ]
        refine wpAnyH_take (i := 12) (oi := ⟨some 27, _, _, _, _, _⟩) (v := ?_) rfl (by kernel_rfl) (by kernel_rfl) (by kernel_rfl) (fun _ _ _ h => h) (Or.inl ⟨by rfl, ?_⟩) (by assumption) ?_
        rotate_left 1
        · (intro W hSw; go_simp <;> with_reducible rfl)
        try simp only [Act.put, List.setIfInBounds_toArray, List.set_cons_zero, List.set_cons_succ]
        refine wpAnyH_take (i := 13) (oi := ⟨some 28, _, _, _, _, _⟩) (v := ?_) rfl (by kernel_rfl) (by kernel_rfl) (by kernel_rfl) (fun _ _ _ h => h) (Or.inl ⟨by rfl, ?_⟩) (by assumption) ?_
        rotate_left 1
        · (intro W hSw; go_simp <;> with_reducible rfl)
        try simp only [Act.put, List.setIfInBounds_toArray, List.set_cons_zero, List.set_cons_succ]
        refine wpAnyH_take (i := 14) (oi := ⟨some 6, _, _, _, _, _⟩) (v := ?_) rfl (by kernel_rfl) (by kernel_rfl) (by kernel_rfl) (fun _ _ _ h => h) (Or.inl ⟨by rfl, ?_⟩) (by assumption) ?_
        rotate_left 1
        · (intro W hSw; go_simp <;> with_reducible rfl)
        try simp only [Act.put, List.setIfInBounds_toArray, List.set_cons_zero, List.set_cons_succ]
        refine wpAnyH_done (by kernel_rfl) ?_ _
        refine NoPanic.normal ?_
        have HZ := Lib.hid (stepB HB.out S4)
        go_wp2
        go_ret
        exact ⟨rfl, HZ.out⟩
end Go.Proofs.Ytmhogmhdgbdpbaa
