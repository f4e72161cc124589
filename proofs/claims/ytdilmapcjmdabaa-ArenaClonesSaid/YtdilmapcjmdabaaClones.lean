/- A clone goes its own way: the walk. Conditions: none. -/
import Derived.Test.YtdilmapcjmdabaaBoth
set_option linter.unusedSimpArgs false
namespace Go.Proofs.Ytdilmapcjmdabaa
open Go.ChangeShapes Go.WideShapes Go.RowKit
set_option maxRecDepth 100000 in
set_option maxHeartbeats 1000000 in
theorem clones_walk (x : Int) (A1 : Option Addr) (n1 c1 : Nat) (O1 : Nat → OpR) (A2 : Option Addr) (n2 c2 : Nat) (O2 : Nat → OpR) (A3 : Option Addr) (n3 c3 : Nat) (O3 : Nat → OpR) (w : World)
    (ho1 : IsOps w A1 n1 c1 O1) (ho2 : IsOps w A2 n2 c2 O2) (ho3 : IsOps w A3 n3 c3 O3) :
    Calls Try.prog 6 #[.int .i64 x, .slice A1 n1 c1, .slice A2 n2 c2, .slice A3 n3 c3] w fun e w' => e = .returned (.bool true) ∧ Below w.heap.size w w' := by
  have hn1 : (n1 : Int) ≤ 9223372036854775807 := by have := ho1.room; have := ho1.most; unfold maxLen at this; omega
  have hn2 : (n2 : Int) ≤ 9223372036854775807 := by have := ho2.room; have := ho2.most; unfold maxLen at this; omega
  have hn3 : (n3 : Int) ≤ 9223372036854775807 := by have := ho3.room; have := ho3.most; unfold maxLen at this; omega
  go_enter Try.func6, Try.ntmps6
  go_wp2_with fail
  refine (alive_any _).mono ?_
  rintro e w1 ⟨rfl, hb1⟩
  go_wp2_with fail
  refine (new_any x w1).mono ?_
  rintro e w2 ⟨p, L, rfl, hA2, hb2, hf2⟩
  go_wp2_with fail
  refine (rnew_any x w2).mono ?_
  rintro e w3 ⟨r, rfl, hN3⟩
  have hG0 := Goes.start (hb1.trans (hb2.mono hb1.size)) hA2 (fun g hg => Nat.le_trans hb1.size (hf2 g hg)) hN3
  obtain ⟨z, ez⟩ : ∃ z, z = w3.heap.size := ⟨_, rfl⟩
  obtain ⟨W, eW⟩ : ∃ W, W = (w3.alloc (.cells #[.slice none 0 0, .slice none 0 0, .int .i64 0] 34)).setRow w3.heap.size (r.bk 0) := ⟨_, rfl⟩
  rw [← eW, ← ez] at hG0
  have hsz : r.cs.size = 2 := rfl
  go_upto_block 0 with (refine wpList_store_row rfl 34 (.tmp 10) (.tmp 22) rfl w3.heap.size (r.bk 0) rfl rfl 34 #[.slice none 0 0, .slice none 0 0, .int .i64 0] (heap_alloc_new w3 _) (sz34 r 0) rfl (one34 r 0) ?_)
  rw [← eW, ← ez]
  clear hA2 hb2 hf2 hN3 eW ez hb1 hsz
  go_cut [11] (fun _ wr => ∃ (L : Lim) (s : Sta) (H : His) (r : Rim), H.length ≤ 25 ∧ Since (sta0 (cellsN x)) s H ∧ Goes w wr p z (r.bk (H.length : Int)) L s H r)
  case first =>
    go_wp2_with fail
    go_loopw [11] (fun i wr => ∃ (k : Nat) (L : Lim) (s : Sta) (H : His) (r : Rim), i = .int .i64 k ∧ k ≤ n1 ∧ k ≤ 25 ∧ H.length ≤ k ∧ Since (sta0 (cellsN x)) s H ∧ Goes w wr p z (r.bk (H.length : Int)) L s H r) (fun i _ => 25 - (intOf i).toNat)
    case atStart => exact ⟨0, L, _, [], r, rfl, Nat.zero_le _, Nat.zero_le _, Nat.le_refl _, since_new _, hG0⟩
    case round =>
      clear hG0
      obtain ⟨k, L, s, H, r, rfl, hkn, hk25, hHk, hsi, hG⟩ := hrel
      by_cases hk1 : k < n1
      · by_cases hk2 : k < 25
        · have hk3 : (k : Int) < 25 := by omega
          obtain ⟨g, o, rfl, hgw, hr⟩ := ho1.at_ k hk1
          have hr0 : wr.drew.rangeAt g (o + k * 8) (O1 k).cs := fun j v hv => (hG.below.cell hgw).trans (hr j v hv)
          have hbd : Below wr.heap.size wr wr.drew := (Below.refl _ wr).drew
          have hrun := run_any (o := O1 k) (hG.on hbd).pair (Nat.le_trans hHk (by omega))
          have hbk : Blk wr.drew z 34 (r.bk (H.length : Int)) := (hG.on hbd).book
          have hgz : g ≠ z := by have := hG.farz; omega
          go_wp2_with fail
          refine wp_region_noPanic ?_
          refine wp_region_held_drew (S := fun W => W.rangeAt g (o + k * 8) (O1 k).cs) (by kernel_rfl) hr0 (fun hHeld => ?_)
          refine wpAnyH_take (i := 0) (oi := ⟨some 34, _, _, _, _, _⟩) (v := ?_) rfl (by kernel_rfl) (by kernel_rfl) (by kernel_rfl) (fun _ _ _ h => h) (Or.inl ⟨by rfl, ?_⟩) (by assumption) ?_
          rotate_left 1
          · (intro W hSw; go_simp <;> with_reducible rfl)
          try simp only [Act.put, List.setIfInBounds_toArray, List.set_cons_zero, List.set_cons_succ]
          refine wpAnyH_take (i := 2) (oi := ⟨some 36, _, _, _, _, _⟩) (v := ?_) rfl (by kernel_rfl) (by kernel_rfl) (by kernel_rfl) (fun _ _ _ h => h) (Or.inl ⟨by rfl, ?_⟩) (by assumption) ?_
          rotate_left 1
          · (intro W hSw; go_simp <;> with_reducible rfl)
          try simp only [Act.put, List.setIfInBounds_toArray, List.set_cons_zero, List.set_cons_succ]
          refine wpAnyH_take (i := 3) (oi := ⟨some 37, _, _, _, _, _⟩) (v := ?_) rfl (by kernel_rfl) (by kernel_rfl) (by kernel_rfl) (fun _ _ _ h => h) (Or.inl ⟨by rfl, ?_⟩) (by assumption) ?_
          rotate_left 1
          · (intro W hSw; go_simp <;> with_reducible rfl)
          try simp only [Act.put, List.setIfInBounds_toArray, List.set_cons_zero, List.set_cons_succ]
          refine wpAnyH_take (i := 4) (oi := ⟨some 38, _, _, _, _, _⟩) (v := ?_) rfl (by kernel_rfl) (by kernel_rfl) (by kernel_rfl) (fun _ _ _ h => h) (Or.inl ⟨by rfl, ?_⟩) (by assumption) ?_
          rotate_left 1
          · (intro W hSw; go_simp <;> with_reducible rfl)
          try simp only [Act.put, List.setIfInBounds_toArray, List.set_cons_zero, List.set_cons_succ]
          refine wpAnyH_take (i := 5) (oi := ⟨some 39, _, _, _, _, _⟩) (v := .agg (O1 k).cs.toArray) rfl (by kernel_rfl) (by kernel_rfl) (by kernel_rfl) (fun _ _ _ h => h) (yieldsIf_load_mid (by rfl) 38 (.tmp 38) rfl g (o + k * 8) rfl (O1 k).cs _ (fun W hW => hW) Try.underlying38 rfl (load38 (O1 k))) (by assumption) ?_
          try simp only [Act.put, List.setIfInBounds_toArray, List.set_cons_zero, List.set_cons_succ]
          refine wpAnyH_ready (rs := [1]) (by kernel_rfl) (by simp) ?_
          refine AllReadyH.cons rfl (fun K hK => ?_) AllReadyH.nil
          rw [if_pos (by rfl)]
          refine wp_load_row 34 (.tmp 10) rfl z rfl 34 (r.bk (H.length : Int)) (0, 0) _ hbk Try.underlying34 rfl (sz34 r _) ?_
          refine hK.out _ _ hr0 (fun hHeld1 => ?_)
          clear hHeld hK K
          try simp only [Act.put, List.setIfInBounds_toArray, List.set_cons_zero, List.set_cons_succ]
          refine wpAnyH_ready (rs := [6]) (by kernel_rfl) (by simp) ?_
          refine AllReadyH.cons rfl (fun K hK => ?_) AllReadyH.nil
          go_simp
          refine hrun.mono ?_
          rintro e w4 hRan
          obtain ⟨r4, L4, rfl, hT4⟩ := hG.ran hbd hRan (can_mov hG.pair.inv)
          have hP4 := hT4.goes.put (r4.bk ((His.go H s (movO s (O1 k))).length : Int))
          refine hK.out _ _ (fun j v hv => (hT4.goes.below.cell hgw).trans (hr j v hv)) (fun hHeld2 => ?_)
          clear hHeld1 hK K hRan hrun
          try simp only [Act.put, List.setIfInBounds_toArray, List.set_cons_zero, List.set_cons_succ]
          refine wpAnyH_take (i := 7) (oi := ⟨some 33, _, _, _, _, _⟩) (v := ?_) rfl (by kernel_rfl) (by kernel_rfl) (by kernel_rfl) (fun _ _ _ h => h) (Or.inl ⟨by rfl, ?_⟩) (by assumption) ?_
          rotate_left 1
          · (intro W hSw; go_simp <;> with_reducible rfl)
          try simp only [Act.put, List.setIfInBounds_toArray, List.set_cons_zero, List.set_cons_succ]
          refine wpAnyH_take (i := 8) (oi := ⟨some 41, _, _, _, _, _⟩) (v := ?_) rfl (by kernel_rfl) (by kernel_rfl) (by kernel_rfl) (fun _ _ _ h => h) (Or.inl ⟨by rfl, ?_⟩) (by assumption) ?_
          rotate_left 1
          · (intro W hSw; go_simp <;> with_reducible rfl)
          try simp only [Act.put, List.setIfInBounds_toArray, List.set_cons_zero, List.set_cons_succ]
          refine wpAnyH_take (i := 9) (oi := ⟨some 42, _, _, _, _, _⟩) (v := ?_) rfl (by kernel_rfl) (by kernel_rfl) (by kernel_rfl) (fun _ _ _ h => h) (Or.inl ⟨by rfl, ?_⟩) (by assumption) ?_
          rotate_left 1
          · (intro W hSw; go_simp <;> with_reducible rfl)
          try simp only [Act.put, List.setIfInBounds_toArray, List.set_cons_zero, List.set_cons_succ]
          refine wpAnyH_ready (rs := [10]) (by kernel_rfl) (by simp) ?_
          refine AllReadyH.cons rfl (fun K hK => ?_) AllReadyH.nil
          rw [if_pos (by rfl)]
          refine wp_store_row 34 (.tmp 10) (.tmp 41) rfl z (r4.bk ((His.go H s (movO s (O1 k))).length : Int)) rfl rfl 34 _ hT4.goes.book (sz34 r4 _) rfl (one34 r4 _) ?_
          refine hK.out _ _ (fun j v hv => (hP4.below.cell hgw).trans (hr j v hv)) (fun hHeld3 => ?_)
          clear hHeld2 hK K
          try simp only [Act.put, List.setIfInBounds_toArray, List.set_cons_zero, List.set_cons_succ]
          refine wpAnyH_done (by kernel_rfl) ?_ _
          refine NoPanic.normal ?_
          clear hHeld3 hr0 hbk hr hT4 hbd
          go_wp2
          go_roundw
          case rel => exact ⟨k + 1, L4, _, _, r4, by go_num, by omega, by omega, go_most _ _ _ _ hHk, since_go hsi, hP4⟩
          case measure => simp [intOf]; omega
        · obtain rfl : k = 25 := by omega
          go_wp2
          go_meet
          exact ⟨L, s, H, r, hHk, hsi, hG⟩
      · obtain rfl : k = n1 := by omega
        go_wp2
        go_meet
        exact ⟨L, s, H, r, by omega, hsi, hG⟩
  case rest =>
    clear hG0
    obtain ⟨L, s2, H2, r2, hH2, hsi2, hG⟩ := hcut
    have hcl := clone_any hG.pair.ara hG.pair.inv (by omega)
    go_wp2_with fail
    refine hcl.mono ?_
    rintro e w4 ⟨p2, L2, rfl, hA4, hb4, hf4⟩
    have hbo := (hG.on hb4).book
    obtain ⟨hG1, hG2, hX⟩ := hG.cloned hA4 hb4 hf4
    obtain ⟨z2, ez2⟩ : ∃ z, z = w4.heap.size := ⟨_, rfl⟩
    obtain ⟨W4, eW4⟩ : ∃ W, W = (w4.alloc (.cells #[.slice none 0 0, .slice none 0 0, .int .i64 0] 34)).setRow w4.heap.size (r2.bk (H2.length : Int)) := ⟨_, rfl⟩
    rw [← eW4] at hG1
    rw [← eW4, ← ez2] at hG2
    rw [← ez2] at hX
    clear hG hA4 hb4 hf4 hcl
    go_upto_block 2 with (first
      | (refine wpList_load_row rfl 34 (.tmp 10) rfl z rfl 34 (r2.bk (H2.length : Int)) (0, 0) _ hbo Try.underlying34 rfl (sz34 r2 _) ?_)
      | (refine wpList_store_row rfl 34 (.tmp 13) (.tmp 45) rfl w4.heap.size (r2.bk (H2.length : Int)) rfl rfl 34 #[.slice none 0 0, .slice none 0 0, .int .i64 0] (heap_alloc_new w4 _) (sz34 r2 _) rfl (one34 r2 _) ?_))
    rw [← eW4, ← ez2]
    clear eW4 ez2 hbo
    go_cut [14] (fun _ wr => ∃ (L : Lim) (s : Sta) (H : His) (r : Rim), H.length ≤ 50 ∧ Since (sta0 (cellsN x)) s H ∧ Goes w wr p z (r.bk (H.length : Int)) L s H r ∧ Goes w wr p2 z2 (r2.bk (H2.length : Int)) L2 s2 H2 r2 ∧ Cross p z L r p2 z2 L2 r2)
    case first =>
      go_wp2_with fail
      go_loopw [14] (fun i wr => ∃ (k : Nat) (L : Lim) (s : Sta) (H : His) (r : Rim), i = .int .i64 k ∧ k ≤ n2 ∧ k ≤ 25 ∧ H.length ≤ 25 + k ∧ Since (sta0 (cellsN x)) s H ∧ Goes w wr p z (r.bk (H.length : Int)) L s H r ∧ Goes w wr p2 z2 (r2.bk (H2.length : Int)) L2 s2 H2 r2 ∧ Cross p z L r p2 z2 L2 r2) (fun i _ => 25 - (intOf i).toNat)
      case atStart => exact ⟨0, L, s2, H2, r2, rfl, Nat.zero_le _, Nat.zero_le _, hH2, hsi2, hG1, hG2, hX⟩
      case round =>
        clear hG1 hG2 hX
        obtain ⟨k, L, s, H, r, rfl, hkn, hk25, hHk, hsi, hG, hF, hX⟩ := hrel
        by_cases hk1 : k < n2
        · by_cases hk2 : k < 25
          · have hk3 : (k : Int) < 25 := by omega
            obtain ⟨g, o, rfl, hgw, hr⟩ := ho2.at_ k hk1
            have hr0 : wr.drew.rangeAt g (o + k * 8) (O2 k).cs := fun j v hv => (hG.below.cell hgw).trans (hr j v hv)
            have hbd : Below wr.heap.size wr wr.drew := (Below.refl _ wr).drew
            have hrun := run_any (o := O2 k) (hG.on hbd).pair (Nat.le_trans hHk (by omega))
            have hbk : Blk wr.drew z 34 (r.bk (H.length : Int)) := (hG.on hbd).book
            have hgz : g ≠ z := by have := hG.farz; omega
            go_wp2_with fail
            refine wp_region_noPanic ?_
            refine wp_region_held_drew (S := fun W => W.rangeAt g (o + k * 8) (O2 k).cs) (by kernel_rfl) hr0 (fun hHeld => ?_)
            refine wpAnyH_take (i := 0) (oi := ⟨some 57, _, _, _, _, _⟩) (v := ?_) rfl (by kernel_rfl) (by kernel_rfl) (by kernel_rfl) (fun _ _ _ h => h) (Or.inl ⟨by rfl, ?_⟩) (by assumption) ?_
            rotate_left 1
            · (intro W hSw; go_simp <;> with_reducible rfl)
            try simp only [Act.put, List.setIfInBounds_toArray, List.set_cons_zero, List.set_cons_succ]
            refine wpAnyH_take (i := 2) (oi := ⟨some 59, _, _, _, _, _⟩) (v := ?_) rfl (by kernel_rfl) (by kernel_rfl) (by kernel_rfl) (fun _ _ _ h => h) (Or.inl ⟨by rfl, ?_⟩) (by assumption) ?_
            rotate_left 1
            · (intro W hSw; go_simp <;> with_reducible rfl)
            try simp only [Act.put, List.setIfInBounds_toArray, List.set_cons_zero, List.set_cons_succ]
            refine wpAnyH_take (i := 3) (oi := ⟨some 60, _, _, _, _, _⟩) (v := ?_) rfl (by kernel_rfl) (by kernel_rfl) (by kernel_rfl) (fun _ _ _ h => h) (Or.inl ⟨by rfl, ?_⟩) (by assumption) ?_
            rotate_left 1
            · (intro W hSw; go_simp <;> with_reducible rfl)
            try simp only [Act.put, List.setIfInBounds_toArray, List.set_cons_zero, List.set_cons_succ]
            refine wpAnyH_take (i := 4) (oi := ⟨some 61, _, _, _, _, _⟩) (v := ?_) rfl (by kernel_rfl) (by kernel_rfl) (by kernel_rfl) (fun _ _ _ h => h) (Or.inl ⟨by rfl, ?_⟩) (by assumption) ?_
            rotate_left 1
            · (intro W hSw; go_simp <;> with_reducible rfl)
            try simp only [Act.put, List.setIfInBounds_toArray, List.set_cons_zero, List.set_cons_succ]
            refine wpAnyH_take (i := 5) (oi := ⟨some 62, _, _, _, _, _⟩) (v := .agg (O2 k).cs.toArray) rfl (by kernel_rfl) (by kernel_rfl) (by kernel_rfl) (fun _ _ _ h => h) (yieldsIf_load_mid (by rfl) 38 (.tmp 61) rfl g (o + k * 8) rfl (O2 k).cs _ (fun W hW => hW) Try.underlying38 rfl (load38 (O2 k))) (by assumption) ?_
            try simp only [Act.put, List.setIfInBounds_toArray, List.set_cons_zero, List.set_cons_succ]
            refine wpAnyH_ready (rs := [1]) (by kernel_rfl) (by simp) ?_
            refine AllReadyH.cons rfl (fun K hK => ?_) AllReadyH.nil
            rw [if_pos (by rfl)]
            refine wp_load_row 34 (.tmp 10) rfl z rfl 34 (r.bk (H.length : Int)) (0, 0) _ hbk Try.underlying34 rfl (sz34 r _) ?_
            refine hK.out _ _ hr0 (fun hHeld1 => ?_)
            clear hHeld hK K
            try simp only [Act.put, List.setIfInBounds_toArray, List.set_cons_zero, List.set_cons_succ]
            refine wpAnyH_ready (rs := [6]) (by kernel_rfl) (by simp) ?_
            refine AllReadyH.cons rfl (fun K hK => ?_) AllReadyH.nil
            go_simp
            refine hrun.mono ?_
            rintro e w4 hRan
            obtain ⟨r4, L4, rfl, hT4⟩ := hG.ran hbd hRan (can_mov hG.pair.inv)
            have hP4 := hT4.goes.put (r4.bk ((His.go H s (movO s (O2 k))).length : Int))
            obtain ⟨hF4, hX4⟩ := hT4.cross hG hF hX hbd (r4.bk ((His.go H s (movO s (O2 k))).length : Int))
            refine hK.out _ _ (fun j v hv => (hT4.goes.below.cell hgw).trans (hr j v hv)) (fun hHeld2 => ?_)
            clear hHeld1 hK K hRan hrun
            try simp only [Act.put, List.setIfInBounds_toArray, List.set_cons_zero, List.set_cons_succ]
            refine wpAnyH_take (i := 7) (oi := ⟨some 56, _, _, _, _, _⟩) (v := ?_) rfl (by kernel_rfl) (by kernel_rfl) (by kernel_rfl) (fun _ _ _ h => h) (Or.inl ⟨by rfl, ?_⟩) (by assumption) ?_
            rotate_left 1
            · (intro W hSw; go_simp <;> with_reducible rfl)
            try simp only [Act.put, List.setIfInBounds_toArray, List.set_cons_zero, List.set_cons_succ]
            refine wpAnyH_take (i := 8) (oi := ⟨some 64, _, _, _, _, _⟩) (v := ?_) rfl (by kernel_rfl) (by kernel_rfl) (by kernel_rfl) (fun _ _ _ h => h) (Or.inl ⟨by rfl, ?_⟩) (by assumption) ?_
            rotate_left 1
            · (intro W hSw; go_simp <;> with_reducible rfl)
            try simp only [Act.put, List.setIfInBounds_toArray, List.set_cons_zero, List.set_cons_succ]
            refine wpAnyH_take (i := 9) (oi := ⟨some 65, _, _, _, _, _⟩) (v := ?_) rfl (by kernel_rfl) (by kernel_rfl) (by kernel_rfl) (fun _ _ _ h => h) (Or.inl ⟨by rfl, ?_⟩) (by assumption) ?_
            rotate_left 1
            · (intro W hSw; go_simp <;> with_reducible rfl)
            try simp only [Act.put, List.setIfInBounds_toArray, List.set_cons_zero, List.set_cons_succ]
            refine wpAnyH_ready (rs := [10]) (by kernel_rfl) (by simp) ?_
            refine AllReadyH.cons rfl (fun K hK => ?_) AllReadyH.nil
            rw [if_pos (by rfl)]
            refine wp_store_row 34 (.tmp 10) (.tmp 64) rfl z (r4.bk ((His.go H s (movO s (O2 k))).length : Int)) rfl rfl 34 _ hT4.goes.book (sz34 r4 _) rfl (one34 r4 _) ?_
            refine hK.out _ _ (fun j v hv => (hP4.below.cell hgw).trans (hr j v hv)) (fun hHeld3 => ?_)
            clear hHeld2 hK K
            try simp only [Act.put, List.setIfInBounds_toArray, List.set_cons_zero, List.set_cons_succ]
            refine wpAnyH_done (by kernel_rfl) ?_ _
            refine NoPanic.normal ?_
            clear hHeld3 hr0 hbk hr hT4 hbd
            go_wp2
            go_roundw
            case rel => exact ⟨k + 1, L4, _, _, r4, by go_num, by omega, by omega, go_most _ _ _ _ hHk, since_go hsi, hP4, hF4, hX4⟩
            case measure => simp [intOf]; omega
          · obtain rfl : k = 25 := by omega
            go_wp2
            go_meet
            exact ⟨L, s, H, r, hHk, hsi, hG, hF, hX⟩
        · obtain rfl : k = n2 := by omega
          go_wp2
          go_meet
          exact ⟨L, s, H, r, by omega, hsi, hG, hF, hX⟩
    case rest =>
      clear hG1 hG2 hX L
      obtain ⟨L1, s1, H1, r1, hH1, hsi1, hG1, hG2, hX⟩ := hcut
      go_upto_block 4 with fail
      go_cut [15] (fun _ wr => ∃ (L2 : Lim) (s : Sta) (H : His) (r : Rim), H.length ≤ 50 ∧ Since (sta0 (cellsN x)) s H ∧ Goes w wr p2 z2 (r.bk (H.length : Int)) L2 s H r ∧ Goes w wr p z (r1.bk (H1.length : Int)) L1 s1 H1 r1 ∧ Cross p2 z2 L2 r p z L1 r1)
      case first =>
        go_wp2_with fail
        go_loopw [15] (fun i wr => ∃ (k : Nat) (L2 : Lim) (s : Sta) (H : His) (r : Rim), i = .int .i64 k ∧ k ≤ n3 ∧ k ≤ 25 ∧ H.length ≤ 25 + k ∧ Since (sta0 (cellsN x)) s H ∧ Goes w wr p2 z2 (r.bk (H.length : Int)) L2 s H r ∧ Goes w wr p z (r1.bk (H1.length : Int)) L1 s1 H1 r1 ∧ Cross p2 z2 L2 r p z L1 r1) (fun i _ => 25 - (intOf i).toNat)
        case atStart => exact ⟨0, L2, s2, H2, r2, rfl, Nat.zero_le _, Nat.zero_le _, hH2, hsi2, hG2, hG1, hX.symm⟩
        case round =>
          clear hG1 hG2 hX
          obtain ⟨k, L2, s, H, r, rfl, hkn, hk25, hHk, hsi, hG, hF, hX⟩ := hrel
          by_cases hk1 : k < n3
          · by_cases hk2 : k < 25
            · have hk3 : (k : Int) < 25 := by omega
              obtain ⟨g, o, rfl, hgw, hr⟩ := ho3.at_ k hk1
              have hr0 : wr.drew.rangeAt g (o + k * 8) (O3 k).cs := fun j v hv => (hG.below.cell hgw).trans (hr j v hv)
              have hbd : Below wr.heap.size wr wr.drew := (Below.refl _ wr).drew
              have hrun := run_any (o := O3 k) (hG.on hbd).pair (Nat.le_trans hHk (by omega))
              have hbk : Blk wr.drew z2 34 (r.bk (H.length : Int)) := (hG.on hbd).book
              have hgz : g ≠ z2 := by have := hG.farz; omega
              go_wp2_with fail
              refine wp_region_noPanic ?_
              refine wp_region_held_drew (S := fun W => W.rangeAt g (o + k * 8) (O3 k).cs) (by kernel_rfl) hr0 (fun hHeld => ?_)
              refine wpAnyH_take (i := 0) (oi := ⟨some 77, _, _, _, _, _⟩) (v := ?_) rfl (by kernel_rfl) (by kernel_rfl) (by kernel_rfl) (fun _ _ _ h => h) (Or.inl ⟨by rfl, ?_⟩) (by assumption) ?_
              rotate_left 1
              · (intro W hSw; go_simp <;> with_reducible rfl)
              try simp only [Act.put, List.setIfInBounds_toArray, List.set_cons_zero, List.set_cons_succ]
              refine wpAnyH_take (i := 2) (oi := ⟨some 79, _, _, _, _, _⟩) (v := ?_) rfl (by kernel_rfl) (by kernel_rfl) (by kernel_rfl) (fun _ _ _ h => h) (Or.inl ⟨by rfl, ?_⟩) (by assumption) ?_
              rotate_left 1
              · (intro W hSw; go_simp <;> with_reducible rfl)
              try simp only [Act.put, List.setIfInBounds_toArray, List.set_cons_zero, List.set_cons_succ]
              refine wpAnyH_take (i := 3) (oi := ⟨some 80, _, _, _, _, _⟩) (v := ?_) rfl (by kernel_rfl) (by kernel_rfl) (by kernel_rfl) (fun _ _ _ h => h) (Or.inl ⟨by rfl, ?_⟩) (by assumption) ?_
              rotate_left 1
              · (intro W hSw; go_simp <;> with_reducible rfl)
              try simp only [Act.put, List.setIfInBounds_toArray, List.set_cons_zero, List.set_cons_succ]
              refine wpAnyH_take (i := 4) (oi := ⟨some 81, _, _, _, _, _⟩) (v := ?_) rfl (by kernel_rfl) (by kernel_rfl) (by kernel_rfl) (fun _ _ _ h => h) (Or.inl ⟨by rfl, ?_⟩) (by assumption) ?_
              rotate_left 1
              · (intro W hSw; go_simp <;> with_reducible rfl)
              try simp only [Act.put, List.setIfInBounds_toArray, List.set_cons_zero, List.set_cons_succ]
              refine wpAnyH_take (i := 5) (oi := ⟨some 82, _, _, _, _, _⟩) (v := .agg (O3 k).cs.toArray) rfl (by kernel_rfl) (by kernel_rfl) (by kernel_rfl) (fun _ _ _ h => h) (yieldsIf_load_mid (by rfl) 38 (.tmp 81) rfl g (o + k * 8) rfl (O3 k).cs _ (fun W hW => hW) Try.underlying38 rfl (load38 (O3 k))) (by assumption) ?_
              try simp only [Act.put, List.setIfInBounds_toArray, List.set_cons_zero, List.set_cons_succ]
              refine wpAnyH_ready (rs := [1]) (by kernel_rfl) (by simp) ?_
              refine AllReadyH.cons rfl (fun K hK => ?_) AllReadyH.nil
              rw [if_pos (by rfl)]
              refine wp_load_row 34 (.tmp 13) rfl z2 rfl 34 (r.bk (H.length : Int)) (0, 0) _ hbk Try.underlying34 rfl (sz34 r _) ?_
              refine hK.out _ _ hr0 (fun hHeld1 => ?_)
              clear hHeld hK K
              try simp only [Act.put, List.setIfInBounds_toArray, List.set_cons_zero, List.set_cons_succ]
              refine wpAnyH_ready (rs := [6]) (by kernel_rfl) (by simp) ?_
              refine AllReadyH.cons rfl (fun K hK => ?_) AllReadyH.nil
              go_simp
              refine hrun.mono ?_
              rintro e w4 hRan
              obtain ⟨r4, L4, rfl, hT4⟩ := hG.ran hbd hRan (can_mov hG.pair.inv)
              have hP4 := hT4.goes.put (r4.bk ((His.go H s (movO s (O3 k))).length : Int))
              obtain ⟨hF4, hX4⟩ := hT4.cross hG hF hX hbd (r4.bk ((His.go H s (movO s (O3 k))).length : Int))
              refine hK.out _ _ (fun j v hv => (hT4.goes.below.cell hgw).trans (hr j v hv)) (fun hHeld2 => ?_)
              clear hHeld1 hK K hRan hrun
              try simp only [Act.put, List.setIfInBounds_toArray, List.set_cons_zero, List.set_cons_succ]
              refine wpAnyH_take (i := 7) (oi := ⟨some 76, _, _, _, _, _⟩) (v := ?_) rfl (by kernel_rfl) (by kernel_rfl) (by kernel_rfl) (fun _ _ _ h => h) (Or.inl ⟨by rfl, ?_⟩) (by assumption) ?_
              rotate_left 1
              · (intro W hSw; go_simp <;> with_reducible rfl)
              try simp only [Act.put, List.setIfInBounds_toArray, List.set_cons_zero, List.set_cons_succ]
              refine wpAnyH_take (i := 8) (oi := ⟨some 84, _, _, _, _, _⟩) (v := ?_) rfl (by kernel_rfl) (by kernel_rfl) (by kernel_rfl) (fun _ _ _ h => h) (Or.inl ⟨by rfl, ?_⟩) (by assumption) ?_
              rotate_left 1
              · (intro W hSw; go_simp <;> with_reducible rfl)
              try simp only [Act.put, List.setIfInBounds_toArray, List.set_cons_zero, List.set_cons_succ]
              refine wpAnyH_take (i := 9) (oi := ⟨some 85, _, _, _, _, _⟩) (v := ?_) rfl (by kernel_rfl) (by kernel_rfl) (by kernel_rfl) (fun _ _ _ h => h) (Or.inl ⟨by rfl, ?_⟩) (by assumption) ?_
              rotate_left 1
              · (intro W hSw; go_simp <;> with_reducible rfl)
              try simp only [Act.put, List.setIfInBounds_toArray, List.set_cons_zero, List.set_cons_succ]
              refine wpAnyH_ready (rs := [10]) (by kernel_rfl) (by simp) ?_
              refine AllReadyH.cons rfl (fun K hK => ?_) AllReadyH.nil
              rw [if_pos (by rfl)]
              refine wp_store_row 34 (.tmp 13) (.tmp 84) rfl z2 (r4.bk ((His.go H s (movO s (O3 k))).length : Int)) rfl rfl 34 _ hT4.goes.book (sz34 r4 _) rfl (one34 r4 _) ?_
              refine hK.out _ _ (fun j v hv => (hP4.below.cell hgw).trans (hr j v hv)) (fun hHeld3 => ?_)
              clear hHeld2 hK K
              try simp only [Act.put, List.setIfInBounds_toArray, List.set_cons_zero, List.set_cons_succ]
              refine wpAnyH_done (by kernel_rfl) ?_ _
              refine NoPanic.normal ?_
              clear hHeld3 hr0 hbk hr hT4 hbd
              go_wp2
              go_roundw
              case rel => exact ⟨k + 1, L4, _, _, r4, by go_num, by omega, by omega, go_most _ _ _ _ hHk, since_go hsi, hP4, hF4, hX4⟩
              case measure => simp [intOf]; omega
            · obtain rfl : k = 25 := by omega
              go_wp2
              go_meet
              exact ⟨L2, s, H, r, hHk, hsi, hG, hF, hX⟩
          · obtain rfl : k = n3 := by omega
            go_wp2
            go_meet
            exact ⟨L2, s, H, r, by omega, hsi, hG, hF, hX⟩
      case rest =>
        clear hG1 hG2 hX L2
        obtain ⟨L2, s, H, r, hH, hsi, hGb, hGa, hX⟩ := hcut
        have q0 := hGa.cell0
        have q1 := hGa.cell1
        have q2 := hGa.cell2
        have ht := hGa.told
        go_wp2_with fail
        refine ht.mono ?_
        rintro e w5 ⟨rfl, hb5⟩
        have hGa5 := hGa.on hb5
        have hGb5 := hGb.on hb5
        clear q0 q1 q2 ht hGa hGb
        have q0 := hGb5.cell0
        have q1 := hGb5.cell1
        have q2 := hGb5.cell2
        have ht := hGb5.told
        go_wp2_with fail
        refine ht.mono ?_
        rintro e w6 ⟨rfl, hb6⟩
        have hGa6 := hGa5.on hb6
        have hGb6 := hGb5.on hb6
        clear q0 q1 q2 ht hGa5 hGb5
        have hu := hGa6.undo0 (by omega) hsi1
        go_wp2_with fail
        refine hu.mono ?_
        rintro e w7 ⟨rfl, hd7⟩
        have hGb7 := hGb6.beside hGa6 hX.symm hd7
        clear hu hd7 hGa6 hGb6
        have q0 := hGb7.cell0
        have q1 := hGb7.cell1
        have q2 := hGb7.cell2
        have ht := hGb7.told
        go_wp2_with fail
        refine ht.mono ?_
        rintro e w8 ⟨rfl, hb8⟩
        have hGb8 := hGb7.on hb8
        clear q0 q1 q2 ht hGb7
        have hu := hGb8.undo0 (by omega) hsi
        go_wp2_with fail
        refine hu.mono ?_
        rintro e w9 ⟨rfl, L9, hA9, k9, hm9⟩
        have hbw := hGb8.below
        have hb9 := hbw.trans (k9.under _ hbw.size hGb8.far)
        clear hu hGb8 k9 hm9
        have hn := rnew_any x w9
        go_wp2_with fail
        refine hn.mono ?_
        rintro e w10 ⟨r10, rfl, hR10, hb10, _⟩
        have ht := told_new (hA9.below hb10) hR10 (inv0 _ (cellsN_le x))
        clear hn
        go_wp2_with fail
        refine ht.mono ?_
        rintro e w11 ⟨rfl, hb11⟩
        go_wp2
        go_ret
        exact ⟨rfl, hb9.trans ((hb10.trans (hb11.mono hb10.size)).mono hb9.size)⟩
end Go.Proofs.Ytdilmapcjmdabaa
