/- The reference's Free. Conditions: none. -/
import Derived.Test.YtdilmapcjmdabaaRbase
namespace Go.Proofs.Ytdilmapcjmdabaa
open Go.ChangeShapes Go.WideShapes Go.RowKit
section
variable {w w' : World} {r : Rim} {s : Sta}
set_option maxRecDepth 100000 in
set_option maxHeartbeats 1000000 in
theorem rfree_any {k : Int} (h : Ref w r s) (hI : Inv s) : Calls Try.prog 30 #[.agg r.cs, .int .i64 k] w fun e w' => ∃ r', e = .returned (.tuple #[.agg r'.cs, .bool (freeM s k).isSome]) ∧ NewR (s.go (freeM s k)) w r' w' := by
  obtain ⟨M, eM⟩ : ∃ M, M = freeM s k := ⟨_, rfl⟩
  rw [← eM]
  have hn := h.lenC
  have hm := h.lenR
  have hle := hI.le
  have hlR := hI.lenR
  obtain ⟨z, ez⟩ : ∃ z, z = w.heap.size := ⟨_, rfl⟩
  obtain ⟨W0, eW0⟩ : ∃ W, W = (w.alloc (.cells r.cs 31)).alloc (.cells #[.slice none 0 0, .slice none 0 0] 31) := ⟨_, rfl⟩
  have hb0 : Below w.heap.size w W0 := by rw [eW0]; exact ((Below.refl _ w).alloc (Nat.le_refl _) _).alloc (by simp) _
  have g0 : Two W0 z (z + 1) r := by rw [eW0, ez]; exact two_new r w
  have h0 := h.below hb0
  have hz0 : z + 1 < W0.heap.size := g0.res.lt
  go_enter Try.func30, Try.ntmps30
  go_wp2_with (refine wpList_load_row rfl 31 (.tmp 2) rfl z (by rw [ez]; rfl) 31 r.cs (0, 0) _ (eW0 ▸ g0.var) Try.underlying31 rfl (szcs r) ?_)
  rw [← eW0, ← ez]
  rw [← ez] at hb0
  clear eW0
  have EZ := Lib.hid ez
  clear ez
  refine (copy_any h0 (by omega) (by omega)).mono ?_
  rintro e w1 ⟨r1, rfl, en, em, h1, hb1, hN1⟩
  have hn1 : r1.n ≤ 6 := by omega
  have hm1 : r1.m ≤ 6 := by omega
  clear en em
  have g1 := g0.below hb1
  have h2 := h1.row_off (b := z) (fun g hg => by have := hN1 g hg; omega) r1.cs
  have hb2 : Below z w (w1.setRow z r1.cs) := below_setRow (hb0.trans (hb1.mono (by omega))) (Nat.le_refl _) _
  obtain ⟨w2, ew2⟩ : ∃ W, W = w1.setRow z r1.cs := ⟨_, rfl⟩
  have g2 : Two w2 z (z + 1) r1 := by rw [ew2]; exact two_store g1
  rw [← ew2] at h2 hb2
  have hth := there_any r1 k w2
  cases hc : s.cel k with
  | none =>
    have e : freeM s k = none := by unfold freeM; rw [hc]
    obtain rfl := eM.trans e
    clear e eM
    rw [rhas_none h2 hc] at hth
    go_wp2_with (first
      | (refine wpList_store_row rfl 31 (.tmp 2) (.tmp 8) rfl z r1.cs rfl rfl 31 r.cs g1.var (szcs r1) rfl (one31 r1) ?_; rw [← ew2]; clear ew2 g1 h1)
      | (refine wpList_load_row rfl 31 (.tmp 2) rfl z rfl 31 r1.cs (0, 0) _ g2.var Try.underlying31 rfl (szcs r1) ?_))
    refine hth.mono ?_
    rintro e w3 ⟨rfl, hb3⟩
    have g3 := g2.below hb3
    have h3 := h2.below hb3
    have hb23 := hb2.trans (hb3.mono (Nat.le_of_lt g2.var.lt))
    have v0 : w3.cell? ⟨z, 0, none⟩ = some (.slice r1.Ac r1.n r1.cc) := g3.var.cell 0
    have v1 : w3.cell? ⟨z, 1, none⟩ = some (.slice r1.Ar r1.m r1.cr) := g3.var.cell 1
    have y0 : w3.cell? ⟨z + 1, 0, none⟩ = some (.slice none 0 0) := g3.res.cell 0
    have y1 : w3.cell? ⟨z + 1, 1, none⟩ = some (.slice none 0 0) := g3.res.cell 1
    have y2 := g3.res.free 0
    have y3 := g3.res.free 1
    go_wp2
    have hq : Blk ((w3.setCell ⟨z + 1, 0, none⟩ (.slice r1.Ac r1.n r1.cc)).setCell ⟨z + 1, 1, none⟩ (.slice r1.Ar r1.m r1.cr)) (z + 1) 31 (r1 : Rim).cs := blk_set (blk_set g3.res 0 (.slice r1.Ac r1.n r1.cc)) 1 (.slice r1.Ar r1.m r1.cr)
    have hk : Kept (fun g => g = z + 1) w3 ((w3.setCell ⟨z + 1, 0, none⟩ (.slice r1.Ac r1.n r1.cc)).setCell ⟨z + 1, 1, none⟩ (.slice r1.Ar r1.m r1.cr)) := (kept_cell w3 ⟨z + 1, 0, none⟩ (.slice r1.Ac r1.n r1.cc)).next (kept_cell (w3.setCell ⟨z + 1, 0, none⟩ (.slice r1.Ac r1.n r1.cc)) ⟨z + 1, 1, none⟩ (.slice r1.Ar r1.m r1.cr)) (fun g e => .inl e)
    have hE : Ref ((w3.setCell ⟨z + 1, 0, none⟩ (.slice r1.Ac r1.n r1.cc)).setCell ⟨z + 1, 1, none⟩ (.slice r1.Ar r1.m r1.cr)) r1 _ := h3.kept hk (fun g hg e => by have := hN1 g hg; have e : g = z + 1 := e; omega)
    have hbE : Below z w ((w3.setCell ⟨z + 1, 0, none⟩ (.slice r1.Ac r1.n r1.cc)).setCell ⟨z + 1, 1, none⟩ (.slice r1.Ar r1.m r1.cr)) := (hb23.setCell (p := ⟨z + 1, 0, none⟩) (by show z ≤ z + 1; omega) _).setCell (p := ⟨z + 1, 1, none⟩) (by show z ≤ z + 1; omega) _
    refine bodyPost_ret (res_two (p := 4) (q := 5) (by kernel_rfl) _ _ (z + 1) (r1 : Rim).cs _ rfl rfl (loadcs hq)) rfl ?_
    have ez := EZ.out
    exact ⟨r1, rfl, hE, by rw [← ez]; exact hbE, fun g hg => by have := hN1 g hg; omega⟩
  | some c =>
    rw [rhas_some h2 hc] at hth
    obtain ⟨j, gC, hk, hj, hjn, hjl, eA, ⟨cs0, hgC⟩, hr, hw⟩ := ref_at h2 hc
    obtain ⟨Ac1, cc1, n1, Ar1, cr1, mm1⟩ := r1
    dsimp only at eA hjl hn1 hm1
    subst eA
    have c0 : w2.cell? ⟨z, 0, none⟩ = some (.slice (some ⟨gC, 0, none⟩) n1 cc1) := g2.var.cell 0
    have cS : w2.cell? ⟨gC, j * 10, none⟩ = some (.int .i64 c.s) := hr 0 _ rfl
    have hwj : IntKind.i64.wrap (j : Int) = (j : Int) := by rw [IntKind.wrap_i64]; omega
    have hgz : gC ≠ z := by have := hN1 gC (.inl rfl); omega
    have hgq : gC ≠ z + 1 := by have := hN1 gC (.inl rfl); omega
    by_cases s0 : c.s = 0
    · have t0 : (c.s == 0) = true := by simpa using s0
      have e : freeM s k = none := by unfold freeM; rw [hc]; exact if_pos s0
      obtain rfl := eM.trans e
      clear e eM
      go_wp2_with (first
        | (refine wpList_store_row rfl 31 (.tmp 2) (.tmp 8) rfl z (⟨some ⟨gC, 0, none⟩, cc1, n1, Ar1, cr1, mm1⟩ : Rim).cs rfl rfl 31 r.cs g1.var (szcs (⟨some ⟨gC, 0, none⟩, cc1, n1, Ar1, cr1, mm1⟩ : Rim)) rfl (one31 (⟨some ⟨gC, 0, none⟩, cc1, n1, Ar1, cr1, mm1⟩ : Rim)) ?_; rw [← ew2]; clear ew2 g1 h1)
        | (refine wpList_load_row rfl 31 (.tmp 2) rfl z rfl 31 (⟨some ⟨gC, 0, none⟩, cc1, n1, Ar1, cr1, mm1⟩ : Rim).cs (0, 0) _ g2.var Try.underlying31 rfl (szcs (⟨some ⟨gC, 0, none⟩, cc1, n1, Ar1, cr1, mm1⟩ : Rim)) ?_))
      refine hth.mono ?_
      rintro e w3 ⟨rfl, hb3⟩
      have g3 := g2.below hb3
      have h3 := h2.below hb3
      have hb23 := hb2.trans (hb3.mono (Nat.le_of_lt g2.var.lt))
      have c03 := (hb3.cell (World.block_lt_of_cell? _ _ c0)).trans c0
      have cS3 := (hb3.cell (World.block_lt_of_cell? _ _ cS)).trans cS
      have v0 : w3.cell? ⟨z, 0, none⟩ = some (.slice (some ⟨gC, 0, none⟩) n1 cc1) := g3.var.cell 0
      have v1 : w3.cell? ⟨z, 1, none⟩ = some (.slice Ar1 mm1 cr1) := g3.var.cell 1
      have y0 : w3.cell? ⟨z + 1, 0, none⟩ = some (.slice none 0 0) := g3.res.cell 0
      have y1 : w3.cell? ⟨z + 1, 1, none⟩ = some (.slice none 0 0) := g3.res.cell 1
      have y2 := g3.res.free 0
      have y3 := g3.res.free 1
      go_wp2
      have hq : Blk ((w3.setCell ⟨z + 1, 0, none⟩ (.slice (some ⟨gC, 0, none⟩) n1 cc1)).setCell ⟨z + 1, 1, none⟩ (.slice Ar1 mm1 cr1)) (z + 1) 31 (⟨some ⟨gC, 0, none⟩, cc1, n1, Ar1, cr1, mm1⟩ : Rim).cs := blk_set (blk_set g3.res 0 (.slice (some ⟨gC, 0, none⟩) n1 cc1)) 1 (.slice Ar1 mm1 cr1)
      have hk : Kept (fun g => g = z + 1) w3 ((w3.setCell ⟨z + 1, 0, none⟩ (.slice (some ⟨gC, 0, none⟩) n1 cc1)).setCell ⟨z + 1, 1, none⟩ (.slice Ar1 mm1 cr1)) := (kept_cell w3 ⟨z + 1, 0, none⟩ (.slice (some ⟨gC, 0, none⟩) n1 cc1)).next (kept_cell (w3.setCell ⟨z + 1, 0, none⟩ (.slice (some ⟨gC, 0, none⟩) n1 cc1)) ⟨z + 1, 1, none⟩ (.slice Ar1 mm1 cr1)) (fun g e => .inl e)
      have hE : Ref ((w3.setCell ⟨z + 1, 0, none⟩ (.slice (some ⟨gC, 0, none⟩) n1 cc1)).setCell ⟨z + 1, 1, none⟩ (.slice Ar1 mm1 cr1)) ⟨some ⟨gC, 0, none⟩, cc1, n1, Ar1, cr1, mm1⟩ _ := h3.kept hk (fun g hg e => by have := hN1 g hg; have e : g = z + 1 := e; omega)
      have hbE : Below z w ((w3.setCell ⟨z + 1, 0, none⟩ (.slice (some ⟨gC, 0, none⟩) n1 cc1)).setCell ⟨z + 1, 1, none⟩ (.slice Ar1 mm1 cr1)) := (hb23.setCell (p := ⟨z + 1, 0, none⟩) (by show z ≤ z + 1; omega) _).setCell (p := ⟨z + 1, 1, none⟩) (by show z ≤ z + 1; omega) _
      refine bodyPost_ret (res_two (p := 4) (q := 5) (by kernel_rfl) _ _ (z + 1) (⟨some ⟨gC, 0, none⟩, cc1, n1, Ar1, cr1, mm1⟩ : Rim).cs _ rfl rfl (loadcs hq)) rfl ?_
      have ez := EZ.out
      exact ⟨⟨some ⟨gC, 0, none⟩, cc1, n1, Ar1, cr1, mm1⟩, rfl, hE, by rw [← ez]; exact hbE, fun g hg => by have := hN1 g hg; omega⟩
    · have t0 : (c.s == 0) = false := by simpa using s0
      have e : freeM s k = some ⟨k, c, ⟨0, c.g, 0, 0, noW, noW⟩⟩ := by unfold freeM; rw [hc]; exact if_neg s0
      obtain rfl := eM.trans e
      clear e eM
      go_wp2_with (first
        | (refine wpList_store_row rfl 31 (.tmp 2) (.tmp 8) rfl z (⟨some ⟨gC, 0, none⟩, cc1, n1, Ar1, cr1, mm1⟩ : Rim).cs rfl rfl 31 r.cs g1.var (szcs (⟨some ⟨gC, 0, none⟩, cc1, n1, Ar1, cr1, mm1⟩ : Rim)) rfl (one31 (⟨some ⟨gC, 0, none⟩, cc1, n1, Ar1, cr1, mm1⟩ : Rim)) ?_; rw [← ew2]; clear ew2 g1 h1)
        | (refine wpList_load_row rfl 31 (.tmp 2) rfl z rfl 31 (⟨some ⟨gC, 0, none⟩, cc1, n1, Ar1, cr1, mm1⟩ : Rim).cs (0, 0) _ g2.var Try.underlying31 rfl (szcs (⟨some ⟨gC, 0, none⟩, cc1, n1, Ar1, cr1, mm1⟩ : Rim)) ?_))
      refine hth.mono ?_
      rintro e w3 ⟨rfl, hb3⟩
      have g3 := g2.below hb3
      have h3 := h2.below hb3
      have hb23 := hb2.trans (hb3.mono (Nat.le_of_lt g2.var.lt))
      have c03 := (hb3.cell (World.block_lt_of_cell? _ _ c0)).trans c0
      have cS3 := (hb3.cell (World.block_lt_of_cell? _ _ cS)).trans cS
      go_wp2_with fail
      have hgC3 : Blk w3 gC 45 cs0 := hgC.on hb3
      have cG3 : w3.drew.cell? ⟨gC, j * 10 + 1, none⟩ = some (.int .i64 c.g) := (hb3.cell (p := ⟨gC, j * 10 + 1, none⟩) hgC.lt).trans (hr 1 _ rfl)
      have hf0 : w3.drew.cell? ⟨z, 0, none⟩ = some (.slice (some ⟨gC, 0, none⟩) n1 cc1) := c03
      have hth3 : w3.drew.there gC (j * 10) 10 := fun i hi => by
        obtain ⟨q1, q2⟩ := hw i hi
        exact ⟨by rw [show w3.drew.cell? ⟨gC, j * 10 + i, none⟩ = w2.cell? ⟨gC, j * 10 + i, none⟩ from hb3.cell hgC.lt]; exact q1, by rw [show w3.drew.frozen? ⟨gC, j * 10 + i, none⟩ = w2.frozen? ⟨gC, j * 10 + i, none⟩ from hb3.frozen hgC.lt]; exact q2⟩
      refine wp_region_noPanic ?_
      refine wp_region_held_drew (S := fun W => W.cell? ⟨z, 0, none⟩ = some (.slice (some ⟨gC, 0, none⟩) n1 cc1)) (by kernel_rfl) hf0 (fun hHeld => ?_)
      refine wpAnyH_take (i := 0) (oi := ⟨some 24, _, _, _, _, _⟩) (v := ?_) rfl (by kernel_rfl) (by kernel_rfl) (by kernel_rfl) (fun _ _ _ h => h) (Or.inl ⟨by rfl, ?_⟩) (by assumption) ?_
      rotate_left 1
      · (intro W hSw; go_simp <;> with_reducible rfl)
      try simp only [Act.put, List.setIfInBounds_toArray, List.set_cons_zero, List.set_cons_succ]
      refine wpAnyH_take (i := 1) (oi := ⟨some 25, _, _, _, _, _⟩) (v := ?_) rfl (by kernel_rfl) (by kernel_rfl) (by kernel_rfl) (fun _ _ _ h => h) (Or.inl ⟨by rfl, ?_⟩) (by assumption) ?_
      rotate_left 1
      · (intro W hSw; go_simp <;> with_reducible rfl)
      try simp only [Act.put, List.setIfInBounds_toArray, List.set_cons_zero, List.set_cons_succ]
      refine wpAnyH_take (i := 2) (oi := ⟨some 26, _, _, _, _, _⟩) (v := ?_) rfl (by kernel_rfl) (by kernel_rfl) (by kernel_rfl) (fun _ _ _ h => h) (Or.inl ⟨by rfl, ?_⟩) (by assumption) ?_
      rotate_left 1
      · (intro W hSw; go_simp <;> with_reducible rfl)
      try simp only [Act.put, List.setIfInBounds_toArray, List.set_cons_zero, List.set_cons_succ]
      refine wpAnyH_take (i := 3) (oi := ⟨some 27, _, _, _, _, _⟩) (v := ?_) rfl (by kernel_rfl) (by kernel_rfl) (by kernel_rfl) (fun _ _ _ h => h) (Or.inl ⟨by rfl, ?_⟩) (by assumption) ?_
      rotate_left 1
      · (intro W hSw; go_simp <;> with_reducible rfl)
      try simp only [Act.put, List.setIfInBounds_toArray, List.set_cons_zero, List.set_cons_succ]
      refine wpAnyH_take (i := 4) (oi := ⟨some 28, _, _, _, _, _⟩) (v := ?_) rfl (by kernel_rfl) (by kernel_rfl) (by kernel_rfl) (fun _ _ _ h => h) (Or.inl ⟨by rfl, ?_⟩) (by assumption) ?_
      rotate_left 1
      · (intro W hSw; go_simp <;> with_reducible rfl)
      try simp only [Act.put, List.setIfInBounds_toArray, List.set_cons_zero, List.set_cons_succ]
      refine wpAnyH_take (i := 5) (oi := ⟨some 29, _, _, _, _, _⟩) (v := ?_) rfl (by kernel_rfl) (by kernel_rfl) (by kernel_rfl) (fun _ _ _ h => h) (Or.inl ⟨by rfl, ?_⟩) (by assumption) ?_
      rotate_left 1
      · (intro W hSw; go_simp <;> with_reducible rfl)
      try simp only [Act.put, List.setIfInBounds_toArray, List.set_cons_zero, List.set_cons_succ]
      refine wpAnyH_take (i := 6) (oi := ⟨some 30, _, _, _, _, _⟩) (v := ?_) rfl (by kernel_rfl) (by kernel_rfl) (by kernel_rfl) (fun _ _ _ h => h) (Or.inl ⟨by rfl, ?_⟩) (by assumption) ?_
      rotate_left 1
      · (intro W hSw; go_simp <;> with_reducible rfl)
      try simp only [Act.put, List.setIfInBounds_toArray, List.set_cons_zero, List.set_cons_succ]
      refine wpAnyH_take (i := 7) (oi := ⟨some 31, _, _, _, _, _⟩) (v := ?_) rfl (by kernel_rfl) (by kernel_rfl) (by kernel_rfl) (fun _ _ _ h => h) (Or.inl ⟨by rfl, ?_⟩) (by assumption) ?_
      rotate_left 1
      · (intro W hSw; go_simp <;> with_reducible rfl)
      try simp only [Act.put, List.setIfInBounds_toArray, List.set_cons_zero, List.set_cons_succ]
      refine wpAnyH_take (i := 8) (oi := ⟨some 32, _, _, _, _, _⟩) (v := ?_) rfl (by kernel_rfl) (by kernel_rfl) (by kernel_rfl) (fun _ _ _ h => h) (Or.inl ⟨by rfl, ?_⟩) (by assumption) ?_
      rotate_left 1
      · (intro W hSw; go_simp <;> with_reducible rfl)
      try simp only [Act.put, List.setIfInBounds_toArray, List.set_cons_zero, List.set_cons_succ]
      refine wpAnyH_take (i := 9) (oi := ⟨some 33, _, _, _, _, _⟩) (v := ?_) rfl (by kernel_rfl) (by kernel_rfl) (by kernel_rfl) (fun _ _ _ h => h) (Or.inl ⟨by rfl, ?_⟩) (by assumption) ?_
      rotate_left 1
      · (intro W hSw; go_simp <;> with_reducible rfl)
      try simp only [Act.put, List.setIfInBounds_toArray, List.set_cons_zero, List.set_cons_succ]
      refine wpAnyH_ready (rs := [10]) (by kernel_rfl) (by simp) ?_
      refine AllReadyH.cons rfl (fun K hK => ?_) AllReadyH.nil
      go_simp
      refine hK.out _ _ hf0 (fun hHeld1 => ?_)
      clear hK K hHeld1
      try simp only [Act.put, List.setIfInBounds_toArray, List.set_cons_zero, List.set_cons_succ]
      refine wpAnyH_take (i := 11) (oi := ⟨some 35, _, _, _, _, _⟩) (v := .agg (Cel.cs ⟨0, c.g, 0, 0, noW, noW⟩).toArray) rfl (by kernel_rfl) (by kernel_rfl) (by kernel_rfl) (fun _ _ _ h => h) (Or.inl ⟨by rfl, fun W hSw => by kernel_rfl⟩) (by assumption) ?_
      try simp only [Act.put, List.setIfInBounds_toArray, List.set_cons_zero, List.set_cons_succ]
      refine wpAnyH_take (i := 12) (oi := ⟨some 36, _, _, _, _, _⟩) (v := ?_) rfl (by kernel_rfl) (by kernel_rfl) (by kernel_rfl) (fun _ _ _ h => h) (Or.inl ⟨by rfl, ?_⟩) (by assumption) ?_
      rotate_left 1
      · (intro W hSw; go_simp <;> with_reducible rfl)
      try simp only [Act.put, List.setIfInBounds_toArray, List.set_cons_zero, List.set_cons_succ]
      refine wpAnyH_ready (rs := [13]) (by kernel_rfl) (by simp) ?_
      refine AllReadyH.cons rfl (fun K hK => ?_) AllReadyH.nil
      rw [if_pos (by rfl)]
      refine wp_store_mid 45 (.tmp 36) (.tmp 35) rfl gC (j * 10) (Cel.cs ⟨0, c.g, 0, 0, noW, noW⟩).toArray rfl rfl hth3 size45 (Cel.onea _) ?_
      refine hK.out _ _ ((World.cell?_setCells_out gC _ _ _ _ (fun e => absurd e.symm hgz)).trans hf0) (fun hHeld1 => ?_)
      clear hK K
      refine wpAnyH_done (by kernel_rfl) ?_ _
      refine NoPanic.normal ?_
      obtain ⟨w4, ew4⟩ : ∃ W, W = w3.drew.setCells gC (j * 10) (Cel.cs ⟨0, c.g, 0, 0, noW, noW⟩).toArray.toList := ⟨_, rfl⟩
      have k34 : Kept (fun k => k = gC) w3.drew w4 := by rw [ew4]; exact kept_cells _ _ _ _
      have h3d : Ref w3.drew ⟨some ⟨gC, 0, none⟩, cc1, n1, Ar1, cr1, mm1⟩ s := h3.kept (kept_below (fun _ => False) (Below.refl _ w3).drew) (fun _ _ e => e)
      have var4 : Blk w4 z 31 (⟨some ⟨gC, 0, none⟩, cc1, n1, Ar1, cr1, mm1⟩ : Rim).cs := Blk.kept (w := w3.drew) g3.var k34 (fun e => hgz e.symm)
      have res4 : Blk w4 (z + 1) 31 #[.slice none 0 0, .slice none 0 0] := Blk.kept (w := w3.drew) g3.res k34 (fun e => hgq e.symm)
      have cells4 : w4.ownsRow 0 45 10 (.slice (some ⟨gC, 0, none⟩) n1 cc1) n1 (flatC (s.C.set j ⟨0, c.g, 0, 0, noW, noW⟩)) := by
        rw [ew4]
        exact own_set h3d.cells rfl (List.getElem?_eq_some_iff.1 hj).1
      have row4 : Sees w4 1 Ar1 mm1 cr1 (ints s.R) := h3d.row.kept k34 (fun g hg e => by subst e; exact h3d.apart g rfl hg)
      have hb4 : Below z w w4 := by
        refine hb23.drew.trans (k34.under z ?_ (fun k e => ?_))
        · exact Nat.le_of_lt (g3.var.lt)
        · have := hN1 k (.inl (by rw [e]; rfl))
          omega
      have hnC := hN1 gC (.inl rfl)
      have hnR := fun g hg => hN1 g (.inr hg)
      show Exit.then _ _ _ _ (w3.drew.setCells gC (j * 10) (Cel.cs ⟨0, c.g, 0, 0, noW, noW⟩).toArray.toList)
      rw [← ew4]
      clear ew4 k34 h3d g3 h3 hb23 c03 cS3 cG3 hgC3 hf0 hth3 hHeld1 g2 h2 hb2 c0 cS hr hw hgC g0 h0 hb0 hb1 hth
      obtain ⟨i3, hi3, ha0, ha1, ha2⟩ := info_parts info3
      have z1 : w4.cell? ⟨z, 1, none⟩ = some (.slice Ar1 mm1 cr1) := var4.cell 1
      have rowo : (w4.alloc (.cells #[.int .i64 k] 3)).ownsRow w4.heap.size 3 1 (.slice (some ⟨w4.heap.size, 0, none⟩) 1 1) 1 (ints [k]) := World.ownsRow_lit w4 #[.int .i64 k] 1 (Nat.le_refl _) (by unfold maxLen; omega) rfl
      have bel5 : Below w4.heap.size w4 (w4.alloc (.cells #[.int .i64 k] 3)) := (Below.refl _ _).alloc (Nat.le_refl _) _
      have z15 := (bel5.cell (World.block_lt_of_cell? _ _ z1)).trans z1
      have row5 := row4.below bel5
      go_wp2_with (at_builtin; refine wpList_app rfl _ _ 29 rfl w4.heap.size 3 i3 (.int .i64 0) 1 8 Try.underlying29 hi3 ha0 ha1 ha2 rfl (by decide) (some ⟨w4.heap.size, 0, none⟩) 1 1 (ints [k]) rfl rowo Ar1 mm1 cr1 (ints s.R) rfl row5 (flat_one (fun x => by simp [Value.oneCell']) _) (by unfold maxLen; omega) (by omega) (by simp) ?_; intro A6 c6 w6 ho6 hg6 hl6; obtain ⟨m6, em6⟩ : ∃ m, m = 1 + mm1 := ⟨_, rfl⟩; rw [← em6] at ho6 ⊢; clear em6; have bel6 := bel5.trans ((kept_grown hg6).under w4.heap.size (by simp) (fun k e => by injection e with e; exact Nat.le_of_eq e)); have var6 := var4.on bel6; have res6 := res4.on bel6; have q0 : w6.cell? ⟨z, 0, none⟩ = some (.slice (some ⟨gC, 0, none⟩) n1 cc1) := var6.cell 0; have q1 : w6.cell? ⟨z, 1, none⟩ = some (.slice Ar1 mm1 cr1) := var6.cell 1; have q2 := var6.free 1; have y0 : w6.cell? ⟨z + 1, 0, none⟩ = some (.slice none 0 0) := res6.cell 0; have y1 : w6.cell? ⟨z + 1, 1, none⟩ = some (.slice none 0 0) := res6.cell 1; have y2 := res6.free 0; have y3 := res6.free 1; have HX := Lib.hid (And.intro bel6 (And.intro res6 (And.intro ho6 hl6))); clear bel6 var6 res6 ho6 hl6 hg6 row5 rowo bel5 z15 z1)
      obtain ⟨bel6, res6, ho6, hl6⟩ := HX.out
      have k7 := kept_cell w6 ⟨z, 1, none⟩ (.slice A6 (m6) c6)
      have k8 := kept_cell (w6.setCell ⟨z, 1, none⟩ (.slice A6 (m6) c6)) ⟨z + 1, 0, none⟩ (.slice (some ⟨gC, 0, none⟩) n1 cc1)
      have k9 := kept_cell ((w6.setCell ⟨z, 1, none⟩ (.slice A6 (m6) c6)).setCell ⟨z + 1, 0, none⟩ (.slice (some ⟨gC, 0, none⟩) n1 cc1)) ⟨z + 1, 1, none⟩ (.slice A6 (m6) c6)
      have kk := (((kept_below (fun g => g = z ∨ g = z + 1) (Below.refl _ w6)).next k7 (fun g e => .inl (.inl e))).next k8 (fun g e => .inl (.inr e))).next k9 (fun g e => .inl (.inr e))
      have hz4 := var4.lt
      have hl : ∀ g, lies A6 g → z + 1 < g := fun g hg => by
        have hr4 := res4.lt
        rcases hl6 g hg with e | e
        · have e : w4.heap.size = g := by simpa [lies] using e
          omega
        · simp at e
          omega
      have ho6' := own_low ho6
      have hE : Ref _ (⟨some ⟨gC, 0, none⟩, cc1, n1, A6, c6, m6⟩ : Rim) ⟨s.C.set j ⟨0, c.g, 0, 0, noW, noW⟩, k :: s.R⟩ :=
        ⟨own_kept (own_below cells4 bel6) kk (fun g hg e => by have e2 : gC = g := (by simpa [lies] using hg); rcases e with e | e <;> omega),
         by rw [show ints (k :: s.R) = ints [k] ++ ints s.R by simp [ints]]; exact (own_sees ho6).kept kk (fun g hg e => by have := hl g hg; rcases e with e | e <;> omega),
         fun g e e2 => by obtain ⟨cs, hb⟩ := own_blk ho6' e2; exact own_off (own_below cells4 bel6) hb (by decide) e⟩
      have hq := blk_set (blk_set (blk_far res6 (by omega : z + 1 ≠ z) 1 (.slice A6 (m6) c6)) 0 (.slice (some ⟨gC, 0, none⟩) n1 cc1)) 1 (.slice A6 (m6) c6)
      refine bodyPost_ret (res_two (p := 4) (q := 5) (by kernel_rfl) _ _ (z + 1) (⟨some ⟨gC, 0, none⟩, cc1, n1, A6, c6, m6⟩ : Rim).cs _ rfl rfl (loadcs hq)) rfl ?_
      have ez := EZ.out
      refine ⟨⟨some ⟨gC, 0, none⟩, cc1, n1, A6, c6, m6⟩, rfl, ?_, ?_, ?_⟩
      · have e5 : s.go (some ⟨k, c, ⟨0, c.g, 0, 0, noW, noW⟩⟩) = ⟨s.C.set j ⟨0, c.g, 0, 0, noW, noW⟩, k :: s.R⟩ := by
          unfold Sta.go Sta.turn row1
          simp only [hjn]
          rw [if_neg (by simp [s0]), if_pos (by simp [s0])]
        rw [e5]
        exact hE
      · rw [← ez]
        exact (hb4.trans (bel6.mono (Nat.le_of_lt hz4))).trans (kk.under z (by have := bel6.size; omega) (fun g e => by rcases e with e | e <;> omega))
      · rintro g (e | e)
        · have e2 : gC = g := by simpa [lies] using e
          omega
        · have := hl g e
          omega
end
end Go.Proofs.Ytdilmapcjmdabaa
