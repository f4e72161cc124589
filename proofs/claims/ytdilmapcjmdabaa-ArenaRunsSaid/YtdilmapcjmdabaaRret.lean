/- The reference's Retire. Conditions: none. -/
import Derived.Test.YtdilmapcjmdabaaRbase
namespace Go.Proofs.Ytdilmapcjmdabaa
open Go.ChangeShapes Go.WideShapes Go.RowKit
section
variable {w w' : World} {r : Rim} {s : Sta}
set_option maxRecDepth 100000 in
set_option maxHeartbeats 1000000 in
theorem rretire_any {k : Int} (h : Ref w r s) (hI : Inv s) : Calls Try.prog 31 #[.agg r.cs, .int .i64 k] w fun e w' => ∃ r', e = .returned (.tuple #[.agg r'.cs, .bool (retM s k).isSome]) ∧ NewR (s.go (retM s k)) w r' w' := by
  obtain ⟨M, eM⟩ : ∃ M, M = retM s k := ⟨_, rfl⟩
  rw [← eM]
  have hn := h.lenC
  have hm := h.lenR
  have hle := hI.le
  have hlR := hI.lenR
  obtain ⟨z, ez⟩ : ∃ z, z = w.heap.size := ⟨_, rfl⟩
  obtain ⟨W0, eW0⟩ : ∃ W, W = (w.alloc (.cells r.cs 31)).alloc (.cells #[.slice none 0 0, .slice none 0 0] 31) := ⟨_, rfl⟩
  have hb0 : Below w.heap.size w W0 := by rw [eW0]; exact ((Below.refl _ w).alloc (Nat.le_refl _) _).alloc (by simp) _
  have g0 : Two W0 z (z + 1) r := by rw [eW0, ez]; exact two_new r w
  have h0 := h.below hb0
  have hz0 : z + 1 < W0.heap.size := g0.res.lt
  go_enter Try.func31, Try.ntmps31
  go_wp2_with (refine wpList_load_row rfl 31 (.tmp 2) rfl z (by rw [ez]; rfl) 31 r.cs (0, 0) _ (eW0 ▸ g0.var) Try.underlying31 rfl (szcs r) ?_)
  rw [← eW0, ← ez]
  rw [← ez] at hb0
  clear eW0
  have EZ := Lib.hid ez
  clear ez
  refine (copy_any h0 (by omega) (by omega)).mono ?_
  rintro e w1 ⟨r1, rfl, en, em, h1, hb1, hN1⟩
  have hn1 : r1.n ≤ 6 := by omega
  have hm1 : r1.m ≤ 6 := by omega
  clear en em
  have g1 := g0.below hb1
  have h2 := h1.row_off (b := z) (fun g hg => by have := hN1 g hg; omega) r1.cs
  have hb2 : Below z w (w1.setRow z r1.cs) := below_setRow (hb0.trans (hb1.mono (by omega))) (Nat.le_refl _) _
  obtain ⟨w2, ew2⟩ : ∃ W, W = w1.setRow z r1.cs := ⟨_, rfl⟩
  have g2 : Two w2 z (z + 1) r1 := by rw [ew2]; exact two_store g1
  rw [← ew2] at h2 hb2
  have hth := there_any r1 k w2
  cases hc : s.cel k with
  | none =>
    have e : retM s k = none := by unfold retM; rw [hc]
    obtain rfl := eM.trans e
    clear e eM
    rw [rhas_none h2 hc] at hth
    go_wp2_with (first
      | (refine wpList_store_row rfl 31 (.tmp 2) (.tmp 7) rfl z r1.cs rfl rfl 31 r.cs g1.var (szcs r1) rfl (one31 r1) ?_; rw [← ew2]; clear ew2 g1 h1)
      | (refine wpList_load_row rfl 31 (.tmp 2) rfl z rfl 31 r1.cs (0, 0) _ g2.var Try.underlying31 rfl (szcs r1) ?_))
    refine hth.mono ?_
    rintro e w3 ⟨rfl, hb3⟩
    have g3 := g2.below hb3
    have h3 := h2.below hb3
    have hb23 := hb2.trans (hb3.mono (Nat.le_of_lt g2.var.lt))
    have v0 : w3.cell? ⟨z, 0, none⟩ = some (.slice r1.Ac r1.n r1.cc) := g3.var.cell 0
    have v1 : w3.cell? ⟨z, 1, none⟩ = some (.slice r1.Ar r1.m r1.cr) := g3.var.cell 1
    have y0 : w3.cell? ⟨z + 1, 0, none⟩ = some (.slice none 0 0) := g3.res.cell 0
    have y1 : w3.cell? ⟨z + 1, 1, none⟩ = some (.slice none 0 0) := g3.res.cell 1
    have y2 := g3.res.free 0
    have y3 := g3.res.free 1
    go_wp2
    have hq : Blk ((w3.setCell ⟨z + 1, 0, none⟩ (.slice r1.Ac r1.n r1.cc)).setCell ⟨z + 1, 1, none⟩ (.slice r1.Ar r1.m r1.cr)) (z + 1) 31 (r1 : Rim).cs := blk_set (blk_set g3.res 0 (.slice r1.Ac r1.n r1.cc)) 1 (.slice r1.Ar r1.m r1.cr)
    have hk : Kept (fun g => g = z + 1) w3 ((w3.setCell ⟨z + 1, 0, none⟩ (.slice r1.Ac r1.n r1.cc)).setCell ⟨z + 1, 1, none⟩ (.slice r1.Ar r1.m r1.cr)) := (kept_cell w3 ⟨z + 1, 0, none⟩ (.slice r1.Ac r1.n r1.cc)).next (kept_cell (w3.setCell ⟨z + 1, 0, none⟩ (.slice r1.Ac r1.n r1.cc)) ⟨z + 1, 1, none⟩ (.slice r1.Ar r1.m r1.cr)) (fun g e => .inl e)
    have hE : Ref ((w3.setCell ⟨z + 1, 0, none⟩ (.slice r1.Ac r1.n r1.cc)).setCell ⟨z + 1, 1, none⟩ (.slice r1.Ar r1.m r1.cr)) r1 _ := h3.kept hk (fun g hg e => by have := hN1 g hg; have e : g = z + 1 := e; omega)
    have hbE : Below z w ((w3.setCell ⟨z + 1, 0, none⟩ (.slice r1.Ac r1.n r1.cc)).setCell ⟨z + 1, 1, none⟩ (.slice r1.Ar r1.m r1.cr)) := (hb23.setCell (p := ⟨z + 1, 0, none⟩) (by show z ≤ z + 1; omega) _).setCell (p := ⟨z + 1, 1, none⟩) (by show z ≤ z + 1; omega) _
    refine bodyPost_ret (res_two (p := 4) (q := 5) (by kernel_rfl) _ _ (z + 1) (r1 : Rim).cs _ rfl rfl (loadcs hq)) rfl ?_
    have ez := EZ.out
    exact ⟨r1, rfl, hE, by rw [← ez]; exact hbE, fun g hg => by have := hN1 g hg; omega⟩
  | some c =>
    rw [rhas_some h2 hc] at hth
    obtain ⟨j, gC, hk, hj, hjn, hjl, eA, ⟨cs0, hgC⟩, hr, hw⟩ := ref_at h2 hc
    obtain ⟨Ac1, cc1, n1, Ar1, cr1, mm1⟩ := r1
    dsimp only at eA hjl hn1 hm1
    subst eA
    have c0 : w2.cell? ⟨z, 0, none⟩ = some (.slice (some ⟨gC, 0, none⟩) n1 cc1) := g2.var.cell 0
    have cS : w2.cell? ⟨gC, j * 10, none⟩ = some (.int .i64 c.s) := hr 0 _ rfl
    have hwj : IntKind.i64.wrap (j : Int) = (j : Int) := by rw [IntKind.wrap_i64]; omega
    have hgz : gC ≠ z := by have := hN1 gC (.inl rfl); omega
    have hgq : gC ≠ z + 1 := by have := hN1 gC (.inl rfl); omega
    by_cases s0 : c.s = 1
    · have t0 : (c.s != 1) = false := by simpa using s0
      have e : retM s k = some ⟨k, c, { c with s := 2 }⟩ := by unfold retM; rw [hc]; exact if_pos s0
      obtain rfl := eM.trans e
      clear e eM
      go_wp2_with (first
        | (refine wpList_store_row rfl 31 (.tmp 2) (.tmp 7) rfl z (⟨some ⟨gC, 0, none⟩, cc1, n1, Ar1, cr1, mm1⟩ : Rim).cs rfl rfl 31 r.cs g1.var (szcs (⟨some ⟨gC, 0, none⟩, cc1, n1, Ar1, cr1, mm1⟩ : Rim)) rfl (one31 (⟨some ⟨gC, 0, none⟩, cc1, n1, Ar1, cr1, mm1⟩ : Rim)) ?_; rw [← ew2]; clear ew2 g1 h1)
        | (refine wpList_load_row rfl 31 (.tmp 2) rfl z rfl 31 (⟨some ⟨gC, 0, none⟩, cc1, n1, Ar1, cr1, mm1⟩ : Rim).cs (0, 0) _ g2.var Try.underlying31 rfl (szcs (⟨some ⟨gC, 0, none⟩, cc1, n1, Ar1, cr1, mm1⟩ : Rim)) ?_))
      refine hth.mono ?_
      rintro e w3 ⟨rfl, hb3⟩
      have g3 := g2.below hb3
      have h3 := h2.below hb3
      have hb23 := hb2.trans (hb3.mono (Nat.le_of_lt g2.var.lt))
      have c03 := (hb3.cell (World.block_lt_of_cell? _ _ c0)).trans c0
      have cS3 := (hb3.cell (World.block_lt_of_cell? _ _ cS)).trans cS
      have fS3 : w3.frozen? ⟨gC, j * 10, none⟩ = false := (hb3.frozen hgC.lt).trans (hw 0 (by omega)).2
      have y0 : w3.cell? ⟨z + 1, 0, none⟩ = some (.slice none 0 0) := g3.res.cell 0
      have y1 : w3.cell? ⟨z + 1, 1, none⟩ = some (.slice none 0 0) := g3.res.cell 1
      have y2 := g3.res.free 0
      have y3 := g3.res.free 1
      have v1 : w3.cell? ⟨z, 1, none⟩ = some (.slice Ar1 mm1 cr1) := g3.var.cell 1
      have hzg : z ≠ gC := hgz.symm
      have hqg : z + 1 ≠ gC := hgq.symm
      have HX := Lib.hid (And.intro g3 (And.intro h3 hb23))
      clear g3 h3 hb23 g2 h2 hb2 hb3 hr hw hgC
      go_wp2
      obtain ⟨g3, h3, hb23⟩ := HX.out
      have k7 := kept_cell w3 ⟨gC, j * 10, none⟩ (.int .i64 2)
      have k8 := kept_cell (w3.setCell ⟨gC, j * 10, none⟩ (.int .i64 2)) ⟨z + 1, 0, none⟩ (.slice (some ⟨gC, 0, none⟩) n1 cc1)
      have k9 := kept_cell ((w3.setCell ⟨gC, j * 10, none⟩ (.int .i64 2)).setCell ⟨z + 1, 0, none⟩ (.slice (some ⟨gC, 0, none⟩) n1 cc1)) ⟨z + 1, 1, none⟩ (.slice Ar1 mm1 cr1)
      have k89 := k8.next k9 (fun g e => .inl e)
      have oc7 : (w3.setCell ⟨gC, j * 10, none⟩ (.int .i64 2)).ownsRow 0 45 10 (.slice (some ⟨gC, 0, none⟩) n1 cc1) n1 (flatC (s.C.set j { c with s := 2 })) := own_part (o := 0) (vs := [.int .i64 2]) h3.cells rfl hj (by simp) rfl
      have or7 : Sees (w3.setCell ⟨gC, j * 10, none⟩ (.int .i64 2)) 1 Ar1 mm1 cr1 (ints s.R) := h3.row.kept k7 (fun g hg e => by subst e; exact h3.apart _ rfl hg)
      have hnR := fun g hg => hN1 g (.inr hg)
      have hnC := hN1 gC (.inl rfl)
      have hE : Ref _ (⟨some ⟨gC, 0, none⟩, cc1, n1, Ar1, cr1, mm1⟩ : Rim) ⟨s.C.set j { c with s := 2 }, s.R⟩ :=
        ⟨own_kept oc7 k89 (fun g hg e => by have e2 : gC = g := (by simpa [lies] using hg); have e : g = z + 1 := e; omega), or7.kept k89 (fun g hg e => by have := hnR g hg; have e : g = z + 1 := e; omega), h3.apart⟩
      have hq := blk_set (blk_set (blk_far g3.res hqg (j * 10) (.int .i64 2)) 0 (.slice (some ⟨gC, 0, none⟩) n1 cc1)) 1 (.slice Ar1 mm1 cr1)
      refine bodyPost_ret (res_two (p := 4) (q := 5) (by kernel_rfl) _ _ (z + 1) (⟨some ⟨gC, 0, none⟩, cc1, n1, Ar1, cr1, mm1⟩ : Rim).cs _ rfl rfl (loadcs hq)) rfl ?_
      have ez := EZ.out
      refine ⟨⟨some ⟨gC, 0, none⟩, cc1, n1, Ar1, cr1, mm1⟩, rfl, ?_, ?_, ?_⟩
      · have e5 : s.go (some ⟨k, c, { c with s := 2 }⟩) = ⟨s.C.set j { c with s := 2 }, s.R⟩ := by
          unfold Sta.go Sta.turn row1
          simp only [hjn]
          rw [if_neg (by simp [s0]), if_neg (by simp)]
        rw [e5]
        exact hE
      · rw [← ez]
        exact (hb23.trans (k7.under z (by have := hb23.size; have := g3.var.lt; omega) (fun k e => by have e : k = gC := e; omega))).trans (k89.under z (by have := g3.var.lt; simp [World.setCell]; omega) (fun g e => by have e : g = z + 1 := e; omega))
      · intro g e
        have := hN1 g e
        omega
    · have t0 : (c.s != 1) = true := by simpa using s0
      have e : retM s k = none := by unfold retM; rw [hc]; exact if_neg s0
      obtain rfl := eM.trans e
      clear e eM
      go_wp2_with (first
        | (refine wpList_store_row rfl 31 (.tmp 2) (.tmp 7) rfl z (⟨some ⟨gC, 0, none⟩, cc1, n1, Ar1, cr1, mm1⟩ : Rim).cs rfl rfl 31 r.cs g1.var (szcs (⟨some ⟨gC, 0, none⟩, cc1, n1, Ar1, cr1, mm1⟩ : Rim)) rfl (one31 (⟨some ⟨gC, 0, none⟩, cc1, n1, Ar1, cr1, mm1⟩ : Rim)) ?_; rw [← ew2]; clear ew2 g1 h1)
        | (refine wpList_load_row rfl 31 (.tmp 2) rfl z rfl 31 (⟨some ⟨gC, 0, none⟩, cc1, n1, Ar1, cr1, mm1⟩ : Rim).cs (0, 0) _ g2.var Try.underlying31 rfl (szcs (⟨some ⟨gC, 0, none⟩, cc1, n1, Ar1, cr1, mm1⟩ : Rim)) ?_))
      refine hth.mono ?_
      rintro e w3 ⟨rfl, hb3⟩
      have g3 := g2.below hb3
      have h3 := h2.below hb3
      have hb23 := hb2.trans (hb3.mono (Nat.le_of_lt g2.var.lt))
      have c03 := (hb3.cell (World.block_lt_of_cell? _ _ c0)).trans c0
      have cS3 := (hb3.cell (World.block_lt_of_cell? _ _ cS)).trans cS
      have v0 : w3.cell? ⟨z, 0, none⟩ = some (.slice (some ⟨gC, 0, none⟩) n1 cc1) := g3.var.cell 0
      have v1 : w3.cell? ⟨z, 1, none⟩ = some (.slice Ar1 mm1 cr1) := g3.var.cell 1
      have y0 : w3.cell? ⟨z + 1, 0, none⟩ = some (.slice none 0 0) := g3.res.cell 0
      have y1 : w3.cell? ⟨z + 1, 1, none⟩ = some (.slice none 0 0) := g3.res.cell 1
      have y2 := g3.res.free 0
      have y3 := g3.res.free 1
      go_wp2
      have hq : Blk ((w3.setCell ⟨z + 1, 0, none⟩ (.slice (some ⟨gC, 0, none⟩) n1 cc1)).setCell ⟨z + 1, 1, none⟩ (.slice Ar1 mm1 cr1)) (z + 1) 31 (⟨some ⟨gC, 0, none⟩, cc1, n1, Ar1, cr1, mm1⟩ : Rim).cs := blk_set (blk_set g3.res 0 (.slice (some ⟨gC, 0, none⟩) n1 cc1)) 1 (.slice Ar1 mm1 cr1)
      have hk : Kept (fun g => g = z + 1) w3 ((w3.setCell ⟨z + 1, 0, none⟩ (.slice (some ⟨gC, 0, none⟩) n1 cc1)).setCell ⟨z + 1, 1, none⟩ (.slice Ar1 mm1 cr1)) := (kept_cell w3 ⟨z + 1, 0, none⟩ (.slice (some ⟨gC, 0, none⟩) n1 cc1)).next (kept_cell (w3.setCell ⟨z + 1, 0, none⟩ (.slice (some ⟨gC, 0, none⟩) n1 cc1)) ⟨z + 1, 1, none⟩ (.slice Ar1 mm1 cr1)) (fun g e => .inl e)
      have hE : Ref ((w3.setCell ⟨z + 1, 0, none⟩ (.slice (some ⟨gC, 0, none⟩) n1 cc1)).setCell ⟨z + 1, 1, none⟩ (.slice Ar1 mm1 cr1)) ⟨some ⟨gC, 0, none⟩, cc1, n1, Ar1, cr1, mm1⟩ _ := h3.kept hk (fun g hg e => by have := hN1 g hg; have e : g = z + 1 := e; omega)
      have hbE : Below z w ((w3.setCell ⟨z + 1, 0, none⟩ (.slice (some ⟨gC, 0, none⟩) n1 cc1)).setCell ⟨z + 1, 1, none⟩ (.slice Ar1 mm1 cr1)) := (hb23.setCell (p := ⟨z + 1, 0, none⟩) (by show z ≤ z + 1; omega) _).setCell (p := ⟨z + 1, 1, none⟩) (by show z ≤ z + 1; omega) _
      refine bodyPost_ret (res_two (p := 4) (q := 5) (by kernel_rfl) _ _ (z + 1) (⟨some ⟨gC, 0, none⟩, cc1, n1, Ar1, cr1, mm1⟩ : Rim).cs _ rfl rfl (loadcs hq)) rfl ?_
      have ez := EZ.out
      exact ⟨⟨some ⟨gC, 0, none⟩, cc1, n1, Ar1, cr1, mm1⟩, rfl, hE, by rw [← ez]; exact hbE, fun g hg => by have := hN1 g hg; omega⟩
end
end Go.Proofs.Ytdilmapcjmdabaa
