/- The reference's Store. Conditions: none. -/
import Derived.Test.YtdilmapcjmdabaaRbase
namespace Go.Proofs.Ytdilmapcjmdabaa
open Go.ChangeShapes Go.WideShapes Go.RowKit
section
variable {w w' : World} {r : Rim} {s : Sta}
set_option maxRecDepth 100000 in
set_option maxHeartbeats 1000000 in
theorem rstore_none {k f : Int} {x : Wd} (h : Ref w r s) (hI : Inv s) (hcase : s.cel k = none ∨ f < 0 ∨ 1 < f) : Calls Try.prog 32 #[.agg r.cs, .int .i64 k, .int .i64 f, .agg x.cs.toArray] w fun e w' => ∃ r', e = .returned (.tuple #[.agg r'.cs, .bool false]) ∧ NewR s w r' w' := by
  have hn := h.lenC
  have hm := h.lenR
  have hle := hI.le
  have hlR := hI.lenR
  obtain ⟨z, ez⟩ : ∃ z, z = w.heap.size := ⟨_, rfl⟩
  obtain ⟨W0, eW0⟩ : ∃ W, W = ((w.alloc (.cells r.cs 31)).alloc (.cells x.cs.toArray 24)).alloc (.cells #[.slice none 0 0, .slice none 0 0] 31) := ⟨_, rfl⟩
  have hb0 : Below w.heap.size w W0 := by rw [eW0]; exact (((Below.refl _ w).alloc (Nat.le_refl _) _).alloc (by simp) _).alloc (by simp; omega) _
  have g0 : Two W0 z (z + 1 + 1) r := by rw [eW0, ez]; exact two_more r w _
  have x0 : Blk W0 (z + 1) 24 x.cs.toArray := by rw [eW0, ez]; exact (blk_new _ _ 24 _ (by simp)).on ((Below.refl _ _).alloc (Nat.le_refl _) _)
  have h0 := h.below hb0
  have hz0 : z + 1 + 1 < W0.heap.size := g0.res.lt
  go_enter Try.func32, Try.ntmps32
  go_wp2_with (refine wpList_load_row rfl 31 (.tmp 4) rfl z (by rw [ez]; rfl) 31 r.cs (0, 0) _ (eW0 ▸ g0.var) Try.underlying31 rfl (szcs r) ?_)
  rw [← eW0, ← ez]
  rw [← ez] at hb0
  clear eW0
  have EZ := Lib.hid ez
  clear ez
  refine (copy_any h0 (by omega) (by omega)).mono ?_
  rintro e w1 ⟨r1, rfl, en, em, h1, hb1, hN1⟩
  have hn1 : r1.n ≤ 6 := by omega
  have hm1 : r1.m ≤ 6 := by omega
  clear en em
  have g1 := g0.below hb1
  have h2 := h1.row_off (b := z) (fun g hg => by have := hN1 g hg; omega) r1.cs
  have hb2 : Below z w (w1.setRow z r1.cs) := below_setRow (hb0.trans (hb1.mono (by omega))) (Nat.le_refl _) _
  have x2 : Blk (w1.setRow z r1.cs) (z + 1) 24 x.cs.toArray := (setRow_other _ _ _ _ (by omega)).trans (x0.on hb1)
  obtain ⟨w2, ew2⟩ : ∃ W, W = w1.setRow z r1.cs := ⟨_, rfl⟩
  have g2 : Two w2 z (z + 1 + 1) r1 := by rw [ew2]; exact two_store g1
  rw [← ew2] at h2 hb2 x2
  have hth := there_any r1 k w2
  by_cases hc : s.cel k = none
  · rw [rhas_none h2 hc] at hth
    go_wp2_with (first
      | (refine wpList_store_row rfl 31 (.tmp 4) (.tmp 11) rfl z r1.cs rfl rfl 31 r.cs g1.var (szcs r1) rfl (one31 r1) ?_; rw [← ew2]; clear ew2 g1 h1)
      | (refine wpList_load_row rfl 31 (.tmp 4) rfl z rfl 31 r1.cs (0, 0) _ g2.var Try.underlying31 rfl (szcs r1) ?_))
    refine hth.mono ?_
    rintro e w3 ⟨rfl, hb3⟩
    have g3 := g2.below hb3
    have h3 := h2.below hb3
    have hb23 := hb2.trans (hb3.mono (Nat.le_of_lt g2.var.lt))
    have v0 : w3.cell? ⟨z, 0, none⟩ = some (.slice r1.Ac r1.n r1.cc) := g3.var.cell 0
    have v1 : w3.cell? ⟨z, 1, none⟩ = some (.slice r1.Ar r1.m r1.cr) := g3.var.cell 1
    have y0 : w3.cell? ⟨z + 1 + 1, 0, none⟩ = some (.slice none 0 0) := g3.res.cell 0
    have y1 : w3.cell? ⟨z + 1 + 1, 1, none⟩ = some (.slice none 0 0) := g3.res.cell 1
    have y2 := g3.res.free 0
    have y3 := g3.res.free 1
    go_wp2
    have hq : Blk ((w3.setCell ⟨z + 1 + 1, 0, none⟩ (.slice r1.Ac r1.n r1.cc)).setCell ⟨z + 1 + 1, 1, none⟩ (.slice r1.Ar r1.m r1.cr)) (z + 1 + 1) 31 (r1 : Rim).cs := blk_set (blk_set g3.res 0 (.slice r1.Ac r1.n r1.cc)) 1 (.slice r1.Ar r1.m r1.cr)
    have hk : Kept (fun g => g = z + 1 + 1) w3 ((w3.setCell ⟨z + 1 + 1, 0, none⟩ (.slice r1.Ac r1.n r1.cc)).setCell ⟨z + 1 + 1, 1, none⟩ (.slice r1.Ar r1.m r1.cr)) := (kept_cell w3 ⟨z + 1 + 1, 0, none⟩ (.slice r1.Ac r1.n r1.cc)).next (kept_cell (w3.setCell ⟨z + 1 + 1, 0, none⟩ (.slice r1.Ac r1.n r1.cc)) ⟨z + 1 + 1, 1, none⟩ (.slice r1.Ar r1.m r1.cr)) (fun g e => .inl e)
    have hE : Ref ((w3.setCell ⟨z + 1 + 1, 0, none⟩ (.slice r1.Ac r1.n r1.cc)).setCell ⟨z + 1 + 1, 1, none⟩ (.slice r1.Ar r1.m r1.cr)) r1 _ := h3.kept hk (fun g hg e => by have := hN1 g hg; have e : g = z + 1 + 1 := e; omega)
    have hbE : Below z w ((w3.setCell ⟨z + 1 + 1, 0, none⟩ (.slice r1.Ac r1.n r1.cc)).setCell ⟨z + 1 + 1, 1, none⟩ (.slice r1.Ar r1.m r1.cr)) := (hb23.setCell (p := ⟨z + 1 + 1, 0, none⟩) (by show z ≤ z + 1 + 1; omega) _).setCell (p := ⟨z + 1 + 1, 1, none⟩) (by show z ≤ z + 1 + 1; omega) _
    refine bodyPost_ret (res_two (p := 8) (q := 9) (by kernel_rfl) _ _ (z + 1 + 1) (r1 : Rim).cs _ rfl rfl (loadcs hq)) rfl ?_
    have ez := EZ.out
    exact ⟨r1, rfl, hE, by rw [← ez]; exact hbE, fun g hg => by have := hN1 g hg; omega⟩
  · obtain ⟨c, hc'⟩ := Option.ne_none_iff_exists'.1 hc
    rw [rhas_some h2 hc'] at hth
    by_cases f0 : f < 0
    · have t0 : decide (f < 0) = true := decide_eq_true f0
      go_wp2_with (first
        | (refine wpList_store_row rfl 31 (.tmp 4) (.tmp 11) rfl z r1.cs rfl rfl 31 r.cs g1.var (szcs r1) rfl (one31 r1) ?_; rw [← ew2]; clear ew2 g1 h1)
        | (refine wpList_load_row rfl 31 (.tmp 4) rfl z rfl 31 r1.cs (0, 0) _ g2.var Try.underlying31 rfl (szcs r1) ?_))
      refine hth.mono ?_
      rintro e w3 ⟨rfl, hb3⟩
      have g3 := g2.below hb3
      have h3 := h2.below hb3
      have hb23 := hb2.trans (hb3.mono (Nat.le_of_lt g2.var.lt))
      have v0 : w3.cell? ⟨z, 0, none⟩ = some (.slice r1.Ac r1.n r1.cc) := g3.var.cell 0
      have v1 : w3.cell? ⟨z, 1, none⟩ = some (.slice r1.Ar r1.m r1.cr) := g3.var.cell 1
      have y0 : w3.cell? ⟨z + 1 + 1, 0, none⟩ = some (.slice none 0 0) := g3.res.cell 0
      have y1 : w3.cell? ⟨z + 1 + 1, 1, none⟩ = some (.slice none 0 0) := g3.res.cell 1
      have y2 := g3.res.free 0
      have y3 := g3.res.free 1
      go_wp2
      have hq : Blk ((w3.setCell ⟨z + 1 + 1, 0, none⟩ (.slice r1.Ac r1.n r1.cc)).setCell ⟨z + 1 + 1, 1, none⟩ (.slice r1.Ar r1.m r1.cr)) (z + 1 + 1) 31 (r1 : Rim).cs := blk_set (blk_set g3.res 0 (.slice r1.Ac r1.n r1.cc)) 1 (.slice r1.Ar r1.m r1.cr)
      have hk : Kept (fun g => g = z + 1 + 1) w3 ((w3.setCell ⟨z + 1 + 1, 0, none⟩ (.slice r1.Ac r1.n r1.cc)).setCell ⟨z + 1 + 1, 1, none⟩ (.slice r1.Ar r1.m r1.cr)) := (kept_cell w3 ⟨z + 1 + 1, 0, none⟩ (.slice r1.Ac r1.n r1.cc)).next (kept_cell (w3.setCell ⟨z + 1 + 1, 0, none⟩ (.slice r1.Ac r1.n r1.cc)) ⟨z + 1 + 1, 1, none⟩ (.slice r1.Ar r1.m r1.cr)) (fun g e => .inl e)
      have hE : Ref ((w3.setCell ⟨z + 1 + 1, 0, none⟩ (.slice r1.Ac r1.n r1.cc)).setCell ⟨z + 1 + 1, 1, none⟩ (.slice r1.Ar r1.m r1.cr)) r1 _ := h3.kept hk (fun g hg e => by have := hN1 g hg; have e : g = z + 1 + 1 := e; omega)
      have hbE : Below z w ((w3.setCell ⟨z + 1 + 1, 0, none⟩ (.slice r1.Ac r1.n r1.cc)).setCell ⟨z + 1 + 1, 1, none⟩ (.slice r1.Ar r1.m r1.cr)) := (hb23.setCell (p := ⟨z + 1 + 1, 0, none⟩) (by show z ≤ z + 1 + 1; omega) _).setCell (p := ⟨z + 1 + 1, 1, none⟩) (by show z ≤ z + 1 + 1; omega) _
      refine bodyPost_ret (res_two (p := 8) (q := 9) (by kernel_rfl) _ _ (z + 1 + 1) (r1 : Rim).cs _ rfl rfl (loadcs hq)) rfl ?_
      have ez := EZ.out
      exact ⟨r1, rfl, hE, by rw [← ez]; exact hbE, fun g hg => by have := hN1 g hg; omega⟩
    · have t0 : decide (f < 0) = false := decide_eq_false f0
      have t1 : decide (1 < f) = true := decide_eq_true (by
        rcases hcase with h1 | h1 | h1
        · exact absurd h1 hc
        · exact absurd h1 f0
        · exact h1)
      go_wp2_with (first
        | (refine wpList_store_row rfl 31 (.tmp 4) (.tmp 11) rfl z r1.cs rfl rfl 31 r.cs g1.var (szcs r1) rfl (one31 r1) ?_; rw [← ew2]; clear ew2 g1 h1)
        | (refine wpList_load_row rfl 31 (.tmp 4) rfl z rfl 31 r1.cs (0, 0) _ g2.var Try.underlying31 rfl (szcs r1) ?_))
      refine hth.mono ?_
      rintro e w3 ⟨rfl, hb3⟩
      have g3 := g2.below hb3
      have h3 := h2.below hb3
      have hb23 := hb2.trans (hb3.mono (Nat.le_of_lt g2.var.lt))
      have v0 : w3.cell? ⟨z, 0, none⟩ = some (.slice r1.Ac r1.n r1.cc) := g3.var.cell 0
      have v1 : w3.cell? ⟨z, 1, none⟩ = some (.slice r1.Ar r1.m r1.cr) := g3.var.cell 1
      have y0 : w3.cell? ⟨z + 1 + 1, 0, none⟩ = some (.slice none 0 0) := g3.res.cell 0
      have y1 : w3.cell? ⟨z + 1 + 1, 1, none⟩ = some (.slice none 0 0) := g3.res.cell 1
      have y2 := g3.res.free 0
      have y3 := g3.res.free 1
      go_wp2
      have hq : Blk ((w3.setCell ⟨z + 1 + 1, 0, none⟩ (.slice r1.Ac r1.n r1.cc)).setCell ⟨z + 1 + 1, 1, none⟩ (.slice r1.Ar r1.m r1.cr)) (z + 1 + 1) 31 (r1 : Rim).cs := blk_set (blk_set g3.res 0 (.slice r1.Ac r1.n r1.cc)) 1 (.slice r1.Ar r1.m r1.cr)
      have hk : Kept (fun g => g = z + 1 + 1) w3 ((w3.setCell ⟨z + 1 + 1, 0, none⟩ (.slice r1.Ac r1.n r1.cc)).setCell ⟨z + 1 + 1, 1, none⟩ (.slice r1.Ar r1.m r1.cr)) := (kept_cell w3 ⟨z + 1 + 1, 0, none⟩ (.slice r1.Ac r1.n r1.cc)).next (kept_cell (w3.setCell ⟨z + 1 + 1, 0, none⟩ (.slice r1.Ac r1.n r1.cc)) ⟨z + 1 + 1, 1, none⟩ (.slice r1.Ar r1.m r1.cr)) (fun g e => .inl e)
      have hE : Ref ((w3.setCell ⟨z + 1 + 1, 0, none⟩ (.slice r1.Ac r1.n r1.cc)).setCell ⟨z + 1 + 1, 1, none⟩ (.slice r1.Ar r1.m r1.cr)) r1 _ := h3.kept hk (fun g hg e => by have := hN1 g hg; have e : g = z + 1 + 1 := e; omega)
      have hbE : Below z w ((w3.setCell ⟨z + 1 + 1, 0, none⟩ (.slice r1.Ac r1.n r1.cc)).setCell ⟨z + 1 + 1, 1, none⟩ (.slice r1.Ar r1.m r1.cr)) := (hb23.setCell (p := ⟨z + 1 + 1, 0, none⟩) (by show z ≤ z + 1 + 1; omega) _).setCell (p := ⟨z + 1 + 1, 1, none⟩) (by show z ≤ z + 1 + 1; omega) _
      refine bodyPost_ret (res_two (p := 8) (q := 9) (by kernel_rfl) _ _ (z + 1 + 1) (r1 : Rim).cs _ rfl rfl (loadcs hq)) rfl ?_
      have ez := EZ.out
      exact ⟨r1, rfl, hE, by rw [← ez]; exact hbE, fun g hg => by have := hN1 g hg; omega⟩
set_option maxRecDepth 100000 in
set_option maxHeartbeats 1000000 in
theorem rstore_at {k f : Int} {x : Wd} {c to : Cel} {o : Nat} (h : Ref w r s) (hI : Inv s) (hc : s.cel k = some c) (hf : f = 0 ∧ o = 4 ∨ f = 1 ∧ o = 7) (hp : splice c.cs.toArray o x.cs = to.cs.toArray) (hto : to.s = c.s) :
    Calls Try.prog 32 #[.agg r.cs, .int .i64 k, .int .i64 f, .agg x.cs.toArray] w fun e w' => ∃ r', e = .returned (.tuple #[.agg r'.cs, .bool true]) ∧ NewR (s.turn ⟨k, c, to⟩) w r' w' := by
  have HP := Lib.hid hp
  have HT := Lib.hid hto
  clear hp hto
  have hn := h.lenC
  have hm := h.lenR
  have hle := hI.le
  have hlR := hI.lenR
  obtain ⟨z, ez⟩ : ∃ z, z = w.heap.size := ⟨_, rfl⟩
  obtain ⟨W0, eW0⟩ : ∃ W, W = ((w.alloc (.cells r.cs 31)).alloc (.cells x.cs.toArray 24)).alloc (.cells #[.slice none 0 0, .slice none 0 0] 31) := ⟨_, rfl⟩
  have hb0 : Below w.heap.size w W0 := by rw [eW0]; exact (((Below.refl _ w).alloc (Nat.le_refl _) _).alloc (by simp) _).alloc (by simp; omega) _
  have g0 : Two W0 z (z + 1 + 1) r := by rw [eW0, ez]; exact two_more r w _
  have x0 : Blk W0 (z + 1) 24 x.cs.toArray := by rw [eW0, ez]; exact (blk_new _ _ 24 _ (by simp)).on ((Below.refl _ _).alloc (Nat.le_refl _) _)
  have h0 := h.below hb0
  have hz0 : z + 1 + 1 < W0.heap.size := g0.res.lt
  go_enter Try.func32, Try.ntmps32
  go_wp2_with (refine wpList_load_row rfl 31 (.tmp 4) rfl z (by rw [ez]; rfl) 31 r.cs (0, 0) _ (eW0 ▸ g0.var) Try.underlying31 rfl (szcs r) ?_)
  rw [← eW0, ← ez]
  rw [← ez] at hb0
  clear eW0
  have EZ := Lib.hid ez
  clear ez
  refine (copy_any h0 (by omega) (by omega)).mono ?_
  rintro e w1 ⟨r1, rfl, en, em, h1, hb1, hN1⟩
  have hn1 : r1.n ≤ 6 := by omega
  have hm1 : r1.m ≤ 6 := by omega
  clear en em
  have g1 := g0.below hb1
  have h2 := h1.row_off (b := z) (fun g hg => by have := hN1 g hg; omega) r1.cs
  have hb2 : Below z w (w1.setRow z r1.cs) := below_setRow (hb0.trans (hb1.mono (by omega))) (Nat.le_refl _) _
  have x2 : Blk (w1.setRow z r1.cs) (z + 1) 24 x.cs.toArray := (setRow_other _ _ _ _ (by omega)).trans (x0.on hb1)
  obtain ⟨w2, ew2⟩ : ∃ W, W = w1.setRow z r1.cs := ⟨_, rfl⟩
  have g2 : Two w2 z (z + 1 + 1) r1 := by rw [ew2]; exact two_store g1
  rw [← ew2] at h2 hb2 x2
  have hth := there_any r1 k w2
  rw [rhas_some h2 hc] at hth
  obtain ⟨j, gC, hk, hj, hjn, hjl, eA, ⟨cs0, hgC⟩, hr, hw⟩ := ref_at h2 hc
  obtain ⟨Ac1, cc1, n1, Ar1, cr1, mm1⟩ := r1
  dsimp only at eA hjl hn1 hm1
  subst eA
  have c0 : w2.cell? ⟨z, 0, none⟩ = some (.slice (some ⟨gC, 0, none⟩) n1 cc1) := g2.var.cell 0
  have hwj : IntKind.i64.wrap (j : Int) = (j : Int) := by rw [IntKind.wrap_i64]; omega
  have hgz : gC ≠ z := by have := hN1 gC (.inl rfl); omega
  have hgx : gC ≠ z + 1 := by have := hN1 gC (.inl rfl); omega
  have hgq : gC ≠ z + 1 + 1 := by have := hN1 gC (.inl rfl); omega
  have ho : o + 3 ≤ 10 := by omega
  rcases hf with ⟨rfl, rfl⟩ | ⟨rfl, rfl⟩
  · go_wp2_with (first
      | (refine wpList_store_row rfl 31 (.tmp 4) (.tmp 11) rfl z (⟨some ⟨gC, 0, none⟩, cc1, n1, Ar1, cr1, mm1⟩ : Rim).cs rfl rfl 31 r.cs g1.var (szcs (⟨some ⟨gC, 0, none⟩, cc1, n1, Ar1, cr1, mm1⟩ : Rim)) rfl (one31 (⟨some ⟨gC, 0, none⟩, cc1, n1, Ar1, cr1, mm1⟩ : Rim)) ?_; rw [← ew2]; clear ew2 g1 h1)
      | (refine wpList_load_row rfl 31 (.tmp 4) rfl z rfl 31 (⟨some ⟨gC, 0, none⟩, cc1, n1, Ar1, cr1, mm1⟩ : Rim).cs (0, 0) _ g2.var Try.underlying31 rfl (szcs (⟨some ⟨gC, 0, none⟩, cc1, n1, Ar1, cr1, mm1⟩ : Rim)) ?_))
    refine hth.mono ?_
    rintro e w3 ⟨rfl, hb3⟩
    have g3 := g2.below hb3
    have h3 := h2.below hb3
    have hb23 := hb2.trans (hb3.mono (Nat.le_of_lt g2.var.lt))
    have c03 := (hb3.cell (World.block_lt_of_cell? _ _ c0)).trans c0
    go_wp2_with fail
    have hgC3 : Blk w3 gC 45 cs0 := hgC.on hb3
    have x3 : Blk w3 (z + 1) 24 x.cs.toArray := x2.on hb3
    have hf0 : w3.drew.cell? ⟨z, 0, none⟩ = some (.slice (some ⟨gC, 0, none⟩) n1 cc1) ∧ w3.drew.rangeAt (z + 1) 0 x.cs := ⟨c03, range_blk (w := w3.drew) x3⟩
    have hth3 : w3.drew.there gC (j * 10 + 4) 3 := fun i hi => by
      obtain ⟨q1, q2⟩ := hw (4 + i) (by omega)
      rw [← Nat.add_assoc] at q1 q2
      exact ⟨by rw [show w3.drew.cell? ⟨gC, j * 10 + 4 + i, none⟩ = w2.cell? ⟨gC, j * 10 + 4 + i, none⟩ from hb3.cell hgC.lt]; exact q1, by rw [show w3.drew.frozen? ⟨gC, j * 10 + 4 + i, none⟩ = w2.frozen? ⟨gC, j * 10 + 4 + i, none⟩ from hb3.frozen hgC.lt]; exact q2⟩
    refine wp_region_noPanic ?_
    refine wp_region_held_drew (S := fun W => W.cell? ⟨z, 0, none⟩ = some (.slice (some ⟨gC, 0, none⟩) n1 cc1) ∧ W.rangeAt (z + 1) 0 x.cs) (by kernel_rfl) hf0 (fun hHeld => ?_)
    refine wpAnyH_take (i := 0) (oi := ⟨some 25, _, _, _, _, _⟩) (v := ?_) rfl (by kernel_rfl) (by kernel_rfl) (by kernel_rfl) (fun _ _ _ h => h) (Or.inl ⟨by rfl, ?_⟩) (by assumption) ?_
    rotate_left 1
    · (intro W hSw; go_simp <;> with_reducible rfl)
    try simp only [Act.put, List.setIfInBounds_toArray, List.set_cons_zero, List.set_cons_succ]
    refine wpAnyH_take (i := 1) (oi := ⟨some 26, _, _, _, _, _⟩) (v := ?_) rfl (by kernel_rfl) (by kernel_rfl) (by kernel_rfl) (fun _ _ _ h => h) (Or.inl ⟨by rfl, ?_⟩) (by assumption) ?_
    rotate_left 1
    · (intro W hSw; have hSw0 := hSw.1; clear hSw; go_simp <;> with_reducible rfl)
    try simp only [Act.put, List.setIfInBounds_toArray, List.set_cons_zero, List.set_cons_succ]
    refine wpAnyH_take (i := 2) (oi := ⟨some 27, _, _, _, _, _⟩) (v := ?_) rfl (by kernel_rfl) (by kernel_rfl) (by kernel_rfl) (fun _ _ _ h => h) (Or.inl ⟨by rfl, ?_⟩) (by assumption) ?_
    rotate_left 1
    · (intro W hSw; go_simp <;> with_reducible rfl)
    try simp only [Act.put, List.setIfInBounds_toArray, List.set_cons_zero, List.set_cons_succ]
    refine wpAnyH_take (i := 3) (oi := ⟨some 28, _, _, _, _, _⟩) (v := ?_) rfl (by kernel_rfl) (by kernel_rfl) (by kernel_rfl) (fun _ _ _ h => h) (Or.inl ⟨by rfl, ?_⟩) (by assumption) ?_
    rotate_left 1
    · (intro W hSw; go_simp <;> with_reducible rfl)
    try simp only [Act.put, List.setIfInBounds_toArray, List.set_cons_zero, List.set_cons_succ]
    refine wpAnyH_take (i := 4) (oi := ⟨some 29, _, _, _, _, _⟩) (v := ?_) rfl (by kernel_rfl) (by kernel_rfl) (by kernel_rfl) (fun _ _ _ h => h) (Or.inl ⟨by rfl, ?_⟩) (by assumption) ?_
    rotate_left 1
    · (intro W hSw; go_simp <;> with_reducible rfl)
    try simp only [Act.put, List.setIfInBounds_toArray, List.set_cons_zero, List.set_cons_succ]
    refine wpAnyH_take (i := 5) (oi := ⟨some 30, _, _, _, _, _⟩) (v := .agg x.cs.toArray) rfl (by kernel_rfl) (by kernel_rfl) (by kernel_rfl) (fun _ _ _ h => h) (yieldsIf_load_mid (by rfl) 24 (.tmp 7) rfl (z + 1) 0 rfl x.cs _ (fun W hW => hW.2) Try.underlying24 rfl (load24m x)) (by assumption) ?_
    try simp only [Act.put, List.setIfInBounds_toArray, List.set_cons_zero, List.set_cons_succ]
    refine wpAnyH_take (i := 6) (oi := ⟨some 31, _, _, _, _, _⟩) (v := ?_) rfl (by kernel_rfl) (by kernel_rfl) (by kernel_rfl) (fun _ _ _ h => h) (Or.inl ⟨by rfl, ?_⟩) (by assumption) ?_
    rotate_left 1
    · (intro W hSw; go_simp <;> with_reducible rfl)
    try simp only [Act.put, List.setIfInBounds_toArray, List.set_cons_zero, List.set_cons_succ]
    refine wpAnyH_take (i := 7) (oi := ⟨some 32, _, _, _, _, _⟩) (v := ?_) rfl (by kernel_rfl) (by kernel_rfl) (by kernel_rfl) (fun _ _ _ h => h) (Or.inl ⟨by rfl, ?_⟩) (by assumption) ?_
    rotate_left 1
    · (intro W hSw; go_simp <;> with_reducible rfl)
    try simp only [Act.put, List.setIfInBounds_toArray, List.set_cons_zero, List.set_cons_succ]
    refine wpAnyH_take (i := 8) (oi := ⟨some 33, _, _, _, _, _⟩) (v := ?_) rfl (by kernel_rfl) (by kernel_rfl) (by kernel_rfl) (fun _ _ _ h => h) (Or.inl ⟨by rfl, ?_⟩) (by assumption) ?_
    rotate_left 1
    · (intro W hSw; go_simp <;> with_reducible rfl)
    try simp only [Act.put, List.setIfInBounds_toArray, List.set_cons_zero, List.set_cons_succ]
    refine wpAnyH_ready (rs := [9]) (by kernel_rfl) (by simp) ?_
    refine AllReadyH.cons rfl (fun K hK => ?_) AllReadyH.nil
    rw [if_pos (by rfl)]
    refine wp_store_mid 24 (.tmp 33) (.tmp 30) rfl gC (j * 10 + 4) x.cs.toArray rfl rfl hth3 size24 x.one ?_
    refine hK.out _ _ ⟨(World.cell?_setCells_out gC _ _ _ _ (fun e => absurd e.symm hgz)).trans hf0.1, World.rangeAt_setCells_apart hf0.2 _ _ _ (.inl (fun e => hgx e.symm))⟩ (fun hHeld1 => ?_)
    clear hK K
    refine wpAnyH_done (by kernel_rfl) ?_ _
    refine NoPanic.normal ?_
    obtain ⟨w4, ew4⟩ : ∃ W, W = w3.drew.setCells gC (j * 10 + 4) x.cs.toArray.toList := ⟨_, rfl⟩
    have k34 : Kept (fun k => k = gC) w3.drew w4 := by rw [ew4]; exact kept_cells _ _ _ _
    have h3d : Ref w3.drew ⟨some ⟨gC, 0, none⟩, cc1, n1, Ar1, cr1, mm1⟩ s := h3.kept (kept_below (fun _ => False) (Below.refl _ w3).drew) (fun _ _ e => e)
    have oc4 : w4.ownsRow 0 45 10 (.slice (some ⟨gC, 0, none⟩) n1 cc1) n1 (flatC (s.C.set j to)) := by rw [ew4]; exact own_part (o := 4) (vs := x.cs) h3d.cells rfl hj (by simp [Wd.cs]) HP.out
    have or4 : Sees w4 1 Ar1 mm1 cr1 (ints s.R) := h3d.row.kept k34 (fun g hg e => by subst e; exact h3d.apart _ rfl hg)
    have g4 : Two w4 z (z + 1 + 1) ⟨some ⟨gC, 0, none⟩, cc1, n1, Ar1, cr1, mm1⟩ := ⟨Blk.kept (w := w3.drew) g3.var k34 (fun e => hgz e.symm), Blk.kept (w := w3.drew) g3.res k34 (fun e => hgq e.symm), g3.ne⟩
    have h4 : Ref w4 ⟨some ⟨gC, 0, none⟩, cc1, n1, Ar1, cr1, mm1⟩ ⟨s.C.set j to, s.R⟩ := ⟨oc4, or4, h3d.apart⟩
    have hb4 : Below z w w4 := hb23.drew.trans (k34.under z (Nat.le_of_lt g3.var.lt) (fun k e => by have := hN1 k (.inl (by rw [e]; rfl)); omega))
    have e5 : s.turn ⟨k, c, to⟩ = ⟨s.C.set j to, s.R⟩ := by
      unfold Sta.turn row1
      simp only [hjn]
      rw [if_neg (by rw [HT.out]; exact fun e => e.2 e.1), if_neg (by rw [HT.out]; exact fun e => e.1 e.2)]
    rw [← e5] at h4
    show Exit.then _ _ _ _ (w3.drew.setCells gC (j * 10 + 4) x.cs.toArray.toList)
    rw [← ew4]
    clear ew4 k34 h3d oc4 or4 g3 h3 hb23 c03 hgC3 x3 hf0 hth3 hHeld1 g2 h2 hb2 c0 hr hw hgC g0 h0 hb0 hb1 hth e5 hj x2 x0
    have v0 : w4.cell? ⟨z, 0, none⟩ = some (.slice (some ⟨gC, 0, none⟩) n1 cc1) := g4.var.cell 0
    have v1 : w4.cell? ⟨z, 1, none⟩ = some (.slice Ar1 mm1 cr1) := g4.var.cell 1
    have y0 : w4.cell? ⟨z + 1 + 1, 0, none⟩ = some (.slice none 0 0) := g4.res.cell 0
    have y1 : w4.cell? ⟨z + 1 + 1, 1, none⟩ = some (.slice none 0 0) := g4.res.cell 1
    have y2 := g4.res.free 0
    have y3 := g4.res.free 1
    go_wp2
    have hq : Blk ((w4.setCell ⟨z + 1 + 1, 0, none⟩ (.slice (some ⟨gC, 0, none⟩) n1 cc1)).setCell ⟨z + 1 + 1, 1, none⟩ (.slice Ar1 mm1 cr1)) (z + 1 + 1) 31 (⟨some ⟨gC, 0, none⟩, cc1, n1, Ar1, cr1, mm1⟩ : Rim).cs := blk_set (blk_set g4.res 0 (.slice (some ⟨gC, 0, none⟩) n1 cc1)) 1 (.slice Ar1 mm1 cr1)
    have hk : Kept (fun g => g = z + 1 + 1) w4 ((w4.setCell ⟨z + 1 + 1, 0, none⟩ (.slice (some ⟨gC, 0, none⟩) n1 cc1)).setCell ⟨z + 1 + 1, 1, none⟩ (.slice Ar1 mm1 cr1)) := (kept_cell w4 ⟨z + 1 + 1, 0, none⟩ (.slice (some ⟨gC, 0, none⟩) n1 cc1)).next (kept_cell (w4.setCell ⟨z + 1 + 1, 0, none⟩ (.slice (some ⟨gC, 0, none⟩) n1 cc1)) ⟨z + 1 + 1, 1, none⟩ (.slice Ar1 mm1 cr1)) (fun g e => .inl e)
    have hE : Ref ((w4.setCell ⟨z + 1 + 1, 0, none⟩ (.slice (some ⟨gC, 0, none⟩) n1 cc1)).setCell ⟨z + 1 + 1, 1, none⟩ (.slice Ar1 mm1 cr1)) ⟨some ⟨gC, 0, none⟩, cc1, n1, Ar1, cr1, mm1⟩ _ := h4.kept hk (fun g hg e => by have := hN1 g hg; have e : g = z + 1 + 1 := e; omega)
    have hbE : Below z w ((w4.setCell ⟨z + 1 + 1, 0, none⟩ (.slice (some ⟨gC, 0, none⟩) n1 cc1)).setCell ⟨z + 1 + 1, 1, none⟩ (.slice Ar1 mm1 cr1)) := (hb4.setCell (p := ⟨z + 1 + 1, 0, none⟩) (by show z ≤ z + 1 + 1; omega) _).setCell (p := ⟨z + 1 + 1, 1, none⟩) (by show z ≤ z + 1 + 1; omega) _
    refine bodyPost_ret (res_two (p := 8) (q := 9) (by kernel_rfl) _ _ (z + 1 + 1) (⟨some ⟨gC, 0, none⟩, cc1, n1, Ar1, cr1, mm1⟩ : Rim).cs _ rfl rfl (loadcs hq)) rfl ?_
    have ez := EZ.out
    exact ⟨⟨some ⟨gC, 0, none⟩, cc1, n1, Ar1, cr1, mm1⟩, rfl, hE, by rw [← ez]; exact hbE, fun g hg => by have := hN1 g hg; omega⟩
  · go_wp2_with (first
      | (refine wpList_store_row rfl 31 (.tmp 4) (.tmp 11) rfl z (⟨some ⟨gC, 0, none⟩, cc1, n1, Ar1, cr1, mm1⟩ : Rim).cs rfl rfl 31 r.cs g1.var (szcs (⟨some ⟨gC, 0, none⟩, cc1, n1, Ar1, cr1, mm1⟩ : Rim)) rfl (one31 (⟨some ⟨gC, 0, none⟩, cc1, n1, Ar1, cr1, mm1⟩ : Rim)) ?_; rw [← ew2]; clear ew2 g1 h1)
      | (refine wpList_load_row rfl 31 (.tmp 4) rfl z rfl 31 (⟨some ⟨gC, 0, none⟩, cc1, n1, Ar1, cr1, mm1⟩ : Rim).cs (0, 0) _ g2.var Try.underlying31 rfl (szcs (⟨some ⟨gC, 0, none⟩, cc1, n1, Ar1, cr1, mm1⟩ : Rim)) ?_))
    refine hth.mono ?_
    rintro e w3 ⟨rfl, hb3⟩
    have g3 := g2.below hb3
    have h3 := h2.below hb3
    have hb23 := hb2.trans (hb3.mono (Nat.le_of_lt g2.var.lt))
    have c03 := (hb3.cell (World.block_lt_of_cell? _ _ c0)).trans c0
    go_wp2_with fail
    have hgC3 : Blk w3 gC 45 cs0 := hgC.on hb3
    have x3 : Blk w3 (z + 1) 24 x.cs.toArray := x2.on hb3
    have hf0 : w3.drew.cell? ⟨z, 0, none⟩ = some (.slice (some ⟨gC, 0, none⟩) n1 cc1) ∧ w3.drew.rangeAt (z + 1) 0 x.cs := ⟨c03, range_blk (w := w3.drew) x3⟩
    have hth3 : w3.drew.there gC (j * 10 + 7) 3 := fun i hi => by
      obtain ⟨q1, q2⟩ := hw (7 + i) (by omega)
      rw [← Nat.add_assoc] at q1 q2
      exact ⟨by rw [show w3.drew.cell? ⟨gC, j * 10 + 7 + i, none⟩ = w2.cell? ⟨gC, j * 10 + 7 + i, none⟩ from hb3.cell hgC.lt]; exact q1, by rw [show w3.drew.frozen? ⟨gC, j * 10 + 7 + i, none⟩ = w2.frozen? ⟨gC, j * 10 + 7 + i, none⟩ from hb3.frozen hgC.lt]; exact q2⟩
    refine wp_region_noPanic ?_
    refine wp_region_held_drew (S := fun W => W.cell? ⟨z, 0, none⟩ = some (.slice (some ⟨gC, 0, none⟩) n1 cc1) ∧ W.rangeAt (z + 1) 0 x.cs) (by kernel_rfl) hf0 (fun hHeld => ?_)
    refine wpAnyH_take (i := 0) (oi := ⟨some 25, _, _, _, _, _⟩) (v := ?_) rfl (by kernel_rfl) (by kernel_rfl) (by kernel_rfl) (fun _ _ _ h => h) (Or.inl ⟨by rfl, ?_⟩) (by assumption) ?_
    rotate_left 1
    · (intro W hSw; go_simp <;> with_reducible rfl)
    try simp only [Act.put, List.setIfInBounds_toArray, List.set_cons_zero, List.set_cons_succ]
    refine wpAnyH_take (i := 1) (oi := ⟨some 26, _, _, _, _, _⟩) (v := ?_) rfl (by kernel_rfl) (by kernel_rfl) (by kernel_rfl) (fun _ _ _ h => h) (Or.inl ⟨by rfl, ?_⟩) (by assumption) ?_
    rotate_left 1
    · (intro W hSw; have hSw0 := hSw.1; clear hSw; go_simp <;> with_reducible rfl)
    try simp only [Act.put, List.setIfInBounds_toArray, List.set_cons_zero, List.set_cons_succ]
    refine wpAnyH_take (i := 2) (oi := ⟨some 27, _, _, _, _, _⟩) (v := ?_) rfl (by kernel_rfl) (by kernel_rfl) (by kernel_rfl) (fun _ _ _ h => h) (Or.inl ⟨by rfl, ?_⟩) (by assumption) ?_
    rotate_left 1
    · (intro W hSw; go_simp <;> with_reducible rfl)
    try simp only [Act.put, List.setIfInBounds_toArray, List.set_cons_zero, List.set_cons_succ]
    refine wpAnyH_take (i := 3) (oi := ⟨some 28, _, _, _, _, _⟩) (v := ?_) rfl (by kernel_rfl) (by kernel_rfl) (by kernel_rfl) (fun _ _ _ h => h) (Or.inl ⟨by rfl, ?_⟩) (by assumption) ?_
    rotate_left 1
    · (intro W hSw; go_simp <;> with_reducible rfl)
    try simp only [Act.put, List.setIfInBounds_toArray, List.set_cons_zero, List.set_cons_succ]
    refine wpAnyH_take (i := 4) (oi := ⟨some 29, _, _, _, _, _⟩) (v := ?_) rfl (by kernel_rfl) (by kernel_rfl) (by kernel_rfl) (fun _ _ _ h => h) (Or.inl ⟨by rfl, ?_⟩) (by assumption) ?_
    rotate_left 1
    · (intro W hSw; go_simp <;> with_reducible rfl)
    try simp only [Act.put, List.setIfInBounds_toArray, List.set_cons_zero, List.set_cons_succ]
    refine wpAnyH_take (i := 5) (oi := ⟨some 30, _, _, _, _, _⟩) (v := .agg x.cs.toArray) rfl (by kernel_rfl) (by kernel_rfl) (by kernel_rfl) (fun _ _ _ h => h) (yieldsIf_load_mid (by rfl) 24 (.tmp 7) rfl (z + 1) 0 rfl x.cs _ (fun W hW => hW.2) Try.underlying24 rfl (load24m x)) (by assumption) ?_
    try simp only [Act.put, List.setIfInBounds_toArray, List.set_cons_zero, List.set_cons_succ]
    refine wpAnyH_take (i := 6) (oi := ⟨some 31, _, _, _, _, _⟩) (v := ?_) rfl (by kernel_rfl) (by kernel_rfl) (by kernel_rfl) (fun _ _ _ h => h) (Or.inl ⟨by rfl, ?_⟩) (by assumption) ?_
    rotate_left 1
    · (intro W hSw; go_simp <;> with_reducible rfl)
    try simp only [Act.put, List.setIfInBounds_toArray, List.set_cons_zero, List.set_cons_succ]
    refine wpAnyH_take (i := 7) (oi := ⟨some 32, _, _, _, _, _⟩) (v := ?_) rfl (by kernel_rfl) (by kernel_rfl) (by kernel_rfl) (fun _ _ _ h => h) (Or.inl ⟨by rfl, ?_⟩) (by assumption) ?_
    rotate_left 1
    · (intro W hSw; go_simp <;> with_reducible rfl)
    try simp only [Act.put, List.setIfInBounds_toArray, List.set_cons_zero, List.set_cons_succ]
    refine wpAnyH_take (i := 8) (oi := ⟨some 33, _, _, _, _, _⟩) (v := ?_) rfl (by kernel_rfl) (by kernel_rfl) (by kernel_rfl) (fun _ _ _ h => h) (Or.inl ⟨by rfl, ?_⟩) (by assumption) ?_
    rotate_left 1
    · (intro W hSw; go_simp <;> with_reducible rfl)
    try simp only [Act.put, List.setIfInBounds_toArray, List.set_cons_zero, List.set_cons_succ]
    refine wpAnyH_ready (rs := [9]) (by kernel_rfl) (by simp) ?_
    refine AllReadyH.cons rfl (fun K hK => ?_) AllReadyH.nil
    rw [if_pos (by rfl)]
    refine wp_store_mid 24 (.tmp 33) (.tmp 30) rfl gC (j * 10 + 7) x.cs.toArray rfl rfl hth3 size24 x.one ?_
    refine hK.out _ _ ⟨(World.cell?_setCells_out gC _ _ _ _ (fun e => absurd e.symm hgz)).trans hf0.1, World.rangeAt_setCells_apart hf0.2 _ _ _ (.inl (fun e => hgx e.symm))⟩ (fun hHeld1 => ?_)
    clear hK K
    refine wpAnyH_done (by kernel_rfl) ?_ _
    refine NoPanic.normal ?_
    obtain ⟨w4, ew4⟩ : ∃ W, W = w3.drew.setCells gC (j * 10 + 7) x.cs.toArray.toList := ⟨_, rfl⟩
    have k34 : Kept (fun k => k = gC) w3.drew w4 := by rw [ew4]; exact kept_cells _ _ _ _
    have h3d : Ref w3.drew ⟨some ⟨gC, 0, none⟩, cc1, n1, Ar1, cr1, mm1⟩ s := h3.kept (kept_below (fun _ => False) (Below.refl _ w3).drew) (fun _ _ e => e)
    have oc4 : w4.ownsRow 0 45 10 (.slice (some ⟨gC, 0, none⟩) n1 cc1) n1 (flatC (s.C.set j to)) := by rw [ew4]; exact own_part (o := 7) (vs := x.cs) h3d.cells rfl hj (by simp [Wd.cs]) HP.out
    have or4 : Sees w4 1 Ar1 mm1 cr1 (ints s.R) := h3d.row.kept k34 (fun g hg e => by subst e; exact h3d.apart _ rfl hg)
    have g4 : Two w4 z (z + 1 + 1) ⟨some ⟨gC, 0, none⟩, cc1, n1, Ar1, cr1, mm1⟩ := ⟨Blk.kept (w := w3.drew) g3.var k34 (fun e => hgz e.symm), Blk.kept (w := w3.drew) g3.res k34 (fun e => hgq e.symm), g3.ne⟩
    have h4 : Ref w4 ⟨some ⟨gC, 0, none⟩, cc1, n1, Ar1, cr1, mm1⟩ ⟨s.C.set j to, s.R⟩ := ⟨oc4, or4, h3d.apart⟩
    have hb4 : Below z w w4 := hb23.drew.trans (k34.under z (Nat.le_of_lt g3.var.lt) (fun k e => by have := hN1 k (.inl (by rw [e]; rfl)); omega))
    have e5 : s.turn ⟨k, c, to⟩ = ⟨s.C.set j to, s.R⟩ := by
      unfold Sta.turn row1
      simp only [hjn]
      rw [if_neg (by rw [HT.out]; exact fun e => e.2 e.1), if_neg (by rw [HT.out]; exact fun e => e.1 e.2)]
    rw [← e5] at h4
    show Exit.then _ _ _ _ (w3.drew.setCells gC (j * 10 + 7) x.cs.toArray.toList)
    rw [← ew4]
    clear ew4 k34 h3d oc4 or4 g3 h3 hb23 c03 hgC3 x3 hf0 hth3 hHeld1 g2 h2 hb2 c0 hr hw hgC g0 h0 hb0 hb1 hth e5 hj x2 x0
    have v0 : w4.cell? ⟨z, 0, none⟩ = some (.slice (some ⟨gC, 0, none⟩) n1 cc1) := g4.var.cell 0
    have v1 : w4.cell? ⟨z, 1, none⟩ = some (.slice Ar1 mm1 cr1) := g4.var.cell 1
    have y0 : w4.cell? ⟨z + 1 + 1, 0, none⟩ = some (.slice none 0 0) := g4.res.cell 0
    have y1 : w4.cell? ⟨z + 1 + 1, 1, none⟩ = some (.slice none 0 0) := g4.res.cell 1
    have y2 := g4.res.free 0
    have y3 := g4.res.free 1
    go_wp2
    have hq : Blk ((w4.setCell ⟨z + 1 + 1, 0, none⟩ (.slice (some ⟨gC, 0, none⟩) n1 cc1)).setCell ⟨z + 1 + 1, 1, none⟩ (.slice Ar1 mm1 cr1)) (z + 1 + 1) 31 (⟨some ⟨gC, 0, none⟩, cc1, n1, Ar1, cr1, mm1⟩ : Rim).cs := blk_set (blk_set g4.res 0 (.slice (some ⟨gC, 0, none⟩) n1 cc1)) 1 (.slice Ar1 mm1 cr1)
    have hk : Kept (fun g => g = z + 1 + 1) w4 ((w4.setCell ⟨z + 1 + 1, 0, none⟩ (.slice (some ⟨gC, 0, none⟩) n1 cc1)).setCell ⟨z + 1 + 1, 1, none⟩ (.slice Ar1 mm1 cr1)) := (kept_cell w4 ⟨z + 1 + 1, 0, none⟩ (.slice (some ⟨gC, 0, none⟩) n1 cc1)).next (kept_cell (w4.setCell ⟨z + 1 + 1, 0, none⟩ (.slice (some ⟨gC, 0, none⟩) n1 cc1)) ⟨z + 1 + 1, 1, none⟩ (.slice Ar1 mm1 cr1)) (fun g e => .inl e)
    have hE : Ref ((w4.setCell ⟨z + 1 + 1, 0, none⟩ (.slice (some ⟨gC, 0, none⟩) n1 cc1)).setCell ⟨z + 1 + 1, 1, none⟩ (.slice Ar1 mm1 cr1)) ⟨some ⟨gC, 0, none⟩, cc1, n1, Ar1, cr1, mm1⟩ _ := h4.kept hk (fun g hg e => by have := hN1 g hg; have e : g = z + 1 + 1 := e; omega)
    have hbE : Below z w ((w4.setCell ⟨z + 1 + 1, 0, none⟩ (.slice (some ⟨gC, 0, none⟩) n1 cc1)).setCell ⟨z + 1 + 1, 1, none⟩ (.slice Ar1 mm1 cr1)) := (hb4.setCell (p := ⟨z + 1 + 1, 0, none⟩) (by show z ≤ z + 1 + 1; omega) _).setCell (p := ⟨z + 1 + 1, 1, none⟩) (by show z ≤ z + 1 + 1; omega) _
    refine bodyPost_ret (res_two (p := 8) (q := 9) (by kernel_rfl) _ _ (z + 1 + 1) (⟨some ⟨gC, 0, none⟩, cc1, n1, Ar1, cr1, mm1⟩ : Rim).cs _ rfl rfl (loadcs hq)) rfl ?_
    have ez := EZ.out
    exact ⟨⟨some ⟨gC, 0, none⟩, cc1, n1, Ar1, cr1, mm1⟩, rfl, hE, by rw [← ez]; exact hbE, fun g hg => by have := hN1 g hg; omega⟩
theorem rstore_any {k f : Int} {x : Wd} (h : Ref w r s) (hI : Inv s) : Calls Try.prog 32 #[.agg r.cs, .int .i64 k, .int .i64 f, .agg x.cs.toArray] w fun e w' => ∃ r', e = .returned (.tuple #[.agg r'.cs, .bool (stoM s k f x).isSome]) ∧ NewR (s.go (stoM s k f x)) w r' w' := by
  cases hc : s.cel k with
  | none =>
    have e : stoM s k f x = none := by unfold stoM; rw [hc]
    rw [e]
    exact rstore_none h hI (.inl hc)
  | some c =>
    by_cases f0 : f = 0
    · have e : stoM s k f x = some ⟨k, c, { c with x := x }⟩ := by unfold stoM; rw [hc]; exact if_pos f0
      rw [e]
      exact rstore_at h hI hc (.inl ⟨f0, rfl⟩) (put0 c x) rfl
    · by_cases f1 : f = 1
      · have e : stoM s k f x = some ⟨k, c, { c with y := x }⟩ := by unfold stoM; rw [hc]; simp only [if_neg f0]; exact if_pos f1
        rw [e]
        exact rstore_at h hI hc (.inr ⟨f1, rfl⟩) (put1 c x) rfl
      · have e : stoM s k f x = none := by unfold stoM; rw [hc]; simp only [if_neg f0]; exact if_neg f1
        rw [e]
        exact rstore_none h hI (.inr (by omega))
end
end Go.Proofs.Ytdilmapcjmdabaa
