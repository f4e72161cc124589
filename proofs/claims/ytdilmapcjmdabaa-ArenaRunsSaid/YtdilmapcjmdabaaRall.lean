/- The reference's Alloc. Conditions: none. -/
import Derived.Test.YtdilmapcjmdabaaRbase
namespace Go.Proofs.Ytdilmapcjmdabaa
open Go.ChangeShapes Go.WideShapes Go.RowKit
section
variable {w w' : World} {r : Rim} {s : Sta}
theorem tail_row (A : Option Addr) (n cap : Nat) (w : World) :
    (Instr.slice 29 (.slice A (n + 1) cap) (some (.int .i64 1)) none none).run Try.prog w = .ok (.slice (if cap = 1 then A else A.map (·.add 1)) n (cap - 1)) w := by
  rw [run_slice_l w 29 A (n + 1) cap under29 .i64 _ (by omega) (by omega), sizeE29]
  simp [Result.andThen, sliced]
theorem Sees.tail {n cap : Nat} {A : Option Addr} {x : Int} {xs : List Int} (h : Sees w 1 A (n + 1) cap (ints (x :: xs))) : Sees w 1 (if cap = 1 then A else A.map (·.add 1)) n (cap - 1) (ints xs) ∧ ∀ g, lies (if cap = 1 then A else A.map (·.add 1)) g → lies A g := by
  have h1 := h.len
  have h2 := h.room
  have h3 := h.most
  have hl : (ints xs).length = n * 1 := by
    unfold ints at h1 ⊢
    rw [flat_len int_len] at h1 ⊢
    simp at h1
    omega
  by_cases hc : cap = 1
  · rw [if_pos hc]
    obtain rfl : n = 0 := by omega
    have : ints xs = [] := List.eq_nil_of_length_eq_zero (by omega)
    refine ⟨⟨hl, by omega, by omega, fun e => by have := h.none_ e; omega, fun ad ha => ?_⟩, fun g e => e⟩
    obtain ⟨g, o, e, hg, _⟩ := h.cell ad ha
    exact ⟨g, o, e, hg, by rw [this]; intro j v hv; cases hv⟩
  · rw [if_neg hc]
    refine ⟨⟨hl, by omega, by omega, fun e => ?_, fun ad ha => ?_⟩, fun g e => ?_⟩
    · cases A with
      | none => have := h.none_ rfl; omega
      | some a => cases e
    · cases A with
      | none => cases ha
      | some a =>
        obtain ⟨g, o, rfl, hg, hr⟩ := h.cell a rfl
        injection ha with ha
        have ha : (⟨g, o, none⟩ : Addr).add 1 = ad := ha
        rw [Addr.add_mid] at ha
        exact ⟨g, o + 1, ha.symm, hg, fun j v hv => by
          rw [show o + 1 + j = o + (j + 1) by omega]
          exact hr (j + 1) v (by simpa [ints] using hv)⟩
    · cases A with
      | none => cases e
      | some a =>
        obtain ⟨g', o, rfl, _⟩ := h.cell a rfl
        simp only [Option.map_some, Addr.add_mid] at e
        exact e
def numM : Option Mov → Int
  | none => 0
  | some m => m.k
set_option maxRecDepth 100000 in
set_option maxHeartbeats 1000000 in
theorem rall_any {b d : Int} (h : Ref w r s) (hI : Inv s) : Calls Try.prog 55 #[.agg r.cs, .int .i64 b, .int .i64 d] w fun e w' => ∃ r', e = .returned (.tuple #[.agg r'.cs, .int .i64 (numM (allM s b d))]) ∧ NewR (s.go (allM s b d)) w r' w' := by
  obtain ⟨M, eM⟩ : ∃ M, M = allM s b d := ⟨_, rfl⟩
  rw [← eM]
  have hn := h.lenC
  have hm := h.lenR
  have hle := hI.le
  have hlR := hI.lenR
  obtain ⟨z, ez⟩ : ∃ z, z = w.heap.size := ⟨_, rfl⟩
  obtain ⟨W0, eW0⟩ : ∃ W, W = (w.alloc (.cells r.cs 31)).alloc (.cells #[.slice none 0 0, .slice none 0 0] 31) := ⟨_, rfl⟩
  have hb0 : Below w.heap.size w W0 := by rw [eW0]; exact ((Below.refl _ w).alloc (Nat.le_refl _) _).alloc (by simp) _
  have g0 : Two W0 z (z + 1) r := by rw [eW0, ez]; exact two_new r w
  have h0 := h.below hb0
  have hz0 : z + 1 < W0.heap.size := g0.res.lt
  go_enter Try.func55, Try.ntmps55
  go_wp2_with (refine wpList_load_row rfl 31 (.tmp 3) rfl z (by rw [ez]; rfl) 31 r.cs (0, 0) _ (eW0 ▸ g0.var) Try.underlying31 rfl (szcs r) ?_)
  rw [← eW0, ← ez]
  rw [← ez] at hb0
  clear eW0
  have EZ := Lib.hid ez
  clear ez
  refine (copy_any h0 (by omega) (by omega)).mono ?_
  rintro e w1 ⟨r1, rfl, en, em, h1, hb1, hN1⟩
  have hn1 : r1.n ≤ 6 := by omega
  have hm1 : r1.m ≤ 6 := by omega
  clear en em
  have g1 := g0.below hb1
  have h2 := h1.row_off (b := z) (fun g hg => by have := hN1 g hg; omega) r1.cs
  have hb2 : Below z w (w1.setRow z r1.cs) := below_setRow (hb0.trans (hb1.mono (by omega))) (Nat.le_refl _) _
  obtain ⟨w2, ew2⟩ : ∃ W, W = w1.setRow z r1.cs := ⟨_, rfl⟩
  have g2 : Two w2 z (z + 1) r1 := by rw [ew2]; exact two_store g1
  rw [← ew2] at h2 hb2
  have hlr := h2.lenR
  match hR : s.R with
  | [] =>
    have e : allM s b d = none := by unfold allM; rw [hR]
    obtain rfl := eM.trans e
    clear e eM
    rw [hR] at hlr
    obtain ⟨Ac1, cc1, n1, Ar1, cr1, mm1⟩ := r1
    dsimp only at hlr hn1 hm1
    obtain rfl : mm1 = 0 := by simpa using hlr.symm
    clear hlr hR
    have c1 : w2.cell? ⟨z, 1, none⟩ = some (.slice Ar1 0 cr1) := g2.var.cell 1
    have v0 : w2.cell? ⟨z, 0, none⟩ = some (.slice Ac1 n1 cc1) := g2.var.cell 0
    have v1 : w2.cell? ⟨z, 1, none⟩ = some (.slice Ar1 0 cr1) := g2.var.cell 1
    have y0 : w2.cell? ⟨z + 1, 0, none⟩ = some (.slice none 0 0) := g2.res.cell 0
    have y1 : w2.cell? ⟨z + 1, 1, none⟩ = some (.slice none 0 0) := g2.res.cell 1
    have y2 := g2.res.free 0
    have y3 := g2.res.free 1
    go_wp2_with (refine wpList_store_row rfl 31 (.tmp 3) (.tmp 10) rfl z (⟨Ac1, cc1, n1, Ar1, cr1, 0⟩ : Rim).cs rfl rfl 31 r.cs g1.var (szcs (⟨Ac1, cc1, n1, Ar1, cr1, 0⟩ : Rim)) rfl (one31 (⟨Ac1, cc1, n1, Ar1, cr1, 0⟩ : Rim)) ?_; rw [← ew2]; clear ew2 g1 h1)
    have hq : Blk ((w2.setCell ⟨z + 1, 0, none⟩ (.slice Ac1 n1 cc1)).setCell ⟨z + 1, 1, none⟩ (.slice Ar1 0 cr1)) (z + 1) 31 (⟨Ac1, cc1, n1, Ar1, cr1, 0⟩ : Rim).cs := blk_set (blk_set g2.res 0 (.slice Ac1 n1 cc1)) 1 (.slice Ar1 0 cr1)
    have hk : Kept (fun g => g = z + 1) w2 ((w2.setCell ⟨z + 1, 0, none⟩ (.slice Ac1 n1 cc1)).setCell ⟨z + 1, 1, none⟩ (.slice Ar1 0 cr1)) := (kept_cell w2 ⟨z + 1, 0, none⟩ (.slice Ac1 n1 cc1)).next (kept_cell (w2.setCell ⟨z + 1, 0, none⟩ (.slice Ac1 n1 cc1)) ⟨z + 1, 1, none⟩ (.slice Ar1 0 cr1)) (fun g e => .inl e)
    have hE : Ref ((w2.setCell ⟨z + 1, 0, none⟩ (.slice Ac1 n1 cc1)).setCell ⟨z + 1, 1, none⟩ (.slice Ar1 0 cr1)) ⟨Ac1, cc1, n1, Ar1, cr1, 0⟩ _ := h2.kept hk (fun g hg e => by have := hN1 g hg; have e : g = z + 1 := e; omega)
    have hbE : Below z w ((w2.setCell ⟨z + 1, 0, none⟩ (.slice Ac1 n1 cc1)).setCell ⟨z + 1, 1, none⟩ (.slice Ar1 0 cr1)) := (hb2.setCell (p := ⟨z + 1, 0, none⟩) (by show z ≤ z + 1; omega) _).setCell (p := ⟨z + 1, 1, none⟩) (by show z ≤ z + 1; omega) _
    refine bodyPost_ret (res_two (p := 6) (q := 7) (by kernel_rfl) _ _ (z + 1) (⟨Ac1, cc1, n1, Ar1, cr1, 0⟩ : Rim).cs _ rfl rfl (loadcs hq)) rfl ?_
    have ez := EZ.out
    exact ⟨⟨Ac1, cc1, n1, Ar1, cr1, 0⟩, rfl, hE, by rw [← ez]; exact hbE, fun g hg => by have := hN1 g hg; omega⟩
  | k :: rest =>
    obtain ⟨c, hc, s0, e⟩ := all_some hI b d k rest hR
    obtain rfl := eM.trans e
    clear e eM
    obtain ⟨j, gC, hk, hj, hjn, hjl, eA, ⟨cs0, hgC⟩, hr, hw⟩ := ref_at h2 hc
    obtain ⟨Ac1, cc1, n1, Ar1, cr1, mm1⟩ := r1
    dsimp only at eA hjl hn1 hm1 hlr
    subst eA
    rw [hR] at hlr
    obtain ⟨q, rfl⟩ : ∃ q, mm1 = q + 1 := ⟨rest.length, by simpa using hlr.symm⟩
    have hrow : Sees w2 1 Ar1 (q + 1) cr1 (ints (k :: rest)) := by have := h2.row; rw [hR] at this; exact this
    obtain ⟨T, eT⟩ : ∃ T, T = (if cr1 = 1 then Ar1 else Ar1.map (·.add 1)) := ⟨_, rfl⟩
    obtain ⟨hs2, hl2⟩ := hrow.tail
    have hsl := tail_row Ar1 q cr1
    rw [← eT] at hs2 hl2 hsl
    clear eT
    generalize cr1 - 1 = cq at hs2 hsl
    obtain ⟨gR, oR, rfl, hgR, hrR⟩ : ∃ g o, Ar1 = some ⟨g, o, none⟩ ∧ g < w2.heap.size ∧ w2.rangeAt g o (ints (k :: rest)) := by
      cases hA : Ar1 with
      | none => have := hrow.none_ hA; have := hrow.room; omega
      | some ad =>
        obtain ⟨g, o, e, h1, h2⟩ := hrow.cell ad hA
        exact ⟨g, o, by rw [e], h1, h2⟩
    have c0 : w2.cell? ⟨z, 0, none⟩ = some (.slice (some ⟨gC, 0, none⟩) n1 cc1) := g2.var.cell 0
    have c1 : w2.cell? ⟨z, 1, none⟩ = some (.slice (some ⟨gR, oR, none⟩) (q + 1) cr1) := g2.var.cell 1
    have f1 := g2.var.free 1
    have cR : w2.cell? ⟨gR, oR, none⟩ = some (.int .i64 k) := hrR 0 _ rfl
    have hwj : IntKind.i64.wrap (j : Int) = (j : Int) := by rw [IntKind.wrap_i64]; omega
    have hgz : gC ≠ z := by have := hN1 gC (.inl rfl); omega
    have hgq : gC ≠ z + 1 := by have := hN1 gC (.inl rfl); omega
    have t0 : (((q : Int) + 1) == 0) = false := by simp; omega
    have t1 : (((q + 1 : Nat) : Int) == 0) = false := by simp; omega
    have v4 : Blk (w2.setCell ⟨z, 1, none⟩ (.slice T q cq)) z 31 #[.slice (some ⟨gC, 0, none⟩) n1 cc1, .slice T q cq] := blk_set g2.var 1 _
    have p4 := blk_far g2.res g2.ne.symm 1 (.slice T q cq)
    have k4 := kept_cell w2 ⟨z, 1, none⟩ (.slice T q cq)
    have hlow := fun g (hg : lies T g) => hN1 g (.inr (hl2 g hg))
    have h4 : Ref (w2.setCell ⟨z, 1, none⟩ (.slice T q cq)) (⟨some ⟨gC, 0, none⟩, cc1, n1, T, cq, q⟩ : Rim) ⟨s.C, rest⟩ :=
      ⟨own_kept h2.cells k4 (fun g hg e => by have e2 : gC = g := (by simpa [lies] using hg); have e : g = z := e; omega), hs2.kept k4 (fun g hg e => by have := hlow g hg; have e : g = z := e; omega), fun g e e2 => h2.apart g e (hl2 g e2)⟩
    have hb4 : Below z w (w2.setCell ⟨z, 1, none⟩ (.slice T q cq)) := hb2.setCell (p := ⟨z, 1, none⟩) (Nat.le_refl _) _
    have hgC4 : Blk (w2.setCell ⟨z, 1, none⟩ (.slice T q cq)) gC 45 cs0 := blk_far hgC hgz 1 _
    have cG4 : (w2.setCell ⟨z, 1, none⟩ (.slice T q cq)).cell? ⟨gC, j * 10 + 1, none⟩ = some (.int .i64 c.g) := by
      rw [World.cell?_setCell_other _ _ _ _ (by intro e; injection e with e; exact hgz e.symm)]
      exact hr 1 _ rfl
    have hw4 : (w2.setCell ⟨z, 1, none⟩ (.slice T q cq)).there gC (j * 10) 10 := World.there_setCells hw z 1 [.slice T q cq]
    have HX := Lib.hid (And.intro v4 (And.intro p4 (And.intro h4 (And.intro hb4 (And.intro hgC4 (And.intro cG4 hw4))))))
    clear v4 p4 k4 h4 hb4 hgC4 cG4 hw4 hrow hs2 hrR hr hw hlr hI
    have HR := Lib.hid hR
    clear hR
    go_wp2_with (refine wpList_store_row rfl 31 (.tmp 3) (.tmp 10) rfl z (⟨some ⟨gC, 0, none⟩, cc1, n1, some ⟨gR, oR, none⟩, cr1, q + 1⟩ : Rim).cs rfl rfl 31 r.cs g1.var (szcs (⟨some ⟨gC, 0, none⟩, cc1, n1, some ⟨gR, oR, none⟩, cr1, q + 1⟩ : Rim)) rfl (one31 (⟨some ⟨gC, 0, none⟩, cc1, n1, some ⟨gR, oR, none⟩, cr1, q + 1⟩ : Rim)) ?_; rw [← ew2]; clear ew2 g1 h1)
    obtain ⟨v4, p4, h4, hb4, hgC4, cG4, hw4⟩ := HX.out
    obtain ⟨w4, ew4⟩ : ∃ W, W = w2.setCell ⟨z, 1, none⟩ (.slice T q cq) := ⟨_, rfl⟩
    rw [← ew4] at v4 p4 h4 hb4 hgC4 cG4 hw4 ⊢
    clear ew4 HX
    have hwg : IntKind.i64.wrap (c.g + 1) = wrap64 (c.g + 1) := by first | rfl | (rw [IntKind.wrap_i64]; rfl) | (rw [IntKind.wrap_i64, wrap64])
    have cG5 : w4.drew.cell? ⟨gC, j * 10 + 1, none⟩ = some (.int .i64 c.g) := cG4
    have hf0 : w4.drew.cell? ⟨z, 0, none⟩ = some (.slice (some ⟨gC, 0, none⟩) n1 cc1) := v4.cell 0
    have hth4 : w4.drew.there gC (j * 10) 10 := hw4
    refine wp_region_noPanic ?_
    refine wp_region_held_drew (S := fun W => W.cell? ⟨z, 0, none⟩ = some (.slice (some ⟨gC, 0, none⟩) n1 cc1)) (by kernel_rfl) hf0 (fun hHeld => ?_)
    refine wpAnyH_take (i := 0) (oi := ⟨some 24, _, _, _, _, _⟩) (v := ?_) rfl (by kernel_rfl) (by kernel_rfl) (by kernel_rfl) (fun _ _ _ h => h) (Or.inl ⟨by rfl, ?_⟩) (by assumption) ?_
    rotate_left 1
    · (intro W hSw; go_simp <;> with_reducible rfl)
    try simp only [Act.put, List.setIfInBounds_toArray, List.set_cons_zero, List.set_cons_succ]
    refine wpAnyH_take (i := 1) (oi := ⟨some 25, _, _, _, _, _⟩) (v := ?_) rfl (by kernel_rfl) (by kernel_rfl) (by kernel_rfl) (fun _ _ _ h => h) (Or.inl ⟨by rfl, ?_⟩) (by assumption) ?_
    rotate_left 1
    · (intro W hSw; go_simp <;> with_reducible rfl)
    try simp only [Act.put, List.setIfInBounds_toArray, List.set_cons_zero, List.set_cons_succ]
    refine wpAnyH_take (i := 2) (oi := ⟨some 26, _, _, _, _, _⟩) (v := ?_) rfl (by kernel_rfl) (by kernel_rfl) (by kernel_rfl) (fun _ _ _ h => h) (Or.inl ⟨by rfl, ?_⟩) (by assumption) ?_
    rotate_left 1
    · (intro W hSw; go_simp <;> with_reducible rfl)
    try simp only [Act.put, List.setIfInBounds_toArray, List.set_cons_zero, List.set_cons_succ]
    refine wpAnyH_take (i := 3) (oi := ⟨some 27, _, _, _, _, _⟩) (v := ?_) rfl (by kernel_rfl) (by kernel_rfl) (by kernel_rfl) (fun _ _ _ h => h) (Or.inl ⟨by rfl, ?_⟩) (by assumption) ?_
    rotate_left 1
    · (intro W hSw; go_simp <;> with_reducible rfl)
    try simp only [Act.put, List.setIfInBounds_toArray, List.set_cons_zero, List.set_cons_succ]
    refine wpAnyH_take (i := 4) (oi := ⟨some 28, _, _, _, _, _⟩) (v := ?_) rfl (by kernel_rfl) (by kernel_rfl) (by kernel_rfl) (fun _ _ _ h => h) (Or.inl ⟨by rfl, ?_⟩) (by assumption) ?_
    rotate_left 1
    · (intro W hSw; go_simp <;> with_reducible rfl)
    try simp only [Act.put, List.setIfInBounds_toArray, List.set_cons_zero, List.set_cons_succ]
    refine wpAnyH_take (i := 5) (oi := ⟨some 29, _, _, _, _, _⟩) (v := ?_) rfl (by kernel_rfl) (by kernel_rfl) (by kernel_rfl) (fun _ _ _ h => h) (Or.inl ⟨by rfl, ?_⟩) (by assumption) ?_
    rotate_left 1
    · (intro W hSw; go_simp <;> with_reducible rfl)
    try simp only [Act.put, List.setIfInBounds_toArray, List.set_cons_zero, List.set_cons_succ]
    refine wpAnyH_take (i := 6) (oi := ⟨some 30, _, _, _, _, _⟩) (v := ?_) rfl (by kernel_rfl) (by kernel_rfl) (by kernel_rfl) (fun _ _ _ h => h) (Or.inl ⟨by rfl, ?_⟩) (by assumption) ?_
    rotate_left 1
    · (intro W hSw; go_simp <;> with_reducible rfl)
    try simp only [Act.put, List.setIfInBounds_toArray, List.set_cons_zero, List.set_cons_succ]
    refine wpAnyH_take (i := 7) (oi := ⟨some 31, _, _, _, _, _⟩) (v := ?_) rfl (by kernel_rfl) (by kernel_rfl) (by kernel_rfl) (fun _ _ _ h => h) (Or.inl ⟨by rfl, ?_⟩) (by assumption) ?_
    rotate_left 1
    · (intro W hSw; go_simp <;> with_reducible rfl)
    try simp only [Act.put, List.setIfInBounds_toArray, List.set_cons_zero, List.set_cons_succ]
    refine wpAnyH_take (i := 8) (oi := ⟨some 32, _, _, _, _, _⟩) (v := ?_) rfl (by kernel_rfl) (by kernel_rfl) (by kernel_rfl) (fun _ _ _ h => h) (Or.inl ⟨by rfl, ?_⟩) (by assumption) ?_
    rotate_left 1
    · (intro W hSw; go_simp <;> with_reducible rfl)
    try simp only [Act.put, List.setIfInBounds_toArray, List.set_cons_zero, List.set_cons_succ]
    refine wpAnyH_take (i := 9) (oi := ⟨some 33, _, _, _, _, _⟩) (v := ?_) rfl (by kernel_rfl) (by kernel_rfl) (by kernel_rfl) (fun _ _ _ h => h) (Or.inl ⟨by rfl, ?_⟩) (by assumption) ?_
    rotate_left 1
    · (intro W hSw; go_simp <;> with_reducible rfl)
    try simp only [Act.put, List.setIfInBounds_toArray, List.set_cons_zero, List.set_cons_succ]
    refine wpAnyH_take (i := 12) (oi := ⟨some 36, _, _, _, _, _⟩) (v := ?_) rfl (by kernel_rfl) (by kernel_rfl) (by kernel_rfl) (fun _ _ _ h => h) (Or.inl ⟨by rfl, ?_⟩) (by assumption) ?_
    rotate_left 1
    · (intro W hSw; go_simp <;> with_reducible rfl)
    try simp only [Act.put, List.setIfInBounds_toArray, List.set_cons_zero, List.set_cons_succ]
    refine wpAnyH_take (i := 13) (oi := ⟨some 37, _, _, _, _, _⟩) (v := ?_) rfl (by kernel_rfl) (by kernel_rfl) (by kernel_rfl) (fun _ _ _ h => h) (Or.inl ⟨by rfl, ?_⟩) (by assumption) ?_
    rotate_left 1
    · (intro W hSw; go_simp <;> with_reducible rfl)
    try simp only [Act.put, List.setIfInBounds_toArray, List.set_cons_zero, List.set_cons_succ]
    refine wpAnyH_ready (rs := [10]) (by kernel_rfl) (by simp) ?_
    refine AllReadyH.cons rfl (fun K hK => ?_) AllReadyH.nil
    go_simp
    refine hK.out _ _ hf0 (fun hHeld1 => ?_)
    clear hK K hHeld1
    try simp only [Act.put, List.setIfInBounds_toArray, List.set_cons_zero, List.set_cons_succ]
    refine wpAnyH_take (i := 11) (oi := ⟨some 35, _, _, _, _, _⟩) (v := ?_) rfl (by kernel_rfl) (by kernel_rfl) (by kernel_rfl) (fun _ _ _ h => h) (Or.inl ⟨by rfl, ?_⟩) (by assumption) ?_
    rotate_left 1
    · (intro W hSw; go_simp <;> with_reducible rfl)
    try simp only [Act.put, List.setIfInBounds_toArray, List.set_cons_zero, List.set_cons_succ]
    refine wpAnyH_take (i := 14) (oi := ⟨some 38, _, _, _, _, _⟩) (v := .agg (Cel.cs ⟨1, wrap64 (c.g + 1), b, d, noW, noW⟩).toArray) rfl (by kernel_rfl) (by kernel_rfl) (by kernel_rfl) (fun _ _ _ h => h) (Or.inl ⟨by rfl, fun W hSw => by kernel_rfl⟩) (by assumption) ?_
    try simp only [Act.put, List.setIfInBounds_toArray, List.set_cons_zero, List.set_cons_succ]
    refine wpAnyH_take (i := 15) (oi := ⟨some 39, _, _, _, _, _⟩) (v := ?_) rfl (by kernel_rfl) (by kernel_rfl) (by kernel_rfl) (fun _ _ _ h => h) (Or.inl ⟨by rfl, ?_⟩) (by assumption) ?_
    rotate_left 1
    · (intro W hSw; go_simp <;> with_reducible rfl)
    try simp only [Act.put, List.setIfInBounds_toArray, List.set_cons_zero, List.set_cons_succ]
    refine wpAnyH_ready (rs := [16]) (by kernel_rfl) (by simp) ?_
    refine AllReadyH.cons rfl (fun K hK => ?_) AllReadyH.nil
    rw [if_pos (by rfl)]
    refine wp_store_mid 45 (.tmp 39) (.tmp 38) rfl gC (j * 10) (Cel.cs ⟨1, wrap64 (c.g + 1), b, d, noW, noW⟩).toArray rfl rfl hth4 size45 (Cel.onea _) ?_
    refine hK.out _ _ ((World.cell?_setCells_out gC _ _ _ _ (fun e => absurd e.symm hgz)).trans hf0) (fun hHeld1 => ?_)
    clear hK K
    refine wpAnyH_done (by kernel_rfl) ?_ _
    refine NoPanic.normal ?_
    obtain ⟨w5, ew5⟩ : ∃ W, W = w4.drew.setCells gC (j * 10) (Cel.cs ⟨1, wrap64 (c.g + 1), b, d, noW, noW⟩).toArray.toList := ⟨_, rfl⟩
    have k45 : Kept (fun k => k = gC) w4.drew w5 := by rw [ew5]; exact kept_cells _ _ _ _
    have h4d : Ref w4.drew ⟨some ⟨gC, 0, none⟩, cc1, n1, T, cq, q⟩ ⟨s.C, rest⟩ := h4.kept (kept_below (fun _ => False) (Below.refl _ w4).drew) (fun _ _ e => e)
    have oc5 : w5.ownsRow 0 45 10 (.slice (some ⟨gC, 0, none⟩) n1 cc1) n1 (flatC (s.C.set j ⟨1, wrap64 (c.g + 1), b, d, noW, noW⟩)) := by rw [ew5]; exact own_set h4d.cells rfl (List.getElem?_eq_some_iff.1 hj).1
    have or5 : Sees w5 1 T q cq (ints rest) := h4d.row.kept k45 (fun g hg e => by subst e; exact h4d.apart _ rfl hg)
    have g5 : Two w5 z (z + 1) ⟨some ⟨gC, 0, none⟩, cc1, n1, T, cq, q⟩ := ⟨Blk.kept (w := w4.drew) v4 k45 (fun e => hgz e.symm), Blk.kept (w := w4.drew) p4 k45 (fun e => hgq e.symm), by omega⟩
    have h5 : Ref w5 ⟨some ⟨gC, 0, none⟩, cc1, n1, T, cq, q⟩ ⟨s.C.set j ⟨1, wrap64 (c.g + 1), b, d, noW, noW⟩, rest⟩ := ⟨oc5, or5, h4d.apart⟩
    have hb5 : Below z w w5 := hb4.drew.trans (k45.under z (Nat.le_of_lt v4.lt) (fun k e => by have := hN1 k (.inl (by rw [e]; rfl)); omega))
    have hN5 : ∀ g, (⟨some ⟨gC, 0, none⟩, cc1, n1, T, cq, q⟩ : Rim).S g → W0.heap.size ≤ g := fun g hg => hg.elim (fun e => hN1 g (.inl e)) (fun e => hlow g e)
    have e5 : s.go (some ⟨k, c, ⟨1, wrap64 (c.g + 1), b, d, noW, noW⟩⟩) = ⟨s.C.set j ⟨1, wrap64 (c.g + 1), b, d, noW, noW⟩, rest⟩ := by
      unfold Sta.go Sta.turn row1
      simp only [hjn]
      rw [if_pos (by simp [s0]), HR.out]
      rfl
    rw [← e5] at h5
    show Exit.then _ _ _ _ (w4.drew.setCells gC (j * 10) (Cel.cs ⟨1, wrap64 (c.g + 1), b, d, noW, noW⟩).toArray.toList)
    rw [← ew5]
    clear ew5 k45 h4d oc5 or5 hf0 hth4 hHeld1 g2 h2 hb2 c0 c1 f1 cR hgR hgC g0 h0 hb0 hb1 e5 hj hsl cG5 hw4 cG4 hgC4 hb4 h4 p4 v4 HR hl2 hc
    have v0 : w5.cell? ⟨z, 0, none⟩ = some (.slice (some ⟨gC, 0, none⟩) n1 cc1) := g5.var.cell 0
    have v1 : w5.cell? ⟨z, 1, none⟩ = some (.slice T q cq) := g5.var.cell 1
    have y0 : w5.cell? ⟨z + 1, 0, none⟩ = some (.slice none 0 0) := g5.res.cell 0
    have y1 : w5.cell? ⟨z + 1, 1, none⟩ = some (.slice none 0 0) := g5.res.cell 1
    have y2 := g5.res.free 0
    have y3 := g5.res.free 1
    go_wp2
    have hq : Blk ((w5.setCell ⟨z + 1, 0, none⟩ (.slice (some ⟨gC, 0, none⟩) n1 cc1)).setCell ⟨z + 1, 1, none⟩ (.slice T q cq)) (z + 1) 31 (⟨some ⟨gC, 0, none⟩, cc1, n1, T, cq, q⟩ : Rim).cs := blk_set (blk_set g5.res 0 (.slice (some ⟨gC, 0, none⟩) n1 cc1)) 1 (.slice T q cq)
    have hk : Kept (fun g => g = z + 1) w5 ((w5.setCell ⟨z + 1, 0, none⟩ (.slice (some ⟨gC, 0, none⟩) n1 cc1)).setCell ⟨z + 1, 1, none⟩ (.slice T q cq)) := (kept_cell w5 ⟨z + 1, 0, none⟩ (.slice (some ⟨gC, 0, none⟩) n1 cc1)).next (kept_cell (w5.setCell ⟨z + 1, 0, none⟩ (.slice (some ⟨gC, 0, none⟩) n1 cc1)) ⟨z + 1, 1, none⟩ (.slice T q cq)) (fun g e => .inl e)
    have hE : Ref ((w5.setCell ⟨z + 1, 0, none⟩ (.slice (some ⟨gC, 0, none⟩) n1 cc1)).setCell ⟨z + 1, 1, none⟩ (.slice T q cq)) ⟨some ⟨gC, 0, none⟩, cc1, n1, T, cq, q⟩ _ := h5.kept hk (fun g hg e => by have := hN5 g hg; have e : g = z + 1 := e; omega)
    have hbE : Below z w ((w5.setCell ⟨z + 1, 0, none⟩ (.slice (some ⟨gC, 0, none⟩) n1 cc1)).setCell ⟨z + 1, 1, none⟩ (.slice T q cq)) := (hb5.setCell (p := ⟨z + 1, 0, none⟩) (by show z ≤ z + 1; omega) _).setCell (p := ⟨z + 1, 1, none⟩) (by show z ≤ z + 1; omega) _
    refine bodyPost_ret (res_two (p := 6) (q := 7) (by kernel_rfl) _ _ (z + 1) (⟨some ⟨gC, 0, none⟩, cc1, n1, T, cq, q⟩ : Rim).cs _ rfl rfl (loadcs hq)) rfl ?_
    have ez := EZ.out
    exact ⟨⟨some ⟨gC, 0, none⟩, cc1, n1, T, cq, q⟩, rfl, hE, by rw [← ez]; exact hbE, fun g hg => by have := hN5 g hg; omega⟩
end
end Go.Proofs.Ytdilmapcjmdabaa
