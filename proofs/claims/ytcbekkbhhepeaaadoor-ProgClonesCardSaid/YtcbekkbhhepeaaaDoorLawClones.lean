/- The walk of ProgClones. Conditions: the variable 'rows' lies as it is laid. -/
import Derived.Test.YtcbekkbhhepeaaaDoorLawBack
namespace Go.Proofs.YtcbekkbhhepeaaaDoor
open Go.RowKit
set_option linter.unusedSimpArgs false

theorem blk_cells {g : Nat} {t : TypeId} : ∀ (vs : List Value) (w : World) (cs : Array Value) (o : Nat), Blk w g t cs → ∃ cs', Blk (w.setCells g o vs) g t cs' ∧ cs'.size = cs.size
  | [], _, cs, _, h => ⟨cs, h, rfl⟩
  | v :: r, w, cs, o, h => by
    obtain ⟨cs', h1, h2⟩ := blk_cells r _ _ (o + 1) (h.set_ o v)
    exact ⟨cs', h1, by rw [h2]; simp⟩
/-- Nothing is turned but blocks from B on and below hi; the lists that vs leads to lie in those, each in a row of its length. -/
structure Turned (w wr : World) (B hi : Nat) (vs : List Value) (xss : List (List Ins)) : Prop where
  os : wr.os = w.os
  tape : wr.tape = w.tape
  output : wr.output = w.output
  size : w.heap.size ≤ wr.heap.size
  block : ∀ k, k < w.heap.size → (k < B ∨ hi ≤ k) → wr.heap[k]? = w.heap[k]?
  rows : ∀ (i : Nat) (xs : List Ins), xss[i]? = some xs → ∃ A' cap', vs[i]? = some (.slice A' xs.length cap') ∧ xs.length ≤ cap' ∧ cap' ≤ maxLen ∧
    (xs.length = 0 ∨ ∃ g' cur, A' = some ⟨g', 0, none⟩ ∧ B ≤ g' ∧ g' < hi ∧ Blk wr g' 45 cur ∧ xs.length * 5 ≤ cur.size)
theorem Turned.drew {w wr : World} {B hi : Nat} {vs : List Value} {xss : List (List Ins)} (h : Turned w wr B hi vs xss) : Turned w wr.drew B hi vs xss :=
  ⟨h.os, h.tape, h.output, h.size, h.block, h.rows⟩
theorem Turned.set_ {w wr : World} {B hi g o : Nat} {vs us : List Value} {xss : List (List Ins)} (h : Turned w wr B hi vs xss) (h1 : B ≤ g) (h2 : g < hi) : Turned w (wr.setCells g o us) B hi vs xss := by
  obtain ⟨e1, e2, e3⟩ := cells_same wr g us o
  refine ⟨e1.trans h.os, e2.trans h.tape, e3.trans h.output, by rw [size_cells]; exact h.size, fun k hk hb => (heap_cells wr g k (by omega) us o).trans (h.block k hk hb), fun i xs hx => ?_⟩
  obtain ⟨A', cap', hv, hc1, hc2, hr⟩ := h.rows i xs hx
  refine ⟨A', cap', hv, hc1, hc2, hr.imp id ?_⟩
  rintro ⟨g', cur, rfl, k1, k2, hb, hs⟩
  by_cases e : g' = g
  · subst e
    obtain ⟨cs', b1, b2⟩ := blk_cells us wr cur o hb
    exact ⟨g', cs', rfl, k1, k2, b1, by rw [b2]; exact hs⟩
  · exact ⟨g', cur, rfl, k1, k2, (heap_cells wr g g' e us o).trans hb, hs⟩
theorem Turned.below {w wr : World} {B hi : Nat} {vs : List Value} {xss : List (List Ins)} (h : Turned w wr B hi vs xss) (hB : B ≤ w.heap.size) : Below B w wr :=
  ⟨h.os, h.tape, h.output, h.size, fun k hk => h.block k (by omega) (.inl hk)⟩
theorem Turned.blk {w wr : World} {B hi g : Nat} {t : TypeId} {cs : Array Value} {vs : List Value} {xss : List (List Ins)} (h : Turned w wr B hi vs xss) (hb : Blk w g t cs) (hg : g < B ∨ hi ≤ g) : Blk wr g t cs :=
  (h.block g hb.lt hg).trans hb
/-- A program's code that is made anew, where a call has gone by. -/
theorem turned_start {w4 w7 : World} {base n cap : Nat} {A : Option Addr} {ys : List (List Ins)} (h : Own2 w4 base A n cap ys) (hb : Below w4.heap.size w4 w7) (hbase : base ≤ w4.heap.size) :
    ∃ B vs, base ≤ B ∧ B ≤ w4.heap.size ∧ Turned w7 w7 B w4.heap.size vs ys ∧ ∀ i, i < n → ∃ gc cur, A = some ⟨gc, 0, none⟩ ∧ base ≤ gc ∧ gc < B ∧ Blk w7 gc 46 cur ∧ (∀ i, i < n → cur[i]? = vs[i]?) := by
  obtain ⟨hl, B, vs, hB, ho, hlow, hall⟩ := h
  have hrow : ∀ (i : Nat) (xs : List Ins), ys[i]? = some xs → ∃ A' cap', vs[i]? = some (.slice A' xs.length cap') ∧ xs.length ≤ cap' ∧ cap' ≤ maxLen ∧
      (xs.length = 0 ∨ ∃ g' cur, A' = some ⟨g', 0, none⟩ ∧ min B w4.heap.size ≤ g' ∧ g' < w4.heap.size ∧ Blk w7 g' 45 cur ∧ xs.length * 5 ≤ cur.size) := by
    intro i xs hx
    obtain ⟨A', n', cap', hv, hw⟩ := hall i xs hx
    have hn : n' = xs.length := by have := hw.1; rw [flat5_len] at this; omega
    subst hn
    rcases hw.2 with ⟨e, h0⟩ | ⟨g', c', cur, e, e2, h3, h4, h5, h6, _⟩
    · injection e with e1 e2 e3
      subst e3
      exact ⟨A', 0, hv, by omega, Nat.zero_le _, .inl h0⟩
    · injection e with e1 _ e3
      subst e1 e3
      have hlt := (Array.getElem?_eq_some_iff.1 h3).1
      exact ⟨_, _, hv, h4, h5, .inr ⟨g', cur, rfl, Nat.le_trans (Nat.min_le_left _ _) e2, hlt, (hb.block g' hlt).trans h3, by rw [h6]; exact Nat.mul_le_mul_right 5 h4⟩⟩
  refine ⟨min B w4.heap.size, vs, by omega, Nat.min_le_right _ _, ⟨rfl, rfl, rfl, Nat.le_refl _, fun _ _ _ => rfl, hrow⟩, fun i hi => ?_⟩
  rcases ho.2 with ⟨_, h0⟩ | ⟨g, c, cur, e, e2, h3, h4, h5, h6, h7⟩
  · omega
  · injection e with e1 _ e3
    subst e1
    have hlt := (Array.getElem?_eq_some_iff.1 h3).1
    have := hlow g rfl
    refine ⟨g, cur, rfl, e2, by omega, (hb.block g hlt).trans h3, fun j hj => ?_⟩
    rw [← h7, List.getElem?_take, if_pos (by omega), Array.getElem?_toList]

set_option maxRecDepth 100000 in
set_option maxHeartbeats 4000000 in
theorem clones_any {w : World} {S : Nat → Prop} {A : Option Addr} {n cap : Nat} {xss : List (List Ins)} (h : Mat w S A n cap xss) (hS : ∀ g, S g → g < w.heap.size) (hL : Laid w) (r c s : Int) (x : Ins) :
    Calls Tryd.prog 6 #[.agg #[.int .i64 r, .int .i64 c, .int .i64 s, .slice A n cap], .agg #[.int .i64 x.o, .int .i64 x.a, .int .i64 x.b, .int .i64 x.c, .int .i64 x.n]] w fun e w' => e = .returned (.bool true) ∧ Below w.heap.size w w' := by
  obtain ⟨W0, eW0⟩ : ∃ W0, W0 = (w.alloc (.cells #[.int .i64 r, .int .i64 c, .int .i64 s, .slice A n cap] 24)).alloc (.cells #[.int .i64 x.o, .int .i64 x.a, .int .i64 x.b, .int .i64 x.c, .int .i64 x.n] 45) := ⟨_, rfl⟩
  have b0 : Below w.heap.size w W0 := by rw [eW0]; exact ((Below.refl _ w).alloc (Nat.le_refl _) _).alloc (by simp) _
  have q0 : Blk W0 w.heap.size 24 (prg r c s A n cap) := by rw [eW0]; exact Blk.below (heap_alloc_new w _) ((Below.refl _ _).alloc (Nat.le_refl _) _) (by simp)
  have x0 : Blk W0 (w.heap.size + 1) 45 (five5 x).toArray := by rw [eW0]; exact heap_alloc2_new w _ _
  have hM0 := h.below b0 hS
  have hS0 : ∀ g, S g → g < W0.heap.size := fun g hg => Nat.lt_of_lt_of_le (hS g hg) b0.size
  have hL0 := hL.on b0
  have hA := alive_any W0 hL0
  have hSw := Lib.hid hS
  clear h hS hL
  go_enter Tryd.func6, Tryd.ntmps6
  go_wp2_with fail
  rw [← eW0]
  clear eW0
  refine hA.mono ?_
  rintro e w1 ⟨rfl, hb1⟩
  have q1 := q0.below hb1 q0.lt
  have x1 := x0.below hb1 x0.lt
  have z0 : w1.cell? ⟨w.heap.size, 0, none⟩ = some (.int .i64 r) := q1.cell 0
  have z1 : w1.cell? ⟨w.heap.size, 1, none⟩ = some (.int .i64 c) := q1.cell 1
  have z2 : w1.cell? ⟨w.heap.size, 2, none⟩ = some (.int .i64 s) := q1.cell 2
  have z3 : w1.cell? ⟨w.heap.size, 3, none⟩ = some (.slice A n cap) := q1.cell 3
  have hF := few_any (hM0.below hb1 hS0) (fun g hg => Nat.lt_of_lt_of_le (hS0 g hg) hb1.size) r c s
  have b1 := b0.trans (hb1.mono b0.size)
  clear hA hM0 hS0 hL0 hb1 b0 q0 x0
  go_wp2_with fail
  refine hF.mono ?_
  rintro e w2 ⟨A2, n2, cap2, rfl, hM2, hb2⟩
  obtain ⟨V, eV⟩ : ∃ V, V = w2.setRow w.heap.size (prg r c s A2 n2 cap2) := ⟨_, rfl⟩
  have q2 := q1.below hb2 q1.lt
  have x2 := x1.below hb2 x1.lt
  have qV : Blk V w.heap.size 24 (prg r c s A2 n2 cap2) := by rw [eV]; exact setRow_heap _ _ _ _ _ _ q2
  have xV : Blk V (w.heap.size + 1) 45 (five5 x).toArray := by rw [eV]; exact (setRow_other _ _ _ _ (by omega)).trans x2
  have sV : V.heap.size = w2.heap.size := by rw [eV]; exact size_setRow _ _ _
  have bV : Below w.heap.size w V := by rw [eV]; exact below_setRow (b1.trans (hb2.mono b1.size)) (Nat.le_refl _) _
  have zV : w.heap.size + 1 < V.heap.size := xV.lt
  have hMV : Mat V (fun g => g < V.heap.size) A2 n2 cap2 (few xss) := by
    refine Mat.more (hM2.keep (w' := V) fun p hp => cell_blk p ?_) fun g hg => ?_
    · rw [eV]
      refine setRow_other _ _ _ _ ?_
      rcases hp with hp | hp
      · have := hSw.out _ hp; omega
      · have := hp.1; have := q1.lt; omega
    · rw [sV]
      rcases hg with hg | hg
      · exact Nat.lt_of_lt_of_le (hSw.out _ hg) (Nat.le_of_lt q2.lt)
      · exact hg.2
  have HFS := Lib.hid (few_short xss)
  generalize hys : few xss = ys at *
  clear hys hM2 b1 hF q1 x1 x2 z0 z1 z2 z3
  have hn6 : n2 ≤ 6 := by rw [← hMV.len]; exact HFS.out.1
  have hCl := clone_prog hMV (fun g hg => hg) r c s (by omega) (fun xs hx => Nat.le_trans (HFS.out.2 xs hx) (by omega))
  have d0 : V.cell? ⟨w.heap.size, 0, none⟩ = some (.int .i64 r) := qV.cell 0
  have d1 : V.cell? ⟨w.heap.size, 1, none⟩ = some (.int .i64 c) := qV.cell 1
  have d2 : V.cell? ⟨w.heap.size, 2, none⟩ = some (.int .i64 s) := qV.cell 2
  have d3 : V.cell? ⟨w.heap.size, 3, none⟩ = some (.slice A2 n2 cap2) := qV.cell 3
  rw [eV] at d0 d1 d2 d3
  go_wp2_with (refine wpList_store_row rfl 24 (.tmp 2) (.tmp 12) rfl w.heap.size (prg r c s A2 n2 cap2) rfl rfl 24 (prg r c s A n cap) q2 info24 rfl (prg_one r c s A2 n2 cap2) ?_)
  rw [← eV]
  clear d0 d1 d2 d3 eV sV hb2 q2
  refine hCl.mono ?_
  rintro e w4 ⟨A4, n4, cap4, rfl, hc, hb4⟩
  have hn4 : n4 = n2 := hc.len.symm.trans hMV.len
  subst hn4
  have hM4 := hc.mat
  obtain ⟨W5, eW5⟩ : ∃ W5, W5 = w4.alloc (.cells #[.int .i64 r, .int .i64 c, .int .i64 s, .slice A4 n4 cap4] 24) := ⟨_, rfl⟩
  have a5 : Below w4.heap.size w4 W5 := by rw [eW5]; exact (Below.refl _ _).alloc (Nat.le_refl _) _
  have s5 : W5.heap.size = w4.heap.size + 1 := by rw [eW5, size_alloc]
  have c5 : Blk W5 w4.heap.size 24 (prg r c s A4 n4 cap4) := by rw [eW5]; exact heap_alloc_new w4 _
  have hCl2 := clone_prog (hM4.below a5 fun g hg => hg.2) (fun g hg => Nat.lt_of_lt_of_le hg.2 a5.size) r c s (by omega) (fun xs hx => Nat.le_trans (HFS.out.2 xs hx) (by omega))
  clear hCl
  go_wp2_with fail
  rw [← eW5]
  clear eW5
  refine hCl2.mono ?_
  rintro e w6 ⟨A6, n6, cap6, rfl, hd, hb6⟩
  have hn6' : n6 = n4 := hd.len.symm.trans hc.len
  subst hn6'
  have hM6 := hd.mat
  obtain ⟨W7, eW7⟩ : ∃ W7, W7 = w6.alloc (.cells #[.int .i64 r, .int .i64 c, .int .i64 s, .slice A6 n6 cap6] 24) := ⟨_, rfl⟩
  have a7 : Below w6.heap.size w6 W7 := by rw [eW7]; exact (Below.refl _ _).alloc (Nat.le_refl _) _
  have d7 : Blk W7 w6.heap.size 24 (prg r c s A6 n6 cap6) := by rw [eW7]; exact heap_alloc_new w6 _
  have b57 : Below W5.heap.size W5 W7 := hb6.trans (a7.mono hb6.size)
  have b47 : Below w4.heap.size w4 W7 := a5.trans (b57.mono a5.size)
  have bV7 : Below V.heap.size V W7 := hb4.trans (b47.mono hb4.size)
  have c7 := c5.below b57 c5.lt
  have q7 := qV.below bV7 qV.lt
  have x7 := xV.below bV7 xV.lt
  have hM67 : Mat W7 (From W7 W5.heap.size) A6 n6 cap6 ys := (hM6.below a7 fun g hg => hg.2).more fun g hg => ⟨hg.1, Nat.lt_of_lt_of_le hg.2 a7.size⟩
  have hM47 : Mat W7 (fun g => g < W7.heap.size) A4 n6 cap4 ys := (hM4.below b47 fun g hg => hg.2).more fun g hg => Nat.lt_of_lt_of_le hg.2 b47.size
  have hMV7 : Mat W7 (fun g => g < V.heap.size) A2 n6 cap2 ys := hMV.below bV7 fun g hg => hg
  have hC := prog_same r c s hM47 hMV7 (fun g hg => hg) (fun g hg => Nat.lt_of_lt_of_le hg bV7.size)
  have hs6 := hb6.size
  have hs4 := hb4.size
  have y0 : W7.cell? ⟨w4.heap.size, 0, none⟩ = some (.int .i64 r) := c7.cell 0
  have y1 : W7.cell? ⟨w4.heap.size, 1, none⟩ = some (.int .i64 c) := c7.cell 1
  have y2 : W7.cell? ⟨w4.heap.size, 2, none⟩ = some (.int .i64 s) := c7.cell 2
  have y3 : W7.cell? ⟨w4.heap.size, 3, none⟩ = some (.slice A4 n6 cap4) := c7.cell 3
  have v0 : W7.cell? ⟨w.heap.size, 0, none⟩ = some (.int .i64 r) := q7.cell 0
  have v1 : W7.cell? ⟨w.heap.size, 1, none⟩ = some (.int .i64 c) := q7.cell 1
  have v2 : W7.cell? ⟨w.heap.size, 2, none⟩ = some (.int .i64 s) := q7.cell 2
  have v3 : W7.cell? ⟨w.heap.size, 3, none⟩ = some (.slice A2 n6 cap2) := q7.cell 3
  rw [eW7] at y0 y1 y2 y3 v0 v1 v2 v3
  clear hCl2 hM6 hM4 hMV hM47 hd qV xV c5 a5 hb6 a7 b57
  go_wp2_with fail
  rw [← eW7]
  clear eW7 y0 y1 y2 y3 v0 v1 v2 v3
  refine hC.mono ?_
  rintro e w8 ⟨rfl, hb8⟩
  clear hC
  have c8 := c7.below hb8 c7.lt
  have q8 := q7.below hb8 q7.lt
  have x8 := x7.below hb8 x7.lt
  have d8 := d7.below hb8 d7.lt
  have hs7 := b47.size
  have hM68 : Mat w8 (From W7 W5.heap.size) A6 n6 cap6 ys := hM67.below hb8 fun g hg => hg.2
  have hMV8 : Mat w8 (fun g => g < V.heap.size) A2 n6 cap2 ys := hMV7.below hb8 fun g hg => Nat.lt_of_lt_of_le hg bV7.size
  have hs8 := hb8.size
  have HWS : Hid (W7.heap.size ≤ w8.heap.size ∧ w4.heap.size + 1 ≤ W7.heap.size) := Lib.hid ⟨hs8, Nat.lt_of_lt_of_le c7.lt (Nat.le_refl _)⟩
  have b48 := b47.trans (hb8.mono b47.size)
  have b8 : Below w.heap.size w w8 := bV.trans ((bV7.trans (hb8.mono bV7.size)).mono bV.size)
  obtain ⟨B, vs, hVB, hB4, hT, hhead⟩ := turned_start hc b48 hs4
  have HHD := Lib.hid hhead
  have HLN := Lib.hid hc.len
  obtain ⟨H, eH⟩ : ∃ H, w4.heap.size = H := ⟨_, rfl⟩
  obtain ⟨G, eG⟩ : ∃ G, w6.heap.size = G := ⟨_, rfl⟩
  have hHG : H < G := by omega
  rw [eH] at hT c8 HWS s5 ⊢
  rw [eG] at d8 ⊢
  have hBB := Lib.hid b8
  clear hhead hc c7 q7 x7 d7 hM67 hMV7 b47 b48 bV7 hb8 bV hb4 b8
  go_wp2_with fail
  go_loopw [7] (fun i wr => ∃ t : Nat, i = .int .i64 t ∧ t ≤ n6 ∧ Turned w8 wr B H vs ys) (fun i _ => n6 - (intOf i).toNat)
  case atStart => exact ⟨0, rfl, Nat.zero_le _, hT⟩
  case round =>
    obtain ⟨t, rfl, ht, hTr⟩ := hrel
    generalize wr = w9 at *
    have c9 := hTr.blk c8 (.inr (Nat.le_refl _))
    have y3 : w9.cell? ⟨H, 3, none⟩ = some (.slice A4 n6 cap4) := c9.cell 3
    by_cases hlt : t < n6
    · have t0 : decide ((t : Int) < (n6 : Int)) = true := decide_eq_true (by omega)
      obtain ⟨gc, cur, rfl, hg1, hg2, hgb, hgv⟩ := HHD.out t hlt
      have hxs : ys[t]? = some (ys[t]'(by rw [HLN.out]; exact hlt)) := List.getElem?_eq_getElem _
      generalize ys[t]'(by rw [HLN.out]; exact hlt) = xs at hxs
      obtain ⟨A', cap', hv, hc1, hc2, _⟩ := hTr.rows t xs hxs
      obtain ⟨L, eL⟩ : ∃ L, xs.length = L := ⟨_, rfl⟩
      rw [eL] at hv hc1
      have hL20 : L ≤ 20 := by rw [← eL]; exact HFS.out.2 xs (List.mem_of_getElem? hxs)
      have i0 : (0 : Int) ≤ (t : Int) := by omega
      have i1 : (t : Int) < (n6 : Int) := by omega
      have HX := Lib.hid (And.intro hxs (And.intro hv eL))
      have hcv : cur[t]? = some (.slice A' L cap') := (hgv t hlt).trans hv
      clear hxs hv eL hgv
      go_wp2_with fail
      go_loopw [8] (fun i wr => ∃ j : Nat, i = .int .i64 j ∧ j ≤ L ∧ Turned w8 wr B H vs ys) (fun i _ => L - (intOf i).toNat)
      case atStart => exact ⟨0, rfl, Nat.zero_le _, hTr⟩
      case round =>
        obtain ⟨j, rfl, hj, hTs⟩ := hrel
        generalize wr = wa at *
        clear y3 c9
        have ca := hTs.blk c8 (.inr (Nat.le_refl _))
        have ga := hTs.blk hgb (.inl hg2)
        have xa := hTs.blk x8 (.inl (by omega))
        have y3 : wa.cell? ⟨H, 3, none⟩ = some (.slice (some ⟨gc, 0, none⟩) n6 cap4) := ca.cell 3
        have yg : wa.cell? ⟨gc, t, none⟩ = some (.slice A' L cap') := (ga.cell t).trans hcv
        by_cases hjl : j < L
        · have u0 : decide ((j : Int) < (L : Int)) = true := decide_eq_true (by omega)
          obtain ⟨A'', cap'', hv'', _, _, hrow⟩ := hTs.rows t xs HX.out.1
          rw [HX.out.2.2] at hv'' hrow
          obtain ⟨rfl, rfl⟩ : A'' = A' ∧ cap'' = cap' := by
            have := hv''.symm.trans HX.out.2.1
            injection this with this
            injection this with e1 _ e3
            exact ⟨e1, e3⟩
          rcases hrow with h0 | ⟨g', cu, rfl, k1, k2, hbk, hsz⟩
          · omega
          have j0 : (0 : Int) ≤ (j : Int) := by omega
          have j1 : (j : Int) < (L : Int) := by omega
          have ht5 : wa.drew.there g' (j * 5) (five5 x).toArray.size := fun k hk => by
            have hk5 : k < 5 := hk
            have hb2 : Blk wa.drew g' 45 cu := hbk
            refine ⟨?_, hb2.free _⟩
            rw [hb2.cell, Array.getElem?_eq_getElem (by omega)]
            rfl
          have hTd := hTs.drew
          have hTn : Turned w8 (wa.drew.setCells g' (j * 5) (five5 x).toArray.toList) B H vs ys := hTd.set_ k1 k2
          have m0 : wa.drew.cell? ⟨w.heap.size + 1, 0, none⟩ = some (.int .i64 x.o) := xa.cell 0
          have m1 : wa.drew.cell? ⟨w.heap.size + 1, 1, none⟩ = some (.int .i64 x.a) := xa.cell 1
          have m2 : wa.drew.cell? ⟨w.heap.size + 1, 2, none⟩ = some (.int .i64 x.b) := xa.cell 2
          have m3 : wa.drew.cell? ⟨w.heap.size + 1, 3, none⟩ = some (.int .i64 x.c) := xa.cell 3
          have m4 : wa.drew.cell? ⟨w.heap.size + 1, 4, none⟩ = some (.int .i64 x.n) := xa.cell 4
          have xn := hTn.blk x8 (.inl (by omega))
          have cn := hTn.blk c8 (.inr (Nat.le_refl _))
          have gn := hTn.blk hgb (.inl hg2)
          have HK : Hid ((wa.drew.setCells g' (j * 5) (five5 x).toArray.toList).cell? ⟨H, 3, none⟩ = some (.slice (some ⟨gc, 0, none⟩) n6 cap4) ∧ (wa.drew.setCells g' (j * 5) (five5 x).toArray.toList).cell? ⟨gc, t, none⟩ = some (.slice (some ⟨g', 0, none⟩) L cap'') ∧
              (wa.drew.setCells g' (j * 5) (five5 x).toArray.toList).cell? ⟨w.heap.size + 1, 0, none⟩ = some (.int .i64 x.o) ∧ (wa.drew.setCells g' (j * 5) (five5 x).toArray.toList).cell? ⟨w.heap.size + 1, 1, none⟩ = some (.int .i64 x.a) ∧ (wa.drew.setCells g' (j * 5) (five5 x).toArray.toList).cell? ⟨w.heap.size + 1, 2, none⟩ = some (.int .i64 x.b) ∧ (wa.drew.setCells g' (j * 5) (five5 x).toArray.toList).cell? ⟨w.heap.size + 1, 3, none⟩ = some (.int .i64 x.c) ∧ (wa.drew.setCells g' (j * 5) (five5 x).toArray.toList).cell? ⟨w.heap.size + 1, 4, none⟩ = some (.int .i64 x.n)) := Lib.hid ⟨cn.cell 3, (gn.cell t).trans hcv, xn.cell 0, xn.cell 1, xn.cell 2, xn.cell 3, xn.cell 4⟩
          have HQ := Lib.hid hTn
          have HT5 := Lib.hid ht5
          clear hTn hTd ht5 hbk hsz xn cn gn ca ga xa hTs hTr
          go_wp2_with fail
          refine wp_region_noPanic ?_
          refine wp_region_held_drew (S := fun W => W.cell? ⟨H, 3, none⟩ = some (.slice (some ⟨gc, 0, none⟩) n6 cap4) ∧ W.cell? ⟨gc, t, none⟩ = some (.slice (some ⟨g', 0, none⟩) L cap'') ∧ W.cell? ⟨w.heap.size + 1, 0, none⟩ = some (.int .i64 x.o) ∧ W.cell? ⟨w.heap.size + 1, 1, none⟩ = some (.int .i64 x.a) ∧ W.cell? ⟨w.heap.size + 1, 2, none⟩ = some (.int .i64 x.b) ∧ W.cell? ⟨w.heap.size + 1, 3, none⟩ = some (.int .i64 x.c) ∧ W.cell? ⟨w.heap.size + 1, 4, none⟩ = some (.int .i64 x.n)) (by kernel_rfl) ⟨y3, yg, m0, m1, m2, m3, m4⟩ (fun hHeld => ?_)
          refine wpAnyH_take (i := 0) (oi := ⟨some 38, _, _, _, _, _⟩) (v := ?_) rfl (by kernel_rfl) (by kernel_rfl) (by kernel_rfl) (fun _ _ _ h => h) (Or.inl ⟨by rfl, ?_⟩) (by assumption) ?_
          rotate_left 1
          · (intro W hSw; go_simp <;> with_reducible rfl)
          try simp only [Act.put, List.setIfInBounds_toArray, List.set_cons_zero, List.set_cons_succ]
          refine wpAnyH_take (i := 1) (oi := ⟨some 39, _, _, _, _, _⟩) (v := ?_) rfl (by kernel_rfl) (by kernel_rfl) (by kernel_rfl) (fun _ _ _ h => h) (Or.inl ⟨by rfl, ?_⟩) (by assumption) ?_
          rotate_left 1
          · (intro W hSw; go_simp <;> with_reducible rfl)
          try simp only [Act.put, List.setIfInBounds_toArray, List.set_cons_zero, List.set_cons_succ]
          refine wpAnyH_take (i := 2) (oi := ⟨some 40, _, _, _, _, _⟩) (v := ?_) rfl (by kernel_rfl) (by kernel_rfl) (by kernel_rfl) (fun _ _ _ h => h) (Or.inl ⟨by rfl, ?_⟩) (by assumption) ?_
          rotate_left 1
          · (intro W hSw; go_simp <;> with_reducible rfl)
          try simp only [Act.put, List.setIfInBounds_toArray, List.set_cons_zero, List.set_cons_succ]
          refine wpAnyH_take (i := 3) (oi := ⟨some 41, _, _, _, _, _⟩) (v := ?_) rfl (by kernel_rfl) (by kernel_rfl) (by kernel_rfl) (fun _ _ _ h => h) (Or.inl ⟨by rfl, ?_⟩) (by assumption) ?_
          rotate_left 1
          · (intro W hSw; go_simp <;> with_reducible rfl)
          try simp only [Act.put, List.setIfInBounds_toArray, List.set_cons_zero, List.set_cons_succ]
          refine wpAnyH_take (i := 4) (oi := ⟨some 42, _, _, _, _, _⟩) (v := ?_) rfl (by kernel_rfl) (by kernel_rfl) (by kernel_rfl) (fun _ _ _ h => h) (Or.inl ⟨by rfl, ?_⟩) (by assumption) ?_
          rotate_left 1
          · (intro W hSw; go_simp <;> with_reducible rfl)
          try simp only [Act.put, List.setIfInBounds_toArray, List.set_cons_zero, List.set_cons_succ]
          refine wpAnyH_take (i := 5) (oi := ⟨some 43, _, _, _, _, _⟩) (v := ?_) rfl (by kernel_rfl) (by kernel_rfl) (by kernel_rfl) (fun _ _ _ h => h) (Or.inl ⟨by rfl, ?_⟩) (by assumption) ?_
          rotate_left 1
          · (intro W hSw; go_simp <;> with_reducible rfl)
          try simp only [Act.put, List.setIfInBounds_toArray, List.set_cons_zero, List.set_cons_succ]
          refine wpAnyH_take (i := 6) (oi := ⟨some 44, _, _, _, _, _⟩) (v := ?_) rfl (by kernel_rfl) (by kernel_rfl) (by kernel_rfl) (fun _ _ _ h => h) (Or.inl ⟨by rfl, ?_⟩) (by assumption) ?_
          rotate_left 1
          · (intro W hSw; go_simp <;> with_reducible rfl)
          try simp only [Act.put, List.setIfInBounds_toArray, List.set_cons_zero, List.set_cons_succ]
          refine wpAnyH_take (i := 7) (oi := ⟨some 45, _, _, _, _, _⟩) (v := ?_) rfl (by kernel_rfl) (by kernel_rfl) (by kernel_rfl) (fun _ _ _ h => h) (Or.inl ⟨by rfl, ?_⟩) (by assumption) ?_
          rotate_left 1
          · (intro W hSw; go_simp <;> with_reducible rfl)
          try simp only [Act.put, List.setIfInBounds_toArray, List.set_cons_zero, List.set_cons_succ]
          refine wpAnyH_ready (rs := [8]) (by kernel_rfl) (by simp) ?_
          refine AllReadyH.cons rfl (fun K hK => ?_) AllReadyH.nil
          rw [if_pos (by rfl)]
          refine wp_store_mid 45 (.tmp 45) (.tmp 44) rfl g' (j * 5) (five5 x).toArray rfl rfl HT5.out (five5_size x) (five5_one x) ?_
          refine hK.out _ _ HK.out (fun hHeld2 => ?_)
          clear hK K hHeld
          try simp only [Act.put, List.setIfInBounds_toArray, List.set_cons_zero, List.set_cons_succ]
          refine wpAnyH_done (by kernel_rfl) ?_ _
          refine NoPanic.normal ?_
          clear hHeld2 m0 m1 m2 m3 m4 y3 yg
          go_wp2
          go_roundw
          case rel => exact ⟨j + 1, by go_num, by omega, HQ.out⟩
          case measure => simp [intOf]; omega
        · obtain rfl : j = L := by omega
          have u0 : decide ((j : Int) < (j : Int)) = false := decide_eq_false (by omega)
          clear ca ga xa hTr
          have HQ := Lib.hid hTs
          clear hTs
          go_wp2
          go_roundw
          case rel => exact ⟨t + 1, by go_num, by omega, HQ.out⟩
          case measure => simp [intOf]; omega
    · obtain rfl : t = n6 := by omega
      have t0 : decide ((t : Int) < (t : Int)) = false := decide_eq_false (by omega)
      have d9 := hTr.blk d8 (.inr (by omega))
      have q9 := hTr.blk q8 (.inl (by omega))
      have f0 : w9.cell? ⟨G, 0, none⟩ = some (.int .i64 r) := d9.cell 0
      have f1 : w9.cell? ⟨G, 1, none⟩ = some (.int .i64 c) := d9.cell 1
      have f2 : w9.cell? ⟨G, 2, none⟩ = some (.int .i64 s) := d9.cell 2
      have f3 : w9.cell? ⟨G, 3, none⟩ = some (.slice A6 t cap6) := d9.cell 3
      have v0 : w9.cell? ⟨w.heap.size, 0, none⟩ = some (.int .i64 r) := q9.cell 0
      have v1 : w9.cell? ⟨w.heap.size, 1, none⟩ = some (.int .i64 c) := q9.cell 1
      have v2 : w9.cell? ⟨w.heap.size, 2, none⟩ = some (.int .i64 s) := q9.cell 2
      have v3 : w9.cell? ⟨w.heap.size, 3, none⟩ = some (.slice A2 t cap2) := q9.cell 3
      have hsT := hTr.size
      have hM69 : Mat w9 (From W7 W5.heap.size) A6 t cap6 ys := hM68.keep fun p hp => cell_blk p (hTr.block _ (Nat.lt_of_lt_of_le hp.2 HWS.out.1) (.inr (by have := hp.1; omega)))
      have hMV9 : Mat w9 (fun g => g < V.heap.size) A2 t cap2 ys := hMV8.keep fun p hp => cell_blk p (hTr.block _ (by have := HWS.out; omega) (.inl (by omega)))
      have hC := prog_same r c s hM69 hMV9 (fun g hg => by have := hg.2; have := HWS.out; omega) (fun g hg => by have := HWS.out; omega)
      have HQ := Lib.hid (hBB.out.trans ((hTr.below (by have := HWS.out; omega)).mono (by omega)))
      clear hM69 hMV9 hM68 hMV8 hTr d9 q9 d8 q8 x8 c8 c9
      go_wp2_with fail
      refine hC.mono ?_
      rintro e w10 ⟨rfl, hb10⟩
      have HR := Lib.hid (HQ.out.trans (hb10.mono HQ.out.size))
      clear hC hb10
      go_wp2
      go_ret
      exact ⟨by simp, HR.out⟩
end Go.Proofs.YtcbekkbhhepeaaaDoor
