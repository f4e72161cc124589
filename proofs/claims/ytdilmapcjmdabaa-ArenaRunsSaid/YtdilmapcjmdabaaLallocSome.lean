/- The law's own alloc: a cell of both. Conditions: at most 1000 changes. -/
import Derived.Test.YtdilmapcjmdabaaLalloc
namespace Go.Proofs.Ytdilmapcjmdabaa
open Go.ChangeShapes Go.WideShapes Go.RowKit
set_option linter.unusedSimpArgs false
section
variable {w w' : World} {p z : Nat} {L : Lim} {s : Sta} {H : His} {r : Rim} {bk : Array Value} {o : OpR}
set_option maxRecDepth 100000 in
set_option maxHeartbeats 1000000 in
theorem lalloc_some {m : Mov} (h : Pair w p L s H r) (hh : H.length ≤ 1000) (hm : allM s o.b o.d = some m) :
    Calls Try.prog 33 #[.pointer (some ⟨p, 0, none⟩), .agg (r.bk (H.length : Int)), .agg o.cs.toArray] w (Ran w p L s H (some m)) := by
  obtain ⟨z, ez⟩ : ∃ z, z = w.heap.size := ⟨_, rfl⟩
  obtain ⟨W0, eW0⟩ : ∃ W, W = ((w.alloc (.cells (r.bk (H.length : Int)) 34)).alloc (.cells o.cs.toArray 38)).alloc (.cells #[.slice none 0 0, .slice none 0 0, .int .i64 0] 34) := ⟨_, rfl⟩
  have hb0 : Below w.heap.size w W0 := by rw [eW0]; exact (((Below.refl _ w).alloc (Nat.le_refl _) _).alloc (by simp) _).alloc (by simp; omega) _
  have B0 : Boxes W0 z (r.bk (H.length : Int)) o := by rw [eW0, ez]; exact boxes_new _ _ _
  have h0 := h.below hb0
  have c3 : W0.cell? ⟨z + 1, 3, none⟩ = some (.int .i64 o.b) := B0.op.cell 3
  have c4 : W0.cell? ⟨z + 1, 4, none⟩ = some (.int .i64 o.d) := B0.op.cell 4
  have hall := alloc_any (b := o.b) (d := o.d) h0.ara h0.inv hh
  have hcan := can_all hm
  have HC := Lib.hid hcan
  rw [hm] at hall
  have EZ := Lib.hid ez
  have EW := Lib.hid eW0
  rw [eW0, ez] at c3 c4
  clear eW0
  go_enter Try.func33, Try.ntmps33
  go_wp2_with fail
  rw [← EW.out, ← ez]
  clear ez c3 c4
  refine hall.mono ?_
  rintro e w1 ⟨rfl, hd⟩
  obtain ⟨L1, hA1, hR1, hk1, hm1, ho1⟩ := h0.moved hd
  have B1 := B0.turned h0.ara hd
  have hA1' : Ara w1 p L1 (s.turn m) ((⟨m.k, m.was⟩, s) :: H) := hA1
  have hlt1 := hA1.lt
  clear hA1
  have hB : Blk (w1.alloc (.cells #[.int .i64 0, .int .i64 0, .int .i64 0] 24)) w1.heap.size 24 #[.int .i64 0, .int .i64 0, .int .i64 0] := heap_alloc_new w1 _
  obtain ⟨w2, ew2⟩ : ∃ W, W = (w1.alloc (.cells #[.int .i64 0, .int .i64 0, .int .i64 0] 24)).setRow w1.heap.size #[.int .i64 m.k, .int .i64 m.k, .int .i64 m.to.g] := ⟨_, rfl⟩
  have hb12 : Below w1.heap.size w1 w2 := by rw [ew2]; exact below_setRow ((Below.refl _ w1).alloc (Nat.le_refl _) _) (Nat.le_refl _) _
  have X2 : Blk w2 w1.heap.size 24 #[.int .i64 m.k, .int .i64 m.k, .int .i64 m.to.g] := by rw [ew2]; exact setRow_heap _ _ _ _ _ _ hB
  have hA2 := hA1'.below hb12
  have hR2 := hR1.below hb12
  have B2 := B1.below hb12
  have d0 : w2.cell? ⟨z, 0, none⟩ = some (.slice r.Ac r.n r.cc) := B2.book.cell 0
  have d1 : w2.cell? ⟨z, 1, none⟩ = some (.slice r.Ar r.m r.cr) := B2.book.cell 1
  have d3 : w2.cell? ⟨z + 1, 3, none⟩ = some (.int .i64 o.b) := B2.op.cell 3
  have d4 : w2.cell? ⟨z + 1, 4, none⟩ = some (.int .i64 o.d) := B2.op.cell 4
  have hr := rall_any (b := o.b) (d := o.d) hR2 h0.inv
  rw [hm] at hr
  go_wp2_with (refine wpList_store_row rfl 24 (.tmp 8) (.tmp 19) rfl w1.heap.size #[.int .i64 m.k, .int .i64 m.k, .int .i64 m.to.g] rfl rfl 24 #[.int .i64 0, .int .i64 0, .int .i64 0] hB size24 rfl (by simp [Value.oneCell']) ?_; rw [← ew2]; clear ew2 hB)
  refine hr.mono ?_
  rintro e w3 ⟨r3, rfl, hR3, hb23, hN3⟩
  have hA3 := hA2.below hb23
  have B3 := B2.below hb23
  have X3 := X2.on hb23
  clear d0 d1 d3 d4 hr hall
  have hI' := h0.inv.turn hcan
  have hcel : (s.turn m).cel m.k = some m.to := by rw [cel_turn hcan.at_]; exact if_pos rfl
  have hR3' : Ref w3 r3 (s.turn m) := hR3
  obtain ⟨j, gC, hk, hj, hjn, hjl, eA, ⟨cs0, hgC⟩, hrg, hw⟩ := ref_at hR3' hcel
  have hn36 : r3.n ≤ 6 := by have := hR3'.lenC; have := hI'.le; omega
  obtain ⟨Ac3, cc3, n3, Ar3, cr3, mm3⟩ := r3
  dsimp only at eA hjl hn36
  subst eA
  have hk1' : (1 : Int) ≤ m.k := by omega
  clear hI' hj hjn hw
  have hB4 : Blk (w3.alloc (.cells #[.slice none 0 0, .slice none 0 0] 31)) w3.heap.size 31 #[.slice none 0 0, .slice none 0 0] := heap_alloc_new w3 _
  obtain ⟨w4, ew4⟩ : ∃ W, W = (w3.alloc (.cells #[.slice none 0 0, .slice none 0 0] 31)).setRow w3.heap.size (⟨some ⟨gC, 0, none⟩, cc3, n3, Ar3, cr3, mm3⟩ : Rim).cs := ⟨_, rfl⟩
  have hb34 : Below w3.heap.size w3 w4 := by rw [ew4]; exact below_setRow ((Below.refl _ w3).alloc (Nat.le_refl _) _) (Nat.le_refl _) _
  have Y4 : Blk w4 w3.heap.size 31 #[.slice (some ⟨gC, 0, none⟩) n3 cc3, .slice Ar3 mm3 cr3] := by rw [ew4]; exact setRow_heap _ _ _ _ _ _ hB4
  have B4 := B3.below hb34
  have X4 := X3.on hb34
  have q0 : w4.cell? ⟨w3.heap.size, 0, none⟩ = some (.slice (some ⟨gC, 0, none⟩) n3 cc3) := Y4.cell 0
  have q1 : w4.cell? ⟨w3.heap.size, 1, none⟩ = some (.slice Ar3 mm3 cr3) := Y4.cell 1
  have d0 : w4.cell? ⟨z, 0, none⟩ = some (.slice r.Ac r.n r.cc) := B4.book.cell 0
  have d1 : w4.cell? ⟨z, 1, none⟩ = some (.slice r.Ar r.m r.cr) := B4.book.cell 1
  have f0 := B4.book.free 0
  have f1 := B4.book.free 1
  have d2 : w4.cell? ⟨z, 2, none⟩ = some (.int .i64 (H.length : Int)) := B4.book.cell 2
  have f2 := B4.book.free 2
  have hnum : numM (some m) = m.k := rfl
  have t0 : (m.k == 0) = false := by simp; omega
  have hl1 : (0 : Int) ≤ (H.length : Int) := by omega
  have hl2 : (H.length : Int) ≤ 1000 := by omega
  go_wp2_with (refine wpList_store_row rfl 31 (.tmp 10) (.tmp 29) rfl w3.heap.size (⟨some ⟨gC, 0, none⟩, cc3, n3, Ar3, cr3, mm3⟩ : Rim).cs rfl rfl 31 #[.slice none 0 0, .slice none 0 0] hB4 (szcs _) rfl (one31 _) ?_; rw [← ew4]; clear ew4 hB4)
  obtain ⟨w5, ew5⟩ : ∃ W, W = ((w4.setCell ⟨z, 0, none⟩ (.slice (some ⟨gC, 0, none⟩) n3 cc3)).setCell ⟨z, 1, none⟩ (.slice Ar3 mm3 cr3)).setCell ⟨z, 2, none⟩ (.int .i64 ((H.length : Int) + 1)) := ⟨_, rfl⟩
  have K5 : Kept (fun g => g = z) w4 w5 := by rw [ew5]; exact ((kept_cell w4 ⟨z, 0, none⟩ (.slice (some ⟨gC, 0, none⟩) n3 cc3)).next (kept_cell _ ⟨z, 1, none⟩ (.slice Ar3 mm3 cr3)) (fun _ e => .inl e)).next (kept_cell _ ⟨z, 2, none⟩ (.int .i64 ((H.length : Int) + 1))) (fun _ e => .inl e)
  have B5 : Blk w5 z 34 #[.slice (some ⟨gC, 0, none⟩) n3 cc3, .slice Ar3 mm3 cr3, .int .i64 ((H.length : Int) + 1)] := by rw [ew5]; exact blk_set (blk_set (blk_set B4.book 0 (.slice (some ⟨gC, 0, none⟩) n3 cc3)) 1 (.slice Ar3 mm3 cr3)) 2 (.int .i64 ((H.length : Int) + 1))
  have hz0 : z < W0.heap.size := B0.book.lt
  have R5 : Blk w5 (z + 1 + 1) 34 #[.slice none 0 0, .slice none 0 0, .int .i64 0] := B4.res.kept K5 (by omega)
  have hz2 := B0.res.lt
  have X5 : Blk w5 w1.heap.size 24 #[.int .i64 m.k, .int .i64 m.k, .int .i64 m.to.g] := X4.kept K5 (by have := hk1.size; omega)
  have P5a := hA3.below hb34
  have hR5 : Ref w5 ⟨some ⟨gC, 0, none⟩, cc3, n3, Ar3, cr3, mm3⟩ (s.turn m) := (hR3'.below hb34).kept K5 (fun g hg e => by have := hN3 g hg; have e : g = z := e; have := hk1.size; have := hb12.size; omega)
  have v0 : w5.drew.cell? ⟨z, 0, none⟩ = some (.slice (some ⟨gC, 0, none⟩) n3 cc3) := B5.cell 0
  have v1 : w5.drew.cell? ⟨z, 1, none⟩ = some (.slice Ar3 mm3 cr3) := B5.cell 1
  have v2 : w5.drew.cell? ⟨z, 2, none⟩ = some (.int .i64 ((H.length : Int) + 1)) := B5.cell 2
  have x0 : w5.drew.cell? ⟨w1.heap.size, 0, none⟩ = some (.int .i64 m.k) := X5.cell 0
  have x1 : w5.drew.cell? ⟨w1.heap.size, 1, none⟩ = some (.int .i64 m.k) := X5.cell 1
  have x2 : w5.drew.cell? ⟨w1.heap.size, 2, none⟩ = some (.int .i64 m.to.g) := X5.cell 2
  have y0 : w5.drew.cell? ⟨z + 1 + 1, 0, none⟩ = some (.slice none 0 0) := R5.cell 0
  have y1 : w5.drew.cell? ⟨z + 1 + 1, 1, none⟩ = some (.slice none 0 0) := R5.cell 1
  have y2 : w5.drew.cell? ⟨z + 1 + 1, 2, none⟩ = some (.int .i64 0) := R5.cell 2
  have y3 : w5.drew.frozen? ⟨z + 1 + 1, 0, none⟩ = false := R5.free 0
  have y4 : w5.drew.frozen? ⟨z + 1 + 1, 1, none⟩ = false := R5.free 1
  have y5 : w5.drew.frozen? ⟨z + 1 + 1, 2, none⟩ = false := R5.free 2
  have y6 : w5.cell? ⟨z + 1 + 1, 1, none⟩ = some (.slice none 0 0) := y1
  have y7 : w5.cell? ⟨z + 1 + 1, 2, none⟩ = some (.int .i64 0) := y2
  have y8 : w5.frozen? ⟨z + 1 + 1, 1, none⟩ = false := y4
  have y9 : w5.frozen? ⟨z + 1 + 1, 2, none⟩ = false := y5
  have Y5 : Blk w5 w3.heap.size 31 #[.slice (some ⟨gC, 0, none⟩) n3 cc3, .slice Ar3 mm3 cr3] := Y4.kept K5 (by have := hk1.size; have := hb12.size; have := hb23.size; omega)
  have q5 : w5.drew.cell? ⟨w3.heap.size, 0, none⟩ = some (.slice (some ⟨gC, 0, none⟩) n3 cc3) := Y5.cell 0
  have hgz : ¬ gC = z := by have := hN3 gC (.inl rfl); have := hk1.size; have := hb12.size; omega
  have cG : w5.drew.cell? ⟨gC, j * 10 + 1, none⟩ = some (.int .i64 m.to.g) := by
    have hG4 := hgC.on hb34
    refine (World.cell?_of_block (w := w4) (K5.block gC hG4.lt hgz)).trans ?_
    exact (hb34.cell (p := ⟨gC, j * 10 + 1, none⟩) hgC.lt).trans (hrg 1 _ rfl)
  have hwj : IntKind.i64.wrap (j : Int) = (j : Int) := by rw [IntKind.wrap_i64]; omega
  have hne : w1.heap.size ≠ z + 1 + 1 := by have := hk1.size; omega
  have hnz : z ≠ z + 1 + 1 := by omega
  rw [← ew5]
  have HQ := Lib.hid (And.intro P5a (And.intro hR5 (And.intro R5 (And.intro K5 B4))))
  clear ew5 K5 B5 R5 X5 P5a hR5 B4 X4 Y4 q0 q1 d0 d1 d2 f0 f1 f2 B3 X3 hA2 hA3 hR2 B2 X2 B1 hA1' hd hR1 EW Y5 hR3 hR3' hgC hrg hcel hcan hm
  have hgq : gC ≠ z + 1 + 1 := by have := hN3 gC (.inl rfl); have := hk1.size; have := hb12.size; omega
  have hnq : w3.heap.size ≠ z + 1 + 1 := by have := hk1.size; have := hb12.size; have := hb23.size; omega
  refine wp_region_noPanic ?_
  refine wp_region_held_drew (S := fun W => W.cell? ⟨z, 0, none⟩ = some (.slice (some ⟨gC, 0, none⟩) n3 cc3) ∧ W.cell? ⟨z, 1, none⟩ = some (.slice Ar3 mm3 cr3) ∧ W.cell? ⟨z, 2, none⟩ = some (.int .i64 ((H.length : Int) + 1)) ∧ W.cell? ⟨w1.heap.size, 0, none⟩ = some (.int .i64 m.k) ∧ W.cell? ⟨w1.heap.size, 1, none⟩ = some (.int .i64 m.k) ∧ W.cell? ⟨w1.heap.size, 2, none⟩ = some (.int .i64 m.to.g) ∧ W.cell? ⟨w3.heap.size, 0, none⟩ = some (.slice (some ⟨gC, 0, none⟩) n3 cc3) ∧ W.cell? ⟨gC, j * 10 + 1, none⟩ = some (.int .i64 m.to.g)) (by kernel_rfl) ⟨v0, v1, v2, x0, x1, x2, q5, cG⟩ (fun hHeld => ?_)
  refine wpAnyH_take (i := 0) (oi := ⟨some 47, _, _, _, _, _⟩) (v := ?_) rfl (by kernel_rfl) (by kernel_rfl) (by kernel_rfl) (fun _ _ _ h => h) (Or.inl ⟨by rfl, ?_⟩) (by assumption) ?_
  rotate_left 1
  · (intro W hSw; obtain ⟨s0, s1, s2, s3, s4, s5, s6, s7⟩ := hSw; go_simp <;> with_reducible rfl)
  try simp only [Act.put, List.setIfInBounds_toArray, List.set_cons_zero, List.set_cons_succ]
  refine wpAnyH_take (i := 1) (oi := ⟨some 48, _, _, _, _, _⟩) (v := ?_) rfl (by kernel_rfl) (by kernel_rfl) (by kernel_rfl) (fun _ _ _ h => h) (Or.inl ⟨by rfl, ?_⟩) (by assumption) ?_
  rotate_left 1
  · (intro W hSw; go_simp <;> with_reducible rfl)
  try simp only [Act.put, List.setIfInBounds_toArray, List.set_cons_zero, List.set_cons_succ]
  refine wpAnyH_take (i := 2) (oi := ⟨some 49, _, _, _, _, _⟩) (v := ?_) rfl (by kernel_rfl) (by kernel_rfl) (by kernel_rfl) (fun _ _ _ h => h) (Or.inl ⟨by rfl, ?_⟩) (by assumption) ?_
  rotate_left 1
  · (intro W hSw; go_simp <;> with_reducible rfl)
  try simp only [Act.put, List.setIfInBounds_toArray, List.set_cons_zero, List.set_cons_succ]
  refine wpAnyH_take (i := 3) (oi := ⟨some 50, _, _, _, _, _⟩) (v := ?_) rfl (by kernel_rfl) (by kernel_rfl) (by kernel_rfl) (fun _ _ _ h => h) (Or.inl ⟨by rfl, ?_⟩) (by assumption) ?_
  rotate_left 1
  · (intro W hSw; obtain ⟨s0, s1, s2, s3, s4, s5, s6, s7⟩ := hSw; go_simp <;> with_reducible rfl)
  try simp only [Act.put, List.setIfInBounds_toArray, List.set_cons_zero, List.set_cons_succ]
  refine wpAnyH_take (i := 4) (oi := ⟨some 51, _, _, _, _, _⟩) (v := ?_) rfl (by kernel_rfl) (by kernel_rfl) (by kernel_rfl) (fun _ _ _ h => h) (Or.inl ⟨by rfl, ?_⟩) (by assumption) ?_
  rotate_left 1
  · (intro W hSw; go_simp <;> with_reducible rfl)
  try simp only [Act.put, List.setIfInBounds_toArray, List.set_cons_zero, List.set_cons_succ]
  refine wpAnyH_take (i := 5) (oi := ⟨some 52, _, _, _, _, _⟩) (v := ?_) rfl (by kernel_rfl) (by kernel_rfl) (by kernel_rfl) (fun _ _ _ h => h) (Or.inl ⟨by rfl, ?_⟩) (by assumption) ?_
  rotate_left 1
  · (intro W hSw; go_simp <;> with_reducible rfl)
  try simp only [Act.put, List.setIfInBounds_toArray, List.set_cons_zero, List.set_cons_succ]
  refine wpAnyH_take (i := 6) (oi := ⟨some 53, _, _, _, _, _⟩) (v := ?_) rfl (by kernel_rfl) (by kernel_rfl) (by kernel_rfl) (fun _ _ _ h => h) (Or.inl ⟨by rfl, ?_⟩) (by assumption) ?_
  rotate_left 1
  · (intro W hSw; go_simp <;> with_reducible rfl)
  try simp only [Act.put, List.setIfInBounds_toArray, List.set_cons_zero, List.set_cons_succ]
  refine wpAnyH_take (i := 7) (oi := ⟨some 54, _, _, _, _, _⟩) (v := ?_) rfl (by kernel_rfl) (by kernel_rfl) (by kernel_rfl) (fun _ _ _ h => h) (Or.inl ⟨by rfl, ?_⟩) (by assumption) ?_
  rotate_left 1
  · (intro W hSw; obtain ⟨s0, s1, s2, s3, s4, s5, s6, s7⟩ := hSw; go_simp <;> with_reducible rfl)
  try simp only [Act.put, List.setIfInBounds_toArray, List.set_cons_zero, List.set_cons_succ]
  refine wpAnyH_take (i := 8) (oi := ⟨some 55, _, _, _, _, _⟩) (v := ?_) rfl (by kernel_rfl) (by kernel_rfl) (by kernel_rfl) (fun _ _ _ h => h) (Or.inl ⟨by rfl, ?_⟩) (by assumption) ?_
  rotate_left 1
  · (intro W hSw; go_simp <;> with_reducible rfl)
  try simp only [Act.put, List.setIfInBounds_toArray, List.set_cons_zero, List.set_cons_succ]
  refine wpAnyH_take (i := 9) (oi := ⟨some 56, _, _, _, _, _⟩) (v := ?_) rfl (by kernel_rfl) (by kernel_rfl) (by kernel_rfl) (fun _ _ _ h => h) (Or.inl ⟨by rfl, ?_⟩) (by assumption) ?_
  rotate_left 1
  · (intro W hSw; go_simp <;> with_reducible rfl)
  try simp only [Act.put, List.setIfInBounds_toArray, List.set_cons_zero, List.set_cons_succ]
  refine wpAnyH_take (i := 10) (oi := ⟨some 57, _, _, _, _, _⟩) (v := ?_) rfl (by kernel_rfl) (by kernel_rfl) (by kernel_rfl) (fun _ _ _ h => h) (Or.inl ⟨by rfl, ?_⟩) (by assumption) ?_
  rotate_left 1
  · (intro W hSw; go_simp <;> with_reducible rfl)
  try simp only [Act.put, List.setIfInBounds_toArray, List.set_cons_zero, List.set_cons_succ]
  refine wpAnyH_take (i := 11) (oi := ⟨some 58, _, _, _, _, _⟩) (v := ?_) rfl (by kernel_rfl) (by kernel_rfl) (by kernel_rfl) (fun _ _ _ h => h) (Or.inl ⟨by rfl, ?_⟩) (by assumption) ?_
  rotate_left 1
  · (intro W hSw; go_simp <;> with_reducible rfl)
  try simp only [Act.put, List.setIfInBounds_toArray, List.set_cons_zero, List.set_cons_succ]
  refine wpAnyH_take (i := 12) (oi := ⟨some 59, _, _, _, _, _⟩) (v := ?_) rfl (by kernel_rfl) (by kernel_rfl) (by kernel_rfl) (fun _ _ _ h => h) (Or.inl ⟨by rfl, ?_⟩) (by assumption) ?_
  rotate_left 1
  · (intro W hSw; obtain ⟨s0, s1, s2, s3, s4, s5, s6, s7⟩ := hSw; go_simp <;> with_reducible rfl)
  try simp only [Act.put, List.setIfInBounds_toArray, List.set_cons_zero, List.set_cons_succ]
  refine wpAnyH_take (i := 13) (oi := ⟨some 60, _, _, _, _, _⟩) (v := ?_) rfl (by kernel_rfl) (by kernel_rfl) (by kernel_rfl) (fun _ _ _ h => h) (Or.inl ⟨by rfl, ?_⟩) (by assumption) ?_
  rotate_left 1
  · (intro W hSw; go_simp <;> with_reducible rfl)
  try simp only [Act.put, List.setIfInBounds_toArray, List.set_cons_zero, List.set_cons_succ]
  refine wpAnyH_take (i := 14) (oi := ⟨some 61, _, _, _, _, _⟩) (v := ?_) rfl (by kernel_rfl) (by kernel_rfl) (by kernel_rfl) (fun _ _ _ h => h) (Or.inl ⟨by rfl, ?_⟩) (by assumption) ?_
  rotate_left 1
  · (intro W hSw; go_simp <;> with_reducible rfl)
  try simp only [Act.put, List.setIfInBounds_toArray, List.set_cons_zero, List.set_cons_succ]
  refine wpAnyH_take (i := 15) (oi := ⟨some 62, _, _, _, _, _⟩) (v := ?_) rfl (by kernel_rfl) (by kernel_rfl) (by kernel_rfl) (fun _ _ _ h => h) (Or.inl ⟨by rfl, ?_⟩) (by assumption) ?_
  rotate_left 1
  · (intro W hSw; go_simp <;> with_reducible rfl)
  try simp only [Act.put, List.setIfInBounds_toArray, List.set_cons_zero, List.set_cons_succ]
  refine wpAnyH_ready (rs := [16]) (by kernel_rfl) (by simp) ?_
  refine AllReadyH.cons rfl (fun K hK => ?_) AllReadyH.nil
  rw [if_pos (by rfl)]
  have HQR : Blk w5.drew (z + 1 + 1) 34 #[.slice none 0 0, .slice none 0 0, .int .i64 0] := HQ.out.2.2.1
  refine wp_store_row 34 (.tmp 6) (.tmp 47) rfl (z + 1 + 1) (Rim.bk ⟨some ⟨gC, 0, none⟩, cc3, n3, Ar3, cr3, mm3⟩ ((H.length : Int) + 1)) rfl rfl 34 #[.slice none 0 0, .slice none 0 0, .int .i64 0] HQR size34 rfl (by simp [Rim.bk, Value.oneCell']) ?_
  have hof : ∀ a : Addr, a.block ≠ z + 1 + 1 → ((w5.drew.setRow (z + 1 + 1) (Rim.bk ⟨some ⟨gC, 0, none⟩, cc3, n3, Ar3, cr3, mm3⟩ ((H.length : Int) + 1))).cell? a) = w5.drew.cell? a := fun a ha => World.cell?_of_block (setRow_other _ _ _ _ ha)
  refine hK.out _ _ ⟨(hof _ hnz).trans v0, (hof _ hnz).trans v1, (hof _ hnz).trans v2, (hof _ hne).trans x0, (hof _ hne).trans x1, (hof _ hne).trans x2, (hof _ hnq).trans q5, (hof _ hgq).trans cG⟩ (fun hHeld1 => ?_)
  clear hK K hof
  simp only [Act.put]
  refine wpAnyH_take (i := 17) (oi := ⟨some 7, _, _, _, _, _⟩) (v := ?_) rfl (by kernel_rfl) (by kernel_rfl) (by kernel_rfl) (fun _ _ _ h => h) (Or.inl ⟨by rfl, ?_⟩) (by assumption) ?_
  rotate_left 1
  · (intro W hSw; go_simp <;> with_reducible rfl)
  try simp only [Act.put, List.setIfInBounds_toArray, List.set_cons_zero, List.set_cons_succ]
  refine wpAnyH_done (by kernel_rfl) ?_ _
  refine NoPanic.normal ?_
  go_wp2
  obtain ⟨P4, hR5, R5, K5, B4⟩ := HQ.out
  have K6 := kept_row w5.drew (z + 1 + 1) (Rim.bk ⟨some ⟨gC, 0, none⟩, cc3, n3, Ar3, cr3, mm3⟩ ((H.length : Int) + 1))
  have K46 : Kept (fun g => g = z ∨ g = z + 1 + 1) w4 (w5.drew.setRow (z + 1 + 1) (Rim.bk ⟨some ⟨gC, 0, none⟩, cc3, n3, Ar3, cr3, mm3⟩ ((H.length : Int) + 1))) := (K5.drew.more (S' := fun g => g = z ∨ g = z + 1 + 1) (fun _ e => .inl e)).next K6 (fun _ e => .inl (.inr e))
  have hR6 := (hR5.kept (kept_below (fun _ => False) (Below.refl _ w5).drew) (fun _ _ e => e)).kept K6 (fun g hg e => by have := hN3 g hg; have e : g = z + 1 + 1 := e; have := hk1.size; have := hb12.size; omega)
  refine bodyPost_ret (res_two (p := 6) (q := 7) (by kernel_rfl) _ _ (z + 1 + 1) (Rim.bk ⟨some ⟨gC, 0, none⟩, cc3, n3, Ar3, cr3, mm3⟩ ((H.length : Int) + 1)) _ rfl rfl (load34 (setRow_heap _ _ _ _ _ _ HQR))) rfl ?_
  have hb14 := (hb12.trans (hb23.mono hb12.size)).trans (hb34.mono (Nat.le_trans hb12.size hb23.size))
  have ez := EZ.out
  have hfar := fun g (hg : mine p L1 g) => show ¬ (g = z ∨ g = z + 1 + 1) from fun e => by
    rcases e with rfl | rfl
    · exact P4.far B4.book (by simp) hg
    · exact P4.far B4.res (by simp) hg
  exact ran_end hb0 hk1 hm1 hb14 K46 (fun g e => by rcases e with e | e <;> omega) hfar P4 (h.inv.turn HC.out) hR6 (fun g hg => Nat.le_trans hb12.size (hN3 g hg)) rfl rfl (by simp) hlt1
theorem lalloc_any (h : Pair w p L s H r) (hh : H.length ≤ 1000) :
    Calls Try.prog 33 #[.pointer (some ⟨p, 0, none⟩), .agg (r.bk (H.length : Int)), .agg o.cs.toArray] w (Ran w p L s H (allM s o.b o.d)) := by
  cases hm : allM s o.b o.d with
  | none => exact lalloc_none h hh hm
  | some m => exact lalloc_some h hh hm
end
end Go.Proofs.Ytdilmapcjmdabaa
