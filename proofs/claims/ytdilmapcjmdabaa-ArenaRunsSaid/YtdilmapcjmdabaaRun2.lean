/- A call on both: kind 2. Conditions: at most 1000 changes. -/
import Derived.Test.YtdilmapcjmdabaaLallocSome
namespace Go.Proofs.Ytdilmapcjmdabaa
open Go.ChangeShapes Go.WideShapes Go.RowKit
section
variable {w w' : World} {p z : Nat} {L : Lim} {s : Sta} {H : His} {r : Rim} {o : OpR}
set_option maxRecDepth 100000 in
set_option maxHeartbeats 1000000 in
theorem run_retire_none (h : Pair w p L s H r) (hh : H.length ≤ 1000) (hk : o.k = 2) (hm : retM s o.c = none) :
    Calls Try.prog 11 #[.pointer (some ⟨p, 0, none⟩), .agg (r.bk (H.length : Int)), .agg o.cs.toArray] w (Ran w p L s H (none)) := by
  obtain ⟨z, ez⟩ : ∃ z, z = w.heap.size := ⟨_, rfl⟩
  obtain ⟨W0, eW0⟩ : ∃ W, W = ((w.alloc (.cells (r.bk (H.length : Int)) 34)).alloc (.cells o.cs.toArray 38)).alloc (.cells #[.slice none 0 0, .slice none 0 0, .int .i64 0] 34) := ⟨_, rfl⟩
  have hb0 : Below w.heap.size w W0 := by rw [eW0]; exact (((Below.refl _ w).alloc (Nat.le_refl _) _).alloc (by simp) _).alloc (by simp; omega) _
  have B0 : Boxes W0 z (r.bk (H.length : Int)) o := by rw [eW0, ez]; exact boxes_new _ _ _
  have e0 : W0.cell? ⟨z, 0, none⟩ = some (.slice r.Ac r.n r.cc) := B0.book.cell 0
  have e1 : W0.cell? ⟨z, 1, none⟩ = some (.slice r.Ar r.m r.cr) := B0.book.cell 1
  have hN : Blk (W0.alloc (.cells #[.slice none 0 0, .slice none 0 0] 31)) W0.heap.size 31 #[.slice none 0 0, .slice none 0 0] := heap_alloc_new W0 _
  obtain ⟨W2, eW2⟩ : ∃ W, W = (W0.alloc (.cells #[.slice none 0 0, .slice none 0 0] 31)).setRow W0.heap.size r.cs := ⟨_, rfl⟩
  have hb02 : Below W0.heap.size W0 W2 := by rw [eW2]; exact below_setRow ((Below.refl _ W0).alloc (Nat.le_refl _) _) (Nat.le_refl _) _
  have N2 : Blk W2 W0.heap.size 31 r.cs := by rw [eW2]; exact setRow_heap _ _ _ _ _ _ hN
  have B2 := B0.below hb02
  have hbw2 : Below w.heap.size w W2 := hb0.trans (hb02.mono hb0.size)
  have h2 := h.below hbw2
  have hprog := retire_any (k := o.c) h2.ara h2.inv hh
  rw [hm] at hprog
  have hz2 := B0.res.lt
  have hszW : W0.heap.size = w.heap.size + 1 + 1 + 1 := by rw [eW0]; simp
  have EZ := Lib.hid ez
  have EW := Lib.hid eW0
  have ES := Lib.hid hszW
  have HN := Lib.hid hN
  rw [hszW] at eW2 hN N2
  have k0 : W2.cell? ⟨z + 1, 0, none⟩ = some (.int .i64 o.k) := B2.op.cell 0
  have k1 : W2.cell? ⟨z + 1, 1, none⟩ = some (.int .i64 o.c) := B2.op.cell 1
  have k2 : W2.cell? ⟨z + 1, 2, none⟩ = some (.int .i64 o.f) := B2.op.cell 2
  have k5 : W2.cell? ⟨z + 1, 5, none⟩ = some (.int .i64 o.x.n) := B2.op.cell 5
  have k6 : W2.cell? ⟨z + 1, 6, none⟩ = some (.int .i64 o.x.c) := B2.op.cell 6
  have k7 : W2.cell? ⟨z + 1, 7, none⟩ = some (.int .i64 o.x.g) := B2.op.cell 7
  have t1 : (o.k == 1) = false := by rw [hk]; decide
  have t2 : (o.k == 2) = true := by rw [hk]; decide
  clear hk
  rw [eW0] at eW2 hN
  rw [eW0, ez] at e0 e1
  rw [ez] at k0 k1 k2 k5 k6 k7
  clear eW0 hszW ez
  go_enter Try.func11, Try.ntmps11
  go_wp2_with (refine wpList_store_row rfl 31 (.tmp 10) (.tmp 12) rfl (w.heap.size + 1 + 1 + 1) r.cs rfl rfl 31 #[.slice none 0 0, .slice none 0 0] hN (szcs r) rfl (one31 r) ?_; rw [← eW2]; clear eW2 hN e0 e1)
  have ez := EZ.out
  rw [← ez] at N2 ⊢
  clear ez k0 k1 k2 k5 k6 k7
  refine hprog.mono ?_
  rintro e w3 ⟨rfl, hd⟩
  obtain ⟨L1, hA1, hR1, hk1, hm1, ho1⟩ := h2.moved hd
  have B3 := B2.turned h2.ara hd
  have N3 : Blk w3 (z + 1 + 1 + 1) 31 r.cs := hd.blk N2 (h2.ara.far N2 (by simp))
  have hA3 : Ara w3 p L1 (s) H := hA1
  have hlt1 := hA1.lt
  have hn3lt : z + 1 + 1 + 1 < w3.heap.size := N3.lt
  have d0 : w3.cell? ⟨z, 0, none⟩ = some (.slice r.Ac r.n r.cc) := B3.book.cell 0
  have d1 : w3.cell? ⟨z, 1, none⟩ = some (.slice r.Ar r.m r.cr) := B3.book.cell 1
  have k1 : w3.cell? ⟨z + 1, 1, none⟩ = some (.int .i64 o.c) := B3.op.cell 1
  have k2 : w3.cell? ⟨z + 1, 2, none⟩ = some (.int .i64 o.f) := B3.op.cell 2
  have k5 : w3.cell? ⟨z + 1, 5, none⟩ = some (.int .i64 o.x.n) := B3.op.cell 5
  have k6 : w3.cell? ⟨z + 1, 6, none⟩ = some (.int .i64 o.x.c) := B3.op.cell 6
  have k7 : w3.cell? ⟨z + 1, 7, none⟩ = some (.int .i64 o.x.g) := B3.op.cell 7
  have hr := rretire_any (k := o.c) hR1 h2.inv
  rw [hm] at hr
  have HC := Lib.hid hm
  go_wp2_with fail
  refine hr.mono ?_
  rintro e w4 ⟨r4, rfl, hR4, hb34, hN4⟩
  have hR4' : Ref w4 r4 (s) := hR4
  have B4 := B3.below hb34
  have N4 := N3.on hb34
  have hA4 := hA3.below hb34
  clear d0 d1 k1 k2 k5 k6 k7 hr hprog hR4 hm
  obtain ⟨Ac4, cc4, n4, Ar4, cr4, mm4⟩ := r4
  obtain ⟨w5, ew5⟩ : ∃ W, W = w4.setRow (z + 1 + 1 + 1) (⟨Ac4, cc4, n4, Ar4, cr4, mm4⟩ : Rim).cs := ⟨_, rfl⟩
  have K45 : Kept (fun g => g = z + 1 + 1 + 1) w4 w5 := by rw [ew5]; exact kept_row w4 _ _
  have N5 : Blk w5 (z + 1 + 1 + 1) 31 #[.slice Ac4 n4 cc4, .slice Ar4 mm4 cr4] := by rw [ew5]; exact setRow_heap _ _ _ _ _ _ N4
  have B5 : Boxes w5 z (r.bk (H.length : Int)) o := ⟨B4.book.kept K45 (by omega), B4.op.kept K45 (by omega), B4.res.kept K45 (by omega)⟩
  have q0 : w5.cell? ⟨z + 1 + 1 + 1, 0, none⟩ = some (.slice Ac4 n4 cc4) := N5.cell 0
  have q1 : w5.cell? ⟨z + 1 + 1 + 1, 1, none⟩ = some (.slice Ar4 mm4 cr4) := N5.cell 1
  have d0 : w5.cell? ⟨z, 0, none⟩ = some (.slice r.Ac r.n r.cc) := B5.book.cell 0
  have d1 : w5.cell? ⟨z, 1, none⟩ = some (.slice r.Ar r.m r.cr) := B5.book.cell 1
  have d2 : w5.cell? ⟨z, 2, none⟩ = some (.int .i64 (H.length : Int)) := B5.book.cell 2
  have f0 := B5.book.free 0
  have f1 := B5.book.free 1
  have f2 := B5.book.free 2
  have y0 : w5.cell? ⟨z + 1 + 1, 0, none⟩ = some (.slice none 0 0) := B5.res.cell 0
  have y1 : w5.cell? ⟨z + 1 + 1, 1, none⟩ = some (.slice none 0 0) := B5.res.cell 1
  have y2 : w5.cell? ⟨z + 1 + 1, 2, none⟩ = some (.int .i64 0) := B5.res.cell 2
  have y3 := B5.res.free 0
  have y4 := B5.res.free 1
  have y5 := B5.res.free 2
  have hl1 : (0 : Int) ≤ (H.length : Int) := by omega
  have hl2 : (H.length : Int) ≤ 1000 := by omega
  have hn1 : z ≠ z + 1 + 1 := by omega
  have hn2 : z + 1 + 1 ≠ z := by omega
  have hn3 : z + 1 + 1 + 1 ≠ z := by omega
  have HQ := Lib.hid (And.intro B5 (And.intro N5 (And.intro K45 (And.intro hA4 (And.intro hR4' (And.intro B4 N4))))))
  clear B5 N5 K45 hA4 hR4' B4 hA3 B3 N3 hR1 hd B2 N2 B0
  go_wp2_with (refine wpList_store_row rfl 31 (.tmp 10) (.tmp 47) rfl (z + 1 + 1 + 1) (⟨Ac4, cc4, n4, Ar4, cr4, mm4⟩ : Rim).cs rfl rfl 31 r.cs N4 (szcs _) rfl (one31 _) ?_; rw [← ew5]; clear ew5 N4)
  obtain ⟨B5, N5, K45, hA4, hR4, B4, N4⟩ := HQ.out
  have B6 : Blk ((w5.setCell ⟨z, 0, none⟩ (.slice Ac4 n4 cc4)).setCell ⟨z, 1, none⟩ (.slice Ar4 mm4 cr4)) z 34 #[.slice Ac4 n4 cc4, .slice Ar4 mm4 cr4, .int .i64 (H.length : Int)] := blk_set (blk_set B5.book 0 (.slice Ac4 n4 cc4)) 1 (.slice Ar4 mm4 cr4)
  have K56 : Kept (fun g => g = z) w5 ((w5.setCell ⟨z, 0, none⟩ (.slice Ac4 n4 cc4)).setCell ⟨z, 1, none⟩ (.slice Ar4 mm4 cr4)) := (kept_cell w5 ⟨z, 0, none⟩ (.slice Ac4 n4 cc4)).next (kept_cell _ ⟨z, 1, none⟩ (.slice Ar4 mm4 cr4)) (fun _ e => .inl e)
  have R6 : Blk ((w5.setCell ⟨z, 0, none⟩ (.slice Ac4 n4 cc4)).setCell ⟨z, 1, none⟩ (.slice Ar4 mm4 cr4)) (z + 1 + 1) 34 #[.slice none 0 0, .slice none 0 0, .int .i64 0] := B5.res.kept K56 (by omega)
  have K67 := setRes_kept ((w5.setCell ⟨z, 0, none⟩ (.slice Ac4 n4 cc4)).setCell ⟨z, 1, none⟩ (.slice Ar4 mm4 cr4)) (z + 1 + 1) ⟨Ac4, cc4, n4, Ar4, cr4, mm4⟩ (H.length : Int)
  have hq := setRes_blk R6 ⟨Ac4, cc4, n4, Ar4, cr4, mm4⟩ (H.length : Int)
  have hsz : W0.heap.size ≤ w3.heap.size := Nat.le_trans hb02.size hk1.size
  have hS : ∀ g, (⟨Ac4, cc4, n4, Ar4, cr4, mm4⟩ : Rim).S g → z + 1 + 1 + 1 < g := fun g hg => by
    have := hN4 g hg
    have := ES.out
    have := EZ.out
    have hb := N4.lt
    have := hn3lt
    omega
  have K47 : Kept (fun g => g = z ∨ g = z + 1 + 1 ∨ g = z + 1 + 1 + 1) w4 (setRes ((w5.setCell ⟨z, 0, none⟩ (.slice Ac4 n4 cc4)).setCell ⟨z, 1, none⟩ (.slice Ar4 mm4 cr4)) (z + 1 + 1) ⟨Ac4, cc4, n4, Ar4, cr4, mm4⟩ (H.length : Int)) := ((K45.more (S' := fun g => g = z ∨ g = z + 1 + 1 ∨ g = z + 1 + 1 + 1) (fun _ e => .inr (.inr e))).next K56 (fun _ e => .inl (.inl e))).next K67 (fun _ e => .inl (.inr (.inl e)))
  have hR7 := hR4.kept K47 (fun g hg e => by have := hS g hg; rcases e with e | e | e <;> omega)
  have ez := EZ.out
  have hfar := fun g (hg : mine p L1 g) => show ¬ (g = z ∨ g = z + 1 + 1 ∨ g = z + 1 + 1 + 1) from fun e => by
    rcases e with rfl | rfl | rfl
    · exact hA4.far B4.book (by simp) hg
    · exact hA4.far B4.res (by simp) hg
    · exact hA4.far N4 (by simp) hg
  refine bodyPost_ret (res_two (p := 6) (q := 7) (by kernel_rfl) _ _ (z + 1 + 1) (Rim.bk ⟨Ac4, cc4, n4, Ar4, cr4, mm4⟩ (H.length : Int)) _ rfl rfl (load34 hq)) rfl ?_
  exact ran_end hbw2 hk1 hm1 hb34 K47 (fun g e => by rcases e with e | e | e <;> omega) hfar hA4 (h.inv) hR7 hN4 rfl rfl rfl hlt1
set_option maxRecDepth 100000 in
set_option maxHeartbeats 1000000 in
theorem run_retire_some {m : Mov} (h : Pair w p L s H r) (hh : H.length ≤ 1000) (hk : o.k = 2) (hm : retM s o.c = some m) :
    Calls Try.prog 11 #[.pointer (some ⟨p, 0, none⟩), .agg (r.bk (H.length : Int)), .agg o.cs.toArray] w (Ran w p L s H (some m)) := by
  obtain ⟨z, ez⟩ : ∃ z, z = w.heap.size := ⟨_, rfl⟩
  obtain ⟨W0, eW0⟩ : ∃ W, W = ((w.alloc (.cells (r.bk (H.length : Int)) 34)).alloc (.cells o.cs.toArray 38)).alloc (.cells #[.slice none 0 0, .slice none 0 0, .int .i64 0] 34) := ⟨_, rfl⟩
  have hb0 : Below w.heap.size w W0 := by rw [eW0]; exact (((Below.refl _ w).alloc (Nat.le_refl _) _).alloc (by simp) _).alloc (by simp; omega) _
  have B0 : Boxes W0 z (r.bk (H.length : Int)) o := by rw [eW0, ez]; exact boxes_new _ _ _
  have e0 : W0.cell? ⟨z, 0, none⟩ = some (.slice r.Ac r.n r.cc) := B0.book.cell 0
  have e1 : W0.cell? ⟨z, 1, none⟩ = some (.slice r.Ar r.m r.cr) := B0.book.cell 1
  have hN : Blk (W0.alloc (.cells #[.slice none 0 0, .slice none 0 0] 31)) W0.heap.size 31 #[.slice none 0 0, .slice none 0 0] := heap_alloc_new W0 _
  obtain ⟨W2, eW2⟩ : ∃ W, W = (W0.alloc (.cells #[.slice none 0 0, .slice none 0 0] 31)).setRow W0.heap.size r.cs := ⟨_, rfl⟩
  have hb02 : Below W0.heap.size W0 W2 := by rw [eW2]; exact below_setRow ((Below.refl _ W0).alloc (Nat.le_refl _) _) (Nat.le_refl _) _
  have N2 : Blk W2 W0.heap.size 31 r.cs := by rw [eW2]; exact setRow_heap _ _ _ _ _ _ hN
  have B2 := B0.below hb02
  have hbw2 : Below w.heap.size w W2 := hb0.trans (hb02.mono hb0.size)
  have h2 := h.below hbw2
  have hprog := retire_any (k := o.c) h2.ara h2.inv hh
  rw [hm] at hprog
  have hz2 := B0.res.lt
  have hszW : W0.heap.size = w.heap.size + 1 + 1 + 1 := by rw [eW0]; simp
  have EZ := Lib.hid ez
  have EW := Lib.hid eW0
  have ES := Lib.hid hszW
  have HN := Lib.hid hN
  rw [hszW] at eW2 hN N2
  have k0 : W2.cell? ⟨z + 1, 0, none⟩ = some (.int .i64 o.k) := B2.op.cell 0
  have k1 : W2.cell? ⟨z + 1, 1, none⟩ = some (.int .i64 o.c) := B2.op.cell 1
  have k2 : W2.cell? ⟨z + 1, 2, none⟩ = some (.int .i64 o.f) := B2.op.cell 2
  have k5 : W2.cell? ⟨z + 1, 5, none⟩ = some (.int .i64 o.x.n) := B2.op.cell 5
  have k6 : W2.cell? ⟨z + 1, 6, none⟩ = some (.int .i64 o.x.c) := B2.op.cell 6
  have k7 : W2.cell? ⟨z + 1, 7, none⟩ = some (.int .i64 o.x.g) := B2.op.cell 7
  have t1 : (o.k == 1) = false := by rw [hk]; decide
  have t2 : (o.k == 2) = true := by rw [hk]; decide
  clear hk
  rw [eW0] at eW2 hN
  rw [eW0, ez] at e0 e1
  rw [ez] at k0 k1 k2 k5 k6 k7
  clear eW0 hszW ez
  go_enter Try.func11, Try.ntmps11
  go_wp2_with (refine wpList_store_row rfl 31 (.tmp 10) (.tmp 12) rfl (w.heap.size + 1 + 1 + 1) r.cs rfl rfl 31 #[.slice none 0 0, .slice none 0 0] hN (szcs r) rfl (one31 r) ?_; rw [← eW2]; clear eW2 hN e0 e1)
  have ez := EZ.out
  rw [← ez] at N2 ⊢
  clear ez k0 k1 k2 k5 k6 k7
  refine hprog.mono ?_
  rintro e w3 ⟨rfl, hd⟩
  obtain ⟨L1, hA1, hR1, hk1, hm1, ho1⟩ := h2.moved hd
  have B3 := B2.turned h2.ara hd
  have N3 : Blk w3 (z + 1 + 1 + 1) 31 r.cs := hd.blk N2 (h2.ara.far N2 (by simp))
  have hA3 : Ara w3 p L1 (s.turn m) ((⟨m.k, m.was⟩, s) :: H) := hA1
  have hlt1 := hA1.lt
  have hn3lt : z + 1 + 1 + 1 < w3.heap.size := N3.lt
  have d0 : w3.cell? ⟨z, 0, none⟩ = some (.slice r.Ac r.n r.cc) := B3.book.cell 0
  have d1 : w3.cell? ⟨z, 1, none⟩ = some (.slice r.Ar r.m r.cr) := B3.book.cell 1
  have k1 : w3.cell? ⟨z + 1, 1, none⟩ = some (.int .i64 o.c) := B3.op.cell 1
  have k2 : w3.cell? ⟨z + 1, 2, none⟩ = some (.int .i64 o.f) := B3.op.cell 2
  have k5 : w3.cell? ⟨z + 1, 5, none⟩ = some (.int .i64 o.x.n) := B3.op.cell 5
  have k6 : w3.cell? ⟨z + 1, 6, none⟩ = some (.int .i64 o.x.c) := B3.op.cell 6
  have k7 : w3.cell? ⟨z + 1, 7, none⟩ = some (.int .i64 o.x.g) := B3.op.cell 7
  have hr := rretire_any (k := o.c) hR1 h2.inv
  rw [hm] at hr
  have HC := Lib.hid hm
  go_wp2_with fail
  refine hr.mono ?_
  rintro e w4 ⟨r4, rfl, hR4, hb34, hN4⟩
  have hR4' : Ref w4 r4 (s.turn m) := hR4
  have B4 := B3.below hb34
  have N4 := N3.on hb34
  have hA4 := hA3.below hb34
  clear d0 d1 k1 k2 k5 k6 k7 hr hprog hR4 hm
  obtain ⟨Ac4, cc4, n4, Ar4, cr4, mm4⟩ := r4
  obtain ⟨w5, ew5⟩ : ∃ W, W = w4.setRow (z + 1 + 1 + 1) (⟨Ac4, cc4, n4, Ar4, cr4, mm4⟩ : Rim).cs := ⟨_, rfl⟩
  have K45 : Kept (fun g => g = z + 1 + 1 + 1) w4 w5 := by rw [ew5]; exact kept_row w4 _ _
  have N5 : Blk w5 (z + 1 + 1 + 1) 31 #[.slice Ac4 n4 cc4, .slice Ar4 mm4 cr4] := by rw [ew5]; exact setRow_heap _ _ _ _ _ _ N4
  have B5 : Boxes w5 z (r.bk (H.length : Int)) o := ⟨B4.book.kept K45 (by omega), B4.op.kept K45 (by omega), B4.res.kept K45 (by omega)⟩
  have q0 : w5.cell? ⟨z + 1 + 1 + 1, 0, none⟩ = some (.slice Ac4 n4 cc4) := N5.cell 0
  have q1 : w5.cell? ⟨z + 1 + 1 + 1, 1, none⟩ = some (.slice Ar4 mm4 cr4) := N5.cell 1
  have d0 : w5.cell? ⟨z, 0, none⟩ = some (.slice r.Ac r.n r.cc) := B5.book.cell 0
  have d1 : w5.cell? ⟨z, 1, none⟩ = some (.slice r.Ar r.m r.cr) := B5.book.cell 1
  have d2 : w5.cell? ⟨z, 2, none⟩ = some (.int .i64 (H.length : Int)) := B5.book.cell 2
  have f0 := B5.book.free 0
  have f1 := B5.book.free 1
  have f2 := B5.book.free 2
  have y0 : w5.cell? ⟨z + 1 + 1, 0, none⟩ = some (.slice none 0 0) := B5.res.cell 0
  have y1 : w5.cell? ⟨z + 1 + 1, 1, none⟩ = some (.slice none 0 0) := B5.res.cell 1
  have y2 : w5.cell? ⟨z + 1 + 1, 2, none⟩ = some (.int .i64 0) := B5.res.cell 2
  have y3 := B5.res.free 0
  have y4 := B5.res.free 1
  have y5 := B5.res.free 2
  have hl1 : (0 : Int) ≤ (H.length : Int) := by omega
  have hl2 : (H.length : Int) ≤ 1000 := by omega
  have hn1 : z ≠ z + 1 + 1 := by omega
  have hn2 : z + 1 + 1 ≠ z := by omega
  have hn3 : z + 1 + 1 + 1 ≠ z := by omega
  have HQ := Lib.hid (And.intro B5 (And.intro N5 (And.intro K45 (And.intro hA4 (And.intro hR4' (And.intro B4 N4))))))
  clear B5 N5 K45 hA4 hR4' B4 hA3 B3 N3 hR1 hd B2 N2 B0
  go_wp2_with (refine wpList_store_row rfl 31 (.tmp 10) (.tmp 47) rfl (z + 1 + 1 + 1) (⟨Ac4, cc4, n4, Ar4, cr4, mm4⟩ : Rim).cs rfl rfl 31 r.cs N4 (szcs _) rfl (one31 _) ?_; rw [← ew5]; clear ew5 N4)
  obtain ⟨B5, N5, K45, hA4, hR4, B4, N4⟩ := HQ.out
  have B6 : Blk (((w5.setCell ⟨z, 0, none⟩ (.slice Ac4 n4 cc4)).setCell ⟨z, 1, none⟩ (.slice Ar4 mm4 cr4)).setCell ⟨z, 2, none⟩ (.int .i64 ((H.length : Int) + 1))) z 34 #[.slice Ac4 n4 cc4, .slice Ar4 mm4 cr4, .int .i64 ((H.length : Int) + 1)] := blk_set (blk_set (blk_set B5.book 0 (.slice Ac4 n4 cc4)) 1 (.slice Ar4 mm4 cr4)) 2 (.int .i64 ((H.length : Int) + 1))
  have K56 : Kept (fun g => g = z) w5 (((w5.setCell ⟨z, 0, none⟩ (.slice Ac4 n4 cc4)).setCell ⟨z, 1, none⟩ (.slice Ar4 mm4 cr4)).setCell ⟨z, 2, none⟩ (.int .i64 ((H.length : Int) + 1))) := ((kept_cell w5 ⟨z, 0, none⟩ (.slice Ac4 n4 cc4)).next (kept_cell _ ⟨z, 1, none⟩ (.slice Ar4 mm4 cr4)) (fun _ e => .inl e)).next (kept_cell _ ⟨z, 2, none⟩ (.int .i64 ((H.length : Int) + 1))) (fun _ e => .inl e)
  have R6 : Blk (((w5.setCell ⟨z, 0, none⟩ (.slice Ac4 n4 cc4)).setCell ⟨z, 1, none⟩ (.slice Ar4 mm4 cr4)).setCell ⟨z, 2, none⟩ (.int .i64 ((H.length : Int) + 1))) (z + 1 + 1) 34 #[.slice none 0 0, .slice none 0 0, .int .i64 0] := B5.res.kept K56 (by omega)
  have K67 := setRes_kept (((w5.setCell ⟨z, 0, none⟩ (.slice Ac4 n4 cc4)).setCell ⟨z, 1, none⟩ (.slice Ar4 mm4 cr4)).setCell ⟨z, 2, none⟩ (.int .i64 ((H.length : Int) + 1))) (z + 1 + 1) ⟨Ac4, cc4, n4, Ar4, cr4, mm4⟩ ((H.length : Int) + 1)
  have hq := setRes_blk R6 ⟨Ac4, cc4, n4, Ar4, cr4, mm4⟩ ((H.length : Int) + 1)
  have hsz : W0.heap.size ≤ w3.heap.size := Nat.le_trans hb02.size hk1.size
  have hS : ∀ g, (⟨Ac4, cc4, n4, Ar4, cr4, mm4⟩ : Rim).S g → z + 1 + 1 + 1 < g := fun g hg => by
    have := hN4 g hg
    have := ES.out
    have := EZ.out
    have hb := N4.lt
    have := hn3lt
    omega
  have K47 : Kept (fun g => g = z ∨ g = z + 1 + 1 ∨ g = z + 1 + 1 + 1) w4 (setRes (((w5.setCell ⟨z, 0, none⟩ (.slice Ac4 n4 cc4)).setCell ⟨z, 1, none⟩ (.slice Ar4 mm4 cr4)).setCell ⟨z, 2, none⟩ (.int .i64 ((H.length : Int) + 1))) (z + 1 + 1) ⟨Ac4, cc4, n4, Ar4, cr4, mm4⟩ ((H.length : Int) + 1)) := ((K45.more (S' := fun g => g = z ∨ g = z + 1 + 1 ∨ g = z + 1 + 1 + 1) (fun _ e => .inr (.inr e))).next K56 (fun _ e => .inl (.inl e))).next K67 (fun _ e => .inl (.inr (.inl e)))
  have hR7 := hR4.kept K47 (fun g hg e => by have := hS g hg; rcases e with e | e | e <;> omega)
  have ez := EZ.out
  have hfar := fun g (hg : mine p L1 g) => show ¬ (g = z ∨ g = z + 1 + 1 ∨ g = z + 1 + 1 + 1) from fun e => by
    rcases e with rfl | rfl | rfl
    · exact hA4.far B4.book (by simp) hg
    · exact hA4.far B4.res (by simp) hg
    · exact hA4.far N4 (by simp) hg
  refine bodyPost_ret (res_two (p := 6) (q := 7) (by kernel_rfl) _ _ (z + 1 + 1) (Rim.bk ⟨Ac4, cc4, n4, Ar4, cr4, mm4⟩ ((H.length : Int) + 1)) _ rfl rfl (load34 hq)) rfl ?_
  exact ran_end hbw2 hk1 hm1 hb34 K47 (fun g e => by rcases e with e | e | e <;> omega) hfar hA4 (h.inv.turn (can_ret HC.out)) hR7 hN4 rfl rfl (by simp) hlt1
theorem run_retire (h : Pair w p L s H r) (hh : H.length ≤ 1000) (hk : o.k = 2) :
    Calls Try.prog 11 #[.pointer (some ⟨p, 0, none⟩), .agg (r.bk (H.length : Int)), .agg o.cs.toArray] w (Ran w p L s H (retM s o.c)) := by
  cases hm : retM s o.c with
  | none => exact run_retire_none h hh hk hm
  | some m => exact run_retire_some h hh hk hm
end
end Go.Proofs.Ytdilmapcjmdabaa
