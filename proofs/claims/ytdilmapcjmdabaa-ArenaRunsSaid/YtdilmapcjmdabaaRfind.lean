/- The reference's Find. Conditions: none. -/
import Derived.Test.YtdilmapcjmdabaaRbase
namespace Go.Proofs.Ytdilmapcjmdabaa
open Go.ChangeShapes Go.WideShapes Go.RowKit
section
variable {w w' : World} {r : Rim} {s : Sta}
set_option maxRecDepth 100000 in
set_option maxHeartbeats 1000000 in
theorem rfind_at {x : Wd} {c : Cel} (h : Ref w r s) (hI : Inv s) (hc : s.cel x.c = some c) (hx : 1 ≤ x.c) : Calls Try.prog 16 #[.agg r.cs, .agg x.cs.toArray] w fun e w' => e = .returned (.int .i64 (if c.s = 0 ∨ c.g ≠ x.g then 1 else if c.s = 1 then 2 else 3)) ∧ Below w.heap.size w w' := by
  obtain ⟨M, eM⟩ : ∃ M : Int, M = (if c.s = 0 ∨ c.g ≠ x.g then 1 else if c.s = 1 then 2 else 3) := ⟨_, rfl⟩
  rw [← eM]
  have EM := Lib.hid eM
  clear eM
  have hlC := h.lenC
  have hle := hI.le
  have hst := hI.st _ _ hc
  have ht := rhas_some h hc
  obtain ⟨j, gC, hk, hj, hjn, hjl, eA, ⟨cs0, hgC⟩, hr, hw⟩ := ref_at h hc
  obtain ⟨Ac, cc, n, Ar, cr, m⟩ := r
  dsimp only at eA hlC hjl ht
  subst eA
  have hn6 : n ≤ 6 := by omega
  have hwj : IntKind.i64.wrap (j : Int) = (j : Int) := by rw [IntKind.wrap_i64]; omega
  clear hlC hle hI
  obtain ⟨W0, eW0⟩ : ∃ W, W = (w.alloc (.cells (⟨some ⟨gC, 0, none⟩, cc, n, Ar, cr, m⟩ : Rim).cs 31)).alloc (.cells x.cs.toArray 24) := ⟨_, rfl⟩
  have hb0 : Below w.heap.size w W0 := by rw [eW0]; exact ((Below.refl _ w).alloc (Nat.le_refl _) _).alloc (by simp) _
  have g0 : Blk W0 w.heap.size 31 #[.slice (some ⟨gC, 0, none⟩) n cc, .slice Ar m cr] := by rw [eW0]; exact (blk_new w _ 31 _ rfl).on ((Below.refl _ _).alloc (Nat.le_refl _) _)
  have x0 : Blk W0 (w.heap.size + 1) 24 x.cs.toArray := by rw [eW0]; exact blk_new _ _ 24 _ (by simp)
  have a0 : W0.cell? ⟨w.heap.size, 0, none⟩ = some (.slice (some ⟨gC, 0, none⟩) n cc) := g0.cell 0
  have a1 : W0.cell? ⟨w.heap.size, 1, none⟩ = some (.slice Ar m cr) := g0.cell 1
  have c1 : W0.cell? ⟨w.heap.size + 1, 1, none⟩ = some (.int .i64 x.c) := x0.cell 1
  have hth := there_any ⟨some ⟨gC, 0, none⟩, cc, n, Ar, cr, m⟩ x.c W0
  rw [ht] at hth
  have hr0 : W0.rangeAt gC (j * 10) c.cs := fun i v hv => (hb0.cell (p := ⟨gC, j * 10 + i, none⟩) hgC.lt).trans (hr i v hv)
  have t0 : decide (x.c < 1) = false := decide_eq_false (by omega)
  have EW := Lib.hid eW0
  have HG := Lib.hid (And.intro g0 (And.intro x0 hr0))
  clear g0 x0 hr0 ht
  rw [eW0] at a0 a1 c1
  rw [eW0] at hth
  clear eW0
  go_enter Try.func16, Try.ntmps16
  go_wp2_with fail
  refine hth.mono ?_
  rw [← EW.out]
  rintro e w1 ⟨rfl, hb1⟩
  obtain ⟨g0, x0, hr0⟩ := HG.out
  have g1 := g0.on hb1
  have x1 := x0.on hb1
  have hr1 : w1.rangeAt gC (j * 10) c.cs := fun i v hv => (hb1.cell (p := ⟨gC, j * 10 + i, none⟩) (World.block_lt_of_cell? _ _ (hr0 i v hv))).trans (hr0 i v hv)
  have d0 : w1.cell? ⟨w.heap.size, 0, none⟩ = some (.slice (some ⟨gC, 0, none⟩) n cc) := g1.cell 0
  have d1 : w1.cell? ⟨w.heap.size + 1, 1, none⟩ = some (.int .i64 x.c) := x1.cell 1
  have hB : Blk (w1.alloc (.cells noC.cs.toArray 45)) w1.heap.size 45 noC.cs.toArray := heap_alloc_new w1 _
  obtain ⟨w2, ew2⟩ : ∃ W, W = (w1.alloc (.cells noC.cs.toArray 45)).setRow w1.heap.size c.cs.toArray := ⟨_, rfl⟩
  have hb2 : Below w1.heap.size w1 w2 := by rw [ew2]; exact below_setRow ((Below.refl _ w1).alloc (Nat.le_refl _) _) (Nat.le_refl _) _
  have hB2 : Blk w2 w1.heap.size 45 c.cs.toArray := by rw [ew2]; exact setRow_heap _ _ _ _ _ _ hB
  have x2 := x1.on hb2
  have q0 : w2.cell? ⟨w1.heap.size, 0, none⟩ = some (.int .i64 c.s) := hB2.cell 0
  have q1 : w2.cell? ⟨w1.heap.size, 1, none⟩ = some (.int .i64 c.g) := hB2.cell 1
  have q2 : w2.cell? ⟨w.heap.size + 1, 2, none⟩ = some (.int .i64 x.g) := x2.cell 2
  have hbw : Below w.heap.size w w2 := hb0.trans ((hb1.trans (hb2.mono hb1.size)).mono hb0.size)
  clear EW HG g0 x0 hr0 g1 x1 x2 hB2 hb2 hb0 hth a0 a1 c1 hr hw hgC h
  have hcases : (c.s = 0 ∧ M = 1) ∨ (c.s ≠ 0 ∧ c.g ≠ x.g ∧ M = 1) ∨ (c.s = 1 ∧ c.g = x.g ∧ M = 2) ∨ (c.s = 2 ∧ c.g = x.g ∧ M = 3) := by
    have := EM.out
    by_cases s0 : c.s = 0
    · exact .inl ⟨s0, by rw [this, if_pos (.inl s0)]⟩
    · by_cases s1 : c.g = x.g
      · rcases hst with e | e | e
        · exact absurd e s0
        · exact .inr (.inr (.inl ⟨e, s1, by rw [this, if_neg (by simp [s0, s1]), if_pos e]⟩))
        · exact .inr (.inr (.inr ⟨e, s1, by rw [this, if_neg (by simp [s0, s1]), if_neg (by omega)]⟩))
      · exact .inr (.inl ⟨s0, s1, by rw [this, if_pos (.inr s1)]⟩)
  clear hst EM
  rcases hcases with ⟨s0, rfl⟩ | ⟨s0, s1, rfl⟩ | ⟨s0, s1, rfl⟩ | ⟨s0, s1, rfl⟩
  · have t1 : (c.s == 0) = true := by simpa using s0
    clear s0
    go_wp2_with (first
      | (refine wpList_load_mid rfl 45 (.tmp 21) rfl gC (j * 10) rfl c.cs _ hr1 Try.underlying45 rfl (load45 c) ?_)
      | (refine wpList_store_row rfl 45 (.tmp 5) (.tmp 22) rfl w1.heap.size c.cs.toArray rfl rfl 45 noC.cs.toArray hB size45 rfl c.onea ?_
         show wpList _ _ _ _ _ ((w1.alloc (.cells noC.cs.toArray 45)).setRow w1.heap.size c.cs.toArray)
         rw [← ew2]
         clear ew2 hB hr1 d0 d1))
    go_ret
    exact ⟨rfl, hbw⟩
  · have t1 : (c.s == 0) = false := by simpa using s0
    have t2 : (c.g != x.g) = true := by simpa using s1
    clear s0 s1
    go_wp2_with (first
      | (refine wpList_load_mid rfl 45 (.tmp 21) rfl gC (j * 10) rfl c.cs _ hr1 Try.underlying45 rfl (load45 c) ?_)
      | (refine wpList_store_row rfl 45 (.tmp 5) (.tmp 22) rfl w1.heap.size c.cs.toArray rfl rfl 45 noC.cs.toArray hB size45 rfl c.onea ?_
         show wpList _ _ _ _ _ ((w1.alloc (.cells noC.cs.toArray 45)).setRow w1.heap.size c.cs.toArray)
         rw [← ew2]
         clear ew2 hB hr1 d0 d1))
    go_ret
    exact ⟨rfl, hbw⟩
  · rw [s0] at q0
    have t2 : (c.g != x.g) = false := by simpa using s1
    clear s0 s1
    go_wp2_with (first
      | (refine wpList_load_mid rfl 45 (.tmp 21) rfl gC (j * 10) rfl c.cs _ hr1 Try.underlying45 rfl (load45 c) ?_)
      | (refine wpList_store_row rfl 45 (.tmp 5) (.tmp 22) rfl w1.heap.size c.cs.toArray rfl rfl 45 noC.cs.toArray hB size45 rfl c.onea ?_
         show wpList _ _ _ _ _ ((w1.alloc (.cells noC.cs.toArray 45)).setRow w1.heap.size c.cs.toArray)
         rw [← ew2]
         clear ew2 hB hr1 d0 d1))
    go_ret
    exact ⟨rfl, hbw⟩
  · rw [s0] at q0
    have t2 : (c.g != x.g) = false := by simpa using s1
    clear s0 s1
    go_wp2_with (first
      | (refine wpList_load_mid rfl 45 (.tmp 21) rfl gC (j * 10) rfl c.cs _ hr1 Try.underlying45 rfl (load45 c) ?_)
      | (refine wpList_store_row rfl 45 (.tmp 5) (.tmp 22) rfl w1.heap.size c.cs.toArray rfl rfl 45 noC.cs.toArray hB size45 rfl c.onea ?_
         show wpList _ _ _ _ _ ((w1.alloc (.cells noC.cs.toArray 45)).setRow w1.heap.size c.cs.toArray)
         rw [← ew2]
         clear ew2 hB hr1 d0 d1))
    go_ret
    exact ⟨rfl, hbw⟩
set_option maxRecDepth 100000 in
set_option maxHeartbeats 1000000 in
theorem rfind_any (x : Wd) (h : Ref w r s) (hI : Inv s) : Calls Try.prog 16 #[.agg r.cs, .agg x.cs.toArray] w fun e w' => e = .returned (.int .i64 (findM s x)) ∧ Below w.heap.size w w' := by
  obtain ⟨M, eM⟩ : ∃ M, M = findM s x := ⟨_, rfl⟩
  rw [← eM]
  have hlC := h.lenC
  have hle := hI.le
  obtain ⟨z, ez⟩ : ∃ z, z = w.heap.size := ⟨_, rfl⟩
  obtain ⟨W0, eW0⟩ : ∃ W, W = (w.alloc (.cells r.cs 31)).alloc (.cells x.cs.toArray 24) := ⟨_, rfl⟩
  have hb0 : Below w.heap.size w W0 := by rw [eW0]; exact ((Below.refl _ w).alloc (Nat.le_refl _) _).alloc (by simp) _
  have g0 : Blk W0 z 31 r.cs := by rw [eW0, ez]; exact (blk_new w _ 31 _ rfl).on ((Below.refl _ _).alloc (Nat.le_refl _) _)
  have x0 : Blk W0 (z + 1) 24 x.cs.toArray := by rw [eW0, ez]; exact blk_new _ _ 24 _ (by simp)
  have h0 := h.below hb0
  have a0 : W0.cell? ⟨z, 0, none⟩ = some (.slice r.Ac r.n r.cc) := g0.cell 0
  have a1 : W0.cell? ⟨z, 1, none⟩ = some (.slice r.Ar r.m r.cr) := g0.cell 1
  have c1 : W0.cell? ⟨z + 1, 1, none⟩ = some (.int .i64 x.c) := x0.cell 1
  have hth := there_any r x.c W0
  have EZ := Lib.hid ez
  have EW := Lib.hid eW0
  rw [ez, eW0] at a0 a1 c1
  by_cases hx : 1 ≤ x.c
  · have t0 : decide (x.c < 1) = false := decide_eq_false (by omega)
    cases hc : s.cel x.c with
    | none =>
      have e : findM s x = 0 := by unfold findM; rw [if_pos hx, hc]
      obtain rfl := eM.trans e
      clear e eM
      rw [rhas_none h0 hc] at hth
      rw [eW0] at hth
      clear eW0 ez
      go_enter Try.func16, Try.ntmps16
      go_wp2_with fail
      refine hth.mono ?_
      rintro e w1 ⟨rfl, hb1⟩
      go_wp2
      go_ret
      rw [← EW.out] at hb1
      exact ⟨rfl, hb0.trans (hb1.mono hb0.size)⟩
    | some c =>
      have e : findM s x = if c.s = 0 ∨ c.g ≠ x.g then 1 else if c.s = 1 then 2 else 3 := by unfold findM; rw [if_pos hx, hc]
      rw [eM, e]
      exact rfind_at h hI hc hx
  · have t0 : decide (x.c < 1) = true := decide_eq_true (by omega)
    have e : findM s x = 0 := by unfold findM; rw [if_neg hx]
    obtain rfl := eM.trans e
    clear e eM eW0 ez hth
    go_enter Try.func16, Try.ntmps16
    go_wp2
    go_ret
    rw [← EW.out]
    exact ⟨rfl, hb0⟩
end
end Go.Proofs.Ytdilmapcjmdabaa
