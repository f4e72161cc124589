/- The walk of AsmBack. Conditions: the variables lie as they are laid; operands of 64 bits. -/
import Derived.Test.YtodklfjoeehinaaDoorTrial
import Derived.Test.YtodklfjoeehinaaDoorSame
import Derived.Test.YtodklfjoeehinaaDoorInP
namespace Go.Proofs.YtodklfjoeehinaaDoor
open Go.RowKit Nine
set_option linter.unusedSimpArgs false

set_option maxRecDepth 100000 in
set_option maxHeartbeats 4000000 in
theorem asmBack_any {w : World} {S : Nat → Prop} {A : Option Addr} {n cap : Nat} {xss : List (List Ins)} (h : Mat w S A n cap xss) (hS : ∀ g, S g → g < w.heap.size) (hw : ∀ xs ∈ xss, ∀ x ∈ xs, WideI x) (hL : Laid w) (r c s : Int) :
    Calls Tryd.prog 4 #[.agg #[.int .i64 r, .int .i64 c, .int .i64 s, .slice A n cap]] w fun e w' => e = .returned (.bool true) ∧ Below w.heap.size w w' := by
  obtain ⟨W0, eW0⟩ : ∃ W0, W0 = w.alloc (.cells #[.int .i64 r, .int .i64 c, .int .i64 s, .slice A n cap] 32) := ⟨_, rfl⟩
  have b0 : Below w.heap.size w W0 := by rw [eW0]; exact (Below.refl _ w).alloc (Nat.le_refl _) _
  have q0 : Blk W0 w.heap.size 32 (prg r c s A n cap) := by rw [eW0]; exact heap_alloc_new w _
  have hM0 := h.below b0 hS
  have hS0 : ∀ g, S g → g < W0.heap.size := fun g hg => Nat.lt_of_lt_of_le (hS g hg) b0.size
  have hL0 := hL.on b0
  have hA := alive_any W0 hL0
  have hSw := Lib.hid hS
  have hLw := Lib.hid hL
  have HWI := Lib.hid (few_wide hw)
  clear h hS hL hw
  go_enter Tryd.func4, Tryd.ntmps4
  go_wp2_with fail
  rw [← eW0]
  clear eW0
  refine hA.mono ?_
  rintro e w1 ⟨rfl, hb1⟩
  have q1 := q0.below hb1 q0.lt
  have z0 : w1.cell? ⟨w.heap.size, 0, none⟩ = some (.int .i64 r) := q1.cell 0
  have z1 : w1.cell? ⟨w.heap.size, 1, none⟩ = some (.int .i64 c) := q1.cell 1
  have z2 : w1.cell? ⟨w.heap.size, 2, none⟩ = some (.int .i64 s) := q1.cell 2
  have z3 : w1.cell? ⟨w.heap.size, 3, none⟩ = some (.slice A n cap) := q1.cell 3
  have hF := few_any (hM0.below hb1 hS0) (fun g hg => Nat.lt_of_lt_of_le (hS0 g hg) hb1.size) r c s
  have b1 := b0.trans (hb1.mono b0.size)
  clear hA hM0 hS0 hL0 hb1 b0 q0
  go_wp2_with fail
  refine hF.mono ?_
  rintro e w2 ⟨A2, n2, cap2, rfl, hM2, hb2⟩
  obtain ⟨V, eV⟩ : ∃ V, V = w2.setRow w.heap.size (prg r c s A2 n2 cap2) := ⟨_, rfl⟩
  have q2 := q1.below hb2 q1.lt
  have qV : Blk V w.heap.size 32 (prg r c s A2 n2 cap2) := by rw [eV]; exact setRow_heap _ _ _ _ _ _ q2
  have sV : V.heap.size = w2.heap.size := by rw [eV]; exact size_setRow _ _ _
  have bV : Below w.heap.size w V := by rw [eV]; exact below_setRow (b1.trans (hb2.mono b1.size)) (Nat.le_refl _) _
  have zV : w.heap.size < V.heap.size := by rw [sV]; exact q2.lt
  have hMV : Mat V (fun g => g < V.heap.size) A2 n2 cap2 (few xss) := by
    refine Mat.more (hM2.keep (w' := V) fun p hp => cell_blk p ?_) fun g hg => ?_
    · rw [eV]
      refine setRow_other _ _ _ _ ?_
      rcases hp with hp | hp
      · have := hSw.out _ hp; omega
      · have := hp.1; have := q1.lt; omega
    · rw [sV]
      rcases hg with hg | hg
      · exact Nat.lt_of_lt_of_le (hSw.out _ hg) (Nat.le_of_lt q2.lt)
      · exact hg.2
  have hLV : Laid V := hLw.out.on bV
  generalize few xss = ys at *
  clear hM2 b1 hF q1 z0 z1 z2 z3
  have tc : ∀ W, Below V.heap.size V W → Blk W w.heap.size 32 (prg r c s A2 n2 cap2) := fun W hb => qV.below hb zV
  have tM : ∀ W, Below V.heap.size V W → Mat W (fun g => g < V.heap.size) A2 n2 cap2 ys := fun W hW => hMV.below hW fun g hg => hg
  have tS : ∀ W, Below V.heap.size V W → ∀ g, g < V.heap.size → g < W.heap.size := fun W hW g hg => Nat.lt_of_lt_of_le hg hW.size
  have r0 := Below.refl V.heap.size V
  have d0 : V.cell? ⟨w.heap.size, 0, none⟩ = some (.int .i64 r) := qV.cell 0
  have d1 : V.cell? ⟨w.heap.size, 1, none⟩ = some (.int .i64 c) := qV.cell 1
  have d2 : V.cell? ⟨w.heap.size, 2, none⟩ = some (.int .i64 s) := qV.cell 2
  have d3 : V.cell? ⟨w.heap.size, 3, none⟩ = some (.slice A2 n2 cap2) := qV.cell 3
  rw [eV] at d0 d1 d2 d3
  obtain ⟨v, ev⟩ : ∃ v, chkP r c s ys = v := ⟨_, rfl⟩
  have hK := ref_check (tM V r0) (tS V r0) r c s
  rw [ev] at hK
  by_cases hv : v = 0
  · subst hv
    have hG := good_of ev HWI.out
    have HG := Lib.hid hG
    have HRun : Hid (Runs St.none (parts 10 (oct (txt (textP r c s ys)))) ⟨true, r, c, s, ys⟩) := Lib.hid (by rw [oct_txt, parts_textP]; exact runs_prog ev HWI.out)
    obtain ⟨zz, ezz⟩ : ∃ zz, 1 + cntM ys = zz := ⟨_, rfl⟩
    have hlen : (parts 10 (oct (txt (textP r c s ys)))).length = zz := by rw [oct_txt, text_lines, ezz]
    have HP : Hid (∀ W, Below V.heap.size V W → Calls Tryd.prog 13 #[.string (txt (textP r c s ys))] W (Parsed r c s ys zz W)) := Lib.hid fun W hW => by
      have := parse_any (txt (textP r c s ys)) (by have := HG.out.size; omega) r c s ys W (hLV.on hW) ev HRun.out
      rw [hlen] at this
      exact this
    have HR := Lib.hid (fun W (hW : Below V.heap.size V W) => refprog_any (tM W hW) (tS W hW) r c s HG.out)
    have HT := Lib.hid (fun W => textsplit_any r c s ys HG.out zz ezz W)
    generalize txt (textP r c s ys) = tx at *
    clear hG hlen ezz
    go_wp2_with (refine wpList_store_row rfl 32 (.tmp 1) (.tmp 10) rfl w.heap.size (prg r c s A2 n2 cap2) rfl rfl 32 (prg r c s A n cap) q2 info24 rfl (prg_one r c s A2 n2 cap2) ?_)
    rw [← eV]
    clear d0 d1 d2 d3 eV sV hb2 q2
    refine hK.mono ?_
    rintro e w3 ⟨rfl, hb3⟩
    have p3 := tc _ hb3
    have d0 : w3.cell? ⟨w.heap.size, 0, none⟩ = some (.int .i64 r) := p3.cell 0
    have d1 : w3.cell? ⟨w.heap.size, 1, none⟩ = some (.int .i64 c) := p3.cell 1
    have d2 : w3.cell? ⟨w.heap.size, 2, none⟩ = some (.int .i64 s) := p3.cell 2
    have d3 : w3.cell? ⟨w.heap.size, 3, none⟩ = some (.slice A2 n2 cap2) := p3.cell 3
    go_wp2_with fail
    refine (HR.out _ hb3).mono ?_
    rintro e w4 ⟨rfl, hb4⟩
    have k4 := hb3.trans (hb4.mono hb3.size)
    clear d0 d1 d2 d3 p3
    go_wp2_with fail
    refine (HP.out _ k4).mono ?_
    rintro e w5 ⟨A5, m5, cap5, rfl, hM5, hb5⟩
    unfold prg
    have k5 := k4.trans (hb5.mono k4.size)
    obtain ⟨V5, eV5⟩ : ∃ V5, V5 = w5.alloc (.cells #[.int .i64 r, .int .i64 c, .int .i64 s, .slice A5 m5 cap5] 32) := ⟨_, rfl⟩
    have a5 : Below w5.heap.size w5 V5 := by rw [eV5]; exact (Below.refl _ w5).alloc (Nat.le_refl _) _
    have k6 := k5.trans (a5.mono k5.size)
    have p6 := tc _ k6
    have d0 : V5.cell? ⟨w.heap.size, 0, none⟩ = some (.int .i64 r) := p6.cell 0
    have d1 : V5.cell? ⟨w.heap.size, 1, none⟩ = some (.int .i64 c) := p6.cell 1
    have d2 : V5.cell? ⟨w.heap.size, 2, none⟩ = some (.int .i64 s) := p6.cell 2
    have d3 : V5.cell? ⟨w.heap.size, 3, none⟩ = some (.slice A2 n2 cap2) := p6.cell 3
    have p7 : Blk V5 w5.heap.size 32 (prg r c s A5 m5 cap5) := by rw [eV5]; exact heap_alloc_new w5 _
    have x0 : V5.cell? ⟨w5.heap.size, 0, none⟩ = some (.int .i64 r) := p7.cell 0
    have x1 : V5.cell? ⟨w5.heap.size, 1, none⟩ = some (.int .i64 c) := p7.cell 1
    have x2 : V5.cell? ⟨w5.heap.size, 2, none⟩ = some (.int .i64 s) := p7.cell 2
    have x3 : V5.cell? ⟨w5.heap.size, 3, none⟩ = some (.slice A5 m5 cap5) := p7.cell 3
    have hSame := prog_same r c s (tM V5 k6) (hM5.below a5 fun k hk => hk.2) (tS V5 k6) (fun k hk => Nat.lt_of_lt_of_le hk.2 a5.size)
    rw [eV5] at d0 d1 d2 d3 x0 x1 x2 x3
    clear p6 p7 hM5
    go_wp2_with fail
    rw [← eV5]
    refine hSame.mono ?_
    rintro e w7 ⟨rfl, hb7⟩
    have k7 := k6.trans (hb7.mono k6.size)
    clear d0 d1 d2 d3 x0 x1 x2 x3 eV5 hSame
    go_wp2_with fail
    refine (HT.out _).mono ?_
    rintro e w8 ⟨A8, cap8, rfl, hb8⟩
    have k8 := k7.trans (hb8.mono k7.size)
    have HF := Lib.hid (bV.trans (k8.mono (Nat.le_of_lt zV)))
    go_wp2
    go_ret
    exact ⟨by simp, HF.out⟩
  · have t0 : (v == 0) = false := by simpa using hv
    go_wp2_with (refine wpList_store_row rfl 32 (.tmp 1) (.tmp 10) rfl w.heap.size (prg r c s A2 n2 cap2) rfl rfl 32 (prg r c s A n cap) q2 info24 rfl (prg_one r c s A2 n2 cap2) ?_)
    rw [← eV]
    clear d0 d1 d2 d3 eV sV hb2 q2
    refine hK.mono ?_
    rintro e w3 ⟨rfl, hb3⟩
    have HF := Lib.hid (bV.trans (hb3.mono (Nat.le_of_lt zV)))
    go_wp2
    go_ret
    exact ⟨by simp, HF.out⟩
end Go.Proofs.YtodklfjoeehinaaDoor
