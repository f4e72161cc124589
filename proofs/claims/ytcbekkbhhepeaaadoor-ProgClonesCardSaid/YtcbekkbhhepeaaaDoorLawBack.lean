/- The walk of ProgBack. Conditions: the variable 'rows' lies as it is laid. -/
import Derived.Test.YtcbekkbhhepeaaaDoorLawGets
namespace Go.Proofs.YtcbekkbhhepeaaaDoor
open Go.RowKit
set_option linter.unusedSimpArgs false

theorem few_wide {xss : List (List Ins)} (h : ∀ l ∈ xss, ∀ x ∈ l, Wide x) : ∀ l ∈ few xss, ∀ x ∈ l, Wide x := by
  intro l hl x hx
  obtain ⟨y, hy, rfl⟩ := List.mem_map.1 hl
  exact h y (List.mem_of_mem_take hy) x (List.mem_of_mem_take hx)
/-- 'b[:k]', of a slice with room. -/
theorem cut_upto (A : Option Addr) (n cap k : Nat) (h1 : 1 ≤ cap) (hc : k ≤ cap) (w : World) :
    (Instr.slice 29 (.slice A n cap) none (some (.int .i64 (k : Int))) none).run Tryd.prog w = .ok (.slice A k cap) w := by
  rw [run_slice_h w 29 A n cap under22 .i64 _ (by omega) (by omega), size22]
  have e3 : ¬ cap = 0 := by omega
  simp only [Result.andThen, sliced, Int.toNat_natCast, if_neg e3, Nat.sub_zero, Nat.zero_mul]
  rcases A with _ | ad
  · rfl
  · simp [Addr.add]

set_option maxRecDepth 100000 in
set_option maxHeartbeats 4000000 in
theorem back_any {w : World} {S : Nat → Prop} {A : Option Addr} {n cap : Nat} {xss : List (List Ins)} (h : Mat w S A n cap xss) (hS : ∀ g, S g → g < w.heap.size) (hL : Laid w) (r c s x : Int) (hw : ∀ l ∈ xss, ∀ x ∈ l, Wide x) :
    Calls Tryd.prog 5 #[.agg #[.int .i64 r, .int .i64 c, .int .i64 s, .slice A n cap], .int .i64 x] w fun e w' => e = .returned (.bool true) ∧ Below w.heap.size w w' := by
  have HW := Lib.hid (few_wide hw)
  clear hw
  obtain ⟨W0, eW0⟩ : ∃ W0, W0 = w.alloc (.cells #[.int .i64 r, .int .i64 c, .int .i64 s, .slice A n cap] 24) := ⟨_, rfl⟩
  have b0 : Below w.heap.size w W0 := by rw [eW0]; exact (Below.refl _ w).alloc (Nat.le_refl _) _
  have q0 : Blk W0 w.heap.size 24 (prg r c s A n cap) := by rw [eW0]; exact heap_alloc_new w _
  have hM0 := h.below b0 hS
  have hS0 : ∀ g, S g → g < W0.heap.size := fun g hg => Nat.lt_of_lt_of_le (hS g hg) b0.size
  have hL0 := hL.on b0
  have hA := alive_any W0 hL0
  have hSw := Lib.hid hS
  have hLw := Lib.hid hL
  clear h hS hL
  go_enter Tryd.func5, Tryd.ntmps5
  go_wp2_with fail
  rw [← eW0]
  clear eW0
  refine hA.mono ?_
  rintro e w1 ⟨rfl, hb1⟩
  have q1 := q0.below hb1 q0.lt
  have z0 : w1.cell? ⟨w.heap.size, 0, none⟩ = some (.int .i64 r) := q1.cell 0
  have z1 : w1.cell? ⟨w.heap.size, 1, none⟩ = some (.int .i64 c) := q1.cell 1
  have z2 : w1.cell? ⟨w.heap.size, 2, none⟩ = some (.int .i64 s) := q1.cell 2
  have z3 : w1.cell? ⟨w.heap.size, 3, none⟩ = some (.slice A n cap) := q1.cell 3
  have hF := few_any (hM0.below hb1 hS0) (fun g hg => Nat.lt_of_lt_of_le (hS0 g hg) hb1.size) r c s
  have hL1 := hL0.on hb1
  have b1 := b0.trans (hb1.mono b0.size)
  clear hA hM0 hS0 hL0 hb1 b0 q0
  go_wp2_with fail
  refine hF.mono ?_
  rintro e w2 ⟨A2, n2, cap2, rfl, hM2, hb2⟩
  obtain ⟨V, eV⟩ : ∃ V, V = w2.setRow w.heap.size (prg r c s A2 n2 cap2) := ⟨_, rfl⟩
  have q2 := q1.below hb2 q1.lt
  have qV : Blk V w.heap.size 24 (prg r c s A2 n2 cap2) := by rw [eV]; exact setRow_heap _ _ _ _ _ _ q2
  have sV : V.heap.size = w2.heap.size := by rw [eV]; exact size_setRow _ _ _
  have bV : Below w.heap.size w V := by rw [eV]; exact below_setRow (b1.trans (hb2.mono b1.size)) (Nat.le_refl _) _
  have zV : w.heap.size < V.heap.size := by rw [sV]; exact q2.lt
  have hMV : Mat V (fun g => g < V.heap.size) A2 n2 cap2 (few xss) := by
    refine Mat.more (hM2.keep (w' := V) fun p hp => cell_blk p ?_) fun g hg => ?_
    · rw [eV]
      refine setRow_other _ _ _ _ ?_
      rcases hp with hp | hp
      · have := hSw.out _ hp; omega
      · have := hp.1; have := q1.lt; omega
    · rw [sV]
      rcases hg with hg | hg
      · exact Nat.lt_of_lt_of_le (hSw.out _ hg) (Nat.le_of_lt q2.lt)
      · exact hg.2
  have hLV : Laid V := hLw.out.on bV
  generalize hys : few xss = ys at *
  have HSZ : Hid (sizeM ys ≤ 1900) := Lib.hid (by rw [← hys]; exact few_size xss)
  clear hys hM2 b1 hL1 hF q1 z0 z1 z2 z3
  have d0 : V.cell? ⟨w.heap.size, 0, none⟩ = some (.int .i64 r) := qV.cell 0
  have d1 : V.cell? ⟨w.heap.size, 1, none⟩ = some (.int .i64 c) := qV.cell 1
  have d2 : V.cell? ⟨w.heap.size, 2, none⟩ = some (.int .i64 s) := qV.cell 2
  have d3 : V.cell? ⟨w.heap.size, 3, none⟩ = some (.slice A2 n2 cap2) := qV.cell 3
  rw [eV] at d0 d1 d2 d3
  obtain ⟨v, ev⟩ : ∃ v, chkP r c s ys = v := ⟨_, rfl⟩
  by_cases hv : v = 0
  · subst hv
    have hP := put_good hMV (fun g hg => hg) hLV r c s ev
    have HO := Lib.hid (getP_back ev HW.out)
    have HLN := Lib.hid (octP_len r c s ys)
    have HSM := Lib.hid (octP_small r c s ys)
    generalize octP r c s ys = os at *
    go_wp2_with (refine wpList_store_row rfl 24 (.tmp 2) (.tmp 16) rfl w.heap.size (prg r c s A2 n2 cap2) rfl rfl 24 (prg r c s A n cap) q2 info24 rfl (prg_one r c s A2 n2 cap2) ?_)
    rw [← eV]
    clear d0 d1 d2 d3 eV sV hb2 q2
    refine hP.mono ?_
    rintro e w4 ⟨A4, m, cap4, rfl, o4, hb4⟩
    have hm5 : 5 + sizeM ys = m := HLN.out.symm.trans o4.len
    have hm6 : 5 ≤ m ∧ m ≤ 1905 := by have := HSZ.out; omega
    have hm2 := len_i64 o4.room o4.most
    have hrm := o4.room
    have HM := Lib.hid o4.len
    have q4 := qV.below hb4 zV
    have hM4 : Mat w4 (fun g => g < w4.heap.size) A2 n2 cap2 ys := (hMV.below hb4 fun g hg => hg).more fun g hg => Nat.lt_of_lt_of_le hg hb4.size
    have b4 := bV.trans (hb4.mono bV.size)
    have hL4 := hLV.on hb4
    have hG := get_all o4 hL4
    rw [HO.out] at hG
    clear hP hMV hLV hb4 bV zV qV hm5
    go_wp2_with fail
    refine hG.mono ?_
    rintro e w5 ⟨A5, n5, cap5, rfl, hM5, hb5⟩
    simp only at hM5 ⊢
    rw [HM.out]
    obtain ⟨W5, eW5⟩ : ∃ W5, W5 = w5.alloc (.cells #[.int .i64 r, .int .i64 c, .int .i64 s, .slice A5 n5 cap5] 24) := ⟨_, rfl⟩
    have a5 : Below w5.heap.size w5 W5 := by rw [eW5]; exact (Below.refl _ _).alloc (Nat.le_refl _) _
    have b5 := hb5.trans (a5.mono hb5.size)
    have p5 : Blk W5 w5.heap.size 24 (prg r c s A5 n5 cap5) := by rw [eW5]; exact heap_alloc_new w5 _
    have q5 := q4.below b5 q4.lt
    have hA5 : Mat W5 (fun g => g < W5.heap.size) A5 n5 cap5 ys := (hM5.below a5 fun g hg => hg.2).more fun g hg => Nat.lt_of_lt_of_le hg.2 a5.size
    have hB5 : Mat W5 (fun g => g < W5.heap.size) A2 n2 cap2 ys := (hM4.below b5 fun g hg => hg).more fun g hg => Nat.lt_of_lt_of_le hg b5.size
    have o5 := (o4.below b5).more b5.size
    have hL5 := hL4.on b5
    have hLow : Calls Tryd.prog 17 #[.int .i64 x, .int .i64 ((m : Int) + 1)] W5 (Lows (m + 1) W5) := by
      have := low_any x (m + 1) (by omega) (by omega) W5
      rw [Int.natCast_succ] at this
      exact this
    have b6 := b4.trans (b5.mono b4.size)
    clear hG hM4 hM5 hb5 a5 b5 b4 q4 o4 hL4
    go_wp2_with fail
    rw [← eW5]
    clear eW5
    refine hLow.mono ?_
    rintro e w6 ⟨k, hk, rfl, rfl⟩
    clear hLow
    have hcut : ∀ W : World, (Instr.slice 29 (.slice A4 m cap4) none (some (.int .i64 (k : Int))) none).run Tryd.prog W = .ok (.slice A4 k cap4) W := cut_upto A4 m cap4 k (by omega) (by omega)
    have hG := get_all (o5.front (k := k) (by omega)) hL5
    have HK := Lib.hid hk
    have z0 : W5.cell? ⟨w.heap.size, 0, none⟩ = some (.int .i64 r) := q5.cell 0
    clear z0
    go_wp2_with fail
    refine hG.mono ?_
    clear hG hcut
    intro e w7 hE
    have fin : ∀ w8 cs, w8 = w7.alloc (.cells cs 24) → Below W5.heap.size W5 w7 → Below w.heap.size w w8 ∧ Blk w8 w.heap.size 24 (prg r c s A2 n2 cap2) ∧ Blk w8 w5.heap.size 24 (prg r c s A5 n5 cap5) ∧
        Calls Tryd.prog 16 #[.agg #[.int .i64 r, .int .i64 c, .int .i64 s, .slice A2 n2 cap2], .agg #[.int .i64 r, .int .i64 c, .int .i64 s, .slice A5 n5 cap5]] w8 (fun e w' => e = .returned (.bool true) ∧ Below w8.heap.size w8 w') := by
      intro w8 cs e8 hb7
      have a8 : Below w7.heap.size w7 w8 := by rw [e8]; exact (Below.refl _ _).alloc (Nat.le_refl _) _
      have b8 := hb7.trans (a8.mono hb7.size)
      exact ⟨b6.trans (b8.mono b6.size), q5.below b8 q5.lt, p5.below b8 p5.lt, prog_same r c s (hB5.below b8 fun g hg => hg) (hA5.below b8 fun g hg => hg) (fun g hg => Nat.lt_of_lt_of_le hg b8.size) (fun g hg => Nat.lt_of_lt_of_le hg b8.size)⟩
    have FIN := Lib.hid fin
    clear fin b6 q5 p5 hA5 hB5 o5 hL5
    by_cases hkm : k = m
    · subst hkm
      rw [List.take_of_length_le (by rw [HM.out]; exact Nat.le_refl _), HO.out] at hE
      obtain ⟨A7, n7, cap7, rfl, _, hb7⟩ := hE
      simp only
      rw [HM.out]
      obtain ⟨W8, eW8⟩ : ∃ W8, W8 = w7.alloc (.cells #[.int .i64 r, .int .i64 c, .int .i64 s, .slice A7 n7 cap7] 24) := ⟨_, rfl⟩
      obtain ⟨b8, q8, p8, hC⟩ := FIN.out W8 _ eW8 hb7
      have x0 : W8.cell? ⟨w.heap.size, 0, none⟩ = some (.int .i64 r) := q8.cell 0
      have x1 : W8.cell? ⟨w.heap.size, 1, none⟩ = some (.int .i64 c) := q8.cell 1
      have x2 : W8.cell? ⟨w.heap.size, 2, none⟩ = some (.int .i64 s) := q8.cell 2
      have x3 : W8.cell? ⟨w.heap.size, 3, none⟩ = some (.slice A2 n2 cap2) := q8.cell 3
      have y0 : W8.cell? ⟨w5.heap.size, 0, none⟩ = some (.int .i64 r) := p8.cell 0
      have y1 : W8.cell? ⟨w5.heap.size, 1, none⟩ = some (.int .i64 c) := p8.cell 1
      have y2 : W8.cell? ⟨w5.heap.size, 2, none⟩ = some (.int .i64 s) := p8.cell 2
      have y3 : W8.cell? ⟨w5.heap.size, 3, none⟩ = some (.slice A5 n5 cap5) := p8.cell 3
      have HB := Lib.hid b8
      clear b8 q8 p8 hb7
      rw [eW8] at x0 x1 x2 x3 y0 y1 y2 y3
      go_wp2_with fail
      rw [← eW8]
      clear x0 x1 x2 x3 y0 y1 y2 y3 eW8
      refine hC.mono ?_
      rintro e w9 ⟨rfl, hb9⟩
      have HQ := Lib.hid (HB.out.trans (hb9.mono HB.out.size))
      clear hC hb9
      go_wp2
      go_ret
      exact ⟨by simp, HQ.out⟩
    · obtain ⟨err, her⟩ := getP_cut HO.out (k := k) (by rw [HM.out]; omega)
      have hnz := getP_nz her
      rw [her] at hE
      obtain ⟨rfl, hb7⟩ := hE
      obtain ⟨e1, e2⟩ := err
      simp only at hnz ⊢
      have g0 : (e1 == (0 : Int)) = false := by simpa using hnz
      have g1 : ((k : Int) == (m : Int)) = false := by simp; omega
      obtain ⟨W8, eW8⟩ : ∃ W8, W8 = w7.alloc (.cells #[.int .i64 0, .int .i64 0, .int .i64 0, .slice none 0 0] 24) := ⟨_, rfl⟩
      obtain ⟨b8, q8, p8, hC⟩ := FIN.out W8 _ eW8 hb7
      have x0 : W8.cell? ⟨w.heap.size, 0, none⟩ = some (.int .i64 r) := q8.cell 0
      have x1 : W8.cell? ⟨w.heap.size, 1, none⟩ = some (.int .i64 c) := q8.cell 1
      have x2 : W8.cell? ⟨w.heap.size, 2, none⟩ = some (.int .i64 s) := q8.cell 2
      have x3 : W8.cell? ⟨w.heap.size, 3, none⟩ = some (.slice A2 n2 cap2) := q8.cell 3
      have y0 : W8.cell? ⟨w5.heap.size, 0, none⟩ = some (.int .i64 r) := p8.cell 0
      have y1 : W8.cell? ⟨w5.heap.size, 1, none⟩ = some (.int .i64 c) := p8.cell 1
      have y2 : W8.cell? ⟨w5.heap.size, 2, none⟩ = some (.int .i64 s) := p8.cell 2
      have y3 : W8.cell? ⟨w5.heap.size, 3, none⟩ = some (.slice A5 n5 cap5) := p8.cell 3
      have HB := Lib.hid b8
      have HN := Lib.hid hnz
      have HKM := Lib.hid hkm
      clear b8 q8 p8 hb7 hnz her hkm
      rw [eW8] at x0 x1 x2 x3 y0 y1 y2 y3
      go_wp2_with fail
      rw [← eW8]
      clear x0 x1 x2 x3 y0 y1 y2 y3 eW8
      refine hC.mono ?_
      rintro e w9 ⟨rfl, hb9⟩
      have HQ := Lib.hid (HB.out.trans (hb9.mono HB.out.size))
      clear hC hb9
      go_wp2
      go_ret
      exact ⟨by simp [g0, g1], HQ.out⟩
  · have hP := put_bad hMV (fun g hg => hg) hLV r c s (by rw [ev]; exact hv)
    rw [ev] at hP
    have t0 : (v != (0 : Int)) = true := by simpa using hv
    have HV := Lib.hid hv
    clear hv
    go_wp2_with (refine wpList_store_row rfl 24 (.tmp 2) (.tmp 16) rfl w.heap.size (prg r c s A2 n2 cap2) rfl rfl 24 (prg r c s A n cap) q2 info24 rfl (prg_one r c s A2 n2 cap2) ?_)
    rw [← eV]
    clear d0 d1 d2 d3 eV sV hb2 q2
    refine hP.mono ?_
    rintro e w4 ⟨rfl, hb4⟩
    have HB := Lib.hid (bV.trans (hb4.mono bV.size))
    clear hP hb4 hMV hLV bV zV qV
    go_wp2
    go_ret
    exact ⟨by simp, HB.out⟩
end Go.Proofs.YtcbekkbhhepeaaaDoor
