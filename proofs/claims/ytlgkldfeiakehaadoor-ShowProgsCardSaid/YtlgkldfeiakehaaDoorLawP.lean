/- The walk of ShowProgs. Conditions: the variables lie as they are laid; operands of 64 bits. -/
import Derived.Test.YtlgkldfeiakehaaDoorRefP
namespace Go.Proofs.YtlgkldfeiakehaaDoor
open Go.RowKit Nine
set_option linter.unusedSimpArgs false

/-! ### how many lines a text has -/
theorem parts_lines : ∀ (ls : List (List UInt8)), (∀ l ∈ ls, (10 : UInt8) ∉ l) → (parts 10 (ls.flatMap fun l => l ++ [10])).length = ls.length
  | [], _ => rfl
  | l :: t, h => by
    have ih := parts_lines t fun y hy => h y (List.mem_cons_of_mem _ hy)
    have e : (l :: t).flatMap (fun l => l ++ [10]) = l ++ 10 :: t.flatMap fun l => l ++ [10] := by simp
    rw [e, parts_cut 10 l _ (h l (by simp)), List.length_cons, ih]
    rfl
def linesM (xss : List (List Ins)) : List (List UInt8) := xss.flatMap fun xs => wThread :: xs.map lineI
theorem linesM_len : ∀ (xss : List (List Ins)), (linesM xss).length = cntM xss
  | [] => rfl
  | xs :: t => by
    have ih := linesM_len t
    have e : linesM (xs :: t) = wThread :: xs.map lineI ++ linesM t := by simp [linesM]
    rw [e, List.length_append, ih, List.length_cons, List.length_map, cntM]
    omega
theorem linesT_flat (xs : List Ins) : linesT xs = (xs.map lineI).flatMap fun l => l ++ [10] := by simp [linesT, List.flatMap_map]
theorem textM_flat : ∀ (xss : List (List Ins)), textM xss = (linesM xss).flatMap fun l => l ++ [10]
  | [] => rfl
  | xs :: t => by
    have ih := textM_flat t
    have e1 : textM (xs :: t) = textT xs ++ textM t := by simp [textM]
    have e2 : linesM (xs :: t) = (wThread :: xs.map lineI) ++ linesM t := by simp [linesM]
    rw [e1, e2, List.flatMap_append, ih, textT, linesT_flat]
    simp
theorem linesM_nofeed (xss : List (List Ins)) : ∀ l ∈ linesM xss, (10 : UInt8) ∉ l := by
  intro l hl
  obtain ⟨xs, _, hl⟩ := List.mem_flatMap.1 hl
  rcases List.mem_cons.1 hl with rfl | hl
  · decide
  · obtain ⟨x, _, rfl⟩ := List.mem_map.1 hl
    exact lineZ_nofeed _ _ _ _ _
theorem head_nofeed (r c s : Int) : (10 : UInt8) ∉ joinL [wFirst, Lib.itoa r, Lib.itoa c, Lib.itoa s] := join_nofeed _ fun x hx => by
  simp at hx
  rcases hx with rfl | rfl | rfl | rfl
  · decide
  · exact itoa_nofeed _
  · exact itoa_nofeed _
  · exact itoa_nofeed _
theorem text_lines (r c s : Int) (xss : List (List Ins)) : (parts 10 (textP r c s xss)).length = 1 + cntM xss := by
  have e : textP r c s xss = (joinL [wFirst, Lib.itoa r, Lib.itoa c, Lib.itoa s] :: linesM xss).flatMap fun l => l ++ [10] := by
    rw [textP, headL, textM_flat]
    simp
  rw [e, parts_lines, List.length_cons, linesM_len]
  · omega
  · intro l hl
    rcases List.mem_cons.1 hl with rfl | hl
    · exact head_nofeed r c s
    · exact linesM_nofeed xss l hl
theorem Good.size {r c s : Int} {xss : List (List Ins)} (h : Good r c s xss) : (txt (textP r c s xss)).size ≤ 8000 := by
  have h1 := h.head
  have h2 := h.text xss.length
  rw [List.take_length] at h2
  rw [txt_size, textP, List.length_append]
  omega
theorem Good.count {r c s : Int} {xss : List (List Ins)} (h : Good r c s xss) : cntM xss ≤ 1000 := by
  have h1 := cntM_le 16 xss h.short
  have h2 : (1 + 16) * xss.length ≤ (1 + 16) * 4 := Nat.mul_le_mul_left _ h.few
  omega
theorem split_any (r c s : Int) (xss : List (List Ins)) (h : Good r c s xss) (zz : Nat) (hz : 1 + cntM xss = zz) (w : World) :
    Calls Tryd.prog 14 #[.string (txt (textP r c s xss))] w fun e w' => ∃ A cap, e = .returned (.slice A zz cap) ∧ Below w.heap.size w w' := by
  have hs := h.size
  refine (refsplit_any (txt (textP r c s xss)) (by omega) w).mono ?_
  rintro e w' ⟨v, rfl, ho, hb⟩
  rw [oct_txt, text_lines, hz] at ho
  rcases ho.2 with ⟨rfl, h0⟩ | ⟨g, cap, cur, rfl, _⟩
  · omega
  · exact ⟨_, cap, rfl, hb⟩
theorem few_wide {xss : List (List Ins)} (h : ∀ xs ∈ xss, ∀ x ∈ xs, WideI x) : ∀ xs ∈ few xss, ∀ x ∈ xs, WideI x := by
  intro xs hx x hx2
  obtain ⟨y, hy, rfl⟩ := List.mem_map.1 hx
  exact h y (List.mem_of_mem_take hy) x (List.mem_of_mem_take hx2)

set_option maxRecDepth 100000 in
set_option maxHeartbeats 4000000 in
theorem progs_any {w : World} {S : Nat → Prop} {A : Option Addr} {n cap : Nat} {xss : List (List Ins)} (h : Mat w S A n cap xss) (hS : ∀ g, S g → g < w.heap.size) (hw : ∀ xs ∈ xss, ∀ x ∈ xs, WideI x) (hL : Laid w) (r c s : Int) :
    Calls Tryd.prog 4 #[.agg #[.int .i64 r, .int .i64 c, .int .i64 s, .slice A n cap]] w fun e w' => e = .returned (.bool true) ∧ Below w.heap.size w w' := by
  obtain ⟨W0, eW0⟩ : ∃ W0, W0 = w.alloc (.cells #[.int .i64 r, .int .i64 c, .int .i64 s, .slice A n cap] 33) := ⟨_, rfl⟩
  have b0 : Below w.heap.size w W0 := by rw [eW0]; exact (Below.refl _ w).alloc (Nat.le_refl _) _
  have q0 : Blk W0 w.heap.size 33 (prg r c s A n cap) := by rw [eW0]; exact heap_alloc_new w _
  have hM0 := h.below b0 hS
  have hS0 : ∀ g, S g → g < W0.heap.size := fun g hg => Nat.lt_of_lt_of_le (hS g hg) b0.size
  have hL0 := hL.on b0
  have hA := alive_any W0 hL0
  have hSw := Lib.hid hS
  have hLw := Lib.hid hL
  have HWI := Lib.hid (few_wide hw)
  clear h hS hL hw
  go_enter Tryd.func4, Tryd.ntmps4
  go_wp2_with fail
  rw [← eW0]
  clear eW0
  refine hA.mono ?_
  rintro e w1 ⟨rfl, hb1⟩
  have q1 := q0.below hb1 q0.lt
  have z0 : w1.cell? ⟨w.heap.size, 0, none⟩ = some (.int .i64 r) := q1.cell 0
  have z1 : w1.cell? ⟨w.heap.size, 1, none⟩ = some (.int .i64 c) := q1.cell 1
  have z2 : w1.cell? ⟨w.heap.size, 2, none⟩ = some (.int .i64 s) := q1.cell 2
  have z3 : w1.cell? ⟨w.heap.size, 3, none⟩ = some (.slice A n cap) := q1.cell 3
  have hF := few_any (hM0.below hb1 hS0) (fun g hg => Nat.lt_of_lt_of_le (hS0 g hg) hb1.size) r c s
  have b1 := b0.trans (hb1.mono b0.size)
  clear hA hM0 hS0 hL0 hb1 b0 q0
  go_wp2_with fail
  refine hF.mono ?_
  rintro e w2 ⟨A2, n2, cap2, rfl, hM2, hb2⟩
  obtain ⟨V, eV⟩ : ∃ V, V = w2.setRow w.heap.size (prg r c s A2 n2 cap2) := ⟨_, rfl⟩
  have q2 := q1.below hb2 q1.lt
  have qV : Blk V w.heap.size 33 (prg r c s A2 n2 cap2) := by rw [eV]; exact setRow_heap _ _ _ _ _ _ q2
  have sV : V.heap.size = w2.heap.size := by rw [eV]; exact size_setRow _ _ _
  have bV : Below w.heap.size w V := by rw [eV]; exact below_setRow (b1.trans (hb2.mono b1.size)) (Nat.le_refl _) _
  have zV : w.heap.size < V.heap.size := by rw [sV]; exact q2.lt
  have hMV : Mat V (fun g => g < V.heap.size) A2 n2 cap2 (few xss) := by
    refine Mat.more (hM2.keep (w' := V) fun p hp => cell_blk p ?_) fun g hg => ?_
    · rw [eV]
      refine setRow_other _ _ _ _ ?_
      rcases hp with hp | hp
      · have := hSw.out _ hp; omega
      · have := hp.1; have := q1.lt; omega
    · rw [sV]
      rcases hg with hg | hg
      · exact Nat.lt_of_lt_of_le (hSw.out _ hg) (Nat.le_of_lt q2.lt)
      · exact hg.2
  have hLV : Laid V := hLw.out.on bV
  generalize few xss = ys at *
  clear hM2 b1 hF q1 z0 z1 z2 z3
  have hlen := Lib.hid hMV.len
  have hm2 := len_i64 hMV.room hMV.most
  have tc : ∀ W, Below V.heap.size V W → Blk W w.heap.size 33 (prg r c s A2 n2 cap2) := fun W hb => qV.below hb zV
  have tM : ∀ W, Below V.heap.size V W → Mat W (fun g => g < V.heap.size) A2 n2 cap2 ys := fun W hW => hMV.below hW fun g hg => hg
  have tS : ∀ W, Below V.heap.size V W → ∀ g, g < V.heap.size → g < W.heap.size := fun W hW g hg => Nat.lt_of_lt_of_le hg hW.size
  have r0 := Below.refl V.heap.size V
  have d0 : V.cell? ⟨w.heap.size, 0, none⟩ = some (.int .i64 r) := qV.cell 0
  have d1 : V.cell? ⟨w.heap.size, 1, none⟩ = some (.int .i64 c) := qV.cell 1
  have d2 : V.cell? ⟨w.heap.size, 2, none⟩ = some (.int .i64 s) := qV.cell 2
  have d3 : V.cell? ⟨w.heap.size, 3, none⟩ = some (.slice A2 n2 cap2) := qV.cell 3
  rw [eV] at d0 d1 d2 d3
  obtain ⟨v, ev⟩ : ∃ v, chkP r c s ys = v := ⟨_, rfl⟩
  by_cases hv : v = 0
  · subst hv
    have hG := good_of ev HWI.out
    have hP := prog_good (tM V r0) (tS V r0) hLV r c s ev hG
    have HG := Lib.hid hG
    clear hG
    obtain ⟨tx, etx⟩ : ∃ tx, txt (textP r c s ys) = tx := ⟨_, rfl⟩
    obtain ⟨zz, ezz⟩ : ∃ zz, 1 + cntM ys = zz := ⟨_, rfl⟩
    have hR := fun W hW => refprog_any (tM W hW) (tS W hW) r c s HG.out
    have hC := fun W hW => count_any (tM W hW) (tS W hW) r c s HG.out.count zz ezz
    have hT := fun W => split_any r c s ys HG.out zz ezz W
    have hK := fun W hW => ref_check (tM W hW) (tS W hW) r c s
    simp only [etx] at hP hR hT
    simp only [ev] at hK
    have te : (tx.toList == tx.toList) = true := by simp
    clear etx ezz
    go_wp2_with (refine wpList_store_row rfl 33 (.tmp 1) (.tmp 9) rfl w.heap.size (prg r c s A2 n2 cap2) rfl rfl 33 (prg r c s A n cap) q2 info24 rfl (prg_one r c s A2 n2 cap2) ?_)
    rw [← eV]
    clear d0 d1 d2 d3 eV sV hb2 q2
    refine hP.mono ?_
    rintro e w3 ⟨rfl, hb3⟩
    have p3 := tc _ hb3
    have d0 : w3.cell? ⟨w.heap.size, 0, none⟩ = some (.int .i64 r) := p3.cell 0
    have d1 : w3.cell? ⟨w.heap.size, 1, none⟩ = some (.int .i64 c) := p3.cell 1
    have d2 : w3.cell? ⟨w.heap.size, 2, none⟩ = some (.int .i64 s) := p3.cell 2
    have d3 : w3.cell? ⟨w.heap.size, 3, none⟩ = some (.slice A2 n2 cap2) := p3.cell 3
    go_wp2_with fail
    refine (hK _ hb3).mono ?_
    rintro e w4 ⟨rfl, hb4⟩
    have k4 := hb3.trans (hb4.mono hb3.size)
    clear d0 d1 d2 d3 p3
    have p4 := tc _ k4
    have d0 : w4.cell? ⟨w.heap.size, 0, none⟩ = some (.int .i64 r) := p4.cell 0
    have d1 : w4.cell? ⟨w.heap.size, 1, none⟩ = some (.int .i64 c) := p4.cell 1
    have d2 : w4.cell? ⟨w.heap.size, 2, none⟩ = some (.int .i64 s) := p4.cell 2
    have d3 : w4.cell? ⟨w.heap.size, 3, none⟩ = some (.slice A2 n2 cap2) := p4.cell 3
    go_wp2_with fail
    refine (hR _ k4).mono ?_
    rintro e w5 ⟨rfl, hb5⟩
    have k5 := k4.trans (hb5.mono k4.size)
    clear d0 d1 d2 d3 p4
    have p5 := tc _ k5
    have d0 : w5.cell? ⟨w.heap.size, 0, none⟩ = some (.int .i64 r) := p5.cell 0
    have d1 : w5.cell? ⟨w.heap.size, 1, none⟩ = some (.int .i64 c) := p5.cell 1
    have d2 : w5.cell? ⟨w.heap.size, 2, none⟩ = some (.int .i64 s) := p5.cell 2
    have d3 : w5.cell? ⟨w.heap.size, 3, none⟩ = some (.slice A2 n2 cap2) := p5.cell 3
    go_wp2_with fail
    refine (hC _ k5).mono ?_
    rintro e w6 ⟨rfl, hb6⟩
    have k6 := k5.trans (hb6.mono k5.size)
    clear d0 d1 d2 d3 p5
    go_wp2_with fail
    refine (hT _).mono ?_
    rintro e w7 ⟨A7, cap7, rfl, hb7⟩
    have k7 := k6.trans (hb7.mono k6.size)
    go_wp2
    go_ret
    exact ⟨by simp, bV.trans (k7.mono (Nat.le_of_lt zV))⟩
  · have hP := prog_bad (tM V r0) (tS V r0) hLV r c s v ev hv
    have hK := fun W hW => ref_check (tM W hW) (tS W hW) r c s
    simp only [ev] at hK
    have t0 : (v == 0) = false := by simpa using hv
    go_wp2_with (refine wpList_store_row rfl 33 (.tmp 1) (.tmp 9) rfl w.heap.size (prg r c s A2 n2 cap2) rfl rfl 33 (prg r c s A n cap) q2 info24 rfl (prg_one r c s A2 n2 cap2) ?_)
    rw [← eV]
    clear d0 d1 d2 d3 eV sV hb2 q2
    refine hP.mono ?_
    rintro e w3 ⟨rfl, hb3⟩
    have p3 := tc _ hb3
    have d0 : w3.cell? ⟨w.heap.size, 0, none⟩ = some (.int .i64 r) := p3.cell 0
    have d1 : w3.cell? ⟨w.heap.size, 1, none⟩ = some (.int .i64 c) := p3.cell 1
    have d2 : w3.cell? ⟨w.heap.size, 2, none⟩ = some (.int .i64 s) := p3.cell 2
    have d3 : w3.cell? ⟨w.heap.size, 3, none⟩ = some (.slice A2 n2 cap2) := p3.cell 3
    go_wp2_with fail
    refine (hK _ hb3).mono ?_
    rintro e w4 ⟨rfl, hb4⟩
    have k4 := hb3.trans (hb4.mono hb3.size)
    go_wp2
    go_ret
    exact ⟨by simp, bV.trans (k4.mono (Nat.le_of_lt zV))⟩
end Go.Proofs.YtlgkldfeiakehaaDoor
