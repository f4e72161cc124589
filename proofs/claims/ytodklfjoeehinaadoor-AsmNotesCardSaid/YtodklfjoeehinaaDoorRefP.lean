/- What the reference's Prog answers. Conditions: of a program that may be. -/
import Derived.Test.YtodklfjoeehinaaDoorCount
namespace Go.Proofs.YtodklfjoeehinaaDoor
open Go.RowKit Nine

theorem head_txt (r c s : Int) : (⟨#[119, 97, 114, 114, 101, 110, 101, 114, 32]⟩ : ByteArray) ++ txt (Lib.itoa r) ++ (⟨#[32]⟩ : ByteArray) ++ txt (Lib.itoa c) ++ (⟨#[32]⟩ : ByteArray) ++ txt (Lib.itoa s) ++ (⟨#[10]⟩ : ByteArray) = txt (headL r c s) := by
  have e1 : (⟨#[119, 97, 114, 114, 101, 110, 101, 114, 32]⟩ : ByteArray) = txt (wFirst ++ [32]) := rfl
  have e2 : (⟨#[32]⟩ : ByteArray) = txt [32] := rfl
  have e3 : (⟨#[10]⟩ : ByteArray) = txt [10] := rfl
  rw [e1, e2, e3]
  simp only [txt_app]
  congr 1
  simp [headL, joinL]
theorem thread_txt (q : List UInt8) : txt q ++ (⟨#[116, 104, 114, 101, 97, 100, 10]⟩ : ByteArray) = txt (q ++ wThread ++ [10]) := by
  have e1 : (⟨#[116, 104, 114, 101, 97, 100, 10]⟩ : ByteArray) = txt (wThread ++ [10]) := rfl
  rw [e1, txt_app, List.append_assoc]
theorem feed_txt (q y : List UInt8) : txt q ++ txt y ++ (⟨#[10]⟩ : ByteArray) = txt (q ++ y ++ [10]) := by
  have e3 : (⟨#[10]⟩ : ByteArray) = txt [10] := rfl
  rw [e3, txt_app, txt_app]

set_option maxRecDepth 100000 in
set_option maxHeartbeats 2000000 in
theorem refprog_any {w : World} {S : Nat → Prop} {A : Option Addr} {n cap : Nat} {xss : List (List Ins)} (h : Mat w S A n cap xss) (hS : ∀ g, S g → g < w.heap.size) (r c s : Int) (hG : Good r c s xss) :
    Calls Tryd.prog 12 #[.agg #[.int .i64 r, .int .i64 c, .int .i64 s, .slice A n cap]] w fun e w' => e = .returned (.string (txt (textP r c s xss))) ∧ Below w.heap.size w w' := by
  have hm := len_i64 h.room h.most
  have hlen := Lib.hid h.len
  have HG := Lib.hid hG
  obtain ⟨W0, eW0⟩ : ∃ W0, W0 = w.alloc (.cells #[.int .i64 r, .int .i64 c, .int .i64 s, .slice A n cap] 32) := ⟨_, rfl⟩
  have b0 : Below w.heap.size w W0 := by rw [eW0]; exact (Below.refl _ w).alloc (Nat.le_refl _) _
  have p0 : Blk W0 w.heap.size 32 #[.int .i64 r, .int .i64 c, .int .i64 s, .slice A n cap] := by rw [eW0]; exact heap_alloc_new w _
  have h0 := h.below b0 hS
  have hS0 : ∀ g, S g → g < W0.heap.size := fun g hg => Nat.lt_of_lt_of_le (hS g hg) b0.size
  clear hG h hS
  have tp : ∀ W, Below W0.heap.size W0 W → Blk W w.heap.size 32 #[.int .i64 r, .int .i64 c, .int .i64 s, .slice A n cap] := fun W hW => p0.below hW p0.lt
  have tc0 : ∀ W, Below W0.heap.size W0 W → W.cell? ⟨w.heap.size, 0, none⟩ = some (.int .i64 r) := fun W hW => (tp W hW).cell 0
  have tc1 : ∀ W, Below W0.heap.size W0 W → W.cell? ⟨w.heap.size, 1, none⟩ = some (.int .i64 c) := fun W hW => (tp W hW).cell 1
  have tc2 : ∀ W, Below W0.heap.size W0 W → W.cell? ⟨w.heap.size, 2, none⟩ = some (.int .i64 s) := fun W hW => (tp W hW).cell 2
  have k0 := (Below.refl W0.heap.size W0).drew
  have hwr := HG.out.wr
  have hwc := HG.out.wc
  have hws := HG.out.ws
  obtain ⟨tr, etr⟩ : ∃ t, txt (Lib.itoa r) = t := ⟨_, rfl⟩
  obtain ⟨ts, ets⟩ : ∃ t, txt (Lib.itoa s) = t := ⟨_, rfl⟩
  obtain ⟨tk, etk⟩ : ∃ t, txt (Lib.itoa c) = t := ⟨_, rfl⟩
  have D0 := fun W => refdec_any r hwr W
  have D1 := fun W => refdec_any c hwc W
  have D2 := fun W => refdec_any s hws W
  have hsr : (txt (Lib.itoa r)).size ≤ 21 := by rw [txt_size]; exact itoa_short hwr
  have hsc : (txt (Lib.itoa c)).size ≤ 21 := by rw [txt_size]; exact itoa_short hwc
  have hss : (txt (Lib.itoa s)).size ≤ 21 := by rw [txt_size]; exact itoa_short hws
  have hh := head_txt r c s
  simp only [etr] at D0 hsr hh
  simp only [etk] at D1 hsc hh
  simp only [ets] at D2 hss hh
  have HH := Lib.hid hh
  clear hh etr ets etk hwr hwc hws
  have g1 : ¬ 9223372036854775807 < 9 + tr.size := by omega
  have g2 : ¬ 9223372036854775807 < 9 + tr.size + 1 := by omega
  have g3 : ¬ 9223372036854775807 < 9 + tr.size + 1 + tk.size := by omega
  have g4 : ¬ 9223372036854775807 < 9 + tr.size + 1 + tk.size + 1 := by omega
  have g5 : ¬ 9223372036854775807 < 9 + tr.size + 1 + tk.size + 1 + ts.size := by omega
  have g6 : ¬ 9223372036854775807 < 9 + tr.size + 1 + tk.size + 1 + ts.size + 1 := by omega
  go_enter Tryd.func12, Tryd.ntmps12
  go_wp2_with fail
  rw [← eW0]
  clear eW0
  go_wp2_with fail
  refine wp_region_noPanic ?_
  refine wp_region_held_drew (S := (fun w' => w'.cell? ⟨w.heap.size, 0, none⟩ = some (.int .i64 r) ∧ w'.cell? ⟨w.heap.size, 1, none⟩ = some (.int .i64 c) ∧ w'.cell? ⟨w.heap.size, 2, none⟩ = some (.int .i64 s))) (by kernel_rfl) ⟨tc0 _ k0, tc1 _ k0, tc2 _ k0⟩ (fun hHeld => ?_)
  refine wpAnyH_take (i := 0) (oi := ⟨some 6, _, _, _, _, _⟩) (v := ?_) rfl (by kernel_rfl) (by kernel_rfl) (by kernel_rfl) (fun _ _ _ h => h) (Or.inl ⟨by rfl, ?_⟩) (by assumption) ?_
  rotate_left 1
  · (intro W hSw; go_simp <;> with_reducible rfl)
  try simp only [Act.put, List.setIfInBounds_toArray, List.set_cons_zero, List.set_cons_succ]
  refine wpAnyH_take (i := 1) (oi := ⟨some 7, _, _, _, _, _⟩) (v := ?_) rfl (by kernel_rfl) (by kernel_rfl) (by kernel_rfl) (fun _ _ _ h => h) (Or.inl ⟨by rfl, ?_⟩) (by assumption) ?_
  rotate_left 1
  · (intro W hSw; go_simp <;> with_reducible rfl)
  try simp only [Act.put, List.setIfInBounds_toArray, List.set_cons_zero, List.set_cons_succ]
  refine wpAnyH_take (i := 5) (oi := ⟨some 11, _, _, _, _, _⟩) (v := ?_) rfl (by kernel_rfl) (by kernel_rfl) (by kernel_rfl) (fun _ _ _ h => h) (Or.inl ⟨by rfl, ?_⟩) (by assumption) ?_
  rotate_left 1
  · (intro W hSw; go_simp <;> with_reducible rfl)
  try simp only [Act.put, List.setIfInBounds_toArray, List.set_cons_zero, List.set_cons_succ]
  refine wpAnyH_take (i := 6) (oi := ⟨some 12, _, _, _, _, _⟩) (v := ?_) rfl (by kernel_rfl) (by kernel_rfl) (by kernel_rfl) (fun _ _ _ h => h) (Or.inl ⟨by rfl, ?_⟩) (by assumption) ?_
  rotate_left 1
  · (intro W hSw; go_simp <;> with_reducible rfl)
  try simp only [Act.put, List.setIfInBounds_toArray, List.set_cons_zero, List.set_cons_succ]
  refine wpAnyH_take (i := 10) (oi := ⟨some 16, _, _, _, _, _⟩) (v := ?_) rfl (by kernel_rfl) (by kernel_rfl) (by kernel_rfl) (fun _ _ _ h => h) (Or.inl ⟨by rfl, ?_⟩) (by assumption) ?_
  rotate_left 1
  · (intro W hSw; go_simp <;> with_reducible rfl)
  try simp only [Act.put, List.setIfInBounds_toArray, List.set_cons_zero, List.set_cons_succ]
  refine wpAnyH_take (i := 11) (oi := ⟨some 17, _, _, _, _, _⟩) (v := ?_) rfl (by kernel_rfl) (by kernel_rfl) (by kernel_rfl) (fun _ _ _ h => h) (Or.inl ⟨by rfl, ?_⟩) (by assumption) ?_
  rotate_left 1
  · (intro W hSw; go_simp <;> with_reducible rfl)
  try simp only [Act.put, List.setIfInBounds_toArray, List.set_cons_zero, List.set_cons_succ]
  refine wpAnyH_ready (rs := [2]) (by kernel_rfl) (by simp) ?_
  refine AllReadyH.cons rfl (fun K hK => ?_) AllReadyH.nil
  go_simp
  refine (D0 _).mono ?_
  rintro e w5 ⟨rfl, hb5⟩
  have k5 := k0.trans (hb5.mono k0.size)
  refine hK.out _ _ ⟨tc0 _ k5, tc1 _ k5, tc2 _ k5⟩ (fun hHeld0 => ?_)
  clear hHeld hK K
  try simp only [Act.put, List.setIfInBounds_toArray, List.set_cons_zero, List.set_cons_succ]
  refine wpAnyH_take (i := 3) (oi := ⟨some 9, _, _, _, _, _⟩) (v := ?_) rfl (by kernel_rfl) (by kernel_rfl) (by kernel_rfl) (fun _ _ _ h => h) (Or.inl ⟨by rfl, ?_⟩) (by assumption) ?_
  rotate_left 1
  · (intro W hSw; go_simp <;> with_reducible rfl)
  try simp only [Act.put, List.setIfInBounds_toArray, List.set_cons_zero, List.set_cons_succ]
  refine wpAnyH_take (i := 4) (oi := ⟨some 10, _, _, _, _, _⟩) (v := ?_) rfl (by kernel_rfl) (by kernel_rfl) (by kernel_rfl) (fun _ _ _ h => h) (Or.inl ⟨by rfl, ?_⟩) (by assumption) ?_
  rotate_left 1
  · (intro W hSw; go_simp <;> with_reducible rfl)
  try simp only [Act.put, List.setIfInBounds_toArray, List.set_cons_zero, List.set_cons_succ]
  refine wpAnyH_ready (rs := [7]) (by kernel_rfl) (by simp) ?_
  refine AllReadyH.cons rfl (fun K hK => ?_) AllReadyH.nil
  go_simp
  refine (D1 _).mono ?_
  rintro e w6 ⟨rfl, hb6⟩
  have k6 := k5.trans (hb6.mono k5.size)
  refine hK.out _ _ ⟨tc0 _ k6, tc1 _ k6, tc2 _ k6⟩ (fun hHeld1 => ?_)
  clear hHeld0 hK K
  try simp only [Act.put, List.setIfInBounds_toArray, List.set_cons_zero, List.set_cons_succ]
  refine wpAnyH_take (i := 8) (oi := ⟨some 14, _, _, _, _, _⟩) (v := ?_) rfl (by kernel_rfl) (by kernel_rfl) (by kernel_rfl) (fun _ _ _ h => h) (Or.inl ⟨by rfl, ?_⟩) (by assumption) ?_
  rotate_left 1
  · (intro W hSw; go_simp <;> with_reducible rfl)
  try simp only [Act.put, List.setIfInBounds_toArray, List.set_cons_zero, List.set_cons_succ]
  refine wpAnyH_take (i := 9) (oi := ⟨some 15, _, _, _, _, _⟩) (v := ?_) rfl (by kernel_rfl) (by kernel_rfl) (by kernel_rfl) (fun _ _ _ h => h) (Or.inl ⟨by rfl, ?_⟩) (by assumption) ?_
  rotate_left 1
  · (intro W hSw; go_simp <;> with_reducible rfl)
  try simp only [Act.put, List.setIfInBounds_toArray, List.set_cons_zero, List.set_cons_succ]
  refine wpAnyH_ready (rs := [12]) (by kernel_rfl) (by simp) ?_
  refine AllReadyH.cons rfl (fun K hK => ?_) AllReadyH.nil
  go_simp
  refine (D2 _).mono ?_
  rintro e w7 ⟨rfl, hb7⟩
  have k7 := k6.trans (hb7.mono k6.size)
  refine hK.out _ _ ⟨tc0 _ k7, tc1 _ k7, tc2 _ k7⟩ (fun hHeld2 => ?_)
  clear hHeld1 hK K
  try simp only [Act.put, List.setIfInBounds_toArray, List.set_cons_zero, List.set_cons_succ]
  refine wpAnyH_take (i := 13) (oi := ⟨some 19, _, _, _, _, _⟩) (v := ?_) rfl (by kernel_rfl) (by kernel_rfl) (by kernel_rfl) (fun _ _ _ h => h) (Or.inl ⟨by rfl, ?_⟩) (by assumption) ?_
  rotate_left 1
  · (intro W hSw; go_simp <;> with_reducible rfl)
  try simp only [Act.put, List.setIfInBounds_toArray, List.set_cons_zero, List.set_cons_succ]
  refine wpAnyH_take (i := 14) (oi := ⟨some 20, _, _, _, _, _⟩) (v := ?_) rfl (by kernel_rfl) (by kernel_rfl) (by kernel_rfl) (fun _ _ _ h => h) (Or.inl ⟨by rfl, ?_⟩) (by assumption) ?_
  rotate_left 1
  · (intro W hSw; go_simp <;> with_reducible rfl)
  try simp only [Act.put, List.setIfInBounds_toArray, List.set_cons_zero, List.set_cons_succ]
  refine wpAnyH_take (i := 15) (oi := ⟨some 3, _, _, _, _, _⟩) (v := ?_) rfl (by kernel_rfl) (by kernel_rfl) (by kernel_rfl) (fun _ _ _ h => h) (Or.inl ⟨by rfl, ?_⟩) (by assumption) ?_
  rotate_left 1
  · (intro W hSw; go_simp <;> with_reducible rfl)
  try simp only [Act.put, List.setIfInBounds_toArray, List.set_cons_zero, List.set_cons_succ]
  refine wpAnyH_done (by kernel_rfl) ?_ _
  refine NoPanic.normal ?_
  rw [HH.out]
  clear hHeld2 g1 g2 g3 g4 g5 g6 D0 D1 D2 hsr hsc hss tc0 tc1 tc2 k0 k5 k6 hb5 hb6 hb7 HH
  have HT := Lib.hid (fun k => HG.out.text k)
  have hhs := HG.out.head
  obtain ⟨hd, ehd⟩ : ∃ hd, headL r c s = hd := ⟨_, rfl⟩
  rw [ehd] at hhs
  rw [ehd]
  have EHD := Lib.hid ehd
  have HH := Lib.hid hhs
  clear ehd hhs
  go_wp2_with fail
  go_loopw [3, 4, 5] (fun v i _ wr => ∃ k : Nat, i = .int .i64 k ∧ k ≤ n ∧ v = .string (txt (hd ++ textM (xss.take k))) ∧ Below W0.heap.size W0 wr) (fun _ i _ _ => n - (intOf i).toNat)
  case atStart => exact ⟨0, rfl, Nat.zero_le _, by simp [textM], k7⟩
  case round =>
    obtain ⟨k, rfl, hk, rfl, hb⟩ := hrel
    generalize wr = w4 at *
    clear k7
    have z3 : w4.cell? ⟨w.heap.size, 3, none⟩ = some (.slice A n cap) := (tp _ hb).cell 3
    have hQ : (hd ++ textM (xss.take k)).length ≤ 7243 := by
      rw [List.length_append]
      have h1 := HT.out k
      have h2 := HH.out
      omega
    by_cases hlt : k < n
    · obtain ⟨g, off, A1, n1, c1, xs, rfl, hg, hx, hc1, hl1⟩ := h0.at_ k hlt
      have hm1 := len_i64 hl1.room hl1.most
      have hmem := List.mem_of_getElem? hx
      have HLL := Lib.hid (fun j => HG.out.lines hmem j)
      have HWI := Lib.hid (HG.out.wide xs hmem)
      have HFO := Lib.hid (HG.out.four xs hmem)
      have HSN : Hid (textM (xss.take (k + 1)) = textM (xss.take k) ++ textT xs) := Lib.hid (by rw [take_snoc hx, textM_snoc])
      have hl1l := Lib.hid hl1.len
      have HNX : Hid (hd ++ textM (xss.take (k + 1)) = hd ++ textM (xss.take k) ++ wThread ++ [10] ++ linesT (xs.take n1)) := Lib.hid (by
        have e : xs.take n1 = xs := List.take_of_length_le (by rw [hl1l.out]; exact Nat.le_refl _)
        rw [e, HSN.out, textT]
        simp)
      clear HSN hx hmem
      generalize hd ++ textM (xss.take k) = Q at *
      have hQs : (txt Q).size ≤ 7243 := by rw [txt_size]; exact hQ
      have t0 : decide ((k : Int) < (n : Int)) = true := decide_eq_true (by omega)
      have j0 : (0 : Int) ≤ (k : Int) := by omega
      have j1 : (k : Int) < (n : Int) := by omega
      have HTH := Lib.hid (thread_txt Q)
      go_wp2_with fail
      go_loopw [3, 5] (fun v i wr => ∃ j : Nat, i = .int .i64 j ∧ j ≤ n1 ∧ v = .string (txt (Q ++ wThread ++ [10] ++ linesT (xs.take j))) ∧ Below W0.heap.size W0 wr) (fun _ i _ => n1 - (intOf i).toNat)
      case atStart => exact ⟨0, rfl, Nat.zero_le _, by rw [HTH.out]; simp [linesT], hb⟩
      case round =>
        obtain ⟨j, rfl, hj, rfl, hbj⟩ := hrel
        clear z3
        have z3 : wr.cell? ⟨w.heap.size, 3, none⟩ = some (.slice (some ⟨g, off, none⟩) n cap) := (tp _ hbj).cell 3
        have hcj := (hbj.cell (hS0 g hg)).trans hc1
        have hLj := HLL.out j
        have hq2 : (Q ++ wThread ++ [10] ++ linesT (xs.take j)).length ≤ 9100 := by
          rw [List.length_append, List.length_append, List.length_append]
          have e1 : wThread.length = 6 := rfl
          have e2 : ([10] : List UInt8).length = 1 := rfl
          omega
        by_cases hjt : j < n1
        · obtain ⟨g2, off2, x, rfl, hg2, hx2, hc2⟩ := (hl1.below hbj hS0).at_ j hjt
          have hxm := List.mem_of_getElem? hx2
          obtain ⟨wa, wb, wc, wn⟩ := HWI.out x hxm
          have h4 := HFO.out x hxm
          have hsh : (txt (lineI x)).size ≤ 110 := by rw [txt_size]; exact lineI_short (HWI.out x hxm)
          have HSN : Hid (linesT (xs.take (j + 1)) = linesT (xs.take j) ++ lineI x ++ [10]) := Lib.hid (by rw [take_snoc hx2, linesT_snoc])
          have HNJ : Hid (txt (Q ++ wThread ++ [10] ++ linesT (xs.take (j + 1))) = txt (Q ++ wThread ++ [10] ++ linesT (xs.take j)) ++ txt (lineI x) ++ (⟨#[10]⟩ : ByteArray)) := Lib.hid (by rw [HSN.out, feed_txt]; simp)
          have hSh := fun W => refline_any x.o x.a x.b x.c x.n wa wb wc wn W h4
          have HL : lineZ x.o x.a x.b x.c x.n = lineI x := rfl
          rw [HL] at hSh
          clear HL HSN hxm hx2 hLj
          generalize Q ++ wThread ++ [10] ++ linesT (xs.take j) = Qj at *
          have hq3 : (txt Qj).size ≤ 9100 := by rw [txt_size]; exact hq2
          obtain ⟨d0, d1, d2, d3, d4⟩ := id hc2
          have t1 : decide ((j : Int) < (n1 : Int)) = true := decide_eq_true (by omega)
          have m0 : (0 : Int) ≤ (j : Int) := by omega
          have m1 : (j : Int) < (n1 : Int) := by omega
          clear hc2
          generalize txt (lineI x) = tli at *
          generalize txt Qj = tqj at *
          go_wp2_with fail
          refine (hSh _).mono ?_
          rintro e w6 ⟨rfl, hb6⟩
          have q6 := hbj.trans (hb6.mono hbj.size)
          clear d0 d1 d2 d3 d4 hSh
          go_wp2
          go_roundw
          case rel => exact ⟨j + 1, by go_num, by omega, by rw [HNJ.out], q6⟩
          case measure => simp [intOf]; omega
        · obtain rfl : j = n1 := by omega
          have t1 : decide ((j : Int) < (j : Int)) = false := decide_eq_false (by omega)
          rw [← HNX.out]
          go_wp2
          go_roundw
          case rel => exact ⟨k + 1, by go_num, by omega, rfl, hbj⟩
          case measure => simp [intOf]; omega
    · obtain rfl : k = n := by omega
      have t0 : decide ((k : Int) < (k : Int)) = false := decide_eq_false (by omega)
      have e : xss.take k = xss := List.take_of_length_le (by rw [hlen.out]; exact Nat.le_refl _)
      rw [e]
      clear e
      have HE : Hid (textP r c s xss = hd ++ textM xss) := Lib.hid (by rw [textP, EHD.out])
      go_wp2
      go_ret
      exact ⟨by rw [HE.out]; rfl, b0.trans (hb.mono b0.size)⟩
end Go.Proofs.YtodklfjoeehinaaDoor
