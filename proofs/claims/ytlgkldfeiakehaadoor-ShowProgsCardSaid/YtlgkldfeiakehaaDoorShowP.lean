/- What show's Prog answers. Conditions: the variables lie as they are laid; operands of 64 bits. -/
import Derived.Test.YtlgkldfeiakehaaDoorGood
namespace Go.Proofs.YtlgkldfeiakehaaDoor
open Go.RowKit Nine

set_option maxRecDepth 100000 in
theorem prog_bad {w : World} {S : Nat → Prop} {A : Option Addr} {n cap : Nat} {xss : List (List Ins)} (h : Mat w S A n cap xss) (hS : ∀ g, S g → g < w.heap.size) (hL : Laid w) (r c s v : Int) (hv : chkP r c s xss = v) (hn : v ≠ 0) :
    Calls Tryd.prog 10 #[.agg #[.int .i64 r, .int .i64 c, .int .i64 s, .slice A n cap]] w fun e w' => e = .returned (.tuple #[.string ⟨#[]⟩, .int .i64 v]) ∧ Below w.heap.size w w' := by
  obtain ⟨W0, eW0⟩ : ∃ W0, W0 = w.alloc (.cells #[.int .i64 r, .int .i64 c, .int .i64 s, .slice A n cap] 33) := ⟨_, rfl⟩
  have b0 : Below w.heap.size w W0 := by rw [eW0]; exact (Below.refl _ w).alloc (Nat.le_refl _) _
  have p0 : Blk W0 w.heap.size 33 #[.int .i64 r, .int .i64 c, .int .i64 s, .slice A n cap] := by rw [eW0]; exact heap_alloc_new w _
  have z0 := p0.cell 0
  have z1 := p0.cell 1
  have z2 := p0.cell 2
  have z3 := p0.cell 3
  have hC := prog_check (h.below b0 hS) (fun g hg => Nat.lt_of_lt_of_le (hS g hg) b0.size) (hL.on b0) r c s
  rw [hv] at hC
  have t0 : decide (v = 0) = false := decide_eq_false hn
  have t1 : (v == 0) = false := by simpa using hn
  go_enter Tryd.func10, Tryd.ntmps10
  go_wp2_with fail
  rw [← eW0]
  clear eW0
  go_wp2_with fail
  refine hC.mono ?_
  rintro e w1 ⟨rfl, hb1⟩
  go_wp2
  go_ret2
  exact ⟨rfl, b0.trans (hb1.mono b0.size)⟩

set_option maxRecDepth 100000 in
set_option maxHeartbeats 2000000 in
theorem prog_good {w : World} {S : Nat → Prop} {A : Option Addr} {n cap : Nat} {xss : List (List Ins)} (h : Mat w S A n cap xss) (hS : ∀ g, S g → g < w.heap.size) (hL : Laid w) (r c s : Int) (hv : chkP r c s xss = 0) (hG : Good r c s xss) :
    Calls Tryd.prog 10 #[.agg #[.int .i64 r, .int .i64 c, .int .i64 s, .slice A n cap]] w fun e w' => e = .returned (.tuple #[.string (txt (textP r c s xss)), .int .i64 0]) ∧ Below w.heap.size w w' := by
  have hm := len_i64 h.room h.most
  have hlen := Lib.hid h.len
  have HG := Lib.hid hG
  obtain ⟨W0, eW0⟩ : ∃ W0, W0 = w.alloc (.cells #[.int .i64 r, .int .i64 c, .int .i64 s, .slice A n cap] 33) := ⟨_, rfl⟩
  have b0 : Below w.heap.size w W0 := by rw [eW0]; exact (Below.refl _ w).alloc (Nat.le_refl _) _
  have p0 : Blk W0 w.heap.size 33 #[.int .i64 r, .int .i64 c, .int .i64 s, .slice A n cap] := by rw [eW0]; exact heap_alloc_new w _
  have h0 := h.below b0 hS
  have hS0 : ∀ g, S g → g < W0.heap.size := fun g hg => Nat.lt_of_lt_of_le (hS g hg) b0.size
  have z0 := p0.cell 0
  have z1 := p0.cell 1
  have z2 := p0.cell 2
  have z3 := p0.cell 3
  have hL0 := hL.on b0
  have hC := prog_check h0 hS0 hL0 r c s
  rw [hv] at hC
  clear hv h hS hL hG
  have hm2 : ∀ (fn : Fn) (first cap : Array Value) (w : World), (Instr.makeFunc fn first cap).run Tryd.prog w = .ok (.func fn first cap) w := fun _ _ _ _ => rfl
  go_enter Tryd.func10, Tryd.ntmps10
  go_wp2_with fail
  rw [← eW0]
  clear eW0
  go_wp2_with fail
  refine hC.mono ?_
  rintro e w1 ⟨rfl, hb1⟩
  replace p0 := p0.below hb1 p0.lt
  replace h0 := h0.below hb1 hS0
  replace hS0 : ∀ g, S g → g < w1.heap.size := fun g hg => Nat.lt_of_lt_of_le (hS0 g hg) hb1.size
  replace hL0 := hL0.on hb1
  replace b0 := b0.trans (hb1.mono b0.size)
  clear z0 z1 z2 z3 hC hb1
  obtain ⟨W2, eW2⟩ : ∃ W2, W2 = w1.alloc (.cells #[.pointer none, .slice none 0 0] 51) := ⟨_, rfl⟩
  have hIB : Lib.IsBuilder 51 5 w1.heap.size w1.heap.size (cellsB []) W2 := by rw [eW2]; exact Lib.fresh_isBuilder 51 5 w1
  have b2 : Below w1.heap.size w1 W2 := by rw [eW2]; exact (Below.refl _ _).alloc (Nat.le_refl _) _
  have tp : ∀ W, Below w1.heap.size w1 W → Blk W w.heap.size 33 #[.int .i64 r, .int .i64 c, .int .i64 s, .slice A n cap] := fun W hW => p0.below hW p0.lt
  have tc0 : ∀ W, Below w1.heap.size w1 W → W.cell? ⟨w.heap.size, 0, none⟩ = some (.int .i64 r) := fun W hW => (tp W hW).cell 0
  have tc1 : ∀ W, Below w1.heap.size w1 W → W.cell? ⟨w.heap.size, 1, none⟩ = some (.int .i64 c) := fun W hW => (tp W hW).cell 1
  have tc2 : ∀ W, Below w1.heap.size w1 W → W.cell? ⟨w.heap.size, 2, none⟩ = some (.int .i64 s) := fun W hW => (tp W hW).cell 2
  have k0 := b2.drew
  have i0 : Lib.IsBuilder 51 5 w1.heap.size w1.heap.size (cellsB []) W2.drew := build_on hIB (Below.refl _ W2).drew
  have tl : ∀ W, Below w1.heap.size w1 W → Laid W := fun W hW => hL0.on hW
  have hwr := HG.out.wr
  have hwc := HG.out.wc
  have hws := HG.out.ws
  have hhs := HG.out.head
  have hh2 := head_short hwr hwc hws
  have hsr := itoa_short hwr
  have hsc := itoa_short hwc
  have hss := itoa_short hws
  go_wp2_with fail
  rw [← eW2]
  clear eW2
  go_region_held3 (fun w' => w'.cell? ⟨w.heap.size, 0, none⟩ = some (.int .i64 r) ∧ w'.cell? ⟨w.heap.size, 1, none⟩ = some (.int .i64 c) ∧ w'.cell? ⟨w.heap.size, 2, none⟩ = some (.int .i64 s))
    (first
      | (exact ⟨tc0 _ k0, tc1 _ k0, tc2 _ k0⟩)
      | (exact ⟨tc0 _ k5, tc1 _ k5, tc2 _ k5⟩)
      | (exact ⟨tc0 _ k6, tc1 _ k6, tc2 _ k6⟩)
      | (exact ⟨tc0 _ k7, tc1 _ k7, tc2 _ k7⟩)
      | (exact ⟨tc0 _ (k7.alloc k7.size _), tc1 _ (k7.alloc k7.size _), tc2 _ (k7.alloc k7.size _)⟩)
      | (exact ⟨tc0 _ k9, tc1 _ k9, tc2 _ k9⟩))
    (first
      | (go_at_call 27; refine (decn_any r hwr _ (tl _ k0)).mono ?_; rintro e w5 ⟨rfl, hb5⟩; have k5 := k0.trans (hb5.mono k0.size); have i5 := build_on i0 hb5)
      | (go_at_call 27; refine (decn_any c hwc _ (tl _ k5)).mono ?_; rintro e w6 ⟨rfl, hb6⟩; have k6 := k5.trans (hb6.mono k5.size); have i6 := build_on i5 hb6)
      | (go_at_call 27; refine (decn_any s hws _ (tl _ k6)).mono ?_; rintro e w7 ⟨rfl, hb7⟩; have k7 := k6.trans (hb7.mono k6.size); have i7 := build_on i6 hb7)
      | (go_at_call 25; refine (write_line w1.heap.size w1.heap.size [] _ 4 4 [wFirst, Lib.itoa r, Lib.itoa c, Lib.itoa s] _ (build_on i7 ((Below.refl _ _).alloc (Nat.le_refl _) _)) ((row_lit w7 [wFirst, Lib.itoa r, Lib.itoa c, Lib.itoa s] 4 rfl (by unfold maxLen; omega)).more (by simp)) (by omega) (by intro y hy; simp [wFirst] at hy; rcases hy with rfl | rfl | rfl | rfl <;> first | decide | omega) (by omega) (by simp)).mono ?_; rintro e w9 ⟨rfl, i9, hb9⟩; have k9 := (k7.alloc k7.size _).trans hb9))
  have j9 : Lib.IsBuilder 51 5 w1.heap.size w1.heap.size (cellsB (headL r c s ++ textM (xss.take 0))) w9 := by
    have e : headL r c s ++ textM (xss.take 0) = [] ++ joinL [wFirst, Lib.itoa r, Lib.itoa c, Lib.itoa s] ++ [10] := by simp [headL, textM]
    rw [e]
    exact i9
  have z3 : w9.cell? ⟨w.heap.size, 3, none⟩ = some (.slice A n cap) := (tp _ k9).cell 3
  have HT := Lib.hid (fun k => HG.out.text k)
  clear tc0 tc1 tc2 k0 k5 k6 k7 i0 i5 i6 i7 i9 hIB b2 hb5 hb6 hb7 hb9 hwr hwc hws hh2 hsr hsc hss tp p0
  have HH := Lib.hid hhs
  clear hhs
  obtain ⟨hd, ehd⟩ : ∃ hd, headL r c s = hd := ⟨_, rfl⟩
  rw [ehd] at j9 HH
  have EHD := Lib.hid ehd
  clear ehd
  go_wp2_with fail
  go_loopw [8, 10, 11, 12, 34] (fun _ _ _ _ i wr => ∃ k : Nat, i = .int .i64 k ∧ k ≤ n ∧ Lib.IsBuilder 51 5 w1.heap.size w1.heap.size (cellsB (hd ++ textM (xss.take k))) wr ∧ Below w1.heap.size w1 wr) (fun _ _ _ _ i _ => n - (intOf i).toNat)
  case atStart => exact ⟨0, rfl, Nat.zero_le _, j9, k9⟩
  case round =>
    obtain ⟨k, rfl, hk, hI, hb⟩ := hrel
    generalize wr = w4 at *
    clear z3 j9 k9
    by_cases hlt : k < n
    · obtain ⟨g, off, A1, n1, c1, xs, rfl, hg, hx, hc1, hl1⟩ := h0.at_ k hlt
      have hc := (hb.cell (hS0 g hg)).trans hc1
      have hm1 := len_i64 hl1.room hl1.most
      have hmem := List.mem_of_getElem? hx
      have HLL := Lib.hid (fun j => HG.out.lines hmem j)
      have HWI := Lib.hid (HG.out.wide xs hmem)
      have HFO := Lib.hid (HG.out.four xs hmem)
      have HSN : Hid (textM (xss.take (k + 1)) = textM (xss.take k) ++ textT xs) := Lib.hid (by rw [take_snoc hx, textM_snoc])
      have hl1l := Lib.hid hl1.len
      have hQ : (hd ++ textM (xss.take k)).length ≤ 7243 := by
        rw [List.length_append]
        have h1 := HT.out k
        have h2 := HH.out
        omega
      have HNX : Hid (hd ++ textM (xss.take (k + 1)) = hd ++ textM (xss.take k) ++ wThread ++ [10] ++ linesT (xs.take n1)) := Lib.hid (by
        have e : xs.take n1 = xs := List.take_of_length_le (by rw [hl1l.out]; exact Nat.le_refl _)
        rw [e, HSN.out, textT]
        simp)
      clear HSN hx hmem hc1
      generalize hd ++ textM (xss.take k) = Q at *
      have t0 : decide ((k : Int) < (n : Int)) = true := decide_eq_true (by omega)
      have j0 : (0 : Int) ≤ (k : Int) := by omega
      have j1 : (k : Int) < (n : Int) := by omega
      go_wp2_with fail
      refine (write_line w1.heap.size w1.heap.size Q _ 1 1 [wThread] _ (build_on hI ((Below.refl _ _).alloc (Nat.le_refl _) _)) ((row_lit w4 [wThread] 1 rfl (by unfold maxLen; omega)).more (by simp)) (by omega) (by intro y hy; simp at hy; subst hy; decide) (by decide) (by omega)).mono ?_
      rintro e w5 ⟨rfl, hI5, hb5⟩
      have q5 := (hb.alloc hb.size _).trans hb5
      have hs5 : Lib.IsBuilder 51 5 w1.heap.size w1.heap.size (cellsB (Q ++ wThread ++ [10] ++ linesT (xs.take 0))) w5 := by
        have e : Q ++ wThread ++ [10] ++ linesT (xs.take 0) = Q ++ joinL [wThread] ++ [10] := by simp [linesT, joinL]
        rw [e]
        exact hI5
      clear hI hb5 hI5 hc
      go_wp2_with fail
      go_loopw [10, 11, 12, 43] (fun _ _ _ i wr => ∃ j : Nat, i = .int .i64 j ∧ j ≤ n1 ∧ Lib.IsBuilder 51 5 w1.heap.size w1.heap.size (cellsB (Q ++ wThread ++ [10] ++ linesT (xs.take j))) wr ∧ Below w1.heap.size w1 wr) (fun _ _ _ i _ => n1 - (intOf i).toNat)
      case atStart => exact ⟨0, rfl, Nat.zero_le _, hs5, q5⟩
      case round =>
        obtain ⟨j, rfl, hj, hIj, hbj⟩ := hrel
        clear hs5 q5
        by_cases hjt : j < n1
        · obtain ⟨g2, off2, x, rfl, hg2, hx2, hc2⟩ := (hl1.below hbj hS0).at_ j hjt
          have hxm := List.mem_of_getElem? hx2
          obtain ⟨wa, wb, wc, wn⟩ := HWI.out x hxm
          have h4 := HFO.out x hxm
          have hsh : (lineI x).length ≤ 110 := lineI_short (HWI.out x hxm)
          have HSN : Hid (linesT (xs.take (j + 1)) = linesT (xs.take j) ++ lineI x ++ [10]) := Lib.hid (by rw [take_snoc hx2, linesT_snoc])
          have hLj := HLL.out j
          have hq2 : (Q ++ wThread ++ [10] ++ linesT (xs.take j)).length ≤ 9100 := by
            rw [List.length_append, List.length_append, List.length_append]
            have e1 : wThread.length = 6 := rfl
            have e2 : ([10] : List UInt8).length = 1 := rfl
            omega
          have HNJ : Hid (Q ++ wThread ++ [10] ++ linesT (xs.take (j + 1)) = (Q ++ wThread ++ [10] ++ linesT (xs.take j)) ++ joinL [lineI x] ++ [10]) := Lib.hid (by rw [HSN.out]; simp [joinL])
          clear HSN hxm hx2 hLj
          generalize Q ++ wThread ++ [10] ++ linesT (xs.take j) = Qj at *
          have a1 : Below wr.heap.size wr (wr.alloc (.cells #[.int .i64 x.o, .int .i64 x.a, .int .i64 x.b, .int .i64 x.c, .int .i64 x.n] 23)) := (Below.refl _ _).alloc (Nat.le_refl _) _
          have y1 := At5.new wr x.o x.a x.b x.c x.n
          have q1 := hbj.trans (a1.mono hbj.size)
          have hI1 := build_on hIj a1
          have hSh := show_some x.o x.a x.b x.c x.n wa wb wc wn _ (tl _ q1) h4
          have HL : lineZ x.o x.a x.b x.c x.n = lineI x := rfl
          rw [HL] at hSh
          clear HL
          obtain ⟨d0, d1, d2, d3, d4⟩ := id hc2
          obtain ⟨f0, f1, f2, f3, f4⟩ := y1
          have t1 : decide ((j : Int) < (n1 : Int)) = true := decide_eq_true (by omega)
          have m0 : (0 : Int) ≤ (j : Int) := by omega
          have m1 : (j : Int) < (n1 : Int) := by omega
          clear hc2
          go_wp2_with fail
          refine hSh.mono ?_
          rintro e w6 ⟨rfl, hb6⟩
          have hI6 := build_on hI1 hb6
          have q6 := q1.trans (hb6.mono q1.size)
          clear d0 d1 d2 d3 d4 f0 f1 f2 f3 f4 hSh
          go_wp2_with fail
          refine (write_line w1.heap.size w1.heap.size Qj _ 1 1 [lineI x] _ (build_on hI6 ((Below.refl _ _).alloc (Nat.le_refl _) _)) ((row_lit w6 [lineI x] 1 rfl (by unfold maxLen; omega)).more (by simp)) (by omega) (by intro y hy; simp at hy; subst hy; omega) (by show (lineI x).length ≤ 1000; omega) (by omega)).mono ?_
          rintro e w7 ⟨rfl, hI7, hb7⟩
          have q7 := (q6.alloc q6.size _).trans hb7
          go_wp2
          go_roundw
          case rel => exact ⟨j + 1, by go_num, by omega, by rw [HNJ.out]; exact hI7, q7⟩
          case measure => simp [intOf]; omega
        · obtain rfl : j = n1 := by omega
          have t1 : decide ((j : Int) < (j : Int)) = false := decide_eq_false (by omega)
          go_wp2
          go_roundw
          case rel => exact ⟨k + 1, by go_num, by omega, by rw [HNX.out]; exact hIj, hbj⟩
          case measure => simp [intOf]; omega
    · obtain rfl : k = n := by omega
      have t0 : decide ((k : Int) < (k : Int)) = false := decide_eq_false (by omega)
      have e : xss.take k = xss := List.take_of_length_le (by rw [hlen.out]; exact Nat.le_refl _)
      rw [e] at hI
      clear e
      have HE : Hid (textP r c s xss = hd ++ textM xss) := Lib.hid (by rw [textP, EHD.out])
      go_wp2_with fail
      refine (Tryd.Builder_String_any _ _ (hd ++ textM xss) _ hI hb.size).mono ?_
      rintro e w8 ⟨rfl, hb8⟩
      go_wp2
      go_ret2
      exact ⟨by rw [HE.out]; rfl, b0.trans ((hb.trans hb8).mono b0.size)⟩
end Go.Proofs.YtlgkldfeiakehaaDoor
