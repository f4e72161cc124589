/- The contract of the plain Check of a program. Conditions: none. -/
import Derived.Test.YtfadfdfpocpelaaGreatDoorPRefCheck
namespace Go.Proofs.YtfadfdfpocpelaaGreatDoor.P
open Go.RowKit

set_option maxRecDepth 100000 in
set_option maxHeartbeats 2000000 in
theorem ref_check {w : World} {S : Nat → Prop} {A : Option Addr} {n cap : Nat} {xss : List (List Ins)} (h : Mat w S A n cap xss) (hS : ∀ g, S g → g < w.heap.size) (r c s : Int) :
    Calls Tryz.prog 8 #[.agg #[.int .i64 r, .int .i64 c, .int .i64 s, .slice A n cap]] w fun e w' => e = .returned (.int .i64 (chkP r c s xss)) ∧ Below w.heap.size w w' := by
  have hm := len_i64 h.room h.most
  have hlen := Lib.hid h.len
  obtain ⟨W0, eW0⟩ : ∃ W0, W0 = w.alloc (.cells #[.int .i64 r, .int .i64 c, .int .i64 s, .slice A n cap] 24) := ⟨_, rfl⟩
  have b0 : Below w.heap.size w W0 := by rw [eW0]; exact (Below.refl _ w).alloc (Nat.le_refl _) _
  have p0 : Blk W0 w.heap.size 24 #[.int .i64 r, .int .i64 c, .int .i64 s, .slice A n cap] := by rw [eW0]; exact heap_alloc_new w _
  replace h := h.below b0 hS
  replace hS : ∀ g, S g → g < W0.heap.size := fun g hg => Nat.lt_of_lt_of_le (hS g hg) b0.size
  obtain ⟨x, ex⟩ : ∃ x, decide (0 ≤ r ∧ r ≤ 4) = x := ⟨_, rfl⟩
  obtain ⟨y, ey⟩ : ∃ x, decide (0 ≤ c ∧ c ≤ 6) = x := ⟨_, rfl⟩
  obtain ⟨z, ez⟩ : ∃ x, decide (0 ≤ s ∧ s ≤ 2) = x := ⟨_, rfl⟩
  have X := within_any r 4
  have Y := within_any c 6
  have Z := within_any s 2
  rw [ex] at X
  rw [ey] at Y
  rw [ez] at Z
  have EX : Hid (okHead r c s = (x && y && z)) := Lib.hid (by unfold okHead; rw [ex, ey, ez])
  have RX := Lib.hid ex
  have RZ := Lib.hid ez
  clear ex ey ez
  have z0 := p0.cell 0
  have z1 := p0.cell 1
  have z2 := p0.cell 2
  have z3 := p0.cell 3
  cases hxyz : (x && y && z) with
  | false =>
    rw [hxyz] at EX
    have HN : Hid (chkP r c s xss = 3) := Lib.hid (by unfold chkP; rw [EX.out]; rfl)
    cases x with
    | false =>
      clear hxyz
      go_enter Tryz.func8, Tryz.ntmps8
      go_wp2_with fail
      rw [← eW0]
      clear eW0
      refine (X _).mono ?_
      rintro e w' ⟨rfl, rfl⟩
      go_wp2
      go_ret
      exact ⟨by rw [HN.out]; rfl, b0⟩
    | true =>
      cases y with
      | false =>
        clear hxyz
        go_enter Tryz.func8, Tryz.ntmps8
        go_wp2_with fail
        rw [← eW0]
        clear eW0
        refine (X _).mono ?_
        rintro e w' ⟨rfl, rfl⟩
        go_wp2_with fail
        refine (Y _).mono ?_
        rintro e w' ⟨rfl, rfl⟩
        go_wp2
        go_ret
        exact ⟨by rw [HN.out]; rfl, b0⟩
      | true =>
        obtain rfl : z = false := by simpa using hxyz
        clear hxyz
        go_enter Tryz.func8, Tryz.ntmps8
        go_wp2_with fail
        rw [← eW0]
        clear eW0
        refine (X _).mono ?_
        rintro e w' ⟨rfl, rfl⟩
        go_wp2_with fail
        refine (Y _).mono ?_
        rintro e w' ⟨rfl, rfl⟩
        go_wp2_with fail
        refine (Z _).mono ?_
        rintro e w' ⟨rfl, rfl⟩
        go_wp2
        go_ret
        exact ⟨by rw [HN.out]; rfl, b0⟩
  | true =>
  obtain ⟨⟨rfl, rfl⟩, rfl⟩ : (x = true ∧ y = true) ∧ z = true := by simpa [Bool.and_eq_true] using hxyz
  clear hxyz
  have hr := of_decide_eq_true RX.out
  have hs := of_decide_eq_true RZ.out
  have HR := Lib.hid (And.intro hr hs)
  clear hr hs RX RZ
  go_enter Tryz.func8, Tryz.ntmps8
  go_wp2_with fail
  rw [← eW0]
  clear eW0
  refine (X _).mono ?_
  rintro e w' ⟨rfl, rfl⟩
  go_wp2_with fail
  refine (Y _).mono ?_
  rintro e w' ⟨rfl, rfl⟩
  go_wp2_with fail
  refine (Z _).mono ?_
  rintro e w' ⟨rfl, rfl⟩
  clear X Y Z
  by_cases hn : 1 ≤ n ∧ n ≤ 4
  · have HP : Hid (chkP r c s xss = if xss.any long = true then 4 else chkM r s xss) := Lib.hid (by unfold chkP; rw [EX.out, hlen.out, if_neg (by simp), if_neg (by omega)])
    have n0 : decide ((n : Int) < 1) = false := decide_eq_false (by omega)
    have n1 : decide ((4 : Int) < (n : Int)) = false := decide_eq_false (by omega)
    go_wp2_with fail
    go_loop [3] (fun i => ∃ k : Nat, i = .int .i64 k ∧ k ≤ n ∧ (xss.take k).any long = false) (fun i => n - (intOf i).toNat)
    case atStart => exact ⟨0, rfl, Nat.zero_le _, rfl⟩
    case round =>
      obtain ⟨k, rfl, hk, hv⟩ := hrel
      by_cases hlt : k < n
      · obtain ⟨g, off, A1, n1, c1, xs, rfl, _, hx, h0, hl⟩ := h.at_ k hlt
        have t0 : decide ((k : Int) < (n : Int)) = true := decide_eq_true (by omega)
        have i0 : (0 : Int) ≤ (k : Int) := by omega
        have i1 : (k : Int) < (n : Int) := by omega
        have ha := any_take hx
        rw [hv, Bool.false_or] at ha
        by_cases hlo : 16 < n1
        · have HN : Hid (chkP r c s xss = 4) := Lib.hid (by
            rw [HP.out, if_pos]
            have h1 : (xss.take (k + 1)).any long = true := by rw [ha]; unfold long; rw [hl.len]; exact decide_eq_true hlo
            obtain ⟨y, hy, hy2⟩ := List.any_eq_true.1 h1
            exact List.any_eq_true.2 ⟨y, List.mem_of_mem_take hy, hy2⟩)
          have t1 : decide ((16 : Int) < (n1 : Int)) = true := decide_eq_true (by omega)
          clear hv ha hx
          go_wp2
          go_ret
          exact ⟨by rw [HN.out]; rfl, b0⟩
        · have HN : Hid ((xss.take (k + 1)).any long = false) := Lib.hid (by rw [ha]; unfold long; rw [hl.len]; exact decide_eq_false hlo)
          have t1 : decide ((16 : Int) < (n1 : Int)) = false := decide_eq_false (by omega)
          clear hv ha hx
          go_wp2
          go_round
          case rel => exact ⟨k + 1, by go_num, by omega, HN.out⟩
          case measure => simp [intOf]; omega
      · have HN : Hid (chkP r c s xss = chkM r s xss) := Lib.hid (by
          rw [List.take_of_length_le (by rw [hlen.out]; omega)] at hv
          rw [HP.out, hv]
          rfl)
        clear hv
        have t0 : decide ((k : Int) < (n : Int)) = false := decide_eq_false (by omega)
        go_wp2
        go_loopw [4] (fun i wr => ∃ k : Nat, i = .int .i64 k ∧ k ≤ n ∧ chkP r c s xss = chkM r s (xss.drop k) ∧ Below W0.heap.size W0 wr) (fun i _ => n - (intOf i).toNat)
        case atStart => exact ⟨0, rfl, Nat.zero_le _, HN.out, Below.refl _ _⟩
        case round =>
          obtain ⟨k, rfl, hk, hv, hb⟩ := hrel
          generalize wr = w4 at *
          replace p0 := p0.below hb p0.lt
          clear z0 z1 z2 z3
          have z0 := p0.cell 0
          have z1 := p0.cell 1
          have z2 := p0.cell 2
          have z3 := p0.cell 3
          replace h := h.below hb hS
          replace hS : ∀ g, S g → g < w4.heap.size := fun g hg => Nat.lt_of_lt_of_le (hS g hg) hb.size
          by_cases hlt : k < n
          · obtain ⟨g, off, A1, n1, c1, xs, rfl, hg, hx, h0, hl⟩ := h.at_ k hlt
            have t0 : decide ((k : Int) < (n : Int)) = true := decide_eq_true (by omega)
            have i0 : (0 : Int) ≤ (k : Int) := by omega
            have i1 : (k : Int) < (n : Int) := by omega
            have hm1 := len_i64 hl.room hl.most
            rw [chkM_at hx] at hv
            have hl1 := hl.len
            rw [hl1] at hv
            have HV := Lib.hid hv
            have HL1 := Lib.hid hl1
            clear hv hx hl1
            go_wp2_with fail
            go_loopw [5] (fun i wi => ∃ j : Nat, i = .int .i64 j ∧ j ≤ n1 ∧ chkT r s n1 xs = chkT r s n1 (xs.drop j) ∧ Below w4.heap.size w4 wi) (fun i _ => n1 - (intOf i).toNat)
            case atStart => exact ⟨0, rfl, Nat.zero_le _, rfl, Below.refl _ _⟩
            case round =>
              obtain ⟨j, rfl, hj, hu, hbi⟩ := hrel
              have h0' : wr.cell? ⟨g, off + k, none⟩ = some (.slice A1 n1 c1) := (hbi.cell (hS g hg)).trans h0
              have z3' : wr.cell? ⟨w.heap.size, 3, none⟩ = some (.slice (some ⟨g, off, none⟩) n cap) := (hbi.cell p0.lt).trans z3
              by_cases hjt : j < n1
              · obtain ⟨g2, off2, x, rfl, hg2, hx, hc⟩ := hl.at_ j hjt
                have t1 : decide ((j : Int) < (n1 : Int)) = true := decide_eq_true (by omega)
                have j0 : (0 : Int) ≤ (j : Int) := by omega
                have j1 : (j : Int) < (n1 : Int) := by omega
                rw [chkT_at hx] at hu
                have hC := fun W => refcheck_any x.o x.a x.b x.c x.n r c s n1 HR.out.1 HR.out.2 (some ⟨g, off, none⟩) n cap W
                obtain ⟨v, ev⟩ : ∃ v, chk x.o x.a x.b x.c x.n r s n1 = v := ⟨_, rfl⟩
                rw [ev] at hC
                have EV : Hid (chkI x r s n1 = v) := Lib.hid ev
                have HU := Lib.hid hu
                clear ev hu hx
                have r0 := Below.refl wr.heap.size wr
                have tz : ∀ (q : Nat) (u : Value), w4.cell? ⟨w.heap.size, q, none⟩ = some u → ∀ W, Below wr.heap.size wr W → W.cell? ⟨w.heap.size, q, none⟩ = some u := fun q u hu W hW => ((hbi.trans (hW.mono hbi.size)).cell p0.lt).trans hu
                have tz0 := tz 0 _ z0
                have tz1 := tz 1 _ z1
                have tz2 := tz 2 _ z2
                have tz3 := tz 3 _ z3
                have th0 : ∀ W, Below wr.heap.size wr W → W.cell? ⟨g, off + k, none⟩ = some (.slice (some ⟨g2, off2, none⟩) n1 c1) := fun W hW => ((hbi.trans (hW.mono hbi.size)).cell (hS g hg)).trans h0
                have tc : ∀ W, Below wr.heap.size wr W → AtI W g2 (off2 + j * 5) x := fun W hW => hc.keep fun p hp => (hbi.trans (hW.mono hbi.size)).cell (by rw [hp]; exact hS g2 hg2)
                clear tz z0 z1 z2 z3 h0 p0 hl h hc
                go_wp2_with fail
                go_region_held3 (fun w' => Below wr.heap.size wr w' ∧ w'.cell? ⟨w.heap.size, 0, none⟩ = some (.int .i64 r) ∧ w'.cell? ⟨w.heap.size, 1, none⟩ = some (.int .i64 c) ∧ w'.cell? ⟨w.heap.size, 2, none⟩ = some (.int .i64 s) ∧ w'.cell? ⟨w.heap.size, 3, none⟩ = some (.slice (some ⟨g, off, none⟩) n cap)
                    ∧ w'.cell? ⟨g, off + k, none⟩ = some (.slice (some ⟨g2, off2, none⟩) n1 c1) ∧ w'.cell? ⟨g2, off2 + j * 5, none⟩ = some (.int .i64 x.o) ∧ w'.cell? ⟨g2, off2 + j * 5 + 1, none⟩ = some (.int .i64 x.a) ∧ w'.cell? ⟨g2, off2 + j * 5 + 2, none⟩ = some (.int .i64 x.b) ∧ w'.cell? ⟨g2, off2 + j * 5 + 3, none⟩ = some (.int .i64 x.c) ∧ w'.cell? ⟨g2, off2 + j * 5 + 4, none⟩ = some (.int .i64 x.n))
                  (first
                    | (exact ⟨r0.drew, tz0 _ r0.drew, tz1 _ r0.drew, tz2 _ r0.drew, tz3 _ r0.drew, th0 _ r0.drew, (tc _ r0.drew).c0, (tc _ r0.drew).c1, (tc _ r0.drew).c2, (tc _ r0.drew).c3, (tc _ r0.drew).c4⟩)
                    | (exact ⟨hb3, tz0 _ hb3, tz1 _ hb3, tz2 _ hb3, tz3 _ hb3, th0 _ hb3, (tc _ hb3).c0, (tc _ hb3).c1, (tc _ hb3).c2, (tc _ hb3).c3, (tc _ hb3).c4⟩))
                  (first | (go_at_call 23; refine (hC _).mono ?_; rintro e w3 ⟨rfl, hb3'⟩; have hb3 := r0.drew.trans (hb3'.mono r0.drew.size)))
                have q3 := hbi.trans (hb3.mono hbi.size)
                clear tz0 tz1 tz2 tz3 th0 tc hC h0' z3'
                by_cases hv : v = 0
                · subst hv
                  have HN : Hid (chkT r s n1 xs = chkT r s n1 (xs.drop (j + 1))) := Lib.hid (by rw [HU.out, if_pos EV.out])
                  go_wp2
                  go_roundw
                  case rel => exact ⟨j + 1, by go_num, by omega, HN.out, q3⟩
                  case measure => simp [intOf]; omega
                · have HN : Hid (chkT r s n1 xs = v) := Lib.hid (by rw [HU.out, if_neg (by rw [EV.out]; exact hv), EV.out])
                  have HM : Hid (chkP r c s xss = v) := Lib.hid (by rw [HV.out, HN.out, if_neg hv])
                  go_wp2
                  go_ret
                  exact ⟨by rw [HM.out]; rfl, b0.trans ((hb.trans (q3.mono hb.size)).mono b0.size)⟩
              · have t1 : decide ((j : Int) < (n1 : Int)) = false := decide_eq_false (by omega)
                have HN : Hid (chkT r s n1 xs = 0) := Lib.hid (by rw [hu, List.drop_eq_nil_of_le (by rw [HL1.out]; omega)]; rfl)
                have HM : Hid (chkP r c s xss = chkM r s (xss.drop (k + 1))) := Lib.hid (by rw [HV.out, if_pos HN.out])
                clear hu
                go_wp2
                go_roundw
                case rel => exact ⟨k + 1, by go_num, by omega, HM.out, hb.trans (hbi.mono hb.size)⟩
                case measure => simp [intOf]; omega
          · have HN : Hid (chkP r c s xss = 0) := Lib.hid (by rw [hv, List.drop_eq_nil_of_le (by rw [hlen.out]; omega)]; rfl)
            clear hv
            have t0 : decide ((k : Int) < (n : Int)) = false := decide_eq_false (by omega)
            go_wp2
            go_ret
            exact ⟨by rw [HN.out]; rfl, b0.trans (hb.mono b0.size)⟩
  · have HN : Hid (chkP r c s xss = 4) := Lib.hid (by unfold chkP; rw [EX.out, hlen.out, if_neg (by simp), if_pos (by omega)])
    by_cases h1 : n < 1
    · have n0 : decide ((n : Int) < 1) = true := decide_eq_true (by omega)
      go_wp2
      go_ret
      exact ⟨by rw [HN.out]; rfl, b0⟩
    · have n0 : decide ((n : Int) < 1) = false := decide_eq_false (by omega)
      have n1 : decide ((4 : Int) < (n : Int)) = true := decide_eq_true (by omega)
      go_wp2
      go_ret
      exact ⟨by rw [HN.out]; rfl, b0⟩
end Go.Proofs.YtfadfdfpocpelaaGreatDoor.P
