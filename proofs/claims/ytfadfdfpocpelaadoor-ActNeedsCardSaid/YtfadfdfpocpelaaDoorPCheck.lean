/- The contract of prog's Check: may a program be. Conditions: the variable 'rows' lies as it is laid. -/
import Derived.Test.YtfadfdfpocpelaaDoorPThread
namespace Go.Proofs.YtfadfdfpocpelaaDoor.P
open Go.RowKit

set_option maxRecDepth 100000 in
theorem fits_any (r c s : Int) (A : Option Addr) (n cap : Nat) (w : World) :
    Calls Tryd.prog 20 #[.agg #[.int .i64 r, .int .i64 c, .int .i64 s, .slice A n cap]] w fun e w' => e = .returned (.bool (okHead r c s)) ∧ Below w.heap.size w w' := by
  obtain ⟨x, ex⟩ : ∃ x, decide (0 ≤ r ∧ r ≤ 4) = x := ⟨_, rfl⟩
  obtain ⟨y, ey⟩ : ∃ x, decide (0 ≤ c ∧ c ≤ 6) = x := ⟨_, rfl⟩
  obtain ⟨z, ez⟩ : ∃ x, decide (0 ≤ s ∧ s ≤ 2) = x := ⟨_, rfl⟩
  have X := in_any r 0 4
  have Y := in_any c 0 6
  have Z := in_any s 0 2
  unfold okHead
  rw [ex] at X
  rw [ey] at Y
  rw [ez] at Z
  rw [ex, ey, ez]
  clear ex ey ez
  obtain ⟨W0, eW0⟩ : ∃ W0, W0 = w.alloc (.cells #[.int .i64 r, .int .i64 c, .int .i64 s, .slice A n cap] 39) := ⟨_, rfl⟩
  have b0 : Below w.heap.size w W0 := by rw [eW0]; exact (Below.refl _ w).alloc (Nat.le_refl _) _
  have p0 : Blk W0 w.heap.size 39 #[.int .i64 r, .int .i64 c, .int .i64 s, .slice A n cap] := by rw [eW0]; exact heap_alloc_new w _
  have z0 := p0.cell 0
  have z1 := p0.cell 1
  have z2 := p0.cell 2
  clear p0
  cases x with
  | false =>
    go_enter Tryd.func20, Tryd.ntmps20
    go_wp2_with fail
    rw [← eW0]
    clear eW0
    refine (X _).mono ?_
    rintro e w' ⟨rfl, rfl⟩
    go_wp2
    go_ret
    exact ⟨rfl, b0⟩
  | true =>
    cases y with
    | false =>
      go_enter Tryd.func20, Tryd.ntmps20
      go_wp2_with fail
      rw [← eW0]
      clear eW0
      refine (X _).mono ?_
      rintro e w' ⟨rfl, rfl⟩
      go_wp2_with fail
      refine (Y _).mono ?_
      rintro e w' ⟨rfl, rfl⟩
      go_wp2
      go_ret
      exact ⟨rfl, b0⟩
    | true =>
      go_enter Tryd.func20, Tryd.ntmps20
      go_wp2_with fail
      rw [← eW0]
      clear eW0
      refine (X _).mono ?_
      rintro e w' ⟨rfl, rfl⟩
      go_wp2_with fail
      refine (Y _).mono ?_
      rintro e w' ⟨rfl, rfl⟩
      go_wp2_with fail
      refine (Z _).mono ?_
      rintro e w' ⟨rfl, rfl⟩
      go_wp2
      go_ret
      exact ⟨rfl, b0⟩

theorem any_take {xss : List (List Ins)} {i : Nat} {xs : List Ins} (h : xss[i]? = some xs) : (xss.take (i + 1)).any long = ((xss.take i).any long || long xs) := by
  rw [List.take_add_one, h, List.any_append]
  simp

set_option maxRecDepth 100000 in
set_option maxHeartbeats 1000000 in
theorem prog_check {w : World} {S : Nat → Prop} {A : Option Addr} {n cap : Nat} {xss : List (List Ins)} (h : Mat w S A n cap xss) (hS : ∀ g, S g → g < w.heap.size) (hL : Laid w) (r c s : Int) :
    Calls Tryd.prog 10 #[.agg #[.int .i64 r, .int .i64 c, .int .i64 s, .slice A n cap]] w fun e w' => e = .returned (.int .i64 (chkP r c s xss)) ∧ Below w.heap.size w w' := by
  have hm := len_i64 h.room h.most
  have hlen := Lib.hid h.len
  obtain ⟨W0, eW0⟩ : ∃ W0, W0 = w.alloc (.cells #[.int .i64 r, .int .i64 c, .int .i64 s, .slice A n cap] 39) := ⟨_, rfl⟩
  have b0 : Below w.heap.size w W0 := by rw [eW0]; exact (Below.refl _ w).alloc (Nat.le_refl _) _
  have p0 : Blk W0 w.heap.size 39 #[.int .i64 r, .int .i64 c, .int .i64 s, .slice A n cap] := by rw [eW0]; exact heap_alloc_new w _
  replace h := h.below b0 hS
  replace hS : ∀ g, S g → g < W0.heap.size := fun g hg => Nat.lt_of_lt_of_le (hS g hg) b0.size
  replace hL := hL.on b0
  have hF := fits_any r c s A n cap
  obtain ⟨x, ex⟩ : ∃ x, okHead r c s = x := ⟨_, rfl⟩
  rw [ex] at hF
  have EX := Lib.hid ex
  clear ex
  have z0 := p0.cell 0
  have z1 := p0.cell 1
  have z2 := p0.cell 2
  have z3 := p0.cell 3
  go_enter Tryd.func10, Tryd.ntmps10
  go_wp2_with fail
  rw [← eW0]
  clear eW0
  go_wp2_with fail
  refine (hF _).mono ?_
  rintro e w1 ⟨rfl, hb1⟩
  replace h := h.below hb1 hS
  replace p0 := p0.below hb1 p0.lt
  replace hL := hL.on hb1
  replace b0 := b0.trans (hb1.mono b0.size)
  replace hS : ∀ g, S g → g < w1.heap.size := fun g hg => Nat.lt_of_lt_of_le (hS g hg) hb1.size
  clear z0 z1 z2 z3 hF hb1
  have z0 := p0.cell 0
  have z1 := p0.cell 1
  have z2 := p0.cell 2
  have z3 := p0.cell 3
  cases x with
  | false =>
    have HN : Hid (chkP r c s xss = 3) := Lib.hid (by unfold chkP; rw [EX.out]; rfl)
    go_wp2
    go_ret
    exact ⟨by rw [HN.out]; rfl, b0⟩
  | true =>
  have hI := in_any n 1 4
  by_cases hn : 1 ≤ n ∧ n ≤ 4
  · have ht : decide ((1 : Int) ≤ (n : Int) ∧ (n : Int) ≤ 4) = true := decide_eq_true (by omega)
    rw [ht] at hI
    clear ht
    have HP : Hid (chkP r c s xss = if xss.any long = true then 4 else chkM r s xss) := Lib.hid (by unfold chkP; rw [EX.out, hlen.out, if_neg (by simp), if_neg (by omega)])
    go_wp2_with fail
    refine (hI _).mono ?_
    rintro e w' ⟨rfl, rfl⟩
    clear hI
    go_wp2_with fail
    go_loop [19] (fun i => ∃ k : Nat, i = .int .i64 k ∧ k ≤ n ∧ (xss.take k).any long = false) (fun i => n - (intOf i).toNat)
    case atStart => exact ⟨0, rfl, Nat.zero_le _, rfl⟩
    case round =>
      obtain ⟨k, rfl, hk, hv⟩ := hrel
      by_cases hlt : k < n
      · obtain ⟨g, off, A1, n1, c1, xs, rfl, _, hx, h0, hl⟩ := h.at_ k hlt
        have t0 : decide ((k : Int) < (n : Int)) = true := decide_eq_true (by omega)
        have i0 : (0 : Int) ≤ (k : Int) := by omega
        have i1 : (k : Int) < (n : Int) := by omega
        have ha := any_take hx
        rw [hv, Bool.false_or] at ha
        by_cases hlo : 16 < n1
        · have HN : Hid (chkP r c s xss = 4) := Lib.hid (by
            rw [HP.out, if_pos]
            have h1 : (xss.take (k + 1)).any long = true := by rw [ha]; unfold long; rw [hl.len]; exact decide_eq_true hlo
            obtain ⟨y, hy, hy2⟩ := List.any_eq_true.1 h1
            exact List.any_eq_true.2 ⟨y, List.mem_of_mem_take hy, hy2⟩)
          have t1 : decide ((16 : Int) < (n1 : Int)) = true := decide_eq_true (by omega)
          clear hv ha hx
          go_wp2
          go_ret
          exact ⟨by rw [HN.out]; rfl, b0⟩
        · have HN : Hid ((xss.take (k + 1)).any long = false) := Lib.hid (by rw [ha]; unfold long; rw [hl.len]; exact decide_eq_false hlo)
          have t1 : decide ((16 : Int) < (n1 : Int)) = false := decide_eq_false (by omega)
          clear hv ha hx
          go_wp2
          go_round
          case rel => exact ⟨k + 1, by go_num, by omega, HN.out⟩
          case measure => simp [intOf]; omega
      · have HN : Hid (chkP r c s xss = chkM r s xss) := Lib.hid (by
          rw [List.take_of_length_le (by rw [hlen.out]; omega)] at hv
          rw [HP.out, hv]
          rfl)
        clear hv
        have t0 : decide ((k : Int) < (n : Int)) = false := decide_eq_false (by omega)
        go_wp2
        go_loopw [30] (fun i wr => ∃ k : Nat, i = .int .i64 k ∧ k ≤ n ∧ chkP r c s xss = chkM r s (xss.drop k) ∧ Below w1.heap.size w1 wr) (fun i _ => n - (intOf i).toNat)
        case atStart => exact ⟨0, rfl, Nat.zero_le _, HN.out, Below.refl _ _⟩
        case round =>
          obtain ⟨k, rfl, hk, hv, hb⟩ := hrel
          replace p0 := p0.below hb p0.lt
          clear z0 z1 z2 z3
          have z0 := p0.cell 0
          have z1 := p0.cell 1
          have z2 := p0.cell 2
          have z3 := p0.cell 3
          replace h := h.below hb hS
          replace hS : ∀ g, S g → g < wr.heap.size := fun g hg => Nat.lt_of_lt_of_le (hS g hg) hb.size
          by_cases hlt : k < n
          · obtain ⟨g, off, A1, n1, c1, xs, rfl, _, hx, h0, hl⟩ := h.at_ k hlt
            have t0 : decide ((k : Int) < (n : Int)) = true := decide_eq_true (by omega)
            have i0 : (0 : Int) ≤ (k : Int) := by omega
            have i1 : (k : Int) < (n : Int) := by omega
            have hC := checkThread_any hl hS (hL.on hb) r c s (some ⟨g, off, none⟩) n cap
            rw [chkM_at hx] at hv
            have hl1 := hl.len
            rw [hl1] at hv
            obtain ⟨v, ev⟩ : ∃ v, chkT r s n1 xs = v := ⟨_, rfl⟩
            rw [ev] at hC hv
            have HV := Lib.hid hv
            clear hv ev hx hl1 hl h
            go_wp2_with fail
            refine hC.mono ?_
            rintro e w2 ⟨rfl, hb2⟩
            have q2 := hb.trans (hb2.mono hb.size)
            clear hC hb2 z0 z1 z2 z3 p0 h0
            by_cases hv : v = 0
            · subst hv
              have HN : Hid (chkP r c s xss = chkM r s (xss.drop (k + 1))) := Lib.hid (by rw [HV.out, if_pos rfl])
              go_wp2
              go_roundw
              case rel => exact ⟨k + 1, by go_num, by omega, HN.out, q2⟩
              case measure => simp [intOf]; omega
            · have HN : Hid (chkP r c s xss = v) := Lib.hid (by rw [HV.out, if_neg hv])
              go_wp2
              go_ret
              exact ⟨by rw [HN.out]; rfl, b0.trans (q2.mono b0.size)⟩
          · have HN : Hid (chkP r c s xss = 0) := Lib.hid (by rw [hv, List.drop_eq_nil_of_le (by rw [hlen.out]; omega)]; rfl)
            clear hv
            have t0 : decide ((k : Int) < (n : Int)) = false := decide_eq_false (by omega)
            go_wp2
            go_ret
            exact ⟨by rw [HN.out]; rfl, b0.trans (hb.mono b0.size)⟩
  · have ht : decide ((1 : Int) ≤ (n : Int) ∧ (n : Int) ≤ 4) = false := decide_eq_false (by omega)
    rw [ht] at hI
    clear ht
    have HN : Hid (chkP r c s xss = 4) := Lib.hid (by unfold chkP; rw [EX.out, hlen.out, if_neg (by simp), if_pos (by omega)])
    go_wp2_with fail
    refine (hI _).mono ?_
    rintro e w' ⟨rfl, rfl⟩
    go_wp2
    go_ret
    exact ⟨by rw [HN.out]; rfl, b0⟩
end Go.Proofs.YtfadfdfpocpelaaDoor.P
