/- Contracts of the plain Check of an instruction, and of a program. Conditions: as many roots and slots as there may be, for an instruction. -/
import Derived.Test.YtfadfdfpocpelaaGreatDoorPCheck
import Derived.Test.YtfadfdfpocpelaaGreatDoorPShape
import Derived.Deep.RegionHeld3
namespace Go.Proofs.YtfadfdfpocpelaaGreatDoor.P
open Go.RowKit

theorem within_any (n m : Int) (w : World) : Calls Tryz.prog 22 #[.int .i64 n, .int .i64 m] w fun e w' => e = .returned (.bool (decide (0 ≤ n ∧ n ≤ m))) ∧ w = w' := by
  by_cases h1 : 0 ≤ n
  · by_cases h2 : n ≤ m
    · have e : decide (0 ≤ n ∧ n ≤ m) = true := by simp [h1, h2]
      rw [e]
      go_enter Tryz.func22, Tryz.ntmps22
      go_wp2
      go_ret
      exact ⟨rfl, rfl⟩
    · have e : decide (0 ≤ n ∧ n ≤ m) = false := by simp [h2]
      have h3 : decide (n ≤ m) = false := decide_eq_false h2
      rw [e]
      clear e h2
      go_enter Tryz.func22, Tryz.ntmps22
      go_wp2
      go_ret
      exact ⟨rfl, rfl⟩
  · have e : decide (0 ≤ n ∧ n ≤ m) = false := by simp [h1]
    have h3 : decide (0 ≤ n) = false := decide_eq_false h1
    rw [e]
    clear e h1
    go_enter Tryz.func22, Tryz.ntmps22
    go_wp2
    go_ret
    exact ⟨rfl, rfl⟩

/-- An operand by its number. -/
def opd (a b c n : Int) (k : Nat) : Int := if k = 0 then a else if k = 1 then b else if k = 2 then c else n
set_option maxRecDepth 100000 in
theorem field_any (o a b c n : Int) (k : Nat) (w : World) : Calls Tryz.prog 50 #[.agg #[.int .i64 o, .int .i64 a, .int .i64 b, .int .i64 c, .int .i64 n], .int .i64 k] w fun e w' => e = .returned (.int .i64 (opd a b c n k)) ∧ Below w.heap.size w w' := by
  obtain ⟨_, d1, d2, d3, d4⟩ := At5.new w o a b c n
  unfold opd
  by_cases h0 : k = 0
  · subst h0
    rw [if_pos rfl]
    go_enter Tryz.func50, Tryz.ntmps50
    go_wp2
    go_ret
    exact ⟨rfl, (Below.refl _ w).alloc (Nat.le_refl _) _⟩
  by_cases h1 : k = 1
  · subst h1
    rw [if_neg h0, if_pos rfl]
    go_enter Tryz.func50, Tryz.ntmps50
    go_wp2
    go_ret
    exact ⟨rfl, (Below.refl _ w).alloc (Nat.le_refl _) _⟩
  by_cases h2 : k = 2
  · subst h2
    rw [if_neg h0, if_neg h1, if_pos rfl]
    go_enter Tryz.func50, Tryz.ntmps50
    go_wp2
    go_ret
    exact ⟨rfl, (Below.refl _ w).alloc (Nat.le_refl _) _⟩
  rw [if_neg h0, if_neg h1, if_neg h2]
  have e0 : (k : Int) ≠ 0 := by omega
  have e1 : (k : Int) ≠ 1 := by omega
  have e2 : (k : Int) ≠ 2 := by omega
  go_enter Tryz.func50, Tryz.ntmps50
  go_wp2
  go_ret
  exact ⟨rfl, (Below.refl _ w).alloc (Nat.le_refl _) _⟩

/-- How great an operand may be. -/
def mostV (l r s k : Int) : Int := if l = 114 then 3 else if l = 103 then r - 1 else if l = 115 then s - 1 else if l = 102 then 1 else if l = 116 then k else 0
theorem fitB_most (l n r s k : Int) : fitB l n r s k = (decide (l = 110) || (decide (0 ≤ n) && decide (n ≤ mostV l r s k))) := by
  unfold fitB mostV inB
  by_cases h1 : l = 114
  · subst h1; rw [Bool.eq_iff_iff]; simp; omega
  by_cases h2 : l = 103
  · subst h2; rw [Bool.eq_iff_iff]; simp; omega
  by_cases h3 : l = 115
  · subst h3; rw [Bool.eq_iff_iff]; simp; omega
  by_cases h4 : l = 102
  · subst h4; rw [Bool.eq_iff_iff]; simp; omega
  by_cases h5 : l = 116
  · subst h5; simp
  by_cases h6 : l = 110
  · subst h6; simp
  rw [Bool.eq_iff_iff]
  simp [h1, h2, h3, h4, h5, h6]
  omega
set_option maxRecDepth 100000 in
theorem most_any (l r q s k : Int) (hr : 0 ≤ r ∧ r ≤ 4) (hs : 0 ≤ s ∧ s ≤ 2) (A : Option Addr) (n m : Nat) (w : World) :
    Calls Tryz.prog 51 #[.int .u8 l, .agg #[.int .i64 r, .int .i64 q, .int .i64 s, .slice A n m], .int .i64 k] w fun e w' => e = .returned (.int .i64 (mostV l r s k)) ∧ Below w.heap.size w w' := by
  have p0 : Blk (w.alloc (.cells #[.int .i64 r, .int .i64 q, .int .i64 s, .slice A n m] 24)) w.heap.size 24 #[.int .i64 r, .int .i64 q, .int .i64 s, .slice A n m] := heap_alloc_new w _
  have c0 := p0.cell 0
  have c2 := p0.cell 2
  obtain ⟨r0, r1⟩ := hr
  obtain ⟨s0, s1⟩ := hs
  unfold mostV
  by_cases h1 : l = 114
  · subst h1
    rw [if_pos rfl]
    go_enter Tryz.func51, Tryz.ntmps51
    go_wp2
    go_ret
    exact ⟨rfl, (Below.refl _ w).alloc (Nat.le_refl _) _⟩
  by_cases h2 : l = 103
  · subst h2
    rw [if_neg h1, if_pos rfl]
    go_enter Tryz.func51, Tryz.ntmps51
    go_wp2
    go_ret
    exact ⟨rfl, (Below.refl _ w).alloc (Nat.le_refl _) _⟩
  by_cases h3 : l = 115
  · subst h3
    rw [if_neg h1, if_neg h2, if_pos rfl]
    go_enter Tryz.func51, Tryz.ntmps51
    go_wp2
    go_ret
    exact ⟨rfl, (Below.refl _ w).alloc (Nat.le_refl _) _⟩
  by_cases h4 : l = 102
  · subst h4
    rw [if_neg h1, if_neg h2, if_neg h3, if_pos rfl]
    go_enter Tryz.func51, Tryz.ntmps51
    go_wp2
    go_ret
    exact ⟨rfl, (Below.refl _ w).alloc (Nat.le_refl _) _⟩
  by_cases h5 : l = 116
  · subst h5
    rw [if_neg h1, if_neg h2, if_neg h3, if_neg h4, if_pos rfl]
    go_enter Tryz.func51, Tryz.ntmps51
    go_wp2
    go_ret
    exact ⟨rfl, (Below.refl _ w).alloc (Nat.le_refl _) _⟩
  rw [if_neg h1, if_neg h2, if_neg h3, if_neg h4, if_neg h5]
  go_enter Tryz.func51, Tryz.ntmps51
  go_wp2
  go_ret
  exact ⟨rfl, (Below.refl _ w).alloc (Nat.le_refl _) _⟩

theorem chkL_fit {ls : List UInt8} {a b c n r s k : Int} (h4 : ls.length = 4) (h : ∀ j, j < 4 → fitB ((ls.getD j 0).toNat : Int) (opd a b c n j) r s k = true) : chkL ls a b c n r s k = 0 := by
  match ls, h4 with
  | [l0, l1, l2, l3], _ =>
    have f0 : fitB (l0.toNat : Int) a r s k = true := h 0 (by omega)
    have f1 : fitB (l1.toNat : Int) b r s k = true := h 1 (by omega)
    have f2 : fitB (l2.toNat : Int) c r s k = true := h 2 (by omega)
    have f3 : fitB (l3.toNat : Int) n r s k = true := h 3 (by omega)
    simp [chkL, f0, f1, f2, f3]
theorem chkL_not {ls : List UInt8} {a b c n r s k : Int} (h4 : ls.length = 4) (j : Nat) (hj : j < 4) (h : fitB ((ls.getD j 0).toNat : Int) (opd a b c n j) r s k = false) : chkL ls a b c n r s k = 3 := by
  match ls, h4 with
  | [l0, l1, l2, l3], _ =>
    rcases (by omega : j = 0 ∨ j = 1 ∨ j = 2 ∨ j = 3) with rfl | rfl | rfl | rfl
    · have f : fitB (l0.toNat : Int) a r s k = false := h
      simp [chkL, f]
    · have f : fitB (l1.toNat : Int) b r s k = false := h
      simp [chkL, f]
    · have f : fitB (l2.toNat : Int) c r s k = false := h
      simp [chkL, f]
    · have f : fitB (l3.toNat : Int) n r s k = false := h
      simp [chkL, f]
theorem txt_at (l : List UInt8) (k : Nat) (h : k < (txt l).size) : (txt l)[k] = l.getD k 0 := by
  have := oct_at (txt l) k h
  rw [oct_txt] at this
  simp [List.getD, this]

set_option maxRecDepth 100000 in
set_option maxHeartbeats 2000000 in
theorem refcheck_some (o a b c n r q s k : Int) (ls : List UInt8) (h4 : ls.length = 4) (ho : shapeZ o = ls) (hr : 0 ≤ r ∧ r ≤ 4) (hs : 0 ≤ s ∧ s ≤ 2) (A : Option Addr) (l m : Nat) (w : World) :
    Calls Tryz.prog 23 #[.agg #[.int .i64 o, .int .i64 a, .int .i64 b, .int .i64 c, .int .i64 n], .agg #[.int .i64 r, .int .i64 q, .int .i64 s, .slice A l m], .int .i64 k] w
      fun e w' => e = .returned (.int .i64 (chkL ls a b c n r s k)) ∧ Below w.heap.size w w' := by
  have hz : (txt ls).size = 4 := by rw [txt_size, h4]
  have te : (txt ls).toList.isEmpty = false := by
    rw [toList_txt]
    match ls, h4 with
    | [_, _, _, _], _ => rfl
  have HL : Hid (∀ (j : Nat) (hj : j < (txt ls).size), (txt ls)[j] = ls.getD j 0) := Lib.hid (txt_at ls)
  have H4 := Lib.hid h4
  clear h4
  obtain ⟨W0, eW0⟩ : ∃ W0, W0 = (w.alloc (.cells #[.int .i64 o, .int .i64 a, .int .i64 b, .int .i64 c, .int .i64 n] 49)).alloc (.cells #[.int .i64 r, .int .i64 q, .int .i64 s, .slice A l m] 24) := ⟨_, rfl⟩
  have b0 : Below w.heap.size w W0 := by rw [eW0]; exact ((Below.refl _ w).alloc (Nat.le_refl _) _).alloc (by simp) _
  have h0 : At5 W0 w.heap.size o a b c n := by rw [eW0]; exact (At5.new w o a b c n).on ((Below.refl _ _).alloc (Nat.le_refl _) _)
  have p0 : Blk W0 (w.heap.size + 1) 24 #[.int .i64 r, .int .i64 q, .int .i64 s, .slice A l m] := by rw [eW0]; exact heap_alloc2_new w _ _
  have hS := Nine.refshape_any o W0
  rw [ho] at hS
  clear ho
  generalize txt ls = sx at hz te HL hS
  obtain ⟨d0, d1, d2, d3, d4⟩ := id h0
  go_enter Tryz.func23, Tryz.ntmps23
  go_wp2_with fail
  rw [← eW0]
  clear eW0
  refine hS.mono ?_
  rintro e w1 ⟨rfl, hb1⟩
  clear hS
  replace h0 := h0.on hb1
  replace p0 := p0.below hb1 p0.lt
  replace b0 := b0.trans (hb1.mono b0.size)
  clear d0 d1 d2 d3 d4 hb1
  go_wp2_with fail
  go_loopw [8] (fun i wr => ∃ j : Nat, i = .int .i64 j ∧ j ≤ 4 ∧ (∀ t, t < j → fitB ((ls.getD t 0).toNat : Int) (opd a b c n t) r s k = true) ∧ Below w1.heap.size w1 wr) (fun i _ => 4 - (intOf i).toNat)
  case atStart => exact ⟨0, rfl, Nat.zero_le _, fun t ht => absurd ht (Nat.not_lt_zero _), Below.refl _ _⟩
  case round =>
    obtain ⟨j, rfl, hj, hall, hb⟩ := hrel
    have HA := Lib.hid hall
    clear hall
    by_cases hlt : j < 4
    · have t0 : decide ((j : Int) < 4) = true := decide_eq_true (by omega)
      have i0 : (0 : Int) ≤ (j : Int) := by omega
      have i1 : (j : Int) < 4 := by omega
      have hjs : j < sx.size := by omega
      have hfit := fitB_most (ls.getD j 0).toNat (opd a b c n j) r s k
      have hF := field_any o a b c n j wr
      obtain ⟨x, ex⟩ : ∃ x, opd a b c n j = x := ⟨_, rfl⟩
      have EX := Lib.hid ex
      rw [ex] at hF hfit
      obtain ⟨v, ev⟩ : ∃ v, fitB ((ls.getD j 0).toNat : Int) (opd a b c n j) r s k = v := ⟨_, rfl⟩
      have EV := Lib.hid ev
      rw [ex] at ev
      rw [ev] at hfit
      obtain ⟨y, ey⟩ : ∃ y, (sx[j].toNat : Int) = y := ⟨_, rfl⟩
      have hy : ((ls.getD j 0).toNat : Int) = y := by rw [← HL.out j hjs]; exact ey
      rw [hy] at hfit
      have hM := most_any y r q s k hr hs A l m
      obtain ⟨mv, em⟩ : ∃ mv, mostV y r s k = mv := ⟨_, rfl⟩
      rw [em] at hM hfit
      have HV := Lib.hid hfit
      have HH := h0.on hb
      have p1 := p0.below hb p0.lt
      obtain ⟨d0, d1, d2, d3, d4⟩ := id HH
      clear hfit hy em ev ex
      go_wp2_with fail
      refine hF.mono ?_
      rintro e w2 ⟨rfl, hb2⟩
      have q2 := hb.trans (hb2.mono hb.size)
      have p2 := p1.below hb2 p1.lt
      clear d0 d1 d2 d3 d4 hF HH hb2
      by_cases hy : y = 110
      · subst hy
        have HN : Hid (∀ t, t < j + 1 → fitB ((ls.getD t 0).toNat : Int) (opd a b c n t) r s k = true) := Lib.hid (fun t ht => by
          rcases Nat.lt_succ_iff_lt_or_eq.1 ht with h | h
          · exact HA.out t h
          · subst h; rw [EV.out, HV.out]; simp)
        go_wp2_with fail
        go_quiet (fail)
        go_wp2
        go_roundw
        case rel => exact ⟨j + 1, by go_num, by omega, HN.out, below_drew q2 nq⟩
        case measure => simp [intOf]; omega
      · by_cases hx : x < 0
        · have t2 : decide (x < 0) = true := decide_eq_true hx
          have t9 : (y != 110) = true := by simpa using hy
          have HN : Hid (chkL ls a b c n r s k = 3) := Lib.hid (chkL_not H4.out j hlt (by rw [EV.out, HV.out, decide_eq_false hy, decide_eq_false (show ¬ 0 ≤ x by omega)]; rfl))
          clear hy hM
          go_wp2_with fail
          go_quiet (fail)
          go_wp2
          go_ret
          exact ⟨by rw [HN.out]; rfl, b0.trans ((below_drew q2 nq).mono b0.size)⟩
        · have t2 : decide (x < 0) = false := decide_eq_false hx
          have t9 : (y != 110) = true := by simpa using hy
          have HY := Lib.hid hy
          clear hy
          have zz := p2.lt
          have r0 := Below.refl w2.heap.size w2
          have tc0 : ∀ W, Below w2.heap.size w2 W → W.cell? ⟨w.heap.size + 1, 0, none⟩ = some (.int .i64 r) := fun W hb => (p2.below hb zz).cell 0
          have tc1 : ∀ W, Below w2.heap.size w2 W → W.cell? ⟨w.heap.size + 1, 1, none⟩ = some (.int .i64 q) := fun W hb => (p2.below hb zz).cell 1
          have tc2 : ∀ W, Below w2.heap.size w2 W → W.cell? ⟨w.heap.size + 1, 2, none⟩ = some (.int .i64 s) := fun W hb => (p2.below hb zz).cell 2
          have tc3 : ∀ W, Below w2.heap.size w2 W → W.cell? ⟨w.heap.size + 1, 3, none⟩ = some (.slice A l m) := fun W hb => (p2.below hb zz).cell 3
          go_wp2_with fail
          go_region_held3 (fun w' => Below w2.heap.size w2 w' ∧ w'.cell? ⟨w.heap.size + 1, 0, none⟩ = some (.int .i64 r) ∧ w'.cell? ⟨w.heap.size + 1, 1, none⟩ = some (.int .i64 q) ∧ w'.cell? ⟨w.heap.size + 1, 2, none⟩ = some (.int .i64 s) ∧ w'.cell? ⟨w.heap.size + 1, 3, none⟩ = some (.slice A l m))
            (first
              | (exact ⟨r0.drew, tc0 _ r0.drew, tc1 _ r0.drew, tc2 _ r0.drew, tc3 _ r0.drew⟩)
              | (exact ⟨hb3, tc0 _ hb3, tc1 _ hb3, tc2 _ hb3, tc3 _ hb3⟩))
            (first | (go_at_call 51; refine (hM _).mono ?_; rintro e w3 ⟨rfl, hb3'⟩; have hb3 := r0.drew.trans (hb3'.mono r0.drew.size)))
          have q3 := q2.trans (hb3.mono q2.size)
          clear tc0 tc1 tc2 tc3 hM
          by_cases hm : mv < x
          · have t3 : decide (mv < x) = true := decide_eq_true hm
            have HN : Hid (chkL ls a b c n r s k = 3) := Lib.hid (chkL_not H4.out j hlt (by rw [EV.out, HV.out, decide_eq_false HY.out, decide_eq_false (show ¬ x ≤ mv by omega)]; simp))
            go_wp2
            go_ret
            exact ⟨by rw [HN.out]; rfl, b0.trans (q3.mono b0.size)⟩
          · have t3 : decide (mv < x) = false := decide_eq_false hm
            have HN : Hid (∀ t, t < j + 1 → fitB ((ls.getD t 0).toNat : Int) (opd a b c n t) r s k = true) := Lib.hid (fun t ht => by
              rcases Nat.lt_succ_iff_lt_or_eq.1 ht with h | h
              · exact HA.out t h
              · subst h; rw [EV.out, HV.out, decide_eq_true (show 0 ≤ x by omega), decide_eq_true (show x ≤ mv by omega)]; simp)
            go_wp2
            go_roundw
            case rel => exact ⟨j + 1, by go_num, by omega, HN.out, q3⟩
            case measure => simp [intOf]; omega
    · obtain rfl : j = 4 := by omega
      have HN : Hid (chkL ls a b c n r s k = 0) := Lib.hid (chkL_fit H4.out HA.out)
      go_wp2
      go_ret
      exact ⟨by rw [HN.out]; rfl, b0.trans (hb.mono b0.size)⟩
set_option maxRecDepth 100000 in
theorem refcheck_none (o a b c n r q s k : Int) (ho : shapeZ o = []) (A : Option Addr) (l m : Nat) (w : World) :
    Calls Tryz.prog 23 #[.agg #[.int .i64 o, .int .i64 a, .int .i64 b, .int .i64 c, .int .i64 n], .agg #[.int .i64 r, .int .i64 q, .int .i64 s, .slice A l m], .int .i64 k] w
      fun e w' => e = .returned (.int .i64 2) ∧ Below w.heap.size w w' := by
  obtain ⟨W0, eW0⟩ : ∃ W0, W0 = (w.alloc (.cells #[.int .i64 o, .int .i64 a, .int .i64 b, .int .i64 c, .int .i64 n] 49)).alloc (.cells #[.int .i64 r, .int .i64 q, .int .i64 s, .slice A l m] 24) := ⟨_, rfl⟩
  have b0 : Below w.heap.size w W0 := by rw [eW0]; exact ((Below.refl _ w).alloc (Nat.le_refl _) _).alloc (by simp) _
  have h0 : At5 W0 w.heap.size o a b c n := by rw [eW0]; exact (At5.new w o a b c n).on ((Below.refl _ _).alloc (Nat.le_refl _) _)
  obtain ⟨d0, d1, d2, d3, d4⟩ := id h0
  have hS := Nine.refshape_any o W0
  rw [ho] at hS
  have te : (txt []).toList.isEmpty = true := by rw [toList_txt]; rfl
  go_enter Tryz.func23, Tryz.ntmps23
  go_wp2_with fail
  rw [← eW0]
  refine hS.mono ?_
  rintro e w1 ⟨rfl, hb1⟩
  go_wp2
  go_ret
  exact ⟨rfl, b0.trans (hb1.mono b0.size)⟩
theorem refcheck_any (o a b c n r q s k : Int) (hr : 0 ≤ r ∧ r ≤ 4) (hs : 0 ≤ s ∧ s ≤ 2) (A : Option Addr) (l m : Nat) (w : World) :
    Calls Tryz.prog 23 #[.agg #[.int .i64 o, .int .i64 a, .int .i64 b, .int .i64 c, .int .i64 n], .agg #[.int .i64 r, .int .i64 q, .int .i64 s, .slice A l m], .int .i64 k] w
      fun e w' => e = .returned (.int .i64 (chk o a b c n r s k)) ∧ Below w.heap.size w w' := by
  unfold chk
  rcases shape_cases o with ⟨_, h⟩ | ⟨_, i, l0, l1, l2, l3, _, _, h, h4⟩
  · rw [h]
    exact refcheck_none o a b c n r q s k h A l m w
  · exact refcheck_some o a b c n r q s k (shapeZ o) (by rw [h, h4]; rfl) rfl hr hs A l m w
end Go.Proofs.YtfadfdfpocpelaaGreatDoor.P
