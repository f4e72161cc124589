/- The walk of the plain thread. Conditions: at most 2000 octets. -/
import Derived.Test.YtcbekkbhhepeaaaDoorRefThr
namespace Go.Proofs.YtcbekkbhhepeaaaDoor
open Go.RowKit
set_option linter.unusedSimpArgs false

theorem own_ne {w : World} {base n sz T : Nat} {e t : TypeId} {v : Value} {xs : List Value} {cs : Array Value} (h : w.ownsRow base e sz v n xs) (hT : Blk w T t cs) (hte : t ≠ e) : v.ownBlock ≠ some T := by
  rcases h.2 with ⟨rfl, _⟩ | ⟨g, c, cur, rfl, _, hg, _⟩
  · show (none : Option Nat) ≠ some T
    simp
  · show some g ≠ some T
    intro e
    injection e with e
    subst e
    unfold Blk at hT
    rw [hT] at hg
    injection hg with hg
    injection hg with _ h5 _
    exact hte h5
set_option maxRecDepth 100000 in
set_option maxHeartbeats 4000000 in
theorem refthread_any {w : World} {A : Option Addr} {n cap : Nat} {xs : List Int} (h : Oct w w.heap.size A n cap xs) (hn2 : n ≤ 2000) (r c s : Int) (hr : 0 ≤ r ∧ r ≤ 4) (hs : 0 ≤ s ∧ s ≤ 2)
    {base nc capc : Nat} {Ac : Option Addr} {pre : List (List Ins)} (hP : OwnR w base (.slice Ac nc capc) nc pre) (hbase : base ≤ w.heap.size) (hnc : nc ≤ 4) (at_ : Nat) (hat : at_ ≤ 2000) :
    Calls Tryd.prog 32 #[.slice A n cap, .agg #[.int .i64 r, .int .i64 c, .int .i64 s, .slice Ac nc capc, .int .i64 (at_ : Int), .int .i64 0]] w (RThrs r c s base at_ pre w (thrP xs at_ r s)) := by
  obtain ⟨i0, hi0, hz0, hz1, hz2⟩ := info_parts info45
  have Z0 := Lib.hid hz0
  have Z1 := Lib.hid hz1
  have Z2 := Lib.hid hz2
  have I0 := Lib.hid hi0
  clear hz0 hz1 hz2 hi0
  obtain ⟨i6, hi6, hy0, hy1, hy2⟩ := info_parts info46
  have Y0 := Lib.hid hy0
  have Y1 := Lib.hid hy1
  have Y2 := Lib.hid hy2
  have I6 := Lib.hid hi6
  clear hy0 hy1 hy2 hi6
  have hlen := Lib.hid h.len
  have hm := len_i64 h.room h.most
  have hroom := Lib.hid h.room
  have hsm := Lib.hid h.small
  obtain ⟨W0, eW0⟩ : ∃ W0, W0 = (w.alloc (.cells #[.int .i64 r, .int .i64 c, .int .i64 s, .slice Ac nc capc, .int .i64 (at_ : Int), .int .i64 0] 38)).alloc (.cells #[.int .i64 0, .int .i64 0, .int .i64 0, .slice none 0 0, .int .i64 0, .int .i64 0] 38) := ⟨_, rfl⟩
  have b0 : Below w.heap.size w W0 := by rw [eW0]; exact ((Below.refl _ w).alloc (Nat.le_refl _) _).alloc (by simp) _
  have s0 : W0.heap.size = w.heap.size + 2 := by rw [eW0]; simp
  have q0 : Blk W0 w.heap.size 38 (got r c s Ac nc capc at_ 0) := by
    rw [eW0]
    exact Blk.below (heap_alloc_new w _) ((Below.refl _ _).alloc (Nat.le_refl _) _) (by simp)
  have q1 : Blk W0 (w.heap.size + 1) 38 (got 0 0 0 none 0 0 0 0) := by
    rw [eW0]
    exact heap_alloc2_new w _ _
  have hO := h.below b0
  have hP0 := hP.below b0
  have z0 : W0.cell? ⟨w.heap.size, 0, none⟩ = some (.int .i64 r) := q0.cell 0
  have z1 : W0.cell? ⟨w.heap.size, 1, none⟩ = some (.int .i64 c) := q0.cell 1
  have z2 : W0.cell? ⟨w.heap.size, 2, none⟩ = some (.int .i64 s) := q0.cell 2
  have z3 : W0.cell? ⟨w.heap.size, 3, none⟩ = some (.slice Ac nc capc) := q0.cell 3
  have z4 : W0.cell? ⟨w.heap.size, 4, none⟩ = some (.int .i64 (at_ : Int)) := q0.cell 4
  have HS := Lib.hid s0
  have b0' := b0.mono hbase
  have hR := Lib.hid (And.intro hr hs)
  clear h hP s0 hr hs
  have fin : ∀ (a e : Int), Hid (Below base w (W0.setRow (w.heap.size + 1) (got 0 0 0 none 0 0 a e))) := fun a e => Lib.hid (below_setRow b0' (by omega) _)
  by_cases hge : n ≤ at_
  · have HE : Hid (thrP xs at_ r s = .error (1, at_)) := Lib.hid (by unfold thrP; rw [num1_le (by rw [hlen.out]; exact hge)])
    have t0 : (n : Int) ≤ (at_ : Int) := by omega
    have hfin : Below base w ((w.alloc (.cells #[.int .i64 r, .int .i64 c, .int .i64 s, .slice Ac nc capc, .int .i64 (at_ : Int), .int .i64 0] 38)).alloc (.cells (got 0 0 0 none 0 0 at_ 1) 38)) := ((Below.refl _ w).alloc hbase _).alloc (by simp; omega) _
    have HF := Lib.hid hfin
    clear hfin fin
    go_enter Tryd.func32, Tryd.ntmps32
    go_wp2_with fail
    refine bodyPost_ret (results_cell_row (cs := got 0 0 0 none 0 0 at_ 1) rfl _ _ (w.heap.size + 1) 38 (0, 0) _ rfl (heap_alloc2_new w _ _) Tryd.underlying38 rfl info38) rfl ?_
    rw [HE.out]
    exact ⟨rfl, HF.out⟩
  obtain ⟨ad, rfl⟩ : ∃ ad, A = some ad := by cases A with | none => (have := hO.zero.1; omega) | some ad => exact ⟨ad, rfl⟩
  have t0 : (at_ : Int) < (n : Int) := by omega
  have hx : xs[at_]? = some (xs[at_]'(by rw [hlen.out]; omega)) := List.getElem?_eq_getElem _
  generalize xs[at_]'(by rw [hlen.out]; omega) = x at hx
  have hc := (hO.cell ad rfl at_ (by omega)).2
  rw [List.getD_eq_getElem?_getD, hx, Option.getD_some] at hc
  have hc2 := hc
  rw [eW0] at hc2
  have hb := hsm.out.at_ at_
  rw [hx, Option.getD_some] at hb
  obtain ⟨g0, g1⟩ := hb
  by_cases hx16 : 16 < x
  · have HE : Hid (thrP xs at_ r s = .error (4, at_)) := Lib.hid (by unfold thrP; rw [num1_bad hx (by omega)])
    have t1 : decide ((16 : Int) < x) = true := decide_eq_true hx16
    have hfin : Below base w ((w.alloc (.cells #[.int .i64 r, .int .i64 c, .int .i64 s, .slice Ac nc capc, .int .i64 (at_ : Int), .int .i64 0] 38)).alloc (.cells (got 0 0 0 none 0 0 at_ 4) 38)) := ((Below.refl _ w).alloc hbase _).alloc (by simp; omega) _
    have HF := Lib.hid hfin
    clear hfin fin hx
    go_enter Tryd.func32, Tryd.ntmps32
    go_wp2_with fail
    refine bodyPost_ret (results_cell_row (cs := got 0 0 0 none 0 0 at_ 4) rfl _ _ (w.heap.size + 1) 38 (0, 0) _ rfl (heap_alloc2_new w _ _) Tryd.underlying38 rfl info38) rfl ?_
    rw [HE.out]
    exact ⟨rfl, HF.out⟩
  obtain ⟨k, rfl⟩ : ∃ k : Nat, x = k := ⟨x.toNat, by omega⟩
  have HE : Hid (thrP xs at_ r s = andL [] (thrI xs r s k k (at_ + 1 + 12 * 0))) := Lib.hid (by unfold thrP; rw [num1_ok hx (by omega), andL_nil]; rfl)
  have k16 : k ≤ 16 := by omega
  have t1 : decide ((16 : Int) < (k : Int)) = false := decide_eq_false (by omega)
  clear hx fin
  go_enter Tryd.func32, Tryd.ntmps32
  go_wp2_with fail
  rw [← eW0]
  clear eW0
  go_wp2_with fail
  clear hc z4
  go_loopw [6, 7, 8] (fun a6 v7 i wr => ∃ (j p : Nat) (l : List Ins), i = .int .i64 j ∧ a6 = .int .i64 p ∧ p = at_ + 1 + 12 * j ∧ p ≤ n ∧ j ≤ k ∧ l.length = j ∧ wr.ownsRow W0.heap.size 45 5 v7 j (flat5 l) ∧ Below W0.heap.size W0 wr ∧ thrP xs at_ r s = andL l (thrI xs r s k (k - j) p)) (fun _ _ i _ => k - (intOf i).toNat)
  case atStart => exact ⟨0, at_ + 1, [], rfl, by go_num, rfl, by omega, Nat.zero_le _, rfl, World.ownsRow_nil _ _ _ _, Below.refl _ _, HE.out⟩
  case round =>
    obtain ⟨j, p, l, rfl, rfl, hp, hpn, hj, hl, hown, hb, hE⟩ := hrel
    clear HE
    generalize wr = w4 at *
    have R0 := q0.below hb q0.lt
    have R1 := q1.below hb q1.lt
    have hO4 := (hO.below ((hb.mono b0.size)))
    clear z0 z1 z2 z3
    have z0 : w4.cell? ⟨w.heap.size, 0, none⟩ = some (.int .i64 r) := R0.cell 0
    have z1 : w4.cell? ⟨w.heap.size, 1, none⟩ = some (.int .i64 c) := R0.cell 1
    have z2 : w4.cell? ⟨w.heap.size, 2, none⟩ = some (.int .i64 s) := R0.cell 2
    have z3 : w4.cell? ⟨w.heap.size, 3, none⟩ = some (.slice Ac nc capc) := R0.cell 3
    have HL := Lib.hid hl
    have HP := Lib.hid hp
    have HR := Lib.hid hE
    have hbB : Below base w w4 := b0'.trans (hb.mono (Nat.le_trans hbase b0.size))
    clear hl hE hp
    by_cases hjk : j < k
    · have u0 : decide ((j : Int) < (k : Int)) = true := decide_eq_true (by omega)
      obtain ⟨q, hq, hq2⟩ : ∃ q, k - j = q + 1 ∧ k - (j + 1) = q := ⟨k - j - 1, by omega, by omega⟩
      have HQ2 := Lib.hid (And.intro hq hq2)
      clear hq hq2
      have pn : (p : Int) ≤ 2000 := by omega
      by_cases hsh : n < p + 12
      · have u1 : decide ((n : Int) < (p : Int) + 12) = true := decide_eq_true (by omega)
        have HX : Hid (thrP xs at_ r s = .error (1, n)) := Lib.hid (by
          have hi : insP xs p r s k = .error (1, n) := by unfold insP; rw [if_pos (by rw [hlen.out]; exact hsh), hlen.out]
          rw [HR.out, HQ2.out.1, thrI_stop hi])
        have HF : Hid (Below base w (w4.setRow (w.heap.size + 1) (got 0 0 0 none 0 0 (n : Int) 1))) := Lib.hid (below_setRow hbB (by omega) _)
        clear hown hb hbB hO4 R0
        go_wp2_with (refine wpList_store_row rfl 38 (.tmp 4) (.tmp 46) rfl (w.heap.size + 1) (got 0 0 0 none 0 0 (n : Int) 1) rfl rfl 38 (got 0 0 0 none 0 0 0 0) R1 info38 rfl (got_one 0 0 0 none 0 0 (n : Int) 1) ?_)
        refine bodyPost_ret (results_cell_row (cs := got 0 0 0 none 0 0 (n : Int) 1) rfl _ _ (w.heap.size + 1) 38 (0, 0) _ rfl (setRow_heap _ _ _ _ _ _ R1) Tryd.underlying38 rfl info38) rfl ?_
        rw [HX.out]
        exact ⟨rfl, HF.out⟩
      · have u1 : decide ((n : Int) < (p : Int) + 12) = false := decide_eq_false (by omega)
        have hcut : ∀ W, (Instr.slice 29 (.slice (some ad) n cap) (some (.int .i64 (p : Int))) (some (.int .i64 ((p : Int) + 12))) none).run Tryd.prog W = .ok (.slice (some (ad.add p)) 12 (cap - p)) W := cut_12 (some ad) n cap p (by have := hroom.out; omega)
        have hwin : Oct w4 w.heap.size (some (ad.add p)) 12 (cap - p) ((xs.drop p).take 12) := hO4.window (l := p) (k := 12) (c := cap - p) (by omega) (by omega) (by have := hroom.out; omega) (by have := hO4.most; omega)
        obtain ⟨y0, v0⟩ : ∃ y, ((xs.drop p).take 12)[0]?.getD 0 = y := ⟨_, rfl⟩
        obtain ⟨y1, v1⟩ : ∃ y, ((xs.drop p).take 12)[1]?.getD 0 = y := ⟨_, rfl⟩
        obtain ⟨y2, v2⟩ : ∃ y, ((xs.drop p).take 12)[2]?.getD 0 = y := ⟨_, rfl⟩
        obtain ⟨y3, v3⟩ : ∃ y, ((xs.drop p).take 12)[3]?.getD 0 = y := ⟨_, rfl⟩
        obtain ⟨y4, v4⟩ : ∃ y, wrap64 (val (((xs.drop p).take 12).drop 4)) = y := ⟨_, rfl⟩
        have HI : Hid (insAt xs p = ⟨y0, y1, y2, y3, y4⟩) := Lib.hid (by unfold insAt; rw [v0, v1, v2, v3, v4])
        have hG := refget_lit _ _ _ w4 (hwin.more (by have := R0.lt; omega)) y0 y1 y2 y3 y4 v0 v1 v2 v3 v4
        obtain ⟨v, ev⟩ : ∃ v, chk y0 y1 y2 y3 y4 r s k = v := ⟨_, rfl⟩
        have HC : Hid (∀ W, Calls Tryd.prog 20 #[.agg #[.int .i64 y0, .int .i64 y1, .int .i64 y2, .int .i64 y3, .int .i64 y4], .agg #[.int .i64 r, .int .i64 c, .int .i64 s, .slice Ac nc capc], .int .i64 k] W fun e w' => e = .returned (.int .i64 v) ∧ Below W.heap.size W w') := Lib.hid (fun W => by rw [← ev]; exact refcheck_any y0 y1 y2 y3 y4 r c s k hR.out.1 hR.out.2 Ac nc capc W)
        have HV : Hid (insP xs p r s k = if v = 0 then .ok ⟨y0, y1, y2, y3, y4⟩ else .error (v, p)) := Lib.hid (by
          have e : chkI (insAt xs p) r s k = v := by rw [HI.out]; exact ev
          unfold insP
          rw [if_neg (by rw [hlen.out]; omega), e, HI.out])
        clear v0 v1 v2 v3 v4 hwin ev hO4
        go_wp2_with fail
        refine hG.mono ?_
        rintro e w5 ⟨rfl, hb5⟩
        have a5 : Below w5.heap.size w5 (w5.alloc (.cells #[.int .i64 y0, .int .i64 y1, .int .i64 y2, .int .i64 y3, .int .i64 y4] 45)) := (Below.refl _ _).alloc (Nat.le_refl _) _
        have q5 := hb5.trans (a5.mono hb5.size)
        obtain ⟨f0, f1, f2, f3, f4⟩ := At5.new w5 y0 y1 y2 y3 y4
        have f5 := At5.new w5 y0 y1 y2 y3 y4
        have P0 := R0.below q5 R0.lt
        clear z0 z1 z2 z3 hG hcut
        have z0 := P0.cell 0
        have z1 := P0.cell 1
        have z2 := P0.cell 2
        have z3 := P0.cell 3
        have hC := HC.out (w5.alloc (.cells #[.int .i64 y0, .int .i64 y1, .int .i64 y2, .int .i64 y3, .int .i64 y4] 45))
        clear hb5 a5 P0
        unfold got at z0 z1 z2 z3
        go_wp2_with fail
        refine hC.mono ?_
        rintro e w6 ⟨rfl, hb6⟩
        have q6 := q5.trans (hb6.mono q5.size)
        have h6 := f5.on hb6
        clear f0 f1 f2 f3 f4 f5 z0 z1 z2 z3 hC
        by_cases hv : v = 0
        · subst hv
          have HX : Hid (thrP xs at_ r s = andL (l ++ [⟨y0, y1, y2, y3, y4⟩]) (thrI xs r s k (k - (j + 1)) (p + 12))) := Lib.hid (by
            have hi : insP xs p r s k = .ok ⟨y0, y1, y2, y3, y4⟩ := by rw [HV.out, if_pos rfl]
            rw [HR.out, HQ2.out.1, thrI_step hi, HQ2.out.2])
          have own6 := own_below hown q6
          have q6' := hb.trans (q6.mono hb.size)
          have hs6 := q6'.size
          obtain ⟨f0, f1, f2, f3, f4⟩ := id h6
          clear hown hb hbB R0 R1 q5 hb6
          go_wp2_with (first
            | (at_builtin; refine wpList_append_own _ rfl (.tmp 63) (.tmp 65) 46 rfl W0.heap.size 45 i0 (.agg #[.int .i64 0, .int .i64 0, .int .i64 0, .int .i64 0, .int .i64 0]) 5 40 Tryd.underlying46 I0.out Z0.out Z1.out Z2.out rfl (by decide) _ j (flat5 l) rfl (own6.alloc _) ⟨w6.heap.size, 0, none⟩ 1 1 [.int .i64 y0, .int .i64 y1, .int .i64 y2, .int .i64 y3, .int .i64 y4] rfl rfl (cell5_new _ _ _ _ _ _ _) (by simp [Value.oneCell']) (by unfold maxLen; omega) (by omega) (by rw [size_alloc]; omega) ?_; intro v8 w8 hown8 hg8 _))
          have hb8 : Below W0.heap.size W0 w8 := (q6'.alloc hs6 _).grown hg8 (by rw [size_alloc]; omega) (fun g hv => (own6.lt g hv).1)
          rw [← flat5_snoc l ⟨y0, y1, y2, y3, y4⟩] at hown8
          have HQ := Lib.hid (And.intro hown8 hb8)
          clear hown8 hb8 hg8 own6 q6 q6' h6 f0 f1 f2 f3 f4
          go_wp2
          go_roundw
          case rel => exact ⟨j + 1, p + 12, _, by go_num, by go_num, by have := HP.out; omega, by omega, by omega, by rw [List.length_append, HL.out]; rfl, HQ.out.1, HQ.out.2, HX.out⟩
          case measure => simp [intOf]; omega
        · have HX : Hid (thrP xs at_ r s = .error (v, p)) := Lib.hid (by
            have hi : insP xs p r s k = .error (v, p) := by rw [HV.out, if_neg hv]
            rw [HR.out, HQ2.out.1, thrI_stop hi])
          have R6 := R1.below q6 R1.lt
          have HF : Hid (Below base w (w6.setRow (w.heap.size + 1) (got 0 0 0 none 0 0 (p : Int) v))) := Lib.hid (below_setRow (hbB.trans (q6.mono (Nat.le_trans hbase hbB.size))) (by omega) _)
          clear hown hb hbB R0 R1 q5 q6 hb6 h6
          go_wp2_with (refine wpList_store_row rfl 38 (.tmp 4) (.tmp 62) rfl (w.heap.size + 1) (got 0 0 0 none 0 0 (p : Int) v) rfl rfl 38 (got 0 0 0 none 0 0 0 0) R6 info38 rfl (got_one 0 0 0 none 0 0 (p : Int) v) ?_)
          refine bodyPost_ret (results_cell_row (cs := got 0 0 0 none 0 0 (p : Int) v) rfl _ _ (w.heap.size + 1) 38 (0, 0) _ rfl (setRow_heap _ _ _ _ _ _ R6) Tryd.underlying38 rfl info38) rfl ?_
          rw [HX.out]
          exact ⟨rfl, HF.out⟩
    · obtain rfl : j = k := by omega
      have u0 : decide ((j : Int) < (j : Int)) = false := decide_eq_false (by omega)
      have HX : Hid (thrP xs at_ r s = .ok l) := Lib.hid (by rw [HR.out, Nat.sub_self, thrI, andL, List.append_nil])
      obtain ⟨A7, cap7, rfl, _⟩ := own_lst hown
      have hR4 := hP0.below hb
      obtain ⟨hl4, vs, ho4, hall4⟩ := hR4
      have hownb := own_mono hown (show base ≤ W0.heap.size by have := b0.size; omega)
      -- the fresh program
      obtain ⟨T, eT⟩ : ∃ T, w4.heap.size = T := ⟨_, rfl⟩
      have hbw4 := hbB.size
      have hwT : w.heap.size + 2 ≤ T := by rw [← eT, ← HS.out]; exact hb.size
      have a5 : Below w4.heap.size w4 (w4.alloc (.cells #[.int .i64 r, .int .i64 c, .int .i64 s, .slice Ac nc capc] 24)) := (Below.refl _ _).alloc (Nat.le_refl _) _
      have kT : Blk (w4.alloc (.cells #[.int .i64 r, .int .i64 c, .int .i64 s, .slice Ac nc capc] 24)) T 24 #[.int .i64 r, .int .i64 c, .int .i64 s, .slice Ac nc capc] := by rw [← eT]; exact heap_alloc_new w4 _
      have a6 : Below (w4.alloc (.cells #[.int .i64 r, .int .i64 c, .int .i64 s, .slice Ac nc capc] 24)).heap.size (w4.alloc (.cells #[.int .i64 r, .int .i64 c, .int .i64 s, .slice Ac nc capc] 24)) ((w4.alloc (.cells #[.int .i64 r, .int .i64 c, .int .i64 s, .slice Ac nc capc] 24)).alloc (.cells #[.slice A7 j cap7] 46)) := (Below.refl _ _).alloc (Nat.le_refl _) _
      have o6 := own_below (own_below ho4 a5) a6
      have HO := Lib.hid (And.intro o6 (And.intro hall4 (And.intro hl4 (And.intro hownb ho4))))
      have HB6 : Hid (Below w4.heap.size w4 ((w4.alloc (.cells #[.int .i64 r, .int .i64 c, .int .i64 s, .slice Ac nc capc] 24)).alloc (.cells #[.slice A7 j cap7] 46))) := Lib.hid (a5.trans (a6.mono a5.size))
      have KT6 := Lib.hid (kT.below a6 kT.lt)
      have hsz6 : base ≤ ((w4.alloc (.cells #[.int .i64 r, .int .i64 c, .int .i64 s, .slice Ac nc capc] 24)).alloc (.cells #[.slice A7 j cap7] 46)).heap.size := by simp; omega
      have hlt4 : ∀ g, (Value.slice Ac nc capc).ownBlock = some g → g < w4.heap.size := fun g hg => (ho4.lt g hg).2
      have z3T : (w4.alloc (.cells #[.int .i64 r, .int .i64 c, .int .i64 s, .slice Ac nc capc] 24)).cell? ⟨T, 3, none⟩ = some (.slice Ac nc capc) := kT.cell 3
      have s5 : (w4.alloc (.cells #[.int .i64 r, .int .i64 c, .int .i64 s, .slice Ac nc capc] 24)).heap.size = T + 1 := by simp [eT]
      clear hO4 hown ho4 hall4 hl4 hownb a5 a6 kT o6
      have cN := cell_one_new (w4.alloc (.cells #[.int .i64 r, .int .i64 c, .int .i64 s, .slice Ac nc capc] 24)) (.slice A7 j cap7) 46
      rw [s5] at cN
      have CN := Lib.hid cN
      have HN1 := Lib.hid (own_ne HO.out.2.2.2.2 R1 (by decide))
      have hpB := Lib.hid hbB
      have N1 : Hid (T < ((w4.alloc (.cells #[.int .i64 r, .int .i64 c, .int .i64 s, .slice Ac nc capc] 24)).alloc (.cells #[.slice A7 j cap7] 46)).heap.size) := Lib.hid (by rw [size_alloc, s5]; omega)
      have N2 : Hid (w.heap.size + 1 < ((w4.alloc (.cells #[.int .i64 r, .int .i64 c, .int .i64 s, .slice Ac nc capc] 24)).alloc (.cells #[.slice A7 j cap7] 46)).heap.size) := Lib.hid (by rw [size_alloc, s5]; omega)
      have N3 : Hid (w.heap.size + 1 ≠ T) := Lib.hid (by omega)
      have N4 : Hid (base ≤ w4.heap.size) := Lib.hid (by omega)
      have N5 : Hid (base ≤ T) := Lib.hid (by omega)
      have N6 := Lib.hid hsz6
      have N7 : Hid (∀ e : some T = (Value.slice Ac nc capc).ownBlock, False) := Lib.hid (fun e => by have := hlt4 T e.symm; omega)
      clear cN
      go_wp2_with (first
        | (at_builtin; refine wpList_append_own _ rfl (.tmp 72) (.tmp 74) 22 rfl base 46 i6 (.slice none 0 0) 1 24 Tryd.underlying22 I6.out Y0.out Y1.out Y2.out rfl (by decide) _ nc vs rfl HO.out.1 ⟨T + 1, 0, none⟩ 1 1 [.slice A7 j cap7] rfl rfl CN.out (by simp [Value.oneCell']) (by unfold maxLen; omega) (by omega) N6.out ?_; intro v8 w8 hown8 hg8 _
           have hR8 := OwnR.snoc HO.out.2.2.1 HO.out.2.2.2.2 HO.out.2.1 HO.out.2.2.2.1 HB6.out hg8 hown8
           obtain ⟨A9, cap9, rfl, _⟩ := hR8.mat
           skip
           have kT : Blk w8 T 24 #[.int .i64 r, .int .i64 c, .int .i64 s, .slice Ac nc capc] := (hg8.block T N1.out N7.out).trans KT6.out
           have R8 : Blk (w8.setCell ⟨T, 3, none⟩ (.slice A9 (nc + 1) cap9)) (w.heap.size + 1) 38 (got 0 0 0 none 0 0 0 0) := (heap_set w8 T 3 (w.heap.size + 1) _ N3.out).trans ((hg8.block (w.heap.size + 1) N2.out (fun e => HN1.out e.symm)).trans (R1.below HB6.out R1.lt))
           have x0 : w8.cell? ⟨T, 0, none⟩ = some (.int .i64 r) := kT.cell 0
           have x1 : w8.cell? ⟨T, 1, none⟩ = some (.int .i64 c) := kT.cell 1
           have x2 : w8.cell? ⟨T, 2, none⟩ = some (.int .i64 s) := kT.cell 2
           have x3 : w8.cell? ⟨T, 3, none⟩ = some (.slice Ac nc capc) := kT.cell 3
           have f3 := kT.free 3
           have hb8 : Below base w w8 := (hpB.out.trans (HB6.out.mono N4.out)).grown hg8 N6.out (fun g hv => (HO.out.2.2.2.2.lt g hv).1)
           have hfin : RThrs r c s base at_ pre w (.ok l) (.returned (.agg (got r c s A9 (nc + 1) cap9 (p : Int) 0))) ((w8.setCell ⟨T, 3, none⟩ (.slice A9 (nc + 1) cap9)).setRow (w.heap.size + 1) (got r c s A9 (nc + 1) cap9 (p : Int) 0)) := by
             refine ⟨A9, nc + 1, cap9, ?_, (hR8.set_ kT (by decide) (by decide)).setRow R8 (by decide) (by decide), below_setRow (hb8.setCell N5.out _) (by omega) _⟩
             rw [show at_ + (1 + 12 * l.length) = p by rw [HP.out, HL.out]; omega]
           have HFIN := Lib.hid hfin
           clear hfin hb8 hR8 hown8 hg8 kT hbB z0 z1 z2 z3 z3T q0 q1 R0 R1 hb hP0 hO)
        | (refine wpList_store_row rfl 38 (.tmp 4) (.tmp 79) rfl (w.heap.size + 1) (got r c s A9 (nc + 1) cap9 (p : Int) 0) rfl rfl 38 (got 0 0 0 none 0 0 0 0) R8 info38 rfl (got_one r c s A9 (nc + 1) cap9 (p : Int) 0) ?_))
      refine bodyPost_ret (results_cell_row (cs := got r c s A9 (nc + 1) cap9 (p : Int) 0) rfl _ _ (w.heap.size + 1) 38 (0, 0) _ rfl (setRow_heap _ _ _ _ _ _ R8) Tryd.underlying38 rfl info38) rfl ?_
      rw [HX.out]
      exact HFIN.out
end Go.Proofs.YtcbekkbhhepeaaaDoor
