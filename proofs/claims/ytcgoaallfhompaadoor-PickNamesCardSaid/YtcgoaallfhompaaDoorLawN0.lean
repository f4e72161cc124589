/- PickNames where there is no such agent. Conditions: none. -/
import Derived.Test.YtcgoaallfhompaaDoorAlive
namespace Go.Proofs.YtcgoaallfhompaaDoor
open Go.RowKit Go.ChangeShapes Go.WideShapes
set_option linter.unusedSimpArgs false
set_option linter.unusedVariables false

set_option maxRecDepth 100000 in
set_option maxHeartbeats 4000000 in
theorem names_none_c (a t : Int) (s S : ByteArray) (w : World) (hs : 10 < s.size) (hS : s.extract 0 10 = S) (hv : ¬ (0 ≤ t ∧ t ≤ 4 ∧ 0 ≤ a ∧ a < 2 * t)) : Calls Tryd.prog 3 #[.int .i64 a, .int .i64 t, .string s] w (Trial w) := by
  have z0 : decide ((10 : Int) < (s.size : Int)) = true := decide_eq_true (by omega)
  have z1 : (10 : Int) ≤ (s.size : Int) := by omega
  have hin : inB a 0 (agN t - 1) = false := by
    unfold inB
    by_cases q : 0 ≤ a
    · by_cases q2 : 0 ≤ t ∧ t ≤ 4
      · rw [agN_some q2.1 q2.2, decide_eq_false (by omega : ¬ a ≤ 2 * t - 1), Bool.and_false]
      · rw [agN_none q2, decide_eq_false (by omega : ¬ a ≤ 0 - 1), Bool.and_false]
    · rw [decide_eq_false q]; rfl
  have hnm := fun W => name_none a t hin W
  clear hin
  by_cases q1 : 0 ≤ t
  · have t1 : decide (0 ≤ t) = true := decide_eq_true q1
    by_cases q2 : t ≤ 4
    · have t2 : decide (t ≤ 4) = true := decide_eq_true q2
      by_cases q3 : 0 ≤ a
      · have t3 : decide (0 ≤ a) = true := decide_eq_true q3
        have t4 : decide (a < 2 * t) = false := decide_eq_false (by omega)
        have q4 : 2 * t ≤ a := by omega
        have hw : IntKind.i64.wrap (2 * t) = 2 * t := by rw [IntKind.wrap_i64]; omega
        clear hv
        go_enter Tryd.func3, Tryd.ntmps3
        go_wp2_with fail
        refine (alive_any w).mono ?_
        rintro e w1 ⟨rfl, hb1⟩
        go_wp2_with fail
        refine (hnm w1).mono ?_
        rintro e w2 ⟨rfl, rfl⟩
        have HB := Lib.hid hb1
        clear hb1
        go_wp2_with fail
        refine (agent_any S t _).mono ?_
        rintro e Wa ⟨b, ok, rfl, hag, hba⟩
        rcases hag with ⟨rfl, hb0, hb1, hbS⟩ | ⟨rfl, rfl, hno⟩
        · obtain ⟨j, rfl⟩ := Int.eq_ofNat_of_zero_le hb0
          have hnj := name_some j t hb1 Wa
          rw [hbS] at hnj
          have hne : (S.toList == (⟨#[]⟩ : ByteArray).toList) = false := by rw [eq_txt]; exact decide_eq_false (by rw [← hbS]; exact nameT_ne _ _)
          have hne2 : S ≠ ⟨#[]⟩ := by rw [← hbS]; exact nameT_ne _ _
          have hne3 : S.toList ≠ [] := by
            intro q
            apply hne2
            have := (eq_txt S ⟨#[]⟩).symm.trans (by rw [q])
            simpa using this
          have HJ := Lib.hid (And.intro hb0 (And.intro hb1 hbS))
          clear hb0 hb1 hbS
          go_wp2_with fail
          refine hnj.mono ?_
          rintro e Wb ⟨rfl, hbb⟩
          go_wp2
          go_ret
          refine ⟨by simp [hne3, hne2], ?_⟩
          exact (HB.out.trans (hba.mono HB.out.size)).trans (hbb.mono (Nat.le_trans HB.out.size hba.size))
        · have HNO := Lib.hid hno
          clear hno
          go_wp2_with fail
          refine (agent_any ⟨#[]⟩ t _).mono ?_
          rintro e Wb ⟨c, is, rfl, hag2, hbb⟩
          rcases hag2 with ⟨rfl, hc0, hc1, hcS⟩ | ⟨rfl, rfl, hno2⟩
          · exact absurd hcS (nameT_ne _ _)
          · clear hno2
            go_wp2
            go_ret
            refine ⟨by simp, ?_⟩
            exact (HB.out.trans (hba.mono HB.out.size)).trans (hbb.mono (Nat.le_trans HB.out.size hba.size))
      · have t3 : decide (0 ≤ a) = false := decide_eq_false q3
        have q4 : a < 0 := by omega
        clear hv q3
        go_enter Tryd.func3, Tryd.ntmps3
        go_wp2_with fail
        refine (alive_any w).mono ?_
        rintro e w1 ⟨rfl, hb1⟩
        go_wp2_with fail
        refine (hnm w1).mono ?_
        rintro e w2 ⟨rfl, rfl⟩
        have HB := Lib.hid hb1
        clear hb1
        go_wp2_with fail
        refine (agent_any S t _).mono ?_
        rintro e Wa ⟨b, ok, rfl, hag, hba⟩
        rcases hag with ⟨rfl, hb0, hb1, hbS⟩ | ⟨rfl, rfl, hno⟩
        · obtain ⟨j, rfl⟩ := Int.eq_ofNat_of_zero_le hb0
          have hnj := name_some j t hb1 Wa
          rw [hbS] at hnj
          have hne : (S.toList == (⟨#[]⟩ : ByteArray).toList) = false := by rw [eq_txt]; exact decide_eq_false (by rw [← hbS]; exact nameT_ne _ _)
          have hne2 : S ≠ ⟨#[]⟩ := by rw [← hbS]; exact nameT_ne _ _
          have hne3 : S.toList ≠ [] := by
            intro q
            apply hne2
            have := (eq_txt S ⟨#[]⟩).symm.trans (by rw [q])
            simpa using this
          have HJ := Lib.hid (And.intro hb0 (And.intro hb1 hbS))
          clear hb0 hb1 hbS
          go_wp2_with fail
          refine hnj.mono ?_
          rintro e Wb ⟨rfl, hbb⟩
          go_wp2
          go_ret
          refine ⟨by simp [hne3, hne2], ?_⟩
          exact (HB.out.trans (hba.mono HB.out.size)).trans (hbb.mono (Nat.le_trans HB.out.size hba.size))
        · have HNO := Lib.hid hno
          clear hno
          go_wp2_with fail
          refine (agent_any ⟨#[]⟩ t _).mono ?_
          rintro e Wb ⟨c, is, rfl, hag2, hbb⟩
          rcases hag2 with ⟨rfl, hc0, hc1, hcS⟩ | ⟨rfl, rfl, hno2⟩
          · exact absurd hcS (nameT_ne _ _)
          · clear hno2
            go_wp2
            go_ret
            refine ⟨by simp, ?_⟩
            exact (HB.out.trans (hba.mono HB.out.size)).trans (hbb.mono (Nat.le_trans HB.out.size hba.size))
    · have t2 : decide (t ≤ 4) = false := decide_eq_false q2
      have q4 : 4 < t := by omega
      clear hv q2
      go_enter Tryd.func3, Tryd.ntmps3
      go_wp2_with fail
      refine (alive_any w).mono ?_
      rintro e w1 ⟨rfl, hb1⟩
      go_wp2_with fail
      refine (hnm w1).mono ?_
      rintro e w2 ⟨rfl, rfl⟩
      have HB := Lib.hid hb1
      clear hb1
      go_wp2_with fail
      refine (agent_any S t _).mono ?_
      rintro e Wa ⟨b, ok, rfl, hag, hba⟩
      rcases hag with ⟨rfl, hb0, hb1, hbS⟩ | ⟨rfl, rfl, hno⟩
      · obtain ⟨j, rfl⟩ := Int.eq_ofNat_of_zero_le hb0
        have hnj := name_some j t hb1 Wa
        rw [hbS] at hnj
        have hne : (S.toList == (⟨#[]⟩ : ByteArray).toList) = false := by rw [eq_txt]; exact decide_eq_false (by rw [← hbS]; exact nameT_ne _ _)
        have hne2 : S ≠ ⟨#[]⟩ := by rw [← hbS]; exact nameT_ne _ _
        have hne3 : S.toList ≠ [] := by
          intro q
          apply hne2
          have := (eq_txt S ⟨#[]⟩).symm.trans (by rw [q])
          simpa using this
        have HJ := Lib.hid (And.intro hb0 (And.intro hb1 hbS))
        clear hb0 hb1 hbS
        go_wp2_with fail
        refine hnj.mono ?_
        rintro e Wb ⟨rfl, hbb⟩
        go_wp2
        go_ret
        refine ⟨by simp [hne3, hne2], ?_⟩
        exact (HB.out.trans (hba.mono HB.out.size)).trans (hbb.mono (Nat.le_trans HB.out.size hba.size))
      · have HNO := Lib.hid hno
        clear hno
        go_wp2_with fail
        refine (agent_any ⟨#[]⟩ t _).mono ?_
        rintro e Wb ⟨c, is, rfl, hag2, hbb⟩
        rcases hag2 with ⟨rfl, hc0, hc1, hcS⟩ | ⟨rfl, rfl, hno2⟩
        · exact absurd hcS (nameT_ne _ _)
        · clear hno2
          go_wp2
          go_ret
          refine ⟨by simp, ?_⟩
          exact (HB.out.trans (hba.mono HB.out.size)).trans (hbb.mono (Nat.le_trans HB.out.size hba.size))
  · have t1 : decide (0 ≤ t) = false := decide_eq_false q1
    have q4 : t < 0 := by omega
    clear hv q1
    go_enter Tryd.func3, Tryd.ntmps3
    go_wp2_with fail
    refine (alive_any w).mono ?_
    rintro e w1 ⟨rfl, hb1⟩
    go_wp2_with fail
    refine (hnm w1).mono ?_
    rintro e w2 ⟨rfl, rfl⟩
    have HB := Lib.hid hb1
    clear hb1
    go_wp2_with fail
    refine (agent_any S t _).mono ?_
    rintro e Wa ⟨b, ok, rfl, hag, hba⟩
    rcases hag with ⟨rfl, hb0, hb1, hbS⟩ | ⟨rfl, rfl, hno⟩
    · obtain ⟨j, rfl⟩ := Int.eq_ofNat_of_zero_le hb0
      have hnj := name_some j t hb1 Wa
      rw [hbS] at hnj
      have hne : (S.toList == (⟨#[]⟩ : ByteArray).toList) = false := by rw [eq_txt]; exact decide_eq_false (by rw [← hbS]; exact nameT_ne _ _)
      have hne2 : S ≠ ⟨#[]⟩ := by rw [← hbS]; exact nameT_ne _ _
      have hne3 : S.toList ≠ [] := by
        intro q
        apply hne2
        have := (eq_txt S ⟨#[]⟩).symm.trans (by rw [q])
        simpa using this
      have HJ := Lib.hid (And.intro hb0 (And.intro hb1 hbS))
      clear hb0 hb1 hbS
      go_wp2_with fail
      refine hnj.mono ?_
      rintro e Wb ⟨rfl, hbb⟩
      go_wp2
      go_ret
      refine ⟨by simp [hne3, hne2], ?_⟩
      exact (HB.out.trans (hba.mono HB.out.size)).trans (hbb.mono (Nat.le_trans HB.out.size hba.size))
    · have HNO := Lib.hid hno
      clear hno
      go_wp2_with fail
      refine (agent_any ⟨#[]⟩ t _).mono ?_
      rintro e Wb ⟨c, is, rfl, hag2, hbb⟩
      rcases hag2 with ⟨rfl, hc0, hc1, hcS⟩ | ⟨rfl, rfl, hno2⟩
      · exact absurd hcS (nameT_ne _ _)
      · clear hno2
        go_wp2
        go_ret
        refine ⟨by simp, ?_⟩
        exact (HB.out.trans (hba.mono HB.out.size)).trans (hbb.mono (Nat.le_trans HB.out.size hba.size))
set_option maxRecDepth 100000 in
set_option maxHeartbeats 4000000 in
theorem names_none_n (a t : Int) (s S : ByteArray) (w : World) (hs : s.size ≤ 10) (hS : s = S) (hv : ¬ (0 ≤ t ∧ t ≤ 4 ∧ 0 ≤ a ∧ a < 2 * t)) : Calls Tryd.prog 3 #[.int .i64 a, .int .i64 t, .string s] w (Trial w) := by
  subst hS
  obtain ⟨S, hS⟩ : ∃ S, S = s := ⟨_, rfl⟩
  have z0 : decide ((10 : Int) < (s.size : Int)) = false := decide_eq_false (by omega)
  subst hS
  have hin : inB a 0 (agN t - 1) = false := by
    unfold inB
    by_cases q : 0 ≤ a
    · by_cases q2 : 0 ≤ t ∧ t ≤ 4
      · rw [agN_some q2.1 q2.2, decide_eq_false (by omega : ¬ a ≤ 2 * t - 1), Bool.and_false]
      · rw [agN_none q2, decide_eq_false (by omega : ¬ a ≤ 0 - 1), Bool.and_false]
    · rw [decide_eq_false q]; rfl
  have hnm := fun W => name_none a t hin W
  clear hin
  by_cases q1 : 0 ≤ t
  · have t1 : decide (0 ≤ t) = true := decide_eq_true q1
    by_cases q2 : t ≤ 4
    · have t2 : decide (t ≤ 4) = true := decide_eq_true q2
      by_cases q3 : 0 ≤ a
      · have t3 : decide (0 ≤ a) = true := decide_eq_true q3
        have t4 : decide (a < 2 * t) = false := decide_eq_false (by omega)
        have q4 : 2 * t ≤ a := by omega
        have hw : IntKind.i64.wrap (2 * t) = 2 * t := by rw [IntKind.wrap_i64]; omega
        clear hv
        go_enter Tryd.func3, Tryd.ntmps3
        go_wp2_with fail
        refine (alive_any w).mono ?_
        rintro e w1 ⟨rfl, hb1⟩
        go_wp2_with fail
        refine (hnm w1).mono ?_
        rintro e w2 ⟨rfl, rfl⟩
        have HB := Lib.hid hb1
        clear hb1
        go_wp2_with fail
        refine (agent_any S t _).mono ?_
        rintro e Wa ⟨b, ok, rfl, hag, hba⟩
        rcases hag with ⟨rfl, hb0, hb1, hbS⟩ | ⟨rfl, rfl, hno⟩
        · obtain ⟨j, rfl⟩ := Int.eq_ofNat_of_zero_le hb0
          have hnj := name_some j t hb1 Wa
          rw [hbS] at hnj
          have hne : (S.toList == (⟨#[]⟩ : ByteArray).toList) = false := by rw [eq_txt]; exact decide_eq_false (by rw [← hbS]; exact nameT_ne _ _)
          have hne2 : S ≠ ⟨#[]⟩ := by rw [← hbS]; exact nameT_ne _ _
          have hne3 : S.toList ≠ [] := by
            intro q
            apply hne2
            have := (eq_txt S ⟨#[]⟩).symm.trans (by rw [q])
            simpa using this
          have HJ := Lib.hid (And.intro hb0 (And.intro hb1 hbS))
          clear hb0 hb1 hbS
          go_wp2_with fail
          refine hnj.mono ?_
          rintro e Wb ⟨rfl, hbb⟩
          go_wp2
          go_ret
          refine ⟨by simp [hne3, hne2], ?_⟩
          exact (HB.out.trans (hba.mono HB.out.size)).trans (hbb.mono (Nat.le_trans HB.out.size hba.size))
        · have HNO := Lib.hid hno
          clear hno
          go_wp2_with fail
          refine (agent_any ⟨#[]⟩ t _).mono ?_
          rintro e Wb ⟨c, is, rfl, hag2, hbb⟩
          rcases hag2 with ⟨rfl, hc0, hc1, hcS⟩ | ⟨rfl, rfl, hno2⟩
          · exact absurd hcS (nameT_ne _ _)
          · clear hno2
            go_wp2
            go_ret
            refine ⟨by simp, ?_⟩
            exact (HB.out.trans (hba.mono HB.out.size)).trans (hbb.mono (Nat.le_trans HB.out.size hba.size))
      · have t3 : decide (0 ≤ a) = false := decide_eq_false q3
        have q4 : a < 0 := by omega
        clear hv q3
        go_enter Tryd.func3, Tryd.ntmps3
        go_wp2_with fail
        refine (alive_any w).mono ?_
        rintro e w1 ⟨rfl, hb1⟩
        go_wp2_with fail
        refine (hnm w1).mono ?_
        rintro e w2 ⟨rfl, rfl⟩
        have HB := Lib.hid hb1
        clear hb1
        go_wp2_with fail
        refine (agent_any S t _).mono ?_
        rintro e Wa ⟨b, ok, rfl, hag, hba⟩
        rcases hag with ⟨rfl, hb0, hb1, hbS⟩ | ⟨rfl, rfl, hno⟩
        · obtain ⟨j, rfl⟩ := Int.eq_ofNat_of_zero_le hb0
          have hnj := name_some j t hb1 Wa
          rw [hbS] at hnj
          have hne : (S.toList == (⟨#[]⟩ : ByteArray).toList) = false := by rw [eq_txt]; exact decide_eq_false (by rw [← hbS]; exact nameT_ne _ _)
          have hne2 : S ≠ ⟨#[]⟩ := by rw [← hbS]; exact nameT_ne _ _
          have hne3 : S.toList ≠ [] := by
            intro q
            apply hne2
            have := (eq_txt S ⟨#[]⟩).symm.trans (by rw [q])
            simpa using this
          have HJ := Lib.hid (And.intro hb0 (And.intro hb1 hbS))
          clear hb0 hb1 hbS
          go_wp2_with fail
          refine hnj.mono ?_
          rintro e Wb ⟨rfl, hbb⟩
          go_wp2
          go_ret
          refine ⟨by simp [hne3, hne2], ?_⟩
          exact (HB.out.trans (hba.mono HB.out.size)).trans (hbb.mono (Nat.le_trans HB.out.size hba.size))
        · have HNO := Lib.hid hno
          clear hno
          go_wp2_with fail
          refine (agent_any ⟨#[]⟩ t _).mono ?_
          rintro e Wb ⟨c, is, rfl, hag2, hbb⟩
          rcases hag2 with ⟨rfl, hc0, hc1, hcS⟩ | ⟨rfl, rfl, hno2⟩
          · exact absurd hcS (nameT_ne _ _)
          · clear hno2
            go_wp2
            go_ret
            refine ⟨by simp, ?_⟩
            exact (HB.out.trans (hba.mono HB.out.size)).trans (hbb.mono (Nat.le_trans HB.out.size hba.size))
    · have t2 : decide (t ≤ 4) = false := decide_eq_false q2
      have q4 : 4 < t := by omega
      clear hv q2
      go_enter Tryd.func3, Tryd.ntmps3
      go_wp2_with fail
      refine (alive_any w).mono ?_
      rintro e w1 ⟨rfl, hb1⟩
      go_wp2_with fail
      refine (hnm w1).mono ?_
      rintro e w2 ⟨rfl, rfl⟩
      have HB := Lib.hid hb1
      clear hb1
      go_wp2_with fail
      refine (agent_any S t _).mono ?_
      rintro e Wa ⟨b, ok, rfl, hag, hba⟩
      rcases hag with ⟨rfl, hb0, hb1, hbS⟩ | ⟨rfl, rfl, hno⟩
      · obtain ⟨j, rfl⟩ := Int.eq_ofNat_of_zero_le hb0
        have hnj := name_some j t hb1 Wa
        rw [hbS] at hnj
        have hne : (S.toList == (⟨#[]⟩ : ByteArray).toList) = false := by rw [eq_txt]; exact decide_eq_false (by rw [← hbS]; exact nameT_ne _ _)
        have hne2 : S ≠ ⟨#[]⟩ := by rw [← hbS]; exact nameT_ne _ _
        have hne3 : S.toList ≠ [] := by
          intro q
          apply hne2
          have := (eq_txt S ⟨#[]⟩).symm.trans (by rw [q])
          simpa using this
        have HJ := Lib.hid (And.intro hb0 (And.intro hb1 hbS))
        clear hb0 hb1 hbS
        go_wp2_with fail
        refine hnj.mono ?_
        rintro e Wb ⟨rfl, hbb⟩
        go_wp2
        go_ret
        refine ⟨by simp [hne3, hne2], ?_⟩
        exact (HB.out.trans (hba.mono HB.out.size)).trans (hbb.mono (Nat.le_trans HB.out.size hba.size))
      · have HNO := Lib.hid hno
        clear hno
        go_wp2_with fail
        refine (agent_any ⟨#[]⟩ t _).mono ?_
        rintro e Wb ⟨c, is, rfl, hag2, hbb⟩
        rcases hag2 with ⟨rfl, hc0, hc1, hcS⟩ | ⟨rfl, rfl, hno2⟩
        · exact absurd hcS (nameT_ne _ _)
        · clear hno2
          go_wp2
          go_ret
          refine ⟨by simp, ?_⟩
          exact (HB.out.trans (hba.mono HB.out.size)).trans (hbb.mono (Nat.le_trans HB.out.size hba.size))
  · have t1 : decide (0 ≤ t) = false := decide_eq_false q1
    have q4 : t < 0 := by omega
    clear hv q1
    go_enter Tryd.func3, Tryd.ntmps3
    go_wp2_with fail
    refine (alive_any w).mono ?_
    rintro e w1 ⟨rfl, hb1⟩
    go_wp2_with fail
    refine (hnm w1).mono ?_
    rintro e w2 ⟨rfl, rfl⟩
    have HB := Lib.hid hb1
    clear hb1
    go_wp2_with fail
    refine (agent_any S t _).mono ?_
    rintro e Wa ⟨b, ok, rfl, hag, hba⟩
    rcases hag with ⟨rfl, hb0, hb1, hbS⟩ | ⟨rfl, rfl, hno⟩
    · obtain ⟨j, rfl⟩ := Int.eq_ofNat_of_zero_le hb0
      have hnj := name_some j t hb1 Wa
      rw [hbS] at hnj
      have hne : (S.toList == (⟨#[]⟩ : ByteArray).toList) = false := by rw [eq_txt]; exact decide_eq_false (by rw [← hbS]; exact nameT_ne _ _)
      have hne2 : S ≠ ⟨#[]⟩ := by rw [← hbS]; exact nameT_ne _ _
      have hne3 : S.toList ≠ [] := by
        intro q
        apply hne2
        have := (eq_txt S ⟨#[]⟩).symm.trans (by rw [q])
        simpa using this
      have HJ := Lib.hid (And.intro hb0 (And.intro hb1 hbS))
      clear hb0 hb1 hbS
      go_wp2_with fail
      refine hnj.mono ?_
      rintro e Wb ⟨rfl, hbb⟩
      go_wp2
      go_ret
      refine ⟨by simp [hne3, hne2], ?_⟩
      exact (HB.out.trans (hba.mono HB.out.size)).trans (hbb.mono (Nat.le_trans HB.out.size hba.size))
    · have HNO := Lib.hid hno
      clear hno
      go_wp2_with fail
      refine (agent_any ⟨#[]⟩ t _).mono ?_
      rintro e Wb ⟨c, is, rfl, hag2, hbb⟩
      rcases hag2 with ⟨rfl, hc0, hc1, hcS⟩ | ⟨rfl, rfl, hno2⟩
      · exact absurd hcS (nameT_ne _ _)
      · clear hno2
        go_wp2
        go_ret
        refine ⟨by simp, ?_⟩
        exact (HB.out.trans (hba.mono HB.out.size)).trans (hbb.mono (Nat.le_trans HB.out.size hba.size))
end Go.Proofs.YtcgoaallfhompaaDoor
