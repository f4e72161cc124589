/- PickNames where there is such an agent. Conditions: none. -/
import Derived.Test.YtcgoaallfhompaaDoorAlive
namespace Go.Proofs.YtcgoaallfhompaaDoor
open Go.RowKit Go.ChangeShapes Go.WideShapes
set_option linter.unusedSimpArgs false
set_option linter.unusedVariables false

theorem conv_one (y : Nat) (hy : y < 256) (w : World) : (convert 23 9 (.slice (some ⟨w.heap.size, 0, none⟩) 1 1)).run Tryd.prog (w.alloc (.cells #[.int .u8 (y : Int)] 5)) = .ok (.string (txt [UInt8.ofNat y])) (w.alloc (.cells #[.int .u8 (y : Int)] 5)) := by
  have hb : Blk (w.alloc (.cells #[.int .u8 (y : Int)] 5)) w.heap.size 5 #[.int .u8 (y : Int)] := heap_alloc_new w _
  have ho : Oct (w.alloc (.cells #[.int .u8 (y : Int)] 5)) (w.heap.size + 1) (some ⟨w.heap.size, 0, none⟩) 1 1 [(y : Int)] := by
    refine ⟨rfl, Nat.le_refl _, by unfold maxLen; omega, (fun e => by cases e), fun x hx => ?_, fun ad ha i hi => ?_⟩
    · simp at hx
      omega
    · injection ha with ha
      subst ha
      obtain rfl : i = 0 := by omega
      refine ⟨Nat.lt_succ_self _, ?_⟩
      rw [plain_add, hb.cell]
      rfl
  rw [oct_text ho]
  rfl
set_option maxRecDepth 100000 in
set_option maxHeartbeats 4000000 in
theorem names_t_c (a t : Int) (s S : ByteArray) (w : World) (hs : 10 < s.size) (hS : s.extract 0 10 = S) (hv : 0 ≤ t ∧ t ≤ 4 ∧ 0 ≤ a ∧ a < 2 * t) (hf : a < t) : Calls Tryd.prog 3 #[.int .i64 a, .int .i64 t, .string s] w (Trial w) := by
  have z0 : decide ((10 : Int) < (s.size : Int)) = true := decide_eq_true (by omega)
  have z1 : (10 : Int) ≤ (s.size : Int) := by omega
  obtain ⟨q1, q2, q3, q5⟩ := hv
  obtain ⟨n, rfl⟩ := Int.eq_ofNat_of_zero_le q3
  have hag : (n : Int) < agN t := by rw [agN_some q1 q2]; exact q5
  obtain ⟨a, ea⟩ : ∃ a : Int, (n : Int) = a := ⟨_, rfl⟩
  obtain ⟨NT, eN⟩ : ∃ NT, nameT (n : Int) t = NT := ⟨_, rfl⟩
  have hnm := fun W => name_some n t hag W
  rw [eN, ea] at hnm
  have HV : Hid (0 ≤ a ∧ a < agN t ∧ nameT a t = NT) := Lib.hid ⟨by omega, by rw [← ea]; exact hag, by rw [← ea]; exact eN⟩
  rw [ea] at q3 q5 hag hf eN ⊢
  have t1 : decide (0 ≤ t) = true := decide_eq_true q1
  have t2 : decide (t ≤ 4) = true := decide_eq_true q2
  have t3 : decide (0 ≤ a) = true := decide_eq_true q3
  have t4 : decide (a < 2 * t) = true := decide_eq_true q5
  have hw : IntKind.i64.wrap (2 * t) = 2 * t := by rw [IntKind.wrap_i64]; omega
  obtain ⟨r, hr⟩ : ∃ r : Nat, a.tmod 4 = r := ⟨(a.tmod 4).toNat, by rw [Int.tmod_eq_emod_of_nonneg q3]; omega⟩
  have hr4 : (r : Int) < 4 ∧ (r : Int) = a % 4 := by rw [← hr, Int.tmod_eq_emod_of_nonneg q3]; omega
  obtain ⟨y, hy⟩ : ∃ y : Nat, y = 48 + r := ⟨_, rfl⟩
  have h48 : (48 : Int) + (r : Int) = (y : Int) := by omega
  have hw8 : IntKind.i64.wrap ((48 : Int) + (r : Int)) = (y : Int) := by rw [IntKind.wrap_i64]; omega
  have hu8 : IntKind.u8.wrap (y : Int) = (y : Int) := by unfold IntKind.wrap IntKind.bits IntKind.signed; simp; omega
  have hcv := fun W => conv_one y (by omega) W
  obtain ⟨D, eD⟩ : ∃ D, txt [UInt8.ofNat y] = D := ⟨_, rfl⟩
  have hDz : D.size = 1 := by rw [← eD, txt_size]; rfl
  rw [eD] at hcv
  have t5 : decide (t ≤ a) = false := decide_eq_false (by omega)
  have hcat : (⟨#[116]⟩ : ByteArray) ++ D = NT := by
    have h1 := t_dig (r : Int)
    unfold digT at h1
    rw [← eN, ← eD, hy]
    unfold nameT
    rw [if_pos hf]
    have e0 : a.toNat = r := by omega
    rw [e0]
    rw [Int.toNat_natCast] at h1
    exact h1
  have nN2 : NT ≠ ⟨#[]⟩ := by rw [← eN]; exact nameT_ne _ _
  have nN1 : (NT.toList == (⟨#[]⟩ : ByteArray).toList) = false := by rw [eq_txt]; exact decide_eq_false nN2
  have nN3 : ¬ NT.toList = [] := by
    intro q
    apply nN2
    have := (eq_txt NT ⟨#[]⟩).symm.trans (by rw [q])
    simpa using this
  have bR0 : (0 : Int) ≤ (r : Int) := by omega
  have bR1 : (r : Int) ≤ 3 := by omega
  have HR := Lib.hid (And.intro hr4 (And.intro hy (And.intro eD eN)))
  clear hr4 hy eD eN h48 hag ea
  go_enter Tryd.func3, Tryd.ntmps3
  go_wp2_with fail
  refine (alive_any w).mono ?_
  rintro e w1 ⟨rfl, hb1⟩
  go_wp2_with fail
  refine (hnm _).mono ?_
  rintro e w2 ⟨rfl, hb2⟩
  have HB : Hid (Below w.heap.size w w2) := Lib.hid ((hb1.trans ((Below.refl _ w1).alloc (Nat.le_refl _) _ |>.mono hb1.size)).trans (hb2.mono (by have := hb1.size; simp; omega)))
  clear hb1 hb2
  go_wp2_with fail
  refine (agent_any S t _).mono ?_
  rintro e Wa ⟨b, ok, rfl, hag, hba⟩
  rcases hag with ⟨rfl, hb0, hb1, hbS⟩ | ⟨rfl, rfl, hno⟩
  · obtain ⟨j, rfl⟩ := Int.eq_ofNat_of_zero_le hb0
    have hnj := name_some j t hb1 Wa
    rw [hbS] at hnj
    have hne : (S.toList == (⟨#[]⟩ : ByteArray).toList) = false := by rw [eq_txt]; exact decide_eq_false (by rw [← hbS]; exact nameT_ne _ _)
    have hne2 : S ≠ ⟨#[]⟩ := by rw [← hbS]; exact nameT_ne _ _
    have hne3 : S.toList ≠ [] := by
      intro q
      apply hne2
      have := (eq_txt S ⟨#[]⟩).symm.trans (by rw [q])
      simpa using this
    have HJ := Lib.hid (And.intro hb0 (And.intro hb1 hbS))
    clear hb0 hb1 hbS
    go_wp2_with fail
    refine hnj.mono ?_
    rintro e Wb ⟨rfl, hbb⟩
    go_wp2
    go_ret
    refine ⟨by simp [hne3, hne2], ?_⟩
    exact (HB.out.trans (hba.mono HB.out.size)).trans (hbb.mono (Nat.le_trans HB.out.size hba.size))
  · have HNO := Lib.hid hno
    clear hno
    go_wp2_with fail
    refine (agent_any NT t _).mono ?_
    rintro e Wb ⟨c, is, rfl, hag2, hbb⟩
    rcases hag2 with ⟨rfl, hc0, hc1, hcS⟩ | ⟨rfl, rfl, hno2⟩
    · obtain rfl : c = a := nameT_inj hc0 hc1 HV.out.1 HV.out.2.1 (by rw [hcS]; exact HV.out.2.2.symm)
      have HQ := Lib.hid (And.intro hc0 (And.intro hc1 hcS))
      clear hc0 hc1 hcS
      go_wp2
      go_ret
      refine ⟨by simp, ?_⟩
      exact (HB.out.trans (hba.mono HB.out.size)).trans (hbb.mono (Nat.le_trans HB.out.size hba.size))
    · exact absurd HV.out.2.2 (hno2 a HV.out.1 HV.out.2.1)
set_option maxRecDepth 100000 in
set_option maxHeartbeats 4000000 in
theorem names_f_c (a t : Int) (s S : ByteArray) (w : World) (hs : 10 < s.size) (hS : s.extract 0 10 = S) (hv : 0 ≤ t ∧ t ≤ 4 ∧ 0 ≤ a ∧ a < 2 * t) (hf : t ≤ a) : Calls Tryd.prog 3 #[.int .i64 a, .int .i64 t, .string s] w (Trial w) := by
  have z0 : decide ((10 : Int) < (s.size : Int)) = true := decide_eq_true (by omega)
  have z1 : (10 : Int) ≤ (s.size : Int) := by omega
  obtain ⟨q1, q2, q3, q5⟩ := hv
  obtain ⟨n, rfl⟩ := Int.eq_ofNat_of_zero_le q3
  have hag : (n : Int) < agN t := by rw [agN_some q1 q2]; exact q5
  obtain ⟨a, ea⟩ : ∃ a : Int, (n : Int) = a := ⟨_, rfl⟩
  obtain ⟨NT, eN⟩ : ∃ NT, nameT (n : Int) t = NT := ⟨_, rfl⟩
  have hnm := fun W => name_some n t hag W
  rw [eN, ea] at hnm
  have HV : Hid (0 ≤ a ∧ a < agN t ∧ nameT a t = NT) := Lib.hid ⟨by omega, by rw [← ea]; exact hag, by rw [← ea]; exact eN⟩
  rw [ea] at q3 q5 hag hf eN ⊢
  have t1 : decide (0 ≤ t) = true := decide_eq_true q1
  have t2 : decide (t ≤ 4) = true := decide_eq_true q2
  have t3 : decide (0 ≤ a) = true := decide_eq_true q3
  have t4 : decide (a < 2 * t) = true := decide_eq_true q5
  have hw : IntKind.i64.wrap (2 * t) = 2 * t := by rw [IntKind.wrap_i64]; omega
  obtain ⟨r, hr⟩ : ∃ r : Nat, a.tmod 4 = r := ⟨(a.tmod 4).toNat, by rw [Int.tmod_eq_emod_of_nonneg q3]; omega⟩
  have hr4 : (r : Int) < 4 ∧ (r : Int) = a % 4 := by rw [← hr, Int.tmod_eq_emod_of_nonneg q3]; omega
  obtain ⟨y, hy⟩ : ∃ y : Nat, y = 48 + r := ⟨_, rfl⟩
  have h48 : (48 : Int) + (r : Int) = (y : Int) := by omega
  have hw8 : IntKind.i64.wrap ((48 : Int) + (r : Int)) = (y : Int) := by rw [IntKind.wrap_i64]; omega
  have hu8 : IntKind.u8.wrap (y : Int) = (y : Int) := by unfold IntKind.wrap IntKind.bits IntKind.signed; simp; omega
  have hcv := fun W => conv_one y (by omega) W
  obtain ⟨D, eD⟩ : ∃ D, txt [UInt8.ofNat y] = D := ⟨_, rfl⟩
  have hDz : D.size = 1 := by rw [← eD, txt_size]; rfl
  rw [eD] at hcv
  have t5 : decide (t ≤ a) = true := decide_eq_true (by omega)
  obtain ⟨D2, eD2⟩ : ∃ D2, (⟨#[116]⟩ : ByteArray) ++ D = D2 := ⟨_, rfl⟩
  have hwd : IntKind.i64.wrap (a - t) = a - t := by rw [IntKind.wrap_i64]; omega
  obtain ⟨r2, hr2⟩ : ∃ r2 : Nat, (a - t).tmod 4 = r2 := ⟨((a - t).tmod 4).toNat, by rw [Int.tmod_eq_emod_of_nonneg (by omega)]; omega⟩
  have hr24 : (r2 : Int) < 4 ∧ (r2 : Int) = (a - t) % 4 := by rw [← hr2, Int.tmod_eq_emod_of_nonneg (by omega)]; omega
  obtain ⟨y2, hy2⟩ : ∃ y2 : Nat, y2 = 48 + r2 := ⟨_, rfl⟩
  have h482 : (48 : Int) + (r2 : Int) = (y2 : Int) := by omega
  have hw82 : IntKind.i64.wrap ((48 : Int) + (r2 : Int)) = (y2 : Int) := by rw [IntKind.wrap_i64]; omega
  have hu82 : IntKind.u8.wrap (y2 : Int) = (y2 : Int) := by unfold IntKind.wrap IntKind.bits IntKind.signed; simp; omega
  have hcv2 := fun W => conv_one y2 (by omega) W
  obtain ⟨E, eE⟩ : ∃ E, txt [UInt8.ofNat y2] = E := ⟨_, rfl⟩
  have hEz : E.size = 1 := by rw [← eE, txt_size]; rfl
  rw [eE] at hcv2
  have hcv3 : ∀ (W : World) (o : Obj), (convert 23 9 (.slice (some ⟨W.heap.size + 1, 0, none⟩) 1 1)).run Tryd.prog ((W.alloc o).alloc (.cells #[.int .u8 (y2 : Int)] 5)) = .ok (.string E) ((W.alloc o).alloc (.cells #[.int .u8 (y2 : Int)] 5)) := fun W o => by
    have := hcv2 (W.alloc o)
    rw [size_alloc] at this
    exact this
  have hcat : (⟨#[102]⟩ : ByteArray) ++ E = NT := by
    have h1 := f_dig (r2 : Int)
    unfold digT at h1
    rw [← eN, ← eE, hy2]
    unfold nameT
    rw [if_neg (by omega)]
    have e0 : (a - t).toNat = r2 := by omega
    rw [e0]
    rw [Int.toNat_natCast] at h1
    exact h1
  have bR2 : (0 : Int) ≤ (r2 : Int) := by omega
  have bR3 : (r2 : Int) ≤ 3 := by omega
  have HR2 := Lib.hid (And.intro hr24 (And.intro hy2 eE))
  clear hr24 hy2 eE h482
  have nN2 : NT ≠ ⟨#[]⟩ := by rw [← eN]; exact nameT_ne _ _
  have nN1 : (NT.toList == (⟨#[]⟩ : ByteArray).toList) = false := by rw [eq_txt]; exact decide_eq_false nN2
  have nN3 : ¬ NT.toList = [] := by
    intro q
    apply nN2
    have := (eq_txt NT ⟨#[]⟩).symm.trans (by rw [q])
    simpa using this
  have bR0 : (0 : Int) ≤ (r : Int) := by omega
  have bR1 : (r : Int) ≤ 3 := by omega
  have HR := Lib.hid (And.intro hr4 (And.intro hy (And.intro eD eN)))
  clear hr4 hy eD eN h48 hag ea
  go_enter Tryd.func3, Tryd.ntmps3
  go_wp2_with fail
  refine (alive_any w).mono ?_
  rintro e w1 ⟨rfl, hb1⟩
  go_wp2_with fail
  refine (hnm _).mono ?_
  rintro e w2 ⟨rfl, hb2⟩
  have hbA : Below w.heap.size w (w1.alloc (.cells #[.int .u8 (y : Int)] 5)) := hb1.alloc hb1.size _
  have hbB := hbA.alloc hbA.size (.cells #[.int .u8 (y2 : Int)] 5)
  have HB : Hid (Below w.heap.size w w2) := Lib.hid (hbB.trans (hb2.mono (by simpa using hbB.size)))
  clear hbA hbB
  clear hb1 hb2
  go_wp2_with fail
  refine (agent_any S t _).mono ?_
  rintro e Wa ⟨b, ok, rfl, hag, hba⟩
  rcases hag with ⟨rfl, hb0, hb1, hbS⟩ | ⟨rfl, rfl, hno⟩
  · obtain ⟨j, rfl⟩ := Int.eq_ofNat_of_zero_le hb0
    have hnj := name_some j t hb1 Wa
    rw [hbS] at hnj
    have hne : (S.toList == (⟨#[]⟩ : ByteArray).toList) = false := by rw [eq_txt]; exact decide_eq_false (by rw [← hbS]; exact nameT_ne _ _)
    have hne2 : S ≠ ⟨#[]⟩ := by rw [← hbS]; exact nameT_ne _ _
    have hne3 : S.toList ≠ [] := by
      intro q
      apply hne2
      have := (eq_txt S ⟨#[]⟩).symm.trans (by rw [q])
      simpa using this
    have HJ := Lib.hid (And.intro hb0 (And.intro hb1 hbS))
    clear hb0 hb1 hbS
    go_wp2_with fail
    refine hnj.mono ?_
    rintro e Wb ⟨rfl, hbb⟩
    go_wp2
    go_ret
    refine ⟨by simp [hne3, hne2], ?_⟩
    exact (HB.out.trans (hba.mono HB.out.size)).trans (hbb.mono (Nat.le_trans HB.out.size hba.size))
  · have HNO := Lib.hid hno
    clear hno
    go_wp2_with fail
    refine (agent_any NT t _).mono ?_
    rintro e Wb ⟨c, is, rfl, hag2, hbb⟩
    rcases hag2 with ⟨rfl, hc0, hc1, hcS⟩ | ⟨rfl, rfl, hno2⟩
    · obtain rfl : c = a := nameT_inj hc0 hc1 HV.out.1 HV.out.2.1 (by rw [hcS]; exact HV.out.2.2.symm)
      have HQ := Lib.hid (And.intro hc0 (And.intro hc1 hcS))
      clear hc0 hc1 hcS
      go_wp2
      go_ret
      refine ⟨by simp, ?_⟩
      exact (HB.out.trans (hba.mono HB.out.size)).trans (hbb.mono (Nat.le_trans HB.out.size hba.size))
    · exact absurd HV.out.2.2 (hno2 a HV.out.1 HV.out.2.1)
set_option maxRecDepth 100000 in
set_option maxHeartbeats 4000000 in
theorem names_t_n (a t : Int) (s S : ByteArray) (w : World) (hs : s.size ≤ 10) (hS : s = S) (hv : 0 ≤ t ∧ t ≤ 4 ∧ 0 ≤ a ∧ a < 2 * t) (hf : a < t) : Calls Tryd.prog 3 #[.int .i64 a, .int .i64 t, .string s] w (Trial w) := by
  subst hS
  obtain ⟨S, hS⟩ : ∃ S, S = s := ⟨_, rfl⟩
  have z0 : decide ((10 : Int) < (s.size : Int)) = false := decide_eq_false (by omega)
  subst hS
  obtain ⟨q1, q2, q3, q5⟩ := hv
  obtain ⟨n, rfl⟩ := Int.eq_ofNat_of_zero_le q3
  have hag : (n : Int) < agN t := by rw [agN_some q1 q2]; exact q5
  obtain ⟨a, ea⟩ : ∃ a : Int, (n : Int) = a := ⟨_, rfl⟩
  obtain ⟨NT, eN⟩ : ∃ NT, nameT (n : Int) t = NT := ⟨_, rfl⟩
  have hnm := fun W => name_some n t hag W
  rw [eN, ea] at hnm
  have HV : Hid (0 ≤ a ∧ a < agN t ∧ nameT a t = NT) := Lib.hid ⟨by omega, by rw [← ea]; exact hag, by rw [← ea]; exact eN⟩
  rw [ea] at q3 q5 hag hf eN ⊢
  have t1 : decide (0 ≤ t) = true := decide_eq_true q1
  have t2 : decide (t ≤ 4) = true := decide_eq_true q2
  have t3 : decide (0 ≤ a) = true := decide_eq_true q3
  have t4 : decide (a < 2 * t) = true := decide_eq_true q5
  have hw : IntKind.i64.wrap (2 * t) = 2 * t := by rw [IntKind.wrap_i64]; omega
  obtain ⟨r, hr⟩ : ∃ r : Nat, a.tmod 4 = r := ⟨(a.tmod 4).toNat, by rw [Int.tmod_eq_emod_of_nonneg q3]; omega⟩
  have hr4 : (r : Int) < 4 ∧ (r : Int) = a % 4 := by rw [← hr, Int.tmod_eq_emod_of_nonneg q3]; omega
  obtain ⟨y, hy⟩ : ∃ y : Nat, y = 48 + r := ⟨_, rfl⟩
  have h48 : (48 : Int) + (r : Int) = (y : Int) := by omega
  have hw8 : IntKind.i64.wrap ((48 : Int) + (r : Int)) = (y : Int) := by rw [IntKind.wrap_i64]; omega
  have hu8 : IntKind.u8.wrap (y : Int) = (y : Int) := by unfold IntKind.wrap IntKind.bits IntKind.signed; simp; omega
  have hcv := fun W => conv_one y (by omega) W
  obtain ⟨D, eD⟩ : ∃ D, txt [UInt8.ofNat y] = D := ⟨_, rfl⟩
  have hDz : D.size = 1 := by rw [← eD, txt_size]; rfl
  rw [eD] at hcv
  have t5 : decide (t ≤ a) = false := decide_eq_false (by omega)
  have hcat : (⟨#[116]⟩ : ByteArray) ++ D = NT := by
    have h1 := t_dig (r : Int)
    unfold digT at h1
    rw [← eN, ← eD, hy]
    unfold nameT
    rw [if_pos hf]
    have e0 : a.toNat = r := by omega
    rw [e0]
    rw [Int.toNat_natCast] at h1
    exact h1
  have nN2 : NT ≠ ⟨#[]⟩ := by rw [← eN]; exact nameT_ne _ _
  have nN1 : (NT.toList == (⟨#[]⟩ : ByteArray).toList) = false := by rw [eq_txt]; exact decide_eq_false nN2
  have nN3 : ¬ NT.toList = [] := by
    intro q
    apply nN2
    have := (eq_txt NT ⟨#[]⟩).symm.trans (by rw [q])
    simpa using this
  have bR0 : (0 : Int) ≤ (r : Int) := by omega
  have bR1 : (r : Int) ≤ 3 := by omega
  have HR := Lib.hid (And.intro hr4 (And.intro hy (And.intro eD eN)))
  clear hr4 hy eD eN h48 hag ea
  go_enter Tryd.func3, Tryd.ntmps3
  go_wp2_with fail
  refine (alive_any w).mono ?_
  rintro e w1 ⟨rfl, hb1⟩
  go_wp2_with fail
  refine (hnm _).mono ?_
  rintro e w2 ⟨rfl, hb2⟩
  have HB : Hid (Below w.heap.size w w2) := Lib.hid ((hb1.trans ((Below.refl _ w1).alloc (Nat.le_refl _) _ |>.mono hb1.size)).trans (hb2.mono (by have := hb1.size; simp; omega)))
  clear hb1 hb2
  go_wp2_with fail
  refine (agent_any S t _).mono ?_
  rintro e Wa ⟨b, ok, rfl, hag, hba⟩
  rcases hag with ⟨rfl, hb0, hb1, hbS⟩ | ⟨rfl, rfl, hno⟩
  · obtain ⟨j, rfl⟩ := Int.eq_ofNat_of_zero_le hb0
    have hnj := name_some j t hb1 Wa
    rw [hbS] at hnj
    have hne : (S.toList == (⟨#[]⟩ : ByteArray).toList) = false := by rw [eq_txt]; exact decide_eq_false (by rw [← hbS]; exact nameT_ne _ _)
    have hne2 : S ≠ ⟨#[]⟩ := by rw [← hbS]; exact nameT_ne _ _
    have hne3 : S.toList ≠ [] := by
      intro q
      apply hne2
      have := (eq_txt S ⟨#[]⟩).symm.trans (by rw [q])
      simpa using this
    have HJ := Lib.hid (And.intro hb0 (And.intro hb1 hbS))
    clear hb0 hb1 hbS
    go_wp2_with fail
    refine hnj.mono ?_
    rintro e Wb ⟨rfl, hbb⟩
    go_wp2
    go_ret
    refine ⟨by simp [hne3, hne2], ?_⟩
    exact (HB.out.trans (hba.mono HB.out.size)).trans (hbb.mono (Nat.le_trans HB.out.size hba.size))
  · have HNO := Lib.hid hno
    clear hno
    go_wp2_with fail
    refine (agent_any NT t _).mono ?_
    rintro e Wb ⟨c, is, rfl, hag2, hbb⟩
    rcases hag2 with ⟨rfl, hc0, hc1, hcS⟩ | ⟨rfl, rfl, hno2⟩
    · obtain rfl : c = a := nameT_inj hc0 hc1 HV.out.1 HV.out.2.1 (by rw [hcS]; exact HV.out.2.2.symm)
      have HQ := Lib.hid (And.intro hc0 (And.intro hc1 hcS))
      clear hc0 hc1 hcS
      go_wp2
      go_ret
      refine ⟨by simp, ?_⟩
      exact (HB.out.trans (hba.mono HB.out.size)).trans (hbb.mono (Nat.le_trans HB.out.size hba.size))
    · exact absurd HV.out.2.2 (hno2 a HV.out.1 HV.out.2.1)
set_option maxRecDepth 100000 in
set_option maxHeartbeats 4000000 in
theorem names_f_n (a t : Int) (s S : ByteArray) (w : World) (hs : s.size ≤ 10) (hS : s = S) (hv : 0 ≤ t ∧ t ≤ 4 ∧ 0 ≤ a ∧ a < 2 * t) (hf : t ≤ a) : Calls Tryd.prog 3 #[.int .i64 a, .int .i64 t, .string s] w (Trial w) := by
  subst hS
  obtain ⟨S, hS⟩ : ∃ S, S = s := ⟨_, rfl⟩
  have z0 : decide ((10 : Int) < (s.size : Int)) = false := decide_eq_false (by omega)
  subst hS
  obtain ⟨q1, q2, q3, q5⟩ := hv
  obtain ⟨n, rfl⟩ := Int.eq_ofNat_of_zero_le q3
  have hag : (n : Int) < agN t := by rw [agN_some q1 q2]; exact q5
  obtain ⟨a, ea⟩ : ∃ a : Int, (n : Int) = a := ⟨_, rfl⟩
  obtain ⟨NT, eN⟩ : ∃ NT, nameT (n : Int) t = NT := ⟨_, rfl⟩
  have hnm := fun W => name_some n t hag W
  rw [eN, ea] at hnm
  have HV : Hid (0 ≤ a ∧ a < agN t ∧ nameT a t = NT) := Lib.hid ⟨by omega, by rw [← ea]; exact hag, by rw [← ea]; exact eN⟩
  rw [ea] at q3 q5 hag hf eN ⊢
  have t1 : decide (0 ≤ t) = true := decide_eq_true q1
  have t2 : decide (t ≤ 4) = true := decide_eq_true q2
  have t3 : decide (0 ≤ a) = true := decide_eq_true q3
  have t4 : decide (a < 2 * t) = true := decide_eq_true q5
  have hw : IntKind.i64.wrap (2 * t) = 2 * t := by rw [IntKind.wrap_i64]; omega
  obtain ⟨r, hr⟩ : ∃ r : Nat, a.tmod 4 = r := ⟨(a.tmod 4).toNat, by rw [Int.tmod_eq_emod_of_nonneg q3]; omega⟩
  have hr4 : (r : Int) < 4 ∧ (r : Int) = a % 4 := by rw [← hr, Int.tmod_eq_emod_of_nonneg q3]; omega
  obtain ⟨y, hy⟩ : ∃ y : Nat, y = 48 + r := ⟨_, rfl⟩
  have h48 : (48 : Int) + (r : Int) = (y : Int) := by omega
  have hw8 : IntKind.i64.wrap ((48 : Int) + (r : Int)) = (y : Int) := by rw [IntKind.wrap_i64]; omega
  have hu8 : IntKind.u8.wrap (y : Int) = (y : Int) := by unfold IntKind.wrap IntKind.bits IntKind.signed; simp; omega
  have hcv := fun W => conv_one y (by omega) W
  obtain ⟨D, eD⟩ : ∃ D, txt [UInt8.ofNat y] = D := ⟨_, rfl⟩
  have hDz : D.size = 1 := by rw [← eD, txt_size]; rfl
  rw [eD] at hcv
  have t5 : decide (t ≤ a) = true := decide_eq_true (by omega)
  obtain ⟨D2, eD2⟩ : ∃ D2, (⟨#[116]⟩ : ByteArray) ++ D = D2 := ⟨_, rfl⟩
  have hwd : IntKind.i64.wrap (a - t) = a - t := by rw [IntKind.wrap_i64]; omega
  obtain ⟨r2, hr2⟩ : ∃ r2 : Nat, (a - t).tmod 4 = r2 := ⟨((a - t).tmod 4).toNat, by rw [Int.tmod_eq_emod_of_nonneg (by omega)]; omega⟩
  have hr24 : (r2 : Int) < 4 ∧ (r2 : Int) = (a - t) % 4 := by rw [← hr2, Int.tmod_eq_emod_of_nonneg (by omega)]; omega
  obtain ⟨y2, hy2⟩ : ∃ y2 : Nat, y2 = 48 + r2 := ⟨_, rfl⟩
  have h482 : (48 : Int) + (r2 : Int) = (y2 : Int) := by omega
  have hw82 : IntKind.i64.wrap ((48 : Int) + (r2 : Int)) = (y2 : Int) := by rw [IntKind.wrap_i64]; omega
  have hu82 : IntKind.u8.wrap (y2 : Int) = (y2 : Int) := by unfold IntKind.wrap IntKind.bits IntKind.signed; simp; omega
  have hcv2 := fun W => conv_one y2 (by omega) W
  obtain ⟨E, eE⟩ : ∃ E, txt [UInt8.ofNat y2] = E := ⟨_, rfl⟩
  have hEz : E.size = 1 := by rw [← eE, txt_size]; rfl
  rw [eE] at hcv2
  have hcv3 : ∀ (W : World) (o : Obj), (convert 23 9 (.slice (some ⟨W.heap.size + 1, 0, none⟩) 1 1)).run Tryd.prog ((W.alloc o).alloc (.cells #[.int .u8 (y2 : Int)] 5)) = .ok (.string E) ((W.alloc o).alloc (.cells #[.int .u8 (y2 : Int)] 5)) := fun W o => by
    have := hcv2 (W.alloc o)
    rw [size_alloc] at this
    exact this
  have hcat : (⟨#[102]⟩ : ByteArray) ++ E = NT := by
    have h1 := f_dig (r2 : Int)
    unfold digT at h1
    rw [← eN, ← eE, hy2]
    unfold nameT
    rw [if_neg (by omega)]
    have e0 : (a - t).toNat = r2 := by omega
    rw [e0]
    rw [Int.toNat_natCast] at h1
    exact h1
  have bR2 : (0 : Int) ≤ (r2 : Int) := by omega
  have bR3 : (r2 : Int) ≤ 3 := by omega
  have HR2 := Lib.hid (And.intro hr24 (And.intro hy2 eE))
  clear hr24 hy2 eE h482
  have nN2 : NT ≠ ⟨#[]⟩ := by rw [← eN]; exact nameT_ne _ _
  have nN1 : (NT.toList == (⟨#[]⟩ : ByteArray).toList) = false := by rw [eq_txt]; exact decide_eq_false nN2
  have nN3 : ¬ NT.toList = [] := by
    intro q
    apply nN2
    have := (eq_txt NT ⟨#[]⟩).symm.trans (by rw [q])
    simpa using this
  have bR0 : (0 : Int) ≤ (r : Int) := by omega
  have bR1 : (r : Int) ≤ 3 := by omega
  have HR := Lib.hid (And.intro hr4 (And.intro hy (And.intro eD eN)))
  clear hr4 hy eD eN h48 hag ea
  go_enter Tryd.func3, Tryd.ntmps3
  go_wp2_with fail
  refine (alive_any w).mono ?_
  rintro e w1 ⟨rfl, hb1⟩
  go_wp2_with fail
  refine (hnm _).mono ?_
  rintro e w2 ⟨rfl, hb2⟩
  have hbA : Below w.heap.size w (w1.alloc (.cells #[.int .u8 (y : Int)] 5)) := hb1.alloc hb1.size _
  have hbB := hbA.alloc hbA.size (.cells #[.int .u8 (y2 : Int)] 5)
  have HB : Hid (Below w.heap.size w w2) := Lib.hid (hbB.trans (hb2.mono (by simpa using hbB.size)))
  clear hbA hbB
  clear hb1 hb2
  go_wp2_with fail
  refine (agent_any S t _).mono ?_
  rintro e Wa ⟨b, ok, rfl, hag, hba⟩
  rcases hag with ⟨rfl, hb0, hb1, hbS⟩ | ⟨rfl, rfl, hno⟩
  · obtain ⟨j, rfl⟩ := Int.eq_ofNat_of_zero_le hb0
    have hnj := name_some j t hb1 Wa
    rw [hbS] at hnj
    have hne : (S.toList == (⟨#[]⟩ : ByteArray).toList) = false := by rw [eq_txt]; exact decide_eq_false (by rw [← hbS]; exact nameT_ne _ _)
    have hne2 : S ≠ ⟨#[]⟩ := by rw [← hbS]; exact nameT_ne _ _
    have hne3 : S.toList ≠ [] := by
      intro q
      apply hne2
      have := (eq_txt S ⟨#[]⟩).symm.trans (by rw [q])
      simpa using this
    have HJ := Lib.hid (And.intro hb0 (And.intro hb1 hbS))
    clear hb0 hb1 hbS
    go_wp2_with fail
    refine hnj.mono ?_
    rintro e Wb ⟨rfl, hbb⟩
    go_wp2
    go_ret
    refine ⟨by simp [hne3, hne2], ?_⟩
    exact (HB.out.trans (hba.mono HB.out.size)).trans (hbb.mono (Nat.le_trans HB.out.size hba.size))
  · have HNO := Lib.hid hno
    clear hno
    go_wp2_with fail
    refine (agent_any NT t _).mono ?_
    rintro e Wb ⟨c, is, rfl, hag2, hbb⟩
    rcases hag2 with ⟨rfl, hc0, hc1, hcS⟩ | ⟨rfl, rfl, hno2⟩
    · obtain rfl : c = a := nameT_inj hc0 hc1 HV.out.1 HV.out.2.1 (by rw [hcS]; exact HV.out.2.2.symm)
      have HQ := Lib.hid (And.intro hc0 (And.intro hc1 hcS))
      clear hc0 hc1 hcS
      go_wp2
      go_ret
      refine ⟨by simp, ?_⟩
      exact (HB.out.trans (hba.mono HB.out.size)).trans (hbb.mono (Nat.le_trans HB.out.size hba.size))
    · exact absurd HV.out.2.2 (hno2 a HV.out.1 HV.out.2.1)
end Go.Proofs.YtcgoaallfhompaaDoor
