/- Texts of octets held against each other; the laws' small trial. Conditions: none. -/
import Derived.Test.YtfmkmmmaoiepmaaHash
import Derived.Test.YtfmkmmmaoiepmaaState
import Derived.Test.YtfmkmmmaoiepmaaFew
namespace Go.Proofs.Ytfmkmmmaoiepmaa
set_option linter.unusedSimpArgs false
set_option linter.unusedVariables false
open Go.RowKit Go.ChangeShapes Go.WideShapes

theorem eq_txt (x y : ByteArray) : (x.toList == y.toList) = decide (x = y) := by
  rw [ByteArray.toList_eq, ByteArray.toList_eq, Bool.eq_iff_iff, beq_iff_eq, decide_eq_true_iff]
  refine ⟨fun h => ByteArray.ext (Array.ext' h), fun h => by rw [h]⟩
theorem u8_inj {a b : Int} (ha : 0 ≤ a ∧ a ≤ 255) (hb : 0 ≤ b ∧ b ≤ 255) (h : UInt8.ofNat a.toNat = UInt8.ofNat b.toNat) : a = b := by
  have h1 := congrArg UInt8.toNat h
  simp only [UInt8.toNat_ofNat'] at h1
  omega
theorem str_inj : ∀ {xs ys : List Int}, Small xs → Small ys → (xs.map fun n => UInt8.ofNat n.toNat) = (ys.map fun n => UInt8.ofNat n.toNat) → xs = ys
  | [], [], _, _, _ => rfl
  | [], _ :: _, _, _, h => by simp at h
  | _ :: _, [], _, _, h => by simp at h
  | x :: xs, y :: ys, hx, hy, h => by
    simp only [List.map_cons, List.cons.injEq] at h
    rw [u8_inj (hx x (by simp)) (hy y (by simp)) h.1, str_inj (fun z hz => hx z (by simp [hz])) (fun z hz => hy z (by simp [hz])) h.2]
theorem txt_inj {xs ys : List Int} (hx : Small xs) (hy : Small ys) (h : strOfNums xs = strOfNums ys) : xs = ys := by
  refine str_inj hx hy ?_
  have := congrArg (fun b : ByteArray => b.data.toList) h
  simpa [strOfNums] using this
/-- The texts of two lists of numbers are the same just if those are. -/
theorem txt_octs {a b : List Int} (ha : ∀ x ∈ a, Wide x) (hb : ∀ x ∈ b, Wide x) : strOfNums (octs a) = strOfNums (octs b) ↔ a = b :=
  ⟨fun h => octs_inj ha hb (txt_inj (octs_small _) (octs_small _) h), fun h => by rw [h]⟩
def stA (e : Int) : St := ⟨noS, noS, noS, noS, noS, noS, e, noS, noS⟩
def scA (e : Int) : Sc := ⟨[], [], [], [], [], [], e, [], []⟩
theorem sees_no (w : World) (k : Nat) : Sees w k none 0 0 [] := ⟨by simp, Nat.le_refl _, Nat.zero_le _, fun _ => rfl, fun ad e => (by cases e)⟩
theorem stat_no (w : World) (e : Int) : Stat w (stA e) (scA e) [] :=
  ⟨⟨sees_no w 22, fun _ h => by cases h⟩, ⟨sees_no w 1, fun _ h => by cases h⟩, rfl, ⟨sees_no w 3, sees_no w 3, sees_no w 10, sees_no w 1, rfl, sees_no w 1, sees_no w 1⟩⟩
theorem fits_no (e : Int) : Fits (scA e) [] := ⟨by simp [scA], fun _ h => (by cases h), by simp, fun _ h => (by cases h), by simp [scA], by simp [scA], by simp [scA], by simp [scA], by simp [scA], by simp [scA]⟩
theorem scA_ns (e : Int) : (scA e).ns = [0, 0, 0, 0, 0, 0, e, 0, 0] := rfl
theorem scA_len (e : Int) : (octs (scA e).ns).length = 72 := by rw [octs_len, scA_ns]; rfl
theorem wide_A {e : Int} (he : Wide e) : ∀ x ∈ (scA e).ns, Wide x := by
  rw [scA_ns]
  intro x hx
  simp only [List.mem_cons, List.not_mem_nil, or_false] at hx
  rcases hx with rfl | rfl | rfl | rfl | rfl | rfl | rfl | rfl | rfl <;> first | exact he | (unfold Wide; omega)
theorem txtA : strOfNums (octs (scA 1).ns) ≠ strOfNums (octs (scA 0).ns) := fun h => by
  have := (txt_octs (wide_A (by unfold Wide; omega)) (wide_A (by unfold Wide; omega))).1 h
  rw [scA_ns, scA_ns] at this
  simp at this
set_option maxRecDepth 100000 in
set_option maxHeartbeats 4000000 in
theorem alive_any (w : World) : Calls Try.prog 6 #[] w fun e w' => e = .returned (.bool true) ∧ Below w.heap.size w w' := by
  obtain ⟨T1, e1⟩ : ∃ T, strOfNums (octs (scA 1).ns) = T := ⟨_, rfl⟩
  obtain ⟨T0, e0⟩ : ∃ T, strOfNums (octs (scA 0).ns) = T := ⟨_, rfl⟩
  have hne := txtA
  rw [e1, e0] at hne
  have t1 : (T1.toList == T0.toList) = false := by rw [eq_txt]; exact decide_eq_false hne
  have E1 := Lib.hid e1
  have E0 := Lib.hid e0
  clear hne e1 e0
  go_enter Try.func6, Try.ntmps6
  go_wp2_with fail
  refine (show Calls Try.prog 14 #[(.agg #[.slice none 0 0, .slice none 0 0, .slice none 0 0, .slice none 0 0, .slice none 0 0, .slice none 0 0, .int .i64 1, .slice none 0 0, .slice none 0 0])] w _ from (cput_any (stA 1) (scA 1) [] w (stat_no w 1) (fits_no 1))).mono ?_
  rintro e W1 ⟨A1, n1, c1, rfl, o1, k1⟩
  go_wp2_with fail
  refine (show Calls Try.prog 14 #[(.agg #[.slice none 0 0, .slice none 0 0, .slice none 0 0, .slice none 0 0, .slice none 0 0, .slice none 0 0, .int .i64 0, .slice none 0 0, .slice none 0 0])] W1 _ from (cput_any (stA 0) (scA 0) [] W1 (stat_no W1 0) (fits_no 0))).mono ?_
  rintro e W2 ⟨A2, n2, c2, rfl, o2, k2⟩
  replace o1 := o1.on k2
  have l1 := o1.len
  have l2 := o2.len
  rw [scA_len] at l1 l2
  subst l1 l2
  have x1 := o1.text (P := Try.prog) 32 9 5 Try.underlying32 Try.underlying5 Try.underlying9
  have x2 := o2.text (P := Try.prog) 32 9 5 Try.underlying32 Try.underlying5 Try.underlying9
  rw [E1.out] at x1
  rw [E0.out] at x2
  have kk := k1.trans (k2.mono k1.size)
  clear k1 k2
  go_wp2_with fail
  refine (show Calls Try.prog 16 #[(.agg #[.slice none 0 0, .slice none 0 0, .slice none 0 0, .slice none 0 0, .slice none 0 0, .slice none 0 0, .int .i64 0, .slice none 0 0, .slice none 0 0])] W2 _ from (chash_any (stA 0) (scA 0) [] W2 (stat_no W2 0) (fits_no 0))).mono ?_
  rintro e W3 ⟨rfl, k3⟩
  replace kk := kk.trans (k3.mono kk.size)
  go_wp2_with fail
  refine (show Calls Try.prog 12 #[(.agg #[.slice none 0 0, .slice none 0 0, .slice none 0 0, .slice none 0 0, .slice none 0 0, .slice none 0 0, .int .i64 0, .slice none 0 0, .slice none 0 0])] W3 _ from (cshared_any (stA 0) (scA 0) [] W3 (stat_no W3 0).sh (fits_no 0))).mono ?_
  rintro e W4 ⟨A4, n4, c4, rfl, o4, k4⟩
  replace kk := kk.trans (k4.mono kk.size)
  go_wp2_with fail
  refine (part_any 128 _ _ _ _ W4 _ o4).mono ?_
  rintro e w' ⟨rfl, rfl⟩
  have t2 : (hB (scA 0) [] ([] : List Bu).length == partZ 128 (octs (scA 0).sh)) = true := by rw [beq_iff_eq]; rfl
  go_wp2
  go_ret
  exact ⟨rfl, kk⟩
end Go.Proofs.Ytfmkmmmaoiepmaa
