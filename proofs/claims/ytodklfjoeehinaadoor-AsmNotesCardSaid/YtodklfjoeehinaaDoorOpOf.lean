/- The instruction whose name a text is, or none: what op's Op and the reference's Op answer. Conditions: the variables lie as they are laid, for op's. -/
import Derived.Test.YtodklfjoeehinaaDoorLine
namespace Go.Proofs.YtodklfjoeehinaaDoor
open Go.RowKit Nine

/-! ### the instruction of a name -/
theorem names_apart {i j : Nat} (hi : 1 ≤ i) (hi2 : i ≤ 25) (hj : 1 ≤ j) (hj2 : j ≤ 25) (h : nameAt i = nameAt j) : i = j :=
  (by decide +kernel : ∀ i, i < 26 → ∀ j, j < 26 → 1 ≤ i → 1 ≤ j → nameAt i = nameAt j → i = j) i (by omega) j (by omega) hi hj h
def opOf (l : List UInt8) : Nat := ((List.range' 1 25).find? fun k => nameAt k == l).getD 0
theorem opOf_some {k : Nat} (h1 : 1 ≤ k) (h2 : k ≤ 25) : opOf (nameAt k) = k := by
  unfold opOf
  cases h : (List.range' 1 25).find? fun j => nameAt j == nameAt k with
  | none =>
    have := List.find?_eq_none.1 h k (List.mem_range'_1.2 ⟨by omega, by omega⟩)
    simp at this
  | some j =>
    have h3 := List.find?_some h
    have h4 := List.mem_range'_1.1 (List.mem_of_find?_eq_some h)
    have h5 := names_apart (i := j) (j := k) (by omega) (by omega) h1 h2 (by simpa using h3)
    simp [h5]
theorem opOf_none {l : List UInt8} (h : ∀ j, 1 ≤ j → j ≤ 25 → nameAt j ≠ l) : opOf l = 0 := by
  unfold opOf
  cases h' : (List.range' 1 25).find? fun j => nameAt j == l with
  | none => rfl
  | some j =>
    have h3 := List.find?_some h'
    have h4 := List.mem_range'_1.1 (List.mem_of_find?_eq_some h')
    exact absurd (by simpa using h3) (h j (by omega) (by omega))
theorem opOf_cases (l : List UInt8) : (1 ≤ opOf l ∧ opOf l ≤ 25 ∧ nameAt (opOf l) = l) ∨ opOf l = 0 := by
  unfold opOf
  cases h' : (List.range' 1 25).find? fun j => nameAt j == l with
  | none => exact .inr rfl
  | some j =>
    have h3 := List.find?_some h'
    have h4 := List.mem_range'_1.1 (List.mem_of_find?_eq_some h')
    exact .inl ⟨by simp; omega, by simp; omega, by simpa using h3⟩
theorem op_any (s : ByteArray) (w : World) (hL : Laid w) : Calls Tryd.prog 31 #[.string s] w fun e w' => e = .returned (.int .i64 (opOf (oct s) : Nat)) ∧ Below w.heap.size w w' := by
  go_enter Tryd.func31, Tryd.ntmps31
  go_wp2
  go_loop [3] (fun i => ∃ k : Nat, 1 ≤ k ∧ k ≤ 26 ∧ i = .int .i64 k ∧ ∀ j, 1 ≤ j → j < k → nameAt j ≠ oct s) (fun i => 26 - (intOf i).toNat)
  case atStart => exact ⟨1, Nat.le_refl _, by decide, rfl, fun j h1 h2 => by omega⟩
  case round =>
    obtain ⟨k, hk1, hk2, rfl, hno⟩ := hrel
    by_cases hlt : k ≤ 25
    · have t0 : decide ((k : Int) ≤ 25) = true := decide_eq_true (by omega)
      have c0 := hL.name k (by omega)
      by_cases he : nameAt k = oct s
      · have t1 : decide (txt (nameAt k) = s) = true := decide_eq_true (by rw [he, txt_oct])
        rw [← eq_txt] at t1
        have hop : opOf (oct s) = k := by rw [← he]; exact opOf_some hk1 hlt
        have HO := Lib.hid hop
        clear hop he hno
        go_wp2
        go_ret
        exact ⟨by rw [HO.out]; rfl, Below.refl _ _⟩
      · have t1 : decide (txt (nameAt k) = s) = false := decide_eq_false (fun e => he (by rw [← e, oct_txt]))
        rw [← eq_txt] at t1
        have HN := Lib.hid hno
        have HE := Lib.hid he
        clear hno he
        go_wp2
        go_round
        case rel => exact ⟨k + 1, by omega, by omega, by go_num, fun j h1 h2 => by
          by_cases e : j = k
          · subst e; exact HE.out
          · exact HN.out j h1 (by omega)⟩
        case measure => simp [intOf]; omega
    · have t0 : decide ((k : Int) ≤ 25) = false := decide_eq_false (by omega)
      have hop : opOf (oct s) = 0 := opOf_none (fun j h1 h2 => hno j h1 (by omega))
      have HO := Lib.hid hop
      clear hop hno
      go_wp2
      go_ret
      exact ⟨by rw [HO.out]; rfl, Below.refl _ _⟩
set_option maxRecDepth 100000 in
theorem refop_any (s : ByteArray) (w : World) : Calls Tryd.prog 19 #[.string s] w fun e w' => e = .returned (.int .i64 (opOf (oct s) : Nat)) ∧ Below w.heap.size w w' := by
  go_enter Tryd.func19, Tryd.ntmps19
  go_wp2_with fail
  refine (page_row w).mono ?_
  rintro e w1 ⟨ad, cap, rfl, hc1, hc2, hcell, hb⟩
  have HC := Lib.hid hcell
  clear hcell
  go_wp2
  go_loop [4] (fun i => ∃ k : Nat, k ≤ 25 ∧ i = .int .i64 k ∧ ∀ j, 1 ≤ j → j ≤ k → nameAt j ≠ oct s) (fun i => 25 - (intOf i).toNat)
  case atStart => exact ⟨0, by decide, rfl, fun j h1 h2 => by omega⟩
  case round =>
    obtain ⟨k, hk, rfl, hno⟩ := hrel
    by_cases hlt : k < 25
    · have t0 : decide ((k : Int) < 25) = true := decide_eq_true (by omega)
      have hz := HC.out (2 * k) (by omega)
      have hp := page_name (k + 1) (by omega) (by omega)
      have ek : 2 * (k + 1) - 2 = 2 * k := by omega
      rw [ek] at hp
      rw [hp] at hz
      obtain ⟨j, hj⟩ : ∃ j, 2 * k = j := ⟨_, rfl⟩
      rw [hj] at hz
      have j0 : j < 50 := by omega
      have e1 : 2 * (k : Int) = j := by omega
      clear hp ek hj
      by_cases he : nameAt (k + 1) = oct s
      · have t1 : decide (txt (nameAt (k + 1)) = s) = true := decide_eq_true (by rw [he, txt_oct])
        rw [← eq_txt] at t1
        have hop : opOf (oct s) = k + 1 := by rw [← he]; exact opOf_some (by omega) (by omega)
        have HO := Lib.hid hop
        clear hop he hno
        go_wp2
        go_ret
        exact ⟨by rw [HO.out]; rfl, hb⟩
      · have t1 : decide (txt (nameAt (k + 1)) = s) = false := decide_eq_false (fun e => he (by rw [← e, oct_txt]))
        rw [← eq_txt] at t1
        have HN := Lib.hid hno
        have HE := Lib.hid he
        clear hno he
        go_wp2
        go_round
        case rel => exact ⟨k + 1, by omega, by go_num, fun j h1 h2 => by
          by_cases e : j = k + 1
          · subst e; exact HE.out
          · exact HN.out j h1 (by omega)⟩
        case measure => simp [intOf]; omega
    · have t0 : decide ((k : Int) < 25) = false := decide_eq_false (by omega)
      have hop : opOf (oct s) = 0 := opOf_none (fun j h1 h2 => hno j h1 (by omega))
      have HO := Lib.hid hop
      clear hop hno
      go_wp2
      go_ret
      exact ⟨by rw [HO.out]; rfl, hb⟩
end Go.Proofs.YtodklfjoeehinaaDoor
