/- What the plain calls of package set answer: the bit of a number, Has, With, Without, Count. Conditions: the numbers are of their kinds. -/
import Derived.Test.YteonjolmnbbhfaaDoorChecked
import Derived.Test.YteonjolmnbbhfaaDoorOnes
import Derived.WalkKit
import Derived.WalkSpells
import Derived.Laws.BitsAllLaws
import Derived.Laws.Bits64b
import Derived.Laws.Bits128
import Derived.Lib.Hide
namespace Go.Proofs.YteonjolmnbbhfaaDoor
open Go.RowKit

def inB (i : Int) : Bool := decide (0 ≤ i ∧ i ≤ 63)
theorem in_any (i : Int) (w : World) : Calls Tryd.prog 19 #[.int .i64 i, .int .i64 0, .int .i64 63] w fun e w' => e = .returned (.bool (inB i)) ∧ w = w' := by
  by_cases h1 : 0 ≤ i
  · by_cases h2 : i ≤ 63
    · have e : inB i = true := by simp [inB, h1, h2]
      rw [e]
      go_enter Tryd.func19, Tryd.ntmps19
      go_wp2
      go_ret
      exact ⟨rfl, rfl⟩
    · have e : inB i = false := by simp [inB, h2]
      rw [e]
      have h3 : 63 < i := by omega
      clear h2
      go_enter Tryd.func19, Tryd.ntmps19
      have h4 : decide (i ≤ 63) = false := by simp; omega
      go_wp2
      go_ret
      exact ⟨rfl, rfl⟩
  · have e : inB i = false := by simp [inB, h1]
    rw [e]
    have h3 : decide (0 ≤ i) = false := by simp; omega
    clear h1
    go_enter Tryd.func19, Tryd.ntmps19
    go_wp2
    go_ret
    exact ⟨rfl, rfl⟩
theorem bit_any (i : Int) (w : World) : Calls Tryd.prog 16 #[.int .i64 i] w fun e w' => e = .returned (.int .u64 (bitN i : Int)) ∧ w = w' := by
  by_cases h : 0 ≤ i ∧ i ≤ 63
  · have e : inB i = true := by simp [inB, h]
    obtain ⟨k, rfl⟩ := Int.eq_ofNat_of_zero_le h.1
    have hk : k < 64 := by omega
    have HB := Lib.hid (bit_in k hk)
    clear h
    go_enter Tryd.func16, Tryd.ntmps16
    go_wp2_with (first
      | (go_at_call 19; refine (in_any _ _).mono ?_; rintro e w' ⟨rfl, rfl⟩))
    go_ret
    refine ⟨?_, rfl⟩
    have hp : 2 ^ k < 2 ^ 64 := Nat.pow_lt_pow_right (by decide) hk
    have e2 : IntKind.u64.wrap ((2 : Int) ^ k) = ((2 ^ k : Nat) : Int) := by
      have e3 : ((2 : Int) ^ k) = ((2 ^ k : Nat) : Int) := by simp
      rw [e3, IntKind.wrap_u64]
      generalize 2 ^ k = p at *
      omega
    rw [HB.out]
    exact congrArg (fun n => Ending.returned (Value.int IntKind.u64 n)) e2
  · have e : inB i = false := by simp [inB, h]
    have HB := Lib.hid (bit_out i h)
    clear h
    go_enter Tryd.func16, Tryd.ntmps16
    go_wp2_with (first
      | (go_at_call 19; refine (in_any _ _).mono ?_; rintro e w' ⟨rfl, rfl⟩))
    go_ret
    exact ⟨by rw [HB.out]; rfl, rfl⟩
theorem has_any (s : Nat) (i : Int) (hs : s < 18446744073709551616) (w : World) : Calls Tryd.prog 8 #[.int .u64 (s : Int), .int .i64 i] w fun e w' => e = .returned (.bool (hasN s i)) ∧ w = w' := by
  have hb := bit_le i
  have HK := Lib.hid (bits_and_u64_nat s (bitN i) hs hb)
  go_enter Tryd.func8, Tryd.ntmps8
  go_wp2_with (first
    | (go_at_call 16; refine (bit_any _ _).mono ?_; rintro e w' ⟨rfl, rfl⟩))
  go_ret
  refine ⟨?_, rfl⟩
  have e : (bits BinOp.and IntKind.u64 (s : Int) (bitN i : Int) != 0) = hasN s i := by
    rw [HK.out]
    unfold hasN
    generalize s &&& bitN i = x
    rw [Bool.eq_iff_iff]
    simp
  exact congrArg (fun b => Ending.returned (Value.bool b)) e
theorem with_any (s : Nat) (i : Int) (hs : s < 18446744073709551616) (w : World) : Calls Tryd.prog 12 #[.int .u64 (s : Int), .int .i64 i] w fun e w' => e = .returned (.int .u64 (withN s i : Int)) ∧ w = w' := by
  have hb := bit_le i
  have HK := Lib.hid (bits_or_u64_nat s (bitN i) hs hb)
  go_enter Tryd.func12, Tryd.ntmps12
  go_wp2_with (first
    | (go_at_call 16; refine (bit_any _ _).mono ?_; rintro e w' ⟨rfl, rfl⟩))
  go_ret
  exact ⟨congrArg (fun n => Ending.returned (Value.int IntKind.u64 n)) HK.out, rfl⟩
theorem less_any (s : Nat) (i : Int) (hs : s < 18446744073709551616) (w : World) : Calls Tryd.prog 13 #[.int .u64 (s : Int), .int .i64 i] w fun e w' => e = .returned (.int .u64 (lessN s i : Int)) ∧ w = w' := by
  have hb := bit_le i
  have HK := Lib.hid (u64_andNot_nat s (bitN i) hs hb)
  go_enter Tryd.func13, Tryd.ntmps13
  go_wp2_with (first
    | (go_at_call 16; refine (bit_any _ _).mono ?_; rintro e w' ⟨rfl, rfl⟩))
  go_ret
  exact ⟨congrArg (fun n => Ending.returned (Value.int IntKind.u64 n)) HK.out, rfl⟩

theorem ones_core (s y1 y2 y3 y4 y5 y6 n : Nat) (w : World)
    (k1 : IntKind.u64.wrap (bits .and .u64 ((s : Int) / 2) 6148914691236517205 + bits .and .u64 (s : Int) 6148914691236517205) = (y1 : Int))
    (k2 : IntKind.u64.wrap (bits .and .u64 ((y1 : Int) / 4) 3689348814741910323 + bits .and .u64 (y1 : Int) 3689348814741910323) = (y2 : Int))
    (k3 : bits .and .u64 (IntKind.u64.wrap ((y2 : Int) / 16 + (y2 : Int))) 1085102592571150095 = (y3 : Int))
    (k4 : IntKind.u64.wrap ((y3 : Int) + (y3 : Int) / 256) = (y4 : Int))
    (k5 : IntKind.u64.wrap ((y4 : Int) + (y4 : Int) / 65536) = (y5 : Int))
    (k6 : IntKind.u64.wrap ((y5 : Int) + (y5 : Int) / 4294967296) = (y6 : Int))
    (k7 : bits .and .i64 (wrap64 (y6 : Int)) 127 = (n : Int)) :
    Calls Tryd.prog 18 #[.int .u64 (s : Int)] w fun e w' => e = .returned (.int .i64 (n : Int)) ∧ w = w' := by
  go_enter Tryd.func18, Tryd.ntmps18
  go_wp2
  go_ret
  exact ⟨rfl, rfl⟩
theorem and_lit (a m : Nat) (M : Int) (ha : a < 18446744073709551616) (hm : m < 18446744073709551616) (hM : (m : Int) = M) : bits .and .u64 (a : Int) M = ((a &&& m : Nat) : Int) := by
  subst hM
  exact bits_and_u64_nat a m ha hm
theorem sum_half (y d : Nat) (D : Int) (hy : y < 9223372036854775808) (hD : (d : Int) = D) : IntKind.u64.wrap ((y : Int) / D + (y : Int)) = ((y / d + y : Nat) : Int) := by
  subst hD
  have h3 : y / d ≤ y := Nat.div_le_self _ _
  have e1 : (y : Int) / (d : Int) = ((y / d : Nat) : Int) := by simp
  rw [e1, IntKind.wrap_u64]
  clear e1
  generalize y / d = q at *
  omega
theorem last_seven (y n : Nat) (h : y % 128 = n) : bits .and .i64 (wrap64 (y : Int)) 127 = (n : Int) := by
  rw [i64_and127]
  unfold wrap64
  omega
theorem and_half (a m d : Nat) (M D : Int) (ha : a < 18446744073709551616) (hm : m < 9223372036854775808) (hM : (m : Int) = M) (hD : (d : Int) = D) :
    (∃ y : Nat, y = (a / d &&& m) + (a &&& m) ∧ IntKind.u64.wrap (bits .and .u64 ((a : Int) / D) M + bits .and .u64 (a : Int) M) = (y : Int)) := by
  subst hM
  subst hD
  refine ⟨_, rfl, ?_⟩
  have h1 : a / d &&& m ≤ m := Nat.and_le_right
  have h2 : a &&& m ≤ m := Nat.and_le_right
  have h3 : a / d ≤ a := Nat.div_le_self _ _
  have e1 : (a : Int) / (d : Int) = ((a / d : Nat) : Int) := by simp
  rw [e1, bits_and_u64_nat _ _ (by omega) (by omega), bits_and_u64_nat _ _ ha (by omega), IntKind.wrap_u64]
  omega
theorem ones_any (s : Nat) (hs : s < 18446744073709551616) (w : World) :
    Calls Tryd.prog 18 #[.int .u64 (s : Int)] w fun e w' => e = .returned (.int .i64 ((mem s).length : Int)) ∧ w = w' := by
  obtain ⟨y1, e1, k1⟩ := and_half s 6148914691236517205 2 6148914691236517205 2 hs (by decide) (by omega) (by omega)
  have b1 : y1 < 18446744073709551616 := by
    have h1 : s / 2 &&& 6148914691236517205 ≤ 6148914691236517205 := Nat.and_le_right
    have h2 : s &&& 6148914691236517205 ≤ 6148914691236517205 := Nat.and_le_right
    omega
  obtain ⟨y2, e2, k2⟩ := and_half y1 3689348814741910323 4 3689348814741910323 4 b1 (by decide) (by omega) (by omega)
  have b2 : y2 ≤ 7378697629483820646 := by
    have h1 : y1 / 4 &&& 3689348814741910323 ≤ 3689348814741910323 := Nat.and_le_right
    have h2 : y1 &&& 3689348814741910323 ≤ 3689348814741910323 := Nat.and_le_right
    omega
  obtain ⟨y3, e3⟩ : ∃ y3, y3 = (y2 / 16 + y2) &&& 1085102592571150095 := ⟨_, rfl⟩
  obtain ⟨y4, e4⟩ : ∃ y4, y4 = y3 + y3 / 256 := ⟨_, rfl⟩
  obtain ⟨y5, e5⟩ : ∃ y5, y5 = y4 + y4 / 65536 := ⟨_, rfl⟩
  obtain ⟨y6, e6⟩ : ∃ y6, y6 = y5 + y5 / 4294967296 := ⟨_, rfl⟩
  have h := ones s y1 y2 y3 y4 y5 y6 e1 e2 e3 e4 e5 e6
  have b3 := h.1
  simp only [Nat.reducePow] at b3
  have b4 : y4 < 2305843009213693952 := by
    clear e1 e2 e3 k1 k2 h
    omega
  have b5 : y5 < 4611686018427387904 := by
    clear e1 e2 e3 e4 k1 k2 h
    omega
  obtain ⟨_, h6⟩ := h
  clear e1 e2
  refine ones_core s y1 y2 y3 y4 y5 y6 (mem s).length w k1 k2 ?_ ?_ ?_ ?_ ?_
  · rw [sum_half y2 16 16 (Nat.lt_of_le_of_lt b2 (by decide)) (by omega), e3]
    exact and_lit _ 1085102592571150095 1085102592571150095 (by omega) (by decide) (by omega)
  · rw [Int.add_comm, sum_half y3 256 256 (Nat.lt_trans b3 (by decide)) (by omega), e4, Nat.add_comm]
  · rw [Int.add_comm, sum_half y4 65536 65536 (Nat.lt_trans b4 (by decide)) (by omega), e5, Nat.add_comm]
  · rw [Int.add_comm, sum_half y5 4294967296 4294967296 (Nat.lt_trans b5 (by decide)) (by omega), e6, Nat.add_comm]
  · exact last_seven y6 _ h6
theorem count_any (s : Nat) (hs : s < 18446744073709551616) (w : World) :
    Calls Tryd.prog 11 #[.int .u64 (s : Int)] w fun e w' => e = .returned (.int .i64 ((mem s).length : Int)) ∧ w = w' := by
  go_enter Tryd.func11, Tryd.ntmps11
  go_wp2_with (first
    | (go_at_call 18; refine (ones_any _ hs _).mono ?_; rintro e w' ⟨rfl, rfl⟩))
  go_ret
  exact ⟨rfl, rfl⟩
end Go.Proofs.YteonjolmnbbhfaaDoor
