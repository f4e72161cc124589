/- With and without any number any set has just the others as it had them: the walk. Conditions: the table of math/bits lies as it is laid. -/
import Derived.Test.YteonjolmnbbhfaaDoorAlive
namespace Go.Proofs.YteonjolmnbbhfaaDoor
open Go.RowKit

theorem lin_any (i : Int) (w : World) : Calls Tryd.prog 14 #[.int .i64 i] w fun e w' => e = .returned (.bool (inB i)) ∧ w = w' := by
  by_cases h1 : 0 ≤ i
  · by_cases h2 : i < 64
    · have e : inB i = true := by simp [inB, h1]; omega
      rw [e]
      go_enter Tryd.func14, Tryd.ntmps14
      go_wp2
      go_ret
      exact ⟨rfl, rfl⟩
    · have e : inB i = false := by simp [inB]; omega
      rw [e]
      have h4 : decide (i < 64) = false := by simp; omega
      clear h2
      go_enter Tryd.func14, Tryd.ntmps14
      go_wp2
      go_ret
      exact ⟨rfl, rfl⟩
  · have e : inB i = false := by simp [inB, h1]
    rw [e]
    have h3 : decide (0 ≤ i) = false := by simp; omega
    clear h1
    go_enter Tryd.func14, Tryd.ntmps14
    go_wp2
    go_ret
    exact ⟨rfl, rfl⟩

/-- What holds of a set with and without a number. -/
structure Turned (s a b : Nat) (i k : Int) : Prop where
  out : inB i = false → a = s ∧ b = s ∧ hasN s i = false
  one : inB i = true → hasN a i = true ∧ hasN b i = false
  rest : inB i = true → i ≠ k → hasN a k = hasN s k ∧ hasN b k = hasN s k
  back : inB i = true → lessN a i = b ∧ withN b i = a
theorem turned (s : Nat) (i k : Int) (hs : s < 18446744073709551616) : Turned s (withN s i) (lessN s i) i k := by
  refine ⟨fun h => ?_, fun h => ?_, fun h hik => ?_, fun h => ?_⟩
  · have h1 : ¬ (0 ≤ i ∧ i ≤ 63) := by simpa [inB] using h
    exact ⟨with_out s i h1, less_out s i h1 hs, has_out s i h1⟩
  all_goals
    have h1 : 0 ≤ i ∧ i ≤ 63 := by simpa [inB] using h
    obtain ⟨p, rfl⟩ := Int.eq_ofNat_of_zero_le h1.1
    have hp : p < 64 := by omega
  · rw [has_in _ p hp, has_in _ p hp, with_bit s p p hp, less_bit s p p hp hs]
    simp
  · by_cases h2 : 0 ≤ k ∧ k ≤ 63
    · obtain ⟨q, rfl⟩ := Int.eq_ofNat_of_zero_le h2.1
      have hq : q < 64 := by omega
      rw [has_in _ q hq, has_in _ q hq, has_in _ q hq, with_bit s p q hp, less_bit s p q hp hs]
      have : ¬ p = q := by omega
      simp [this]
    · rw [has_out _ k h2, has_out _ k h2, has_out _ k h2]
      simp
  · have ha := with_lt s p hs
    have hb := less_lt s p hs
    refine ⟨same_bits _ _ (less_lt _ p ha) hb fun j _ => ?_, same_bits _ _ (with_lt _ p hb) ha fun j _ => ?_⟩
    · rw [less_bit _ p j hp ha, with_bit s p j hp, less_bit s p j hp hs]
      by_cases e : p = j <;> simp [e]
    · rw [with_bit _ p j hp, with_bit s p j hp, less_bit s p j hp hs]
      by_cases e : p = j <;> simp [e]

theorem turns_walk (s : Nat) (i k : Int) (hs : s < 18446744073709551616) (w : World) (hT : Tab w) :
    Calls Tryd.prog 4 #[.int .u64 (s : Int), .int .i64 i, .int .i64 k] w fun e w' => e = .returned (.bool true) ∧ Below w.heap.size w w' := by
  obtain ⟨t1, t2, t3, t4⟩ := turned s i k hs
  have ha := with_lt s i hs
  have hb := less_lt s i hs
  cases hi : inB i with
  | false =>
    obtain ⟨e1, e2, e3⟩ := t1 hi
    clear t1 t2 t3 t4
    rw [e1] at ha
    rw [e2] at hb
    go_enter Tryd.func4, Tryd.ntmps4
    go_wp2_with (first
      | (go_at_call 6; refine (alive_any _ hT).mono ?_; rintro e w' ⟨rfl, hw⟩)
      | (go_at_call 14; refine (lin_any _ _).mono ?_; rintro e w' ⟨rfl, rfl⟩)
      | (go_at_call 12; refine (with_any _ _ (by assumption) _).mono ?_; rintro e w' ⟨rfl, rfl⟩)
      | (go_at_call 13; refine (less_any _ _ (by assumption) _).mono ?_; rintro e w' ⟨rfl, rfl⟩)
      | (go_at_call 8; refine (has_any _ _ (by assumption) _).mono ?_; rintro e w' ⟨rfl, rfl⟩))
    go_ret
    exact ⟨rfl, hw⟩
  | true =>
    obtain ⟨e1, e2⟩ := t2 hi
    obtain ⟨e3, e4⟩ := t4 hi
    have t3' := t3 hi
    clear t1 t2 t3 t4
    by_cases hik : i = k
    · subst hik
      clear t3'
      go_enter Tryd.func4, Tryd.ntmps4
      go_wp2_with (first
        | (go_at_call 6; refine (alive_any _ hT).mono ?_; rintro e w' ⟨rfl, hw⟩)
        | (go_at_call 14; refine (lin_any _ _).mono ?_; rintro e w' ⟨rfl, rfl⟩)
        | (go_at_call 12; refine (with_any _ _ (by assumption) _).mono ?_; rintro e w' ⟨rfl, rfl⟩)
        | (go_at_call 13; refine (less_any _ _ (by assumption) _).mono ?_; rintro e w' ⟨rfl, rfl⟩)
        | (go_at_call 8; refine (has_any _ _ (by assumption) _).mono ?_; rintro e w' ⟨rfl, rfl⟩))
      go_ret
      exact ⟨rfl, hw⟩
    · obtain ⟨e5, e6⟩ := t3' hik
      have e7 : (i == k) = false := by simpa using hik
      clear t3' hik
      go_enter Tryd.func4, Tryd.ntmps4
      go_wp2_with (first
        | (go_at_call 6; refine (alive_any _ hT).mono ?_; rintro e w' ⟨rfl, hw⟩)
        | (go_at_call 14; refine (lin_any _ _).mono ?_; rintro e w' ⟨rfl, rfl⟩)
        | (go_at_call 12; refine (with_any _ _ (by assumption) _).mono ?_; rintro e w' ⟨rfl, rfl⟩)
        | (go_at_call 13; refine (less_any _ _ (by assumption) _).mono ?_; rintro e w' ⟨rfl, rfl⟩)
        | (go_at_call 8; refine (has_any _ _ (by assumption) _).mono ?_; rintro e w' ⟨rfl, rfl⟩))
      go_ret
      exact ⟨rfl, hw⟩
end Go.Proofs.YteonjolmnbbhfaaDoor
