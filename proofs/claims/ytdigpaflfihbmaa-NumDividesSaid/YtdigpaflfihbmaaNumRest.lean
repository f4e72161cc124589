/- Plain facts on quotients that are cut towards 0: the rest is of less size than the divisor and has the sign of the number; nothing goes round but at the least number and -1. Conditions: both numbers are of 64 bits, the divisor is not 0 (and not -1, where a row says so). -/
import Derived.Test.YtdigpaflfihbmaaNumPlain
namespace Go.Proofs.Ytdigpaflfihbmaa
open Go.RowKit
theorem rest (a b : Int) (hb : b ≠ 0) : ∃ r, a = a.tdiv b * b + r ∧ (0 ≤ a → 0 ≤ r) ∧ (a ≤ 0 → r ≤ 0) ∧ r.natAbs < b.natAbs ∧ r.natAbs ≤ a.natAbs ∧ (a.tdiv b).natAbs * b.natAbs ≤ a.natAbs := by
  refine ⟨a.tmod b, (Int.tdiv_mul_add_tmod a b).symm, fun h => Int.tmod_nonneg b h, fun h => ?_, ?_, ?_, ?_⟩
  · have := Int.tmod_nonneg b (a := -a) (by omega)
    rw [Int.neg_tmod] at this; omega
  · rw [Int.natAbs_tmod]; exact Nat.mod_lt _ (by omega)
  · rw [Int.natAbs_tmod]; exact Nat.mod_le _ _
  · rw [Int.natAbs_tdiv]; exact Nat.div_mul_le_self _ _
theorem quotient_in (a b : Int) (ha : -9223372036854775808 ≤ a ∧ a ≤ 9223372036854775807) (h0 : b ≠ 0) (h1 : b ≠ -1) : -9223372036854775808 ≤ a.tdiv b ∧ a.tdiv b ≤ 9223372036854775807 := by
  by_cases hb : b = 1
  · subst hb; rw [Int.tdiv_one]; exact ha
  · obtain ⟨r, -, -, -, -, -, h⟩ := rest a b h0
    have h2 : (a.tdiv b).natAbs * 2 ≤ (a.tdiv b).natAbs * b.natAbs := Nat.mul_le_mul_left _ (by omega)
    omega
/-- What the law reckons of a quotient: the product, and the rest, do not go round. -/
theorem reckoned (a b : Int) (ha : -9223372036854775808 ≤ a ∧ a ≤ 9223372036854775807) (h0 : b ≠ 0) (h1 : b ≠ -1) :
    ∃ q m r, wrap64 (a.tdiv b) = q ∧ wrap64 (q * b) = m ∧ wrap64 (a - m) = r ∧ (0 ≤ a → 0 ≤ r) ∧ (a ≤ 0 → r ≤ 0) ∧ r.natAbs < b.natAbs := by
  have hq := quotient_in a b ha h0 h1
  obtain ⟨r, e, s1, s2, hr, hr', -⟩ := rest a b h0
  refine ⟨a.tdiv b, a - r, r, IntWalk.wrap64_in _ hq, ?_, ?_, s1, s2, hr⟩
  · have e' : a.tdiv b * b = a - r := by omega
    rw [e']; exact IntWalk.wrap64_in _ (by omega)
  · rw [show a - (a - r) = r by omega]; exact IntWalk.wrap64_in _ (by omega)
end Go.Proofs.Ytdigpaflfihbmaa
