/- Plain facts on numbers of 64 bits that go round: sums, differences, products, quotients and rests. No conditions beyond those that each row names. -/
import Derived.Test.YtdigpaflfihbmaaRows
import Derived.WalkKit
import Derived.DataShut
namespace Go.Proofs.Ytdigpaflfihbmaa
open Go.RowKit
theorem u64_mod (n : Int) : IntKind.u64.wrap n = n % 18446744073709551616 := by
  simp [IntKind.wrap, IntKind.bits, IntKind.signed]
theorem wrap_mod (n : Int) : wrap64 (n % 18446744073709551616) = wrap64 n := by
  unfold wrap64; omega
theorem in64 {k : Int} (h : (Lit.int .i64 k).wf = true) : -9223372036854775808 ≤ k ∧ k ≤ 9223372036854775807 :=
  (Lit.wf_int_iff .i64 k).1 h
theorem goes_add (a b : Int) : wrap64 (a + b) = wrap64 (IntKind.u64.wrap (IntKind.u64.wrap a + IntKind.u64.wrap b)) := by
  simp only [u64_mod, wrap_mod]; rw [← wrap_mod (a + b), ← wrap_mod (a % _ + _), ← Int.add_emod]
theorem goes_sub (a b : Int) : wrap64 (a - b) = wrap64 (IntKind.u64.wrap (IntKind.u64.wrap a - IntKind.u64.wrap b)) := by
  simp only [u64_mod, wrap_mod]; rw [← wrap_mod (a - b), ← wrap_mod (a % _ - _), ← Int.sub_emod]
theorem goes_mul (a b : Int) : wrap64 (a * b) = wrap64 (IntKind.u64.wrap (IntKind.u64.wrap a * IntKind.u64.wrap b)) := by
  simp only [u64_mod, wrap_mod]; rw [← wrap_mod (a * b), ← wrap_mod (a % _ * _), ← Int.mul_emod]
theorem back_one (a b : Int) (h : -9223372036854775808 ≤ a ∧ a ≤ 9223372036854775807) : wrap64 (wrap64 (a + b) - b) = a := by
  unfold wrap64; omega
theorem back_two (a b : Int) (h : -9223372036854775808 ≤ a ∧ a ≤ 9223372036854775807) : wrap64 (wrap64 (a - b) + b) = a := by
  unfold wrap64; omega
theorem swap_add (a b : Int) : wrap64 (a + b) = wrap64 (b + a) := by rw [Int.add_comm]
theorem edge : wrap64 9223372036854775808 = -9223372036854775808 := by decide +kernel
end Go.Proofs.Ytdigpaflfihbmaa
