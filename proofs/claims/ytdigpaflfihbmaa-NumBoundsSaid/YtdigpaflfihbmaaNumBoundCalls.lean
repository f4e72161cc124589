/- The ways through the law 'NumBounds', one for each order in which a number and its bounds may stand. Conditions: those that each row names. -/
import Derived.Test.YtdigpaflfihbmaaNumPlain
import Derived.WalkKit
namespace Go.Proofs.Ytdigpaflfihbmaa
open Go.ChangeShapes Go.WideShapes Go.RowKit
theorem bound_way (a0 a1 a2 : Int) (w : World) : Calls Try.prog 5 #[.int .i64 a0, .int .i64 a1, .int .i64 a2] w fun e w' => e = .returned (.bool true) ∧ Grown w w' := by
  have hw : (wrap64 9223372036854775808 == -9223372036854775808) = true := by decide +kernel
  by_cases h1 : a0 < a1 <;> by_cases h2 : a2 < a0 <;> by_cases h3 : a2 < a1 <;> first | omega | skip
  all_goals
    have k1 := h1
    have k2 := h2
    have k3 := h3
    try simp only [Int.not_lt] at h1
    try simp only [Int.not_lt] at h2
    try simp only [Int.not_lt] at h3
    clear k1 k2 k3
    go_enter Try.func5, Try.ntmps5
    go_wp2
    go_ret
    exact ⟨rfl, Grown.refl _⟩
end Go.Proofs.Ytdigpaflfihbmaa
