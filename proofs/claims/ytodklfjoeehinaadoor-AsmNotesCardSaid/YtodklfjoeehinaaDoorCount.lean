/- What show's Count answers, the statements' own trial, and the walk of ShowInstrs. Conditions: the variables lie as they are laid; at most 1000 lines, for Count. -/
import Derived.Test.YtodklfjoeehinaaDoorGood
namespace Go.Proofs.YtodklfjoeehinaaDoor
open Go.RowKit Nine
set_option linter.unusedSimpArgs false

/-- How many lines threads' code has. -/
def cntM : List (List Ins) → Nat
  | [] => 0
  | xs :: t => 1 + xs.length + cntM t
theorem cntM_app : ∀ (a b : List (List Ins)), cntM (a ++ b) = cntM a + cntM b
  | [], b => by simp [cntM]
  | x :: a, b => by
    have := cntM_app a b
    simp only [List.cons_append, cntM, this]
    omega
theorem cntM_take (l : List (List Ins)) (k : Nat) : cntM (l.take k) ≤ cntM l := by
  have h := congrArg cntM (List.take_append_drop k l)
  rw [cntM_app] at h
  omega
theorem cntM_le (m : Nat) : ∀ (l : List (List Ins)), (∀ xs ∈ l, xs.length ≤ m) → cntM l ≤ (1 + m) * l.length
  | [], _ => by simp [cntM]
  | x :: l, h => by
    have h1 := h x (by simp)
    have h2 := cntM_le m l fun y hy => h y (List.mem_cons_of_mem _ hy)
    rw [cntM, List.length_cons, Nat.mul_add]
    omega

/-! ### the trial -/
theorem wide_0 : Wide 0 := by unfold Wide; omega
theorem wide_1 : Wide 1 := by unfold Wide; omega
theorem itoa_1 : Lib.itoa 1 = [49] := by
  rw [itoa_pos 1 (by omega), show (1 : Int).natAbs = 1 from rfl, decD_step 1 (by omega)]
  rfl
end Go.Proofs.YtodklfjoeehinaaDoor
