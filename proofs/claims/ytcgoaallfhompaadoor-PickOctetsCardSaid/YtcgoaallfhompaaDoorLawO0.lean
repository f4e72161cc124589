/- Fine prefixes. Conditions: none. -/
import Derived.Test.YtcgoaallfhompaaDoorOctP
namespace Go.Proofs.YtcgoaallfhompaaDoor
open Go.RowKit Go.ChangeShapes Go.WideShapes
set_option linter.unusedSimpArgs false
set_option linter.unusedVariables false

instance (l : List Int) : Decidable (Fine l) := by unfold Fine; infer_instance
/-- Whether all of the first k are agents. -/
def fineB (l : List Int) (k : Nat) : Bool := decide (Fine (l.take k))
theorem fineB_zero (l : List Int) : fineB l 0 = true := by
  unfold fineB
  refine decide_eq_true fun x hx => ?_
  simp at hx
theorem fineB_next {l : List Int} {k : Nat} (h : k < l.length) : fineB l (k + 1) = (fineB l k && (decide (0 ≤ l.getD k 0) && decide (l.getD k 0 ≤ 7))) := by
  unfold fineB
  rw [take_snoc l k h, Bool.eq_iff_iff]
  simp only [Bool.and_eq_true, decide_eq_true_iff]
  constructor
  · intro q
    exact ⟨fun x hx => q x (List.mem_append_left _ hx), q _ (List.mem_append_right _ (List.mem_singleton.2 rfl))⟩
  · rintro ⟨q1, q2⟩ x hx
    rcases List.mem_append.1 hx with hx | hx
    · exact q1 x hx
    · rw [List.mem_singleton] at hx
      subst hx
      exact q2
theorem fineB_all (l : List Int) : fineB l l.length = decide (Fine l) := by unfold fineB; rw [List.take_length]
end Go.Proofs.YtcgoaallfhompaaDoor
