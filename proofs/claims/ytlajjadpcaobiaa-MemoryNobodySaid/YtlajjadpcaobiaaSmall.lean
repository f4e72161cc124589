/- A number held within bounds; whether one is; how two are held against each other. Conditions: none. -/
import Derived.Test.YtlajjadpcaobiaaBase
namespace Go.Proofs.Ytlajjadpcaobiaa
open Go.RowKit Go.ChangeShapes Go.WideShapes

/-- The nearest number from 0 to hi. -/
def cl (n hi : Int) : Int := if n < 0 then 0 else if hi < n then hi else n
theorem cl_of (n hi : Int) (h : 0 ≤ hi) : 0 ≤ cl n hi ∧ cl n hi ≤ hi := by
  unfold cl
  split
  · omega
  · split <;> omega
set_option maxRecDepth 100000 in
theorem clamp_any (n hi : Int) (w : World) : Calls Try.prog 43 #[.int .i64 n, .int .i64 0, .int .i64 hi] w fun e w' => e = .returned (.int .i64 (cl n hi)) ∧ w = w' := by
  obtain ⟨M, eM⟩ : ∃ M, M = cl n hi := ⟨_, rfl⟩
  rw [← eM]
  unfold cl at eM
  by_cases h0 : n < 0
  · rw [if_pos h0] at eM
    subst eM
    have t0 : decide (n < 0) = true := decide_eq_true h0
    go_enter Try.func43, Try.ntmps43
    go_wp2
    go_ret
    exact ⟨rfl, rfl⟩
  · rw [if_neg h0] at eM
    have t0 : decide (n < 0) = false := decide_eq_false h0
    by_cases h1 : hi < n
    · rw [if_pos h1] at eM
      subst eM
      have t1 : decide (M < n) = true := decide_eq_true h1
      go_enter Try.func43, Try.ntmps43
      go_wp2
      go_ret
      exact ⟨rfl, rfl⟩
    · rw [if_neg h1] at eM
      subst eM
      have t1 : decide (hi < M) = false := decide_eq_false h1
      go_enter Try.func43, Try.ntmps43
      go_wp2
      go_ret
      exact ⟨rfl, rfl⟩
set_option maxRecDepth 100000 in
theorem near_any (n hi : Int) (w : World) : Calls Try.prog 27 #[.int .i64 n, .int .i64 0, .int .i64 hi] w fun e w' => e = .returned (.int .i64 (cl n hi)) ∧ w = w' := by
  obtain ⟨M, eM⟩ : ∃ M, M = cl n hi := ⟨_, rfl⟩
  rw [← eM]
  unfold cl at eM
  by_cases h0 : n < 0
  · rw [if_pos h0] at eM
    subst eM
    have t0 : decide (n < 0) = true := decide_eq_true h0
    go_enter Try.func27, Try.ntmps27
    go_wp2
    go_ret
    exact ⟨rfl, rfl⟩
  · rw [if_neg h0] at eM
    have t0 : decide (n < 0) = false := decide_eq_false h0
    by_cases h1 : hi < n
    · rw [if_pos h1] at eM
      subst eM
      have t1 : decide (M < n) = true := decide_eq_true h1
      go_enter Try.func27, Try.ntmps27
      go_wp2
      go_ret
      exact ⟨rfl, rfl⟩
    · rw [if_neg h1] at eM
      subst eM
      have t1 : decide (hi < M) = false := decide_eq_false h1
      go_enter Try.func27, Try.ntmps27
      go_wp2
      go_ret
      exact ⟨rfl, rfl⟩
set_option maxRecDepth 100000 in
theorem low_any (n hi : Int) (w : World) : Calls Try.prog 42 #[.int .i64 n, .int .i64 hi] w fun e w' => e = .returned (.int .i64 (cl n hi)) ∧ w = w' := by
  obtain ⟨M, eM⟩ : ∃ M, M = cl n hi := ⟨_, rfl⟩
  rw [← eM]
  unfold cl at eM
  by_cases h0 : n < 0
  · rw [if_pos h0] at eM
    subst eM
    have t0 : decide (n < 0) = true := decide_eq_true h0
    go_enter Try.func42, Try.ntmps42
    go_wp2
    go_ret
    exact ⟨rfl, rfl⟩
  · rw [if_neg h0] at eM
    have t0 : decide (n < 0) = false := decide_eq_false h0
    by_cases h1 : hi < n
    · rw [if_pos h1] at eM
      subst eM
      have t1 : decide (M < n) = true := decide_eq_true h1
      go_enter Try.func42, Try.ntmps42
      go_wp2
      go_ret
      exact ⟨rfl, rfl⟩
    · rw [if_neg h1] at eM
      subst eM
      have t1 : decide (hi < M) = false := decide_eq_false h1
      go_enter Try.func42, Try.ntmps42
      go_wp2
      go_ret
      exact ⟨rfl, rfl⟩
/-- Is x from a to b? -/
def inB (x a b : Int) : Bool := decide (a ≤ x) && decide (x ≤ b)
set_option maxRecDepth 100000 in
theorem in_any (x a b : Int) (w : World) : Calls Try.prog 29 #[.int .i64 x, .int .i64 a, .int .i64 b] w fun e w' => e = .returned (.bool (inB x a b)) ∧ w = w' := by
  by_cases h0 : a ≤ x
  · have t0 : decide (a ≤ x) = true := decide_eq_true h0
    have e : inB x a b = decide (x ≤ b) := by unfold inB; rw [t0]; rfl
    rw [e]
    clear e
    go_enter Try.func29, Try.ntmps29
    go_wp2
    go_ret
    exact ⟨rfl, rfl⟩
  · have t0 : decide (a ≤ x) = false := decide_eq_false h0
    have e : inB x a b = false := by unfold inB; rw [t0]; rfl
    rw [e]
    clear e
    go_enter Try.func29, Try.ntmps29
    go_wp2
    go_ret
    exact ⟨rfl, rfl⟩
end Go.Proofs.Ytlajjadpcaobiaa
