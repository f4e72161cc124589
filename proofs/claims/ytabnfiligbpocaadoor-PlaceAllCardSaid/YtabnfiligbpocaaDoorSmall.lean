/- A number held within bounds; whether one is; how two are held against each other. Conditions: none. -/
import Derived.Test.YtabnfiligbpocaaDoorBase
namespace Go.Proofs.YtabnfiligbpocaaDoor
open Go.RowKit Go.ChangeShapes Go.WideShapes

/-- The nearest number from 0 to hi. -/
def cl (n hi : Int) : Int := if n < 0 then 0 else if hi < n then hi else n
theorem cl_of (n hi : Int) (h : 0 ≤ hi) : 0 ≤ cl n hi ∧ cl n hi ≤ hi := by
  unfold cl
  split
  · omega
  · split <;> omega
set_option maxRecDepth 100000 in
theorem clamp_any (n hi : Int) (w : World) : Calls Tryd.prog 29 #[.int .i64 n, .int .i64 0, .int .i64 hi] w fun e w' => e = .returned (.int .i64 (cl n hi)) ∧ w = w' := by
  obtain ⟨M, eM⟩ : ∃ M, M = cl n hi := ⟨_, rfl⟩
  rw [← eM]
  unfold cl at eM
  by_cases h0 : n < 0
  · rw [if_pos h0] at eM
    subst eM
    have t0 : decide (n < 0) = true := decide_eq_true h0
    go_enter Tryd.func29, Tryd.ntmps29
    go_wp2
    go_ret
    exact ⟨rfl, rfl⟩
  · rw [if_neg h0] at eM
    have t0 : decide (n < 0) = false := decide_eq_false h0
    by_cases h1 : hi < n
    · rw [if_pos h1] at eM
      subst eM
      have t1 : decide (M < n) = true := decide_eq_true h1
      go_enter Tryd.func29, Tryd.ntmps29
      go_wp2
      go_ret
      exact ⟨rfl, rfl⟩
    · rw [if_neg h1] at eM
      subst eM
      have t1 : decide (hi < M) = false := decide_eq_false h1
      go_enter Tryd.func29, Tryd.ntmps29
      go_wp2
      go_ret
      exact ⟨rfl, rfl⟩
set_option maxRecDepth 100000 in
theorem near_any (n hi : Int) (w : World) : Calls Tryd.prog 23 #[.int .i64 n, .int .i64 0, .int .i64 hi] w fun e w' => e = .returned (.int .i64 (cl n hi)) ∧ w = w' := by
  obtain ⟨M, eM⟩ : ∃ M, M = cl n hi := ⟨_, rfl⟩
  rw [← eM]
  unfold cl at eM
  by_cases h0 : n < 0
  · rw [if_pos h0] at eM
    subst eM
    have t0 : decide (n < 0) = true := decide_eq_true h0
    go_enter Tryd.func23, Tryd.ntmps23
    go_wp2
    go_ret
    exact ⟨rfl, rfl⟩
  · rw [if_neg h0] at eM
    have t0 : decide (n < 0) = false := decide_eq_false h0
    by_cases h1 : hi < n
    · rw [if_pos h1] at eM
      subst eM
      have t1 : decide (M < n) = true := decide_eq_true h1
      go_enter Tryd.func23, Tryd.ntmps23
      go_wp2
      go_ret
      exact ⟨rfl, rfl⟩
    · rw [if_neg h1] at eM
      subst eM
      have t1 : decide (hi < M) = false := decide_eq_false h1
      go_enter Tryd.func23, Tryd.ntmps23
      go_wp2
      go_ret
      exact ⟨rfl, rfl⟩
set_option maxRecDepth 100000 in
theorem low_any (n hi : Int) (w : World) : Calls Tryd.prog 21 #[.int .i64 n, .int .i64 hi] w fun e w' => e = .returned (.int .i64 (cl n hi)) ∧ w = w' := by
  obtain ⟨M, eM⟩ : ∃ M, M = cl n hi := ⟨_, rfl⟩
  rw [← eM]
  unfold cl at eM
  by_cases h0 : n < 0
  · rw [if_pos h0] at eM
    subst eM
    have t0 : decide (n < 0) = true := decide_eq_true h0
    go_enter Tryd.func21, Tryd.ntmps21
    go_wp2
    go_ret
    exact ⟨rfl, rfl⟩
  · rw [if_neg h0] at eM
    have t0 : decide (n < 0) = false := decide_eq_false h0
    by_cases h1 : hi < n
    · rw [if_pos h1] at eM
      subst eM
      have t1 : decide (M < n) = true := decide_eq_true h1
      go_enter Tryd.func21, Tryd.ntmps21
      go_wp2
      go_ret
      exact ⟨rfl, rfl⟩
    · rw [if_neg h1] at eM
      subst eM
      have t1 : decide (hi < M) = false := decide_eq_false h1
      go_enter Tryd.func21, Tryd.ntmps21
      go_wp2
      go_ret
      exact ⟨rfl, rfl⟩
/-- Is x from a to b? -/
def inB (x a b : Int) : Bool := decide (a ≤ x) && decide (x ≤ b)
set_option maxRecDepth 100000 in
theorem in_any (x a b : Int) (w : World) : Calls Tryd.prog 20 #[.int .i64 x, .int .i64 a, .int .i64 b] w fun e w' => e = .returned (.bool (inB x a b)) ∧ w = w' := by
  by_cases h0 : a ≤ x
  · have t0 : decide (a ≤ x) = true := decide_eq_true h0
    have e : inB x a b = decide (x ≤ b) := by unfold inB; rw [t0]; rfl
    rw [e]
    clear e
    go_enter Tryd.func20, Tryd.ntmps20
    go_wp2
    go_ret
    exact ⟨rfl, rfl⟩
  · have t0 : decide (a ≤ x) = false := decide_eq_false h0
    have e : inB x a b = false := by unfold inB; rw [t0]; rfl
    rw [e]
    clear e
    go_enter Tryd.func20, Tryd.ntmps20
    go_wp2
    go_ret
    exact ⟨rfl, rfl⟩
set_option maxRecDepth 100000 in
theorem nan_any (x : Int) (w : World) : Calls Tryd.prog 31 #[.int .i64 x] w fun e w' => e = .returned (.bool false) ∧ w = w' := by
  go_enter Tryd.func31, Tryd.ntmps31
  go_wp2
  go_ret
  exact ⟨by simp, rfl⟩
/-- -1, 0 or 1. -/
def cmpI (a b : Int) : Int := if a < b then -1 else if b < a then 1 else 0
set_option maxRecDepth 100000 in
theorem cmp_any (a b : Int) (w : World) : Calls Tryd.prog 25 #[.int .i64 a, .int .i64 b] w fun e w' => e = .returned (.int .i64 (cmpI a b)) ∧ w = w' := by
  obtain ⟨M, eM⟩ : ∃ M, M = cmpI a b := ⟨_, rfl⟩
  rw [← eM]
  unfold cmpI at eM
  by_cases h0 : a < b
  · rw [if_pos h0] at eM
    subst eM
    have t0 : decide (a < b) = true := decide_eq_true h0
    go_enter Tryd.func25, Tryd.ntmps25
    go_wp2_with fail
    refine (nan_any a w).mono ?_
    rintro e w' ⟨rfl, rfl⟩
    go_wp2_with fail
    refine (nan_any b w).mono ?_
    rintro e w' ⟨rfl, rfl⟩
    go_wp2
    go_ret
    exact ⟨rfl, rfl⟩
  · rw [if_neg h0] at eM
    have t0 : decide (a < b) = false := decide_eq_false h0
    by_cases h1 : b < a
    · rw [if_pos h1] at eM
      subst eM
      have t1 : decide (b < a) = true := decide_eq_true h1
      go_enter Tryd.func25, Tryd.ntmps25
      go_wp2_with fail
      refine (nan_any a w).mono ?_
      rintro e w' ⟨rfl, rfl⟩
      go_wp2_with fail
      refine (nan_any b w).mono ?_
      rintro e w' ⟨rfl, rfl⟩
      go_wp2
      go_ret
      exact ⟨rfl, rfl⟩
    · rw [if_neg h1] at eM
      subst eM
      have t1 : decide (b < a) = false := decide_eq_false h1
      go_enter Tryd.func25, Tryd.ntmps25
      go_wp2_with fail
      refine (nan_any a w).mono ?_
      rintro e w' ⟨rfl, rfl⟩
      go_wp2_with fail
      refine (nan_any b w).mono ?_
      rintro e w' ⟨rfl, rfl⟩
      go_wp2
      go_ret
      exact ⟨rfl, rfl⟩
/-- The first that is not 0. -/
def orI (a b : Int) : Int := if a = 0 then b else a
set_option maxRecDepth 100000 in
theorem or_any (a b c : Int) (w : World) : Calls Tryd.prog 24 #[.slice (some ⟨w.heap.size, 0, none⟩) 3 3] (w.alloc (.cells #[.int .i64 a, .int .i64 b, .int .i64 c] 3)) fun e w' => e = .returned (.int .i64 (orI a (orI b c))) ∧ w.alloc (.cells #[.int .i64 a, .int .i64 b, .int .i64 c] 3) = w' := by
  obtain ⟨W, eW⟩ : ∃ W, W = w.alloc (.cells #[.int .i64 a, .int .i64 b, .int .i64 c] 3) := ⟨_, rfl⟩
  have hB : Blk W w.heap.size 3 #[.int .i64 a, .int .i64 b, .int .i64 c] := by rw [eW]; exact heap_alloc_new w _
  rw [← eW]
  generalize w.heap.size = z at hB ⊢
  have c0 : W.cell? ⟨z, 0, none⟩ = some (.int .i64 a) := hB.cell 0
  have c1 : W.cell? ⟨z, 1, none⟩ = some (.int .i64 b) := hB.cell 1
  have c2 : W.cell? ⟨z, 2, none⟩ = some (.int .i64 c) := hB.cell 2
  clear eW hB
  obtain ⟨M, eM⟩ : ∃ M, M = orI a (orI b c) := ⟨_, rfl⟩
  rw [← eM]
  unfold orI at eM
  by_cases h0 : a = 0
  · rw [if_pos h0] at eM
    subst h0
    by_cases h1 : b = 0
    · rw [if_pos h1] at eM
      subst h1
      by_cases h2 : c = 0
      · subst h2 eM
        go_enter Tryd.func24, Tryd.ntmps24
        go_wp2_with fail
        refine wp_loop_rounds 4 ?_
        iterate 4 (rw [rounds_succ]; go_wp2)
        go_ret
        exact ⟨rfl, rfl⟩
      · subst eM
        have t1 : (M != 0) = true := by simpa using h2
        clear h2
        go_enter Tryd.func24, Tryd.ntmps24
        go_wp2_with fail
        refine wp_loop_rounds 4 ?_
        iterate 3 (rw [rounds_succ]; go_wp2)
        go_ret
        exact ⟨rfl, rfl⟩
    · rw [if_neg h1] at eM
      subst eM
      have t1 : (M != 0) = true := by simpa using h1
      clear h1
      go_enter Tryd.func24, Tryd.ntmps24
      go_wp2_with fail
      refine wp_loop_rounds 4 ?_
      iterate 2 (rw [rounds_succ]; go_wp2)
      go_ret
      exact ⟨rfl, rfl⟩
  · rw [if_neg h0] at eM
    subst eM
    have t1 : (M != 0) = true := by simpa using h0
    clear h0
    go_enter Tryd.func24, Tryd.ntmps24
    go_wp2_with fail
    refine wp_loop_rounds 4 ?_
    iterate 1 (rw [rounds_succ]; go_wp2)
    go_ret
    exact ⟨rfl, rfl⟩
end Go.Proofs.YtabnfiligbpocaaDoor
