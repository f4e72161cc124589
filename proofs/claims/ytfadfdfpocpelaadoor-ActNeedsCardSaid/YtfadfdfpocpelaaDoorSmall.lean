/- Numbers held within bounds, words, what is reckoned of two. Conditions: those that each row names. -/
import Derived.Test.YtfadfdfpocpelaaDoorPure
namespace Go.Proofs.YtfadfdfpocpelaaDoor
open Go.RowKit Go.ChangeShapes Go.WideShapes

/-- The nearest number from 0 to hi. -/
def cl (n hi : Int) : Int := if n < 0 then 0 else if hi < n then hi else n
theorem cl_of (n hi : Int) (h : 0 ≤ hi) : 0 ≤ cl n hi ∧ cl n hi ≤ hi := by
  unfold cl
  split
  · omega
  · split <;> omega
set_option maxRecDepth 100000 in
theorem clamp_any (n hi : Int) (w : World) : Calls Tryd.prog 80 #[.int .i64 n, .int .i64 0, .int .i64 hi] w fun e w' => e = .returned (.int .i64 (cl n hi)) ∧ w = w' := by
  obtain ⟨M, eM⟩ : ∃ M, M = cl n hi := ⟨_, rfl⟩
  rw [← eM]
  unfold cl at eM
  by_cases h0 : n < 0
  · rw [if_pos h0] at eM
    subst eM
    have t0 : decide (n < 0) = true := decide_eq_true h0
    go_enter Tryd.func80, Tryd.ntmps80
    go_wp2
    go_ret
    exact ⟨rfl, rfl⟩
  · rw [if_neg h0] at eM
    have t0 : decide (n < 0) = false := decide_eq_false h0
    by_cases h1 : hi < n
    · rw [if_pos h1] at eM
      subst eM
      have t1 : decide (M < n) = true := decide_eq_true h1
      go_enter Tryd.func80, Tryd.ntmps80
      go_wp2
      go_ret
      exact ⟨rfl, rfl⟩
    · rw [if_neg h1] at eM
      subst eM
      have t1 : decide (hi < M) = false := decide_eq_false h1
      go_enter Tryd.func80, Tryd.ntmps80
      go_wp2
      go_ret
      exact ⟨rfl, rfl⟩
set_option maxRecDepth 100000 in
theorem in_any (x a b : Int) (w : World) : Calls Tryd.prog 11 #[.int .i64 x, .int .i64 a, .int .i64 b] w fun e w' => e = .returned (.bool (inB x a b)) ∧ w = w' := by
  by_cases h0 : a ≤ x
  · have t0 : decide (a ≤ x) = true := decide_eq_true h0
    have e : inB x a b = decide (x ≤ b) := by unfold inB; rw [t0]; rfl
    rw [e]
    clear e
    go_enter Tryd.func11, Tryd.ntmps11
    go_wp2
    go_ret
    exact ⟨rfl, rfl⟩
  · have t0 : decide (a ≤ x) = false := decide_eq_false h0
    have e : inB x a b = false := by unfold inB; rw [t0]; rfl
    rw [e]
    clear e
    go_enter Tryd.func11, Tryd.ntmps11
    go_wp2
    go_ret
    exact ⟨rfl, rfl⟩
set_option maxRecDepth 100000 in
theorem isreg_any (r : Int) (w : World) : Calls Tryd.prog 44 #[.int .i64 r] w fun e w' => e = .returned (.bool (inB r 0 3)) ∧ w = w' := by
  go_enter Tryd.func44, Tryd.ntmps44
  go_wp2_with (go_at_call 11; refine (in_any r 0 3 _).mono ?_; rintro e w' ⟨rfl, rfl⟩)
  go_ret
  exact ⟨rfl, rfl⟩
theorem add_any (a b : Int) (w : World) : Calls Tryd.prog 32 #[.int .i64 a, .int .i64 b] w fun e w' => e = .returned (.int .i64 (wrap64 (a + b))) ∧ w = w' := by
  go_enter Tryd.func32, Tryd.ntmps32
  go_wp2
  go_ret
  exact ⟨rfl, rfl⟩
theorem mul_any (a b : Int) (w : World) : Calls Tryd.prog 45 #[.int .i64 a, .int .i64 b] w fun e w' => e = .returned (.int .i64 (wrap64 (a * b))) ∧ w = w' := by
  go_enter Tryd.func45, Tryd.ntmps45
  go_wp2
  go_ret
  exact ⟨rfl, rfl⟩
set_option maxRecDepth 100000 in
set_option maxHeartbeats 4000000 in
theorem plain_any (n : Int) (w : World) : Calls Tryd.prog 31 #[.int .i64 n] w fun e w' => e = .returned (.agg (Wd.mk n 0 0).cs.toArray) ∧ Below w.heap.size w w' := by
  obtain ⟨p1, f1⟩ : ∃ p, w.heap.size = p := ⟨_, rfl⟩
  obtain ⟨W1, ea1⟩ : ∃ W, w.alloc (.cells #[.int .i64 0, .int .i64 0, .int .i64 0] 25) = W := ⟨_, rfl⟩
  have ka1 : Below w.heap.size w W1 := by rw [← ea1]; exact (Below.refl _ w).alloc (Nat.le_refl _) _
  have b1 : Blk W1 p1 25 #[.int .i64 0, .int .i64 0, .int .i64 0] := by rw [← ea1]; exact blk_new w _ 25 _ f1
  have kk : Below w.heap.size w W1 := ka1
  have hp1 : w.heap.size ≤ p1 := Nat.le_of_eq f1
  clear ka1
  obtain ⟨W2, es2⟩ : ∃ W, W1.setRow p1 (Wd.mk n 0 0).cs.toArray = W := ⟨_, rfl⟩
  have bo1 := b1
  replace b1 : Blk W2 p1 25 (Wd.mk n 0 0).cs.toArray := row_named b1 es2
  replace kk := kk.trans (row_below es2 hp1 kk.size)
  go_enter Tryd.func31, Tryd.ntmps31
  go_wp2_with (((with_reducible refine at_store 25 (.tmp 2) (.tmp 4) ?_); refine wpList_store_row rfl 25 (.tmp 2) (.tmp 4) rfl p1 (Wd.mk n 0 0).cs.toArray rfl rfl 25 #[.int .i64 0, .int .i64 0, .int .i64 0] bo1 size25 rfl (Wd.onea _) ?_; rw [es2]))
  refine bodyPost_ret (results_cell_row (cs := (Wd.mk n 0 0).cs.toArray) rfl _ _ p1 25 (0, 0) _ rfl b1 Tryd.underlying25 rfl size25) rfl ?_
  exact ⟨rfl, kk⟩
end Go.Proofs.YtfadfdfpocpelaaDoor
