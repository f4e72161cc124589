/- How many threads and slots a program has; a program cut. Conditions: a list has room. -/
import Derived.Test.YtllcgidachbnlaaSmall
import Derived.Test.YtllcgidachbnlaaClone
namespace Go.Proofs.Ytllcgidachbnlaa
open Go.RowKit Go.ChangeShapes Go.WideShapes Go.Great

def thrZ (p : Pg) : Int := cl p.co.n 4
def sloZ (p : Pg) : Int := cl p.co.n 4 * cl p.s 2
theorem Pg.n63 {p : Pg} (h : p.Ok) : (p.co.n : Int) ≤ 9223372036854775807 := by
  have := h.room
  have := h.most
  unfold maxLen at this
  omega
set_option maxRecDepth 100000 in
set_option maxHeartbeats 4000000 in
theorem slots_any (p : Pg) (h : p.Ok) (w : World) : Calls Try.prog 38 #[.agg p.cs.toArray] w fun e w' => e = .returned (.int .i64 (sloZ p)) ∧ Below w.heap.size w w' := by
  obtain ⟨p1, f1⟩ : ∃ p, w.heap.size = p := ⟨_, rfl⟩
  obtain ⟨W1, ea1⟩ : ∃ W, w.alloc (.cells p.cs.toArray 24) = W := ⟨_, rfl⟩
  have ka1 : Below w.heap.size w W1 := by rw [← ea1]; exact (Below.refl _ w).alloc (Nat.le_refl _) _
  have b1 : Blk W1 p1 24 p.cs.toArray := by rw [← ea1]; exact blk_new w _ 24 _ f1
  have kk : Below w.heap.size w W1 := ka1
  have hp1 : w.heap.size ≤ p1 := Nat.le_of_eq f1
  clear ka1
  have c1_1_3 : W1.cell? ⟨p1, 3, none⟩ = some (.slice p.co.A p.co.n p.co.cap) := b1.cell 3
  have c1_1_2 : W1.cell? ⟨p1, 2, none⟩ = some (.int .i64 p.s) := b1.cell 2
  have hn := Pg.n63 h
  have d1 := count_any p.co.n p.s W1
  unfold sloZ
  generalize cl p.co.n 4 * cl p.s 2 = M at *
  go_enter Try.func38, Try.ntmps38
  go_wp2_with (go_at_call 49; refine d1.mono ?_; rintro e w' ⟨rfl, rfl⟩)
  go_ret
  first | exact ⟨rfl, kk⟩ | (rw [f1] at kk; exact ⟨rfl, kk⟩)
set_option maxRecDepth 100000 in
set_option maxHeartbeats 4000000 in
theorem threads_any (p : Pg) (h : p.Ok) (w : World) : Calls Try.prog 39 #[.agg p.cs.toArray] w fun e w' => e = .returned (.int .i64 (thrZ p)) ∧ Below w.heap.size w w' := by
  have hn := Pg.n63 h
  have e0 : thrZ p = if (4 : Int) < p.co.n then 4 else (p.co.n : Int) := by unfold thrZ cl; rw [if_neg (by omega)]
  rw [e0]
  obtain ⟨p1, f1⟩ : ∃ p, w.heap.size = p := ⟨_, rfl⟩
  obtain ⟨W1, ea1⟩ : ∃ W, w.alloc (.cells p.cs.toArray 24) = W := ⟨_, rfl⟩
  have ka1 : Below w.heap.size w W1 := by rw [← ea1]; exact (Below.refl _ w).alloc (Nat.le_refl _) _
  have b1 : Blk W1 p1 24 p.cs.toArray := by rw [← ea1]; exact blk_new w _ 24 _ f1
  have kk : Below w.heap.size w W1 := ka1
  have hp1 : w.heap.size ≤ p1 := Nat.le_of_eq f1
  clear ka1
  by_cases h4 : (4 : Int) < p.co.n
  · have c1_1_3 : W1.cell? ⟨p1, 3, none⟩ = some (.slice p.co.A p.co.n p.co.cap) := b1.cell 3
    have t0 : decide ((4 : Int) < (p.co.n : Int)) = true := decide_eq_true h4
    rw [if_pos h4]
    have t1 : min (p.co.n : Int) 4 = 4 := by omega
    go_enter Try.func39, Try.ntmps39
    go_wp2
    go_ret
    first | exact ⟨rfl, kk⟩ | (rw [f1] at kk; exact ⟨rfl, kk⟩)
  · have c1_1_3 : W1.cell? ⟨p1, 3, none⟩ = some (.slice p.co.A p.co.n p.co.cap) := b1.cell 3
    have t0 : decide ((4 : Int) < (p.co.n : Int)) = false := decide_eq_false h4
    rw [if_neg h4]
    have t1 : min (p.co.n : Int) 4 = (p.co.n : Int) := by omega
    go_enter Try.func39, Try.ntmps39
    go_wp2
    go_ret
    first | exact ⟨rfl, kk⟩ | (rw [f1] at kk; exact ⟨rfl, kk⟩)
set_option maxRecDepth 100000 in
set_option maxHeartbeats 4000000 in
theorem refthreads_any (p : Pg) (h : p.Ok) (w : World) : Calls Try.prog 42 #[.agg p.cs.toArray] w fun e w' => e = .returned (.int .i64 (thrZ p)) ∧ Below w.heap.size w w' := by
  have hn := Pg.n63 h
  have e0 : thrZ p = if (4 : Int) < p.co.n then 4 else (p.co.n : Int) := by unfold thrZ cl; rw [if_neg (by omega)]
  rw [e0]
  obtain ⟨p1, f1⟩ : ∃ p, w.heap.size = p := ⟨_, rfl⟩
  obtain ⟨W1, ea1⟩ : ∃ W, w.alloc (.cells p.cs.toArray 24) = W := ⟨_, rfl⟩
  have ka1 : Below w.heap.size w W1 := by rw [← ea1]; exact (Below.refl _ w).alloc (Nat.le_refl _) _
  have b1 : Blk W1 p1 24 p.cs.toArray := by rw [← ea1]; exact blk_new w _ 24 _ f1
  have kk : Below w.heap.size w W1 := ka1
  have hp1 : w.heap.size ≤ p1 := Nat.le_of_eq f1
  clear ka1
  by_cases h4 : (4 : Int) < p.co.n
  · have c1_1_3 : W1.cell? ⟨p1, 3, none⟩ = some (.slice p.co.A p.co.n p.co.cap) := b1.cell 3
    have t0 : decide ((4 : Int) < (p.co.n : Int)) = true := decide_eq_true h4
    rw [if_pos h4]
    go_enter Try.func42, Try.ntmps42
    go_wp2
    go_ret
    first | exact ⟨rfl, kk⟩ | (rw [f1] at kk; exact ⟨rfl, kk⟩)
  · have c1_1_3 : W1.cell? ⟨p1, 3, none⟩ = some (.slice p.co.A p.co.n p.co.cap) := b1.cell 3
    have t0 : decide ((4 : Int) < (p.co.n : Int)) = false := decide_eq_false h4
    rw [if_neg h4]
    go_enter Try.func42, Try.ntmps42
    go_wp2
    go_ret
    first | exact ⟨rfl, kk⟩ | (rw [f1] at kk; exact ⟨rfl, kk⟩)
theorem thr_of (p : Pg) : 0 ≤ thrZ p ∧ thrZ p ≤ 4 := cl_of _ 4 (by omega)
set_option maxRecDepth 100000 in
set_option maxHeartbeats 4000000 in
theorem refslots_any (p : Pg) (h : p.Ok) (w : World) : Calls Try.prog 26 #[.agg p.cs.toArray] w fun e w' => e = .returned (.int .i64 (sloZ p)) ∧ Below w.heap.size w w' := by
  obtain ⟨v0, v4⟩ := thr_of p
  have e1 : sloZ p = cl p.s 2 * thrZ p := Int.mul_comm _ _
  have e2 : cl p.s 2 = if p.s < 0 then 0 else if 2 < p.s then 2 else p.s := rfl
  obtain ⟨m0, m8⟩ := all_of p.co.n p.s
  have m0 : 0 ≤ sloZ p := m0
  have m8 : sloZ p ≤ 8 := m8
  obtain ⟨p1, f1⟩ : ∃ p, w.heap.size = p := ⟨_, rfl⟩
  obtain ⟨W1, ea1⟩ : ∃ W, w.alloc (.cells p.cs.toArray 24) = W := ⟨_, rfl⟩
  have ka1 : Below w.heap.size w W1 := by rw [← ea1]; exact (Below.refl _ w).alloc (Nat.le_refl _) _
  have b1 : Blk W1 p1 24 p.cs.toArray := by rw [← ea1]; exact blk_new w _ 24 _ f1
  have kk : Below w.heap.size w W1 := ka1
  have hp1 : w.heap.size ≤ p1 := Nat.le_of_eq f1
  clear ka1
  have d1 := refthreads_any p h W1
  rw [e1] at m0 m8 ⊢
  generalize thrZ p = T at *
  clear e1
  by_cases h0 : p.s < 0
  · have c1_1_2 : W1.cell? ⟨p1, 2, none⟩ = some (.int .i64 p.s) := b1.cell 2
    rw [if_pos h0] at e2
    rw [e2] at m0 m8 ⊢
    have t0 : decide (p.s < 0) = true := decide_eq_true h0
    have t8 : (-9223372036854775808 : Int) ≤ 0 * T := by omega
    have t9 : 0 * T ≤ 9223372036854775807 := by omega
    go_enter Try.func26, Try.ntmps26
    go_wp2_with (first | ((with_reducible refine at_load 24 (.tmp 1) ?_); refine wpList_load_row rfl 24 (.tmp 1) rfl p1 rfl 24 p.cs.toArray (0, 0) _ b1 Try.underlying24 rfl size24 ?_) | (go_at_call 42; refine d1.mono ?_; rintro e w' ⟨rfl, k9⟩))
    go_ret
    exact ⟨by first | rfl | simp, kk.trans (k9.mono kk.size)⟩
  · by_cases h2 : 2 < p.s
    · have c1_1_2 : W1.cell? ⟨p1, 2, none⟩ = some (.int .i64 p.s) := b1.cell 2
      rw [if_neg h0, if_pos h2] at e2
      rw [e2] at m0 m8 ⊢
      have t0 : decide (p.s < 0) = false := decide_eq_false h0
      have t1 : decide (2 < p.s) = true := decide_eq_true h2
      have t8 : (-9223372036854775808 : Int) ≤ 2 * T := by omega
      have t9 : 2 * T ≤ 9223372036854775807 := by omega
      go_enter Try.func26, Try.ntmps26
      go_wp2_with (first | ((with_reducible refine at_load 24 (.tmp 1) ?_); refine wpList_load_row rfl 24 (.tmp 1) rfl p1 rfl 24 p.cs.toArray (0, 0) _ b1 Try.underlying24 rfl size24 ?_) | (go_at_call 42; refine d1.mono ?_; rintro e w' ⟨rfl, k9⟩))
      go_ret
      exact ⟨by first | rfl | simp, kk.trans (k9.mono kk.size)⟩
    · have c1_1_2 : W1.cell? ⟨p1, 2, none⟩ = some (.int .i64 p.s) := b1.cell 2
      rw [if_neg h0, if_neg h2] at e2
      rw [e2] at m0 m8 ⊢
      have t0 : decide (p.s < 0) = false := decide_eq_false h0
      have t1 : decide (2 < p.s) = false := decide_eq_false h2
      have t8 : (-9223372036854775808 : Int) ≤ p.s * T := by omega
      have t9 : p.s * T ≤ 9223372036854775807 := by omega
      go_enter Try.func26, Try.ntmps26
      go_wp2_with (first | ((with_reducible refine at_load 24 (.tmp 1) ?_); refine wpList_load_row rfl 24 (.tmp 1) rfl p1 rfl 24 p.cs.toArray (0, 0) _ b1 Try.underlying24 rfl size24 ?_) | (go_at_call 42; refine d1.mono ?_; rintro e w' ⟨rfl, k9⟩))
      go_ret
      exact ⟨by first | rfl | simp, kk.trans (k9.mono kk.size)⟩
end Go.Proofs.Ytllcgidachbnlaa
