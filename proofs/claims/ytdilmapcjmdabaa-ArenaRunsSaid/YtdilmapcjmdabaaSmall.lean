/- What the small functions of num, tag and arena answer. Conditions: none. -/
import Derived.Test.YtdilmapcjmdabaaArena
namespace Go.Proofs.Ytdilmapcjmdabaa
open Go.ChangeShapes Go.WideShapes Go.RowKit

theorem plain_zero (w : World) : Calls Try.prog 38 #[.int .i64 0] w fun e w' => e = .returned (.agg #[.int .i64 0, .int .i64 0, .int .i64 0]) ∧ Below w.heap.size w w' := by
  have hB : Blk (w.alloc (.cells #[.int .i64 0, .int .i64 0, .int .i64 0] 24)) w.heap.size 24 #[.int .i64 0, .int .i64 0, .int .i64 0] := heap_alloc_new w _
  go_enter Try.func38, Try.ntmps38
  go_wp2_with (refine wpList_store_row rfl 24 (.tmp 2) (.tmp 4) rfl w.heap.size #[.int .i64 0, .int .i64 0, .int .i64 0] rfl rfl 24 #[.int .i64 0, .int .i64 0, .int .i64 0] hB size24 rfl (by simp [Value.oneCell']) ?_)
  refine bodyPost_ret (results_cell_row (cs := #[.int .i64 0, .int .i64 0, .int .i64 0]) rfl _ _ w.heap.size 24 (0, 0) _ rfl (setRow_heap _ _ _ _ _ _ hB) Try.underlying24 rfl size24) rfl ?_
  exact ⟨rfl, below_setRow ((Below.refl _ w).alloc (Nat.le_refl _) _) (Nat.le_refl _) _⟩
theorem to_cell (c g : Int) (hc : 1 ≤ c) (w : World) : Calls Try.prog 53 #[.int .i64 c, .int .i64 g] w fun e w' => e = .returned (.agg #[.int .i64 c, .int .i64 c, .int .i64 g]) ∧ Below w.heap.size w w' := by
  have hB : Blk (w.alloc (.cells #[.int .i64 0, .int .i64 0, .int .i64 0] 24)) w.heap.size 24 #[.int .i64 0, .int .i64 0, .int .i64 0] := heap_alloc_new w _
  have h1 : decide (c < 1) = false := decide_eq_false (by omega)
  go_enter Try.func53, Try.ntmps53
  go_wp2_with (refine wpList_store_row rfl 24 (.tmp 4) (.tmp 11) rfl w.heap.size #[.int .i64 c, .int .i64 c, .int .i64 g] rfl rfl 24 #[.int .i64 0, .int .i64 0, .int .i64 0] hB size24 rfl (by simp [Value.oneCell']) ?_)
  refine bodyPost_ret (results_cell_row (cs := #[.int .i64 c, .int .i64 c, .int .i64 g]) rfl _ _ w.heap.size 24 (0, 0) _ rfl (setRow_heap _ _ _ _ _ _ hB) Try.underlying24 rfl size24) rfl ?_
  exact ⟨rfl, below_setRow ((Below.refl _ w).alloc (Nat.le_refl _) _) (Nat.le_refl _) _⟩
theorem is_any (x : Wd) (w : World) : Calls Try.prog 40 #[.agg x.cs.toArray] w fun e w' => e = .returned (.bool (decide (1 ≤ x.c))) ∧ Below w.heap.size w w' := by
  obtain ⟨n, c, g⟩ := x
  have hB : Blk (w.alloc (.cells #[.int .i64 n, .int .i64 c, .int .i64 g] 24)) w.heap.size 24 #[.int .i64 n, .int .i64 c, .int .i64 g] := heap_alloc_new w _
  have c1 := hB.cell 1
  have e : Wd.cs ⟨n, c, g⟩ = [.int .i64 n, .int .i64 c, .int .i64 g] := rfl
  rw [e]
  go_enter Try.func40, Try.ntmps40
  go_wp2
  go_ret
  exact ⟨rfl, (Below.refl _ w).alloc (Nat.le_refl _) _⟩
theorem in_any (x a b : Int) (w : World) : Calls Try.prog 44 #[.int .i64 x, .int .i64 a, .int .i64 b] w fun e w' => e = .returned (.bool (decide (a ≤ x) && decide (x ≤ b))) ∧ w = w' := by
  go_enter Try.func44, Try.ntmps44
  by_cases h1 : a ≤ x
  · have t1 : decide (a ≤ x) = true := decide_eq_true h1
    rw [t1]
    go_wp2
    go_ret
    exact ⟨by simp, rfl⟩
  · have t1 : decide (a ≤ x) = false := decide_eq_false h1
    rw [t1]
    go_wp2
    go_ret
    exact ⟨by simp, rfl⟩
theorem field_any (f : Int) (w : World) : Calls Try.prog 37 #[.int .i64 f] w fun e w' => e = .returned (.bool (decide (0 ≤ f) && decide (f ≤ 1))) ∧ w = w' := by
  go_enter Try.func37, Try.ntmps37
  go_wp2_with fail
  refine (in_any f 0 1 w).mono ?_
  rintro e w' ⟨rfl, rfl⟩
  go_wp2
  go_ret
  exact ⟨rfl, rfl⟩
/-- How many cells there are. -/
def cellsN (x : Int) : Nat := if x < 0 then 0 else if 6 < x then 6 else x.toNat
theorem cellsN_le (x : Int) : cellsN x ≤ 6 := by
  unfold cellsN
  split
  · omega
  · split <;> omega
theorem clamp_any (x : Int) (w : World) : Calls Try.prog 29 #[.int .i64 x, .int .i64 0, .int .i64 6] w fun e w' => e = .returned (.int .i64 (cellsN x : Int)) ∧ w = w' := by
  by_cases h1 : x < 0
  · have e : (cellsN x : Int) = 0 := by unfold cellsN; rw [if_pos h1]; rfl
    have t1 : decide (x < 0) = true := decide_eq_true h1
    rw [e]
    clear e
    go_enter Try.func29, Try.ntmps29
    go_wp2
    go_ret
    exact ⟨rfl, rfl⟩
  · have t1 : decide (x < 0) = false := decide_eq_false h1
    by_cases h2 : 6 < x
    · have e : (cellsN x : Int) = 6 := by unfold cellsN; rw [if_neg h1, if_pos h2]; rfl
      have t2 : decide (6 < x) = true := decide_eq_true h2
      rw [e]
      clear e
      go_enter Try.func29, Try.ntmps29
      go_wp2
      go_ret
      exact ⟨rfl, rfl⟩
    · have e : (cellsN x : Int) = x := by unfold cellsN; rw [if_neg h1, if_neg h2, Int.toNat_of_nonneg (by omega)]
      have t2 : decide (6 < x) = false := decide_eq_false h2
      rw [e]
      clear e
      go_enter Try.func29, Try.ntmps29
      go_wp2
      go_ret
      exact ⟨rfl, rfl⟩
theorem near_any (x : Int) (w : World) : Calls Try.prog 19 #[.int .i64 x, .int .i64 0, .int .i64 6] w fun e w' => e = .returned (.int .i64 (cellsN x : Int)) ∧ w = w' := by
  by_cases h1 : x < 0
  · have e : (cellsN x : Int) = 0 := by unfold cellsN; rw [if_pos h1]; rfl
    have t1 : decide (x < 0) = true := decide_eq_true h1
    rw [e]
    clear e
    go_enter Try.func19, Try.ntmps19
    go_wp2
    go_ret
    exact ⟨rfl, rfl⟩
  · have t1 : decide (x < 0) = false := decide_eq_false h1
    by_cases h2 : 6 < x
    · have e : (cellsN x : Int) = 6 := by unfold cellsN; rw [if_neg h1, if_pos h2]; rfl
      have t2 : decide (6 < x) = true := decide_eq_true h2
      rw [e]
      clear e
      go_enter Try.func19, Try.ntmps19
      go_wp2
      go_ret
      exact ⟨rfl, rfl⟩
    · have e : (cellsN x : Int) = x := by unfold cellsN; rw [if_neg h1, if_neg h2, Int.toNat_of_nonneg (by omega)]
      have t2 : decide (6 < x) = false := decide_eq_false h2
      rw [e]
      clear e
      go_enter Try.func19, Try.ntmps19
      go_wp2
      go_ret
      exact ⟨rfl, rfl⟩
section
variable {w w' : World} {p : Nat} {L : Lim} {C : List Cel} {R : List Int} {P : List Chg}
theorem some_any {ps cc n cr m : Nat} {Ac Ar : Option Addr} (h : Stk w ps Ac cc n Ar cr m C R) : Calls Try.prog 50 #[.pointer (some ⟨ps, 0, none⟩)] w fun e w' => e = .returned (.bool (decide (0 < m))) ∧ w = w' := by
  have c1 : w.cell? ⟨ps, 1, none⟩ = some (.slice Ar m cr) := h.box.cell 1
  go_enter Try.func50, Try.ntmps50
  go_wp2
  go_ret
  exact ⟨rfl, rfl⟩
set_option maxRecDepth 100000 in
theorem first_any {ps cc n cr q : Nat} {k : Int} {Ac Ar : Option Addr} (h : Stk w ps Ac cc n Ar cr (q + 1) C (k :: R)) (hq : q ≤ 6) : Calls Try.prog 51 #[.pointer (some ⟨ps, 0, none⟩)] w fun e w' => e = .returned (.int .i64 k) ∧ Below w.heap.size w w' := by
  have hl := h.lenR
  simp at hl
  have hx : (k :: R).reverse[q]? = some k := by rw [List.reverse_cons, ← hl, ← List.length_reverse]; simp
  obtain ⟨g, eA, _, hr, _⟩ := own_at int_len h.or hx (by omega)
  subst eA
  have c1 : w.cell? ⟨ps, 1, none⟩ = some (.slice (some ⟨g, 0, none⟩) (q + 1) cr) := h.box.cell 1
  have c2 : w.cell? ⟨g, q, none⟩ = some (.int .i64 k) := by simpa using hr 0 (.int .i64 k) rfl
  have hq1 : ((q + 1 : Nat) : Int) - 1 = (q : Int) := by omega
  have hq2 : (q : Int) + 1 - 1 = (q : Int) := by omega
  go_enter Try.func51, Try.ntmps51
  go_wp2_with fail
  go_region
  go_wp2
  go_ret
  exact ⟨rfl, (Below.refl _ w).drew⟩
end
theorem made_nil (w : World) : Calls Try.prog 41 #[.pointer none] w fun e w' => e = .returned (.bool false) ∧ w = w' := by
  go_enter Try.func41, Try.ntmps41
  go_wp2
  go_ret
  exact ⟨rfl, rfl⟩
theorem made_odd {w : World} {p : Nat} (h : w.cell? ⟨p, 0, none⟩ = some (.pointer none)) : Calls Try.prog 41 #[.pointer (some ⟨p, 0, none⟩)] w fun e w' => e = .returned (.bool false) ∧ w = w' := by
  go_enter Try.func41, Try.ntmps41
  go_wp2
  go_ret
  exact ⟨rfl, rfl⟩
theorem made_some {w : World} {p : Nat} {a : Addr} (h : w.cell? ⟨p, 0, none⟩ = some (.pointer (some a))) : Calls Try.prog 41 #[.pointer (some ⟨p, 0, none⟩)] w fun e w' => e = .returned (.bool true) ∧ w = w' := by
  go_enter Try.func41, Try.ntmps41
  go_wp2
  go_ret
  exact ⟨rfl, rfl⟩
theorem has_no {w : World} {v : Value} {k : Int} (h : Calls Try.prog 41 #[v] w fun e w' => e = .returned (.bool false) ∧ w = w') : Calls Try.prog 36 #[v, .int .i64 k] w fun e w' => e = .returned (.bool false) ∧ w = w' := by
  go_enter Try.func36, Try.ntmps36
  go_wp2_with fail
  refine h.mono ?_
  rintro e w' ⟨rfl, rfl⟩
  go_wp2
  go_ret
  exact ⟨rfl, rfl⟩
section
variable {w w' : World} {p : Nat} {L : Lim} {C : List Cel} {R : List Int} {P : List Chg}
theorem has_any (H : Are w p L C R P) (k : Int) : Calls Try.prog 36 #[.pointer (some ⟨p, 0, none⟩), .int .i64 k] w fun e w' => e = .returned (.bool (decide (1 ≤ k) && decide (k ≤ (L.n : Int)))) ∧ w = w' := by
  have a0 := H.at0
  have a1 := H.at1
  have c0 : w.cell? ⟨L.ps, 0, none⟩ = some (.slice L.Ac L.n L.cc) := H.stock.box.cell 0
  go_enter Try.func36, Try.ntmps36
  go_wp2_with fail
  refine (made_some a0).mono ?_
  rintro e w' ⟨rfl, rfl⟩
  go_wp2_with fail
  refine (in_any k 1 L.n w).mono ?_
  rintro e w' ⟨rfl, rfl⟩
  go_wp2
  go_ret
  exact ⟨by simp, rfl⟩
end
end Go.Proofs.Ytdilmapcjmdabaa
