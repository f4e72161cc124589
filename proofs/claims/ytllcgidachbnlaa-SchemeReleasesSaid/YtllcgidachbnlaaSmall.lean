/- A number held within bounds; whether one is; how many slots there are, and where the i-th is. Conditions: none. -/
import Derived.Test.YtllcgidachbnlaaBase
namespace Go.Proofs.Ytllcgidachbnlaa
open Go.RowKit Go.ChangeShapes Go.WideShapes

/-- The nearest number from 0 to hi. -/
def cl (n hi : Int) : Int := if n < 0 then 0 else if hi < n then hi else n
theorem cl_of (n hi : Int) (h : 0 ≤ hi) : 0 ≤ cl n hi ∧ cl n hi ≤ hi := by
  unfold cl
  split
  · omega
  · split <;> omega
set_option maxRecDepth 100000 in
theorem clamp_any (n hi : Int) (w : World) : Calls Try.prog 40 #[.int .i64 n, .int .i64 0, .int .i64 hi] w fun e w' => e = .returned (.int .i64 (cl n hi)) ∧ w = w' := by
  obtain ⟨M, eM⟩ : ∃ M, M = cl n hi := ⟨_, rfl⟩
  rw [← eM]
  unfold cl at eM
  by_cases h0 : n < 0
  · rw [if_pos h0] at eM
    subst eM
    have t0 : decide (n < 0) = true := decide_eq_true h0
    go_enter Try.func40, Try.ntmps40
    go_wp2
    go_ret
    exact ⟨rfl, rfl⟩
  · rw [if_neg h0] at eM
    have t0 : decide (n < 0) = false := decide_eq_false h0
    by_cases h1 : hi < n
    · rw [if_pos h1] at eM
      subst eM
      have t1 : decide (M < n) = true := decide_eq_true h1
      go_enter Try.func40, Try.ntmps40
      go_wp2
      go_ret
      exact ⟨rfl, rfl⟩
    · rw [if_neg h1] at eM
      subst eM
      have t1 : decide (hi < M) = false := decide_eq_false h1
      go_enter Try.func40, Try.ntmps40
      go_wp2
      go_ret
      exact ⟨rfl, rfl⟩
/-- Is x from a to b? -/
def inB (x a b : Int) : Bool := decide (a ≤ x) && decide (x ≤ b)
set_option maxRecDepth 100000 in
theorem in_any (x a b : Int) (w : World) : Calls Try.prog 48 #[.int .i64 x, .int .i64 a, .int .i64 b] w fun e w' => e = .returned (.bool (inB x a b)) ∧ w = w' := by
  by_cases h0 : a ≤ x
  · have t0 : decide (a ≤ x) = true := decide_eq_true h0
    have e : inB x a b = decide (x ≤ b) := by unfold inB; rw [t0]; rfl
    rw [e]
    clear e
    go_enter Try.func48, Try.ntmps48
    go_wp2
    go_ret
    exact ⟨rfl, rfl⟩
  · have t0 : decide (a ≤ x) = false := decide_eq_false h0
    have e : inB x a b = false := by unfold inB; rw [t0]; rfl
    rw [e]
    clear e
    go_enter Try.func48, Try.ntmps48
    go_wp2
    go_ret
    exact ⟨rfl, rfl⟩
set_option maxRecDepth 100000 in
theorem each_any (sl : Int) (w : World) : Calls Try.prog 50 #[.int .i64 sl] w fun e w' => e = .returned (.int .i64 (cl sl 2)) ∧ w = w' := by
  go_enter Try.func50, Try.ntmps50
  go_wp2_with (go_at_call 40; refine (clamp_any sl 2 _).mono ?_; rintro e w' ⟨rfl, rfl⟩)
  go_ret
  exact ⟨rfl, rfl⟩
theorem all_of (th sl : Int) : 0 ≤ cl th 4 * cl sl 2 ∧ cl th 4 * cl sl 2 ≤ 8 := by
  obtain ⟨a, b⟩ := cl_of th 4 (by omega)
  obtain ⟨c, d⟩ := cl_of sl 2 (by omega)
  refine ⟨Int.mul_nonneg a c, ?_⟩
  have h1 : cl th 4 * cl sl 2 ≤ 4 * cl sl 2 := Int.mul_le_mul_of_nonneg_right b c
  omega
set_option maxRecDepth 100000 in
theorem count_any (th sl : Int) (w : World) : Calls Try.prog 49 #[.int .i64 th, .int .i64 sl] w fun e w' => e = .returned (.int .i64 (cl th 4 * cl sl 2)) ∧ w = w' := by
  obtain ⟨h0, h8⟩ := all_of th sl
  have c1 := clamp_any th 4 w
  have c2 := each_any sl w
  generalize cl th 4 = n at *
  generalize cl sl 2 = m at *
  have t1 : (-9223372036854775808 : Int) ≤ n * m := by omega
  have t2 : n * m ≤ 9223372036854775807 := by omega
  go_enter Try.func49, Try.ntmps49
  go_wp2_with (first | (go_at_call 40; refine c1.mono ?_; rintro e w' ⟨rfl, rfl⟩) | (go_at_call 50; refine c2.mono ?_; rintro e w' ⟨rfl, rfl⟩))
  go_ret
  exact ⟨rfl, rfl⟩
theorem res7 (tmps : Array Value) (w : World) (g : Nat) (x : Pl) (u : Value) (hp : tmps[6]?.getD undef = .pointer (some ⟨g, 0, none⟩)) (hu : tmps[7]?.getD undef = u) (hg : Blk w g 52 x.cs.toArray) :
    (results Try.f31 tmps).run Try.prog w = .ok (.tuple #[.agg x.cs.toArray, u]) w := by
  have hr : Try.f31.results = #[.cell 6 52, .tmp 7] := by kernel_rfl
  rw [results_cell_tmp hr]
  have h2 : tmps.getD 6 undef = .pointer (some ⟨g, 0, none⟩) := by simpa using hp
  have h3 : tmps.getD 7 undef = u := by simpa using hu
  rw [h2, h3]
  have hl := run_loadVar_row w g 52 52 x.cs.toArray (0, 0) _ hg Try.underlying52 rfl size52
  simp [asAddr, Result.andThen, hl]
/-- Is there an i-th slot, and where is it? -/
def slotB (i th sl : Int) : Bool := decide (0 ≤ i) && decide (i < cl th 4 * cl sl 2)
def slotP (i th sl : Int) : Pl := if slotB i th sl = true then ⟨5, i / cl sl 2, i % cl sl 2⟩ else noP
set_option maxRecDepth 100000 in
set_option maxHeartbeats 2000000 in
theorem slot_any (i th sl : Int) (w : World) : Calls Try.prog 31 #[.int .i64 i, .int .i64 th, .int .i64 sl] w fun e w' => e = .returned (.tuple #[.agg (slotP i th sl).cs.toArray, .bool (slotB i th sl)]) ∧ Below w.heap.size w w' := by
  obtain ⟨h0, h8⟩ := all_of th sl
  obtain ⟨P, eP⟩ : ∃ P, slotP i th sl = P := ⟨_, rfl⟩
  obtain ⟨b, eb⟩ : ∃ b, slotB i th sl = b := ⟨_, rfl⟩
  rw [eP, eb]
  unfold slotP at eP
  rw [eb] at eP
  unfold slotB at eb
  have c1 : ∀ W, _ := fun W => count_any th sl W
  have c2 : ∀ W, _ := fun W => each_any sl W
  obtain ⟨s0, s2⟩ := cl_of sl 2 (by omega)
  have ho : b = true → 1 ≤ cl sl 2 := fun h => by
    rw [h] at eb
    simp only [Bool.and_eq_true, decide_eq_true_eq] at eb
    rcases Int.lt_or_le (cl sl 2) 1 with hs | hs
    · have e0 : cl sl 2 = 0 := by omega
      rw [e0, Int.mul_zero] at eb
      omega
    · exact hs
  generalize cl th 4 * cl sl 2 = M at *
  generalize cl sl 2 = S at *
  have c3 : ∀ W, _ := fun W => in_any i 0 (M - 1) W
  have e3 : inB i 0 (M - 1) = b := by
    rw [← eb]
    unfold inB
    congr 1
    exact decide_eq_decide.2 (by omega)
  rw [e3] at c3
  have t1 : (-9223372036854775808 : Int) ≤ M - 1 := by omega
  have t2 : M - 1 ≤ 9223372036854775807 := by omega
  cases b with
  | false =>
    simp only [Bool.false_eq_true, if_false] at eP
    subst eP
    clear eb e3 ho
    go_enter Try.func31, Try.ntmps31
    go_wp2_with (first | (go_at_call 49; refine (c1 _).mono ?_; rintro e w' ⟨rfl, rfl⟩) | (go_at_call 48; refine (c3 _).mono ?_; rintro e w' ⟨rfl, rfl⟩))
    refine bodyPost_ret (res7 _ _ w.heap.size noP (.bool false) rfl rfl (heap_alloc_new w _)) rfl ?_
    exact ⟨rfl, (Below.refl _ w).alloc (Nat.le_refl _) _⟩
  | true =>
    have ho1 := ho rfl
    simp only [if_true] at eP
    simp only [Bool.and_eq_true, decide_eq_true_eq] at eb
    obtain ⟨i0, iM⟩ := eb
    have z0 : (S == 0) = false := by simpa using (show S ≠ 0 by omega)
    clear e3 ho
    go_enter Try.func31, Try.ntmps31
    go_wp2_with (first | (go_at_call 49; refine (c1 _).mono ?_; rintro e w' ⟨rfl, rfl⟩) | (go_at_call 48; refine (c3 _).mono ?_; rintro e w' ⟨rfl, rfl⟩) | (go_at_call 50; refine (c2 _).mono ?_; rintro e w' ⟨rfl, rfl⟩))
    subst eP
    go_region
    go_wp2
    refine bodyPost_ret (res7 _ _ w.heap.size ⟨5, i / S, i % S⟩ (.bool true) rfl rfl (heap_alloc_new w _)) rfl ?_
    exact ⟨rfl, below_dn ((Below.refl _ w).alloc (Nat.le_refl _) _) 1⟩
end Go.Proofs.Ytllcgidachbnlaa
