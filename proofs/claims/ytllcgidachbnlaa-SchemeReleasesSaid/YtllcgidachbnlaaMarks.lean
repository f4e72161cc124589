/- An epoch's mark, whether a mark agrees, and in which part of a bag what was retired stands. Conditions: numbers of 64 bits where they are named. -/
import Derived.Test.YtllcgidachbnlaaBase
namespace Go.Proofs.Ytllcgidachbnlaa
open Go.RowKit Go.ChangeShapes Go.WideShapes

/-- A number of 64 bits. -/
def Wide (n : Int) : Prop := -9223372036854775808 ≤ n ∧ n ≤ 9223372036854775807
theorem wide_of {n : Int} (h : (Lit.int .i64 n).wf = true) : Wide n := (Lit.wf_int_iff .i64 n).1 h
/-- An epoch's mark. -/
def markZ (e : Int) : Int := wrap64 (2 * e + 1)
/-- May what was retired in n go in e? -/
def goB (n e : Int) : Bool := decide (n + 2 ≤ e)
theorem u64_mod (n : Int) : IntKind.u64.wrap n = n % 18446744073709551616 := by
  simp [IntKind.wrap, IntKind.bits, IntKind.signed]
theorem mark_two (e : Int) : wrap64 (wrap64 (2 * e) + 1) = markZ e := by unfold markZ wrap64; omega
theorem mark_law (e : Int) : wrap64 (IntKind.u64.wrap (IntKind.u64.wrap (IntKind.u64.wrap e * 2) + 1)) = markZ e := by
  simp only [u64_mod]
  unfold markZ wrap64
  omega
theorem add_any (a b : Int) (w : World) : Calls Try.prog 66 #[.int .i64 a, .int .i64 b] w fun e w' => e = .returned (.int .i64 (wrap64 (a + b))) ∧ w = w' := by
  go_enter Try.func66, Try.ntmps66
  go_wp2
  go_ret
  exact ⟨rfl, rfl⟩
theorem mul_any (a b : Int) (w : World) : Calls Try.prog 67 #[.int .i64 a, .int .i64 b] w fun e w' => e = .returned (.int .i64 (wrap64 (a * b))) ∧ w = w' := by
  go_enter Try.func67, Try.ntmps67
  go_wp2
  go_ret
  exact ⟨rfl, rfl⟩
theorem mark_any (e : Int) (w : World) : Calls Try.prog 59 #[.int .i64 e] w fun r w' => r = .returned (.int .i64 (markZ e)) ∧ w = w' := by
  have c1 := mul_any 2 e
  have c2 := add_any (wrap64 (2 * e)) 1
  rw [mark_two] at c2
  generalize wrap64 (2 * e) = m at *
  generalize markZ e = M at *
  go_enter Try.func59, Try.ntmps59
  go_wp2_with (first | (go_at_call 67; refine (c1 _).mono ?_; rintro e w' ⟨rfl, rfl⟩) | (go_at_call 66; refine (c2 _).mono ?_; rintro e w' ⟨rfl, rfl⟩))
  go_ret
  exact ⟨rfl, rfl⟩
theorem agrees_any (m e : Int) (w : World) : Calls Try.prog 52 #[.int .i64 m, .int .i64 e] w fun r w' => r = .returned (.bool (m == 0 || m == markZ e)) ∧ w = w' := by
  have c1 := mark_any e
  generalize markZ e = M at *
  by_cases h0 : m = 0
  · subst h0
    go_enter Try.func52, Try.ntmps52
    go_wp2_with (go_at_call 59; refine (c1 _).mono ?_; rintro e w' ⟨rfl, rfl⟩)
    go_ret
    exact ⟨by simp, rfl⟩
  · have t0 : (m == 0) = false := by simp [h0]
    obtain ⟨b, eb⟩ : ∃ b, (m == M) = b := ⟨_, rfl⟩
    rw [t0, eb]
    clear h0
    go_enter Try.func52, Try.ntmps52
    go_wp2_with (go_at_call 59; refine (c1 _).mono ?_; rintro e w' ⟨rfl, rfl⟩)
    go_ret
    exact ⟨by simp, rfl⟩
/-- In which part. -/
def partZ (n e : Int) : Int := if goB n e = true then 0 else 1
theorem part_any (n e : Int) (hn : Wide n) (he : Wide e) (w : World) : Calls Try.prog 57 #[.int .i64 n, .int .i64 e] w fun r w' => r = .returned (.int .i64 (partZ n e)) ∧ w = w' := by
  obtain ⟨n1, n2⟩ := hn
  obtain ⟨e1, e2⟩ := he
  unfold partZ goB
  by_cases h0 : -9223372036854775806 ≤ e
  · have t0 : decide (-9223372036854775806 ≤ e) = true := decide_eq_true h0
    have h1 : -9223372036854775808 ≤ e - 2 := by omega
    have h2 : e - 2 ≤ 9223372036854775807 := by omega
    by_cases h3 : n + 2 ≤ e
    · have t1 : decide (n ≤ e - 2) = true := decide_eq_true (by omega)
      have t2 : decide (n + 2 ≤ e) = true := decide_eq_true h3
      rw [t2, if_pos rfl]
      clear h3 t2
      go_enter Try.func57, Try.ntmps57
      go_wp2
      go_ret
      exact ⟨rfl, rfl⟩
    · have t1 : decide (n ≤ e - 2) = false := decide_eq_false (by omega)
      have t2 : decide (n + 2 ≤ e) = false := decide_eq_false h3
      rw [t2, if_neg (by decide)]
      clear h3 t2
      go_enter Try.func57, Try.ntmps57
      go_wp2
      go_ret
      exact ⟨rfl, rfl⟩
  · have t0 : decide (-9223372036854775806 ≤ e) = false := decide_eq_false h0
    have t2 : decide (n + 2 ≤ e) = false := decide_eq_false (by omega)
    rw [t2, if_neg (by decide)]
    clear t2
    go_enter Try.func57, Try.ntmps57
    go_wp2
    go_ret
    exact ⟨rfl, rfl⟩
end Go.Proofs.Ytllcgidachbnlaa
