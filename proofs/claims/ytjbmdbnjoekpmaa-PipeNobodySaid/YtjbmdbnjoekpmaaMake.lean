/- A new pipe: of the room that is the nearest within its bounds. Conditions: none. -/
import Derived.Test.YtjbmdbnjoekpmaaCalls
import Derived.Conc.SmallLaws
namespace Go.Proofs.Ytjbmdbnjoekpmaa
open Go.RowKit Go.Conc

/-- The nearest number from 0 to 256. -/
def near (n : Int) : Nat := if n < 0 then 0 else if 256 < n then 256 else n.toNat
theorem near_le (n : Int) : near n ≤ 256 := by
  unfold near
  split
  · omega
  · split <;> omega
theorem clamp_any (n : Int) (w : World) : Calls Try.prog 18 #[.int .i64 n, .int .i64 0, .int .i64 256] w fun e w' => e = .returned (.int .i64 (near n : Int)) ∧ w = w' := by
  by_cases h1 : n < 0
  · have e : (near n : Int) = 0 := by simp [near, h1]
    rw [e]
    go_enter Try.func18, Try.ntmps18
    go_wp2
    go_ret
    exact ⟨rfl, rfl⟩
  · by_cases h2 : 256 < n
    · have e : (near n : Int) = 256 := by simp [near, h1, h2]
      rw [e]
      have h3 : decide (n < 0) = false := by simp; omega
      clear h1
      go_enter Try.func18, Try.ntmps18
      go_wp2
      go_ret
      exact ⟨rfl, rfl⟩
    · have e : (near n : Int) = n := by simp [near, h1, h2]; omega
      rw [e]
      have h3 : decide (n < 0) = false := by simp; omega
      have h4 : decide (256 < n) = false := by simp; omega
      clear h1 h2
      go_enter Try.func18, Try.ntmps18
      go_wp2
      go_ret
      exact ⟨rfl, rfl⟩
theorem near_any (n : Int) (w : World) : Calls Try.prog 8 #[.int .i64 n, .int .i64 0, .int .i64 256] w fun e w' => e = .returned (.int .i64 (near n : Int)) ∧ w = w' := by
  by_cases h1 : n < 0
  · have e : (near n : Int) = 0 := by simp [near, h1]
    rw [e]
    go_enter Try.func8, Try.ntmps8
    go_wp2
    go_ret
    exact ⟨rfl, rfl⟩
  · by_cases h2 : 256 < n
    · have e : (near n : Int) = 256 := by simp [near, h1, h2]
      rw [e]
      have h3 : decide (n < 0) = false := by simp; omega
      clear h1
      go_enter Try.func8, Try.ntmps8
      go_wp2
      go_ret
      exact ⟨rfl, rfl⟩
    · have e : (near n : Int) = n := by simp [near, h1, h2]; omega
      rw [e]
      have h3 : decide (n < 0) = false := by simp; omega
      have h4 : decide (256 < n) = false := by simp; omega
      clear h1 h2
      go_enter Try.func8, Try.ntmps8
      go_wp2
      go_ret
      exact ⟨rfl, rfl⟩

theorem make_chan (k : Nat) (hk : k ≤ 256) (w : World) : (Instr.makeChan 36 (.int .i64 (k : Int))).run Try.prog w = .ok (.chan (some w.heap.size)) (w.alloc (.chan k #[] false 0 0 false)) := by
  have h : (Try.prog.info? 3).map (·.bytes) = some 8 := by kernel_rfl
  obtain ⟨i, hi, hb⟩ := Option.map_eq_some_iff.1 h
  exact run_makeChan (P := Try.prog) (w := w) Try.underlying36 hi .i64 k (by omega) (by rw [hb]; omega)

theorem newRow_any (k : Nat) (hk : k ≤ 256) (w : World) : Calls Try.prog 17 #[.int .i64 (k : Int)] w fun e w' => ∃ c, e = .returned (.agg #[.chan (some c)]) ∧ Holds w' c k [] ∧ w.heap.size ≤ c ∧ Below w.heap.size w w' := by
  have hmc := make_chan k hk
  go_enter Try.func17, Try.ntmps17
  go_wp2
  refine bodyPost_ret (results_cell_row (cs := #[.chan (some (w.heap.size + 1))]) rfl _ _ w.heap.size 38 (0, 0) _ rfl ?_ Try.underlying38 rfl (by kernel_rfl)) rfl ?_
  · rw [Below.heap_alloc _ _ _ (by simp)]
    exact heap_alloc_new w _
  · refine ⟨w.heap.size + 1, rfl, ⟨⟨0, 0, ?_⟩, Nat.zero_le _⟩, by omega, ((Below.refl _ w).alloc (Nat.le_refl _) _).alloc (by simp) _⟩
    have := heap_alloc_new (w.alloc (.cells #[.chan (some (w.heap.size + 1))] 38)) (.chan k #[] false 0 0 false)
    simpa [ints] using this

theorem new_any (n : Int) (w : World) : Calls Try.prog 7 #[.int .i64 n] w fun e w' => ∃ p c, e = .returned (.pointer (some ⟨p, 0, none⟩)) ∧ Pip w' p c (near n) [] ∧ w.heap.size ≤ p ∧ w.heap.size ≤ c ∧ Below w.heap.size w w' := by
  have hk := near_le n
  go_enter Try.func7, Try.ntmps7
  go_wp2_with (first
    | (go_at_call 18; refine (clamp_any n _).mono ?_; rintro e w' ⟨rfl, rfl⟩)
    | (go_at_call 17; refine (newRow_any _ hk _).mono ?_; rintro e w1 ⟨c, rfl, h1, hc1, hb1⟩))
  go_ret
  have hs := hb1.size
  have hb2 := (Below.refl w1.heap.size w1).alloc (Nat.le_refl _) (.cells #[.chan (some c)] 40)
  exact ⟨w1.heap.size, c, rfl, ⟨heap_alloc_new w1 _, h1.below hb2, hk⟩, hs, hc1, hb1.trans (hb2.mono hs)⟩
end Go.Proofs.Ytjbmdbnjoekpmaa
