/- Of any number of tokens just as many can be spent: the walk. Conditions: none. -/
import Derived.Test.YtlefbjoigehbkaaAlive
namespace Go.Proofs.Ytlefbjoigehbkaa
open Go.RowKit Go.Conc

/-- How many of cap tokens went behind i calls. -/
def went (cap i : Nat) : Nat := if i < cap then i else cap
theorem near_went (cap i : Nat) : near (i : Int) 0 (cap : Int) = (went cap i : Int) := by
  unfold near went
  split
  · omega
  · split
    · split <;> omega
    · split <;> omega
theorem more_went (cap i : Nat) : more cap (went cap i) = went cap (i + 1) := by
  unfold more went
  repeat' split
  all_goals omega
theorem lt_went (cap i : Nat) : decide (went cap i < cap) = decide ((i : Int) < (cap : Int)) := by
  unfold went
  by_cases h : i < cap
  · simp [h]
  · simp [h]
theorem went_le (cap i : Nat) : went cap i ≤ cap := by
  unfold went
  split <;> omega

theorem went_zero (cap : Nat) : went cap 0 = 0 := by
  unfold went
  split <;> omega

set_option maxRecDepth 100000 in
set_option maxHeartbeats 2000000 in
theorem spends_walk (t n : Int) (w : World) : Calls Try.prog 3 #[.int .i64 t, .int .i64 n] w fun e w' => e = .returned (.bool true) ∧ Below w.heap.size w w' := by
  obtain ⟨all, hall, hmost⟩ := near_nat t 1048576
  obtain ⟨m, hm, hm3⟩ := near_nat n 3000
  have hall' : near t 0 1048576 = all := hall
  have hm' : near n 0 3000 = m := hm
  have hnew := new_any t all hall' hmost
  have hn1 := near_any t 0 1048576
  have hn2 := near_any n 0 3000
  rw [hall'] at hn1
  rw [hm'] at hn2
  clear hall hm hall' hm'
  go_enter Try.func3, Try.ntmps3
  go_wp2_with fail
  refine (alive_any w).mono ?_
  rintro e w1 ⟨rfl, hb1⟩
  go_wp2_with fail
  refine (hnew w1).mono ?_
  rintro e w2 ⟨p, c, rfl, h2, hp2, hc2, hb2⟩
  go_wp2_with fail
  refine (hn1 w2).mono ?_
  rintro e w' ⟨rfl, rfl⟩
  go_wp2_with fail
  refine (hn2 w2).mono ?_
  rintro e w' ⟨rfl, rfl⟩
  have hB2 : Below w.heap.size w w2 := hb1.trans (hb2.mono hb1.size)
  have hcw : w.heap.size ≤ c := Nat.le_trans hb1.size hc2
  clear hb1 hb2 hp2 hc2 hn1 hn2 hnew
  go_wp2_with fail
  go_loopw [7] (fun i wr => ∃ k : Nat, i = .int .i64 k ∧ k ≤ m ∧ Mtr wr p c all (went all k) ∧ Below w.heap.size w wr) (fun i _ => m - (intOf i).toNat)
  case atStart => exact ⟨0, rfl, Nat.zero_le _, by rw [went_zero]; exact h2, hB2⟩
  case round =>
    obtain ⟨k, rfl, hkm, hk, hbr⟩ := hrel
    clear h2 hB2
    have kl := left_any p c all (went all k) wr hk
    have ks := spent_any p c all (went all k) wr hk
    have kn := near_any (k : Int) 0 (all : Int) wr
    have kd := spend_any p c all (went all k) wr hk
    rw [near_went] at kn
    rw [more_went, lt_went] at kd
    have hw := went_le all k
    by_cases hk1 : k < m
    · generalize went all k = s at kl ks kn kd hw
      obtain ⟨b, hb⟩ : ∃ b, b = decide ((k : Int) < (all : Int)) := ⟨_, rfl⟩
      rw [← hb] at kd
      go_wp2_with (first
        | (go_at_call 8; refine kl.mono ?_; rintro e w' ⟨rfl, rfl⟩)
        | (go_at_call 7; refine kn.mono ?_; rintro e w' ⟨rfl, rfl⟩)
        | (go_at_call 9; refine ks.mono ?_; rintro e w' ⟨rfl, rfl⟩)
        | (go_at_call 10; refine kd.mono ?_; rintro e w4 ⟨rfl, h4, hg4⟩))
      go_roundw
      case rel => exact ⟨k + 1, by go_num, by omega, h4, hbr.grown hg4 hbr.size (fun j hj => by injection hj with hj; rw [← hj]; exact hcw)⟩
      case measure => simp [intOf]; omega
    · obtain rfl : k = m := by omega
      generalize went all k = s at kl ks kn kd hw
      clear kn kd
      go_wp2_with (first
        | (go_at_call 8; refine kl.mono ?_; rintro e w' ⟨rfl, rfl⟩)
        | (go_at_call 9; refine ks.mono ?_; rintro e w' ⟨rfl, rfl⟩))
      go_ret
      exact ⟨by simp, hbr⟩
end Go.Proofs.Ytlefbjoigehbkaa
