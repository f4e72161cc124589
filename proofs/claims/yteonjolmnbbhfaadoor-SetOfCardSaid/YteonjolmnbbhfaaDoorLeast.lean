/- The first of any set is in it, and no lesser one is: the walk. Conditions: the table of math/bits lies as it is laid. -/
import Derived.Test.YteonjolmnbbhfaaDoorTurns
namespace Go.Proofs.YteonjolmnbbhfaaDoor
open Go.RowKit

theorem least_none (w : World) (hT : Tab w) : Calls Tryd.prog 5 #[.int .u64 0] w fun e w' => e = .returned (.bool true) ∧ Below w.heap.size w w' := by
  have hw0 := tab_lt hT
  have F : ∀ w : World, Tab w → Calls Tryd.prog 15 #[.int .u64 0] w fun e w' => e = .returned (.tuple #[.int .i64 0, .bool false]) ∧ Below w.heap.size w w' := fun w hT => first_any 0 (by decide) w hT
  have C : ∀ w : World, Calls Tryd.prog 11 #[.int .u64 0] w fun e w' => e = .returned (.int .i64 0) ∧ w = w' := fun w => by
    have h := count_any 0 (by decide) w
    rw [mem_zero] at h
    exact h
  have L : ∀ w : World, Tab w → Calls Tryd.prog 10 #[.int .u64 0] w fun e w' => ∃ A cap, e = .returned (.slice A 0 cap) ∧ Below w.heap.size w w' := fun w hT => by
    have h := list_row 0 (by decide) w hT
    rw [mem_zero] at h
    exact h.mono fun e w' ⟨A, cap, he, _, hb⟩ => ⟨A, cap, he, hb⟩
  go_enter Tryd.func5, Tryd.ntmps5
  go_wp2_with (first
    | (go_at_call 6; refine (alive_any _ hT).mono ?_; rintro e w1 ⟨rfl, hb1⟩; have hT1 := hT.below hw0 hb1)
    | (go_at_call 15; refine (F _ hT1).mono ?_; rintro e w2 ⟨rfl, hb2⟩; have hT2 := hT1.below (tab_lt hT1) hb2)
    | (go_at_call 11; refine (C _).mono ?_; rintro e w' ⟨rfl, rfl⟩)
    | (go_at_call 10; refine (L _ hT2).mono ?_; rintro e w3 ⟨A, cap, rfl, hb3⟩))
  go_ret
  exact ⟨rfl, hb1.trans (((hb2.trans (hb3.mono hb2.size))).mono hb1.size)⟩

theorem least_some (s c t m : Nat) (hs : s < 18446744073709551616) (ht : t < 18446744073709551616) (hc : c < 64) (hm : m < 64) (h0 : ((s : Int) == 0) = false)
    (F : ∀ w : World, Tab w → Calls Tryd.prog 15 #[.int .u64 (s : Int)] w fun e w' => e = .returned (.tuple #[.int .i64 (c : Int), .bool true]) ∧ Below w.heap.size w w')
    (H : ∀ k : Nat, k < c → ∀ w : World, Calls Tryd.prog 8 #[.int .u64 (s : Int), .int .i64 (k : Int)] w fun e w' => e = .returned (.bool false) ∧ w = w')
    (H1 : ∀ w : World, Calls Tryd.prog 8 #[.int .u64 (s : Int), .int .i64 (c : Int)] w fun e w' => e = .returned (.bool true) ∧ w = w')
    (L : ∀ w : World, Calls Tryd.prog 13 #[.int .u64 (s : Int), .int .i64 (c : Int)] w fun e w' => e = .returned (.int .u64 (t : Int)) ∧ w = w')
    (ht0 : (mem t).length = m) (hs0 : (mem s).length = m + 1) (w : World) (hT : Tab w) :
    Calls Tryd.prog 5 #[.int .u64 (s : Int)] w fun e w' => e = .returned (.bool true) ∧ Below w.heap.size w w' := by
  have hw0 := tab_lt hT
  go_enter Tryd.func5, Tryd.ntmps5
  go_wp2_with (first
    | (go_at_call 6; refine (alive_any _ hT).mono ?_; rintro e w1 ⟨rfl, hb1⟩; have hT1 := hT.below hw0 hb1)
    | (go_at_call 15; refine (F _ hT1).mono ?_; rintro e w2 ⟨rfl, hb2⟩))
  go_loop [5] (fun i => ∃ k : Nat, k ≤ c ∧ i = .int .i64 k) (fun i => c - (intOf i).toNat)
  case atStart => exact ⟨0, Nat.zero_le _, rfl⟩
  case round =>
    obtain ⟨k, hk, rfl⟩ := hrel
    by_cases hlt : k < c
    · have hk64 : (k : Int) < 64 := by omega
      go_wp2_with (first
        | (go_at_call 8; refine (H k hlt _).mono ?_; rintro e w' ⟨rfl, rfl⟩))
      go_round
      case rel => exact ⟨k + 1, by omega, by go_num⟩
      case measure => simp [intOf]; omega
    · have hk64 : (k : Int) < 64 := by omega
      go_wp2_with (first
        | (go_at_call 8; refine (H1 _).mono ?_; rintro e w' ⟨rfl, rfl⟩)
        | (go_at_call 13; refine (L _).mono ?_; rintro e w' ⟨rfl, rfl⟩)
        | (go_at_call 11; refine (count_any _ (by assumption) _).mono ?_; rintro e w' ⟨rfl, rfl⟩))
      go_ret
      exact ⟨rfl, hb1.trans (hb2.mono hb1.size)⟩
theorem least_walk (s : Nat) (hs : s < 18446744073709551616) (w : World) (hT : Tab w) :
    Calls Tryd.prog 5 #[.int .u64 (s : Int)] w fun e w' => e = .returned (.bool true) ∧ Below w.heap.size w w' := by
  by_cases h0 : s = 0
  · subst h0
    exact least_none w hT
  · obtain ⟨h1, hk, hlow⟩ := ctz_bit s h0 hs
    have hst := mem_step s h0 hs
    have e1 : firstN s = (Lib.ctz 64 s : Nat) := by simp [firstN, h0]
    have e2 : someN s = true := by simp [someN, h0]
    have hl : (mem s).length = (mem (lessN s (Lib.ctz 64 s : Nat))).length + 1 := by rw [hst]; simp
    have hm := mem_len s
    refine least_some s (Lib.ctz 64 s) (lessN s (Lib.ctz 64 s : Nat)) _ hs (less_lt _ _ hs) hk (by omega) (by simpa using h0) (fun w hT => ?_) (fun k hkc w => ?_) (fun w => ?_) (fun w => less_any s _ hs w) rfl hl w hT
    · have h := first_any s hs w hT
      rw [e1, e2] at h
      exact h
    · have h := has_any s (k : Int) hs w
      rw [has_in s k (by omega), hlow k hkc] at h
      exact h
    · have h := has_any s ((Lib.ctz 64 s : Nat) : Int) hs w
      rw [has_in s _ hk, h1] at h
      exact h
end Go.Proofs.YteonjolmnbbhfaaDoor
