/- The check of one set that each law begins with. Conditions: the table of math/bits lies as it is laid. -/
import Derived.Test.YteonjolmnbbhfaaDoorOf
namespace Go.Proofs.YteonjolmnbbhfaaDoor
open Go.RowKit

theorem tab_lt {w : World} (hT : Tab w) : 0 < w.heap.size := World.block_lt_of_cell? w _ (hT 0 (by decide))
theorem list_row (s : Nat) (hs : s < 18446744073709551616) (w : World) (hT : Tab w) :
    Calls Tryd.prog 10 #[.int .u64 (s : Int)] w fun e w' => ∃ A cap, e = .returned (.slice A (mem s).length cap) ∧ Row w' w'.heap.size A (mem s).length cap ((mem s).map fun (x : Nat) => (x : Int)) ∧ Below w.heap.size w w' := by
  refine (list_any s hs w hT).mono ?_
  rintro e w' ⟨v, rfl, hr, hb⟩
  obtain ⟨A, cap, rfl, hrow⟩ := Row.own hr
  exact ⟨A, cap, rfl, hrow, hb⟩

theorem first_ten (w : World) (hT : Tab w) : Calls Tryd.prog 15 #[.int .u64 10] w fun e w' => e = .returned (.tuple #[.int .i64 1, .bool true]) ∧ Below w.heap.size w w' := by
  have h := first_any 10 (by decide) w hT
  have e1 : firstN 10 = 1 := by decide
  have e2 : someN 10 = true := by decide
  rw [e1, e2] at h
  exact h
theorem list_ten (w : World) (hT : Tab w) : Calls Tryd.prog 10 #[.int .u64 10] w fun e w' => ∃ A cap, e = .returned (.slice A 2 cap) ∧ Below w.heap.size w w' := by
  have h := list_row 10 (by decide) w hT
  have e1 : (mem 10).length = 2 := by decide
  rw [e1] at h
  exact h.mono fun e w' ⟨A, cap, he, _, hb⟩ => ⟨A, cap, he, hb⟩
theorem count_ten (w : World) : Calls Tryd.prog 11 #[.int .u64 10] w fun e w' => e = .returned (.int .i64 2) ∧ w = w' := by
  have h := count_any 10 (by decide) w
  have e1 : (mem 10).length = 2 := by decide
  rw [e1] at h
  exact h
theorem has_ten (w : World) : Calls Tryd.prog 8 #[.int .u64 10, .int .i64 3] w fun e w' => e = .returned (.bool true) ∧ w = w' := by
  have h := has_any 10 3 (by decide) w
  have e1 : hasN 10 3 = true := by decide
  rw [e1] at h
  exact h
theorem of_ten (w : World) : Calls Tryd.prog 7 #[.slice (some ⟨w.heap.size, 0, none⟩) 2 2] (w.alloc (.cells #[.int .i64 3, .int .i64 1] 3)) fun e w' => e = .returned (.int .u64 10) ∧ w.alloc (.cells #[.int .i64 3, .int .i64 1] 3) = w' := by
  have h := of_any (some ⟨w.heap.size, 0, none⟩) 2 2 [3, 1] (w.heap.size + 1) (w.alloc (.cells #[.int .i64 3, .int .i64 1] 3)) (by
    refine ⟨rfl, by omega, by decide, fun h => (by cases h), fun ad ha i hi => ?_⟩
    injection ha with ha
    subst ha
    refine ⟨by simp, ?_⟩
    have hc := fun j => cell_of_row (w.alloc (.cells #[.int .i64 3, .int .i64 1] 3)) w.heap.size j _ 3 (0, 0) (World.alloc_heap_new w _)
    have : i = 0 ∨ i = 1 := by omega
    rcases this with rfl | rfl
    · exact hc 0
    · exact hc 1)
  have e1 : ofN [3, 1] = 10 := by decide
  rw [e1] at h
  exact h
theorem alive_any (w : World) (hT : Tab w) : Calls Tryd.prog 6 #[] w fun e w' => e = .returned (.bool true) ∧ Below w.heap.size w w' := by
  have hw0 := tab_lt hT
  go_enter Tryd.func6, Tryd.ntmps6
  go_wp2_with (first
    | (go_at_call 15; refine (first_ten _ hT).mono ?_; rintro e w1 ⟨rfl, hb⟩; have hT1 := hT.below hw0 hb; have hT2 := hT1.below (tab_lt hT1) ((Below.refl w1.heap.size w1).alloc (Nat.le_refl _) (.cells #[.int .i64 3, .int .i64 1] 3)))
    | (go_at_call 7; refine (of_ten _).mono ?_; rintro e w' ⟨rfl, rfl⟩)
    | (go_at_call 8; refine (has_ten _).mono ?_; rintro e w' ⟨rfl, rfl⟩)
    | (go_at_call 11; refine (count_ten _).mono ?_; rintro e w' ⟨rfl, rfl⟩)
    | (go_at_call 10; refine (list_ten _ hT2).mono ?_; rintro e w3 ⟨A, cap, rfl, hb3⟩))
  go_ret
  exact ⟨rfl, hb.trans ((((Below.refl w1.heap.size w1).alloc (Nat.le_refl _) _).trans (hb3.mono (by simp))).mono hb.size)⟩
end Go.Proofs.YteonjolmnbbhfaaDoor
