/- The contract of the statements' own trial, which answers true. Conditions: none. -/
import Derived.Test.YthhjaikpdpchlaaArith
import Derived.Deep.RegionHeld3
namespace Go.Proofs.Ythhjaikpdpchlaa
open Go.ChangeShapes Go.WideShapes Go.RowKit

set_option maxRecDepth 100000 in
set_option maxHeartbeats 2000000 in
theorem alive_any (w : World) : Calls Try.prog 6 #[] w fun e w' => e = .returned (.bool true) ∧ Below w.heap.size w w' := by
  have hP := fun W => to_cell 2 1 (by decide) W
  have h3 := fun W => plain_any 3 W
  have h2 := fun W => plain_any 2 W
  have h5 := fun W => plain_any 5 W
  have hA := fun W => arith_add ⟨2, 2, 1⟩ ⟨3, 0, 0⟩ W
  have hI := fun W => is_any ⟨2, 2, 1⟩ W
  have hE := fun W => equal_any ⟨2, 2, 1⟩ ⟨2, 0, 0⟩ W
  have hL := fun W => alike_any ⟨2, 2, 1⟩ ⟨2, 0, 0⟩ W
  rw [show wrap64 ((⟨2, 2, 1⟩ : Wd).n + (⟨3, 0, 0⟩ : Wd).n) = 5 by decide +kernel] at hA
  rw [show decide (1 ≤ (⟨2, 2, 1⟩ : Wd).c) = true by decide] at hI
  rw [show ((⟨2, 2, 1⟩ : Wd).n == (⟨2, 0, 0⟩ : Wd).n) = true by decide] at hE
  rw [show sameW ⟨2, 2, 1⟩ ⟨2, 0, 0⟩ = false by decide] at hL
  go_enter Try.func6, Try.ntmps6
  go_wp2_with fail
  refine (hP w).mono ?_
  rintro e w1 ⟨rfl, b1⟩
  go_wp2_with fail
  refine (h3 w1).mono ?_
  rintro e w2 ⟨rfl, b2'⟩
  have b2 := b1.trans (b2'.mono b1.size)
  go_wp2_with fail
  refine (hA w2).mono ?_
  rintro e w3 ⟨rfl, b3'⟩
  have b3 := b2.trans (b3'.mono b2.size)
  clear b1 b2' b2 b3'
  obtain ⟨W, eW⟩ : ∃ W, W = w3.alloc (.cells #[.int .i64 5, .int .i64 0, .int .i64 0] 24) := ⟨_, rfl⟩
  have hB : Blk W w3.heap.size 24 #[.int .i64 5, .int .i64 0, .int .i64 0] := by rw [eW]; exact heap_alloc_new w3 _
  have b4 : Below w.heap.size w W := by rw [eW]; exact b3.trans (((Below.refl _ w3).alloc (Nat.le_refl _) _).mono b3.size)
  have tp : ∀ V, Below W.heap.size W V → Blk V w3.heap.size 24 #[.int .i64 5, .int .i64 0, .int .i64 0] := fun V hV => hB.below hV hB.lt
  have tc0 : ∀ V, Below W.heap.size W V → V.cell? ⟨w3.heap.size, 0, none⟩ = some (.int .i64 5) := fun V hV => (tp V hV).cell 0
  have tc1 : ∀ V, Below W.heap.size W V → V.cell? ⟨w3.heap.size, 1, none⟩ = some (.int .i64 0) := fun V hV => (tp V hV).cell 1
  have tc2 : ∀ V, Below W.heap.size W V → V.cell? ⟨w3.heap.size, 2, none⟩ = some (.int .i64 0) := fun V hV => (tp V hV).cell 2
  have k0 := (Below.refl W.heap.size W).drew
  go_wp2_with fail
  rw [← eW]
  clear eW hB b3 tp
  generalize w3.heap.size = G at *
  go_region_held3 (fun w' => w'.cell? ⟨G, 0, none⟩ = some (.int .i64 5) ∧ w'.cell? ⟨G, 1, none⟩ = some (.int .i64 0) ∧ w'.cell? ⟨G, 2, none⟩ = some (.int .i64 0))
    (first
      | (exact ⟨tc0 _ k0, tc1 _ k0, tc2 _ k0⟩)
      | (exact ⟨tc0 _ k1, tc1 _ k1, tc2 _ k1⟩)
      | (exact ⟨tc0 _ k2, tc1 _ k2, tc2 _ k2⟩)
      | (exact ⟨tc0 _ k3, tc1 _ k3, tc2 _ k3⟩)
      | (exact ⟨tc0 _ k4, tc1 _ k4, tc2 _ k4⟩)
      | (exact ⟨tc0 _ k5, tc1 _ k5, tc2 _ k5⟩)
      | (exact ⟨tc0 _ k6, tc1 _ k6, tc2 _ k6⟩)
      | (exact ⟨tc0 _ k7, tc1 _ k7, tc2 _ k7⟩)
      | (exact ⟨tc0 _ k8, tc1 _ k8, tc2 _ k8⟩)
      | (exact ⟨tc0 _ k9, tc1 _ k9, tc2 _ k9⟩))
    (first
      | (go_at_call 7; refine (hP _).mono ?_; rintro e w21 ⟨rfl, hb1⟩; have k1 := k0.trans (hb1.mono k0.size))
      | (go_at_call 8; refine (hI _).mono ?_; rintro e w22 ⟨rfl, hb2⟩; have k2 := k1.trans (hb2.mono k1.size))
      | (go_at_call 7; refine (hP _).mono ?_; rintro e w23 ⟨rfl, hb3⟩; have k3 := k2.trans (hb3.mono k2.size))
      | (go_at_call 9; refine (h2 _).mono ?_; rintro e w23 ⟨rfl, hb3⟩; have k3 := k2.trans (hb3.mono k2.size))
      | (go_at_call 7; refine (hP _).mono ?_; rintro e w24 ⟨rfl, hb4⟩; have k4 := k3.trans (hb4.mono k3.size))
      | (go_at_call 9; refine (h2 _).mono ?_; rintro e w24 ⟨rfl, hb4⟩; have k4 := k3.trans (hb4.mono k3.size))
      | (go_at_call 10; refine (hE _).mono ?_; rintro e w25 ⟨rfl, hb5⟩; have k5 := k4.trans (hb5.mono k4.size))
      | (go_at_call 7; refine (hP _).mono ?_; rintro e w26 ⟨rfl, hb6⟩; have k6 := k5.trans (hb6.mono k5.size))
      | (go_at_call 9; refine (h2 _).mono ?_; rintro e w26 ⟨rfl, hb6⟩; have k6 := k5.trans (hb6.mono k5.size))
      | (go_at_call 7; refine (hP _).mono ?_; rintro e w27 ⟨rfl, hb7⟩; have k7 := k6.trans (hb7.mono k6.size))
      | (go_at_call 9; refine (h2 _).mono ?_; rintro e w27 ⟨rfl, hb7⟩; have k7 := k6.trans (hb7.mono k6.size))
      | (go_at_call 11; refine (hL _).mono ?_; rintro e w28 ⟨rfl, hb8⟩; have k8 := k7.trans (hb8.mono k7.size))
      | (go_at_call 9; refine (h5 _).mono ?_; rintro e w29 ⟨rfl, hb9⟩; have k9 := k8.trans (hb9.mono k8.size)))
  all_goals (
    go_wp2
    go_ret
    exact ⟨by simp, b4.trans (k9.mono b4.size)⟩)
end Go.Proofs.Ythhjaikpdpchlaa
