/- The plain Code and Prog: two that hold the same are the same. Conditions: none. -/
import Derived.Test.YtodklfjoeehinaaDoorMats
namespace Go.Proofs.YtodklfjoeehinaaDoor
open Go.RowKit

set_option maxRecDepth 100000 in
theorem code_same {w : World} {S T : Nat → Prop} {A B : Option Addr} {n cap n' cap' : Nat} {xs : List Ins} (hA : Lst w S A n cap xs) (hB : Lst w T B n' cap' xs) :
    Calls Tryd.prog 30 #[.slice A n cap, .slice B n' cap'] w fun e w' => e = .returned (.bool true) ∧ ∃ q, w' = w.drewN q := by
  obtain rfl : n' = n := hB.len.symm.trans hA.len
  have hm := len_i64 hA.room hA.most
  go_enter Tryd.func30, Tryd.ntmps30
  go_wp2
  go_loopw [5] (fun i wr => ∃ k : Nat, i = .int .i64 k ∧ k ≤ n' ∧ ∃ q, wr = w.drewN q) (fun i _ => n' - (intOf i).toNat)
  case atStart => exact ⟨0, rfl, Nat.zero_le _, 0, rfl⟩
  case round =>
    obtain ⟨k, rfl, hk, q, rfl⟩ := hrel
    by_cases hlt : k < n'
    · obtain ⟨g, off, x, rfl, _, hx, h0, h1, h2, h3, h4⟩ := hA.at_ k hlt
      obtain ⟨g', off', x', rfl, _, hx', k0, k1, k2, k3, k4⟩ := hB.at_ k hlt
      obtain rfl : x' = x := Option.some.inj (hx'.symm.trans hx)
      have t0 : decide ((k : Int) < (n' : Int)) = true := decide_eq_true (by omega)
      have i0 : (0 : Int) ≤ (k : Int) := by omega
      have i1 : (k : Int) < (n' : Int) := by omega
      clear hA hB hx hx'
      go_wp2
      go_quiet (fail)
      go_wp2
      go_roundw
      case rel => exact ⟨k + 1, by go_num, by omega, q + nq, rfl⟩
      case measure => simp [intOf]; omega
    · have t0 : decide ((k : Int) < (n' : Int)) = false := decide_eq_false (by omega)
      go_wp2
      go_ret
      exact ⟨rfl, q, rfl⟩
set_option maxRecDepth 100000 in
theorem prog_same {w : World} {S T : Nat → Prop} {A B : Option Addr} {n cap n' cap' : Nat} {xss : List (List Ins)} (r c s : Int) (hA : Mat w S A n cap xss) (hB : Mat w T B n' cap' xss) (hS : ∀ g, S g → g < w.heap.size) (hT : ∀ g, T g → g < w.heap.size) :
    Calls Tryd.prog 14 #[.agg #[.int .i64 r, .int .i64 c, .int .i64 s, .slice A n cap], .agg #[.int .i64 r, .int .i64 c, .int .i64 s, .slice B n' cap']] w fun e w' => e = .returned (.bool true) ∧ Below w.heap.size w w' := by
  obtain rfl : n' = n := hB.len.symm.trans hA.len
  have hm := len_i64 hA.room hA.most
  obtain ⟨W0, eW0⟩ : ∃ W0, W0 = (w.alloc (.cells #[.int .i64 r, .int .i64 c, .int .i64 s, .slice A n' cap] 32)).alloc (.cells #[.int .i64 r, .int .i64 c, .int .i64 s, .slice B n' cap'] 32) := ⟨_, rfl⟩
  have b0 : Below w.heap.size w W0 := by rw [eW0]; exact ((Below.refl _ w).alloc (Nat.le_refl _) _).alloc (by simp) _
  have p0 : Blk W0 w.heap.size 32 #[.int .i64 r, .int .i64 c, .int .i64 s, .slice A n' cap] := by rw [eW0]; exact Blk.below (heap_alloc_new w _) ((Below.refl _ _).alloc (Nat.le_refl _) _) (by simp)
  have p1 : Blk W0 (w.heap.size + 1) 32 #[.int .i64 r, .int .i64 c, .int .i64 s, .slice B n' cap'] := by rw [eW0]; exact heap_alloc2_new w _ _
  have x0 := p0.cell 0
  have x1 := p0.cell 1
  have x2 := p0.cell 2
  have x3 := p0.cell 3
  have y0 := p1.cell 0
  have y1 := p1.cell 1
  have y2 := p1.cell 2
  have y3 := p1.cell 3
  have hA0 := hA.below b0 hS
  have hB0 := hB.below b0 hT
  clear hA hB hS hT
  go_enter Tryd.func14, Tryd.ntmps14
  go_wp2_with fail
  rw [← eW0]
  clear eW0
  go_wp2_with fail
  go_loopw [5] (fun i wr => ∃ k : Nat, i = .int .i64 k ∧ k ≤ n' ∧ ∃ q, wr = W0.drewN q) (fun i _ => n' - (intOf i).toNat)
  case atStart => exact ⟨0, rfl, Nat.zero_le _, 0, rfl⟩
  case round =>
    obtain ⟨k, rfl, hk, q, hq⟩ := hrel
    have HQ := Lib.hid hq
    replace hA0 : Mat wr S A n' cap xss := hA0.keep fun _ _ => by rw [hq]; simp
    replace hB0 : Mat wr T B n' cap' xss := hB0.keep fun _ _ => by rw [hq]; simp
    replace x3 : wr.cell? ⟨w.heap.size, 3, none⟩ = some (.slice A n' cap) := by rw [hq]; simpa using x3
    replace y3 : wr.cell? ⟨w.heap.size + 1, 3, none⟩ = some (.slice B n' cap') := by rw [hq]; simpa using y3
    clear hq x0 x1 x2 y0 y1 y2 p0 p1
    by_cases hlt : k < n'
    · obtain ⟨g, off, A1, n1, c1, xs, rfl, _, hx, h0, hl⟩ := hA0.at_ k hlt
      obtain ⟨g', off', A2, n2, c2, xs', rfl, _, hx', k0, hl'⟩ := hB0.at_ k hlt
      obtain rfl : xs' = xs := Option.some.inj (hx'.symm.trans hx)
      have t0 : decide ((k : Int) < (n' : Int)) = true := decide_eq_true (by omega)
      have i0 : (0 : Int) ≤ (k : Int) := by omega
      have i1 : (k : Int) < (n' : Int) := by omega
      clear hA0 hB0 hx hx'
      go_wp2_with fail
      have hcs := fun m => code_same (w := wr.drewN m) (hl.keep fun _ _ => by simp) (hl'.keep fun _ _ => by simp)
      clear hl hl'
      go_quiet (first | (go_at_call 30; exact Calls.quiet_of (hcs _)))
      go_wp2
      go_roundw
      case rel => exact ⟨k + 1, by go_num, by omega, q + nq, by rw [HQ.out]; simp⟩
      case measure => simp [intOf]; omega
    · have t0 : decide ((k : Int) < (n' : Int)) = false := decide_eq_false (by omega)
      go_wp2
      go_ret
      exact ⟨rfl, by rw [HQ.out]; exact below_drew b0 q⟩
end Go.Proofs.YtodklfjoeehinaaDoor
