/- Whether a place is one of a program's, plainly. Conditions: none. -/
import Derived.Test.YtabnfiligbpocaaDoorIs
import Derived.Deep.QuietTactic
namespace Go.Proofs.YtabnfiligbpocaaDoor
open Go.RowKit Go.ChangeShapes Go.WideShapes

theorem low2_any (n hi : Int) (w : World) : Calls Tryd.prog 21 #[.int .i64 n, .int .i64 hi] w fun e w' => e = .returned (.int .i64 (cl n hi)) ∧ w' = w := (low_any n hi w).mono fun _ _ h => ⟨h.1, h.2.symm⟩
theorem below_dn {b : Nat} {w w' : World} (h : Below b w w') (q : Nat) : Below b w (w'.drewN q) := ⟨h.os, h.tape, h.output, h.size, h.block⟩
set_option maxRecDepth 100000 in
set_option maxHeartbeats 2000000 in
theorem ris_1_0 (i j r c s : Int) (A : Option Addr) (n cap : Nat) (hm : (n : Int) ≤ 9223372036854775807) (T : Int) (hT : ∀ W, Calls Tryd.prog 21 #[.int .i64 (n : Int), .int .i64 4] W fun e w' => e = .returned (.int .i64 T) ∧ W = w') (C : Int) (_hC : ∀ W, Calls Tryd.prog 21 #[.int .i64 r, .int .i64 4] W fun e w' => e = .returned (.int .i64 C) ∧ w' = W) (t1 : decide (0 ≤ i) = false) (w : World) :
    Calls Tryd.prog 10 #[.agg #[.int .i64 1, .int .i64 i, .int .i64 j], .agg #[.int .i64 r, .int .i64 c, .int .i64 s, .slice A n cap]] w fun e w' => e = .returned (.bool (false)) ∧ Below w.heap.size w w' := by
  obtain ⟨W0, eW0⟩ : ∃ W, W = (w.alloc (.cells #[.int .i64 1, .int .i64 i, .int .i64 j] 23)).alloc (.cells #[.int .i64 r, .int .i64 c, .int .i64 s, .slice A n cap] 26) := ⟨_, rfl⟩
  have hb0 : Below w.heap.size w W0 := by rw [eW0]; exact ((Below.refl _ w).alloc (Nat.le_refl _) _).alloc (by simp) _
  have hx : Blk W0 w.heap.size 23 #[.int .i64 1, .int .i64 i, .int .i64 j] := by rw [eW0]; exact Blk.below (heap_alloc_new w _) ((Below.refl _ _).alloc (Nat.le_refl _) _) (by simp)
  have hy : Blk W0 (w.heap.size + 1) 26 #[.int .i64 r, .int .i64 c, .int .i64 s, .slice A n cap] := by rw [eW0]; exact blk_new _ _ 26 _ (by simp)
  have c0 : W0.cell? ⟨w.heap.size, 0, none⟩ = some (.int .i64 1) := hx.cell 0
  have c1 : W0.cell? ⟨w.heap.size, 1, none⟩ = some (.int .i64 i) := hx.cell 1
  have c2 : W0.cell? ⟨w.heap.size, 2, none⟩ = some (.int .i64 j) := hx.cell 2
  have d0 : W0.cell? ⟨w.heap.size + 1, 0, none⟩ = some (.int .i64 r) := hy.cell 0
  have d1 : W0.cell? ⟨w.heap.size + 1, 1, none⟩ = some (.int .i64 c) := hy.cell 1
  have d2 : W0.cell? ⟨w.heap.size + 1, 2, none⟩ = some (.int .i64 s) := hy.cell 2
  have d3 : W0.cell? ⟨w.heap.size + 1, 3, none⟩ = some (.slice A n cap) := hy.cell 3
  have hn0 : (n : Int) ≤ 9223372036854775807 := hm
  clear hx hy hm
  go_enter Tryd.func10, Tryd.ntmps10
  go_wp2_with fail
  rw [← eW0]
  clear eW0
  refine (hT _).mono ?_
  rintro e w' ⟨rfl, rfl⟩
  go_wp2_with fail
  go_quiet (first | (go_at_call 21; exact Calls.quiet_of_same (hC _)))
  go_wp2
  go_ret
  exact ⟨rfl, below_dn hb0 _⟩
set_option maxRecDepth 100000 in
set_option maxHeartbeats 2000000 in
theorem ris_1_1 (i j r c s : Int) (A : Option Addr) (n cap : Nat) (hm : (n : Int) ≤ 9223372036854775807) (T : Int) (hT : ∀ W, Calls Tryd.prog 21 #[.int .i64 (n : Int), .int .i64 4] W fun e w' => e = .returned (.int .i64 T) ∧ W = w') (C : Int) (hC : ∀ W, Calls Tryd.prog 21 #[.int .i64 r, .int .i64 4] W fun e w' => e = .returned (.int .i64 C) ∧ w' = W) (t1 : decide (0 ≤ i) = true) (t2 : decide (i < C) = false) (w : World) :
    Calls Tryd.prog 10 #[.agg #[.int .i64 1, .int .i64 i, .int .i64 j], .agg #[.int .i64 r, .int .i64 c, .int .i64 s, .slice A n cap]] w fun e w' => e = .returned (.bool (false)) ∧ Below w.heap.size w w' := by
  obtain ⟨W0, eW0⟩ : ∃ W, W = (w.alloc (.cells #[.int .i64 1, .int .i64 i, .int .i64 j] 23)).alloc (.cells #[.int .i64 r, .int .i64 c, .int .i64 s, .slice A n cap] 26) := ⟨_, rfl⟩
  have hb0 : Below w.heap.size w W0 := by rw [eW0]; exact ((Below.refl _ w).alloc (Nat.le_refl _) _).alloc (by simp) _
  have hx : Blk W0 w.heap.size 23 #[.int .i64 1, .int .i64 i, .int .i64 j] := by rw [eW0]; exact Blk.below (heap_alloc_new w _) ((Below.refl _ _).alloc (Nat.le_refl _) _) (by simp)
  have hy : Blk W0 (w.heap.size + 1) 26 #[.int .i64 r, .int .i64 c, .int .i64 s, .slice A n cap] := by rw [eW0]; exact blk_new _ _ 26 _ (by simp)
  have c0 : W0.cell? ⟨w.heap.size, 0, none⟩ = some (.int .i64 1) := hx.cell 0
  have c1 : W0.cell? ⟨w.heap.size, 1, none⟩ = some (.int .i64 i) := hx.cell 1
  have c2 : W0.cell? ⟨w.heap.size, 2, none⟩ = some (.int .i64 j) := hx.cell 2
  have d0 : W0.cell? ⟨w.heap.size + 1, 0, none⟩ = some (.int .i64 r) := hy.cell 0
  have d1 : W0.cell? ⟨w.heap.size + 1, 1, none⟩ = some (.int .i64 c) := hy.cell 1
  have d2 : W0.cell? ⟨w.heap.size + 1, 2, none⟩ = some (.int .i64 s) := hy.cell 2
  have d3 : W0.cell? ⟨w.heap.size + 1, 3, none⟩ = some (.slice A n cap) := hy.cell 3
  have hn0 : (n : Int) ≤ 9223372036854775807 := hm
  clear hx hy hm
  go_enter Tryd.func10, Tryd.ntmps10
  go_wp2_with fail
  rw [← eW0]
  clear eW0
  refine (hT _).mono ?_
  rintro e w' ⟨rfl, rfl⟩
  go_wp2_with fail
  go_quiet (first | (go_at_call 21; exact Calls.quiet_of_same (hC _)))
  go_wp2
  go_ret
  exact ⟨rfl, below_dn hb0 _⟩
set_option maxRecDepth 100000 in
set_option maxHeartbeats 2000000 in
theorem ris_1_2 (i j r c s : Int) (A : Option Addr) (n cap : Nat) (hm : (n : Int) ≤ 9223372036854775807) (T : Int) (hT : ∀ W, Calls Tryd.prog 21 #[.int .i64 (n : Int), .int .i64 4] W fun e w' => e = .returned (.int .i64 T) ∧ W = w') (C : Int) (hC : ∀ W, Calls Tryd.prog 21 #[.int .i64 r, .int .i64 4] W fun e w' => e = .returned (.int .i64 C) ∧ w' = W) (t1 : decide (0 ≤ i) = true) (t2 : decide (i < C) = true) (w : World) :
    Calls Tryd.prog 10 #[.agg #[.int .i64 1, .int .i64 i, .int .i64 j], .agg #[.int .i64 r, .int .i64 c, .int .i64 s, .slice A n cap]] w fun e w' => e = .returned (.bool ((j == 0))) ∧ Below w.heap.size w w' := by
  obtain ⟨W0, eW0⟩ : ∃ W, W = (w.alloc (.cells #[.int .i64 1, .int .i64 i, .int .i64 j] 23)).alloc (.cells #[.int .i64 r, .int .i64 c, .int .i64 s, .slice A n cap] 26) := ⟨_, rfl⟩
  have hb0 : Below w.heap.size w W0 := by rw [eW0]; exact ((Below.refl _ w).alloc (Nat.le_refl _) _).alloc (by simp) _
  have hx : Blk W0 w.heap.size 23 #[.int .i64 1, .int .i64 i, .int .i64 j] := by rw [eW0]; exact Blk.below (heap_alloc_new w _) ((Below.refl _ _).alloc (Nat.le_refl _) _) (by simp)
  have hy : Blk W0 (w.heap.size + 1) 26 #[.int .i64 r, .int .i64 c, .int .i64 s, .slice A n cap] := by rw [eW0]; exact blk_new _ _ 26 _ (by simp)
  have c0 : W0.cell? ⟨w.heap.size, 0, none⟩ = some (.int .i64 1) := hx.cell 0
  have c1 : W0.cell? ⟨w.heap.size, 1, none⟩ = some (.int .i64 i) := hx.cell 1
  have c2 : W0.cell? ⟨w.heap.size, 2, none⟩ = some (.int .i64 j) := hx.cell 2
  have d0 : W0.cell? ⟨w.heap.size + 1, 0, none⟩ = some (.int .i64 r) := hy.cell 0
  have d1 : W0.cell? ⟨w.heap.size + 1, 1, none⟩ = some (.int .i64 c) := hy.cell 1
  have d2 : W0.cell? ⟨w.heap.size + 1, 2, none⟩ = some (.int .i64 s) := hy.cell 2
  have d3 : W0.cell? ⟨w.heap.size + 1, 3, none⟩ = some (.slice A n cap) := hy.cell 3
  have hn0 : (n : Int) ≤ 9223372036854775807 := hm
  clear hx hy hm
  go_enter Tryd.func10, Tryd.ntmps10
  go_wp2_with fail
  rw [← eW0]
  clear eW0
  refine (hT _).mono ?_
  rintro e w' ⟨rfl, rfl⟩
  go_wp2_with fail
  go_quiet (first | (go_at_call 21; exact Calls.quiet_of_same (hC _)))
  go_wp2
  go_ret
  exact ⟨rfl, below_dn hb0 _⟩
set_option maxRecDepth 100000 in
set_option maxHeartbeats 2000000 in
theorem ris_2_0 (i j r c s : Int) (A : Option Addr) (n cap : Nat) (hm : (n : Int) ≤ 9223372036854775807) (T : Int) (hT : ∀ W, Calls Tryd.prog 21 #[.int .i64 (n : Int), .int .i64 4] W fun e w' => e = .returned (.int .i64 T) ∧ W = w') (C : Int) (_hC : ∀ W, Calls Tryd.prog 21 #[.int .i64 c, .int .i64 6] W fun e w' => e = .returned (.int .i64 C) ∧ w' = W) (t1 : decide (1 ≤ i) = false) (w : World) :
    Calls Tryd.prog 10 #[.agg #[.int .i64 2, .int .i64 i, .int .i64 j], .agg #[.int .i64 r, .int .i64 c, .int .i64 s, .slice A n cap]] w fun e w' => e = .returned (.bool (false)) ∧ Below w.heap.size w w' := by
  obtain ⟨W0, eW0⟩ : ∃ W, W = (w.alloc (.cells #[.int .i64 2, .int .i64 i, .int .i64 j] 23)).alloc (.cells #[.int .i64 r, .int .i64 c, .int .i64 s, .slice A n cap] 26) := ⟨_, rfl⟩
  have hb0 : Below w.heap.size w W0 := by rw [eW0]; exact ((Below.refl _ w).alloc (Nat.le_refl _) _).alloc (by simp) _
  have hx : Blk W0 w.heap.size 23 #[.int .i64 2, .int .i64 i, .int .i64 j] := by rw [eW0]; exact Blk.below (heap_alloc_new w _) ((Below.refl _ _).alloc (Nat.le_refl _) _) (by simp)
  have hy : Blk W0 (w.heap.size + 1) 26 #[.int .i64 r, .int .i64 c, .int .i64 s, .slice A n cap] := by rw [eW0]; exact blk_new _ _ 26 _ (by simp)
  have c0 : W0.cell? ⟨w.heap.size, 0, none⟩ = some (.int .i64 2) := hx.cell 0
  have c1 : W0.cell? ⟨w.heap.size, 1, none⟩ = some (.int .i64 i) := hx.cell 1
  have c2 : W0.cell? ⟨w.heap.size, 2, none⟩ = some (.int .i64 j) := hx.cell 2
  have d0 : W0.cell? ⟨w.heap.size + 1, 0, none⟩ = some (.int .i64 r) := hy.cell 0
  have d1 : W0.cell? ⟨w.heap.size + 1, 1, none⟩ = some (.int .i64 c) := hy.cell 1
  have d2 : W0.cell? ⟨w.heap.size + 1, 2, none⟩ = some (.int .i64 s) := hy.cell 2
  have d3 : W0.cell? ⟨w.heap.size + 1, 3, none⟩ = some (.slice A n cap) := hy.cell 3
  have hn0 : (n : Int) ≤ 9223372036854775807 := hm
  clear hx hy hm
  go_enter Tryd.func10, Tryd.ntmps10
  go_wp2_with fail
  rw [← eW0]
  clear eW0
  refine (hT _).mono ?_
  rintro e w' ⟨rfl, rfl⟩
  go_wp2_with fail
  go_quiet (first | (go_at_call 21; exact Calls.quiet_of_same (hC _)))
  go_wp2
  go_ret
  exact ⟨rfl, below_dn hb0 _⟩
set_option maxRecDepth 100000 in
set_option maxHeartbeats 2000000 in
theorem ris_2_1 (i j r c s : Int) (A : Option Addr) (n cap : Nat) (hm : (n : Int) ≤ 9223372036854775807) (T : Int) (hT : ∀ W, Calls Tryd.prog 21 #[.int .i64 (n : Int), .int .i64 4] W fun e w' => e = .returned (.int .i64 T) ∧ W = w') (C : Int) (hC : ∀ W, Calls Tryd.prog 21 #[.int .i64 c, .int .i64 6] W fun e w' => e = .returned (.int .i64 C) ∧ w' = W) (t1 : decide (1 ≤ i) = true) (t2 : decide (i ≤ C) = false) (w : World) :
    Calls Tryd.prog 10 #[.agg #[.int .i64 2, .int .i64 i, .int .i64 j], .agg #[.int .i64 r, .int .i64 c, .int .i64 s, .slice A n cap]] w fun e w' => e = .returned (.bool (false)) ∧ Below w.heap.size w w' := by
  obtain ⟨W0, eW0⟩ : ∃ W, W = (w.alloc (.cells #[.int .i64 2, .int .i64 i, .int .i64 j] 23)).alloc (.cells #[.int .i64 r, .int .i64 c, .int .i64 s, .slice A n cap] 26) := ⟨_, rfl⟩
  have hb0 : Below w.heap.size w W0 := by rw [eW0]; exact ((Below.refl _ w).alloc (Nat.le_refl _) _).alloc (by simp) _
  have hx : Blk W0 w.heap.size 23 #[.int .i64 2, .int .i64 i, .int .i64 j] := by rw [eW0]; exact Blk.below (heap_alloc_new w _) ((Below.refl _ _).alloc (Nat.le_refl _) _) (by simp)
  have hy : Blk W0 (w.heap.size + 1) 26 #[.int .i64 r, .int .i64 c, .int .i64 s, .slice A n cap] := by rw [eW0]; exact blk_new _ _ 26 _ (by simp)
  have c0 : W0.cell? ⟨w.heap.size, 0, none⟩ = some (.int .i64 2) := hx.cell 0
  have c1 : W0.cell? ⟨w.heap.size, 1, none⟩ = some (.int .i64 i) := hx.cell 1
  have c2 : W0.cell? ⟨w.heap.size, 2, none⟩ = some (.int .i64 j) := hx.cell 2
  have d0 : W0.cell? ⟨w.heap.size + 1, 0, none⟩ = some (.int .i64 r) := hy.cell 0
  have d1 : W0.cell? ⟨w.heap.size + 1, 1, none⟩ = some (.int .i64 c) := hy.cell 1
  have d2 : W0.cell? ⟨w.heap.size + 1, 2, none⟩ = some (.int .i64 s) := hy.cell 2
  have d3 : W0.cell? ⟨w.heap.size + 1, 3, none⟩ = some (.slice A n cap) := hy.cell 3
  have hn0 : (n : Int) ≤ 9223372036854775807 := hm
  clear hx hy hm
  go_enter Tryd.func10, Tryd.ntmps10
  go_wp2_with fail
  rw [← eW0]
  clear eW0
  refine (hT _).mono ?_
  rintro e w' ⟨rfl, rfl⟩
  go_wp2_with fail
  go_quiet (first | (go_at_call 21; exact Calls.quiet_of_same (hC _)))
  go_wp2
  go_ret
  exact ⟨rfl, below_dn hb0 _⟩
set_option maxRecDepth 100000 in
set_option maxHeartbeats 2000000 in
theorem ris_2_2 (i j r c s : Int) (A : Option Addr) (n cap : Nat) (hm : (n : Int) ≤ 9223372036854775807) (T : Int) (hT : ∀ W, Calls Tryd.prog 21 #[.int .i64 (n : Int), .int .i64 4] W fun e w' => e = .returned (.int .i64 T) ∧ W = w') (C : Int) (hC : ∀ W, Calls Tryd.prog 21 #[.int .i64 c, .int .i64 6] W fun e w' => e = .returned (.int .i64 C) ∧ w' = W) (t1 : decide (1 ≤ i) = true) (t2 : decide (i ≤ C) = true) (w : World) :
    Calls Tryd.prog 10 #[.agg #[.int .i64 2, .int .i64 i, .int .i64 j], .agg #[.int .i64 r, .int .i64 c, .int .i64 s, .slice A n cap]] w fun e w' => e = .returned (.bool ((j == 0))) ∧ Below w.heap.size w w' := by
  obtain ⟨W0, eW0⟩ : ∃ W, W = (w.alloc (.cells #[.int .i64 2, .int .i64 i, .int .i64 j] 23)).alloc (.cells #[.int .i64 r, .int .i64 c, .int .i64 s, .slice A n cap] 26) := ⟨_, rfl⟩
  have hb0 : Below w.heap.size w W0 := by rw [eW0]; exact ((Below.refl _ w).alloc (Nat.le_refl _) _).alloc (by simp) _
  have hx : Blk W0 w.heap.size 23 #[.int .i64 2, .int .i64 i, .int .i64 j] := by rw [eW0]; exact Blk.below (heap_alloc_new w _) ((Below.refl _ _).alloc (Nat.le_refl _) _) (by simp)
  have hy : Blk W0 (w.heap.size + 1) 26 #[.int .i64 r, .int .i64 c, .int .i64 s, .slice A n cap] := by rw [eW0]; exact blk_new _ _ 26 _ (by simp)
  have c0 : W0.cell? ⟨w.heap.size, 0, none⟩ = some (.int .i64 2) := hx.cell 0
  have c1 : W0.cell? ⟨w.heap.size, 1, none⟩ = some (.int .i64 i) := hx.cell 1
  have c2 : W0.cell? ⟨w.heap.size, 2, none⟩ = some (.int .i64 j) := hx.cell 2
  have d0 : W0.cell? ⟨w.heap.size + 1, 0, none⟩ = some (.int .i64 r) := hy.cell 0
  have d1 : W0.cell? ⟨w.heap.size + 1, 1, none⟩ = some (.int .i64 c) := hy.cell 1
  have d2 : W0.cell? ⟨w.heap.size + 1, 2, none⟩ = some (.int .i64 s) := hy.cell 2
  have d3 : W0.cell? ⟨w.heap.size + 1, 3, none⟩ = some (.slice A n cap) := hy.cell 3
  have hn0 : (n : Int) ≤ 9223372036854775807 := hm
  clear hx hy hm
  go_enter Tryd.func10, Tryd.ntmps10
  go_wp2_with fail
  rw [← eW0]
  clear eW0
  refine (hT _).mono ?_
  rintro e w' ⟨rfl, rfl⟩
  go_wp2_with fail
  go_quiet (first | (go_at_call 21; exact Calls.quiet_of_same (hC _)))
  go_wp2
  go_ret
  exact ⟨rfl, below_dn hb0 _⟩
set_option maxRecDepth 100000 in
set_option maxHeartbeats 2000000 in
theorem ris_3_0 (i j r c s : Int) (A : Option Addr) (n cap : Nat) (hm : (n : Int) ≤ 9223372036854775807) (T : Int) (hT : ∀ W, Calls Tryd.prog 21 #[.int .i64 (n : Int), .int .i64 4] W fun e w' => e = .returned (.int .i64 T) ∧ W = w') (C : Int) (_hC : ∀ W, Calls Tryd.prog 21 #[.int .i64 c, .int .i64 6] W fun e w' => e = .returned (.int .i64 C) ∧ w' = W) (t1 : decide (1 ≤ i) = false) (w : World) :
    Calls Tryd.prog 10 #[.agg #[.int .i64 3, .int .i64 i, .int .i64 j], .agg #[.int .i64 r, .int .i64 c, .int .i64 s, .slice A n cap]] w fun e w' => e = .returned (.bool (false)) ∧ Below w.heap.size w w' := by
  obtain ⟨W0, eW0⟩ : ∃ W, W = (w.alloc (.cells #[.int .i64 3, .int .i64 i, .int .i64 j] 23)).alloc (.cells #[.int .i64 r, .int .i64 c, .int .i64 s, .slice A n cap] 26) := ⟨_, rfl⟩
  have hb0 : Below w.heap.size w W0 := by rw [eW0]; exact ((Below.refl _ w).alloc (Nat.le_refl _) _).alloc (by simp) _
  have hx : Blk W0 w.heap.size 23 #[.int .i64 3, .int .i64 i, .int .i64 j] := by rw [eW0]; exact Blk.below (heap_alloc_new w _) ((Below.refl _ _).alloc (Nat.le_refl _) _) (by simp)
  have hy : Blk W0 (w.heap.size + 1) 26 #[.int .i64 r, .int .i64 c, .int .i64 s, .slice A n cap] := by rw [eW0]; exact blk_new _ _ 26 _ (by simp)
  have c0 : W0.cell? ⟨w.heap.size, 0, none⟩ = some (.int .i64 3) := hx.cell 0
  have c1 : W0.cell? ⟨w.heap.size, 1, none⟩ = some (.int .i64 i) := hx.cell 1
  have c2 : W0.cell? ⟨w.heap.size, 2, none⟩ = some (.int .i64 j) := hx.cell 2
  have d0 : W0.cell? ⟨w.heap.size + 1, 0, none⟩ = some (.int .i64 r) := hy.cell 0
  have d1 : W0.cell? ⟨w.heap.size + 1, 1, none⟩ = some (.int .i64 c) := hy.cell 1
  have d2 : W0.cell? ⟨w.heap.size + 1, 2, none⟩ = some (.int .i64 s) := hy.cell 2
  have d3 : W0.cell? ⟨w.heap.size + 1, 3, none⟩ = some (.slice A n cap) := hy.cell 3
  have hn0 : (n : Int) ≤ 9223372036854775807 := hm
  clear hx hy hm
  go_enter Tryd.func10, Tryd.ntmps10
  go_wp2_with fail
  rw [← eW0]
  clear eW0
  refine (hT _).mono ?_
  rintro e w' ⟨rfl, rfl⟩
  go_wp2_with fail
  go_quiet (first | (go_at_call 21; exact Calls.quiet_of_same (hC _)))
  go_wp2
  go_ret
  exact ⟨rfl, below_dn hb0 _⟩
set_option maxRecDepth 100000 in
set_option maxHeartbeats 2000000 in
theorem ris_3_1 (i j r c s : Int) (A : Option Addr) (n cap : Nat) (hm : (n : Int) ≤ 9223372036854775807) (T : Int) (hT : ∀ W, Calls Tryd.prog 21 #[.int .i64 (n : Int), .int .i64 4] W fun e w' => e = .returned (.int .i64 T) ∧ W = w') (C : Int) (hC : ∀ W, Calls Tryd.prog 21 #[.int .i64 c, .int .i64 6] W fun e w' => e = .returned (.int .i64 C) ∧ w' = W) (t1 : decide (1 ≤ i) = true) (t2 : decide (i ≤ C) = false) (w : World) :
    Calls Tryd.prog 10 #[.agg #[.int .i64 3, .int .i64 i, .int .i64 j], .agg #[.int .i64 r, .int .i64 c, .int .i64 s, .slice A n cap]] w fun e w' => e = .returned (.bool (false)) ∧ Below w.heap.size w w' := by
  obtain ⟨W0, eW0⟩ : ∃ W, W = (w.alloc (.cells #[.int .i64 3, .int .i64 i, .int .i64 j] 23)).alloc (.cells #[.int .i64 r, .int .i64 c, .int .i64 s, .slice A n cap] 26) := ⟨_, rfl⟩
  have hb0 : Below w.heap.size w W0 := by rw [eW0]; exact ((Below.refl _ w).alloc (Nat.le_refl _) _).alloc (by simp) _
  have hx : Blk W0 w.heap.size 23 #[.int .i64 3, .int .i64 i, .int .i64 j] := by rw [eW0]; exact Blk.below (heap_alloc_new w _) ((Below.refl _ _).alloc (Nat.le_refl _) _) (by simp)
  have hy : Blk W0 (w.heap.size + 1) 26 #[.int .i64 r, .int .i64 c, .int .i64 s, .slice A n cap] := by rw [eW0]; exact blk_new _ _ 26 _ (by simp)
  have c0 : W0.cell? ⟨w.heap.size, 0, none⟩ = some (.int .i64 3) := hx.cell 0
  have c1 : W0.cell? ⟨w.heap.size, 1, none⟩ = some (.int .i64 i) := hx.cell 1
  have c2 : W0.cell? ⟨w.heap.size, 2, none⟩ = some (.int .i64 j) := hx.cell 2
  have d0 : W0.cell? ⟨w.heap.size + 1, 0, none⟩ = some (.int .i64 r) := hy.cell 0
  have d1 : W0.cell? ⟨w.heap.size + 1, 1, none⟩ = some (.int .i64 c) := hy.cell 1
  have d2 : W0.cell? ⟨w.heap.size + 1, 2, none⟩ = some (.int .i64 s) := hy.cell 2
  have d3 : W0.cell? ⟨w.heap.size + 1, 3, none⟩ = some (.slice A n cap) := hy.cell 3
  have hn0 : (n : Int) ≤ 9223372036854775807 := hm
  clear hx hy hm
  go_enter Tryd.func10, Tryd.ntmps10
  go_wp2_with fail
  rw [← eW0]
  clear eW0
  refine (hT _).mono ?_
  rintro e w' ⟨rfl, rfl⟩
  go_wp2_with fail
  go_quiet (first | (go_at_call 21; exact Calls.quiet_of_same (hC _)))
  go_wp2
  go_ret
  exact ⟨rfl, below_dn hb0 _⟩
set_option maxRecDepth 100000 in
set_option maxHeartbeats 2000000 in
theorem ris_3_2 (i j r c s : Int) (A : Option Addr) (n cap : Nat) (hm : (n : Int) ≤ 9223372036854775807) (T : Int) (hT : ∀ W, Calls Tryd.prog 21 #[.int .i64 (n : Int), .int .i64 4] W fun e w' => e = .returned (.int .i64 T) ∧ W = w') (C : Int) (hC : ∀ W, Calls Tryd.prog 21 #[.int .i64 c, .int .i64 6] W fun e w' => e = .returned (.int .i64 C) ∧ w' = W) (t1 : decide (1 ≤ i) = true) (t2 : decide (i ≤ C) = true) (t3 : decide (0 ≤ j) = false) (w : World) :
    Calls Tryd.prog 10 #[.agg #[.int .i64 3, .int .i64 i, .int .i64 j], .agg #[.int .i64 r, .int .i64 c, .int .i64 s, .slice A n cap]] w fun e w' => e = .returned (.bool (false)) ∧ Below w.heap.size w w' := by
  obtain ⟨W0, eW0⟩ : ∃ W, W = (w.alloc (.cells #[.int .i64 3, .int .i64 i, .int .i64 j] 23)).alloc (.cells #[.int .i64 r, .int .i64 c, .int .i64 s, .slice A n cap] 26) := ⟨_, rfl⟩
  have hb0 : Below w.heap.size w W0 := by rw [eW0]; exact ((Below.refl _ w).alloc (Nat.le_refl _) _).alloc (by simp) _
  have hx : Blk W0 w.heap.size 23 #[.int .i64 3, .int .i64 i, .int .i64 j] := by rw [eW0]; exact Blk.below (heap_alloc_new w _) ((Below.refl _ _).alloc (Nat.le_refl _) _) (by simp)
  have hy : Blk W0 (w.heap.size + 1) 26 #[.int .i64 r, .int .i64 c, .int .i64 s, .slice A n cap] := by rw [eW0]; exact blk_new _ _ 26 _ (by simp)
  have c0 : W0.cell? ⟨w.heap.size, 0, none⟩ = some (.int .i64 3) := hx.cell 0
  have c1 : W0.cell? ⟨w.heap.size, 1, none⟩ = some (.int .i64 i) := hx.cell 1
  have c2 : W0.cell? ⟨w.heap.size, 2, none⟩ = some (.int .i64 j) := hx.cell 2
  have d0 : W0.cell? ⟨w.heap.size + 1, 0, none⟩ = some (.int .i64 r) := hy.cell 0
  have d1 : W0.cell? ⟨w.heap.size + 1, 1, none⟩ = some (.int .i64 c) := hy.cell 1
  have d2 : W0.cell? ⟨w.heap.size + 1, 2, none⟩ = some (.int .i64 s) := hy.cell 2
  have d3 : W0.cell? ⟨w.heap.size + 1, 3, none⟩ = some (.slice A n cap) := hy.cell 3
  have hn0 : (n : Int) ≤ 9223372036854775807 := hm
  clear hx hy hm
  go_enter Tryd.func10, Tryd.ntmps10
  go_wp2_with fail
  rw [← eW0]
  clear eW0
  refine (hT _).mono ?_
  rintro e w' ⟨rfl, rfl⟩
  go_wp2_with fail
  go_quiet (first | (go_at_call 21; exact Calls.quiet_of_same (hC _)))
  go_wp2
  go_ret
  exact ⟨rfl, below_dn hb0 _⟩
set_option maxRecDepth 100000 in
set_option maxHeartbeats 2000000 in
theorem ris_3_3 (i j r c s : Int) (A : Option Addr) (n cap : Nat) (hm : (n : Int) ≤ 9223372036854775807) (T : Int) (hT : ∀ W, Calls Tryd.prog 21 #[.int .i64 (n : Int), .int .i64 4] W fun e w' => e = .returned (.int .i64 T) ∧ W = w') (C : Int) (hC : ∀ W, Calls Tryd.prog 21 #[.int .i64 c, .int .i64 6] W fun e w' => e = .returned (.int .i64 C) ∧ w' = W) (t1 : decide (1 ≤ i) = true) (t2 : decide (i ≤ C) = true) (t3 : decide (0 ≤ j) = true) (w : World) :
    Calls Tryd.prog 10 #[.agg #[.int .i64 3, .int .i64 i, .int .i64 j], .agg #[.int .i64 r, .int .i64 c, .int .i64 s, .slice A n cap]] w fun e w' => e = .returned (.bool (decide (j ≤ 1))) ∧ Below w.heap.size w w' := by
  obtain ⟨W0, eW0⟩ : ∃ W, W = (w.alloc (.cells #[.int .i64 3, .int .i64 i, .int .i64 j] 23)).alloc (.cells #[.int .i64 r, .int .i64 c, .int .i64 s, .slice A n cap] 26) := ⟨_, rfl⟩
  have hb0 : Below w.heap.size w W0 := by rw [eW0]; exact ((Below.refl _ w).alloc (Nat.le_refl _) _).alloc (by simp) _
  have hx : Blk W0 w.heap.size 23 #[.int .i64 3, .int .i64 i, .int .i64 j] := by rw [eW0]; exact Blk.below (heap_alloc_new w _) ((Below.refl _ _).alloc (Nat.le_refl _) _) (by simp)
  have hy : Blk W0 (w.heap.size + 1) 26 #[.int .i64 r, .int .i64 c, .int .i64 s, .slice A n cap] := by rw [eW0]; exact blk_new _ _ 26 _ (by simp)
  have c0 : W0.cell? ⟨w.heap.size, 0, none⟩ = some (.int .i64 3) := hx.cell 0
  have c1 : W0.cell? ⟨w.heap.size, 1, none⟩ = some (.int .i64 i) := hx.cell 1
  have c2 : W0.cell? ⟨w.heap.size, 2, none⟩ = some (.int .i64 j) := hx.cell 2
  have d0 : W0.cell? ⟨w.heap.size + 1, 0, none⟩ = some (.int .i64 r) := hy.cell 0
  have d1 : W0.cell? ⟨w.heap.size + 1, 1, none⟩ = some (.int .i64 c) := hy.cell 1
  have d2 : W0.cell? ⟨w.heap.size + 1, 2, none⟩ = some (.int .i64 s) := hy.cell 2
  have d3 : W0.cell? ⟨w.heap.size + 1, 3, none⟩ = some (.slice A n cap) := hy.cell 3
  have hn0 : (n : Int) ≤ 9223372036854775807 := hm
  clear hx hy hm
  go_enter Tryd.func10, Tryd.ntmps10
  go_wp2_with fail
  rw [← eW0]
  clear eW0
  refine (hT _).mono ?_
  rintro e w' ⟨rfl, rfl⟩
  go_wp2_with fail
  go_quiet (first | (go_at_call 21; exact Calls.quiet_of_same (hC _)))
  go_wp2
  go_ret
  exact ⟨rfl, below_dn hb0 _⟩
set_option maxRecDepth 100000 in
set_option maxHeartbeats 2000000 in
theorem ris_4_0 (i j r c s : Int) (A : Option Addr) (n cap : Nat) (hm : (n : Int) ≤ 9223372036854775807) (T : Int) (hT : ∀ W, Calls Tryd.prog 21 #[.int .i64 (n : Int), .int .i64 4] W fun e w' => e = .returned (.int .i64 T) ∧ W = w') (t1 : (i == 0) = false) (w : World) :
    Calls Tryd.prog 10 #[.agg #[.int .i64 4, .int .i64 i, .int .i64 j], .agg #[.int .i64 r, .int .i64 c, .int .i64 s, .slice A n cap]] w fun e w' => e = .returned (.bool (false)) ∧ Below w.heap.size w w' := by
  obtain ⟨W0, eW0⟩ : ∃ W, W = (w.alloc (.cells #[.int .i64 4, .int .i64 i, .int .i64 j] 23)).alloc (.cells #[.int .i64 r, .int .i64 c, .int .i64 s, .slice A n cap] 26) := ⟨_, rfl⟩
  have hb0 : Below w.heap.size w W0 := by rw [eW0]; exact ((Below.refl _ w).alloc (Nat.le_refl _) _).alloc (by simp) _
  have hx : Blk W0 w.heap.size 23 #[.int .i64 4, .int .i64 i, .int .i64 j] := by rw [eW0]; exact Blk.below (heap_alloc_new w _) ((Below.refl _ _).alloc (Nat.le_refl _) _) (by simp)
  have hy : Blk W0 (w.heap.size + 1) 26 #[.int .i64 r, .int .i64 c, .int .i64 s, .slice A n cap] := by rw [eW0]; exact blk_new _ _ 26 _ (by simp)
  have c0 : W0.cell? ⟨w.heap.size, 0, none⟩ = some (.int .i64 4) := hx.cell 0
  have c1 : W0.cell? ⟨w.heap.size, 1, none⟩ = some (.int .i64 i) := hx.cell 1
  have c2 : W0.cell? ⟨w.heap.size, 2, none⟩ = some (.int .i64 j) := hx.cell 2
  have d0 : W0.cell? ⟨w.heap.size + 1, 0, none⟩ = some (.int .i64 r) := hy.cell 0
  have d1 : W0.cell? ⟨w.heap.size + 1, 1, none⟩ = some (.int .i64 c) := hy.cell 1
  have d2 : W0.cell? ⟨w.heap.size + 1, 2, none⟩ = some (.int .i64 s) := hy.cell 2
  have d3 : W0.cell? ⟨w.heap.size + 1, 3, none⟩ = some (.slice A n cap) := hy.cell 3
  have hn0 : (n : Int) ≤ 9223372036854775807 := hm
  clear hx hy hm
  go_enter Tryd.func10, Tryd.ntmps10
  go_wp2_with fail
  rw [← eW0]
  clear eW0
  refine (hT _).mono ?_
  rintro e w' ⟨rfl, rfl⟩
  go_wp2
  go_ret
  exact ⟨rfl, hb0⟩
set_option maxRecDepth 100000 in
set_option maxHeartbeats 2000000 in
theorem ris_4_1 (i j r c s : Int) (A : Option Addr) (n cap : Nat) (hm : (n : Int) ≤ 9223372036854775807) (T : Int) (hT : ∀ W, Calls Tryd.prog 21 #[.int .i64 (n : Int), .int .i64 4] W fun e w' => e = .returned (.int .i64 T) ∧ W = w') (t1 : (i == 0) = true) (w : World) :
    Calls Tryd.prog 10 #[.agg #[.int .i64 4, .int .i64 i, .int .i64 j], .agg #[.int .i64 r, .int .i64 c, .int .i64 s, .slice A n cap]] w fun e w' => e = .returned (.bool ((j == 0))) ∧ Below w.heap.size w w' := by
  obtain ⟨W0, eW0⟩ : ∃ W, W = (w.alloc (.cells #[.int .i64 4, .int .i64 i, .int .i64 j] 23)).alloc (.cells #[.int .i64 r, .int .i64 c, .int .i64 s, .slice A n cap] 26) := ⟨_, rfl⟩
  have hb0 : Below w.heap.size w W0 := by rw [eW0]; exact ((Below.refl _ w).alloc (Nat.le_refl _) _).alloc (by simp) _
  have hx : Blk W0 w.heap.size 23 #[.int .i64 4, .int .i64 i, .int .i64 j] := by rw [eW0]; exact Blk.below (heap_alloc_new w _) ((Below.refl _ _).alloc (Nat.le_refl _) _) (by simp)
  have hy : Blk W0 (w.heap.size + 1) 26 #[.int .i64 r, .int .i64 c, .int .i64 s, .slice A n cap] := by rw [eW0]; exact blk_new _ _ 26 _ (by simp)
  have c0 : W0.cell? ⟨w.heap.size, 0, none⟩ = some (.int .i64 4) := hx.cell 0
  have c1 : W0.cell? ⟨w.heap.size, 1, none⟩ = some (.int .i64 i) := hx.cell 1
  have c2 : W0.cell? ⟨w.heap.size, 2, none⟩ = some (.int .i64 j) := hx.cell 2
  have d0 : W0.cell? ⟨w.heap.size + 1, 0, none⟩ = some (.int .i64 r) := hy.cell 0
  have d1 : W0.cell? ⟨w.heap.size + 1, 1, none⟩ = some (.int .i64 c) := hy.cell 1
  have d2 : W0.cell? ⟨w.heap.size + 1, 2, none⟩ = some (.int .i64 s) := hy.cell 2
  have d3 : W0.cell? ⟨w.heap.size + 1, 3, none⟩ = some (.slice A n cap) := hy.cell 3
  have hn0 : (n : Int) ≤ 9223372036854775807 := hm
  clear hx hy hm
  go_enter Tryd.func10, Tryd.ntmps10
  go_wp2_with fail
  rw [← eW0]
  clear eW0
  refine (hT _).mono ?_
  rintro e w' ⟨rfl, rfl⟩
  go_wp2
  go_ret
  exact ⟨rfl, hb0⟩
set_option maxRecDepth 100000 in
set_option maxHeartbeats 2000000 in
theorem ris_5_0 (i j r c s : Int) (A : Option Addr) (n cap : Nat) (hm : (n : Int) ≤ 9223372036854775807) (T : Int) (hT : ∀ W, Calls Tryd.prog 21 #[.int .i64 (n : Int), .int .i64 4] W fun e w' => e = .returned (.int .i64 T) ∧ W = w') (C : Int) (_hC : ∀ W, Calls Tryd.prog 21 #[.int .i64 s, .int .i64 2] W fun e w' => e = .returned (.int .i64 C) ∧ w' = W) (t1 : decide (0 ≤ i) = false) (w : World) :
    Calls Tryd.prog 10 #[.agg #[.int .i64 5, .int .i64 i, .int .i64 j], .agg #[.int .i64 r, .int .i64 c, .int .i64 s, .slice A n cap]] w fun e w' => e = .returned (.bool (false)) ∧ Below w.heap.size w w' := by
  obtain ⟨W0, eW0⟩ : ∃ W, W = (w.alloc (.cells #[.int .i64 5, .int .i64 i, .int .i64 j] 23)).alloc (.cells #[.int .i64 r, .int .i64 c, .int .i64 s, .slice A n cap] 26) := ⟨_, rfl⟩
  have hb0 : Below w.heap.size w W0 := by rw [eW0]; exact ((Below.refl _ w).alloc (Nat.le_refl _) _).alloc (by simp) _
  have hx : Blk W0 w.heap.size 23 #[.int .i64 5, .int .i64 i, .int .i64 j] := by rw [eW0]; exact Blk.below (heap_alloc_new w _) ((Below.refl _ _).alloc (Nat.le_refl _) _) (by simp)
  have hy : Blk W0 (w.heap.size + 1) 26 #[.int .i64 r, .int .i64 c, .int .i64 s, .slice A n cap] := by rw [eW0]; exact blk_new _ _ 26 _ (by simp)
  have c0 : W0.cell? ⟨w.heap.size, 0, none⟩ = some (.int .i64 5) := hx.cell 0
  have c1 : W0.cell? ⟨w.heap.size, 1, none⟩ = some (.int .i64 i) := hx.cell 1
  have c2 : W0.cell? ⟨w.heap.size, 2, none⟩ = some (.int .i64 j) := hx.cell 2
  have d0 : W0.cell? ⟨w.heap.size + 1, 0, none⟩ = some (.int .i64 r) := hy.cell 0
  have d1 : W0.cell? ⟨w.heap.size + 1, 1, none⟩ = some (.int .i64 c) := hy.cell 1
  have d2 : W0.cell? ⟨w.heap.size + 1, 2, none⟩ = some (.int .i64 s) := hy.cell 2
  have d3 : W0.cell? ⟨w.heap.size + 1, 3, none⟩ = some (.slice A n cap) := hy.cell 3
  have hn0 : (n : Int) ≤ 9223372036854775807 := hm
  clear hx hy hm
  go_enter Tryd.func10, Tryd.ntmps10
  go_wp2_with fail
  rw [← eW0]
  clear eW0
  refine (hT _).mono ?_
  rintro e w' ⟨rfl, rfl⟩
  go_wp2_with fail
  go_quiet (first | (go_at_call 21; exact Calls.quiet_of_same (hC _)))
  go_wp2
  go_ret
  exact ⟨rfl, below_dn hb0 _⟩
set_option maxRecDepth 100000 in
set_option maxHeartbeats 2000000 in
theorem ris_5_1 (i j r c s : Int) (A : Option Addr) (n cap : Nat) (hm : (n : Int) ≤ 9223372036854775807) (T : Int) (hT : ∀ W, Calls Tryd.prog 21 #[.int .i64 (n : Int), .int .i64 4] W fun e w' => e = .returned (.int .i64 T) ∧ W = w') (C : Int) (_hC : ∀ W, Calls Tryd.prog 21 #[.int .i64 s, .int .i64 2] W fun e w' => e = .returned (.int .i64 C) ∧ w' = W) (t1 : decide (0 ≤ i) = true) (t2 : decide (i < T) = false) (w : World) :
    Calls Tryd.prog 10 #[.agg #[.int .i64 5, .int .i64 i, .int .i64 j], .agg #[.int .i64 r, .int .i64 c, .int .i64 s, .slice A n cap]] w fun e w' => e = .returned (.bool (false)) ∧ Below w.heap.size w w' := by
  obtain ⟨W0, eW0⟩ : ∃ W, W = (w.alloc (.cells #[.int .i64 5, .int .i64 i, .int .i64 j] 23)).alloc (.cells #[.int .i64 r, .int .i64 c, .int .i64 s, .slice A n cap] 26) := ⟨_, rfl⟩
  have hb0 : Below w.heap.size w W0 := by rw [eW0]; exact ((Below.refl _ w).alloc (Nat.le_refl _) _).alloc (by simp) _
  have hx : Blk W0 w.heap.size 23 #[.int .i64 5, .int .i64 i, .int .i64 j] := by rw [eW0]; exact Blk.below (heap_alloc_new w _) ((Below.refl _ _).alloc (Nat.le_refl _) _) (by simp)
  have hy : Blk W0 (w.heap.size + 1) 26 #[.int .i64 r, .int .i64 c, .int .i64 s, .slice A n cap] := by rw [eW0]; exact blk_new _ _ 26 _ (by simp)
  have c0 : W0.cell? ⟨w.heap.size, 0, none⟩ = some (.int .i64 5) := hx.cell 0
  have c1 : W0.cell? ⟨w.heap.size, 1, none⟩ = some (.int .i64 i) := hx.cell 1
  have c2 : W0.cell? ⟨w.heap.size, 2, none⟩ = some (.int .i64 j) := hx.cell 2
  have d0 : W0.cell? ⟨w.heap.size + 1, 0, none⟩ = some (.int .i64 r) := hy.cell 0
  have d1 : W0.cell? ⟨w.heap.size + 1, 1, none⟩ = some (.int .i64 c) := hy.cell 1
  have d2 : W0.cell? ⟨w.heap.size + 1, 2, none⟩ = some (.int .i64 s) := hy.cell 2
  have d3 : W0.cell? ⟨w.heap.size + 1, 3, none⟩ = some (.slice A n cap) := hy.cell 3
  have hn0 : (n : Int) ≤ 9223372036854775807 := hm
  clear hx hy hm
  go_enter Tryd.func10, Tryd.ntmps10
  go_wp2_with fail
  rw [← eW0]
  clear eW0
  refine (hT _).mono ?_
  rintro e w' ⟨rfl, rfl⟩
  go_wp2_with fail
  go_quiet (first | (go_at_call 21; exact Calls.quiet_of_same (hC _)))
  go_wp2
  go_ret
  exact ⟨rfl, below_dn hb0 _⟩
set_option maxRecDepth 100000 in
set_option maxHeartbeats 2000000 in
theorem ris_5_2 (i j r c s : Int) (A : Option Addr) (n cap : Nat) (hm : (n : Int) ≤ 9223372036854775807) (T : Int) (hT : ∀ W, Calls Tryd.prog 21 #[.int .i64 (n : Int), .int .i64 4] W fun e w' => e = .returned (.int .i64 T) ∧ W = w') (C : Int) (_hC : ∀ W, Calls Tryd.prog 21 #[.int .i64 s, .int .i64 2] W fun e w' => e = .returned (.int .i64 C) ∧ w' = W) (t1 : decide (0 ≤ i) = true) (t2 : decide (i < T) = true) (t3 : decide (0 ≤ j) = false) (w : World) :
    Calls Tryd.prog 10 #[.agg #[.int .i64 5, .int .i64 i, .int .i64 j], .agg #[.int .i64 r, .int .i64 c, .int .i64 s, .slice A n cap]] w fun e w' => e = .returned (.bool (false)) ∧ Below w.heap.size w w' := by
  obtain ⟨W0, eW0⟩ : ∃ W, W = (w.alloc (.cells #[.int .i64 5, .int .i64 i, .int .i64 j] 23)).alloc (.cells #[.int .i64 r, .int .i64 c, .int .i64 s, .slice A n cap] 26) := ⟨_, rfl⟩
  have hb0 : Below w.heap.size w W0 := by rw [eW0]; exact ((Below.refl _ w).alloc (Nat.le_refl _) _).alloc (by simp) _
  have hx : Blk W0 w.heap.size 23 #[.int .i64 5, .int .i64 i, .int .i64 j] := by rw [eW0]; exact Blk.below (heap_alloc_new w _) ((Below.refl _ _).alloc (Nat.le_refl _) _) (by simp)
  have hy : Blk W0 (w.heap.size + 1) 26 #[.int .i64 r, .int .i64 c, .int .i64 s, .slice A n cap] := by rw [eW0]; exact blk_new _ _ 26 _ (by simp)
  have c0 : W0.cell? ⟨w.heap.size, 0, none⟩ = some (.int .i64 5) := hx.cell 0
  have c1 : W0.cell? ⟨w.heap.size, 1, none⟩ = some (.int .i64 i) := hx.cell 1
  have c2 : W0.cell? ⟨w.heap.size, 2, none⟩ = some (.int .i64 j) := hx.cell 2
  have d0 : W0.cell? ⟨w.heap.size + 1, 0, none⟩ = some (.int .i64 r) := hy.cell 0
  have d1 : W0.cell? ⟨w.heap.size + 1, 1, none⟩ = some (.int .i64 c) := hy.cell 1
  have d2 : W0.cell? ⟨w.heap.size + 1, 2, none⟩ = some (.int .i64 s) := hy.cell 2
  have d3 : W0.cell? ⟨w.heap.size + 1, 3, none⟩ = some (.slice A n cap) := hy.cell 3
  have hn0 : (n : Int) ≤ 9223372036854775807 := hm
  clear hx hy hm
  go_enter Tryd.func10, Tryd.ntmps10
  go_wp2_with fail
  rw [← eW0]
  clear eW0
  refine (hT _).mono ?_
  rintro e w' ⟨rfl, rfl⟩
  go_wp2_with fail
  go_quiet (first | (go_at_call 21; exact Calls.quiet_of_same (hC _)))
  go_wp2
  go_ret
  exact ⟨rfl, below_dn hb0 _⟩
set_option maxRecDepth 100000 in
set_option maxHeartbeats 2000000 in
theorem ris_5_3 (i j r c s : Int) (A : Option Addr) (n cap : Nat) (hm : (n : Int) ≤ 9223372036854775807) (T : Int) (hT : ∀ W, Calls Tryd.prog 21 #[.int .i64 (n : Int), .int .i64 4] W fun e w' => e = .returned (.int .i64 T) ∧ W = w') (C : Int) (hC : ∀ W, Calls Tryd.prog 21 #[.int .i64 s, .int .i64 2] W fun e w' => e = .returned (.int .i64 C) ∧ w' = W) (t1 : decide (0 ≤ i) = true) (t2 : decide (i < T) = true) (t3 : decide (0 ≤ j) = true) (w : World) :
    Calls Tryd.prog 10 #[.agg #[.int .i64 5, .int .i64 i, .int .i64 j], .agg #[.int .i64 r, .int .i64 c, .int .i64 s, .slice A n cap]] w fun e w' => e = .returned (.bool (decide (j < C))) ∧ Below w.heap.size w w' := by
  obtain ⟨W0, eW0⟩ : ∃ W, W = (w.alloc (.cells #[.int .i64 5, .int .i64 i, .int .i64 j] 23)).alloc (.cells #[.int .i64 r, .int .i64 c, .int .i64 s, .slice A n cap] 26) := ⟨_, rfl⟩
  have hb0 : Below w.heap.size w W0 := by rw [eW0]; exact ((Below.refl _ w).alloc (Nat.le_refl _) _).alloc (by simp) _
  have hx : Blk W0 w.heap.size 23 #[.int .i64 5, .int .i64 i, .int .i64 j] := by rw [eW0]; exact Blk.below (heap_alloc_new w _) ((Below.refl _ _).alloc (Nat.le_refl _) _) (by simp)
  have hy : Blk W0 (w.heap.size + 1) 26 #[.int .i64 r, .int .i64 c, .int .i64 s, .slice A n cap] := by rw [eW0]; exact blk_new _ _ 26 _ (by simp)
  have c0 : W0.cell? ⟨w.heap.size, 0, none⟩ = some (.int .i64 5) := hx.cell 0
  have c1 : W0.cell? ⟨w.heap.size, 1, none⟩ = some (.int .i64 i) := hx.cell 1
  have c2 : W0.cell? ⟨w.heap.size, 2, none⟩ = some (.int .i64 j) := hx.cell 2
  have d0 : W0.cell? ⟨w.heap.size + 1, 0, none⟩ = some (.int .i64 r) := hy.cell 0
  have d1 : W0.cell? ⟨w.heap.size + 1, 1, none⟩ = some (.int .i64 c) := hy.cell 1
  have d2 : W0.cell? ⟨w.heap.size + 1, 2, none⟩ = some (.int .i64 s) := hy.cell 2
  have d3 : W0.cell? ⟨w.heap.size + 1, 3, none⟩ = some (.slice A n cap) := hy.cell 3
  have hn0 : (n : Int) ≤ 9223372036854775807 := hm
  clear hx hy hm
  go_enter Tryd.func10, Tryd.ntmps10
  go_wp2_with fail
  rw [← eW0]
  clear eW0
  refine (hT _).mono ?_
  rintro e w' ⟨rfl, rfl⟩
  go_wp2_with fail
  go_quiet (first | (go_at_call 21; exact Calls.quiet_of_same (hC _)))
  go_wp2
  go_ret
  exact ⟨rfl, below_dn hb0 _⟩
set_option maxRecDepth 100000 in
set_option maxHeartbeats 2000000 in
theorem ris_6_0 (i j r c s : Int) (A : Option Addr) (n cap : Nat) (hm : (n : Int) ≤ 9223372036854775807) (T : Int) (hT : ∀ W, Calls Tryd.prog 21 #[.int .i64 (n : Int), .int .i64 4] W fun e w' => e = .returned (.int .i64 T) ∧ W = w') (t1 : (i == 0) = false) (w : World) :
    Calls Tryd.prog 10 #[.agg #[.int .i64 6, .int .i64 i, .int .i64 j], .agg #[.int .i64 r, .int .i64 c, .int .i64 s, .slice A n cap]] w fun e w' => e = .returned (.bool (false)) ∧ Below w.heap.size w w' := by
  obtain ⟨W0, eW0⟩ : ∃ W, W = (w.alloc (.cells #[.int .i64 6, .int .i64 i, .int .i64 j] 23)).alloc (.cells #[.int .i64 r, .int .i64 c, .int .i64 s, .slice A n cap] 26) := ⟨_, rfl⟩
  have hb0 : Below w.heap.size w W0 := by rw [eW0]; exact ((Below.refl _ w).alloc (Nat.le_refl _) _).alloc (by simp) _
  have hx : Blk W0 w.heap.size 23 #[.int .i64 6, .int .i64 i, .int .i64 j] := by rw [eW0]; exact Blk.below (heap_alloc_new w _) ((Below.refl _ _).alloc (Nat.le_refl _) _) (by simp)
  have hy : Blk W0 (w.heap.size + 1) 26 #[.int .i64 r, .int .i64 c, .int .i64 s, .slice A n cap] := by rw [eW0]; exact blk_new _ _ 26 _ (by simp)
  have c0 : W0.cell? ⟨w.heap.size, 0, none⟩ = some (.int .i64 6) := hx.cell 0
  have c1 : W0.cell? ⟨w.heap.size, 1, none⟩ = some (.int .i64 i) := hx.cell 1
  have c2 : W0.cell? ⟨w.heap.size, 2, none⟩ = some (.int .i64 j) := hx.cell 2
  have d0 : W0.cell? ⟨w.heap.size + 1, 0, none⟩ = some (.int .i64 r) := hy.cell 0
  have d1 : W0.cell? ⟨w.heap.size + 1, 1, none⟩ = some (.int .i64 c) := hy.cell 1
  have d2 : W0.cell? ⟨w.heap.size + 1, 2, none⟩ = some (.int .i64 s) := hy.cell 2
  have d3 : W0.cell? ⟨w.heap.size + 1, 3, none⟩ = some (.slice A n cap) := hy.cell 3
  have hn0 : (n : Int) ≤ 9223372036854775807 := hm
  clear hx hy hm
  go_enter Tryd.func10, Tryd.ntmps10
  go_wp2_with fail
  rw [← eW0]
  clear eW0
  refine (hT _).mono ?_
  rintro e w' ⟨rfl, rfl⟩
  go_wp2
  go_ret
  exact ⟨rfl, hb0⟩
set_option maxRecDepth 100000 in
set_option maxHeartbeats 2000000 in
theorem ris_6_1 (i j r c s : Int) (A : Option Addr) (n cap : Nat) (hm : (n : Int) ≤ 9223372036854775807) (T : Int) (hT : ∀ W, Calls Tryd.prog 21 #[.int .i64 (n : Int), .int .i64 4] W fun e w' => e = .returned (.int .i64 T) ∧ W = w') (t1 : (i == 0) = true) (w : World) :
    Calls Tryd.prog 10 #[.agg #[.int .i64 6, .int .i64 i, .int .i64 j], .agg #[.int .i64 r, .int .i64 c, .int .i64 s, .slice A n cap]] w fun e w' => e = .returned (.bool ((j == 0))) ∧ Below w.heap.size w w' := by
  obtain ⟨W0, eW0⟩ : ∃ W, W = (w.alloc (.cells #[.int .i64 6, .int .i64 i, .int .i64 j] 23)).alloc (.cells #[.int .i64 r, .int .i64 c, .int .i64 s, .slice A n cap] 26) := ⟨_, rfl⟩
  have hb0 : Below w.heap.size w W0 := by rw [eW0]; exact ((Below.refl _ w).alloc (Nat.le_refl _) _).alloc (by simp) _
  have hx : Blk W0 w.heap.size 23 #[.int .i64 6, .int .i64 i, .int .i64 j] := by rw [eW0]; exact Blk.below (heap_alloc_new w _) ((Below.refl _ _).alloc (Nat.le_refl _) _) (by simp)
  have hy : Blk W0 (w.heap.size + 1) 26 #[.int .i64 r, .int .i64 c, .int .i64 s, .slice A n cap] := by rw [eW0]; exact blk_new _ _ 26 _ (by simp)
  have c0 : W0.cell? ⟨w.heap.size, 0, none⟩ = some (.int .i64 6) := hx.cell 0
  have c1 : W0.cell? ⟨w.heap.size, 1, none⟩ = some (.int .i64 i) := hx.cell 1
  have c2 : W0.cell? ⟨w.heap.size, 2, none⟩ = some (.int .i64 j) := hx.cell 2
  have d0 : W0.cell? ⟨w.heap.size + 1, 0, none⟩ = some (.int .i64 r) := hy.cell 0
  have d1 : W0.cell? ⟨w.heap.size + 1, 1, none⟩ = some (.int .i64 c) := hy.cell 1
  have d2 : W0.cell? ⟨w.heap.size + 1, 2, none⟩ = some (.int .i64 s) := hy.cell 2
  have d3 : W0.cell? ⟨w.heap.size + 1, 3, none⟩ = some (.slice A n cap) := hy.cell 3
  have hn0 : (n : Int) ≤ 9223372036854775807 := hm
  clear hx hy hm
  go_enter Tryd.func10, Tryd.ntmps10
  go_wp2_with fail
  rw [← eW0]
  clear eW0
  refine (hT _).mono ?_
  rintro e w' ⟨rfl, rfl⟩
  go_wp2
  go_ret
  exact ⟨rfl, hb0⟩
set_option maxRecDepth 100000 in
set_option maxHeartbeats 2000000 in
theorem ris_7_0 (i j r c s : Int) (A : Option Addr) (n cap : Nat) (hm : (n : Int) ≤ 9223372036854775807) (T : Int) (hT : ∀ W, Calls Tryd.prog 21 #[.int .i64 (n : Int), .int .i64 4] W fun e w' => e = .returned (.int .i64 T) ∧ W = w') (t1 : decide (0 ≤ i) = false) (w : World) :
    Calls Tryd.prog 10 #[.agg #[.int .i64 7, .int .i64 i, .int .i64 j], .agg #[.int .i64 r, .int .i64 c, .int .i64 s, .slice A n cap]] w fun e w' => e = .returned (.bool (false)) ∧ Below w.heap.size w w' := by
  obtain ⟨W0, eW0⟩ : ∃ W, W = (w.alloc (.cells #[.int .i64 7, .int .i64 i, .int .i64 j] 23)).alloc (.cells #[.int .i64 r, .int .i64 c, .int .i64 s, .slice A n cap] 26) := ⟨_, rfl⟩
  have hb0 : Below w.heap.size w W0 := by rw [eW0]; exact ((Below.refl _ w).alloc (Nat.le_refl _) _).alloc (by simp) _
  have hx : Blk W0 w.heap.size 23 #[.int .i64 7, .int .i64 i, .int .i64 j] := by rw [eW0]; exact Blk.below (heap_alloc_new w _) ((Below.refl _ _).alloc (Nat.le_refl _) _) (by simp)
  have hy : Blk W0 (w.heap.size + 1) 26 #[.int .i64 r, .int .i64 c, .int .i64 s, .slice A n cap] := by rw [eW0]; exact blk_new _ _ 26 _ (by simp)
  have c0 : W0.cell? ⟨w.heap.size, 0, none⟩ = some (.int .i64 7) := hx.cell 0
  have c1 : W0.cell? ⟨w.heap.size, 1, none⟩ = some (.int .i64 i) := hx.cell 1
  have c2 : W0.cell? ⟨w.heap.size, 2, none⟩ = some (.int .i64 j) := hx.cell 2
  have d0 : W0.cell? ⟨w.heap.size + 1, 0, none⟩ = some (.int .i64 r) := hy.cell 0
  have d1 : W0.cell? ⟨w.heap.size + 1, 1, none⟩ = some (.int .i64 c) := hy.cell 1
  have d2 : W0.cell? ⟨w.heap.size + 1, 2, none⟩ = some (.int .i64 s) := hy.cell 2
  have d3 : W0.cell? ⟨w.heap.size + 1, 3, none⟩ = some (.slice A n cap) := hy.cell 3
  have hn0 : (n : Int) ≤ 9223372036854775807 := hm
  clear hx hy hm
  go_enter Tryd.func10, Tryd.ntmps10
  go_wp2_with fail
  rw [← eW0]
  clear eW0
  refine (hT _).mono ?_
  rintro e w' ⟨rfl, rfl⟩
  go_wp2
  go_ret
  exact ⟨rfl, hb0⟩
set_option maxRecDepth 100000 in
set_option maxHeartbeats 2000000 in
theorem ris_7_1 (i j r c s : Int) (A : Option Addr) (n cap : Nat) (hm : (n : Int) ≤ 9223372036854775807) (T : Int) (hT : ∀ W, Calls Tryd.prog 21 #[.int .i64 (n : Int), .int .i64 4] W fun e w' => e = .returned (.int .i64 T) ∧ W = w') (t1 : decide (0 ≤ i) = true) (t2 : decide (i < T) = false) (w : World) :
    Calls Tryd.prog 10 #[.agg #[.int .i64 7, .int .i64 i, .int .i64 j], .agg #[.int .i64 r, .int .i64 c, .int .i64 s, .slice A n cap]] w fun e w' => e = .returned (.bool (false)) ∧ Below w.heap.size w w' := by
  obtain ⟨W0, eW0⟩ : ∃ W, W = (w.alloc (.cells #[.int .i64 7, .int .i64 i, .int .i64 j] 23)).alloc (.cells #[.int .i64 r, .int .i64 c, .int .i64 s, .slice A n cap] 26) := ⟨_, rfl⟩
  have hb0 : Below w.heap.size w W0 := by rw [eW0]; exact ((Below.refl _ w).alloc (Nat.le_refl _) _).alloc (by simp) _
  have hx : Blk W0 w.heap.size 23 #[.int .i64 7, .int .i64 i, .int .i64 j] := by rw [eW0]; exact Blk.below (heap_alloc_new w _) ((Below.refl _ _).alloc (Nat.le_refl _) _) (by simp)
  have hy : Blk W0 (w.heap.size + 1) 26 #[.int .i64 r, .int .i64 c, .int .i64 s, .slice A n cap] := by rw [eW0]; exact blk_new _ _ 26 _ (by simp)
  have c0 : W0.cell? ⟨w.heap.size, 0, none⟩ = some (.int .i64 7) := hx.cell 0
  have c1 : W0.cell? ⟨w.heap.size, 1, none⟩ = some (.int .i64 i) := hx.cell 1
  have c2 : W0.cell? ⟨w.heap.size, 2, none⟩ = some (.int .i64 j) := hx.cell 2
  have d0 : W0.cell? ⟨w.heap.size + 1, 0, none⟩ = some (.int .i64 r) := hy.cell 0
  have d1 : W0.cell? ⟨w.heap.size + 1, 1, none⟩ = some (.int .i64 c) := hy.cell 1
  have d2 : W0.cell? ⟨w.heap.size + 1, 2, none⟩ = some (.int .i64 s) := hy.cell 2
  have d3 : W0.cell? ⟨w.heap.size + 1, 3, none⟩ = some (.slice A n cap) := hy.cell 3
  have hn0 : (n : Int) ≤ 9223372036854775807 := hm
  clear hx hy hm
  go_enter Tryd.func10, Tryd.ntmps10
  go_wp2_with fail
  rw [← eW0]
  clear eW0
  refine (hT _).mono ?_
  rintro e w' ⟨rfl, rfl⟩
  go_wp2
  go_ret
  exact ⟨rfl, hb0⟩
set_option maxRecDepth 100000 in
set_option maxHeartbeats 2000000 in
theorem ris_7_2 (i j r c s : Int) (A : Option Addr) (n cap : Nat) (hm : (n : Int) ≤ 9223372036854775807) (T : Int) (hT : ∀ W, Calls Tryd.prog 21 #[.int .i64 (n : Int), .int .i64 4] W fun e w' => e = .returned (.int .i64 T) ∧ W = w') (t1 : decide (0 ≤ i) = true) (t2 : decide (i < T) = true) (w : World) :
    Calls Tryd.prog 10 #[.agg #[.int .i64 7, .int .i64 i, .int .i64 j], .agg #[.int .i64 r, .int .i64 c, .int .i64 s, .slice A n cap]] w fun e w' => e = .returned (.bool ((j == 0))) ∧ Below w.heap.size w w' := by
  obtain ⟨W0, eW0⟩ : ∃ W, W = (w.alloc (.cells #[.int .i64 7, .int .i64 i, .int .i64 j] 23)).alloc (.cells #[.int .i64 r, .int .i64 c, .int .i64 s, .slice A n cap] 26) := ⟨_, rfl⟩
  have hb0 : Below w.heap.size w W0 := by rw [eW0]; exact ((Below.refl _ w).alloc (Nat.le_refl _) _).alloc (by simp) _
  have hx : Blk W0 w.heap.size 23 #[.int .i64 7, .int .i64 i, .int .i64 j] := by rw [eW0]; exact Blk.below (heap_alloc_new w _) ((Below.refl _ _).alloc (Nat.le_refl _) _) (by simp)
  have hy : Blk W0 (w.heap.size + 1) 26 #[.int .i64 r, .int .i64 c, .int .i64 s, .slice A n cap] := by rw [eW0]; exact blk_new _ _ 26 _ (by simp)
  have c0 : W0.cell? ⟨w.heap.size, 0, none⟩ = some (.int .i64 7) := hx.cell 0
  have c1 : W0.cell? ⟨w.heap.size, 1, none⟩ = some (.int .i64 i) := hx.cell 1
  have c2 : W0.cell? ⟨w.heap.size, 2, none⟩ = some (.int .i64 j) := hx.cell 2
  have d0 : W0.cell? ⟨w.heap.size + 1, 0, none⟩ = some (.int .i64 r) := hy.cell 0
  have d1 : W0.cell? ⟨w.heap.size + 1, 1, none⟩ = some (.int .i64 c) := hy.cell 1
  have d2 : W0.cell? ⟨w.heap.size + 1, 2, none⟩ = some (.int .i64 s) := hy.cell 2
  have d3 : W0.cell? ⟨w.heap.size + 1, 3, none⟩ = some (.slice A n cap) := hy.cell 3
  have hn0 : (n : Int) ≤ 9223372036854775807 := hm
  clear hx hy hm
  go_enter Tryd.func10, Tryd.ntmps10
  go_wp2_with fail
  rw [← eW0]
  clear eW0
  refine (hT _).mono ?_
  rintro e w' ⟨rfl, rfl⟩
  go_wp2
  go_ret
  exact ⟨rfl, hb0⟩
set_option maxRecDepth 100000 in
set_option maxHeartbeats 2000000 in
theorem ris_8_0 (i j r c s : Int) (A : Option Addr) (n cap : Nat) (hm : (n : Int) ≤ 9223372036854775807) (T : Int) (hT : ∀ W, Calls Tryd.prog 21 #[.int .i64 (n : Int), .int .i64 4] W fun e w' => e = .returned (.int .i64 T) ∧ W = w') (t1 : decide (0 ≤ i) = false) (w : World) :
    Calls Tryd.prog 10 #[.agg #[.int .i64 8, .int .i64 i, .int .i64 j], .agg #[.int .i64 r, .int .i64 c, .int .i64 s, .slice A n cap]] w fun e w' => e = .returned (.bool (false)) ∧ Below w.heap.size w w' := by
  obtain ⟨W0, eW0⟩ : ∃ W, W = (w.alloc (.cells #[.int .i64 8, .int .i64 i, .int .i64 j] 23)).alloc (.cells #[.int .i64 r, .int .i64 c, .int .i64 s, .slice A n cap] 26) := ⟨_, rfl⟩
  have hb0 : Below w.heap.size w W0 := by rw [eW0]; exact ((Below.refl _ w).alloc (Nat.le_refl _) _).alloc (by simp) _
  have hx : Blk W0 w.heap.size 23 #[.int .i64 8, .int .i64 i, .int .i64 j] := by rw [eW0]; exact Blk.below (heap_alloc_new w _) ((Below.refl _ _).alloc (Nat.le_refl _) _) (by simp)
  have hy : Blk W0 (w.heap.size + 1) 26 #[.int .i64 r, .int .i64 c, .int .i64 s, .slice A n cap] := by rw [eW0]; exact blk_new _ _ 26 _ (by simp)
  have c0 : W0.cell? ⟨w.heap.size, 0, none⟩ = some (.int .i64 8) := hx.cell 0
  have c1 : W0.cell? ⟨w.heap.size, 1, none⟩ = some (.int .i64 i) := hx.cell 1
  have c2 : W0.cell? ⟨w.heap.size, 2, none⟩ = some (.int .i64 j) := hx.cell 2
  have d0 : W0.cell? ⟨w.heap.size + 1, 0, none⟩ = some (.int .i64 r) := hy.cell 0
  have d1 : W0.cell? ⟨w.heap.size + 1, 1, none⟩ = some (.int .i64 c) := hy.cell 1
  have d2 : W0.cell? ⟨w.heap.size + 1, 2, none⟩ = some (.int .i64 s) := hy.cell 2
  have d3 : W0.cell? ⟨w.heap.size + 1, 3, none⟩ = some (.slice A n cap) := hy.cell 3
  have hn0 : (n : Int) ≤ 9223372036854775807 := hm
  clear hx hy hm
  go_enter Tryd.func10, Tryd.ntmps10
  go_wp2_with fail
  rw [← eW0]
  clear eW0
  refine (hT _).mono ?_
  rintro e w' ⟨rfl, rfl⟩
  go_wp2
  go_ret
  exact ⟨rfl, hb0⟩
set_option maxRecDepth 100000 in
set_option maxHeartbeats 2000000 in
theorem ris_8_1 (i j r c s : Int) (A : Option Addr) (n cap : Nat) (hm : (n : Int) ≤ 9223372036854775807) (T : Int) (hT : ∀ W, Calls Tryd.prog 21 #[.int .i64 (n : Int), .int .i64 4] W fun e w' => e = .returned (.int .i64 T) ∧ W = w') (t1 : decide (0 ≤ i) = true) (t2 : decide (i < T) = false) (w : World) :
    Calls Tryd.prog 10 #[.agg #[.int .i64 8, .int .i64 i, .int .i64 j], .agg #[.int .i64 r, .int .i64 c, .int .i64 s, .slice A n cap]] w fun e w' => e = .returned (.bool (false)) ∧ Below w.heap.size w w' := by
  obtain ⟨W0, eW0⟩ : ∃ W, W = (w.alloc (.cells #[.int .i64 8, .int .i64 i, .int .i64 j] 23)).alloc (.cells #[.int .i64 r, .int .i64 c, .int .i64 s, .slice A n cap] 26) := ⟨_, rfl⟩
  have hb0 : Below w.heap.size w W0 := by rw [eW0]; exact ((Below.refl _ w).alloc (Nat.le_refl _) _).alloc (by simp) _
  have hx : Blk W0 w.heap.size 23 #[.int .i64 8, .int .i64 i, .int .i64 j] := by rw [eW0]; exact Blk.below (heap_alloc_new w _) ((Below.refl _ _).alloc (Nat.le_refl _) _) (by simp)
  have hy : Blk W0 (w.heap.size + 1) 26 #[.int .i64 r, .int .i64 c, .int .i64 s, .slice A n cap] := by rw [eW0]; exact blk_new _ _ 26 _ (by simp)
  have c0 : W0.cell? ⟨w.heap.size, 0, none⟩ = some (.int .i64 8) := hx.cell 0
  have c1 : W0.cell? ⟨w.heap.size, 1, none⟩ = some (.int .i64 i) := hx.cell 1
  have c2 : W0.cell? ⟨w.heap.size, 2, none⟩ = some (.int .i64 j) := hx.cell 2
  have d0 : W0.cell? ⟨w.heap.size + 1, 0, none⟩ = some (.int .i64 r) := hy.cell 0
  have d1 : W0.cell? ⟨w.heap.size + 1, 1, none⟩ = some (.int .i64 c) := hy.cell 1
  have d2 : W0.cell? ⟨w.heap.size + 1, 2, none⟩ = some (.int .i64 s) := hy.cell 2
  have d3 : W0.cell? ⟨w.heap.size + 1, 3, none⟩ = some (.slice A n cap) := hy.cell 3
  have hn0 : (n : Int) ≤ 9223372036854775807 := hm
  clear hx hy hm
  go_enter Tryd.func10, Tryd.ntmps10
  go_wp2_with fail
  rw [← eW0]
  clear eW0
  refine (hT _).mono ?_
  rintro e w' ⟨rfl, rfl⟩
  go_wp2
  go_ret
  exact ⟨rfl, hb0⟩
set_option maxRecDepth 100000 in
set_option maxHeartbeats 2000000 in
theorem ris_8_2 (i j r c s : Int) (A : Option Addr) (n cap : Nat) (hm : (n : Int) ≤ 9223372036854775807) (T : Int) (hT : ∀ W, Calls Tryd.prog 21 #[.int .i64 (n : Int), .int .i64 4] W fun e w' => e = .returned (.int .i64 T) ∧ W = w') (t1 : decide (0 ≤ i) = true) (t2 : decide (i < T) = true) (w : World) :
    Calls Tryd.prog 10 #[.agg #[.int .i64 8, .int .i64 i, .int .i64 j], .agg #[.int .i64 r, .int .i64 c, .int .i64 s, .slice A n cap]] w fun e w' => e = .returned (.bool ((j == 0))) ∧ Below w.heap.size w w' := by
  obtain ⟨W0, eW0⟩ : ∃ W, W = (w.alloc (.cells #[.int .i64 8, .int .i64 i, .int .i64 j] 23)).alloc (.cells #[.int .i64 r, .int .i64 c, .int .i64 s, .slice A n cap] 26) := ⟨_, rfl⟩
  have hb0 : Below w.heap.size w W0 := by rw [eW0]; exact ((Below.refl _ w).alloc (Nat.le_refl _) _).alloc (by simp) _
  have hx : Blk W0 w.heap.size 23 #[.int .i64 8, .int .i64 i, .int .i64 j] := by rw [eW0]; exact Blk.below (heap_alloc_new w _) ((Below.refl _ _).alloc (Nat.le_refl _) _) (by simp)
  have hy : Blk W0 (w.heap.size + 1) 26 #[.int .i64 r, .int .i64 c, .int .i64 s, .slice A n cap] := by rw [eW0]; exact blk_new _ _ 26 _ (by simp)
  have c0 : W0.cell? ⟨w.heap.size, 0, none⟩ = some (.int .i64 8) := hx.cell 0
  have c1 : W0.cell? ⟨w.heap.size, 1, none⟩ = some (.int .i64 i) := hx.cell 1
  have c2 : W0.cell? ⟨w.heap.size, 2, none⟩ = some (.int .i64 j) := hx.cell 2
  have d0 : W0.cell? ⟨w.heap.size + 1, 0, none⟩ = some (.int .i64 r) := hy.cell 0
  have d1 : W0.cell? ⟨w.heap.size + 1, 1, none⟩ = some (.int .i64 c) := hy.cell 1
  have d2 : W0.cell? ⟨w.heap.size + 1, 2, none⟩ = some (.int .i64 s) := hy.cell 2
  have d3 : W0.cell? ⟨w.heap.size + 1, 3, none⟩ = some (.slice A n cap) := hy.cell 3
  have hn0 : (n : Int) ≤ 9223372036854775807 := hm
  clear hx hy hm
  go_enter Tryd.func10, Tryd.ntmps10
  go_wp2_with fail
  rw [← eW0]
  clear eW0
  refine (hT _).mono ?_
  rintro e w' ⟨rfl, rfl⟩
  go_wp2
  go_ret
  exact ⟨rfl, hb0⟩
set_option maxRecDepth 100000 in
set_option maxHeartbeats 2000000 in
theorem ris_else (k i j r c s : Int) (h : ¬ (1 ≤ k ∧ k ≤ 8)) (A : Option Addr) (n cap : Nat) (hm : (n : Int) ≤ 9223372036854775807) (T : Int) (hT : ∀ W, Calls Tryd.prog 21 #[.int .i64 (n : Int), .int .i64 4] W fun e w' => e = .returned (.int .i64 T) ∧ W = w') (w : World) :
    Calls Tryd.prog 10 #[.agg #[.int .i64 k, .int .i64 i, .int .i64 j], .agg #[.int .i64 r, .int .i64 c, .int .i64 s, .slice A n cap]] w fun e w' => e = .returned (.bool false) ∧ Below w.heap.size w w' := by
  obtain ⟨t1, t2, t3, t4, t5, t6, t7, t8⟩ : (k == 1) = false ∧ (k == 2) = false ∧ (k == 3) = false ∧ (k == 4) = false ∧ (k == 5) = false ∧ (k == 6) = false ∧ (k == 7) = false ∧ (k == 8) = false := by
    simp only [beq_eq_false_iff_ne]
    omega
  clear h
  obtain ⟨W0, eW0⟩ : ∃ W, W = (w.alloc (.cells #[.int .i64 k, .int .i64 i, .int .i64 j] 23)).alloc (.cells #[.int .i64 r, .int .i64 c, .int .i64 s, .slice A n cap] 26) := ⟨_, rfl⟩
  have hb0 : Below w.heap.size w W0 := by rw [eW0]; exact ((Below.refl _ w).alloc (Nat.le_refl _) _).alloc (by simp) _
  have hx : Blk W0 w.heap.size 23 #[.int .i64 k, .int .i64 i, .int .i64 j] := by rw [eW0]; exact Blk.below (heap_alloc_new w _) ((Below.refl _ _).alloc (Nat.le_refl _) _) (by simp)
  have hy : Blk W0 (w.heap.size + 1) 26 #[.int .i64 r, .int .i64 c, .int .i64 s, .slice A n cap] := by rw [eW0]; exact blk_new _ _ 26 _ (by simp)
  have c0 : W0.cell? ⟨w.heap.size, 0, none⟩ = some (.int .i64 k) := hx.cell 0
  have c1 : W0.cell? ⟨w.heap.size, 1, none⟩ = some (.int .i64 i) := hx.cell 1
  have c2 : W0.cell? ⟨w.heap.size, 2, none⟩ = some (.int .i64 j) := hx.cell 2
  have d0 : W0.cell? ⟨w.heap.size + 1, 0, none⟩ = some (.int .i64 r) := hy.cell 0
  have d1 : W0.cell? ⟨w.heap.size + 1, 1, none⟩ = some (.int .i64 c) := hy.cell 1
  have d2 : W0.cell? ⟨w.heap.size + 1, 2, none⟩ = some (.int .i64 s) := hy.cell 2
  have d3 : W0.cell? ⟨w.heap.size + 1, 3, none⟩ = some (.slice A n cap) := hy.cell 3
  have hn0 : (n : Int) ≤ 9223372036854775807 := hm
  clear hx hy hm
  go_enter Tryd.func10, Tryd.ntmps10
  go_wp2_with fail
  rw [← eW0]
  clear eW0
  refine (hT _).mono ?_
  rintro e w' ⟨rfl, rfl⟩
  go_wp2
  go_ret
  exact ⟨rfl, hb0⟩
/-- What the plain answer asks, kind by kind. -/
def risP (x : Pl) (p : Pg) : Bool :=
  if x.k = 1 then decide (0 ≤ x.i) && decide (x.i < cl p.r 4) && (x.j == 0)
  else if x.k = 2 then decide (1 ≤ x.i) && decide (x.i ≤ cl p.c 6) && (x.j == 0)
  else if x.k = 3 then decide (1 ≤ x.i) && decide (x.i ≤ cl p.c 6) && decide (0 ≤ x.j) && decide (x.j ≤ 1)
  else if x.k = 4 then (x.i == 0) && (x.j == 0)
  else if x.k = 5 then decide (0 ≤ x.i) && decide (x.i < cl p.n 4) && decide (0 ≤ x.j) && decide (x.j < cl p.s 2)
  else if x.k = 6 then (x.i == 0) && (x.j == 0)
  else if x.k = 7 then decide (0 ≤ x.i) && decide (x.i < cl p.n 4) && (x.j == 0)
  else if x.k = 8 then decide (0 ≤ x.i) && decide (x.i < cl p.n 4) && (x.j == 0)
  else false
theorem risP_else (x : Pl) (p : Pg) (h : ¬ (1 ≤ x.k ∧ x.k ≤ 8)) : risP x p = false := by
  unfold risP
  rw [if_neg (by omega), if_neg (by omega), if_neg (by omega), if_neg (by omega), if_neg (by omega), if_neg (by omega), if_neg (by omega), if_neg (by omega)]
theorem ris_is (x : Pl) (p : Pg) : risP x p = isP x p := by
  by_cases h : 1 ≤ x.k ∧ x.k ≤ 8
  · have hk : x.k = 1 ∨ x.k = 2 ∨ x.k = 3 ∨ x.k = 4 ∨ x.k = 5 ∨ x.k = 6 ∨ x.k = 7 ∨ x.k = 8 := by omega
    have z : ∀ y : Int, (y == 0) = decide (0 ≤ y ∧ y ≤ 0) := fun y => by
      by_cases e : y = 0
      · subst e; rfl
      · rw [beq_eq_false_iff_ne.2 e, decide_eq_false (by omega)]
    rcases hk with e | e | e | e | e | e | e | e <;>
      (unfold risP isP inB spanP
       rw [e]
       simp only [if_pos, z]
       simp
       try (rw [Bool.eq_iff_iff]; simp; omega))
  · rw [risP_else x p h]
    unfold isP inB
    rw [spanP_else x.k p h]
    symm
    simp
    omega
theorem ris_any (x : Pl) (p : Pg) (hp : p.Ok) (w : World) : Calls Tryd.prog 10 #[.agg x.cs.toArray, .agg p.cs.toArray] w fun e w' => e = .returned (.bool (isP x p)) ∧ Below w.heap.size w w' := by
  rw [← ris_is]
  have hT := fun W => low_any (p.n : Int) 4 W
  have hR := fun W => low2_any p.r 4 W
  have hC := fun W => low2_any p.c 6 W
  have hS := fun W => low2_any p.s 2 W
  have hm := len_i64 hp.room hp.most
  by_cases h : 1 ≤ x.k ∧ x.k ≤ 8
  · have hk : x.k = 1 ∨ x.k = 2 ∨ x.k = 3 ∨ x.k = 4 ∨ x.k = 5 ∨ x.k = 6 ∨ x.k = 7 ∨ x.k = 8 := by omega
    obtain ⟨k, i, j⟩ := x
    obtain ⟨r, c, s, A, n, cap⟩ := p
    simp only at hT hR hC hS hm hk
    unfold Pl.cs Pg.cs risP
    simp only
    generalize cl (n : Int) 4 = T at hT ⊢
    generalize cl r 4 = CR at hR ⊢
    generalize cl c 6 = CC at hC ⊢
    generalize cl s 2 = CS at hS ⊢
    rcases hk with rfl | rfl | rfl | rfl | rfl | rfl | rfl | rfl
    · rw [if_pos rfl]
      cases t1 : decide (0 ≤ i)
      · simpa using ris_1_0 i j r c s A n cap hm T hT CR hR t1 w
      cases t2 : decide (i < CR)
      · simpa using ris_1_1 i j r c s A n cap hm T hT CR hR t1 t2 w
      simpa using ris_1_2 i j r c s A n cap hm T hT CR hR t1 t2 w
    · rw [if_neg (by decide), if_pos rfl]
      cases t1 : decide (1 ≤ i)
      · simpa using ris_2_0 i j r c s A n cap hm T hT CC hC t1 w
      cases t2 : decide (i ≤ CC)
      · simpa using ris_2_1 i j r c s A n cap hm T hT CC hC t1 t2 w
      simpa using ris_2_2 i j r c s A n cap hm T hT CC hC t1 t2 w
    · rw [if_neg (by decide), if_neg (by decide), if_pos rfl]
      cases t1 : decide (1 ≤ i)
      · simpa using ris_3_0 i j r c s A n cap hm T hT CC hC t1 w
      cases t2 : decide (i ≤ CC)
      · simpa using ris_3_1 i j r c s A n cap hm T hT CC hC t1 t2 w
      cases t3 : decide (0 ≤ j)
      · simpa using ris_3_2 i j r c s A n cap hm T hT CC hC t1 t2 t3 w
      simpa using ris_3_3 i j r c s A n cap hm T hT CC hC t1 t2 t3 w
    · rw [if_neg (by decide), if_neg (by decide), if_neg (by decide), if_pos rfl]
      cases t1 : (i == 0)
      · simpa using ris_4_0 i j r c s A n cap hm T hT t1 w
      simpa using ris_4_1 i j r c s A n cap hm T hT t1 w
    · rw [if_neg (by decide), if_neg (by decide), if_neg (by decide), if_neg (by decide), if_pos rfl]
      cases t1 : decide (0 ≤ i)
      · simpa using ris_5_0 i j r c s A n cap hm T hT CS hS t1 w
      cases t2 : decide (i < T)
      · simpa using ris_5_1 i j r c s A n cap hm T hT CS hS t1 t2 w
      cases t3 : decide (0 ≤ j)
      · simpa using ris_5_2 i j r c s A n cap hm T hT CS hS t1 t2 t3 w
      simpa using ris_5_3 i j r c s A n cap hm T hT CS hS t1 t2 t3 w
    · rw [if_neg (by decide), if_neg (by decide), if_neg (by decide), if_neg (by decide), if_neg (by decide), if_pos rfl]
      cases t1 : (i == 0)
      · simpa using ris_6_0 i j r c s A n cap hm T hT t1 w
      simpa using ris_6_1 i j r c s A n cap hm T hT t1 w
    · rw [if_neg (by decide), if_neg (by decide), if_neg (by decide), if_neg (by decide), if_neg (by decide), if_neg (by decide), if_pos rfl]
      cases t1 : decide (0 ≤ i)
      · simpa using ris_7_0 i j r c s A n cap hm T hT t1 w
      cases t2 : decide (i < T)
      · simpa using ris_7_1 i j r c s A n cap hm T hT t1 t2 w
      simpa using ris_7_2 i j r c s A n cap hm T hT t1 t2 w
    · rw [if_neg (by decide), if_neg (by decide), if_neg (by decide), if_neg (by decide), if_neg (by decide), if_neg (by decide), if_neg (by decide), if_pos rfl]
      cases t1 : decide (0 ≤ i)
      · simpa using ris_8_0 i j r c s A n cap hm T hT t1 w
      cases t2 : decide (i < T)
      · simpa using ris_8_1 i j r c s A n cap hm T hT t1 t2 w
      simpa using ris_8_2 i j r c s A n cap hm T hT t1 t2 w
  · rw [risP_else x p h]
    exact ris_else x.k x.i x.j p.r p.c p.s h p.A p.n p.cap hm _ hT w
end Go.Proofs.YtabnfiligbpocaaDoor
