/- The law 'TagAriths' returns true, for every op and every two words. Conditions: none. -/
import Derived.Test.YthhjaikpdpchlaaAlive
namespace Go.Proofs.Ythhjaikpdpchlaa
open Go.ChangeShapes Go.WideShapes Go.RowKit

theorem reckoned_add (a b : Int) (w : World) : Calls Try.prog 13 #[.int .i64 4, .int .i64 a, .int .i64 b] w fun e w' => e = .returned (.tuple #[.int .i64 (wrap64 (a + b)), .bool true]) ∧ w = w' := by
  go_enter Try.func13, Try.ntmps13
  go_wp2
  go_ret2
  exact ⟨rfl, rfl⟩
theorem reckoned_sub (a b : Int) (w : World) : Calls Try.prog 13 #[.int .i64 5, .int .i64 a, .int .i64 b] w fun e w' => e = .returned (.tuple #[.int .i64 (wrap64 (a - b)), .bool true]) ∧ w = w' := by
  go_enter Try.func13, Try.ntmps13
  go_wp2
  go_ret2
  exact ⟨rfl, rfl⟩
theorem reckoned_mul (a b : Int) (w : World) : Calls Try.prog 13 #[.int .i64 6, .int .i64 a, .int .i64 b] w fun e w' => e = .returned (.tuple #[.int .i64 (wrap64 (a * b)), .bool true]) ∧ w = w' := by
  go_enter Try.func13, Try.ntmps13
  go_wp2
  go_ret2
  exact ⟨rfl, rfl⟩
theorem reckoned_zero (a : Int) (w : World) : Calls Try.prog 13 #[.int .i64 7, .int .i64 a, .int .i64 0] w fun e w' => e = .returned (.tuple #[.int .i64 0, .bool false]) ∧ w = w' := by
  go_enter Try.func13, Try.ntmps13
  go_wp2
  go_ret2
  exact ⟨rfl, rfl⟩
theorem reckoned_div (a b : Int) (h0 : b ≠ 0) (w : World) : Calls Try.prog 13 #[.int .i64 7, .int .i64 a, .int .i64 b] w fun e w' => e = .returned (.tuple #[.int .i64 (wrap64 (a.tdiv b)), .bool true]) ∧ w = w' := by
  by_cases h1 : b = -1
  · subst h1
    have e : a.tdiv (-1) = -a := by rw [Int.tdiv_neg, Int.tdiv_one]
    rw [e]
    go_enter Try.func13, Try.ntmps13
    go_wp2
    go_ret2
    exact ⟨by simp, rfl⟩
  · have t0 : (b == 0) = false := beq_eq_false_iff_ne.2 h0
    have t1 : (b == -1) = false := beq_eq_false_iff_ne.2 h1
    go_enter Try.func13, Try.ntmps13
    go_wp2
    go_ret2
    exact ⟨rfl, rfl⟩

set_option maxRecDepth 100000 in
theorem ariths_add (x y : Wd) (w : World) : Calls Try.prog 5 #[.int .i64 4, .agg #[.int .i64 x.n, .int .i64 x.c, .int .i64 x.g], .agg #[.int .i64 y.n, .int .i64 y.c, .int .i64 y.g]] w fun e w' => e = .returned (.bool true) ∧ Below w.heap.size w w' := by
  have hA := fun W => arith_add x y W
  obtain ⟨n, c, g⟩ := x
  obtain ⟨n2, c2, g2⟩ := y
  simp only at hA
  obtain ⟨v, ev⟩ : ∃ v, wrap64 (n + n2) = v := ⟨_, rfl⟩
  have hR := fun W => reckoned_add n n2 W
  have hI := fun W => is_any ⟨v, 0, 0⟩ W
  rw [show decide (1 ≤ (⟨v, 0, 0⟩ : Wd).c) = false by simp] at hI
  simp only at hI
  rw [ev] at hA hR
  clear ev
  obtain ⟨W, eW⟩ : ∃ W, W = (w.alloc (.cells #[.int .i64 n, .int .i64 c, .int .i64 g] 24)).alloc (.cells #[.int .i64 n2, .int .i64 c2, .int .i64 g2] 24) := ⟨_, rfl⟩
  have hb : Below w.heap.size w W := by rw [eW]; exact ((Below.refl _ w).alloc (Nat.le_refl _) _).alloc (by simp) _
  have hx : Blk W w.heap.size 24 #[.int .i64 n, .int .i64 c, .int .i64 g] := by rw [eW]; exact Blk.below (heap_alloc_new w _) ((Below.refl _ _).alloc (Nat.le_refl _) _) (by simp)
  have hy : Blk W (w.heap.size + 1) 24 #[.int .i64 n2, .int .i64 c2, .int .i64 g2] := by rw [eW]; exact heap_alloc2_new w _ _
  have hV := alive_any W
  go_enter Try.func5, Try.ntmps5
  go_wp2_with fail
  rw [← eW]
  clear eW
  refine hV.mono ?_
  rintro e w1 ⟨rfl, b1⟩
  have q1 := hb.trans (b1.mono hb.size)
  replace hx := hx.below b1 hx.lt
  replace hy := hy.below b1 hy.lt
  clear hV hb b1
  have x0 := hx.cell 0
  have x1 := hx.cell 1
  have x2 := hx.cell 2
  have y0 := hy.cell 0
  have y1 := hy.cell 1
  have y2 := hy.cell 2
  go_wp2_with fail
  refine (hA w1).mono ?_
  rintro e w2 ⟨rfl, b2⟩
  obtain ⟨V, eV⟩ : ∃ V, V = w2.alloc (.cells #[.int .i64 v, .int .i64 0, .int .i64 0] 24) := ⟨_, rfl⟩
  have q2 : Below w.heap.size w V := by rw [eV]; exact (q1.trans (b2.mono q1.size)).trans (((Below.refl _ w2).alloc (Nat.le_refl _) _).mono (Nat.le_trans q1.size b2.size))
  have hz : Blk V w2.heap.size 24 #[.int .i64 v, .int .i64 0, .int .i64 0] := by rw [eV]; exact heap_alloc_new w2 _
  replace hx : Blk V w.heap.size 24 #[.int .i64 n, .int .i64 c, .int .i64 g] := by rw [eV]; exact (hx.below b2 hx.lt).below ((Below.refl _ w2).alloc (Nat.le_refl _) _) (hx.below b2 hx.lt).lt
  replace hy : Blk V (w.heap.size + 1) 24 #[.int .i64 n2, .int .i64 c2, .int .i64 g2] := by rw [eV]; exact (hy.below b2 hy.lt).below ((Below.refl _ w2).alloc (Nat.le_refl _) _) (hy.below b2 hy.lt).lt
  clear x0 x1 x2 y0 y1 y2 b2 q1
  have x0 := hx.cell 0
  have y0 := hy.cell 0
  have z0 := hz.cell 0
  have z1 := hz.cell 1
  have z2 := hz.cell 2
  rw [eV] at x0 y0 z0 z1 z2
  go_wp2_with fail
  refine (hR _).mono ?_
  rintro e w0 ⟨rfl, rfl⟩
  go_wp2_with fail
  rw [← eV]
  refine (hI V).mono ?_
  rintro e w3 ⟨rfl, b3⟩
  go_wp2
  go_ret
  exact ⟨by simp, q2.trans (b3.mono q2.size)⟩
set_option maxRecDepth 100000 in
theorem ariths_sub (x y : Wd) (w : World) : Calls Try.prog 5 #[.int .i64 5, .agg #[.int .i64 x.n, .int .i64 x.c, .int .i64 x.g], .agg #[.int .i64 y.n, .int .i64 y.c, .int .i64 y.g]] w fun e w' => e = .returned (.bool true) ∧ Below w.heap.size w w' := by
  have hA := fun W => arith_sub x y W
  obtain ⟨n, c, g⟩ := x
  obtain ⟨n2, c2, g2⟩ := y
  simp only at hA
  obtain ⟨v, ev⟩ : ∃ v, wrap64 (n - n2) = v := ⟨_, rfl⟩
  have hR := fun W => reckoned_sub n n2 W
  have hI := fun W => is_any ⟨v, 0, 0⟩ W
  rw [show decide (1 ≤ (⟨v, 0, 0⟩ : Wd).c) = false by simp] at hI
  simp only at hI
  rw [ev] at hA hR
  clear ev
  obtain ⟨W, eW⟩ : ∃ W, W = (w.alloc (.cells #[.int .i64 n, .int .i64 c, .int .i64 g] 24)).alloc (.cells #[.int .i64 n2, .int .i64 c2, .int .i64 g2] 24) := ⟨_, rfl⟩
  have hb : Below w.heap.size w W := by rw [eW]; exact ((Below.refl _ w).alloc (Nat.le_refl _) _).alloc (by simp) _
  have hx : Blk W w.heap.size 24 #[.int .i64 n, .int .i64 c, .int .i64 g] := by rw [eW]; exact Blk.below (heap_alloc_new w _) ((Below.refl _ _).alloc (Nat.le_refl _) _) (by simp)
  have hy : Blk W (w.heap.size + 1) 24 #[.int .i64 n2, .int .i64 c2, .int .i64 g2] := by rw [eW]; exact heap_alloc2_new w _ _
  have hV := alive_any W
  go_enter Try.func5, Try.ntmps5
  go_wp2_with fail
  rw [← eW]
  clear eW
  refine hV.mono ?_
  rintro e w1 ⟨rfl, b1⟩
  have q1 := hb.trans (b1.mono hb.size)
  replace hx := hx.below b1 hx.lt
  replace hy := hy.below b1 hy.lt
  clear hV hb b1
  have x0 := hx.cell 0
  have x1 := hx.cell 1
  have x2 := hx.cell 2
  have y0 := hy.cell 0
  have y1 := hy.cell 1
  have y2 := hy.cell 2
  go_wp2_with fail
  refine (hA w1).mono ?_
  rintro e w2 ⟨rfl, b2⟩
  obtain ⟨V, eV⟩ : ∃ V, V = w2.alloc (.cells #[.int .i64 v, .int .i64 0, .int .i64 0] 24) := ⟨_, rfl⟩
  have q2 : Below w.heap.size w V := by rw [eV]; exact (q1.trans (b2.mono q1.size)).trans (((Below.refl _ w2).alloc (Nat.le_refl _) _).mono (Nat.le_trans q1.size b2.size))
  have hz : Blk V w2.heap.size 24 #[.int .i64 v, .int .i64 0, .int .i64 0] := by rw [eV]; exact heap_alloc_new w2 _
  replace hx : Blk V w.heap.size 24 #[.int .i64 n, .int .i64 c, .int .i64 g] := by rw [eV]; exact (hx.below b2 hx.lt).below ((Below.refl _ w2).alloc (Nat.le_refl _) _) (hx.below b2 hx.lt).lt
  replace hy : Blk V (w.heap.size + 1) 24 #[.int .i64 n2, .int .i64 c2, .int .i64 g2] := by rw [eV]; exact (hy.below b2 hy.lt).below ((Below.refl _ w2).alloc (Nat.le_refl _) _) (hy.below b2 hy.lt).lt
  clear x0 x1 x2 y0 y1 y2 b2 q1
  have x0 := hx.cell 0
  have y0 := hy.cell 0
  have z0 := hz.cell 0
  have z1 := hz.cell 1
  have z2 := hz.cell 2
  rw [eV] at x0 y0 z0 z1 z2
  go_wp2_with fail
  refine (hR _).mono ?_
  rintro e w0 ⟨rfl, rfl⟩
  go_wp2_with fail
  rw [← eV]
  refine (hI V).mono ?_
  rintro e w3 ⟨rfl, b3⟩
  go_wp2
  go_ret
  exact ⟨by simp, q2.trans (b3.mono q2.size)⟩
set_option maxRecDepth 100000 in
theorem ariths_mul (x y : Wd) (w : World) : Calls Try.prog 5 #[.int .i64 6, .agg #[.int .i64 x.n, .int .i64 x.c, .int .i64 x.g], .agg #[.int .i64 y.n, .int .i64 y.c, .int .i64 y.g]] w fun e w' => e = .returned (.bool true) ∧ Below w.heap.size w w' := by
  have hA := fun W => arith_mul x y W
  obtain ⟨n, c, g⟩ := x
  obtain ⟨n2, c2, g2⟩ := y
  simp only at hA
  obtain ⟨v, ev⟩ : ∃ v, wrap64 (n * n2) = v := ⟨_, rfl⟩
  have hR := fun W => reckoned_mul n n2 W
  have hI := fun W => is_any ⟨v, 0, 0⟩ W
  rw [show decide (1 ≤ (⟨v, 0, 0⟩ : Wd).c) = false by simp] at hI
  simp only at hI
  rw [ev] at hA hR
  clear ev
  obtain ⟨W, eW⟩ : ∃ W, W = (w.alloc (.cells #[.int .i64 n, .int .i64 c, .int .i64 g] 24)).alloc (.cells #[.int .i64 n2, .int .i64 c2, .int .i64 g2] 24) := ⟨_, rfl⟩
  have hb : Below w.heap.size w W := by rw [eW]; exact ((Below.refl _ w).alloc (Nat.le_refl _) _).alloc (by simp) _
  have hx : Blk W w.heap.size 24 #[.int .i64 n, .int .i64 c, .int .i64 g] := by rw [eW]; exact Blk.below (heap_alloc_new w _) ((Below.refl _ _).alloc (Nat.le_refl _) _) (by simp)
  have hy : Blk W (w.heap.size + 1) 24 #[.int .i64 n2, .int .i64 c2, .int .i64 g2] := by rw [eW]; exact heap_alloc2_new w _ _
  have hV := alive_any W
  go_enter Try.func5, Try.ntmps5
  go_wp2_with fail
  rw [← eW]
  clear eW
  refine hV.mono ?_
  rintro e w1 ⟨rfl, b1⟩
  have q1 := hb.trans (b1.mono hb.size)
  replace hx := hx.below b1 hx.lt
  replace hy := hy.below b1 hy.lt
  clear hV hb b1
  have x0 := hx.cell 0
  have x1 := hx.cell 1
  have x2 := hx.cell 2
  have y0 := hy.cell 0
  have y1 := hy.cell 1
  have y2 := hy.cell 2
  go_wp2_with fail
  refine (hA w1).mono ?_
  rintro e w2 ⟨rfl, b2⟩
  obtain ⟨V, eV⟩ : ∃ V, V = w2.alloc (.cells #[.int .i64 v, .int .i64 0, .int .i64 0] 24) := ⟨_, rfl⟩
  have q2 : Below w.heap.size w V := by rw [eV]; exact (q1.trans (b2.mono q1.size)).trans (((Below.refl _ w2).alloc (Nat.le_refl _) _).mono (Nat.le_trans q1.size b2.size))
  have hz : Blk V w2.heap.size 24 #[.int .i64 v, .int .i64 0, .int .i64 0] := by rw [eV]; exact heap_alloc_new w2 _
  replace hx : Blk V w.heap.size 24 #[.int .i64 n, .int .i64 c, .int .i64 g] := by rw [eV]; exact (hx.below b2 hx.lt).below ((Below.refl _ w2).alloc (Nat.le_refl _) _) (hx.below b2 hx.lt).lt
  replace hy : Blk V (w.heap.size + 1) 24 #[.int .i64 n2, .int .i64 c2, .int .i64 g2] := by rw [eV]; exact (hy.below b2 hy.lt).below ((Below.refl _ w2).alloc (Nat.le_refl _) _) (hy.below b2 hy.lt).lt
  clear x0 x1 x2 y0 y1 y2 b2 q1
  have x0 := hx.cell 0
  have y0 := hy.cell 0
  have z0 := hz.cell 0
  have z1 := hz.cell 1
  have z2 := hz.cell 2
  rw [eV] at x0 y0 z0 z1 z2
  go_wp2_with fail
  refine (hR _).mono ?_
  rintro e w0 ⟨rfl, rfl⟩
  go_wp2_with fail
  rw [← eV]
  refine (hI V).mono ?_
  rintro e w3 ⟨rfl, b3⟩
  go_wp2
  go_ret
  exact ⟨by simp, q2.trans (b3.mono q2.size)⟩
set_option maxRecDepth 100000 in
theorem ariths_div (x y : Wd) (hz : y.n ≠ 0) (w : World) : Calls Try.prog 5 #[.int .i64 7, .agg #[.int .i64 x.n, .int .i64 x.c, .int .i64 x.g], .agg #[.int .i64 y.n, .int .i64 y.c, .int .i64 y.g]] w fun e w' => e = .returned (.bool true) ∧ Below w.heap.size w w' := by
  have hA := fun W => arith_div x y hz W
  obtain ⟨n, c, g⟩ := x
  obtain ⟨n2, c2, g2⟩ := y
  simp only at hA
  obtain ⟨v, ev⟩ : ∃ v, wrap64 (n.tdiv n2) = v := ⟨_, rfl⟩
  have hR := fun W => reckoned_div n n2 hz W
  have hI := fun W => is_any ⟨v, 0, 0⟩ W
  rw [show decide (1 ≤ (⟨v, 0, 0⟩ : Wd).c) = false by simp] at hI
  simp only at hI
  rw [ev] at hA hR
  clear ev
  obtain ⟨W, eW⟩ : ∃ W, W = (w.alloc (.cells #[.int .i64 n, .int .i64 c, .int .i64 g] 24)).alloc (.cells #[.int .i64 n2, .int .i64 c2, .int .i64 g2] 24) := ⟨_, rfl⟩
  have hb : Below w.heap.size w W := by rw [eW]; exact ((Below.refl _ w).alloc (Nat.le_refl _) _).alloc (by simp) _
  have hx : Blk W w.heap.size 24 #[.int .i64 n, .int .i64 c, .int .i64 g] := by rw [eW]; exact Blk.below (heap_alloc_new w _) ((Below.refl _ _).alloc (Nat.le_refl _) _) (by simp)
  have hy : Blk W (w.heap.size + 1) 24 #[.int .i64 n2, .int .i64 c2, .int .i64 g2] := by rw [eW]; exact heap_alloc2_new w _ _
  have hV := alive_any W
  go_enter Try.func5, Try.ntmps5
  go_wp2_with fail
  rw [← eW]
  clear eW
  refine hV.mono ?_
  rintro e w1 ⟨rfl, b1⟩
  have q1 := hb.trans (b1.mono hb.size)
  replace hx := hx.below b1 hx.lt
  replace hy := hy.below b1 hy.lt
  clear hV hb b1
  have x0 := hx.cell 0
  have x1 := hx.cell 1
  have x2 := hx.cell 2
  have y0 := hy.cell 0
  have y1 := hy.cell 1
  have y2 := hy.cell 2
  go_wp2_with fail
  refine (hA w1).mono ?_
  rintro e w2 ⟨rfl, b2⟩
  obtain ⟨V, eV⟩ : ∃ V, V = w2.alloc (.cells #[.int .i64 v, .int .i64 0, .int .i64 0] 24) := ⟨_, rfl⟩
  have q2 : Below w.heap.size w V := by rw [eV]; exact (q1.trans (b2.mono q1.size)).trans (((Below.refl _ w2).alloc (Nat.le_refl _) _).mono (Nat.le_trans q1.size b2.size))
  have hz : Blk V w2.heap.size 24 #[.int .i64 v, .int .i64 0, .int .i64 0] := by rw [eV]; exact heap_alloc_new w2 _
  replace hx : Blk V w.heap.size 24 #[.int .i64 n, .int .i64 c, .int .i64 g] := by rw [eV]; exact (hx.below b2 hx.lt).below ((Below.refl _ w2).alloc (Nat.le_refl _) _) (hx.below b2 hx.lt).lt
  replace hy : Blk V (w.heap.size + 1) 24 #[.int .i64 n2, .int .i64 c2, .int .i64 g2] := by rw [eV]; exact (hy.below b2 hy.lt).below ((Below.refl _ w2).alloc (Nat.le_refl _) _) (hy.below b2 hy.lt).lt
  clear x0 x1 x2 y0 y1 y2 b2 q1
  have x0 := hx.cell 0
  have y0 := hy.cell 0
  have z0 := hz.cell 0
  have z1 := hz.cell 1
  have z2 := hz.cell 2
  rw [eV] at x0 y0 z0 z1 z2
  go_wp2_with fail
  refine (hR _).mono ?_
  rintro e w0 ⟨rfl, rfl⟩
  go_wp2_with fail
  rw [← eV]
  refine (hI V).mono ?_
  rintro e w3 ⟨rfl, b3⟩
  go_wp2
  go_ret
  exact ⟨by simp, q2.trans (b3.mono q2.size)⟩
set_option maxRecDepth 100000 in
theorem ariths_zero (x y : Wd) (w : World) : Calls Try.prog 5 #[.int .i64 7, .agg #[.int .i64 x.n, .int .i64 x.c, .int .i64 x.g], .agg #[.int .i64 0, .int .i64 y.c, .int .i64 y.g]] w fun e w' => e = .returned (.bool true) ∧ Below w.heap.size w w' := by
  have hA := fun W => arith_zero x y W
  obtain ⟨n, c, g⟩ := x
  obtain ⟨n2, c2, g2⟩ := y
  simp only at hA
  have hR := fun W => reckoned_zero n W
  have hI := fun W => is_any ⟨0, 0, 0⟩ W
  rw [show decide (1 ≤ (⟨0, 0, 0⟩ : Wd).c) = false by simp] at hI
  simp only at hI
  obtain ⟨W, eW⟩ : ∃ W, W = (w.alloc (.cells #[.int .i64 n, .int .i64 c, .int .i64 g] 24)).alloc (.cells #[.int .i64 0, .int .i64 c2, .int .i64 g2] 24) := ⟨_, rfl⟩
  have hb : Below w.heap.size w W := by rw [eW]; exact ((Below.refl _ w).alloc (Nat.le_refl _) _).alloc (by simp) _
  have hx : Blk W w.heap.size 24 #[.int .i64 n, .int .i64 c, .int .i64 g] := by rw [eW]; exact Blk.below (heap_alloc_new w _) ((Below.refl _ _).alloc (Nat.le_refl _) _) (by simp)
  have hy : Blk W (w.heap.size + 1) 24 #[.int .i64 0, .int .i64 c2, .int .i64 g2] := by rw [eW]; exact heap_alloc2_new w _ _
  have hV := alive_any W
  go_enter Try.func5, Try.ntmps5
  go_wp2_with fail
  rw [← eW]
  clear eW
  refine hV.mono ?_
  rintro e w1 ⟨rfl, b1⟩
  have q1 := hb.trans (b1.mono hb.size)
  replace hx := hx.below b1 hx.lt
  replace hy := hy.below b1 hy.lt
  clear hV hb b1
  have x0 := hx.cell 0
  have x1 := hx.cell 1
  have x2 := hx.cell 2
  have y0 := hy.cell 0
  have y1 := hy.cell 1
  have y2 := hy.cell 2
  go_wp2_with fail
  refine (hA w1).mono ?_
  rintro e w2 ⟨rfl, b2⟩
  obtain ⟨V, eV⟩ : ∃ V, V = w2.alloc (.cells #[.int .i64 0, .int .i64 0, .int .i64 0] 24) := ⟨_, rfl⟩
  have q2 : Below w.heap.size w V := by rw [eV]; exact (q1.trans (b2.mono q1.size)).trans (((Below.refl _ w2).alloc (Nat.le_refl _) _).mono (Nat.le_trans q1.size b2.size))
  have hz : Blk V w2.heap.size 24 #[.int .i64 0, .int .i64 0, .int .i64 0] := by rw [eV]; exact heap_alloc_new w2 _
  replace hx : Blk V w.heap.size 24 #[.int .i64 n, .int .i64 c, .int .i64 g] := by rw [eV]; exact (hx.below b2 hx.lt).below ((Below.refl _ w2).alloc (Nat.le_refl _) _) (hx.below b2 hx.lt).lt
  replace hy : Blk V (w.heap.size + 1) 24 #[.int .i64 0, .int .i64 c2, .int .i64 g2] := by rw [eV]; exact (hy.below b2 hy.lt).below ((Below.refl _ w2).alloc (Nat.le_refl _) _) (hy.below b2 hy.lt).lt
  clear x0 x1 x2 y0 y1 y2 b2 q1
  have x0 := hx.cell 0
  have y0 := hy.cell 0
  have z0 := hz.cell 0
  have z1 := hz.cell 1
  have z2 := hz.cell 2
  rw [eV] at x0 y0 z0 z1 z2
  go_wp2_with fail
  refine (hR _).mono ?_
  rintro e w0 ⟨rfl, rfl⟩
  go_wp2_with fail
  rw [← eV]
  refine (hI V).mono ?_
  rintro e w3 ⟨rfl, b3⟩
  go_wp2
  go_ret
  exact ⟨by simp, q2.trans (b3.mono q2.size)⟩
set_option maxRecDepth 100000 in
theorem ariths_less (op : Int) (x y : Wd) (ho : op < 4) (w : World) : Calls Try.prog 5 #[.int .i64 op, .agg #[.int .i64 x.n, .int .i64 x.c, .int .i64 x.g], .agg #[.int .i64 y.n, .int .i64 y.c, .int .i64 y.g]] w fun e w' => e = .returned (.bool true) ∧ Below w.heap.size w w' := by
  have hA := fun W => arith_else op x y (by omega) (by omega) (by omega) (by omega) W
  obtain ⟨n, c, g⟩ := x
  obtain ⟨n2, c2, g2⟩ := y
  simp only at hA
  have t1 : decide (op < 4) = true := decide_eq_true ho
  obtain ⟨W, eW⟩ : ∃ W, W = (w.alloc (.cells #[.int .i64 n, .int .i64 c, .int .i64 g] 24)).alloc (.cells #[.int .i64 n2, .int .i64 c2, .int .i64 g2] 24) := ⟨_, rfl⟩
  have hb : Below w.heap.size w W := by rw [eW]; exact ((Below.refl _ w).alloc (Nat.le_refl _) _).alloc (by simp) _
  have hx : Blk W w.heap.size 24 #[.int .i64 n, .int .i64 c, .int .i64 g] := by rw [eW]; exact Blk.below (heap_alloc_new w _) ((Below.refl _ _).alloc (Nat.le_refl _) _) (by simp)
  have hy : Blk W (w.heap.size + 1) 24 #[.int .i64 n2, .int .i64 c2, .int .i64 g2] := by rw [eW]; exact heap_alloc2_new w _ _
  have hV := alive_any W
  go_enter Try.func5, Try.ntmps5
  go_wp2_with fail
  rw [← eW]
  clear eW
  refine hV.mono ?_
  rintro e w1 ⟨rfl, b1⟩
  have q1 := hb.trans (b1.mono hb.size)
  replace hx := hx.below b1 hx.lt
  replace hy := hy.below b1 hy.lt
  clear hV hb b1
  have x0 := hx.cell 0
  have x1 := hx.cell 1
  have x2 := hx.cell 2
  have y0 := hy.cell 0
  have y1 := hy.cell 1
  have y2 := hy.cell 2
  go_wp2_with fail
  refine (hA w1).mono ?_
  rintro e w2 ⟨rfl, b2⟩
  obtain ⟨V, eV⟩ : ∃ V, V = w2.alloc (.cells #[.int .i64 0, .int .i64 0, .int .i64 0] 24) := ⟨_, rfl⟩
  have q2 : Below w.heap.size w V := by rw [eV]; exact (q1.trans (b2.mono q1.size)).trans (((Below.refl _ w2).alloc (Nat.le_refl _) _).mono (Nat.le_trans q1.size b2.size))
  have hz : Blk V w2.heap.size 24 #[.int .i64 0, .int .i64 0, .int .i64 0] := by rw [eV]; exact heap_alloc_new w2 _
  replace hx : Blk V w.heap.size 24 #[.int .i64 n, .int .i64 c, .int .i64 g] := by rw [eV]; exact (hx.below b2 hx.lt).below ((Below.refl _ w2).alloc (Nat.le_refl _) _) (hx.below b2 hx.lt).lt
  replace hy : Blk V (w.heap.size + 1) 24 #[.int .i64 n2, .int .i64 c2, .int .i64 g2] := by rw [eV]; exact (hy.below b2 hy.lt).below ((Below.refl _ w2).alloc (Nat.le_refl _) _) (hy.below b2 hy.lt).lt
  clear x0 x1 x2 y0 y1 y2 b2 q1
  have x0 := hx.cell 0
  have y0 := hy.cell 0
  have z0 := hz.cell 0
  have z1 := hz.cell 1
  have z2 := hz.cell 2
  rw [eV] at x0 y0 z0 z1 z2
  go_wp2
  rw [← eV]
  go_ret
  exact ⟨by simp, q2⟩
set_option maxRecDepth 100000 in
theorem ariths_more (op : Int) (x y : Wd) (ho : 7 < op) (w : World) : Calls Try.prog 5 #[.int .i64 op, .agg #[.int .i64 x.n, .int .i64 x.c, .int .i64 x.g], .agg #[.int .i64 y.n, .int .i64 y.c, .int .i64 y.g]] w fun e w' => e = .returned (.bool true) ∧ Below w.heap.size w w' := by
  have hA := fun W => arith_else op x y (by omega) (by omega) (by omega) (by omega) W
  obtain ⟨n, c, g⟩ := x
  obtain ⟨n2, c2, g2⟩ := y
  simp only at hA
  have t1 : decide (op < 4) = false := decide_eq_false (by omega)
  have t2 : decide (7 < op) = true := decide_eq_true ho
  obtain ⟨W, eW⟩ : ∃ W, W = (w.alloc (.cells #[.int .i64 n, .int .i64 c, .int .i64 g] 24)).alloc (.cells #[.int .i64 n2, .int .i64 c2, .int .i64 g2] 24) := ⟨_, rfl⟩
  have hb : Below w.heap.size w W := by rw [eW]; exact ((Below.refl _ w).alloc (Nat.le_refl _) _).alloc (by simp) _
  have hx : Blk W w.heap.size 24 #[.int .i64 n, .int .i64 c, .int .i64 g] := by rw [eW]; exact Blk.below (heap_alloc_new w _) ((Below.refl _ _).alloc (Nat.le_refl _) _) (by simp)
  have hy : Blk W (w.heap.size + 1) 24 #[.int .i64 n2, .int .i64 c2, .int .i64 g2] := by rw [eW]; exact heap_alloc2_new w _ _
  have hV := alive_any W
  go_enter Try.func5, Try.ntmps5
  go_wp2_with fail
  rw [← eW]
  clear eW
  refine hV.mono ?_
  rintro e w1 ⟨rfl, b1⟩
  have q1 := hb.trans (b1.mono hb.size)
  replace hx := hx.below b1 hx.lt
  replace hy := hy.below b1 hy.lt
  clear hV hb b1
  have x0 := hx.cell 0
  have x1 := hx.cell 1
  have x2 := hx.cell 2
  have y0 := hy.cell 0
  have y1 := hy.cell 1
  have y2 := hy.cell 2
  go_wp2_with fail
  refine (hA w1).mono ?_
  rintro e w2 ⟨rfl, b2⟩
  obtain ⟨V, eV⟩ : ∃ V, V = w2.alloc (.cells #[.int .i64 0, .int .i64 0, .int .i64 0] 24) := ⟨_, rfl⟩
  have q2 : Below w.heap.size w V := by rw [eV]; exact (q1.trans (b2.mono q1.size)).trans (((Below.refl _ w2).alloc (Nat.le_refl _) _).mono (Nat.le_trans q1.size b2.size))
  have hz : Blk V w2.heap.size 24 #[.int .i64 0, .int .i64 0, .int .i64 0] := by rw [eV]; exact heap_alloc_new w2 _
  replace hx : Blk V w.heap.size 24 #[.int .i64 n, .int .i64 c, .int .i64 g] := by rw [eV]; exact (hx.below b2 hx.lt).below ((Below.refl _ w2).alloc (Nat.le_refl _) _) (hx.below b2 hx.lt).lt
  replace hy : Blk V (w.heap.size + 1) 24 #[.int .i64 n2, .int .i64 c2, .int .i64 g2] := by rw [eV]; exact (hy.below b2 hy.lt).below ((Below.refl _ w2).alloc (Nat.le_refl _) _) (hy.below b2 hy.lt).lt
  clear x0 x1 x2 y0 y1 y2 b2 q1
  have x0 := hx.cell 0
  have y0 := hy.cell 0
  have z0 := hz.cell 0
  have z1 := hz.cell 1
  have z2 := hz.cell 2
  rw [eV] at x0 y0 z0 z1 z2
  go_wp2
  rw [← eV]
  go_ret
  exact ⟨by simp, q2⟩
theorem ariths_any (op : Int) (x y : Wd) (w : World) : Calls Try.prog 5 #[.int .i64 op, .agg #[.int .i64 x.n, .int .i64 x.c, .int .i64 x.g], .agg #[.int .i64 y.n, .int .i64 y.c, .int .i64 y.g]] w fun e w' => e = .returned (.bool true) ∧ Below w.heap.size w w' := by
  rcases (by omega : op < 4 ∨ op = 4 ∨ op = 5 ∨ op = 6 ∨ op = 7 ∨ 7 < op) with h | rfl | rfl | rfl | rfl | h
  · exact ariths_less op x y h w
  · exact ariths_add x y w
  · exact ariths_sub x y w
  · exact ariths_mul x y w
  · by_cases hz : y.n = 0
    · rw [hz]; exact ariths_zero x y w
    · exact ariths_div x y hz w
  · exact ariths_more op x y h w
end Go.Proofs.Ythhjaikpdpchlaa
