/- What Arith answers, for every op and every two words. Conditions: those that each row names. -/
import Derived.Test.YthhjaikpdpchlaaBase
namespace Go.Proofs.Ythhjaikpdpchlaa
open Go.ChangeShapes Go.WideShapes Go.RowKit

theorem res12 (tmps : Array Value) (w : World) (g : Nat) (cs : Array Value) (u : Value) (hp : tmps[6]?.getD undef = .pointer (some ⟨g, 0, none⟩)) (hu : tmps[7]?.getD undef = u) (hg : Blk w g 24 cs) (hs : cs.size = 3) :
    (results Try.f12 tmps).run Try.prog w = .ok (.tuple #[.agg cs, u]) w := by
  have hr : Try.f12.results = #[.cell 6 24, .tmp 7] := by kernel_rfl
  rw [results_cell_tmp hr]
  have h2 : tmps.getD 6 undef = .pointer (some ⟨g, 0, none⟩) := by simpa using hp
  have h3 : tmps.getD 7 undef = u := by simpa using hu
  rw [h2, h3]
  have hl := run_loadVar_row w g 24 24 cs (0, 0) _ hg Try.underlying24 rfl (by rw [info24, hs])
  simp [asAddr, Result.andThen, hl]
theorem arith_add (x y : Wd) (w : World) : Calls Try.prog 12 #[.int .i64 4, .agg #[.int .i64 x.n, .int .i64 x.c, .int .i64 x.g], .agg #[.int .i64 y.n, .int .i64 y.c, .int .i64 y.g]] w fun e w' => e = .returned (.tuple #[.agg #[.int .i64 (wrap64 (x.n + y.n)), .int .i64 0, .int .i64 0], .bool true]) ∧ Below w.heap.size w w' := by
  obtain ⟨n, c, g⟩ := x
  obtain ⟨n2, c2, g2⟩ := y
  obtain ⟨W, eW⟩ : ∃ W, W = ((w.alloc (.cells #[.int .i64 n, .int .i64 c, .int .i64 g] 24)).alloc (.cells #[.int .i64 n2, .int .i64 c2, .int .i64 g2] 24)).alloc (.cells #[.int .i64 0, .int .i64 0, .int .i64 0] 24) := ⟨_, rfl⟩
  have hb : Below w.heap.size w W := by rw [eW]; exact (((Below.refl _ w).alloc (Nat.le_refl _) _).alloc (by simp) _).alloc (by simp; omega) _
  have hx : Blk W w.heap.size 24 #[.int .i64 n, .int .i64 c, .int .i64 g] := by rw [eW]; exact Blk.below (heap_alloc_new w _) (((Below.refl _ _).alloc (Nat.le_refl _) _).alloc (by simp) _) (by simp)
  have hy : Blk W (w.heap.size + 1) 24 #[.int .i64 n2, .int .i64 c2, .int .i64 g2] := by
    rw [eW]
    have h2 : Blk ((w.alloc (.cells #[.int .i64 n, .int .i64 c, .int .i64 g] 24)).alloc (.cells #[.int .i64 n2, .int .i64 c2, .int .i64 g2] 24)) (w.heap.size + 1) 24 #[.int .i64 n2, .int .i64 c2, .int .i64 g2] := heap_alloc2_new w _ _
    exact h2.below ((Below.refl _ _).alloc (Nat.le_refl _) _) (by simp)
  have hr : Blk W (w.heap.size + 2) 24 #[.int .i64 0, .int .i64 0, .int .i64 0] := by
    rw [eW]
    have := heap_alloc_new ((w.alloc (.cells #[.int .i64 n, .int .i64 c, .int .i64 g] 24)).alloc (.cells #[.int .i64 n2, .int .i64 c2, .int .i64 g2] 24)) (.cells #[.int .i64 0, .int .i64 0, .int .i64 0] 24)
    simpa [Blk] using this
  have cx := hx.cell 0
  have cy := hy.cell 0
  go_enter Try.func12, Try.ntmps12
  go_wp2_with fail
  rw [← eW]
  clear eW
  go_wp2_with fail
  refine (add_any n n2 _).mono ?_
  rintro e w0 ⟨rfl, rfl⟩
  go_wp2_with fail
  refine (plain_any _ _).mono ?_
  rintro e w1 ⟨rfl, hb1⟩
  have hr1 := hr.below hb1 hr.lt
  go_wp2_with (refine wpList_store_row rfl 24 (.tmp 6) (.tmp 18) rfl (w.heap.size + 2) #[.int .i64 (wrap64 (n + n2)), .int .i64 0, .int .i64 0] rfl rfl 24 #[.int .i64 0, .int .i64 0, .int .i64 0] hr1 info24 rfl (by simp [Value.oneCell']) ?_)
  refine bodyPost_ret (res12 _ _ (w.heap.size + 2) #[.int .i64 (wrap64 (n + n2)), .int .i64 0, .int .i64 0] _ rfl rfl (setRow_heap _ _ _ _ _ _ hr1) rfl) rfl ?_
  exact ⟨rfl, below_setRow (hb.trans (hb1.mono hb.size)) (by omega) _⟩
theorem arith_sub (x y : Wd) (w : World) : Calls Try.prog 12 #[.int .i64 5, .agg #[.int .i64 x.n, .int .i64 x.c, .int .i64 x.g], .agg #[.int .i64 y.n, .int .i64 y.c, .int .i64 y.g]] w fun e w' => e = .returned (.tuple #[.agg #[.int .i64 (wrap64 (x.n - y.n)), .int .i64 0, .int .i64 0], .bool true]) ∧ Below w.heap.size w w' := by
  obtain ⟨n, c, g⟩ := x
  obtain ⟨n2, c2, g2⟩ := y
  obtain ⟨W, eW⟩ : ∃ W, W = ((w.alloc (.cells #[.int .i64 n, .int .i64 c, .int .i64 g] 24)).alloc (.cells #[.int .i64 n2, .int .i64 c2, .int .i64 g2] 24)).alloc (.cells #[.int .i64 0, .int .i64 0, .int .i64 0] 24) := ⟨_, rfl⟩
  have hb : Below w.heap.size w W := by rw [eW]; exact (((Below.refl _ w).alloc (Nat.le_refl _) _).alloc (by simp) _).alloc (by simp; omega) _
  have hx : Blk W w.heap.size 24 #[.int .i64 n, .int .i64 c, .int .i64 g] := by rw [eW]; exact Blk.below (heap_alloc_new w _) (((Below.refl _ _).alloc (Nat.le_refl _) _).alloc (by simp) _) (by simp)
  have hy : Blk W (w.heap.size + 1) 24 #[.int .i64 n2, .int .i64 c2, .int .i64 g2] := by
    rw [eW]
    have h2 : Blk ((w.alloc (.cells #[.int .i64 n, .int .i64 c, .int .i64 g] 24)).alloc (.cells #[.int .i64 n2, .int .i64 c2, .int .i64 g2] 24)) (w.heap.size + 1) 24 #[.int .i64 n2, .int .i64 c2, .int .i64 g2] := heap_alloc2_new w _ _
    exact h2.below ((Below.refl _ _).alloc (Nat.le_refl _) _) (by simp)
  have hr : Blk W (w.heap.size + 2) 24 #[.int .i64 0, .int .i64 0, .int .i64 0] := by
    rw [eW]
    have := heap_alloc_new ((w.alloc (.cells #[.int .i64 n, .int .i64 c, .int .i64 g] 24)).alloc (.cells #[.int .i64 n2, .int .i64 c2, .int .i64 g2] 24)) (.cells #[.int .i64 0, .int .i64 0, .int .i64 0] 24)
    simpa [Blk] using this
  have cx := hx.cell 0
  have cy := hy.cell 0
  go_enter Try.func12, Try.ntmps12
  go_wp2_with fail
  rw [← eW]
  clear eW
  go_wp2_with fail
  refine (sub_any n n2 _).mono ?_
  rintro e w0 ⟨rfl, rfl⟩
  go_wp2_with fail
  refine (plain_any _ _).mono ?_
  rintro e w1 ⟨rfl, hb1⟩
  have hr1 := hr.below hb1 hr.lt
  go_wp2_with (refine wpList_store_row rfl 24 (.tmp 6) (.tmp 26) rfl (w.heap.size + 2) #[.int .i64 (wrap64 (n - n2)), .int .i64 0, .int .i64 0] rfl rfl 24 #[.int .i64 0, .int .i64 0, .int .i64 0] hr1 info24 rfl (by simp [Value.oneCell']) ?_)
  refine bodyPost_ret (res12 _ _ (w.heap.size + 2) #[.int .i64 (wrap64 (n - n2)), .int .i64 0, .int .i64 0] _ rfl rfl (setRow_heap _ _ _ _ _ _ hr1) rfl) rfl ?_
  exact ⟨rfl, below_setRow (hb.trans (hb1.mono hb.size)) (by omega) _⟩
theorem arith_mul (x y : Wd) (w : World) : Calls Try.prog 12 #[.int .i64 6, .agg #[.int .i64 x.n, .int .i64 x.c, .int .i64 x.g], .agg #[.int .i64 y.n, .int .i64 y.c, .int .i64 y.g]] w fun e w' => e = .returned (.tuple #[.agg #[.int .i64 (wrap64 (x.n * y.n)), .int .i64 0, .int .i64 0], .bool true]) ∧ Below w.heap.size w w' := by
  obtain ⟨n, c, g⟩ := x
  obtain ⟨n2, c2, g2⟩ := y
  obtain ⟨W, eW⟩ : ∃ W, W = ((w.alloc (.cells #[.int .i64 n, .int .i64 c, .int .i64 g] 24)).alloc (.cells #[.int .i64 n2, .int .i64 c2, .int .i64 g2] 24)).alloc (.cells #[.int .i64 0, .int .i64 0, .int .i64 0] 24) := ⟨_, rfl⟩
  have hb : Below w.heap.size w W := by rw [eW]; exact (((Below.refl _ w).alloc (Nat.le_refl _) _).alloc (by simp) _).alloc (by simp; omega) _
  have hx : Blk W w.heap.size 24 #[.int .i64 n, .int .i64 c, .int .i64 g] := by rw [eW]; exact Blk.below (heap_alloc_new w _) (((Below.refl _ _).alloc (Nat.le_refl _) _).alloc (by simp) _) (by simp)
  have hy : Blk W (w.heap.size + 1) 24 #[.int .i64 n2, .int .i64 c2, .int .i64 g2] := by
    rw [eW]
    have h2 : Blk ((w.alloc (.cells #[.int .i64 n, .int .i64 c, .int .i64 g] 24)).alloc (.cells #[.int .i64 n2, .int .i64 c2, .int .i64 g2] 24)) (w.heap.size + 1) 24 #[.int .i64 n2, .int .i64 c2, .int .i64 g2] := heap_alloc2_new w _ _
    exact h2.below ((Below.refl _ _).alloc (Nat.le_refl _) _) (by simp)
  have hr : Blk W (w.heap.size + 2) 24 #[.int .i64 0, .int .i64 0, .int .i64 0] := by
    rw [eW]
    have := heap_alloc_new ((w.alloc (.cells #[.int .i64 n, .int .i64 c, .int .i64 g] 24)).alloc (.cells #[.int .i64 n2, .int .i64 c2, .int .i64 g2] 24)) (.cells #[.int .i64 0, .int .i64 0, .int .i64 0] 24)
    simpa [Blk] using this
  have cx := hx.cell 0
  have cy := hy.cell 0
  go_enter Try.func12, Try.ntmps12
  go_wp2_with fail
  rw [← eW]
  clear eW
  go_wp2_with fail
  refine (mul_any n n2 _).mono ?_
  rintro e w0 ⟨rfl, rfl⟩
  go_wp2_with fail
  refine (plain_any _ _).mono ?_
  rintro e w1 ⟨rfl, hb1⟩
  have hr1 := hr.below hb1 hr.lt
  go_wp2_with (refine wpList_store_row rfl 24 (.tmp 6) (.tmp 34) rfl (w.heap.size + 2) #[.int .i64 (wrap64 (n * n2)), .int .i64 0, .int .i64 0] rfl rfl 24 #[.int .i64 0, .int .i64 0, .int .i64 0] hr1 info24 rfl (by simp [Value.oneCell']) ?_)
  refine bodyPost_ret (res12 _ _ (w.heap.size + 2) #[.int .i64 (wrap64 (n * n2)), .int .i64 0, .int .i64 0] _ rfl rfl (setRow_heap _ _ _ _ _ _ hr1) rfl) rfl ?_
  exact ⟨rfl, below_setRow (hb.trans (hb1.mono hb.size)) (by omega) _⟩
theorem arith_div (x y : Wd) (hz : y.n ≠ 0) (w : World) : Calls Try.prog 12 #[.int .i64 7, .agg #[.int .i64 x.n, .int .i64 x.c, .int .i64 x.g], .agg #[.int .i64 y.n, .int .i64 y.c, .int .i64 y.g]] w fun e w' => e = .returned (.tuple #[.agg #[.int .i64 (wrap64 (x.n.tdiv y.n)), .int .i64 0, .int .i64 0], .bool true]) ∧ Below w.heap.size w w' := by
  obtain ⟨n, c, g⟩ := x
  obtain ⟨n2, c2, g2⟩ := y
  have hz' : (n2 == 0) = false := beq_eq_false_iff_ne.2 hz
  obtain ⟨W, eW⟩ : ∃ W, W = ((w.alloc (.cells #[.int .i64 n, .int .i64 c, .int .i64 g] 24)).alloc (.cells #[.int .i64 n2, .int .i64 c2, .int .i64 g2] 24)).alloc (.cells #[.int .i64 0, .int .i64 0, .int .i64 0] 24) := ⟨_, rfl⟩
  have hb : Below w.heap.size w W := by rw [eW]; exact (((Below.refl _ w).alloc (Nat.le_refl _) _).alloc (by simp) _).alloc (by simp; omega) _
  have hx : Blk W w.heap.size 24 #[.int .i64 n, .int .i64 c, .int .i64 g] := by rw [eW]; exact Blk.below (heap_alloc_new w _) (((Below.refl _ _).alloc (Nat.le_refl _) _).alloc (by simp) _) (by simp)
  have hy : Blk W (w.heap.size + 1) 24 #[.int .i64 n2, .int .i64 c2, .int .i64 g2] := by
    rw [eW]
    have h2 : Blk ((w.alloc (.cells #[.int .i64 n, .int .i64 c, .int .i64 g] 24)).alloc (.cells #[.int .i64 n2, .int .i64 c2, .int .i64 g2] 24)) (w.heap.size + 1) 24 #[.int .i64 n2, .int .i64 c2, .int .i64 g2] := heap_alloc2_new w _ _
    exact h2.below ((Below.refl _ _).alloc (Nat.le_refl _) _) (by simp)
  have hr : Blk W (w.heap.size + 2) 24 #[.int .i64 0, .int .i64 0, .int .i64 0] := by
    rw [eW]
    have := heap_alloc_new ((w.alloc (.cells #[.int .i64 n, .int .i64 c, .int .i64 g] 24)).alloc (.cells #[.int .i64 n2, .int .i64 c2, .int .i64 g2] 24)) (.cells #[.int .i64 0, .int .i64 0, .int .i64 0] 24)
    simpa [Blk] using this
  have cx := hx.cell 0
  have cy := hy.cell 0
  go_enter Try.func12, Try.ntmps12
  go_wp2_with fail
  rw [← eW]
  clear eW
  go_wp2_with fail
  refine (div_any n n2 hz' hz _).mono ?_
  rintro e w0 ⟨rfl, rfl⟩
  go_wp2_with fail
  refine (plain_any _ _).mono ?_
  rintro e w1 ⟨rfl, hb1⟩
  have hr1 := hr.below hb1 hr.lt
  go_wp2_with (refine wpList_store_row rfl 24 (.tmp 6) (.tmp 46) rfl (w.heap.size + 2) #[.int .i64 (wrap64 (n.tdiv n2)), .int .i64 0, .int .i64 0] rfl rfl 24 #[.int .i64 0, .int .i64 0, .int .i64 0] hr1 info24 rfl (by simp [Value.oneCell']) ?_)
  refine bodyPost_ret (res12 _ _ (w.heap.size + 2) #[.int .i64 (wrap64 (n.tdiv n2)), .int .i64 0, .int .i64 0] _ rfl rfl (setRow_heap _ _ _ _ _ _ hr1) rfl) rfl ?_
  exact ⟨rfl, below_setRow (hb.trans (hb1.mono hb.size)) (by omega) _⟩
theorem arith_zero (x y : Wd) (w : World) : Calls Try.prog 12 #[.int .i64 7, .agg #[.int .i64 x.n, .int .i64 x.c, .int .i64 x.g], .agg #[.int .i64 0, .int .i64 y.c, .int .i64 y.g]] w fun e w' => e = .returned (.tuple #[.agg #[.int .i64 0, .int .i64 0, .int .i64 0], .bool false]) ∧ Below w.heap.size w w' := by
  obtain ⟨n, c, g⟩ := x
  obtain ⟨n2, c2, g2⟩ := y
  obtain ⟨W, eW⟩ : ∃ W, W = ((w.alloc (.cells #[.int .i64 n, .int .i64 c, .int .i64 g] 24)).alloc (.cells #[.int .i64 0, .int .i64 c2, .int .i64 g2] 24)).alloc (.cells #[.int .i64 0, .int .i64 0, .int .i64 0] 24) := ⟨_, rfl⟩
  have hb : Below w.heap.size w W := by rw [eW]; exact (((Below.refl _ w).alloc (Nat.le_refl _) _).alloc (by simp) _).alloc (by simp; omega) _
  have hx : Blk W w.heap.size 24 #[.int .i64 n, .int .i64 c, .int .i64 g] := by rw [eW]; exact Blk.below (heap_alloc_new w _) (((Below.refl _ _).alloc (Nat.le_refl _) _).alloc (by simp) _) (by simp)
  have hy : Blk W (w.heap.size + 1) 24 #[.int .i64 0, .int .i64 c2, .int .i64 g2] := by
    rw [eW]
    have h2 : Blk ((w.alloc (.cells #[.int .i64 n, .int .i64 c, .int .i64 g] 24)).alloc (.cells #[.int .i64 0, .int .i64 c2, .int .i64 g2] 24)) (w.heap.size + 1) 24 #[.int .i64 0, .int .i64 c2, .int .i64 g2] := heap_alloc2_new w _ _
    exact h2.below ((Below.refl _ _).alloc (Nat.le_refl _) _) (by simp)
  have hr : Blk W (w.heap.size + 2) 24 #[.int .i64 0, .int .i64 0, .int .i64 0] := by
    rw [eW]
    have := heap_alloc_new ((w.alloc (.cells #[.int .i64 n, .int .i64 c, .int .i64 g] 24)).alloc (.cells #[.int .i64 0, .int .i64 c2, .int .i64 g2] 24)) (.cells #[.int .i64 0, .int .i64 0, .int .i64 0] 24)
    simpa [Blk] using this
  have cx := hx.cell 0
  have cy := hy.cell 0
  go_enter Try.func12, Try.ntmps12
  go_wp2_with fail
  rw [← eW]
  clear eW
  go_wp2_with fail
  refine (div_zero n _).mono ?_
  rintro e w0 ⟨rfl, rfl⟩
  go_wp2_with fail
  refine (plain_any _ _).mono ?_
  rintro e w1 ⟨rfl, hb1⟩
  have hr1 := hr.below hb1 hr.lt
  go_wp2_with (refine wpList_store_row rfl 24 (.tmp 6) (.tmp 46) rfl (w.heap.size + 2) #[.int .i64 0, .int .i64 0, .int .i64 0] rfl rfl 24 #[.int .i64 0, .int .i64 0, .int .i64 0] hr1 info24 rfl (by simp [Value.oneCell']) ?_)
  refine bodyPost_ret (res12 _ _ (w.heap.size + 2) #[.int .i64 0, .int .i64 0, .int .i64 0] _ rfl rfl (setRow_heap _ _ _ _ _ _ hr1) rfl) rfl ?_
  exact ⟨rfl, below_setRow (hb.trans (hb1.mono hb.size)) (by omega) _⟩
theorem arith_else (op : Int) (x y : Wd) (h4 : op ≠ 4) (h5 : op ≠ 5) (h6 : op ≠ 6) (h7 : op ≠ 7) (w : World) : Calls Try.prog 12 #[.int .i64 op, .agg #[.int .i64 x.n, .int .i64 x.c, .int .i64 x.g], .agg #[.int .i64 y.n, .int .i64 y.c, .int .i64 y.g]] w fun e w' => e = .returned (.tuple #[.agg #[.int .i64 0, .int .i64 0, .int .i64 0], .bool false]) ∧ Below w.heap.size w w' := by
  obtain ⟨n, c, g⟩ := x
  obtain ⟨n2, c2, g2⟩ := y
  have t4 : (op == 4) = false := beq_eq_false_iff_ne.2 h4
  have t5 : (op == 5) = false := beq_eq_false_iff_ne.2 h5
  have t6 : (op == 6) = false := beq_eq_false_iff_ne.2 h6
  have t7 : (op == 7) = false := beq_eq_false_iff_ne.2 h7
  obtain ⟨W, eW⟩ : ∃ W, W = ((w.alloc (.cells #[.int .i64 n, .int .i64 c, .int .i64 g] 24)).alloc (.cells #[.int .i64 n2, .int .i64 c2, .int .i64 g2] 24)).alloc (.cells #[.int .i64 0, .int .i64 0, .int .i64 0] 24) := ⟨_, rfl⟩
  have hb : Below w.heap.size w W := by rw [eW]; exact (((Below.refl _ w).alloc (Nat.le_refl _) _).alloc (by simp) _).alloc (by simp; omega) _
  have hx : Blk W w.heap.size 24 #[.int .i64 n, .int .i64 c, .int .i64 g] := by rw [eW]; exact Blk.below (heap_alloc_new w _) (((Below.refl _ _).alloc (Nat.le_refl _) _).alloc (by simp) _) (by simp)
  have hy : Blk W (w.heap.size + 1) 24 #[.int .i64 n2, .int .i64 c2, .int .i64 g2] := by
    rw [eW]
    have h2 : Blk ((w.alloc (.cells #[.int .i64 n, .int .i64 c, .int .i64 g] 24)).alloc (.cells #[.int .i64 n2, .int .i64 c2, .int .i64 g2] 24)) (w.heap.size + 1) 24 #[.int .i64 n2, .int .i64 c2, .int .i64 g2] := heap_alloc2_new w _ _
    exact h2.below ((Below.refl _ _).alloc (Nat.le_refl _) _) (by simp)
  have hr : Blk W (w.heap.size + 2) 24 #[.int .i64 0, .int .i64 0, .int .i64 0] := by
    rw [eW]
    have := heap_alloc_new ((w.alloc (.cells #[.int .i64 n, .int .i64 c, .int .i64 g] 24)).alloc (.cells #[.int .i64 n2, .int .i64 c2, .int .i64 g2] 24)) (.cells #[.int .i64 0, .int .i64 0, .int .i64 0] 24)
    simpa [Blk] using this
  have cx := hx.cell 0
  have cy := hy.cell 0
  go_enter Try.func12, Try.ntmps12
  go_wp2_with fail
  rw [← eW]
  clear eW
  go_wp2_with fail
  refine (plain_any _ _).mono ?_
  rintro e w1 ⟨rfl, hb1⟩
  have hr1 := hr.below hb1 hr.lt
  go_wp2_with (refine wpList_store_row rfl 24 (.tmp 6) (.tmp 48) rfl (w.heap.size + 2) #[.int .i64 0, .int .i64 0, .int .i64 0] rfl rfl 24 #[.int .i64 0, .int .i64 0, .int .i64 0] hr1 info24 rfl (by simp [Value.oneCell']) ?_)
  refine bodyPost_ret (res12 _ _ (w.heap.size + 2) #[.int .i64 0, .int .i64 0, .int .i64 0] _ rfl rfl (setRow_heap _ _ _ _ _ _ hr1) rfl) rfl ?_
  exact ⟨rfl, below_setRow (hb.trans (hb1.mono hb.size)) (by omega) _⟩
end Go.Proofs.Ythhjaikpdpchlaa
