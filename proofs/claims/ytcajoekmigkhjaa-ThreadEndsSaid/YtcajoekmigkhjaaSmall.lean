/- Numbers held within bounds, words, what is reckoned of two. Conditions: those that each row names. -/
import Derived.Test.YtcajoekmigkhjaaPure
namespace Go.Proofs.Ytcajoekmigkhjaa
open Go.RowKit Go.ChangeShapes Go.WideShapes Go.Great

/-- The nearest number from 0 to hi. -/
def cl (n hi : Int) : Int := if n < 0 then 0 else if hi < n then hi else n
theorem cl_of (n hi : Int) (h : 0 ≤ hi) : 0 ≤ cl n hi ∧ cl n hi ≤ hi := by
  unfold cl
  split
  · omega
  · split <;> omega
set_option maxRecDepth 100000 in
theorem clamp_any (n hi : Int) (w : World) : Calls Try.prog 28 #[.int .i64 n, .int .i64 0, .int .i64 hi] w fun e w' => e = .returned (.int .i64 (cl n hi)) ∧ w = w' := by
  obtain ⟨M, eM⟩ : ∃ M, M = cl n hi := ⟨_, rfl⟩
  rw [← eM]
  unfold cl at eM
  by_cases h0 : n < 0
  · rw [if_pos h0] at eM
    subst eM
    have t0 : decide (n < 0) = true := decide_eq_true h0
    go_enter Try.func28, Try.ntmps28
    go_wp2
    go_ret
    exact ⟨rfl, rfl⟩
  · rw [if_neg h0] at eM
    have t0 : decide (n < 0) = false := decide_eq_false h0
    by_cases h1 : hi < n
    · rw [if_pos h1] at eM
      subst eM
      have t1 : decide (M < n) = true := decide_eq_true h1
      go_enter Try.func28, Try.ntmps28
      go_wp2
      go_ret
      exact ⟨rfl, rfl⟩
    · rw [if_neg h1] at eM
      subst eM
      have t1 : decide (hi < M) = false := decide_eq_false h1
      go_enter Try.func28, Try.ntmps28
      go_wp2
      go_ret
      exact ⟨rfl, rfl⟩
set_option maxRecDepth 100000 in
theorem near_any (n hi : Int) (w : World) : Calls Try.prog 13 #[.int .i64 n, .int .i64 0, .int .i64 hi] w fun e w' => e = .returned (.int .i64 (cl n hi)) ∧ w = w' := by
  obtain ⟨M, eM⟩ : ∃ M, M = cl n hi := ⟨_, rfl⟩
  rw [← eM]
  unfold cl at eM
  by_cases h0 : n < 0
  · rw [if_pos h0] at eM
    subst eM
    have t0 : decide (n < 0) = true := decide_eq_true h0
    go_enter Try.func13, Try.ntmps13
    go_wp2
    go_ret
    exact ⟨rfl, rfl⟩
  · rw [if_neg h0] at eM
    have t0 : decide (n < 0) = false := decide_eq_false h0
    by_cases h1 : hi < n
    · rw [if_pos h1] at eM
      subst eM
      have t1 : decide (M < n) = true := decide_eq_true h1
      go_enter Try.func13, Try.ntmps13
      go_wp2
      go_ret
      exact ⟨rfl, rfl⟩
    · rw [if_neg h1] at eM
      subst eM
      have t1 : decide (hi < M) = false := decide_eq_false h1
      go_enter Try.func13, Try.ntmps13
      go_wp2
      go_ret
      exact ⟨rfl, rfl⟩
set_option maxRecDepth 100000 in
theorem in_any (x a b : Int) (w : World) : Calls Try.prog 32 #[.int .i64 x, .int .i64 a, .int .i64 b] w fun e w' => e = .returned (.bool (inB x a b)) ∧ w = w' := by
  by_cases h0 : a ≤ x
  · have t0 : decide (a ≤ x) = true := decide_eq_true h0
    have e : inB x a b = decide (x ≤ b) := by unfold inB; rw [t0]; rfl
    rw [e]
    clear e
    go_enter Try.func32, Try.ntmps32
    go_wp2
    go_ret
    exact ⟨rfl, rfl⟩
  · have t0 : decide (a ≤ x) = false := decide_eq_false h0
    have e : inB x a b = false := by unfold inB; rw [t0]; rfl
    rw [e]
    clear e
    go_enter Try.func32, Try.ntmps32
    go_wp2
    go_ret
    exact ⟨rfl, rfl⟩
set_option maxRecDepth 100000 in
theorem isreg_any (r : Int) (w : World) : Calls Try.prog 34 #[.int .i64 r] w fun e w' => e = .returned (.bool (inB r 0 3)) ∧ w = w' := by
  go_enter Try.func34, Try.ntmps34
  go_wp2_with (go_at_call 32; refine (in_any r 0 3 _).mono ?_; rintro e w' ⟨rfl, rfl⟩)
  go_ret
  exact ⟨rfl, rfl⟩
theorem add_any (a b : Int) (w : World) : Calls Try.prog 44 #[.int .i64 a, .int .i64 b] w fun e w' => e = .returned (.int .i64 (wrap64 (a + b))) ∧ w = w' := by
  go_enter Try.func44, Try.ntmps44
  go_wp2
  go_ret
  exact ⟨rfl, rfl⟩
theorem sub_any (a b : Int) (w : World) : Calls Try.prog 45 #[.int .i64 a, .int .i64 b] w fun e w' => e = .returned (.int .i64 (wrap64 (a - b))) ∧ w = w' := by
  go_enter Try.func45, Try.ntmps45
  go_wp2
  go_ret
  exact ⟨rfl, rfl⟩
theorem mul_any (a b : Int) (w : World) : Calls Try.prog 46 #[.int .i64 a, .int .i64 b] w fun e w' => e = .returned (.int .i64 (wrap64 (a * b))) ∧ w = w' := by
  go_enter Try.func46, Try.ntmps46
  go_wp2
  go_ret
  exact ⟨rfl, rfl⟩
theorem div_zero (a : Int) (w : World) : Calls Try.prog 47 #[.int .i64 a, .int .i64 0] w fun e w' => e = .returned (.tuple #[.int .i64 0, .bool false]) ∧ w = w' := by
  go_enter Try.func47, Try.ntmps47
  go_wp2
  go_ret2
  exact ⟨rfl, rfl⟩
theorem div_any (a b : Int) (hb : (b == 0) = false) (hb' : b ≠ 0) (w : World) : Calls Try.prog 47 #[.int .i64 a, .int .i64 b] w fun e w' => e = .returned (.tuple #[.int .i64 (wrap64 (a.tdiv b)), .bool true]) ∧ w = w' := by
  go_enter Try.func47, Try.ntmps47
  go_wp2
  go_ret2
  exact ⟨rfl, rfl⟩
set_option maxRecDepth 100000 in
set_option maxHeartbeats 4000000 in
theorem plain_any (n : Int) (w : World) : Calls Try.prog 35 #[.int .i64 n] w fun e w' => e = .returned (.agg (Wd.mk n 0 0).cs.toArray) ∧ Below w.heap.size w w' := by
  obtain ⟨p1, f1⟩ : ∃ p, w.heap.size = p := ⟨_, rfl⟩
  obtain ⟨W1, ea1⟩ : ∃ W, w.alloc (.cells #[.int .i64 0, .int .i64 0, .int .i64 0] 25) = W := ⟨_, rfl⟩
  have ka1 : Below w.heap.size w W1 := by rw [← ea1]; exact (Below.refl _ w).alloc (Nat.le_refl _) _
  have b1 : Blk W1 p1 25 #[.int .i64 0, .int .i64 0, .int .i64 0] := by rw [← ea1]; exact blk_new w _ 25 _ f1
  have kk : Below w.heap.size w W1 := ka1
  have hp1 : w.heap.size ≤ p1 := Nat.le_of_eq f1
  clear ka1
  obtain ⟨W2, es2⟩ : ∃ W, W1.setRow p1 (Wd.mk n 0 0).cs.toArray = W := ⟨_, rfl⟩
  have bo1 := b1
  replace b1 : Blk W2 p1 25 (Wd.mk n 0 0).cs.toArray := row_named b1 es2
  replace kk := kk.trans (row_below es2 hp1 kk.size)
  go_enter Try.func35, Try.ntmps35
  go_wp2_with (((with_reducible refine at_store 25 (.tmp 2) (.tmp 4) ?_); refine wpList_store_row rfl 25 (.tmp 2) (.tmp 4) rfl p1 (Wd.mk n 0 0).cs.toArray rfl rfl 25 #[.int .i64 0, .int .i64 0, .int .i64 0] bo1 size25 rfl (Wd.onea _) ?_; rw [es2]))
  refine bodyPost_ret (results_cell_row (cs := (Wd.mk n 0 0).cs.toArray) rfl _ _ p1 25 (0, 0) _ rfl b1 Try.underlying25 rfl size25) rfl ?_
  exact ⟨rfl, kk⟩
set_option maxRecDepth 100000 in
set_option maxHeartbeats 4000000 in
theorem equal_any (x y : Wd) (w : World) : Calls Try.prog 39 #[.agg x.cs.toArray, .agg y.cs.toArray] w fun e w' => e = .returned (.bool (x.n == y.n)) ∧ Below w.heap.size w w' := by
  obtain ⟨p1, f1⟩ : ∃ p, w.heap.size = p := ⟨_, rfl⟩
  obtain ⟨W1, ea1⟩ : ∃ W, w.alloc (.cells x.cs.toArray 25) = W := ⟨_, rfl⟩
  have ka1 : Below w.heap.size w W1 := by rw [← ea1]; exact (Below.refl _ w).alloc (Nat.le_refl _) _
  have b1 : Blk W1 p1 25 x.cs.toArray := by rw [← ea1]; exact blk_new w _ 25 _ f1
  have kk : Below w.heap.size w W1 := ka1
  have hp1 : w.heap.size ≤ p1 := Nat.le_of_eq f1
  clear ka1
  obtain ⟨p2, f2⟩ : ∃ p, W1.heap.size = p := ⟨_, rfl⟩
  obtain ⟨W2, ea2⟩ : ∃ W, W1.alloc (.cells y.cs.toArray 25) = W := ⟨_, rfl⟩
  have ka2 : Below W1.heap.size W1 W2 := by rw [← ea2]; exact (Below.refl _ W1).alloc (Nat.le_refl _) _
  have b2 : Blk W2 p2 25 y.cs.toArray := by rw [← ea2]; exact blk_new W1 _ 25 _ f2
  have q1_2 : p1 < p2 := by rw [← f2]; exact b1.lt
  replace b1 := b1.on ka2
  have kk0 := kk
  replace kk := kk.trans (ka2.mono kk.size)
  have hp2 : w.heap.size ≤ p2 := by rw [← f2]; exact kk0.size
  clear ka2 kk0
  have c2_1_0 : W2.cell? ⟨p1, 0, none⟩ = some (.int .i64 x.n) := b1.cell 0
  have c2_2_0 : W2.cell? ⟨p2, 0, none⟩ = some (.int .i64 y.n) := b2.cell 0
  go_enter Try.func39, Try.ntmps39
  go_wp2_with fail
  go_ret
  exact ⟨rfl, kk⟩
theorem res43 (tmps : Array Value) (w : World) (g : Nat) (cs : Array Value) (u : Value) (hp : tmps[6]?.getD undef = .pointer (some ⟨g, 0, none⟩)) (hu : tmps[7]?.getD undef = u) (hg : Blk w g 25 cs) (hs : (Try.prog.info? 25).map (·.size) = some cs.size) :
    (results Try.f43 tmps).run Try.prog w = .ok (.tuple #[.agg cs, u]) w := by
  have hr : Try.f43.results = #[.cell 6 25, .tmp 7] := by kernel_rfl
  rw [results_cell_tmp hr]
  have h2 : tmps.getD 6 undef = .pointer (some ⟨g, 0, none⟩) := by simpa using hp
  have h3 : tmps.getD 7 undef = u := by simpa using hu
  rw [h2, h3]
  have hl := run_loadVar_row w g 25 25 cs (0, 0) _ hg Try.underlying25 rfl hs
  simp [asAddr, Result.andThen, hl]
set_option maxRecDepth 100000 in
set_option maxHeartbeats 4000000 in
theorem arith_add (x y : Wd) (w : World) : Calls Try.prog 43 #[.int .i64 4, .agg x.cs.toArray, .agg y.cs.toArray] w fun e w' => e = .returned (.tuple #[.agg (Wd.mk (wrap64 (x.n + y.n)) 0 0).cs.toArray, .bool true]) ∧ Below w.heap.size w w' := by
  obtain ⟨p1, f1⟩ : ∃ p, w.heap.size = p := ⟨_, rfl⟩
  obtain ⟨W1, ea1⟩ : ∃ W, w.alloc (.cells x.cs.toArray 25) = W := ⟨_, rfl⟩
  have ka1 : Below w.heap.size w W1 := by rw [← ea1]; exact (Below.refl _ w).alloc (Nat.le_refl _) _
  have b1 : Blk W1 p1 25 x.cs.toArray := by rw [← ea1]; exact blk_new w _ 25 _ f1
  have kk : Below w.heap.size w W1 := ka1
  have hp1 : w.heap.size ≤ p1 := Nat.le_of_eq f1
  clear ka1
  obtain ⟨p2, f2⟩ : ∃ p, W1.heap.size = p := ⟨_, rfl⟩
  obtain ⟨W2, ea2⟩ : ∃ W, W1.alloc (.cells y.cs.toArray 25) = W := ⟨_, rfl⟩
  have ka2 : Below W1.heap.size W1 W2 := by rw [← ea2]; exact (Below.refl _ W1).alloc (Nat.le_refl _) _
  have b2 : Blk W2 p2 25 y.cs.toArray := by rw [← ea2]; exact blk_new W1 _ 25 _ f2
  have q1_2 : p1 < p2 := by rw [← f2]; exact b1.lt
  replace b1 := b1.on ka2
  have kk0 := kk
  replace kk := kk.trans (ka2.mono kk.size)
  have hp2 : w.heap.size ≤ p2 := by rw [← f2]; exact kk0.size
  clear ka2 kk0
  obtain ⟨p3, f3⟩ : ∃ p, W2.heap.size = p := ⟨_, rfl⟩
  obtain ⟨W3, ea3⟩ : ∃ W, W2.alloc (.cells #[.int .i64 0, .int .i64 0, .int .i64 0] 25) = W := ⟨_, rfl⟩
  have ka3 : Below W2.heap.size W2 W3 := by rw [← ea3]; exact (Below.refl _ W2).alloc (Nat.le_refl _) _
  have b3 : Blk W3 p3 25 #[.int .i64 0, .int .i64 0, .int .i64 0] := by rw [← ea3]; exact blk_new W2 _ 25 _ f3
  have q1_3 : p1 < p3 := by rw [← f3]; exact b1.lt
  replace b1 := b1.on ka3
  have q2_3 : p2 < p3 := by rw [← f3]; exact b2.lt
  replace b2 := b2.on ka3
  have kk0 := kk
  replace kk := kk.trans (ka3.mono kk.size)
  have hp3 : w.heap.size ≤ p3 := by rw [← f3]; exact kk0.size
  clear ka3 kk0
  have c3_1_0 : W3.cell? ⟨p1, 0, none⟩ = some (.int .i64 x.n) := b1.cell 0
  have c3_2_0 : W3.cell? ⟨p2, 0, none⟩ = some (.int .i64 y.n) := b2.cell 0
  go_enter Try.func43, Try.ntmps43
  go_wp2_with fail
  refine (add_any x.n y.n _).mono ?_
  rintro e w0 ⟨rfl, rfl⟩
  go_wp2_with fail
  refine (plain_any (wrap64 (x.n + y.n)) _).mono ?_
  rintro e W4 ⟨rfl, k1⟩
  clear c3_1_0 c3_2_0
  replace b1 := b1.on k1
  replace b2 := b2.on k1
  replace b3 := b3.on k1
  replace kk := kk.trans (k1.mono kk.size)
  clear k1
  obtain ⟨W5, es5⟩ : ∃ W, W4.setRow p3 (Wd.mk (wrap64 (x.n + y.n)) 0 0).cs.toArray = W := ⟨_, rfl⟩
  have bo3 := b3
  replace b1 := row_far b1 es5 (by omega)
  replace b2 := row_far b2 es5 (by omega)
  replace b3 : Blk W5 p3 25 (Wd.mk (wrap64 (x.n + y.n)) 0 0).cs.toArray := row_named b3 es5
  replace kk := kk.trans (row_below es5 hp3 kk.size)
  go_wp2_with (((with_reducible refine at_store 25 (.tmp 6) (.tmp 18) ?_); refine wpList_store_row rfl 25 (.tmp 6) (.tmp 18) rfl p3 (Wd.mk (wrap64 (x.n + y.n)) 0 0).cs.toArray rfl rfl 25 #[.int .i64 0, .int .i64 0, .int .i64 0] bo3 size25 rfl (Wd.onea _) ?_; rw [es5]))
  refine bodyPost_ret (res43 _ _ p3 (Wd.mk (wrap64 (x.n + y.n)) 0 0).cs.toArray _ rfl rfl b3 size25) rfl ?_
  exact ⟨rfl, kk⟩
set_option maxRecDepth 100000 in
set_option maxHeartbeats 4000000 in
theorem arith_sub (x y : Wd) (w : World) : Calls Try.prog 43 #[.int .i64 5, .agg x.cs.toArray, .agg y.cs.toArray] w fun e w' => e = .returned (.tuple #[.agg (Wd.mk (wrap64 (x.n - y.n)) 0 0).cs.toArray, .bool true]) ∧ Below w.heap.size w w' := by
  obtain ⟨p1, f1⟩ : ∃ p, w.heap.size = p := ⟨_, rfl⟩
  obtain ⟨W1, ea1⟩ : ∃ W, w.alloc (.cells x.cs.toArray 25) = W := ⟨_, rfl⟩
  have ka1 : Below w.heap.size w W1 := by rw [← ea1]; exact (Below.refl _ w).alloc (Nat.le_refl _) _
  have b1 : Blk W1 p1 25 x.cs.toArray := by rw [← ea1]; exact blk_new w _ 25 _ f1
  have kk : Below w.heap.size w W1 := ka1
  have hp1 : w.heap.size ≤ p1 := Nat.le_of_eq f1
  clear ka1
  obtain ⟨p2, f2⟩ : ∃ p, W1.heap.size = p := ⟨_, rfl⟩
  obtain ⟨W2, ea2⟩ : ∃ W, W1.alloc (.cells y.cs.toArray 25) = W := ⟨_, rfl⟩
  have ka2 : Below W1.heap.size W1 W2 := by rw [← ea2]; exact (Below.refl _ W1).alloc (Nat.le_refl _) _
  have b2 : Blk W2 p2 25 y.cs.toArray := by rw [← ea2]; exact blk_new W1 _ 25 _ f2
  have q1_2 : p1 < p2 := by rw [← f2]; exact b1.lt
  replace b1 := b1.on ka2
  have kk0 := kk
  replace kk := kk.trans (ka2.mono kk.size)
  have hp2 : w.heap.size ≤ p2 := by rw [← f2]; exact kk0.size
  clear ka2 kk0
  obtain ⟨p3, f3⟩ : ∃ p, W2.heap.size = p := ⟨_, rfl⟩
  obtain ⟨W3, ea3⟩ : ∃ W, W2.alloc (.cells #[.int .i64 0, .int .i64 0, .int .i64 0] 25) = W := ⟨_, rfl⟩
  have ka3 : Below W2.heap.size W2 W3 := by rw [← ea3]; exact (Below.refl _ W2).alloc (Nat.le_refl _) _
  have b3 : Blk W3 p3 25 #[.int .i64 0, .int .i64 0, .int .i64 0] := by rw [← ea3]; exact blk_new W2 _ 25 _ f3
  have q1_3 : p1 < p3 := by rw [← f3]; exact b1.lt
  replace b1 := b1.on ka3
  have q2_3 : p2 < p3 := by rw [← f3]; exact b2.lt
  replace b2 := b2.on ka3
  have kk0 := kk
  replace kk := kk.trans (ka3.mono kk.size)
  have hp3 : w.heap.size ≤ p3 := by rw [← f3]; exact kk0.size
  clear ka3 kk0
  have c3_1_0 : W3.cell? ⟨p1, 0, none⟩ = some (.int .i64 x.n) := b1.cell 0
  have c3_2_0 : W3.cell? ⟨p2, 0, none⟩ = some (.int .i64 y.n) := b2.cell 0
  go_enter Try.func43, Try.ntmps43
  go_wp2_with fail
  refine (sub_any x.n y.n _).mono ?_
  rintro e w0 ⟨rfl, rfl⟩
  go_wp2_with fail
  refine (plain_any (wrap64 (x.n - y.n)) _).mono ?_
  rintro e W4 ⟨rfl, k1⟩
  clear c3_1_0 c3_2_0
  replace b1 := b1.on k1
  replace b2 := b2.on k1
  replace b3 := b3.on k1
  replace kk := kk.trans (k1.mono kk.size)
  clear k1
  obtain ⟨W5, es5⟩ : ∃ W, W4.setRow p3 (Wd.mk (wrap64 (x.n - y.n)) 0 0).cs.toArray = W := ⟨_, rfl⟩
  have bo3 := b3
  replace b1 := row_far b1 es5 (by omega)
  replace b2 := row_far b2 es5 (by omega)
  replace b3 : Blk W5 p3 25 (Wd.mk (wrap64 (x.n - y.n)) 0 0).cs.toArray := row_named b3 es5
  replace kk := kk.trans (row_below es5 hp3 kk.size)
  go_wp2_with (((with_reducible refine at_store 25 (.tmp 6) (.tmp 26) ?_); refine wpList_store_row rfl 25 (.tmp 6) (.tmp 26) rfl p3 (Wd.mk (wrap64 (x.n - y.n)) 0 0).cs.toArray rfl rfl 25 #[.int .i64 0, .int .i64 0, .int .i64 0] bo3 size25 rfl (Wd.onea _) ?_; rw [es5]))
  refine bodyPost_ret (res43 _ _ p3 (Wd.mk (wrap64 (x.n - y.n)) 0 0).cs.toArray _ rfl rfl b3 size25) rfl ?_
  exact ⟨rfl, kk⟩
set_option maxRecDepth 100000 in
set_option maxHeartbeats 4000000 in
theorem arith_mul (x y : Wd) (w : World) : Calls Try.prog 43 #[.int .i64 6, .agg x.cs.toArray, .agg y.cs.toArray] w fun e w' => e = .returned (.tuple #[.agg (Wd.mk (wrap64 (x.n * y.n)) 0 0).cs.toArray, .bool true]) ∧ Below w.heap.size w w' := by
  obtain ⟨p1, f1⟩ : ∃ p, w.heap.size = p := ⟨_, rfl⟩
  obtain ⟨W1, ea1⟩ : ∃ W, w.alloc (.cells x.cs.toArray 25) = W := ⟨_, rfl⟩
  have ka1 : Below w.heap.size w W1 := by rw [← ea1]; exact (Below.refl _ w).alloc (Nat.le_refl _) _
  have b1 : Blk W1 p1 25 x.cs.toArray := by rw [← ea1]; exact blk_new w _ 25 _ f1
  have kk : Below w.heap.size w W1 := ka1
  have hp1 : w.heap.size ≤ p1 := Nat.le_of_eq f1
  clear ka1
  obtain ⟨p2, f2⟩ : ∃ p, W1.heap.size = p := ⟨_, rfl⟩
  obtain ⟨W2, ea2⟩ : ∃ W, W1.alloc (.cells y.cs.toArray 25) = W := ⟨_, rfl⟩
  have ka2 : Below W1.heap.size W1 W2 := by rw [← ea2]; exact (Below.refl _ W1).alloc (Nat.le_refl _) _
  have b2 : Blk W2 p2 25 y.cs.toArray := by rw [← ea2]; exact blk_new W1 _ 25 _ f2
  have q1_2 : p1 < p2 := by rw [← f2]; exact b1.lt
  replace b1 := b1.on ka2
  have kk0 := kk
  replace kk := kk.trans (ka2.mono kk.size)
  have hp2 : w.heap.size ≤ p2 := by rw [← f2]; exact kk0.size
  clear ka2 kk0
  obtain ⟨p3, f3⟩ : ∃ p, W2.heap.size = p := ⟨_, rfl⟩
  obtain ⟨W3, ea3⟩ : ∃ W, W2.alloc (.cells #[.int .i64 0, .int .i64 0, .int .i64 0] 25) = W := ⟨_, rfl⟩
  have ka3 : Below W2.heap.size W2 W3 := by rw [← ea3]; exact (Below.refl _ W2).alloc (Nat.le_refl _) _
  have b3 : Blk W3 p3 25 #[.int .i64 0, .int .i64 0, .int .i64 0] := by rw [← ea3]; exact blk_new W2 _ 25 _ f3
  have q1_3 : p1 < p3 := by rw [← f3]; exact b1.lt
  replace b1 := b1.on ka3
  have q2_3 : p2 < p3 := by rw [← f3]; exact b2.lt
  replace b2 := b2.on ka3
  have kk0 := kk
  replace kk := kk.trans (ka3.mono kk.size)
  have hp3 : w.heap.size ≤ p3 := by rw [← f3]; exact kk0.size
  clear ka3 kk0
  have c3_1_0 : W3.cell? ⟨p1, 0, none⟩ = some (.int .i64 x.n) := b1.cell 0
  have c3_2_0 : W3.cell? ⟨p2, 0, none⟩ = some (.int .i64 y.n) := b2.cell 0
  go_enter Try.func43, Try.ntmps43
  go_wp2_with fail
  refine (mul_any x.n y.n _).mono ?_
  rintro e w0 ⟨rfl, rfl⟩
  go_wp2_with fail
  refine (plain_any (wrap64 (x.n * y.n)) _).mono ?_
  rintro e W4 ⟨rfl, k1⟩
  clear c3_1_0 c3_2_0
  replace b1 := b1.on k1
  replace b2 := b2.on k1
  replace b3 := b3.on k1
  replace kk := kk.trans (k1.mono kk.size)
  clear k1
  obtain ⟨W5, es5⟩ : ∃ W, W4.setRow p3 (Wd.mk (wrap64 (x.n * y.n)) 0 0).cs.toArray = W := ⟨_, rfl⟩
  have bo3 := b3
  replace b1 := row_far b1 es5 (by omega)
  replace b2 := row_far b2 es5 (by omega)
  replace b3 : Blk W5 p3 25 (Wd.mk (wrap64 (x.n * y.n)) 0 0).cs.toArray := row_named b3 es5
  replace kk := kk.trans (row_below es5 hp3 kk.size)
  go_wp2_with (((with_reducible refine at_store 25 (.tmp 6) (.tmp 34) ?_); refine wpList_store_row rfl 25 (.tmp 6) (.tmp 34) rfl p3 (Wd.mk (wrap64 (x.n * y.n)) 0 0).cs.toArray rfl rfl 25 #[.int .i64 0, .int .i64 0, .int .i64 0] bo3 size25 rfl (Wd.onea _) ?_; rw [es5]))
  refine bodyPost_ret (res43 _ _ p3 (Wd.mk (wrap64 (x.n * y.n)) 0 0).cs.toArray _ rfl rfl b3 size25) rfl ?_
  exact ⟨rfl, kk⟩
set_option maxRecDepth 100000 in
set_option maxHeartbeats 4000000 in
theorem arith_div (x y : Wd) (hz : y.n ≠ 0) (w : World) : Calls Try.prog 43 #[.int .i64 7, .agg x.cs.toArray, .agg y.cs.toArray] w fun e w' => e = .returned (.tuple #[.agg (Wd.mk (wrap64 (x.n.tdiv y.n)) 0 0).cs.toArray, .bool true]) ∧ Below w.heap.size w w' := by
  have hz' : (y.n == 0) = false := beq_eq_false_iff_ne.2 hz
  obtain ⟨p1, f1⟩ : ∃ p, w.heap.size = p := ⟨_, rfl⟩
  obtain ⟨W1, ea1⟩ : ∃ W, w.alloc (.cells x.cs.toArray 25) = W := ⟨_, rfl⟩
  have ka1 : Below w.heap.size w W1 := by rw [← ea1]; exact (Below.refl _ w).alloc (Nat.le_refl _) _
  have b1 : Blk W1 p1 25 x.cs.toArray := by rw [← ea1]; exact blk_new w _ 25 _ f1
  have kk : Below w.heap.size w W1 := ka1
  have hp1 : w.heap.size ≤ p1 := Nat.le_of_eq f1
  clear ka1
  obtain ⟨p2, f2⟩ : ∃ p, W1.heap.size = p := ⟨_, rfl⟩
  obtain ⟨W2, ea2⟩ : ∃ W, W1.alloc (.cells y.cs.toArray 25) = W := ⟨_, rfl⟩
  have ka2 : Below W1.heap.size W1 W2 := by rw [← ea2]; exact (Below.refl _ W1).alloc (Nat.le_refl _) _
  have b2 : Blk W2 p2 25 y.cs.toArray := by rw [← ea2]; exact blk_new W1 _ 25 _ f2
  have q1_2 : p1 < p2 := by rw [← f2]; exact b1.lt
  replace b1 := b1.on ka2
  have kk0 := kk
  replace kk := kk.trans (ka2.mono kk.size)
  have hp2 : w.heap.size ≤ p2 := by rw [← f2]; exact kk0.size
  clear ka2 kk0
  obtain ⟨p3, f3⟩ : ∃ p, W2.heap.size = p := ⟨_, rfl⟩
  obtain ⟨W3, ea3⟩ : ∃ W, W2.alloc (.cells #[.int .i64 0, .int .i64 0, .int .i64 0] 25) = W := ⟨_, rfl⟩
  have ka3 : Below W2.heap.size W2 W3 := by rw [← ea3]; exact (Below.refl _ W2).alloc (Nat.le_refl _) _
  have b3 : Blk W3 p3 25 #[.int .i64 0, .int .i64 0, .int .i64 0] := by rw [← ea3]; exact blk_new W2 _ 25 _ f3
  have q1_3 : p1 < p3 := by rw [← f3]; exact b1.lt
  replace b1 := b1.on ka3
  have q2_3 : p2 < p3 := by rw [← f3]; exact b2.lt
  replace b2 := b2.on ka3
  have kk0 := kk
  replace kk := kk.trans (ka3.mono kk.size)
  have hp3 : w.heap.size ≤ p3 := by rw [← f3]; exact kk0.size
  clear ka3 kk0
  have c3_1_0 : W3.cell? ⟨p1, 0, none⟩ = some (.int .i64 x.n) := b1.cell 0
  have c3_2_0 : W3.cell? ⟨p2, 0, none⟩ = some (.int .i64 y.n) := b2.cell 0
  go_enter Try.func43, Try.ntmps43
  go_wp2_with fail
  refine (div_any x.n y.n hz' hz _).mono ?_
  rintro e w0 ⟨rfl, rfl⟩
  go_wp2_with fail
  refine (plain_any (wrap64 (x.n.tdiv y.n)) _).mono ?_
  rintro e W4 ⟨rfl, k1⟩
  clear c3_1_0 c3_2_0
  replace b1 := b1.on k1
  replace b2 := b2.on k1
  replace b3 := b3.on k1
  replace kk := kk.trans (k1.mono kk.size)
  clear k1
  obtain ⟨W5, es5⟩ : ∃ W, W4.setRow p3 (Wd.mk (wrap64 (x.n.tdiv y.n)) 0 0).cs.toArray = W := ⟨_, rfl⟩
  have bo3 := b3
  replace b1 := row_far b1 es5 (by omega)
  replace b2 := row_far b2 es5 (by omega)
  replace b3 : Blk W5 p3 25 (Wd.mk (wrap64 (x.n.tdiv y.n)) 0 0).cs.toArray := row_named b3 es5
  replace kk := kk.trans (row_below es5 hp3 kk.size)
  go_wp2_with (((with_reducible refine at_store 25 (.tmp 6) (.tmp 46) ?_); refine wpList_store_row rfl 25 (.tmp 6) (.tmp 46) rfl p3 (Wd.mk (wrap64 (x.n.tdiv y.n)) 0 0).cs.toArray rfl rfl 25 #[.int .i64 0, .int .i64 0, .int .i64 0] bo3 size25 rfl (Wd.onea _) ?_; rw [es5]))
  refine bodyPost_ret (res43 _ _ p3 (Wd.mk (wrap64 (x.n.tdiv y.n)) 0 0).cs.toArray _ rfl rfl b3 size25) rfl ?_
  exact ⟨rfl, kk⟩
set_option maxRecDepth 100000 in
set_option maxHeartbeats 4000000 in
theorem arith_zero (x y : Wd) (w : World) : Calls Try.prog 43 #[.int .i64 7, .agg x.cs.toArray, .agg (Wd.mk 0 y.c y.g).cs.toArray] w fun e w' => e = .returned (.tuple #[.agg (Wd.mk 0 0 0).cs.toArray, .bool false]) ∧ Below w.heap.size w w' := by
  obtain ⟨p1, f1⟩ : ∃ p, w.heap.size = p := ⟨_, rfl⟩
  obtain ⟨W1, ea1⟩ : ∃ W, w.alloc (.cells x.cs.toArray 25) = W := ⟨_, rfl⟩
  have ka1 : Below w.heap.size w W1 := by rw [← ea1]; exact (Below.refl _ w).alloc (Nat.le_refl _) _
  have b1 : Blk W1 p1 25 x.cs.toArray := by rw [← ea1]; exact blk_new w _ 25 _ f1
  have kk : Below w.heap.size w W1 := ka1
  have hp1 : w.heap.size ≤ p1 := Nat.le_of_eq f1
  clear ka1
  obtain ⟨p2, f2⟩ : ∃ p, W1.heap.size = p := ⟨_, rfl⟩
  obtain ⟨W2, ea2⟩ : ∃ W, W1.alloc (.cells (Wd.mk 0 y.c y.g).cs.toArray 25) = W := ⟨_, rfl⟩
  have ka2 : Below W1.heap.size W1 W2 := by rw [← ea2]; exact (Below.refl _ W1).alloc (Nat.le_refl _) _
  have b2 : Blk W2 p2 25 (Wd.mk 0 y.c y.g).cs.toArray := by rw [← ea2]; exact blk_new W1 _ 25 _ f2
  have q1_2 : p1 < p2 := by rw [← f2]; exact b1.lt
  replace b1 := b1.on ka2
  have kk0 := kk
  replace kk := kk.trans (ka2.mono kk.size)
  have hp2 : w.heap.size ≤ p2 := by rw [← f2]; exact kk0.size
  clear ka2 kk0
  obtain ⟨p3, f3⟩ : ∃ p, W2.heap.size = p := ⟨_, rfl⟩
  obtain ⟨W3, ea3⟩ : ∃ W, W2.alloc (.cells #[.int .i64 0, .int .i64 0, .int .i64 0] 25) = W := ⟨_, rfl⟩
  have ka3 : Below W2.heap.size W2 W3 := by rw [← ea3]; exact (Below.refl _ W2).alloc (Nat.le_refl _) _
  have b3 : Blk W3 p3 25 #[.int .i64 0, .int .i64 0, .int .i64 0] := by rw [← ea3]; exact blk_new W2 _ 25 _ f3
  have q1_3 : p1 < p3 := by rw [← f3]; exact b1.lt
  replace b1 := b1.on ka3
  have q2_3 : p2 < p3 := by rw [← f3]; exact b2.lt
  replace b2 := b2.on ka3
  have kk0 := kk
  replace kk := kk.trans (ka3.mono kk.size)
  have hp3 : w.heap.size ≤ p3 := by rw [← f3]; exact kk0.size
  clear ka3 kk0
  have c3_1_0 : W3.cell? ⟨p1, 0, none⟩ = some (.int .i64 x.n) := b1.cell 0
  have c3_2_0 : W3.cell? ⟨p2, 0, none⟩ = some (.int .i64 0) := b2.cell 0
  go_enter Try.func43, Try.ntmps43
  go_wp2_with fail
  refine (div_zero x.n _).mono ?_
  rintro e w0 ⟨rfl, rfl⟩
  go_wp2_with fail
  refine (plain_any 0 _).mono ?_
  rintro e W4 ⟨rfl, k1⟩
  clear c3_1_0 c3_2_0
  replace b1 := b1.on k1
  replace b2 := b2.on k1
  replace b3 := b3.on k1
  replace kk := kk.trans (k1.mono kk.size)
  clear k1
  obtain ⟨W5, es5⟩ : ∃ W, W4.setRow p3 (Wd.mk 0 0 0).cs.toArray = W := ⟨_, rfl⟩
  have bo3 := b3
  replace b1 := row_far b1 es5 (by omega)
  replace b2 := row_far b2 es5 (by omega)
  replace b3 : Blk W5 p3 25 (Wd.mk 0 0 0).cs.toArray := row_named b3 es5
  replace kk := kk.trans (row_below es5 hp3 kk.size)
  go_wp2_with (((with_reducible refine at_store 25 (.tmp 6) (.tmp 46) ?_); refine wpList_store_row rfl 25 (.tmp 6) (.tmp 46) rfl p3 (Wd.mk 0 0 0).cs.toArray rfl rfl 25 #[.int .i64 0, .int .i64 0, .int .i64 0] bo3 size25 rfl (Wd.onea _) ?_; rw [es5]))
  refine bodyPost_ret (res43 _ _ p3 (Wd.mk 0 0 0).cs.toArray _ rfl rfl b3 size25) rfl ?_
  exact ⟨rfl, kk⟩
/-- What Arith answers of the four instructions that reckon. -/
theorem arith_any (op : Int) (x y : Wd) (h : op = 4 ∨ op = 5 ∨ op = 6 ∨ op = 7) (w : World) : Calls Try.prog 43 #[.int .i64 op, .agg x.cs.toArray, .agg y.cs.toArray] w fun e w' => e = .returned (.tuple #[.agg (Wd.mk (ariZ op x.n y.n) 0 0).cs.toArray, .bool (!ariN op y.n)]) ∧ Below w.heap.size w w' := by
  rcases h with rfl | rfl | rfl | rfl
  · exact arith_add x y w
  · exact arith_sub x y w
  · exact arith_mul x y w
  · by_cases hz : y.n = 0
    · obtain ⟨n, c, g⟩ := y
      simp only at hz
      subst hz
      exact arith_zero x ⟨0, c, g⟩ w
    · refine (arith_div x y hz w).mono ?_
      rintro e w' ⟨rfl, hb⟩
      have e1 : ariZ 7 x.n y.n = wrap64 (x.n.tdiv y.n) := by
        unfold ariZ
        rw [if_neg (by omega), if_neg (by omega), if_neg (by omega), if_neg hz]
      have e2 : ariN 7 y.n = false := by
        unfold ariN
        rw [beq_eq_false_iff_ne.2 hz, Bool.and_false]
      rw [e1, e2]
      exact ⟨rfl, hb⟩
set_option maxRecDepth 100000 in
/-- The plain one. -/
theorem rarith_any (op a b : Int) (h : op = 4 ∨ op = 5 ∨ op = 6 ∨ op = 7) (w : World) : Calls Try.prog 40 #[.int .i64 op, .int .i64 a, .int .i64 b] w fun e w' => e = .returned (.tuple #[.int .i64 (ariZ op a b), .bool (!ariN op b)]) ∧ w = w' := by
  rcases h with rfl | rfl | rfl | rfl
  · have e1 : ariZ 4 a b = wrap64 (a + b) := rfl
    have e2 : ariN 4 b = false := rfl
    rw [e1, e2]
    clear e1 e2
    go_enter Try.func40, Try.ntmps40
    go_wp2
    go_ret2
    exact ⟨rfl, rfl⟩
  · have e1 : ariZ 5 a b = wrap64 (a - b) := rfl
    have e2 : ariN 5 b = false := rfl
    rw [e1, e2]
    clear e1 e2
    go_enter Try.func40, Try.ntmps40
    go_wp2
    go_ret2
    exact ⟨rfl, rfl⟩
  · have e1 : ariZ 6 a b = wrap64 (a * b) := rfl
    have e2 : ariN 6 b = false := rfl
    rw [e1, e2]
    clear e1 e2
    go_enter Try.func40, Try.ntmps40
    go_wp2
    go_ret2
    exact ⟨rfl, rfl⟩
  · by_cases hz : b = 0
    · subst hz
      have e1 : ariZ 7 a 0 = 0 := rfl
      have e2 : ariN 7 0 = true := rfl
      rw [e1, e2]
      clear e1 e2
      go_enter Try.func40, Try.ntmps40
      go_wp2
      go_ret2
      exact ⟨rfl, rfl⟩
    · have e1 : ariZ 7 a b = wrap64 (a.tdiv b) := by
        unfold ariZ
        rw [if_neg (by omega), if_neg (by omega), if_neg (by omega), if_neg hz]
      have hz' : (b == 0) = false := beq_eq_false_iff_ne.2 hz
      have e2 : ariN 7 b = false := by
        unfold ariN
        rw [hz', Bool.and_false]
      rw [e1, e2]
      clear e1 e2
      by_cases h1 : b = -1
      · subst h1
        have e3 : a.tdiv (-1) = -a := by rw [Int.tdiv_neg, Int.tdiv_one]
        rw [e3]
        clear e3
        go_enter Try.func40, Try.ntmps40
        go_wp2
        go_ret2
        exact ⟨rfl, rfl⟩
      · have h1' : (b == -1) = false := beq_eq_false_iff_ne.2 h1
        go_enter Try.func40, Try.ntmps40
        go_wp2
        go_ret2
        exact ⟨rfl, rfl⟩
end Go.Proofs.Ytcajoekmigkhjaa
