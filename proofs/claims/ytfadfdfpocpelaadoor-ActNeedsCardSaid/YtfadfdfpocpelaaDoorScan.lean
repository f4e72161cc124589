/- What a thread sees between two instructions, and its act there, by the program. Conditions: a program's list has room. -/
import Derived.Test.YtfadfdfpocpelaaDoorThrough
import Derived.Test.YtfadfdfpocpelaaDoorSlots
namespace Go.Proofs.YtfadfdfpocpelaaDoor
set_option linter.unusedSimpArgs false
set_option linter.unusedVariables false
open Go.RowKit Go.ChangeShapes Go.WideShapes

/-- The place of that kind that the i-th thread has. -/
def thtB (p : Pg) (i : Int) : Bool := inB i 0 (thrZ p - 1)
def thtP (p : Pg) (k i : Int) : Pl := if thtB p i = true then ⟨k, i, 0⟩ else noP
/-- What a micro sees. -/
def reaB (p : Pg) (m : Mi) : Bool := if m.k = 2 then slotB m.i p.co.n p.s else if m.k = 4 ∨ m.k = 6 then true else if m.k = 5 ∨ m.k = 7 ∨ m.k = 8 then thtB p m.i else false
def reaP (p : Pg) (m : Mi) : Pl := if m.k = 2 then slotP m.i p.co.n p.s else if m.k = 4 ∨ m.k = 6 then ⟨6, 0, 0⟩ else if m.k = 5 then thtP p 7 m.i else if m.k = 7 ∨ m.k = 8 then thtP p 8 m.i else noP
def scnA (p : Pg) (m : Mi) : Ac := if reaB p m = true then ⟨9, reaP p m, noW, noW, noW, 0⟩ else noA
/-- The act of a thread between two instructions. -/
def micA (p : Pg) (t : Int) (m : Mi) : Ac :=
  if m.k = 1 then ⟨3, ⟨7, t, 0⟩, noW, noW, ⟨markZ m.n, 0, 0⟩, 0⟩ else if m.k = 6 then ⟨4, ⟨6, 0, 0⟩, noW, ⟨m.n, 0, 0⟩, ⟨wrap64 (m.n + 1), 0, 0⟩, 0⟩
  else if m.k = 3 then ⟨10, noP, noW, noW, noW, 0⟩ else scnA p m
theorem res74 (tmps : Array Value) (w : World) (g : Nat) (cs : Array Value) (u : Value) (hp : tmps[6]?.getD undef = .pointer (some ⟨g, 0, none⟩)) (hu : tmps[7]?.getD undef = u) (hg : Blk w g 23 cs) (hs : (Tryd.prog.info? 23).map (·.size) = some cs.size) :
    (results Tryd.f56 tmps).run Tryd.prog w = .ok (.tuple #[.agg cs, u]) w := by
  have hr : Tryd.f56.results = #[.cell 6 23, .tmp 7] := by kernel_rfl
  rw [results_cell_tmp hr]
  have h2 : tmps.getD 6 undef = .pointer (some ⟨g, 0, none⟩) := by simpa using hp
  have h3 : tmps.getD 7 undef = u := by simpa using hu
  rw [h2, h3]
  have hl := run_loadVar_row w g 23 23 cs (0, 0) _ hg Tryd.underlying23 rfl hs
  simp [asAddr, Result.andThen, hl]
theorem res63 (tmps : Array Value) (w : World) (g : Nat) (cs : Array Value) (u : Value) (hp : tmps[4]?.getD undef = .pointer (some ⟨g, 0, none⟩)) (hu : tmps[5]?.getD undef = u) (hg : Blk w g 23 cs) (hs : (Tryd.prog.info? 23).map (·.size) = some cs.size) :
    (results Tryd.f46 tmps).run Tryd.prog w = .ok (.tuple #[.agg cs, u]) w := by
  have hr : Tryd.f46.results = #[.cell 4 23, .tmp 5] := by kernel_rfl
  rw [results_cell_tmp hr]
  have h2 : tmps.getD 4 undef = .pointer (some ⟨g, 0, none⟩) := by simpa using hp
  have h3 : tmps.getD 5 undef = u := by simpa using hu
  rw [h2, h3]
  have hl := run_loadVar_row w g 23 23 cs (0, 0) _ hg Tryd.underlying23 rfl hs
  simp [asAddr, Result.andThen, hl]
set_option maxRecDepth 100000 in
set_option maxHeartbeats 4000000 in
theorem ofthread_any (p : Pg) (hp : p.Ok) (k i : Int) (w : World) : Calls Tryd.prog 56 #[.agg p.cs.toArray, .int .i64 k, .int .i64 i] w fun e w' => e = .returned (.tuple #[.agg (thtP p k i).cs.toArray, .bool (thtB p i)]) ∧ Below w.heap.size w w' := by
  have t4 := thr_of p
  have d1 := fun W => threads_any p hp W
  generalize eZ : thrZ p = Z at *
  obtain ⟨p1, f1⟩ : ∃ p, w.heap.size = p := ⟨_, rfl⟩
  obtain ⟨W1, ea1⟩ : ∃ W, w.alloc (.cells p.cs.toArray 39) = W := ⟨_, rfl⟩
  have ka1 : Below w.heap.size w W1 := by rw [← ea1]; exact (Below.refl _ w).alloc (Nat.le_refl _) _
  have b1 : Blk W1 p1 39 p.cs.toArray := by rw [← ea1]; exact blk_new w _ 39 _ f1
  have kk : Below w.heap.size w W1 := ka1
  have hp1 : w.heap.size ≤ p1 := Nat.le_of_eq f1
  clear ka1
  obtain ⟨p2, f2⟩ : ∃ p, W1.heap.size = p := ⟨_, rfl⟩
  obtain ⟨W2, ea2⟩ : ∃ W, W1.alloc (.cells #[.int .i64 0, .int .i64 0, .int .i64 0] 23) = W := ⟨_, rfl⟩
  have ka2 : Below W1.heap.size W1 W2 := by rw [← ea2]; exact (Below.refl _ W1).alloc (Nat.le_refl _) _
  have b2 : Blk W2 p2 23 #[.int .i64 0, .int .i64 0, .int .i64 0] := by rw [← ea2]; exact blk_new W1 _ 23 _ f2
  have q1_2 : p1 < p2 := by rw [← f2]; exact b1.lt
  replace b1 := b1.on ka2
  have kk0 := kk
  replace kk := kk.trans (ka2.mono kk.size)
  have hp2 : w.heap.size ≤ p2 := by rw [← f2]; exact kk0.size
  clear ka2 kk0
  by_cases c0 : thtB p i = true
  · have m2 := fun W => in_any i 0 (Z - 1) W
    have c0_ : thtB p i = _ := c0
    unfold thtP
    rw [c0_]
    rw [if_pos rfl]
    unfold thtB at c0_
    rw [eZ] at c0_
    rw [c0_] at m2
    clear c0 c0_ eZ
    have z1 : (-9223372036854775808 : Int) ≤ Z - 1 := by omega
    have z2 : Z - 1 ≤ 9223372036854775807 := by omega
    go_enter Tryd.func56, Tryd.ntmps56
    go_wp2_with (((with_reducible refine at_load 39 (.tmp 3) ?_); refine wpList_load_row rfl 39 (.tmp 3) rfl p1 rfl 39 p.cs.toArray (0, 0) _ b1 Tryd.underlying39 rfl size39 ?_))
    refine (d1 _).mono ?_
    rintro e W3 ⟨rfl, k1⟩
    replace b1 := b1.on k1
    replace b2 := b2.on k1
    replace kk := kk.trans (k1.mono kk.size)
    clear k1
    obtain ⟨W4, es4⟩ : ∃ W, W3.setRow p2 #[.int .i64 k, .int .i64 i, .int .i64 0] = W := ⟨_, rfl⟩
    have bo2 := b2
    replace b1 := row_far b1 es4 (by omega)
    replace b2 : Blk W4 p2 23 #[.int .i64 k, .int .i64 i, .int .i64 0] := row_named b2 es4
    replace kk := kk.trans (row_below es4 hp2 kk.size)
    go_wp2_with (first | (go_at_call 11; refine (m2 _).mono ?_; rintro e w' ⟨rfl, rfl⟩) | ((with_reducible refine at_store 23 (.tmp 6) (.tmp 17) ?_); refine wpList_store_row rfl 23 (.tmp 6) (.tmp 17) rfl p2 #[.int .i64 k, .int .i64 i, .int .i64 0] rfl rfl 23 #[.int .i64 0, .int .i64 0, .int .i64 0] bo2 size23 rfl (by simp [Value.oneCell']) ?_; rw [es4]))
    refine bodyPost_ret (res74 _ _ p2 #[.int .i64 k, .int .i64 i, .int .i64 0] (.bool true) rfl rfl b2 size23) rfl ?_
    exact ⟨rfl, kk⟩
  · have m2 := fun W => in_any i 0 (Z - 1) W
    have c0_ : thtB p i = false := by simpa using c0
    unfold thtP
    rw [c0_]
    rw [if_neg (by decide)]
    unfold thtB at c0_
    rw [eZ] at c0_
    rw [c0_] at m2
    clear c0 c0_ eZ
    have z1 : (-9223372036854775808 : Int) ≤ Z - 1 := by omega
    have z2 : Z - 1 ≤ 9223372036854775807 := by omega
    go_enter Tryd.func56, Tryd.ntmps56
    go_wp2_with (((with_reducible refine at_load 39 (.tmp 3) ?_); refine wpList_load_row rfl 39 (.tmp 3) rfl p1 rfl 39 p.cs.toArray (0, 0) _ b1 Tryd.underlying39 rfl size39 ?_))
    refine (d1 _).mono ?_
    rintro e W3 ⟨rfl, k1⟩
    replace b1 := b1.on k1
    replace b2 := b2.on k1
    replace kk := kk.trans (k1.mono kk.size)
    clear k1
    obtain ⟨W4, es4⟩ : ∃ W, W3.setRow p2 noP.cs.toArray = W := ⟨_, rfl⟩
    have bo2 := b2
    replace b1 := row_far b1 es4 (by omega)
    replace b2 : Blk W4 p2 23 noP.cs.toArray := row_named b2 es4
    replace kk := kk.trans (row_below es4 hp2 kk.size)
    go_wp2_with (first | (go_at_call 11; refine (m2 _).mono ?_; rintro e w' ⟨rfl, rfl⟩) | ((with_reducible refine at_store 23 (.tmp 6) (.tmp 14) ?_); refine wpList_store_row rfl 23 (.tmp 6) (.tmp 14) rfl p2 noP.cs.toArray rfl rfl 23 #[.int .i64 0, .int .i64 0, .int .i64 0] bo2 size23 rfl (Pl.onea _) ?_; rw [es4]))
    refine bodyPost_ret (res74 _ _ p2 noP.cs.toArray (.bool false) rfl rfl b2 size23) rfl ?_
    exact ⟨rfl, kk⟩
set_option maxRecDepth 100000 in
set_option maxHeartbeats 4000000 in
theorem reads_any (p : Pg) (hp : p.Ok) (m : Mi) (h6 : m.k ≠ 6) (w : World) : Calls Tryd.prog 46 #[.agg p.cs.toArray, .agg m.cs.toArray] w fun e w' => e = .returned (.tuple #[.agg (reaP p m).cs.toArray, .bool (reaB p m)]) ∧ Below w.heap.size w w' := by
  obtain ⟨Y, eY⟩ : ∃ Y, reaP p m = Y := ⟨_, rfl⟩
  obtain ⟨B, eB⟩ : ∃ B, reaB p m = B := ⟨_, rfl⟩
  rw [eY, eB]
  have hn := Pg.n63 hp
  obtain ⟨p1, f1⟩ : ∃ p, w.heap.size = p := ⟨_, rfl⟩
  obtain ⟨W1, ea1⟩ : ∃ W, w.alloc (.cells p.cs.toArray 39) = W := ⟨_, rfl⟩
  have ka1 : Below w.heap.size w W1 := by rw [← ea1]; exact (Below.refl _ w).alloc (Nat.le_refl _) _
  have b1 : Blk W1 p1 39 p.cs.toArray := by rw [← ea1]; exact blk_new w _ 39 _ f1
  have kk : Below w.heap.size w W1 := ka1
  have hp1 : w.heap.size ≤ p1 := Nat.le_of_eq f1
  clear ka1
  obtain ⟨p2, f2⟩ : ∃ p, W1.heap.size = p := ⟨_, rfl⟩
  obtain ⟨W2, ea2⟩ : ∃ W, W1.alloc (.cells m.cs.toArray 43) = W := ⟨_, rfl⟩
  have ka2 : Below W1.heap.size W1 W2 := by rw [← ea2]; exact (Below.refl _ W1).alloc (Nat.le_refl _) _
  have b2 : Blk W2 p2 43 m.cs.toArray := by rw [← ea2]; exact blk_new W1 _ 43 _ f2
  have q1_2 : p1 < p2 := by rw [← f2]; exact b1.lt
  replace b1 := b1.on ka2
  have kk0 := kk
  replace kk := kk.trans (ka2.mono kk.size)
  have hp2 : w.heap.size ≤ p2 := by rw [← f2]; exact kk0.size
  clear ka2 kk0
  obtain ⟨p3, f3⟩ : ∃ p, W2.heap.size = p := ⟨_, rfl⟩
  obtain ⟨W3, ea3⟩ : ∃ W, W2.alloc (.cells #[.int .i64 0, .int .i64 0, .int .i64 0] 23) = W := ⟨_, rfl⟩
  have ka3 : Below W2.heap.size W2 W3 := by rw [← ea3]; exact (Below.refl _ W2).alloc (Nat.le_refl _) _
  have b3 : Blk W3 p3 23 #[.int .i64 0, .int .i64 0, .int .i64 0] := by rw [← ea3]; exact blk_new W2 _ 23 _ f3
  have q1_3 : p1 < p3 := by rw [← f3]; exact b1.lt
  replace b1 := b1.on ka3
  have q2_3 : p2 < p3 := by rw [← f3]; exact b2.lt
  replace b2 := b2.on ka3
  have kk0 := kk
  replace kk := kk.trans (ka3.mono kk.size)
  have hp3 : w.heap.size ≤ p3 := by rw [← f3]; exact kk0.size
  clear ka3 kk0
  by_cases c2 : m.k = 2
  · unfold reaP at eY
    unfold reaB at eB
    have t2 : (m.k == 2) = true := by simpa using c2
    simp [c2] at eY eB
    subst eY eB
    clear c2
    have c3_2_0 : W3.cell? ⟨p2, 0, none⟩ = some (.int .i64 m.k) := b2.cell 0
    have c3_2_1 : W3.cell? ⟨p2, 1, none⟩ = some (.int .i64 m.i) := b2.cell 1
    have c3_1_3 : W3.cell? ⟨p1, 3, none⟩ = some (.slice p.co.A p.co.n p.co.cap) := b1.cell 3
    have c3_1_2 : W3.cell? ⟨p1, 2, none⟩ = some (.int .i64 p.s) := b1.cell 2
    go_enter Tryd.func46, Tryd.ntmps46
    have d2 := slot_any m.i p.co.n p.s
    generalize slotP m.i p.co.n p.s = y at *
    generalize slotB m.i p.co.n p.s = v at *
    go_wp2_with fail
    refine (d2 _).mono ?_
    rintro e W4 ⟨rfl, k1⟩
    clear c3_2_0 c3_2_1 c3_1_3 c3_1_2
    replace b1 := b1.on k1
    replace b2 := b2.on k1
    replace b3 := b3.on k1
    replace kk := kk.trans (k1.mono kk.size)
    clear k1
    obtain ⟨W5, es5⟩ : ∃ W, W4.setRow p3 y.cs.toArray = W := ⟨_, rfl⟩
    have bo3 := b3
    replace b1 := row_far b1 es5 (by omega)
    replace b2 := row_far b2 es5 (by omega)
    replace b3 : Blk W5 p3 23 y.cs.toArray := row_named b3 es5
    replace kk := kk.trans (row_below es5 hp3 kk.size)
    go_wp2_with (((with_reducible refine at_store 23 (.tmp 4) (.tmp 18) ?_); refine wpList_store_row rfl 23 (.tmp 4) (.tmp 18) rfl p3 y.cs.toArray rfl rfl 23 #[.int .i64 0, .int .i64 0, .int .i64 0] bo3 size23 rfl (Pl.onea _) ?_; rw [es5]))
    refine bodyPost_ret (res63 _ _ p3 y.cs.toArray (.bool v) rfl rfl b3 size23) rfl ?_
    exact ⟨rfl, kk⟩
  · by_cases c4 : m.k = 4
    · unfold reaP at eY
      unfold reaB at eB
      have t2 : (m.k == 2) = false := by simpa using c2
      have t4 : (m.k == 4) = true := by simpa using c4
      simp [c4] at eY eB
      subst eY eB
      clear c2 c4
      have c3_2_0 : W3.cell? ⟨p2, 0, none⟩ = some (.int .i64 m.k) := b2.cell 0
      have c3_2_1 : W3.cell? ⟨p2, 1, none⟩ = some (.int .i64 m.i) := b2.cell 1
      have c3_1_3 : W3.cell? ⟨p1, 3, none⟩ = some (.slice p.co.A p.co.n p.co.cap) := b1.cell 3
      have c3_1_2 : W3.cell? ⟨p1, 2, none⟩ = some (.int .i64 p.s) := b1.cell 2
      go_enter Tryd.func46, Tryd.ntmps46
      obtain ⟨W4, es4⟩ : ∃ W, W3.setRow p3 #[.int .i64 6, .int .i64 0, .int .i64 0] = W := ⟨_, rfl⟩
      have bo3 := b3
      replace b1 := row_far b1 es4 (by omega)
      replace b2 := row_far b2 es4 (by omega)
      replace b3 : Blk W4 p3 23 #[.int .i64 6, .int .i64 0, .int .i64 0] := row_named b3 es4
      replace kk := kk.trans (row_below es4 hp3 kk.size)
      go_wp2_with (((with_reducible refine at_store 23 (.tmp 4) (.tmp 23) ?_); refine wpList_store_row rfl 23 (.tmp 4) (.tmp 23) rfl p3 #[.int .i64 6, .int .i64 0, .int .i64 0] rfl rfl 23 #[.int .i64 0, .int .i64 0, .int .i64 0] bo3 size23 rfl (by simp [Value.oneCell']) ?_; rw [es4]))
      refine bodyPost_ret (res63 _ _ p3 #[.int .i64 6, .int .i64 0, .int .i64 0] (.bool true) rfl rfl b3 size23) rfl ?_
      exact ⟨rfl, kk⟩
    · by_cases c5 : m.k = 5
      · unfold reaP at eY
        unfold reaB at eB
        have t2 : (m.k == 2) = false := by simpa using c2
        have t4 : (m.k == 4) = false := by simpa using c4
        have t5 : (m.k == 5) = true := by simpa using c5
        simp [c5] at eY eB
        subst eY eB
        have t6 : (m.k == 6) = false := by rw [c5]; rfl
        clear c2 c4 c5
        have c3_2_0 : W3.cell? ⟨p2, 0, none⟩ = some (.int .i64 m.k) := b2.cell 0
        have c3_2_1 : W3.cell? ⟨p2, 1, none⟩ = some (.int .i64 m.i) := b2.cell 1
        have c3_1_3 : W3.cell? ⟨p1, 3, none⟩ = some (.slice p.co.A p.co.n p.co.cap) := b1.cell 3
        have c3_1_2 : W3.cell? ⟨p1, 2, none⟩ = some (.int .i64 p.s) := b1.cell 2
        go_enter Tryd.func46, Tryd.ntmps46
        have d2 := fun W => ofthread_any p hp 7 m.i W
        generalize thtP p 7 m.i = y at *
        generalize thtB p m.i = v at *
        go_wp2_with (((with_reducible refine at_load 39 (.tmp 2) ?_); refine wpList_load_row rfl 39 (.tmp 2) rfl p1 rfl 39 p.cs.toArray (0, 0) _ b1 Tryd.underlying39 rfl size39 ?_))
        refine (d2 _).mono ?_
        rintro e W4 ⟨rfl, k1⟩
        clear c3_2_0 c3_2_1 c3_1_3 c3_1_2
        replace b1 := b1.on k1
        replace b2 := b2.on k1
        replace b3 := b3.on k1
        replace kk := kk.trans (k1.mono kk.size)
        clear k1
        obtain ⟨W5, es5⟩ : ∃ W, W4.setRow p3 y.cs.toArray = W := ⟨_, rfl⟩
        have bo3 := b3
        replace b1 := row_far b1 es5 (by omega)
        replace b2 := row_far b2 es5 (by omega)
        replace b3 : Blk W5 p3 23 y.cs.toArray := row_named b3 es5
        replace kk := kk.trans (row_below es5 hp3 kk.size)
        go_wp2_with (((with_reducible refine at_store 23 (.tmp 4) (.tmp 30) ?_); refine wpList_store_row rfl 23 (.tmp 4) (.tmp 30) rfl p3 y.cs.toArray rfl rfl 23 #[.int .i64 0, .int .i64 0, .int .i64 0] bo3 size23 rfl (Pl.onea _) ?_; rw [es5]))
        refine bodyPost_ret (res63 _ _ p3 y.cs.toArray (.bool v) rfl rfl b3 size23) rfl ?_
        exact ⟨rfl, kk⟩
      · by_cases c7 : m.k = 7
        · unfold reaP at eY
          unfold reaB at eB
          have t2 : (m.k == 2) = false := by simpa using c2
          have t4 : (m.k == 4) = false := by simpa using c4
          have t5 : (m.k == 5) = false := by simpa using c5
          have t7 : (m.k == 7) = true := by simpa using c7
          simp [c7] at eY eB
          subst eY eB
          have t6 : (m.k == 6) = false := by rw [c7]; rfl
          clear c2 c4 c5 c7
          have c3_2_0 : W3.cell? ⟨p2, 0, none⟩ = some (.int .i64 m.k) := b2.cell 0
          have c3_2_1 : W3.cell? ⟨p2, 1, none⟩ = some (.int .i64 m.i) := b2.cell 1
          have c3_1_3 : W3.cell? ⟨p1, 3, none⟩ = some (.slice p.co.A p.co.n p.co.cap) := b1.cell 3
          have c3_1_2 : W3.cell? ⟨p1, 2, none⟩ = some (.int .i64 p.s) := b1.cell 2
          go_enter Tryd.func46, Tryd.ntmps46
          have d2 := fun W => ofthread_any p hp 8 m.i W
          generalize thtP p 8 m.i = y at *
          generalize thtB p m.i = v at *
          go_wp2_with (((with_reducible refine at_load 39 (.tmp 2) ?_); refine wpList_load_row rfl 39 (.tmp 2) rfl p1 rfl 39 p.cs.toArray (0, 0) _ b1 Tryd.underlying39 rfl size39 ?_))
          refine (d2 _).mono ?_
          rintro e W4 ⟨rfl, k1⟩
          clear c3_2_0 c3_2_1 c3_1_3 c3_1_2
          replace b1 := b1.on k1
          replace b2 := b2.on k1
          replace b3 := b3.on k1
          replace kk := kk.trans (k1.mono kk.size)
          clear k1
          obtain ⟨W5, es5⟩ : ∃ W, W4.setRow p3 y.cs.toArray = W := ⟨_, rfl⟩
          have bo3 := b3
          replace b1 := row_far b1 es5 (by omega)
          replace b2 := row_far b2 es5 (by omega)
          replace b3 : Blk W5 p3 23 y.cs.toArray := row_named b3 es5
          replace kk := kk.trans (row_below es5 hp3 kk.size)
          go_wp2_with (((with_reducible refine at_store 23 (.tmp 4) (.tmp 39) ?_); refine wpList_store_row rfl 23 (.tmp 4) (.tmp 39) rfl p3 y.cs.toArray rfl rfl 23 #[.int .i64 0, .int .i64 0, .int .i64 0] bo3 size23 rfl (Pl.onea _) ?_; rw [es5]))
          refine bodyPost_ret (res63 _ _ p3 y.cs.toArray (.bool v) rfl rfl b3 size23) rfl ?_
          exact ⟨rfl, kk⟩
        · by_cases c8 : m.k = 8
          · unfold reaP at eY
            unfold reaB at eB
            have t2 : (m.k == 2) = false := by simpa using c2
            have t4 : (m.k == 4) = false := by simpa using c4
            have t5 : (m.k == 5) = false := by simpa using c5
            have t7 : (m.k == 7) = false := by simpa using c7
            have t8 : (m.k == 8) = true := by simpa using c8
            simp [c8] at eY eB
            subst eY eB
            have t6 : (m.k == 6) = false := by rw [c8]; rfl
            clear c2 c4 c5 c7 c8
            have c3_2_0 : W3.cell? ⟨p2, 0, none⟩ = some (.int .i64 m.k) := b2.cell 0
            have c3_2_1 : W3.cell? ⟨p2, 1, none⟩ = some (.int .i64 m.i) := b2.cell 1
            have c3_1_3 : W3.cell? ⟨p1, 3, none⟩ = some (.slice p.co.A p.co.n p.co.cap) := b1.cell 3
            have c3_1_2 : W3.cell? ⟨p1, 2, none⟩ = some (.int .i64 p.s) := b1.cell 2
            go_enter Tryd.func46, Tryd.ntmps46
            have d2 := fun W => ofthread_any p hp 8 m.i W
            generalize thtP p 8 m.i = y at *
            generalize thtB p m.i = v at *
            go_wp2_with (((with_reducible refine at_load 39 (.tmp 2) ?_); refine wpList_load_row rfl 39 (.tmp 2) rfl p1 rfl 39 p.cs.toArray (0, 0) _ b1 Tryd.underlying39 rfl size39 ?_))
            refine (d2 _).mono ?_
            rintro e W4 ⟨rfl, k1⟩
            clear c3_2_0 c3_2_1 c3_1_3 c3_1_2
            replace b1 := b1.on k1
            replace b2 := b2.on k1
            replace b3 := b3.on k1
            replace kk := kk.trans (k1.mono kk.size)
            clear k1
            obtain ⟨W5, es5⟩ : ∃ W, W4.setRow p3 y.cs.toArray = W := ⟨_, rfl⟩
            have bo3 := b3
            replace b1 := row_far b1 es5 (by omega)
            replace b2 := row_far b2 es5 (by omega)
            replace b3 : Blk W5 p3 23 y.cs.toArray := row_named b3 es5
            replace kk := kk.trans (row_below es5 hp3 kk.size)
            go_wp2_with (((with_reducible refine at_store 23 (.tmp 4) (.tmp 39) ?_); refine wpList_store_row rfl 23 (.tmp 4) (.tmp 39) rfl p3 y.cs.toArray rfl rfl 23 #[.int .i64 0, .int .i64 0, .int .i64 0] bo3 size23 rfl (Pl.onea _) ?_; rw [es5]))
            refine bodyPost_ret (res63 _ _ p3 y.cs.toArray (.bool v) rfl rfl b3 size23) rfl ?_
            exact ⟨rfl, kk⟩
          · unfold reaP at eY
            unfold reaB at eB
            have t2 : (m.k == 2) = false := by simpa using c2
            have t4 : (m.k == 4) = false := by simpa using c4
            have t5 : (m.k == 5) = false := by simpa using c5
            have t7 : (m.k == 7) = false := by simpa using c7
            have t8 : (m.k == 8) = false := by simpa using c8
            simp [c2, c4, c5, c7, c8, h6] at eY eB
            subst eY eB
            have t6 : (m.k == 6) = false := by simpa using h6
            clear c2 c4 c5 c7 c8
            have c3_2_0 : W3.cell? ⟨p2, 0, none⟩ = some (.int .i64 m.k) := b2.cell 0
            have c3_2_1 : W3.cell? ⟨p2, 1, none⟩ = some (.int .i64 m.i) := b2.cell 1
            have c3_1_3 : W3.cell? ⟨p1, 3, none⟩ = some (.slice p.co.A p.co.n p.co.cap) := b1.cell 3
            have c3_1_2 : W3.cell? ⟨p1, 2, none⟩ = some (.int .i64 p.s) := b1.cell 2
            go_enter Tryd.func46, Tryd.ntmps46
            obtain ⟨W4, es4⟩ : ∃ W, W3.setRow p3 noP.cs.toArray = W := ⟨_, rfl⟩
            have bo3 := b3
            replace b1 := row_far b1 es4 (by omega)
            replace b2 := row_far b2 es4 (by omega)
            replace b3 : Blk W4 p3 23 noP.cs.toArray := row_named b3 es4
            replace kk := kk.trans (row_below es4 hp3 kk.size)
            go_wp2_with (((with_reducible refine at_store 23 (.tmp 4) (.tmp 41) ?_); refine wpList_store_row rfl 23 (.tmp 4) (.tmp 41) rfl p3 noP.cs.toArray rfl rfl 23 #[.int .i64 0, .int .i64 0, .int .i64 0] bo3 size23 rfl (Pl.onea _) ?_; rw [es4]))
            refine bodyPost_ret (res63 _ _ p3 noP.cs.toArray (.bool false) rfl rfl b3 size23) rfl ?_
            exact ⟨rfl, kk⟩
end Go.Proofs.YtfadfdfpocpelaaDoor
