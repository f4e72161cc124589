/- What the statements' small trial calls: a guard seen, the place of one, how many steps there may be. Conditions: as each states. -/
import Derived.Test.YtllcgidachbnlaaRelease
import Derived.Deep.RegionHeld3
namespace Go.Proofs.Ytllcgidachbnlaa
open Go.RowKit Go.ChangeShapes Go.WideShapes Go.Great

/-- A list of numbers of the call's own. -/
def OwnI (B : Nat) (w : World) (A : Option Addr) (n c : Nat) (l : List Int) : Prop := w.ownsRow B 2 1 (.slice A n c) n (ints l)
theorem OwnI.on {B : Nat} {w w' : World} {A : Option Addr} {n c : Nat} {l : List Int} (h : OwnI B w A n c l) (hb : Below w.heap.size w w') : OwnI B w' A n c l := ownB_below h hb
/-- The micro behind a slot. -/
def nextM (m b : Mi) (q : Int) : Mi := if q - 1 ≤ m.i then b else { m with i := m.i + 1 }
set_option maxRecDepth 100000 in
set_option maxHeartbeats 4000000 in
theorem two_any (w : World) : Calls Try.prog 17 #[] w fun e w' => ∃ A, e = .returned (.agg (Pg.cs ⟨0, 0, 1, ⟨A, 2, 2⟩⟩).toArray) ∧ Below w.heap.size w w' := by
  obtain ⟨p1, f1⟩ : ∃ p, w.heap.size = p := ⟨_, rfl⟩
  obtain ⟨W1, ea1⟩ : ∃ W, w.alloc (.cells #[.int .i64 0, .int .i64 0, .int .i64 0, .slice none 0 0] 24) = W := ⟨_, rfl⟩
  have ka1 : Below w.heap.size w W1 := by rw [← ea1]; exact (Below.refl _ w).alloc (Nat.le_refl _) _
  have b1 : Blk W1 p1 24 #[.int .i64 0, .int .i64 0, .int .i64 0, .slice none 0 0] := by rw [← ea1]; exact blk_new w _ 24 _ f1
  have kk : Below w.heap.size w W1 := ka1
  have hp1 : w.heap.size ≤ p1 := Nat.le_of_eq f1
  clear ka1
  obtain ⟨p2, f2⟩ : ∃ p, W1.heap.size = p := ⟨_, rfl⟩
  obtain ⟨W2, ea2⟩ : ∃ W, W1.alloc (.cells #[] 139) = W := ⟨_, rfl⟩
  have ka2 : Below W1.heap.size W1 W2 := by rw [← ea2]; exact (Below.refl _ W1).alloc (Nat.le_refl _) _
  have b2 : Blk W2 p2 139 #[] := by rw [← ea2]; exact blk_new W1 _ 139 _ f2
  have q1_2 : p1 < p2 := by rw [← f2]; exact b1.lt
  replace b1 := b1.on ka2
  have kk0 := kk
  replace kk := kk.trans (ka2.mono kk.size)
  have hp2 : w.heap.size ≤ p2 := by rw [← f2]; exact kk0.size
  clear ka2 kk0
  obtain ⟨p3, f3⟩ : ∃ p, W2.heap.size = p := ⟨_, rfl⟩
  obtain ⟨W3, ea3⟩ : ∃ W, W2.alloc (.cells #[] 139) = W := ⟨_, rfl⟩
  have ka3 : Below W2.heap.size W2 W3 := by rw [← ea3]; exact (Below.refl _ W2).alloc (Nat.le_refl _) _
  have b3 : Blk W3 p3 139 #[] := by rw [← ea3]; exact blk_new W2 _ 139 _ f3
  have q1_3 : p1 < p3 := by rw [← f3]; exact b1.lt
  replace b1 := b1.on ka3
  have q2_3 : p2 < p3 := by rw [← f3]; exact b2.lt
  replace b2 := b2.on ka3
  have kk0 := kk
  replace kk := kk.trans (ka3.mono kk.size)
  have hp3 : w.heap.size ≤ p3 := by rw [← f3]; exact kk0.size
  clear ka3 kk0
  obtain ⟨p4, f4⟩ : ∃ p, W3.heap.size = p := ⟨_, rfl⟩
  obtain ⟨W4, ea4⟩ : ∃ W, W3.alloc (.cells #[.slice (some ⟨p2, 0, none⟩) 0 0, .slice (some ⟨p3, 0, none⟩) 0 0] 65) = W := ⟨_, rfl⟩
  have ka4 : Below W3.heap.size W3 W4 := by rw [← ea4]; exact (Below.refl _ W3).alloc (Nat.le_refl _) _
  have b4 : Blk W4 p4 65 #[.slice (some ⟨p2, 0, none⟩) 0 0, .slice (some ⟨p3, 0, none⟩) 0 0] := by rw [← ea4]; exact blk_new W3 _ 65 _ f4
  have q1_4 : p1 < p4 := by rw [← f4]; exact b1.lt
  replace b1 := b1.on ka4
  have q2_4 : p2 < p4 := by rw [← f4]; exact b2.lt
  replace b2 := b2.on ka4
  have q3_4 : p3 < p4 := by rw [← f4]; exact b3.lt
  replace b3 := b3.on ka4
  have kk0 := kk
  replace kk := kk.trans (ka4.mono kk.size)
  have hp4 : w.heap.size ≤ p4 := by rw [← f4]; exact kk0.size
  clear ka4 kk0
  obtain ⟨W5, es5⟩ : ∃ W, W4.setRow p1 (Pg.cs ⟨0, 0, 1, ⟨some ⟨p4, 0, none⟩, 2, 2⟩⟩).toArray = W := ⟨_, rfl⟩
  have bo1 := b1
  replace b2 := row_far b2 es5 (by omega)
  replace b3 := row_far b3 es5 (by omega)
  replace b4 := row_far b4 es5 (by omega)
  replace b1 : Blk W5 p1 24 (Pg.cs ⟨0, 0, 1, ⟨some ⟨p4, 0, none⟩, 2, 2⟩⟩).toArray := row_named b1 es5
  replace kk := kk.trans (row_below es5 hp1 kk.size)
  go_enter Try.func17, Try.ntmps17
  go_wp2_with (((with_reducible refine at_store 24 (.tmp 0) (.tmp 4) ?_); refine wpList_store_row rfl 24 (.tmp 0) (.tmp 4) rfl p1 (Pg.cs ⟨0, 0, 1, ⟨some ⟨p4, 0, none⟩, 2, 2⟩⟩).toArray rfl rfl 24 #[.int .i64 0, .int .i64 0, .int .i64 0, .slice none 0 0] bo1 size24 rfl (Pg.onea _) ?_))
  try rw [es5]
  refine bodyPost_ret (results_cell_row (cs := (Pg.cs ⟨0, 0, 1, ⟨some ⟨p4, 0, none⟩, 2, 2⟩⟩).toArray) rfl _ _ p1 24 (0, 0) _ rfl b1 Try.underlying24 rfl size24) rfl ?_
  first | exact ⟨_, rfl, kk⟩ | (rw [f1] at kk; exact ⟨_, rfl, kk⟩)
set_option maxRecDepth 100000 in
set_option maxHeartbeats 4000000 in
theorem next_any (m b : Mi) (hmw : Wide m.i) (q : Int) (hq : 1 ≤ q) (hq8 : q ≤ 8) (w : World) : Calls Try.prog 51 #[.agg m.cs.toArray, .int .i64 q, .agg b.cs.toArray] w fun e w' => e = .returned (.agg (nextM m b q).cs.toArray) ∧ Below w.heap.size w w' := by
  obtain ⟨p1, f1⟩ : ∃ p, w.heap.size = p := ⟨_, rfl⟩
  obtain ⟨W1, ea1⟩ : ∃ W, w.alloc (.cells m.cs.toArray 32) = W := ⟨_, rfl⟩
  have ka1 : Below w.heap.size w W1 := by rw [← ea1]; exact (Below.refl _ w).alloc (Nat.le_refl _) _
  have b1 : Blk W1 p1 32 m.cs.toArray := by rw [← ea1]; exact blk_new w _ 32 _ f1
  have kk : Below w.heap.size w W1 := ka1
  have hp1 : w.heap.size ≤ p1 := Nat.le_of_eq f1
  clear ka1
  obtain ⟨p2, f2⟩ : ∃ p, W1.heap.size = p := ⟨_, rfl⟩
  obtain ⟨W2, ea2⟩ : ∃ W, W1.alloc (.cells b.cs.toArray 32) = W := ⟨_, rfl⟩
  have ka2 : Below W1.heap.size W1 W2 := by rw [← ea2]; exact (Below.refl _ W1).alloc (Nat.le_refl _) _
  have b2 : Blk W2 p2 32 b.cs.toArray := by rw [← ea2]; exact blk_new W1 _ 32 _ f2
  have q1_2 : p1 < p2 := by rw [← f2]; exact b1.lt
  replace b1 := b1.on ka2
  have kk0 := kk
  replace kk := kk.trans (ka2.mono kk.size)
  have hp2 : w.heap.size ≤ p2 := by rw [← f2]; exact kk0.size
  clear ka2 kk0
  obtain ⟨p3, f3⟩ : ∃ p, W2.heap.size = p := ⟨_, rfl⟩
  obtain ⟨W3, ea3⟩ : ∃ W, W2.alloc (.cells #[.int .i64 0, .int .i64 0, .int .i64 0, .slice none 0 0] 32) = W := ⟨_, rfl⟩
  have ka3 : Below W2.heap.size W2 W3 := by rw [← ea3]; exact (Below.refl _ W2).alloc (Nat.le_refl _) _
  have b3 : Blk W3 p3 32 #[.int .i64 0, .int .i64 0, .int .i64 0, .slice none 0 0] := by rw [← ea3]; exact blk_new W2 _ 32 _ f3
  have q1_3 : p1 < p3 := by rw [← f3]; exact b1.lt
  replace b1 := b1.on ka3
  have q2_3 : p2 < p3 := by rw [← f3]; exact b2.lt
  replace b2 := b2.on ka3
  have kk0 := kk
  replace kk := kk.trans (ka3.mono kk.size)
  have hp3 : w.heap.size ≤ p3 := by rw [← f3]; exact kk0.size
  clear ka3 kk0
  unfold nextM
  have hq1 : (-9223372036854775808 : Int) ≤ q - 1 := by omega
  have hq2 : q - 1 ≤ 9223372036854775807 := by omega
  by_cases hm : q - 1 ≤ m.i
  · rw [if_pos hm]
    have t1 : decide (q - 1 ≤ m.i) = true := decide_eq_true hm
    have c3_1_1 : W3.cell? ⟨p1, 1, none⟩ = some (.int .i64 m.i) := b1.cell 1
    have fr3_1_1 := b1.free 1
    have lb := b2
    obtain ⟨W4, es4⟩ : ∃ W, W3.setRow p3 b.cs.toArray = W := ⟨_, rfl⟩
    have bo3 := b3
    replace b1 := row_far b1 es4 (by omega)
    replace b2 := row_far b2 es4 (by omega)
    replace b3 : Blk W4 p3 32 b.cs.toArray := row_named b3 es4
    replace kk := kk.trans (row_below es4 hp3 kk.size)
    go_enter Try.func51, Try.ntmps51
    go_wp2_with (first | ((with_reducible refine at_load 32 (.tmp 5) ?_); refine wpList_load_row rfl 32 (.tmp 5) rfl p2 rfl 32 b.cs.toArray (0, 0) _ lb Try.underlying32 rfl size32 ?_) | ((with_reducible refine at_store 32 (.tmp 6) (.tmp 12) ?_); refine wpList_store_row rfl 32 (.tmp 6) (.tmp 12) rfl p3 b.cs.toArray rfl rfl 32 #[.int .i64 0, .int .i64 0, .int .i64 0, .slice none 0 0] bo3 size32 rfl (Mi.onea _) ?_))
    try rw [es4]
    refine bodyPost_ret (results_cell_row (cs := b.cs.toArray) rfl _ _ p3 32 (0, 0) _ rfl b3 Try.underlying32 rfl size32) rfl ?_
    first | exact ⟨rfl, kk⟩ | (rw [f1] at kk; exact ⟨rfl, kk⟩)
  · rw [if_neg hm]
    have t1 : decide (q - 1 ≤ m.i) = false := decide_eq_false hm
    have c3_1_1 : W3.cell? ⟨p1, 1, none⟩ = some (.int .i64 m.i) := b1.cell 1
    have fr3_1_1 := b1.free 1
    obtain ⟨W4, es4⟩ : ∃ W, W3.setCell ⟨p1, 1, none⟩ (.int .i64 (m.i + 1)) = W := ⟨_, rfl⟩
    replace b2 := set_far b2 es4 (by omega)
    replace b3 := set_far b3 es4 (by omega)
    replace b1 : Blk W4 p1 32 ({ m with i := m.i + 1 } : Mi).cs.toArray := set_named b1 es4 rfl
    replace kk := kk.trans (set_below es4 hp1 kk.size)
    have lb := b1
    obtain ⟨W5, es5⟩ : ∃ W, W4.setRow p3 ({ m with i := m.i + 1 } : Mi).cs.toArray = W := ⟨_, rfl⟩
    have bo3 := b3
    replace b1 := row_far b1 es5 (by omega)
    replace b2 := row_far b2 es5 (by omega)
    replace b3 : Blk W5 p3 32 ({ m with i := m.i + 1 } : Mi).cs.toArray := row_named b3 es5
    replace kk := kk.trans (row_below es5 hp3 kk.size)
    have hi2 : m.i + 1 ≤ 9223372036854775807 := by omega
    have hi1 : (-9223372036854775808 : Int) ≤ m.i + 1 := by have := hmw.1; omega
    go_enter Try.func51, Try.ntmps51
    go_wp2_with (first | ((with_reducible refine at_load 32 (.tmp 3) ?_); refine wpList_load_row rfl 32 (.tmp 3) rfl p1 rfl 32 ({ m with i := m.i + 1 } : Mi).cs.toArray (0, 0) _ lb Try.underlying32 rfl size32 ?_) | ((with_reducible refine at_store 32 (.tmp 6) (.tmp 17) ?_); refine wpList_store_row rfl 32 (.tmp 6) (.tmp 17) rfl p3 ({ m with i := m.i + 1 } : Mi).cs.toArray rfl rfl 32 #[.int .i64 0, .int .i64 0, .int .i64 0, .slice none 0 0] bo3 size32 rfl (Mi.onea _) ?_))
    try rw [es5]
    refine bodyPost_ret (results_cell_row (cs := ({ m with i := m.i + 1 } : Mi).cs.toArray) rfl _ _ p3 32 (0, 0) _ rfl b3 Try.underlying32 rfl size32) rfl ?_
    first | exact ⟨rfl, kk⟩ | (rw [f1] at kk; exact ⟨rfl, kk⟩)
set_option maxRecDepth 100000 in
set_option maxHeartbeats 4000000 in
theorem factor_any (p : Pg) (c : Cf) (hp : p.Ok) (hc : c.c = 1) (w : World) : Calls Try.prog 20 #[.agg p.cs.toArray, .agg c.cs.toArray] w fun e w' => e = .returned (.int .i64 (2 + sloZ p)) ∧ Below w.heap.size w w' := by
  obtain ⟨p1, f1⟩ : ∃ p, w.heap.size = p := ⟨_, rfl⟩
  obtain ⟨W1, ea1⟩ : ∃ W, w.alloc (.cells p.cs.toArray 24) = W := ⟨_, rfl⟩
  have ka1 : Below w.heap.size w W1 := by rw [← ea1]; exact (Below.refl _ w).alloc (Nat.le_refl _) _
  have b1 : Blk W1 p1 24 p.cs.toArray := by rw [← ea1]; exact blk_new w _ 24 _ f1
  have kk : Below w.heap.size w W1 := ka1
  have hp1 : w.heap.size ≤ p1 := Nat.le_of_eq f1
  clear ka1
  obtain ⟨p2, f2⟩ : ∃ p, W1.heap.size = p := ⟨_, rfl⟩
  obtain ⟨W2, ea2⟩ : ∃ W, W1.alloc (.cells c.cs.toArray 26) = W := ⟨_, rfl⟩
  have ka2 : Below W1.heap.size W1 W2 := by rw [← ea2]; exact (Below.refl _ W1).alloc (Nat.le_refl _) _
  have b2 : Blk W2 p2 26 c.cs.toArray := by rw [← ea2]; exact blk_new W1 _ 26 _ f2
  have q1_2 : p1 < p2 := by rw [← f2]; exact b1.lt
  replace b1 := b1.on ka2
  have kk0 := kk
  replace kk := kk.trans (ka2.mono kk.size)
  have hp2 : w.heap.size ≤ p2 := by rw [← f2]; exact kk0.size
  clear ka2 kk0
  have c2_2_0 : W2.cell? ⟨p2, 0, none⟩ = some (.int .i64 c.c) := b2.cell 0
  have d1 := slots_any p hp W2
  obtain ⟨m0, m8⟩ := all_of p.co.n p.s
  have m0 : 0 ≤ sloZ p := m0
  have m8 : sloZ p ≤ 8 := m8
  generalize sloZ p = M at *
  have t8 : (-9223372036854775808 : Int) ≤ 2 + M := by omega
  have t9 : 2 + M ≤ 9223372036854775807 := by omega
  go_enter Try.func20, Try.ntmps20
  go_wp2_with (((with_reducible refine at_load 24 (.tmp 2) ?_); refine wpList_load_row rfl 24 (.tmp 2) rfl p1 rfl 24 p.cs.toArray (0, 0) _ b1 Try.underlying24 rfl size24 ?_))
  refine (d1).mono ?_
  rintro e W3 ⟨rfl, k1⟩
  clear c2_2_0
  replace b1 := b1.on k1
  replace b2 := b2.on k1
  replace kk := kk.trans (k1.mono kk.size)
  clear k1
  go_wp2
  go_ret
  first | exact ⟨rfl, kk⟩ | (rw [f1] at kk; exact ⟨rfl, kk⟩)
theorem resCT {fn : Func} {a p : Tmp} (h : fn.results = #[.cell p 52, .tmp a]) (tmps : Array Value) (w : World) (g : Nat) (y : Pl) (u : Value)
    (hp : tmps[p]?.getD undef = .pointer (some ⟨g, 0, none⟩)) (hu : tmps[a]?.getD undef = u) (hg : Blk w g 52 y.cs.toArray) :
    (results fn tmps).run Try.prog w = .ok (.tuple #[.agg y.cs.toArray, u]) w := by
  have hl := run_loadVar_row w g 52 52 y.cs.toArray (0, 0) _ hg Try.underlying52 rfl size52
  simp [results, h, hu, hp, asAddr, Result.andThen, hl]
set_option maxRecDepth 100000 in
set_option maxHeartbeats 4000000 in
theorem reads_any (p : Pg) (m : Mi) (hp : p.Ok) (hm : m.k = 2) (w : World) : Calls Try.prog 18 #[.agg p.cs.toArray, .agg m.cs.toArray] w fun e w' => e = .returned (.tuple #[.agg (slotP m.i p.co.n p.s).cs.toArray, .bool (slotB m.i p.co.n p.s)]) ∧ Below w.heap.size w w' := by
  obtain ⟨p1, f1⟩ : ∃ p, w.heap.size = p := ⟨_, rfl⟩
  obtain ⟨W1, ea1⟩ : ∃ W, w.alloc (.cells p.cs.toArray 24) = W := ⟨_, rfl⟩
  have ka1 : Below w.heap.size w W1 := by rw [← ea1]; exact (Below.refl _ w).alloc (Nat.le_refl _) _
  have b1 : Blk W1 p1 24 p.cs.toArray := by rw [← ea1]; exact blk_new w _ 24 _ f1
  have kk : Below w.heap.size w W1 := ka1
  have hp1 : w.heap.size ≤ p1 := Nat.le_of_eq f1
  clear ka1
  obtain ⟨p2, f2⟩ : ∃ p, W1.heap.size = p := ⟨_, rfl⟩
  obtain ⟨W2, ea2⟩ : ∃ W, W1.alloc (.cells m.cs.toArray 32) = W := ⟨_, rfl⟩
  have ka2 : Below W1.heap.size W1 W2 := by rw [← ea2]; exact (Below.refl _ W1).alloc (Nat.le_refl _) _
  have b2 : Blk W2 p2 32 m.cs.toArray := by rw [← ea2]; exact blk_new W1 _ 32 _ f2
  have q1_2 : p1 < p2 := by rw [← f2]; exact b1.lt
  replace b1 := b1.on ka2
  have kk0 := kk
  replace kk := kk.trans (ka2.mono kk.size)
  have hp2 : w.heap.size ≤ p2 := by rw [← f2]; exact kk0.size
  clear ka2 kk0
  obtain ⟨p3, f3⟩ : ∃ p, W2.heap.size = p := ⟨_, rfl⟩
  obtain ⟨W3, ea3⟩ : ∃ W, W2.alloc (.cells #[.int .i64 0, .int .i64 0, .int .i64 0] 52) = W := ⟨_, rfl⟩
  have ka3 : Below W2.heap.size W2 W3 := by rw [← ea3]; exact (Below.refl _ W2).alloc (Nat.le_refl _) _
  have b3 : Blk W3 p3 52 #[.int .i64 0, .int .i64 0, .int .i64 0] := by rw [← ea3]; exact blk_new W2 _ 52 _ f3
  have q1_3 : p1 < p3 := by rw [← f3]; exact b1.lt
  replace b1 := b1.on ka3
  have q2_3 : p2 < p3 := by rw [← f3]; exact b2.lt
  replace b2 := b2.on ka3
  have kk0 := kk
  replace kk := kk.trans (ka3.mono kk.size)
  have hp3 : w.heap.size ≤ p3 := by rw [← f3]; exact kk0.size
  clear ka3 kk0
  have c3_1_2 : W3.cell? ⟨p1, 2, none⟩ = some (.int .i64 p.s) := b1.cell 2
  have c3_1_3 : W3.cell? ⟨p1, 3, none⟩ = some (.slice p.co.A p.co.n p.co.cap) := b1.cell 3
  have c3_2_0 : W3.cell? ⟨p2, 0, none⟩ = some (.int .i64 m.k) := b2.cell 0
  have c3_2_1 : W3.cell? ⟨p2, 1, none⟩ = some (.int .i64 m.i) := b2.cell 1
  have hn := Pg.n63 hp
  have d1 := slot_any m.i p.co.n p.s W3
  generalize slotP m.i p.co.n p.s = y at *
  generalize slotB m.i p.co.n p.s = v at *
  go_enter Try.func18, Try.ntmps18
  go_wp2_with fail
  refine (d1).mono ?_
  rintro e W4 ⟨rfl, k1⟩
  clear c3_1_2 c3_1_3 c3_2_0 c3_2_1
  replace b1 := b1.on k1
  replace b2 := b2.on k1
  replace b3 := b3.on k1
  replace kk := kk.trans (k1.mono kk.size)
  clear k1
  obtain ⟨W5, es5⟩ : ∃ W, W4.setRow p3 y.cs.toArray = W := ⟨_, rfl⟩
  have bo3 := b3
  replace b1 := row_far b1 es5 (by omega)
  replace b2 := row_far b2 es5 (by omega)
  replace b3 : Blk W5 p3 52 y.cs.toArray := row_named b3 es5
  replace kk := kk.trans (row_below es5 hp3 kk.size)
  go_wp2_with (((with_reducible refine at_store 52 (.tmp 4) (.tmp 18) ?_); refine wpList_store_row rfl 52 (.tmp 4) (.tmp 18) rfl p3 y.cs.toArray rfl rfl 52 #[.int .i64 0, .int .i64 0, .int .i64 0] bo3 size52 rfl (Pl.onea _) ?_; rw [es5]))
  refine bodyPost_ret (resCT rfl _ _ p3 y (.bool v) rfl rfl b3) rfl ?_
  first | exact ⟨rfl, kk⟩ | (rw [f1] at kk; exact ⟨rfl, kk⟩)
theorem wrap_id {n : Int} (h1 : (-9223372036854775808 : Int) ≤ n) (h2 : n ≤ 9223372036854775807) : IntKind.i64.wrap n = n := by rw [IntKind.wrap_i64]; omega
set_option maxRecDepth 100000 in
set_option maxHeartbeats 4000000 in
theorem bound_any (p : Pg) (c : Cf) (hp : p.Ok) (hc : c.c = 1) (hf : 0 ≤ c.f ∧ c.f ≤ 16) (w : World) : Calls Try.prog 21 #[.agg p.cs.toArray, .agg c.cs.toArray] w fun e w' => e = .returned (.int .i64 (2 * thrZ p * c.f * (2 + sloZ p))) ∧ Below w.heap.size w w' := by
  obtain ⟨p1, f1⟩ : ∃ p, w.heap.size = p := ⟨_, rfl⟩
  obtain ⟨W1, ea1⟩ : ∃ W, w.alloc (.cells p.cs.toArray 24) = W := ⟨_, rfl⟩
  have ka1 : Below w.heap.size w W1 := by rw [← ea1]; exact (Below.refl _ w).alloc (Nat.le_refl _) _
  have b1 : Blk W1 p1 24 p.cs.toArray := by rw [← ea1]; exact blk_new w _ 24 _ f1
  have kk : Below w.heap.size w W1 := ka1
  have hp1 : w.heap.size ≤ p1 := Nat.le_of_eq f1
  clear ka1
  obtain ⟨p2, f2⟩ : ∃ p, W1.heap.size = p := ⟨_, rfl⟩
  obtain ⟨W2, ea2⟩ : ∃ W, W1.alloc (.cells c.cs.toArray 26) = W := ⟨_, rfl⟩
  have ka2 : Below W1.heap.size W1 W2 := by rw [← ea2]; exact (Below.refl _ W1).alloc (Nat.le_refl _) _
  have b2 : Blk W2 p2 26 c.cs.toArray := by rw [← ea2]; exact blk_new W1 _ 26 _ f2
  have q1_2 : p1 < p2 := by rw [← f2]; exact b1.lt
  replace b1 := b1.on ka2
  have kk0 := kk
  replace kk := kk.trans (ka2.mono kk.size)
  have hp2 : w.heap.size ≤ p2 := by rw [← f2]; exact kk0.size
  clear ka2 kk0
  obtain ⟨v0, v4⟩ := thr_of p
  obtain ⟨m0, m8⟩ := all_of p.co.n p.s
  have m0 : 0 ≤ sloZ p := m0
  have m8 : sloZ p ≤ 8 := m8
  obtain ⟨g0, g16⟩ := hf
  have d1 := fun W => threads_any p hp W
  have d2 := fun W => clamp_any c.f 16 W
  have d3 := fun W => factor_any p c hp hc W
  have ec : cl c.f 16 = c.f := by unfold cl; rw [if_neg (by omega), if_neg (by omega)]
  rw [ec] at d2
  clear ec
  generalize thrZ p = T at *
  generalize sloZ p = M at *
  skip
  have r1 : 0 ≤ T * c.f := Int.mul_nonneg v0 g0
  have r2 : T * c.f ≤ 4 * c.f := Int.mul_le_mul_of_nonneg_right v4 g0
  have r3 : 0 ≤ 2 * T * c.f := by rw [Int.mul_assoc]; omega
  have r4 : 2 * T * c.f ≤ 128 := by rw [Int.mul_assoc]; omega
  have r5 : 0 ≤ 2 * T * c.f * (2 + M) := Int.mul_nonneg r3 (by omega)
  have r6 : 2 * T * c.f * (2 + M) ≤ 128 * (2 + M) := Int.mul_le_mul_of_nonneg_right r4 (by omega)
  have x1 : (-9223372036854775808 : Int) ≤ 2 * T * c.f := by omega
  have x2 : 2 * T * c.f ≤ 9223372036854775807 := by omega
  have x3 : (-9223372036854775808 : Int) ≤ 2 * T * c.f * (2 + M) := by omega
  have x4 : 2 * T * c.f * (2 + M) ≤ 9223372036854775807 := by omega
  have x5 : (-9223372036854775808 : Int) ≤ 2 * T := by omega
  have x6 : 2 * T ≤ 9223372036854775807 := by omega
  clear r1 r2 r3 r4 r5 r6
  have y1 := wrap_id x5 x6
  have y2 := wrap_id x1 x2
  have y3 := wrap_id x3 x4
  clear x1 x2 x3 x4 x5 x6
  have kS : Below W2.heap.size W2 W2.drew := (Below.refl _ W2).drew
  have tS : ∀ W, Below W2.heap.size W2 W → W.cell? ⟨p2, 3, none⟩ = some (.int .i64 c.f) := fun W hW => (b2.on hW).cell 3
  go_enter Try.func21, Try.ntmps21
  go_wp2_with fail
  refine wp_region_noPanic ?_
  refine wp_region_held_drew (S := (fun W => Below W2.heap.size W2 W)) (by kernel_rfl) kS (fun hHeld => ?_)
  generalize W2.drew = wd at hHeld kS ⊢
  refine wpAnyH_take (i := 0) (oi := ⟨some 5, _, _, _, _, _⟩) (v := .agg (List.toArray (p.cs))) rfl (by kernel_rfl) (by kernel_rfl) (by kernel_rfl) (fun _ _ _ h => h) (yieldsIf_load_mid (by rfl) 24 (.tmp 2) rfl p1 (0) rfl (p.cs) _ (fun W hW => range_part (b1.on hW) 0 p.cs rfl) Try.underlying24 rfl size24) (by assumption) ?_
  try simp only [Act.put, List.setIfInBounds_toArray, List.set_cons_zero, List.set_cons_succ]
  refine wpAnyH_take (i := 3) (oi := ⟨some 8, _, _, _, _, _⟩) (v := ?_) rfl (by kernel_rfl) (by kernel_rfl) (by kernel_rfl) (fun _ _ _ h => h) (Or.inl ⟨by rfl, ?_⟩) (by assumption) ?_
  rotate_left 1
  · (intro W hSw; go_simp <;> with_reducible rfl)
  try simp only [Act.put, List.setIfInBounds_toArray, List.set_cons_zero, List.set_cons_succ]
  refine wpAnyH_take (i := 4) (oi := ⟨some 9, _, _, _, _, _⟩) (v := ?_) rfl (by kernel_rfl) (by kernel_rfl) (by kernel_rfl) (fun _ _ _ h => h) (Or.inl ⟨by rfl, ?_⟩) (by assumption) ?_
  rotate_left 1
  · (intro W hSw; obtain f3 := tS W hSw; go_simp <;> with_reducible rfl)
  try simp only [Act.put, List.setIfInBounds_toArray, List.set_cons_zero, List.set_cons_succ]
  refine wpAnyH_take (i := 7) (oi := ⟨some 12, _, _, _, _, _⟩) (v := .agg (List.toArray (p.cs))) rfl (by kernel_rfl) (by kernel_rfl) (by kernel_rfl) (fun _ _ _ h => h) (yieldsIf_load_mid (by rfl) 24 (.tmp 2) rfl p1 (0) rfl (p.cs) _ (fun W hW => range_part (b1.on hW) 0 p.cs rfl) Try.underlying24 rfl size24) (by assumption) ?_
  try simp only [Act.put, List.setIfInBounds_toArray, List.set_cons_zero, List.set_cons_succ]
  refine wpAnyH_take (i := 8) (oi := ⟨some 13, _, _, _, _, _⟩) (v := .agg (List.toArray (c.cs))) rfl (by kernel_rfl) (by kernel_rfl) (by kernel_rfl) (fun _ _ _ h => h) (yieldsIf_load_mid (by rfl) 26 (.tmp 3) rfl p2 (0) rfl (c.cs) _ (fun W hW => range_part (b2.on hW) 0 c.cs rfl) Try.underlying26 rfl size26) (by assumption) ?_
  try simp only [Act.put, List.setIfInBounds_toArray, List.set_cons_zero, List.set_cons_succ]
  refine wpAnyH_ready (rs := [1]) (by kernel_rfl) (by simp) ?_
  refine AllReadyH.cons (o := ⟨some 6, _, _, _, _, _⟩) rfl (fun K hK => ?_) AllReadyH.nil
  go_simp
  refine (d1 wd).mono ?_
  rintro e w1 ⟨rfl, hb1⟩
  have S1 : (fun W => Below W2.heap.size W2 W) w1 := kS.trans (hb1.mono kS.size)
  refine hK.out _ _ S1 (fun h1 => ?_)
  clear hHeld hK K
  try simp only [Act.put, List.setIfInBounds_toArray, List.set_cons_zero, List.set_cons_succ]
  refine wpAnyH_take (i := 2) (oi := ⟨some 7, _, _, _, _, _⟩) (v := ?_) rfl (by kernel_rfl) (by kernel_rfl) (by kernel_rfl) (fun _ _ _ h => h) (Or.inl ⟨by rfl, ?_⟩) (by assumption) ?_
  rotate_left 1
  · (intro W hSw; go_simp <;> with_reducible rfl)
  try simp only [Act.put, List.setIfInBounds_toArray, List.set_cons_zero, List.set_cons_succ]
  refine wpAnyH_ready (rs := [5]) (by kernel_rfl) (by simp) ?_
  refine AllReadyH.cons (o := ⟨some 10, _, _, _, _, _⟩) rfl (fun K hK => ?_) AllReadyH.nil
  go_simp
  refine ((d2 w1).mono (fun e w' h => (⟨h.1, by rw [← h.2]; exact Below.refl _ _⟩ : e = _ ∧ Below w1.heap.size w1 w'))).mono ?_
  rintro e w2 ⟨rfl, hb2⟩
  have S2 : (fun W => Below W2.heap.size W2 W) w2 := S1.trans (hb2.mono S1.size)
  refine hK.out _ _ S2 (fun h2 => ?_)
  clear h1 hK K
  try simp only [Act.put, List.setIfInBounds_toArray, List.set_cons_zero, List.set_cons_succ]
  refine wpAnyH_take (i := 6) (oi := ⟨some 11, _, _, _, _, _⟩) (v := ?_) rfl (by kernel_rfl) (by kernel_rfl) (by kernel_rfl) (fun _ _ _ h => h) (Or.inl ⟨by rfl, ?_⟩) (by assumption) ?_
  rotate_left 1
  · (intro W hSw; go_simp <;> with_reducible rfl)
  try simp only [Act.put, List.setIfInBounds_toArray, List.set_cons_zero, List.set_cons_succ]
  refine wpAnyH_ready (rs := [9]) (by kernel_rfl) (by simp) ?_
  refine AllReadyH.cons (o := ⟨some 14, _, _, _, _, _⟩) rfl (fun K hK => ?_) AllReadyH.nil
  go_simp
  refine (d3 w2).mono ?_
  rintro e w3 ⟨rfl, hb3⟩
  have S3 : (fun W => Below W2.heap.size W2 W) w3 := S2.trans (hb3.mono S2.size)
  refine hK.out _ _ S3 (fun h3 => ?_)
  clear h2 hK K
  try simp only [Act.put, List.setIfInBounds_toArray, List.set_cons_zero, List.set_cons_succ]
  refine wpAnyH_take (i := 10) (oi := ⟨some 15, _, _, _, _, _⟩) (v := ?_) rfl (by kernel_rfl) (by kernel_rfl) (by kernel_rfl) (fun _ _ _ h => h) (Or.inl ⟨by rfl, ?_⟩) (by assumption) ?_
  rotate_left 1
  · (intro W hSw; go_simp <;> with_reducible rfl)
  try simp only [Act.put, List.setIfInBounds_toArray, List.set_cons_zero, List.set_cons_succ]
  refine wpAnyH_take (i := 11) (oi := ⟨some 4, _, _, _, _, _⟩) (v := ?_) rfl (by kernel_rfl) (by kernel_rfl) (by kernel_rfl) (fun _ _ _ h => h) (Or.inl ⟨by rfl, ?_⟩) (by assumption) ?_
  rotate_left 1
  · (intro W hSw; go_simp <;> with_reducible rfl)
  try simp only [Act.put, List.setIfInBounds_toArray, List.set_cons_zero, List.set_cons_succ]
  refine wpAnyH_done (by kernel_rfl) ?_ _
  refine NoPanic.normal ?_
  go_wp2_with fail
  have kz := kk.trans (S3.mono kk.size)
  go_ret
  first | exact ⟨rfl, kz⟩ | (rw [f1] at kz; exact ⟨rfl, kz⟩)
end Go.Proofs.Ytllcgidachbnlaa
