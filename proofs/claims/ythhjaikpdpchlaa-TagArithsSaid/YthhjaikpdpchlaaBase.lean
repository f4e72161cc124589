/- Blocks that are known whole, and what the functions of layers num and tag answer, for all numbers and words. Conditions: those that each row names. -/
import Derived.Test.YthhjaikpdpchlaaRows
import Derived.WalkKit
import Derived.WalkSpells
import Derived.DataShut
import Derived.Lib.Hide
import Derived.Laws.ResultCell
import Derived.Laws.CopyOwn
import Derived.Below
import Derived.Laws.StructEq
namespace Go.Proofs.Ythhjaikpdpchlaa
open Go.ChangeShapes Go.WideShapes Go.RowKit

/-- A block is known whole, and may be written. -/
def Blk (w : World) (g : Nat) (t : TypeId) (cs : Array Value) : Prop := w.heap[g]? = some (.cells cs t (0, 0))
section
variable {w w' : World} {g B : Nat} {t : TypeId} {cs : Array Value}
theorem Blk.lt (h : Blk w g t cs) : g < w.heap.size := (Array.getElem?_eq_some_iff.1 h).1
theorem Blk.cell (h : Blk w g t cs) (i : Nat) : w.cell? ⟨g, i, none⟩ = cs[i]? := cell_of_row w g i cs t (0, 0) h
theorem Blk.free (h : Blk w g t cs) (i : Nat) : w.frozen? ⟨g, i, none⟩ = false := by
  unfold Blk at h
  simp [World.frozen?, h]
theorem Blk.below (h : Blk w g t cs) (hb : Below B w w') (hg : g < B) : Blk w' g t cs := (hb.block g hg).trans h
end

/-- A word: its number, its cell, the cell's life. -/
structure Wd where
  n : Int
  c : Int
  g : Int
def Wd.cs (x : Wd) : Array Value := #[.int .i64 x.n, .int .i64 x.c, .int .i64 x.g]
theorem info24 : (Try.prog.info? 24).map (·.size) = some 3 := by kernel_rfl
/-- What two words have in common. -/
def sameW (x y : Wd) : Bool := x.n == y.n && x.c == y.c && x.g == y.g

theorem plain_any (n : Int) (w : World) : Calls Try.prog 9 #[.int .i64 n] w fun e w' => e = .returned (.agg #[.int .i64 n, .int .i64 0, .int .i64 0]) ∧ Below w.heap.size w w' := by
  have hB : Blk (w.alloc (.cells #[.int .i64 0, .int .i64 0, .int .i64 0] 24)) w.heap.size 24 #[.int .i64 0, .int .i64 0, .int .i64 0] := heap_alloc_new w _
  go_enter Try.func9, Try.ntmps9
  go_wp2_with (refine wpList_store_row rfl 24 (.tmp 2) (.tmp 4) rfl w.heap.size #[.int .i64 n, .int .i64 0, .int .i64 0] rfl rfl 24 #[.int .i64 0, .int .i64 0, .int .i64 0] hB info24 rfl (by simp [Value.oneCell']) ?_)
  refine bodyPost_ret (results_cell_row (cs := #[.int .i64 n, .int .i64 0, .int .i64 0]) rfl _ _ w.heap.size 24 (0, 0) _ rfl (setRow_heap _ _ _ _ _ _ hB) Try.underlying24 rfl info24) rfl ?_
  exact ⟨rfl, below_setRow ((Below.refl _ w).alloc (Nat.le_refl _) _) (Nat.le_refl _) _⟩
theorem to_cell (c g : Int) (hc : 1 ≤ c) (w : World) : Calls Try.prog 7 #[.int .i64 c, .int .i64 g] w fun e w' => e = .returned (.agg #[.int .i64 c, .int .i64 c, .int .i64 g]) ∧ Below w.heap.size w w' := by
  have hB : Blk (w.alloc (.cells #[.int .i64 0, .int .i64 0, .int .i64 0] 24)) w.heap.size 24 #[.int .i64 0, .int .i64 0, .int .i64 0] := heap_alloc_new w _
  have h1 : decide (c < 1) = false := decide_eq_false (by omega)
  go_enter Try.func7, Try.ntmps7
  go_wp2_with (refine wpList_store_row rfl 24 (.tmp 4) (.tmp 11) rfl w.heap.size #[.int .i64 c, .int .i64 c, .int .i64 g] rfl rfl 24 #[.int .i64 0, .int .i64 0, .int .i64 0] hB info24 rfl (by simp [Value.oneCell']) ?_)
  refine bodyPost_ret (results_cell_row (cs := #[.int .i64 c, .int .i64 c, .int .i64 g]) rfl _ _ w.heap.size 24 (0, 0) _ rfl (setRow_heap _ _ _ _ _ _ hB) Try.underlying24 rfl info24) rfl ?_
  exact ⟨rfl, below_setRow ((Below.refl _ w).alloc (Nat.le_refl _) _) (Nat.le_refl _) _⟩
theorem to_none (c g : Int) (hc : c < 1) (w : World) : Calls Try.prog 7 #[.int .i64 c, .int .i64 g] w fun e w' => e = .returned (.agg #[.int .i64 0, .int .i64 0, .int .i64 0]) ∧ Below w.heap.size w w' := by
  obtain ⟨W, eW⟩ : ∃ W, W = w.alloc (.cells #[.int .i64 0, .int .i64 0, .int .i64 0] 24) := ⟨_, rfl⟩
  have hb : Below w.heap.size w W := by rw [eW]; exact (Below.refl _ w).alloc (Nat.le_refl _) _
  have hB : Blk W w.heap.size 24 #[.int .i64 0, .int .i64 0, .int .i64 0] := by rw [eW]; exact heap_alloc_new w _
  have h1 : decide (c < 1) = true := decide_eq_true hc
  go_enter Try.func7, Try.ntmps7
  go_wp2_with fail
  rw [← eW]
  refine (plain_any 0 W).mono ?_
  rintro e w1 ⟨rfl, hb1⟩
  have hB1 := hB.below hb1 hB.lt
  go_wp2_with (refine wpList_store_row rfl 24 (.tmp 4) (.tmp 7) rfl w.heap.size #[.int .i64 0, .int .i64 0, .int .i64 0] rfl rfl 24 #[.int .i64 0, .int .i64 0, .int .i64 0] hB1 info24 rfl (by simp [Value.oneCell']) ?_)
  refine bodyPost_ret (results_cell_row (cs := #[.int .i64 0, .int .i64 0, .int .i64 0]) rfl _ _ w.heap.size 24 (0, 0) _ rfl (setRow_heap _ _ _ _ _ _ hB1) Try.underlying24 rfl info24) rfl ?_
  exact ⟨rfl, below_setRow (hb.trans (hb1.mono hb.size)) (Nat.le_refl _) _⟩
theorem is_any (x : Wd) (w : World) : Calls Try.prog 8 #[.agg #[.int .i64 x.n, .int .i64 x.c, .int .i64 x.g]] w fun e w' => e = .returned (.bool (decide (1 ≤ x.c))) ∧ Below w.heap.size w w' := by
  obtain ⟨n, c, g⟩ := x
  have hB : Blk (w.alloc (.cells #[.int .i64 n, .int .i64 c, .int .i64 g] 24)) w.heap.size 24 #[.int .i64 n, .int .i64 c, .int .i64 g] := heap_alloc_new w _
  have c1 := hB.cell 1
  go_enter Try.func8, Try.ntmps8
  go_wp2
  go_ret
  exact ⟨rfl, (Below.refl _ w).alloc (Nat.le_refl _) _⟩
theorem equal_any (x y : Wd) (w : World) : Calls Try.prog 10 #[.agg #[.int .i64 x.n, .int .i64 x.c, .int .i64 x.g], .agg #[.int .i64 y.n, .int .i64 y.c, .int .i64 y.g]] w fun e w' => e = .returned (.bool (x.n == y.n)) ∧ Below w.heap.size w w' := by
  obtain ⟨n, c, g⟩ := x
  obtain ⟨n2, c2, g2⟩ := y
  go_enter Try.func10, Try.ntmps10
  go_wp2
  go_ret
  exact ⟨rfl, ((Below.refl _ w).alloc (Nat.le_refl _) _).alloc (by simp) _⟩
theorem alike_any (x y : Wd) (w : World) : Calls Try.prog 11 #[.agg #[.int .i64 x.n, .int .i64 x.c, .int .i64 x.g], .agg #[.int .i64 y.n, .int .i64 y.c, .int .i64 y.g]] w fun e w' => e = .returned (.bool (sameW x y)) ∧ Below w.heap.size w w' := by
  obtain ⟨n, c, g⟩ := x
  obtain ⟨n2, c2, g2⟩ := y
  go_enter Try.func11, Try.ntmps11
  go_wp2
  all_goals (
    go_ret
    exact ⟨by simp [sameW, *], ((Below.refl _ w).alloc (Nat.le_refl _) _).alloc (by simp) _⟩)
theorem add_any (a b : Int) (w : World) : Calls Try.prog 14 #[.int .i64 a, .int .i64 b] w fun e w' => e = .returned (.int .i64 (wrap64 (a + b))) ∧ w = w' := by
  go_enter Try.func14, Try.ntmps14
  go_wp2
  go_ret
  exact ⟨rfl, rfl⟩
theorem sub_any (a b : Int) (w : World) : Calls Try.prog 15 #[.int .i64 a, .int .i64 b] w fun e w' => e = .returned (.int .i64 (wrap64 (a - b))) ∧ w = w' := by
  go_enter Try.func15, Try.ntmps15
  go_wp2
  go_ret
  exact ⟨rfl, rfl⟩
theorem mul_any (a b : Int) (w : World) : Calls Try.prog 16 #[.int .i64 a, .int .i64 b] w fun e w' => e = .returned (.int .i64 (wrap64 (a * b))) ∧ w = w' := by
  go_enter Try.func16, Try.ntmps16
  go_wp2
  go_ret
  exact ⟨rfl, rfl⟩
theorem div_zero (a : Int) (w : World) : Calls Try.prog 17 #[.int .i64 a, .int .i64 0] w fun e w' => e = .returned (.tuple #[.int .i64 0, .bool false]) ∧ w = w' := by
  go_enter Try.func17, Try.ntmps17
  go_wp2
  go_ret2
  exact ⟨rfl, rfl⟩
theorem div_any (a b : Int) (hb : (b == 0) = false) (hb' : b ≠ 0) (w : World) : Calls Try.prog 17 #[.int .i64 a, .int .i64 b] w fun e w' => e = .returned (.tuple #[.int .i64 (wrap64 (a.tdiv b)), .bool true]) ∧ w = w' := by
  go_enter Try.func17, Try.ntmps17
  go_wp2
  go_ret2
  exact ⟨rfl, rfl⟩
end Go.Proofs.Ythhjaikpdpchlaa
