/- What the reference's with and Instr of texts answer: the instruction of a line, or what is wrong. Conditions: a line of at most a thousand octets. -/
import Derived.Test.YtodklfjoeehinaaDoorInstr
namespace Go.Proofs.YtodklfjoeehinaaDoor
open Go.RowKit Nine

set_option maxRecDepth 100000 in
theorem with_any (o a b c n : Int) (k : Nat) (hk : k < 4) (v : Int) (w : World) :
    Calls Tryd.prog 22 #[.agg (ins o a b c n), .int .i64 k, .int .i64 v] w fun e w' => e = .returned (.agg (ins o (if k = 0 then v else a) (if k = 1 then v else b) (if k = 2 then v else c) (if k = 3 then v else n))) ∧ Below w.heap.size w w' := by
  have HB : Hid (∀ (x y : Array Value) (cs : Array Value), Below w.heap.size w (((w.alloc (.cells x 25)).alloc (.cells y 25)).setRow (w.heap.size + 1) cs)) := Lib.hid fun x y cs => below_setRow (((Below.refl _ w).alloc (Nat.le_refl _) _).alloc (by simp) _) (Nat.le_succ _) _
  by_cases h0 : k = 0
  · subst h0
    show Calls Tryd.prog 22 #[.agg #[.int .i64 o, .int .i64 a, .int .i64 b, .int .i64 c, .int .i64 n], _, _] w fun e w' => e = .returned (.agg (ins o v b c n)) ∧ _
    have p0 : Blk ((w.alloc (.cells #[.int .i64 o, .int .i64 v, .int .i64 b, .int .i64 c, .int .i64 n] 25)).alloc (.cells #[.int .i64 0, .int .i64 0, .int .i64 0, .int .i64 0, .int .i64 0] 25)) w.heap.size 25 (ins o v b c n) := Blk.below (heap_alloc_new w _) ((Below.refl _ _).alloc (Nat.le_refl _) _) (by simp)
    have R : Blk ((w.alloc (.cells #[.int .i64 o, .int .i64 v, .int .i64 b, .int .i64 c, .int .i64 n] 25)).alloc (.cells #[.int .i64 0, .int .i64 0, .int .i64 0, .int .i64 0, .int .i64 0] 25)) (w.heap.size + 1) 25 (ins 0 0 0 0 0) := heap_alloc2_new w _ _
    obtain ⟨x0, x1, x2, x3, x4⟩ := At5.blk p0
    clear p0
    go_enter Tryd.func22, Tryd.ntmps22
    go_wp2_with (refine wpList_store_row rfl 25 (.tmp 6) (.tmp 22) rfl (w.heap.size + 1) (ins o v b c n) rfl rfl 25 (ins 0 0 0 0 0) R info25 rfl (ins_one o v b c n) ?_)
    refine bodyPost_ret (results_cell_row (cs := ins o v b c n) rfl _ _ (w.heap.size + 1) 25 (0, 0) _ rfl (setRow_heap _ _ _ _ _ _ R) Tryd.underlying25 rfl info25) rfl ?_
    exact ⟨rfl, HB.out _ _ _⟩
  by_cases h1 : k = 1
  · subst h1
    show Calls Tryd.prog 22 #[.agg #[.int .i64 o, .int .i64 a, .int .i64 b, .int .i64 c, .int .i64 n], _, _] w fun e w' => e = .returned (.agg (ins o a v c n)) ∧ _
    have p0 : Blk ((w.alloc (.cells #[.int .i64 o, .int .i64 a, .int .i64 v, .int .i64 c, .int .i64 n] 25)).alloc (.cells #[.int .i64 0, .int .i64 0, .int .i64 0, .int .i64 0, .int .i64 0] 25)) w.heap.size 25 (ins o a v c n) := Blk.below (heap_alloc_new w _) ((Below.refl _ _).alloc (Nat.le_refl _) _) (by simp)
    have R : Blk ((w.alloc (.cells #[.int .i64 o, .int .i64 a, .int .i64 v, .int .i64 c, .int .i64 n] 25)).alloc (.cells #[.int .i64 0, .int .i64 0, .int .i64 0, .int .i64 0, .int .i64 0] 25)) (w.heap.size + 1) 25 (ins 0 0 0 0 0) := heap_alloc2_new w _ _
    obtain ⟨x0, x1, x2, x3, x4⟩ := At5.blk p0
    clear p0
    go_enter Tryd.func22, Tryd.ntmps22
    go_wp2_with (refine wpList_store_row rfl 25 (.tmp 6) (.tmp 22) rfl (w.heap.size + 1) (ins o a v c n) rfl rfl 25 (ins 0 0 0 0 0) R info25 rfl (ins_one o a v c n) ?_)
    refine bodyPost_ret (results_cell_row (cs := ins o a v c n) rfl _ _ (w.heap.size + 1) 25 (0, 0) _ rfl (setRow_heap _ _ _ _ _ _ R) Tryd.underlying25 rfl info25) rfl ?_
    exact ⟨rfl, HB.out _ _ _⟩
  by_cases h2 : k = 2
  · subst h2
    show Calls Tryd.prog 22 #[.agg #[.int .i64 o, .int .i64 a, .int .i64 b, .int .i64 c, .int .i64 n], _, _] w fun e w' => e = .returned (.agg (ins o a b v n)) ∧ _
    have p0 : Blk ((w.alloc (.cells #[.int .i64 o, .int .i64 a, .int .i64 b, .int .i64 v, .int .i64 n] 25)).alloc (.cells #[.int .i64 0, .int .i64 0, .int .i64 0, .int .i64 0, .int .i64 0] 25)) w.heap.size 25 (ins o a b v n) := Blk.below (heap_alloc_new w _) ((Below.refl _ _).alloc (Nat.le_refl _) _) (by simp)
    have R : Blk ((w.alloc (.cells #[.int .i64 o, .int .i64 a, .int .i64 b, .int .i64 v, .int .i64 n] 25)).alloc (.cells #[.int .i64 0, .int .i64 0, .int .i64 0, .int .i64 0, .int .i64 0] 25)) (w.heap.size + 1) 25 (ins 0 0 0 0 0) := heap_alloc2_new w _ _
    obtain ⟨x0, x1, x2, x3, x4⟩ := At5.blk p0
    clear p0
    go_enter Tryd.func22, Tryd.ntmps22
    go_wp2_with (refine wpList_store_row rfl 25 (.tmp 6) (.tmp 22) rfl (w.heap.size + 1) (ins o a b v n) rfl rfl 25 (ins 0 0 0 0 0) R info25 rfl (ins_one o a b v n) ?_)
    refine bodyPost_ret (results_cell_row (cs := ins o a b v n) rfl _ _ (w.heap.size + 1) 25 (0, 0) _ rfl (setRow_heap _ _ _ _ _ _ R) Tryd.underlying25 rfl info25) rfl ?_
    exact ⟨rfl, HB.out _ _ _⟩
  obtain rfl : k = 3 := by omega
  show Calls Tryd.prog 22 #[.agg #[.int .i64 o, .int .i64 a, .int .i64 b, .int .i64 c, .int .i64 n], _, _] w fun e w' => e = .returned (.agg (ins o a b c v)) ∧ _
  have p0 : Blk ((w.alloc (.cells #[.int .i64 o, .int .i64 a, .int .i64 b, .int .i64 c, .int .i64 v] 25)).alloc (.cells #[.int .i64 0, .int .i64 0, .int .i64 0, .int .i64 0, .int .i64 0] 25)) w.heap.size 25 (ins o a b c v) := Blk.below (heap_alloc_new w _) ((Below.refl _ _).alloc (Nat.le_refl _) _) (by simp)
  have R : Blk ((w.alloc (.cells #[.int .i64 o, .int .i64 a, .int .i64 b, .int .i64 c, .int .i64 v] 25)).alloc (.cells #[.int .i64 0, .int .i64 0, .int .i64 0, .int .i64 0, .int .i64 0] 25)) (w.heap.size + 1) 25 (ins 0 0 0 0 0) := heap_alloc2_new w _ _
  obtain ⟨x0, x1, x2, x3, x4⟩ := At5.blk p0
  clear p0
  go_enter Tryd.func22, Tryd.ntmps22
  go_wp2_with (refine wpList_store_row rfl 25 (.tmp 6) (.tmp 22) rfl (w.heap.size + 1) (ins o a b c v) rfl rfl 25 (ins 0 0 0 0 0) R info25 rfl (ins_one o a b c v) ?_)
  refine bodyPost_ret (results_cell_row (cs := ins o a b c v) rfl _ _ (w.heap.size + 1) 25 (0, 0) _ rfl (setRow_heap _ _ _ _ _ _ R) Tryd.underlying25 rfl info25) rfl ?_
  exact ⟨rfl, HB.out _ _ _⟩
end Go.Proofs.YtodklfjoeehinaaDoor
