/- What a stock is in memory; a cell is read. Conditions: none. -/
import Derived.Test.YtdilmapcjmdabaaBase
namespace Go.Proofs.Ytdilmapcjmdabaa
open Go.ChangeShapes Go.WideShapes Go.RowKit

/-- A stock: its cells, and the row of the free ones, which lies the other way round. -/
structure Stk (w : World) (ps : Nat) (Ac : Option Addr) (cc n : Nat) (Ar : Option Addr) (cr m : Nat) (C : List Cel) (R : List Int) : Prop where
  box : Blk w ps 80 #[.slice Ac n cc, .slice Ar m cr]
  oc : w.ownsRow 0 45 10 (.slice Ac n cc) n (flatC C)
  or : w.ownsRow 0 3 1 (.slice Ar m cr) m (ints R.reverse)
section
variable {w w' : World} {ps cc n cr m : Nat} {Ac Ar : Option Addr} {C : List Cel} {R : List Int}
theorem Stk.below (h : Stk w ps Ac cc n Ar cr m C R) (hb : Below w.heap.size w w') : Stk w' ps Ac cc n Ar cr m C R := ⟨h.box.on hb, own_below h.oc hb, own_below h.or hb⟩
theorem Stk.len (h : Stk w ps Ac cc n Ar cr m C R) : C.length = n := by
  have := h.oc.1
  unfold flatC at this
  rw [flat_len Cel.len] at this
  omega
theorem Stk.lenR (h : Stk w ps Ac cc n Ar cr m C R) : R.length = m := by
  have := h.or.1
  unfold ints at this
  rw [flat_len int_len, List.length_reverse] at this
  omega

theorem at_any {k : Int} {j : Nat} {c : Cel} (h : Stk w ps Ac cc n Ar cr m C R) (hn : n ≤ 6) (hk : k - 1 = (j : Int)) (hc : C[j]? = some c) :
    Calls Try.prog 39 #[.pointer (some ⟨ps, 0, none⟩), .int .i64 k] w fun e w' => e = .returned (.agg c.cs.toArray) ∧ Below w.heap.size w w' := by
  have hj : j < n := by rw [← h.len]; exact (List.getElem?_eq_some_iff.1 hc).1
  obtain ⟨g, rfl, _, hr, _⟩ := own_at Cel.len h.oc hc (by omega)
  have hB : Blk (w.alloc (.cells noC.cs.toArray 45)) w.heap.size 45 noC.cs.toArray := heap_alloc_new w _
  have c0 : w.cell? ⟨ps, 0, none⟩ = some (.slice (some ⟨g, 0, none⟩) n cc) := h.box.cell 0
  have c1 : (w.alloc (.cells #[.int .i64 0, .int .i64 0, .int .i64 0, .int .i64 0, .int .i64 0, .int .i64 0, .int .i64 0, .int .i64 0, .int .i64 0, .int .i64 0] 45)).cell? ⟨ps, 0, none⟩ = some (.slice (some ⟨g, 0, none⟩) n cc) := (World.cell?_alloc_lt _ _ _ h.box.lt).trans c0
  go_enter Try.func39, Try.ntmps39
  go_wp2_with (first
    | (refine wpList_load_mid rfl 45 (.tmp 11) rfl g (j * 10) rfl c.cs _ (World.rangeAt_alloc hr _) Try.underlying45 rfl (load45 c) ?_)
    | (refine wpList_store_row rfl 45 (.tmp 4) (.tmp 12) rfl w.heap.size c.cs.toArray rfl rfl 45 noC.cs.toArray hB size45 rfl (by simp [Cel.cs, Value.oneCell']) ?_))
  refine bodyPost_ret (results_cell_row (cs := c.cs.toArray) rfl _ _ w.heap.size 45 (0, 0) _ rfl (setRow_heap _ _ _ _ _ _ hB) Try.underlying45 rfl size45) rfl ?_
  exact ⟨rfl, below_setRow ((Below.refl _ w).alloc (Nat.le_refl _) _) (Nat.le_refl _) _⟩
end
end Go.Proofs.Ytdilmapcjmdabaa
