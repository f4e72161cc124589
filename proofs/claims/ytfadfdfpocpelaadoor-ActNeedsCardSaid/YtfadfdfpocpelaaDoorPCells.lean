/- An instruction in a block; what a call owns, in later worlds. Conditions: none. -/
import Derived.Test.YtfadfdfpocpelaaDoorPWords
import Derived.StillTail
import Derived.StillTailTactics
namespace Go.Proofs.YtfadfdfpocpelaaDoor.P
open Go.RowKit

/-- It lies in block g. -/
structure At5 (w : World) (g : Nat) (o a b c n : Int) : Prop where
  c0 : w.cell? ⟨g, 0, none⟩ = some (.int .i64 o)
  c1 : w.cell? ⟨g, 1, none⟩ = some (.int .i64 a)
  c2 : w.cell? ⟨g, 2, none⟩ = some (.int .i64 b)
  c3 : w.cell? ⟨g, 3, none⟩ = some (.int .i64 c)
  c4 : w.cell? ⟨g, 4, none⟩ = some (.int .i64 n)
theorem At5.lt {w : World} {g : Nat} {o a b c n : Int} (h : At5 w g o a b c n) : g < w.heap.size := World.block_lt_of_cell? w _ h.c0
theorem At5.below {w w' : World} {g B : Nat} {o a b c n : Int} (h : At5 w g o a b c n) (hb : Below B w w') (hg : g < B) : At5 w' g o a b c n :=
  ⟨(hb.cell hg).trans h.c0, (hb.cell hg).trans h.c1, (hb.cell hg).trans h.c2, (hb.cell hg).trans h.c3, (hb.cell hg).trans h.c4⟩
theorem At5.on {w w' : World} {g : Nat} {o a b c n : Int} (h : At5 w g o a b c n) (hb : Below w.heap.size w w') : At5 w' g o a b c n := h.below hb h.lt
/-- An instruction as a value's parts. -/
def ins (o a b c n : Int) : Array Value := #[.int .i64 o, .int .i64 a, .int .i64 b, .int .i64 c, .int .i64 n]
theorem At5.blk {w : World} {g : Nat} {o a b c n : Int} (h : Blk w g 35 (ins o a b c n)) : At5 w g o a b c n := ⟨h.cell 0, h.cell 1, h.cell 2, h.cell 3, h.cell 4⟩
theorem At5.new (w : World) (o a b c n : Int) : At5 (w.alloc (.cells #[.int .i64 o, .int .i64 a, .int .i64 b, .int .i64 c, .int .i64 n] 35)) w.heap.size o a b c n := At5.blk (heap_alloc_new w _)

theorem own_mono {w : World} {base base' n sz : Nat} {e : TypeId} {v : Value} {xs : List Value} (h : w.ownsRow base e sz v n xs) (hb : base' ≤ base) : w.ownsRow base' e sz v n xs := by
  refine ⟨h.1, ?_⟩
  rcases h.2 with h2 | ⟨g, cap, cur, e1, e2, h3⟩
  · exact .inl h2
  · exact .inr ⟨g, cap, cur, e1, Nat.le_trans hb e2, h3⟩
theorem below_drew {B : Nat} {a w : World} (h : Below B a w) (n : Nat) : Below B a (w.drewN n) := ⟨h.os, h.tape, h.output, h.size, h.block⟩
theorem own_below {w w' : World} {base n sz : Nat} {e : TypeId} {v : Value} {xs : List Value} (h : w.ownsRow base e sz v n xs) (hb : Below w.heap.size w w') : w'.ownsRow base e sz v n xs := by
  refine ⟨h.1, ?_⟩
  rcases h.2 with h2 | ⟨g, cap, cur, e1, e2, h3, h4⟩
  · exact .inl h2
  · exact .inr ⟨g, cap, cur, e1, e2, (hb.block g (Array.getElem?_eq_some_iff.1 h3).1).trans h3, h4⟩
theorem heap_set (w : World) (g i k : Nat) (u : Value) (h : k ≠ g) : (w.setCell ⟨g, i, none⟩ u).heap[k]? = w.heap[k]? := Below.heap_setCell w _ u k (fun e => h (by rw [e]))
theorem take_snoc {α : Type} {l : List α} {i : Nat} {x : α} (h : l[i]? = some x) : l.take (i + 1) = l.take i ++ [x] := by
  rw [List.take_add_one, h]
  rfl
end Go.Proofs.YtfadfdfpocpelaaDoor.P
