/- How an instruction by value came in. Conditions: none. -/
import Derived.Test.YtodklfjoeehinaaDoorRefI
import Derived.DataShut
import Derived.Deep.Slices
import Derived.ProofKit
import Derived.OpenShut
import Derived.ChangeOld
import Derived.Below
namespace Go.Proofs.YtodklfjoeehinaaDoor
open Go.RowKit Go.ChangeShapes Go.WideShapes Go.Deep

/-- Operands of 64 bits. -/
def WideI (x : Ins) : Prop := Wide x.a ∧ Wide x.b ∧ Wide x.c ∧ Wide x.n
theorem wide_of {n : Int} (h : (Lit.int .i64 n).wf = true) : Wide n := by
  have hb := (Lit.wf_int_iff .i64 n).1 h
  exact hb
theorem array5 {α : Type} {cs : Array α} (h : cs.size = 5) : ∃ c0 c1 c2 c3 c4, cs = #[c0, c1, c2, c3, c4] := by
  obtain ⟨l⟩ := cs
  match l, h with
  | [c0, c1, c2, c3, c4], _ => exact ⟨c0, c1, c2, c3, c4, rfl⟩
theorem array4 {α : Type} {cs : Array α} (h : cs.size = 4) : ∃ c0 c1 c2 c3, cs = #[c0, c1, c2, c3] := by
  obtain ⟨l⟩ := cs
  match l, h with
  | [c0, c1, c2, c3], _ => exact ⟨c0, c1, c2, c3, rfl⟩
theorem cells45 : Tryd.prog.cellsOf 25 = 5 := by kernel_rfl
theorem sz46 : Tryd.prog.cellsOf 50 = 1 := by kernel_rfl
theorem sz24 : Tryd.prog.cellsOf 32 = 4 := by kernel_rfl
theorem cells22 : Tryd.prog.cellsOf 30 = 1 := by kernel_rfl
theorem cells3 : Tryd.prog.cellsOf 3 = 1 := by kernel_rfl
theorem cells2 : Tryd.prog.cellsOf 2 = 1 := by kernel_rfl
theorem five_trod {H : Type} {enc : TypeId × Value → H} {w : World} {base : Nat} {spare : Nat → Bool} {held : Bool} {fuel : Nat} {c0 c1 c2 c3 c4 : Value} {x : DataW H × List MemPlace}
    (hf : DataW.trod enc Tryd.prog w base spare held fuel 25 [c0, c1, c2, c3, c4] = some x) : ∃ z : Ins, (c0 = .int .i64 z.o ∧ c1 = .int .i64 z.a ∧ c2 = .int .i64 z.b ∧ c3 = .int .i64 z.c ∧ c4 = .int .i64 z.n) ∧ WideI z := by
  obtain ⟨ys, k, _, _, _, hyl, hat⟩ := DataW.trod_struct Tryd.underlying25 hf
  match ys, hyl with
  | [y0, y1, y2, y3, y4], _ =>
    have f0 : DataW.trod enc Tryd.prog w base spare held k 3 (([c0, c1, c2, c3, c4].drop 0).take (Tryd.prog.cellsOf 3)) = some y0 := hat 0 _ rfl
    have f1 : DataW.trod enc Tryd.prog w base spare held k 3 (([c0, c1, c2, c3, c4].drop 1).take (Tryd.prog.cellsOf 3)) = some y1 := hat 1 _ rfl
    have f2 : DataW.trod enc Tryd.prog w base spare held k 3 (([c0, c1, c2, c3, c4].drop 2).take (Tryd.prog.cellsOf 3)) = some y2 := hat 2 _ rfl
    have f3 : DataW.trod enc Tryd.prog w base spare held k 3 (([c0, c1, c2, c3, c4].drop 3).take (Tryd.prog.cellsOf 3)) = some y3 := hat 3 _ rfl
    have f4 : DataW.trod enc Tryd.prog w base spare held k 2 (([c0, c1, c2, c3, c4].drop 4).take (Tryd.prog.cellsOf 2)) = some y4 := hat 4 _ rfl
    rw [cells3] at f0 f1 f2 f3
    rw [cells2] at f4
    obtain ⟨z0, e0, _, _⟩ := DataW.trod_int Tryd.underlying3 f0
    obtain ⟨z1, e1, _, w1⟩ := DataW.trod_int Tryd.underlying3 f1
    obtain ⟨z2, e2, _, w2⟩ := DataW.trod_int Tryd.underlying3 f2
    obtain ⟨z3, e3, _, w3⟩ := DataW.trod_int Tryd.underlying3 f3
    obtain ⟨z4, e4, _, w4⟩ := DataW.trod_int Tryd.underlying2 f4
    simp at e0 e1 e2 e3 e4
    subst e0 e1 e2 e3 e4
    exact ⟨⟨z0, z1, z2, z3, z4⟩, ⟨rfl, rfl, rfl, rfl, rfl⟩, wide_of w1, wide_of w2, wide_of w3, wide_of w4⟩
end Go.Proofs.YtodklfjoeehinaaDoor
