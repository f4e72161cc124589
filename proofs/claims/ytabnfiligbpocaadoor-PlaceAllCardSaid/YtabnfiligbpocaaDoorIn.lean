/- How a place and a program came in. Conditions: none. -/
import Derived.Test.YtabnfiligbpocaaDoorHas
import Derived.Test.YtabnfiligbpocaaDoorJoin
import Derived.Deep.Slices
import Derived.DataShut
import Derived.ProofKit
import Derived.OpenShut
import Derived.ChangeOld
namespace Go.Proofs.YtabnfiligbpocaaDoor
open Go.RowKit Go.ChangeShapes Go.WideShapes Go.Deep

theorem cells3 : Tryd.prog.cellsOf 3 = 1 := by kernel_rfl
theorem cells24 : Tryd.prog.cellsOf 24 = 1 := by kernel_rfl
theorem cells23 : Tryd.prog.cellsOf 23 = 3 := by kernel_rfl
theorem cells26 : Tryd.prog.cellsOf 26 = 4 := by kernel_rfl
theorem list3 {α : Type} {l : List α} (h : l.length = 3) : ∃ a b c, l = [a, b, c] := by
  match l, h with
  | [a, b, c], _ => exact ⟨a, b, c, rfl⟩
theorem list4 {α : Type} {l : List α} (h : l.length = 4) : ∃ a b c d, l = [a, b, c, d] := by
  match l, h with
  | [a, b, c, d], _ => exact ⟨a, b, c, d, rfl⟩
theorem wide_of {n : Int} (h : (Lit.int .i64 n).wf = true) : Wide n := by
  have hb := (Lit.wf_int_iff .i64 n).1 h
  exact hb
set_option maxRecDepth 100000 in
/-- A place by value. -/
theorem place_in {H : Type} {enc : TypeId × Value → H} {w : World} {r : Reach} {b0 base : Nat} {spare : Nat → Bool} {held : Bool} {v : Value} {d : DataW H} {p : List MemPlace}
    (hv : Value.okWide Tryd.prog w r b0 23 v) (h : DataW.Trod enc Tryd.prog w base spare held 23 v d p) : ∃ x : Pl, v = .agg x.cs.toArray ∧ Wide x.i ∧ Wide x.j := by
  obtain ⟨cs, rfl, hsz⟩ := okWide_struct Tryd.underlying23 hv
  obtain ⟨fuel, hf⟩ := h
  obtain ⟨v0, v1, v2, hl⟩ := list3 (l := cs.toList) (by simpa using hsz.trans cells23)
  obtain rfl : cs = #[v0, v1, v2] := by apply Array.ext'; exact hl
  obtain ⟨ys, k, _, _, _, hyl, hat⟩ := DataW.trod_struct Tryd.underlying23 hf
  match ys, hyl with
  | [y0, y1, y2], _ =>
    have f0 : DataW.trod enc Tryd.prog w base spare held k 3 (([v0, v1, v2].drop 0).take (Tryd.prog.cellsOf 3)) = some y0 := hat 0 _ rfl
    have f1 : DataW.trod enc Tryd.prog w base spare held k 3 (([v0, v1, v2].drop 1).take (Tryd.prog.cellsOf 3)) = some y1 := hat 1 _ rfl
    have f2 : DataW.trod enc Tryd.prog w base spare held k 3 (([v0, v1, v2].drop 2).take (Tryd.prog.cellsOf 3)) = some y2 := hat 2 _ rfl
    rw [cells3] at f0 f1 f2
    obtain ⟨z0, e0, _, _⟩ := DataW.trod_int Tryd.underlying3 f0
    obtain ⟨z1, e1, _, w1⟩ := DataW.trod_int Tryd.underlying3 f1
    obtain ⟨z2, e2, _, w2⟩ := DataW.trod_int Tryd.underlying3 f2
    simp at e0 e1 e2
    subst e0 e1 e2
    exact ⟨⟨z0, z1, z2⟩, rfl, wide_of w1, wide_of w2⟩
set_option maxRecDepth 100000 in
/-- A program by value. -/
theorem prog_in {H : Type} {enc : TypeId × Value → H} {w : World} {r : Reach} {b0 base : Nat} {spare : Nat → Bool} {held : Bool} {v : Value} {d : DataW H} {p : List MemPlace}
    (hv : Value.okWide Tryd.prog w r b0 26 v) (h : DataW.Trod enc Tryd.prog w base spare held 26 v d p) : ∃ q : Pg, v = .agg q.cs.toArray ∧ q.Ok := by
  obtain ⟨cs, rfl, hsz⟩ := okWide_struct Tryd.underlying26 hv
  obtain ⟨fuel, hf⟩ := h
  obtain ⟨v0, v1, v2, v3, hl⟩ := list4 (l := cs.toList) (by simpa using hsz.trans cells26)
  obtain rfl : cs = #[v0, v1, v2, v3] := by apply Array.ext'; exact hl
  obtain ⟨ys, k, _, _, _, hyl, hat⟩ := DataW.trod_struct Tryd.underlying26 hf
  match ys, hyl with
  | [y0, y1, y2, y3], _ =>
    have f0 : DataW.trod enc Tryd.prog w base spare held k 3 (([v0, v1, v2, v3].drop 0).take (Tryd.prog.cellsOf 3)) = some y0 := hat 0 _ rfl
    have f1 : DataW.trod enc Tryd.prog w base spare held k 3 (([v0, v1, v2, v3].drop 1).take (Tryd.prog.cellsOf 3)) = some y1 := hat 1 _ rfl
    have f2 : DataW.trod enc Tryd.prog w base spare held k 3 (([v0, v1, v2, v3].drop 2).take (Tryd.prog.cellsOf 3)) = some y2 := hat 2 _ rfl
    have f3 : DataW.trod enc Tryd.prog w base spare held k 24 (([v0, v1, v2, v3].drop 3).take (Tryd.prog.cellsOf 24)) = some y3 := hat 3 _ rfl
    rw [cells3] at f0 f1 f2
    rw [cells24] at f3
    obtain ⟨z0, e0, _, _⟩ := DataW.trod_int Tryd.underlying3 f0
    obtain ⟨z1, e1, _, _⟩ := DataW.trod_int Tryd.underlying3 f1
    obtain ⟨z2, e2, _, _⟩ := DataW.trod_int Tryd.underlying3 f2
    simp at e0 e1 e2
    subst e0 e1 e2
    have f4 : DataW.trod enc Tryd.prog w base spare held k 24 [v3] = some y3 := f3
    rcases open_slice Tryd.underlying24 f4 with ⟨hcs, _⟩ | ⟨a, len, cap, m, n', D, Pl, hcs, hb, hln, hm, hmm, hx, hi⟩
    · simp at hcs
      subst hcs
      exact ⟨⟨z0, z1, z2, none, 0, 0⟩, rfl, Nat.le_refl _, Nat.zero_le _⟩
    · simp at hcs
      subst hcs
      exact ⟨⟨z0, z1, z2, some a, len, cap⟩, rfl, hln, hm⟩
end Go.Proofs.YtabnfiligbpocaaDoor
