/- How a word by value came in. Conditions: none. -/
import Derived.Test.YtdilmapcjmdabaaBase
import Derived.Deep.Slices
import Derived.DataShut
import Derived.ProofKit
import Derived.OpenShut
import Derived.ChangeOld
import Derived.Below
namespace Go.Proofs.Ytdilmapcjmdabaa
open Go.RowKit Go.ChangeShapes Go.WideShapes Go.Deep

theorem array3 {α : Type} {cs : Array α} (h : cs.size = 3) : ∃ c0 c1 c2, cs = #[c0, c1, c2] := by
  obtain ⟨l⟩ := cs
  match l, h with
  | [c0, c1, c2], _ => exact ⟨c0, c1, c2, rfl⟩
theorem cells24 : Try.prog.cellsOf 24 = 3 := by kernel_rfl
theorem cells2 : Try.prog.cellsOf 2 = 1 := by kernel_rfl
theorem cells3 : Try.prog.cellsOf 3 = 1 := by kernel_rfl
set_option maxRecDepth 100000 in
theorem word_in {H : Type} {enc : TypeId × Value → H} {w : World} {r : Reach} {b0 base : Nat} {spare : Nat → Bool} {held : Bool} {v : Value} {d : DataW H} {p : List MemPlace}
    (hv : Value.okWide Try.prog w r b0 24 v) (h : DataW.Trod enc Try.prog w base spare held 24 v d p) : ∃ x : Wd, v = .agg #[.int .i64 x.n, .int .i64 x.c, .int .i64 x.g] := by
  obtain ⟨cs, rfl, hsz⟩ := okWide_struct Try.underlying24 hv
  obtain ⟨c0, c1, c2, rfl⟩ := array3 (hsz.trans cells24)
  obtain ⟨fuel, hf⟩ := h
  obtain ⟨ys, k, _, _, _, hyl, hat⟩ := DataW.trod_struct Try.underlying24 hf
  match ys, hyl with
  | [y0, y1, y2], _ =>
    have f0 : DataW.trod enc Try.prog w base spare held k 2 (([c0, c1, c2].drop 0).take (Try.prog.cellsOf 2)) = some y0 := hat 0 _ rfl
    have f1 : DataW.trod enc Try.prog w base spare held k 3 (([c0, c1, c2].drop 1).take (Try.prog.cellsOf 3)) = some y1 := hat 1 _ rfl
    have f2 : DataW.trod enc Try.prog w base spare held k 3 (([c0, c1, c2].drop 2).take (Try.prog.cellsOf 3)) = some y2 := hat 2 _ rfl
    rw [cells2] at f0
    rw [cells3] at f1 f2
    obtain ⟨z0, e0, _, _⟩ := DataW.trod_int Try.underlying2 f0
    obtain ⟨z1, e1, _, _⟩ := DataW.trod_int Try.underlying3 f1
    obtain ⟨z2, e2, _, _⟩ := DataW.trod_int Try.underlying3 f2
    simp at e0 e1 e2
    subst e0 e1 e2
    exact ⟨⟨z0, z1, z2⟩, rfl⟩
end Go.Proofs.Ytdilmapcjmdabaa
