/- '==' of entries. Conditions: none. -/
import Derived.Test.YtclnkgoaenlhhaaBase
namespace Go.Proofs.Ytclnkgoaenlhhaa
open Go.ChangeShapes Go.WideShapes Go.RowKit
set_option maxRecDepth 100000 in
set_option maxHeartbeats 4000000 in
theorem eq35 (x y : Ent) (w : World) : (binOp BinOp.eql 35 (.agg x.cs.toArray) (.agg y.cs.toArray)).run Try.prog w = .ok (.bool (decide (x = y))) w := by
  obtain ⟨⟨a, b, c⟩, ⟨d, f, g⟩, h, i⟩ := x
  obtain ⟨⟨a', b', c'⟩, ⟨d', f', g'⟩, h', i'⟩ := y
  unfold Ent.cs
  go_simp
  repeat' split
  all_goals simp_all
set_option maxRecDepth 100000 in
set_option maxHeartbeats 4000000 in
theorem neq35 (x y : Ent) (w : World) : (binOp BinOp.neq 35 (.agg x.cs.toArray) (.agg y.cs.toArray)).run Try.prog w = .ok (.bool (!decide (x = y))) w := by
  obtain ⟨⟨a, b, c⟩, ⟨d, f, g⟩, h, i⟩ := x
  obtain ⟨⟨a', b', c'⟩, ⟨d', f', g'⟩, h', i'⟩ := y
  unfold Ent.cs
  go_simp
  repeat' split
  all_goals simp_all
end Go.Proofs.Ytclnkgoaenlhhaa
