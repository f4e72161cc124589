/-
  No cell of these rows narrows 'for every input' (looked for: loops, veiled, ifaces, maps, wideKeys, modest, calm, conditions, laid).
  DERIVED. THE GIVEN ROWS OF THIS SEAT. 3 by the template 'for every input the law returns true; each argument reads behind the call as it read before'; 0 by the template 'total and deterministic' (their statements: YthhjaikpdpchlaaTotals.lean).
  GIVEN WITH THE SEED: the statements are not yours to turn. If you find one false, say at which input.
  Laid BY PROGRAM, IN A SANDBOX (cutbox-rows.mjs): the forced cells as the released guide's own fill.sh prints them over the translation 7fde4f3504607401… (all of the seat's roots in one cut). By AI agents, Wed Nov 11 2026. No macro, syntax, notation, axiom, sorry.
-/
import Derived.Test.YthhjaikpdpchlaaChecked
import GoSem.Claim
import GoSem.ClaimJoined
import GoSem.ClaimMapViews
import Derived.JoinedTies
import Derived.KernelRfl
namespace Go.Proofs.Ythhjaikpdpchlaa
/- THE CELL 'sum', in the pinned program and in every row, IS THE sha256 OF THE DUMP (.gsa) THAT YthhjaikpdpchlaaProg.lean LOADS. Nothing in Lean hashes anything: it is a label: what it is worth is what the hold of that sum in a sandbox is worth. -/
noncomputable def Try.pinned : Pinned := { name := "ythhjaikpdpchlaa", sum := "7fde4f35046074014362c41f411d495110097df96eb68d373819d8d22cb8076f", checked := Try.checked }
namespace Rows
def none {H : Type} : Left H := { results := [], args := [] }

/-- 'warrenerlaw15.TagWords': WHATEVER THE INPUT: true; the input reads as it did. -/
def tagWordsSpec : ChangeSpec := { name := "tagWords", fn := fun _ => fun
  | [d1, d2, d3] => { results := [.lit (.bool true)], args := [d1, d2, d3] }
  | _ => none }
def tagWordsRow : OpenClaim := { program := "ythhjaikpdpchlaa", sum := "7fde4f35046074014362c41f411d495110097df96eb68d373819d8d22cb8076f", func := "warrener/warrenerlaw15.TagWords", spec := "tagWords", apart := false }
def TagWordsSaid : Prop := tagWordsRow.holds Try.pinned (OpenSpec.ofChange tagWordsSpec)

/-- ITS FALSE NEIGHBOUR: 'it returns false'. Refute it at one input. -/
def tagWordsWrong : ChangeSpec := { name := "tagWords", fn := fun _ => fun
  | [d1, d2, d3] => { results := [.lit (.bool false)], args := [d1, d2, d3] }
  | _ => none }
def TagWordsWrongFalsely : Prop := tagWordsRow.holds Try.pinned (OpenSpec.ofChange tagWordsWrong)

/-- 'warrenerlaw15.TagLikes': WHATEVER THE INPUT: true; the input reads as it did. -/
def tagLikesSpec : ChangeSpec := { name := "tagLikes", fn := fun _ => fun
  | [d1, d2] => { results := [.lit (.bool true)], args := [d1, d2] }
  | _ => none }
def tagLikesRow : OpenClaim := { program := "ythhjaikpdpchlaa", sum := "7fde4f35046074014362c41f411d495110097df96eb68d373819d8d22cb8076f", func := "warrener/warrenerlaw15.TagLikes", spec := "tagLikes", apart := false }
def TagLikesSaid : Prop := tagLikesRow.holds Try.pinned (OpenSpec.ofChange tagLikesSpec)

/-- ITS FALSE NEIGHBOUR: 'it returns false'. Refute it at one input. -/
def tagLikesWrong : ChangeSpec := { name := "tagLikes", fn := fun _ => fun
  | [d1, d2] => { results := [.lit (.bool false)], args := [d1, d2] }
  | _ => none }
def TagLikesWrongFalsely : Prop := tagLikesRow.holds Try.pinned (OpenSpec.ofChange tagLikesWrong)

/-- 'warrenerlaw15.TagAriths': WHATEVER THE INPUT: true; the input reads as it did. -/
def tagArithsSpec : ChangeSpec := { name := "tagAriths", fn := fun _ => fun
  | [d1, d2, d3] => { results := [.lit (.bool true)], args := [d1, d2, d3] }
  | _ => none }
def tagArithsRow : OpenClaim := { program := "ythhjaikpdpchlaa", sum := "7fde4f35046074014362c41f411d495110097df96eb68d373819d8d22cb8076f", func := "warrener/warrenerlaw15.TagAriths", spec := "tagAriths", apart := false }
def TagArithsSaid : Prop := tagArithsRow.holds Try.pinned (OpenSpec.ofChange tagArithsSpec)

/-- ITS FALSE NEIGHBOUR: 'it returns false'. Refute it at one input. -/
def tagArithsWrong : ChangeSpec := { name := "tagAriths", fn := fun _ => fun
  | [d1, d2, d3] => { results := [.lit (.bool false)], args := [d1, d2, d3] }
  | _ => none }
def TagArithsWrongFalsely : Prop := tagArithsRow.holds Try.pinned (OpenSpec.ofChange tagArithsWrong)

/- THE SECOND FORM. 'bulk': how many values and letters a reading holds, each counted each time it is reached (what is shared counts as often as it is met; a slice's spare places count too). A statement '..UptoSaid' is the law's where the arguments, and the package variables that the reading takes, are together of bulk at most 1048576: NARROWER than '..Said'. Prove '..Said' where nothing that the law and all that it calls make is longer than what came in: it says more and counts as full. Else prove '..UptoSaid'. A law counts once. -/
mutual
def uptoBulk {H : Type} : DataW H → Nat
  | .lit (.string bytes) => bytes.length + 1
  | .lit _ => 1
  | .nil => 1
  | .ptr d => uptoBulk d + 1
  | .slice elems spare => uptoBulkAll elems + uptoBulkAll spare + 1
  | .agg parts => uptoBulkAll parts + 1
  | .iface _ d => uptoBulk d + 1
  | .map entries => uptoBulkEntries entries + 1
  | .held _ => 1
def uptoBulkAll {H : Type} : List (DataW H) → Nat
  | [] => 0
  | d :: r => uptoBulk d + uptoBulkAll r
def uptoBulkEntries {H : Type} : List (Lit × DataW H) → Nat
  | [] => 0
  | x :: r => uptoBulkEntry x + uptoBulkEntries r
def uptoBulkEntry {H : Type} : Lit × DataW H → Nat
  | (.string bytes, d) => bytes.length + uptoBulk d + 1
  | (_, d) => uptoBulk d + 1
 end
def uptoSmall : (H : Type) → List (DataW H) → Bool := fun _ ds => decide (uptoBulkAll ds ≤ 1048576)
def OpenSpec.upto (s : _root_.Go.ChangeSpec) : _root_.Go.OpenSpec := { _root_.Go.OpenSpec.ofChange s with cond := some uptoSmall }

/-- 'warrenerlaw15.TagWords', WHERE WHAT IT READS IS OF BULK AT MOST 1048576: true; the input reads as it did. -/
def tagWordsUptoRow : OpenClaim := { program := "ythhjaikpdpchlaa", sum := "7fde4f35046074014362c41f411d495110097df96eb68d373819d8d22cb8076f", func := "warrener/warrenerlaw15.TagWords", spec := "tagWords", apart := false, narrowed := true }
def TagWordsUptoSaid : Prop := tagWordsUptoRow.holds Try.pinned (OpenSpec.upto tagWordsSpec)

/-- 'warrenerlaw15.TagLikes', WHERE WHAT IT READS IS OF BULK AT MOST 1048576: true; the input reads as it did. -/
def tagLikesUptoRow : OpenClaim := { program := "ythhjaikpdpchlaa", sum := "7fde4f35046074014362c41f411d495110097df96eb68d373819d8d22cb8076f", func := "warrener/warrenerlaw15.TagLikes", spec := "tagLikes", apart := false, narrowed := true }
def TagLikesUptoSaid : Prop := tagLikesUptoRow.holds Try.pinned (OpenSpec.upto tagLikesSpec)

/-- 'warrenerlaw15.TagAriths', WHERE WHAT IT READS IS OF BULK AT MOST 1048576: true; the input reads as it did. -/
def tagArithsUptoRow : OpenClaim := { program := "ythhjaikpdpchlaa", sum := "7fde4f35046074014362c41f411d495110097df96eb68d373819d8d22cb8076f", func := "warrener/warrenerlaw15.TagAriths", spec := "tagAriths", apart := false, narrowed := true }
def TagArithsUptoSaid : Prop := tagArithsUptoRow.holds Try.pinned (OpenSpec.upto tagArithsSpec)

end Rows
end Go.Proofs.Ythhjaikpdpchlaa
