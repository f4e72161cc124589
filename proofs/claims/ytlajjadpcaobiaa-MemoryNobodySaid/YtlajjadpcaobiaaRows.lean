/-
  No cell of these rows narrows 'for every input' (looked for: loops, veiled, ifaces, maps, wideKeys, modest, calm, conditions, laid).
  DERIVED. THE GIVEN ROWS OF THIS SEAT. 4 by the template 'for every input the law returns true; each argument reads behind the call as it read before'; 0 by the template 'total and deterministic' (their statements: YtlajjadpcaobiaaTotals.lean).
  GIVEN WITH THE SEED: the statements are not yours to turn. If you find one false, say at which input.
  Laid BY PROGRAM, IN A SANDBOX (cutbox-rows.mjs): the forced cells as the released guide's own fill.sh prints them over the translation 812d57b86bb213f3… (all of the seat's roots in one cut). By AI agents, Wed Nov 11 2026. No macro, syntax, notation, axiom, sorry.
-/
import Derived.Test.YtlajjadpcaobiaaChecked
import GoSem.Claim
import GoSem.ClaimJoined
import GoSem.ClaimMapViews
import Derived.JoinedTies
import Derived.KernelRfl
namespace Go.Proofs.Ytlajjadpcaobiaa
/- THE CELL 'sum', in the pinned program and in every row, IS THE sha256 OF THE DUMP (.gsa) THAT YtlajjadpcaobiaaProg.lean LOADS. Nothing in Lean hashes anything: it is a label: what it is worth is what the hold of that sum in a sandbox is worth. -/
noncomputable def Try.pinned : Pinned := { name := "ytlajjadpcaobiaa", sum := "812d57b86bb213f30b386f1bc61179fcb7d306de8ab1eac546abe4238838fce8", checked := Try.checked }
namespace Rows
def none {H : Type} : Left H := { results := [], args := [] }

/-- 'warrenerlaw26.MemoryRuns': WHATEVER THE INPUT: true; the input reads as it did. -/
def memoryRunsSpec : ChangeSpec := { name := "memoryRuns", fn := fun _ => fun
  | [d1, d2, d3] => { results := [.lit (.bool true)], args := [d1, d2, d3] }
  | _ => none }
def memoryRunsRow : OpenClaim := { program := "ytlajjadpcaobiaa", sum := "812d57b86bb213f30b386f1bc61179fcb7d306de8ab1eac546abe4238838fce8", func := "warrener/warrenerlaw26.MemoryRuns", spec := "memoryRuns", unfollowed := true, recurses := true, plainKeys := false, apart := false }
def MemoryRunsSaid : Prop := memoryRunsRow.holds Try.pinned (OpenSpec.ofChange memoryRunsSpec)

/-- ITS FALSE NEIGHBOUR: 'it returns false'. Refute it at one input. -/
def memoryRunsWrong : ChangeSpec := { name := "memoryRuns", fn := fun _ => fun
  | [d1, d2, d3] => { results := [.lit (.bool false)], args := [d1, d2, d3] }
  | _ => none }
def MemoryRunsWrongFalsely : Prop := memoryRunsRow.holds Try.pinned (OpenSpec.ofChange memoryRunsWrong)

/-- 'warrenerlaw26.MemoryUndoes': WHATEVER THE INPUT: true; the input reads as it did. -/
def memoryUndoesSpec : ChangeSpec := { name := "memoryUndoes", fn := fun _ => fun
  | [d1, d2, d3, d4, d5] => { results := [.lit (.bool true)], args := [d1, d2, d3, d4, d5] }
  | _ => none }
def memoryUndoesRow : OpenClaim := { program := "ytlajjadpcaobiaa", sum := "812d57b86bb213f30b386f1bc61179fcb7d306de8ab1eac546abe4238838fce8", func := "warrener/warrenerlaw26.MemoryUndoes", spec := "memoryUndoes", unfollowed := true, recurses := true, plainKeys := false, apart := false }
def MemoryUndoesSaid : Prop := memoryUndoesRow.holds Try.pinned (OpenSpec.ofChange memoryUndoesSpec)

/-- ITS FALSE NEIGHBOUR: 'it returns false'. Refute it at one input. -/
def memoryUndoesWrong : ChangeSpec := { name := "memoryUndoes", fn := fun _ => fun
  | [d1, d2, d3, d4, d5] => { results := [.lit (.bool false)], args := [d1, d2, d3, d4, d5] }
  | _ => none }
def MemoryUndoesWrongFalsely : Prop := memoryUndoesRow.holds Try.pinned (OpenSpec.ofChange memoryUndoesWrong)

/-- 'warrenerlaw26.MemoryClones': WHATEVER THE INPUT: true; the input reads as it did. -/
def memoryClonesSpec : ChangeSpec := { name := "memoryClones", fn := fun _ => fun
  | [d1, d2, d3, d4, d5] => { results := [.lit (.bool true)], args := [d1, d2, d3, d4, d5] }
  | _ => none }
def memoryClonesRow : OpenClaim := { program := "ytlajjadpcaobiaa", sum := "812d57b86bb213f30b386f1bc61179fcb7d306de8ab1eac546abe4238838fce8", func := "warrener/warrenerlaw26.MemoryClones", spec := "memoryClones", unfollowed := true, recurses := true, plainKeys := false, apart := false }
def MemoryClonesSaid : Prop := memoryClonesRow.holds Try.pinned (OpenSpec.ofChange memoryClonesSpec)

/-- ITS FALSE NEIGHBOUR: 'it returns false'. Refute it at one input. -/
def memoryClonesWrong : ChangeSpec := { name := "memoryClones", fn := fun _ => fun
  | [d1, d2, d3, d4, d5] => { results := [.lit (.bool false)], args := [d1, d2, d3, d4, d5] }
  | _ => none }
def MemoryClonesWrongFalsely : Prop := memoryClonesRow.holds Try.pinned (OpenSpec.ofChange memoryClonesWrong)

/-- 'warrenerlaw26.MemoryNobody': WHATEVER THE INPUT: true; the input reads as it did. -/
def memoryNobodySpec : ChangeSpec := { name := "memoryNobody", fn := fun _ => fun
  | [d1, d2, d3] => { results := [.lit (.bool true)], args := [d1, d2, d3] }
  | _ => none }
def memoryNobodyRow : OpenClaim := { program := "ytlajjadpcaobiaa", sum := "812d57b86bb213f30b386f1bc61179fcb7d306de8ab1eac546abe4238838fce8", func := "warrener/warrenerlaw26.MemoryNobody", spec := "memoryNobody", unfollowed := true, recurses := true, plainKeys := false, apart := false }
def MemoryNobodySaid : Prop := memoryNobodyRow.holds Try.pinned (OpenSpec.ofChange memoryNobodySpec)

/-- ITS FALSE NEIGHBOUR: 'it returns false'. Refute it at one input. -/
def memoryNobodyWrong : ChangeSpec := { name := "memoryNobody", fn := fun _ => fun
  | [d1, d2, d3] => { results := [.lit (.bool false)], args := [d1, d2, d3] }
  | _ => none }
def MemoryNobodyWrongFalsely : Prop := memoryNobodyRow.holds Try.pinned (OpenSpec.ofChange memoryNobodyWrong)

/- THE SECOND FORM. 'bulk': how many values and letters a reading holds, each counted each time it is reached (what is shared counts as often as it is met; a slice's spare places count too). A statement '..UptoSaid' is the law's where the arguments, and the package variables that the reading takes, are together of bulk at most 1048576: NARROWER than '..Said'. Prove '..Said' where nothing that the law and all that it calls make is longer than what came in: it says more and counts as full. Else prove '..UptoSaid'. A law counts once. -/
mutual
def uptoBulk {H : Type} : DataW H → Nat
  | .lit (.string bytes) => bytes.length + 1
  | .lit _ => 1
  | .nil => 1
  | .ptr d => uptoBulk d + 1
  | .slice elems spare => uptoBulkAll elems + uptoBulkAll spare + 1
  | .agg parts => uptoBulkAll parts + 1
  | .iface _ d => uptoBulk d + 1
  | .map entries => uptoBulkEntries entries + 1
  | .held _ => 1
def uptoBulkAll {H : Type} : List (DataW H) → Nat
  | [] => 0
  | d :: r => uptoBulk d + uptoBulkAll r
def uptoBulkEntries {H : Type} : List (Lit × DataW H) → Nat
  | [] => 0
  | x :: r => uptoBulkEntry x + uptoBulkEntries r
def uptoBulkEntry {H : Type} : Lit × DataW H → Nat
  | (.string bytes, d) => bytes.length + uptoBulk d + 1
  | (_, d) => uptoBulk d + 1
 end
def uptoSmall : (H : Type) → List (DataW H) → Bool := fun _ ds => decide (uptoBulkAll ds ≤ 1048576)
def OpenSpec.upto (s : _root_.Go.ChangeSpec) : _root_.Go.OpenSpec := { _root_.Go.OpenSpec.ofChange s with cond := some uptoSmall }

/-- 'warrenerlaw26.MemoryRuns', WHERE WHAT IT READS IS OF BULK AT MOST 1048576: true; the input reads as it did. -/
def memoryRunsUptoRow : OpenClaim := { program := "ytlajjadpcaobiaa", sum := "812d57b86bb213f30b386f1bc61179fcb7d306de8ab1eac546abe4238838fce8", func := "warrener/warrenerlaw26.MemoryRuns", spec := "memoryRuns", unfollowed := true, recurses := true, plainKeys := false, apart := false, narrowed := true }
def MemoryRunsUptoSaid : Prop := memoryRunsUptoRow.holds Try.pinned (OpenSpec.upto memoryRunsSpec)

/-- 'warrenerlaw26.MemoryUndoes', WHERE WHAT IT READS IS OF BULK AT MOST 1048576: true; the input reads as it did. -/
def memoryUndoesUptoRow : OpenClaim := { program := "ytlajjadpcaobiaa", sum := "812d57b86bb213f30b386f1bc61179fcb7d306de8ab1eac546abe4238838fce8", func := "warrener/warrenerlaw26.MemoryUndoes", spec := "memoryUndoes", unfollowed := true, recurses := true, plainKeys := false, apart := false, narrowed := true }
def MemoryUndoesUptoSaid : Prop := memoryUndoesUptoRow.holds Try.pinned (OpenSpec.upto memoryUndoesSpec)

/-- 'warrenerlaw26.MemoryClones', WHERE WHAT IT READS IS OF BULK AT MOST 1048576: true; the input reads as it did. -/
def memoryClonesUptoRow : OpenClaim := { program := "ytlajjadpcaobiaa", sum := "812d57b86bb213f30b386f1bc61179fcb7d306de8ab1eac546abe4238838fce8", func := "warrener/warrenerlaw26.MemoryClones", spec := "memoryClones", unfollowed := true, recurses := true, plainKeys := false, apart := false, narrowed := true }
def MemoryClonesUptoSaid : Prop := memoryClonesUptoRow.holds Try.pinned (OpenSpec.upto memoryClonesSpec)

/-- 'warrenerlaw26.MemoryNobody', WHERE WHAT IT READS IS OF BULK AT MOST 1048576: true; the input reads as it did. -/
def memoryNobodyUptoRow : OpenClaim := { program := "ytlajjadpcaobiaa", sum := "812d57b86bb213f30b386f1bc61179fcb7d306de8ab1eac546abe4238838fce8", func := "warrener/warrenerlaw26.MemoryNobody", spec := "memoryNobody", unfollowed := true, recurses := true, plainKeys := false, apart := false, narrowed := true }
def MemoryNobodyUptoSaid : Prop := memoryNobodyUptoRow.holds Try.pinned (OpenSpec.upto memoryNobodySpec)

end Rows
end Go.Proofs.Ytlajjadpcaobiaa
