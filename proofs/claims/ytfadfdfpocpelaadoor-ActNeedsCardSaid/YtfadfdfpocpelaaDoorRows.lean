/-
  NARROWER THAN 'FOR EVERY INPUT', by the rows' own cells (each row's printed sentence says how): ActNeeds: laid.
  DERIVED. THE GIVEN ROWS OF THIS SEAT. 1 by the template 'for every input the law returns true; each argument reads behind the call as it read before'; 0 by the template 'total and deterministic' (their statements: YtfadfdfpocpelaaDoorTotals.lean).
  GIVEN WITH THE SEED: the statements are not yours to turn. If you find one false, say at which input.
  Laid BY PROGRAM, IN A SANDBOX (cutbox-rows.mjs): the forced cells as the released guide's own fill.sh prints them over the translation 7a8e9a3a0fe2d041… (all of the seat's roots in one cut). By AI agents, Wed Nov 11 2026. No macro, syntax, notation, axiom, sorry.
-/
import Derived.Test.YtfadfdfpocpelaaDoorChecked
import GoSem.Claim
import GoSem.ClaimJoined
import GoSem.ClaimMapViews
import Derived.JoinedTies
import Derived.KernelRfl
namespace Go.Proofs.YtfadfdfpocpelaaDoor
/- THE CELL 'sum', in the pinned program and in every row, IS THE sha256 OF THE DUMP (.gsa) THAT YtfadfdfpocpelaaDoorProg.lean LOADS. Nothing in Lean hashes anything: it is a label: what it is worth is what the hold of that sum in a sandbox is worth. -/
noncomputable def Tryd.pinned : Pinned := { name := "ytfadfdfpocpelaadoor", sum := "7a8e9a3a0fe2d0411d0a0972c605040cfb8f698ca1f3819a0be3eec5b26f1241", checked := Tryd.checked }
namespace Rows
def none {H : Type} : Left H := { results := [], args := [] }

/- WHAT THE LISTED PACKAGE-LEVEL VARIABLES READ AS WHEN THE CALL BEGINS. Each datum BY PROGRAM (the guide's laid-datum.mjs) off the statement by which the dump's own 'gosem.cut.vars' lays the variable. In a bare row this is a premise. The card (YtfadfdfpocpelaaDoorCards.lean) ties it to the program's text. -/
def laid_warrener_op_rows {H : Type} : DataW H := .agg [.agg [.lit (.string []), .lit (.string [])], .agg [.lit (.string [104, 97, 108, 116]), .lit (.string [45, 45, 45, 45])], .agg [.lit (.string [115, 101, 116]), .lit (.string [114, 45, 45, 110])], .agg [.lit (.string [99, 111, 112, 121]), .lit (.string [114, 114, 45, 45])], .agg [.lit (.string [97, 100, 100]), .lit (.string [114, 114, 114, 45])], .agg [.lit (.string [115, 117, 98]), .lit (.string [114, 114, 114, 45])], .agg [.lit (.string [109, 117, 108]), .lit (.string [114, 114, 114, 45])], .agg [.lit (.string [100, 105, 118]), .lit (.string [114, 114, 114, 45])], .agg [.lit (.string [106, 117, 109, 112]), .lit (.string [45, 45, 45, 116])], .agg [.lit (.string [122, 101, 114, 111]), .lit (.string [114, 45, 45, 116])], .agg [.lit (.string [115, 97, 109, 101]), .lit (.string [114, 114, 45, 116])], .agg [.lit (.string [108, 111, 111, 107]), .lit (.string [114, 103, 45, 45])], .agg [.lit (.string [112, 117, 116]), .lit (.string [103, 114, 45, 45])], .agg [.lit (.string [115, 119, 97, 112]), .lit (.string [114, 114, 114, 103])], .agg [.lit (.string [108, 111, 97, 100]), .lit (.string [114, 114, 45, 102])], .agg [.lit (.string [115, 116, 111, 114, 101]), .lit (.string [114, 114, 45, 102])], .agg [.lit (.string [99, 97, 115]), .lit (.string [114, 114, 114, 102])], .agg [.lit (.string [102, 101, 110, 99, 101]), .lit (.string [45, 45, 45, 45])], .agg [.lit (.string [110, 101, 119]), .lit (.string [114, 45, 45, 45])], .agg [.lit (.string [102, 114, 101, 101]), .lit (.string [114, 45, 45, 45])], .agg [.lit (.string [114, 101, 116, 105, 114, 101]), .lit (.string [114, 45, 45, 45])], .agg [.lit (.string [103, 117, 97, 114, 100]), .lit (.string [114, 45, 45, 115])], .agg [.lit (.string [99, 108, 101, 97, 114]), .lit (.string [45, 45, 45, 115])], .agg [.lit (.string [101, 110, 116, 101, 114]), .lit (.string [45, 45, 45, 45])], .agg [.lit (.string [108, 101, 97, 118, 101]), .lit (.string [45, 45, 45, 45])], .agg [.lit (.string [113, 117, 105, 101, 116]), .lit (.string [45, 45, 45, 45])]]

/-- 'warrenerlaw27.ActNeeds': WHATEVER THE INPUT: true; the input reads as it did. -/
def actNeedsSpec : ChangeSpec := { name := "actNeeds", fn := fun _ => fun
  | [d1, d2] => { results := [.lit (.bool true)], args := [d1, d2] }
  | _ => none }
def actNeedsRow : OpenClaim := { program := "ytfadfdfpocpelaadoor", sum := "7a8e9a3a0fe2d0411d0a0972c605040cfb8f698ca1f3819a0be3eec5b26f1241", func := "warrener/warrenerlaw27.ActNeeds", spec := "actNeeds", unfollowed := true, recurses := true, named := ["warrener/op.rows"], apart := false, laid := [("warrener/op.rows", laid_warrener_op_rows)] }
def ActNeedsSaid : Prop := actNeedsRow.holds Tryd.pinned (OpenSpec.ofChange actNeedsSpec)

/-- ITS FALSE NEIGHBOUR: 'it returns false'. Refute it at one input. -/
def actNeedsWrong : ChangeSpec := { name := "actNeeds", fn := fun _ => fun
  | [d1, d2] => { results := [.lit (.bool false)], args := [d1, d2] }
  | _ => none }
def ActNeedsWrongFalsely : Prop := actNeedsRow.holds Tryd.pinned (OpenSpec.ofChange actNeedsWrong)

/- THE SECOND FORM. 'bulk': how many values and letters a reading holds, each counted each time it is reached (what is shared counts as often as it is met; a slice's spare places count too). A statement '..UptoSaid' is the law's where the arguments, and the package variables that the reading takes, are together of bulk at most 1048576: NARROWER than '..Said'. Prove '..Said' where nothing that the law and all that it calls make is longer than what came in: it says more and counts as full. Else prove '..UptoSaid'. A law counts once. -/
mutual
def uptoBulk {H : Type} : DataW H → Nat
  | .lit (.string bytes) => bytes.length + 1
  | .lit _ => 1
  | .nil => 1
  | .ptr d => uptoBulk d + 1
  | .slice elems spare => uptoBulkAll elems + uptoBulkAll spare + 1
  | .agg parts => uptoBulkAll parts + 1
  | .iface _ d => uptoBulk d + 1
  | .map entries => uptoBulkEntries entries + 1
  | .held _ => 1
def uptoBulkAll {H : Type} : List (DataW H) → Nat
  | [] => 0
  | d :: r => uptoBulk d + uptoBulkAll r
def uptoBulkEntries {H : Type} : List (Lit × DataW H) → Nat
  | [] => 0
  | x :: r => uptoBulkEntry x + uptoBulkEntries r
def uptoBulkEntry {H : Type} : Lit × DataW H → Nat
  | (.string bytes, d) => bytes.length + uptoBulk d + 1
  | (_, d) => uptoBulk d + 1
 end
def uptoSmall : (H : Type) → List (DataW H) → Bool := fun _ ds => decide (uptoBulkAll ds ≤ 1048576)
def OpenSpec.upto (s : _root_.Go.ChangeSpec) : _root_.Go.OpenSpec := { _root_.Go.OpenSpec.ofChange s with cond := some uptoSmall }

/-- 'warrenerlaw27.ActNeeds', WHERE WHAT IT READS IS OF BULK AT MOST 1048576: true; the input reads as it did. -/
def actNeedsUptoRow : OpenClaim := { program := "ytfadfdfpocpelaadoor", sum := "7a8e9a3a0fe2d0411d0a0972c605040cfb8f698ca1f3819a0be3eec5b26f1241", func := "warrener/warrenerlaw27.ActNeeds", spec := "actNeeds", unfollowed := true, recurses := true, named := ["warrener/op.rows"], apart := false, laid := [("warrener/op.rows", laid_warrener_op_rows)], narrowed := true }
def ActNeedsUptoSaid : Prop := actNeedsUptoRow.holds Tryd.pinned (OpenSpec.upto actNeedsSpec)

end Rows
end Go.Proofs.YtfadfdfpocpelaaDoor
