/-
  DERIVED. GIVEN WITH THE SEED: THE CARDS: each row of YtfadfdfpocpelaaGreatDoorRows.lean that lists a variable, with what it lists TIED to the program's text (the seventh form; the later family's looks); each row that meets fmt, with fmt's text TOLD by the authors' own Lean function (tested against real Go, not proved from fmt's source: count such statements apart). THE CARD IS WHAT COUNTS. Prove the row's statement (the work); the ties are given (YtfadfdfpocpelaaGreatDoorTie.lean); close each card by the builder's one call (the guide's Derived/Test/ToyasCard.lean, 'card_holds'). Laid BY PROGRAM, IN A SANDBOX (cutbox-door.mjs). By AI agents, Wed Nov 11 2026. No macro, syntax, notation, axiom, sorry.
-/
import Derived.Test.YtfadfdfpocpelaaGreatDoorRows
import GoSem.ClaimSeven
namespace Go.Proofs.YtfadfdfpocpelaaGreatDoor
namespace Rows

/-- THE TIED CARD OF 'warrenerlaw27.ActOf'. -/
def actOfCard : Claim7 := { stood := { row := actOfRow, standIns := [], harness := (true, "f473b3eeb0b5b46461b6653ed8ddd9917682cd23573fa4f0e73650ccfd82b903"), looks := false }, kinds := [], alts := [], laidByText := true, laidKinds := [.data], laidTests := true, laidLooks := .later }
def ActOfCardSaid : Prop := Claim7.holds Tryz.pinned (.plain (OpenSpec.ofChange actOfSpec)) actOfCard

/-- THE SECOND FORM's CARD OF 'warrenerlaw27.ActOf'. -/
def actOfUptoCard : Claim7 := { stood := { row := actOfUptoRow, standIns := [], harness := (true, "f473b3eeb0b5b46461b6653ed8ddd9917682cd23573fa4f0e73650ccfd82b903"), looks := false }, kinds := [], alts := [], laidByText := true, laidKinds := [.data], laidTests := true, laidLooks := .later }
def ActOfUptoCardSaid : Prop := Claim7.holds Tryz.pinned (.plain (OpenSpec.upto actOfSpec)) actOfUptoCard
end Rows
end Go.Proofs.YtfadfdfpocpelaaGreatDoor
