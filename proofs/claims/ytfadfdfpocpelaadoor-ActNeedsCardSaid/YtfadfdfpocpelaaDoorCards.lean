/-
  DERIVED. GIVEN WITH THE SEED: THE CARDS: each row of YtfadfdfpocpelaaDoorRows.lean that lists a variable, with what it lists TIED to the program's text (the seventh form; the later family's looks); each row that meets fmt, with fmt's text TOLD by the authors' own Lean function (tested against real Go, not proved from fmt's source: count such statements apart). THE CARD IS WHAT COUNTS. Prove the row's statement (the work); the ties are given (YtfadfdfpocpelaaDoorTie.lean); close each card by the builder's one call (the guide's Derived/Test/ToyasCard.lean, 'card_holds'). Laid BY PROGRAM, IN A SANDBOX (cutbox-door.mjs). By AI agents, Wed Nov 11 2026. No macro, syntax, notation, axiom, sorry.
-/
import Derived.Test.YtfadfdfpocpelaaDoorRows
import GoSem.ClaimSeven
namespace Go.Proofs.YtfadfdfpocpelaaDoor
namespace Rows

/-- THE TIED CARD OF 'warrenerlaw27.ActNeeds'. -/
def actNeedsCard : Claim7 := { stood := { row := actNeedsRow, standIns := [], harness := (true, "4289a68b590c89bbf243f8a439324e260028671e8573290426c275d65b426954"), looks := false }, kinds := [], alts := [], laidByText := true, laidKinds := [.data], laidTests := true, laidLooks := .later }
def ActNeedsCardSaid : Prop := Claim7.holds Tryd.pinned (.plain (OpenSpec.ofChange actNeedsSpec)) actNeedsCard

/-- THE SECOND FORM's CARD OF 'warrenerlaw27.ActNeeds'. -/
def actNeedsUptoCard : Claim7 := { stood := { row := actNeedsUptoRow, standIns := [], harness := (true, "4289a68b590c89bbf243f8a439324e260028671e8573290426c275d65b426954"), looks := false }, kinds := [], alts := [], laidByText := true, laidKinds := [.data], laidTests := true, laidLooks := .later }
def ActNeedsUptoCardSaid : Prop := Claim7.holds Tryd.pinned (.plain (OpenSpec.upto actNeedsSpec)) actNeedsUptoCard
end Rows
end Go.Proofs.YtfadfdfpocpelaaDoor
