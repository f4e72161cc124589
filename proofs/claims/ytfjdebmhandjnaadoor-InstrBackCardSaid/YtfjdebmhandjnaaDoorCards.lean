/-
  DERIVED. GIVEN WITH THE SEED: THE CARDS: each row of YtfjdebmhandjnaaDoorRows.lean that lists a variable, with what it lists TIED to the program's text (the seventh form; the later family's looks); each row that meets fmt, with fmt's text TOLD by the authors' own Lean function (tested against real Go, not proved from fmt's source: count such statements apart). THE CARD IS WHAT COUNTS. Prove the row's statement (the work); the ties are given (YtfjdebmhandjnaaDoorTie.lean); close each card by the builder's one call (the guide's Derived/Test/ToyasCard.lean, 'card_holds'). Laid BY PROGRAM, IN A SANDBOX (cutbox-door.mjs). By AI agents, Wed Nov 11 2026. No macro, syntax, notation, axiom, sorry.
-/
import Derived.Test.YtfjdebmhandjnaaDoorRows
import GoSem.ClaimSeven
namespace Go.Proofs.YtfjdebmhandjnaaDoor
namespace Rows

/-- THE TIED CARD OF 'warrenerlaw10.InstrOctets'. -/
def instrOctetsCard : Claim7 := { stood := { row := instrOctetsRow, standIns := [], harness := (true, "fb16889c9776e586ce3b851c1a95f2ad005c3739e8bd965342fe2ae7470930a0"), looks := false }, kinds := [], alts := [], laidByText := true, laidKinds := [.data], laidTests := true, laidLooks := .later }
def InstrOctetsCardSaid : Prop := Claim7.holds Tryd.pinned (.plain (OpenSpec.ofChange instrOctetsSpec)) instrOctetsCard

/-- THE TIED CARD OF 'warrenerlaw10.InstrBack'. -/
def instrBackCard : Claim7 := { stood := { row := instrBackRow, standIns := [], harness := (true, "fb16889c9776e586ce3b851c1a95f2ad005c3739e8bd965342fe2ae7470930a0"), looks := false }, kinds := [], alts := [], laidByText := true, laidKinds := [.data], laidTests := true, laidLooks := .later }
def InstrBackCardSaid : Prop := Claim7.holds Tryd.pinned (.plain (OpenSpec.ofChange instrBackSpec)) instrBackCard

/-- THE SECOND FORM's CARD OF 'warrenerlaw10.InstrOctets'. -/
def instrOctetsUptoCard : Claim7 := { stood := { row := instrOctetsUptoRow, standIns := [], harness := (true, "fb16889c9776e586ce3b851c1a95f2ad005c3739e8bd965342fe2ae7470930a0"), looks := false }, kinds := [], alts := [], laidByText := true, laidKinds := [.data], laidTests := true, laidLooks := .later }
def InstrOctetsUptoCardSaid : Prop := Claim7.holds Tryd.pinned (.plain (OpenSpec.upto instrOctetsSpec)) instrOctetsUptoCard

/-- THE SECOND FORM's CARD OF 'warrenerlaw10.InstrBack'. -/
def instrBackUptoCard : Claim7 := { stood := { row := instrBackUptoRow, standIns := [], harness := (true, "fb16889c9776e586ce3b851c1a95f2ad005c3739e8bd965342fe2ae7470930a0"), looks := false }, kinds := [], alts := [], laidByText := true, laidKinds := [.data], laidTests := true, laidLooks := .later }
def InstrBackUptoCardSaid : Prop := Claim7.holds Tryd.pinned (.plain (OpenSpec.upto instrBackSpec)) instrBackUptoCard
end Rows
end Go.Proofs.YtfjdebmhandjnaaDoor
