/-
  DERIVED. GIVEN WITH THE SEED: THE CARDS: each row of YtcbekkbhhepeaaaDoorRows.lean that lists a variable, with what it lists TIED to the program's text (the seventh form; the later family's looks); each row that meets fmt, with fmt's text TOLD by the authors' own Lean function (tested against real Go, not proved from fmt's source: count such statements apart). THE CARD IS WHAT COUNTS. Prove the row's statement (the work); the ties are given (YtcbekkbhhepeaaaDoorTie.lean); close each card by the builder's one call (the guide's Derived/Test/ToyasCard.lean, 'card_holds'). Laid BY PROGRAM, IN A SANDBOX (cutbox-door.mjs). By AI agents, Wed Nov 11 2026. No macro, syntax, notation, axiom, sorry.
-/
import Derived.Test.YtcbekkbhhepeaaaDoorRows
import GoSem.ClaimSeven
namespace Go.Proofs.YtcbekkbhhepeaaaDoor
namespace Rows

/-- THE TIED CARD OF 'warrenerlaw11.ProgChecks'. -/
def progChecksCard : Claim7 := { stood := { row := progChecksRow, standIns := [], harness := (true, "46b978c9bce45191a36c03ba6b34055525547121f508e2c94e6285e41631fd1e"), looks := true }, kinds := [], alts := [], laidByText := true, laidKinds := [.data], laidTests := true, laidLooks := .later }
def ProgChecksCardSaid : Prop := Claim7.holds Tryd.pinned (.plain (OpenSpec.ofChange progChecksSpec)) progChecksCard

/-- THE TIED CARD OF 'warrenerlaw11.ProgGets'. -/
def progGetsCard : Claim7 := { stood := { row := progGetsRow, standIns := [], harness := (true, "46b978c9bce45191a36c03ba6b34055525547121f508e2c94e6285e41631fd1e"), looks := true }, kinds := [], alts := [], laidByText := true, laidKinds := [.data], laidTests := true, laidLooks := .later }
def ProgGetsCardSaid : Prop := Claim7.holds Tryd.pinned (.plain (OpenSpec.ofChange progGetsSpec)) progGetsCard

/-- THE TIED CARD OF 'warrenerlaw11.ProgBack'. -/
def progBackCard : Claim7 := { stood := { row := progBackRow, standIns := [], harness := (true, "46b978c9bce45191a36c03ba6b34055525547121f508e2c94e6285e41631fd1e"), looks := true }, kinds := [], alts := [], laidByText := true, laidKinds := [.data], laidTests := true, laidLooks := .later }
def ProgBackCardSaid : Prop := Claim7.holds Tryd.pinned (.plain (OpenSpec.ofChange progBackSpec)) progBackCard

/-- THE TIED CARD OF 'warrenerlaw11.ProgClones'. -/
def progClonesCard : Claim7 := { stood := { row := progClonesRow, standIns := [], harness := (true, "46b978c9bce45191a36c03ba6b34055525547121f508e2c94e6285e41631fd1e"), looks := true }, kinds := [], alts := [], laidByText := true, laidKinds := [.data], laidTests := true, laidLooks := .later }
def ProgClonesCardSaid : Prop := Claim7.holds Tryd.pinned (.plain (OpenSpec.ofChange progClonesSpec)) progClonesCard

/-- THE SECOND FORM's CARD OF 'warrenerlaw11.ProgChecks'. -/
def progChecksUptoCard : Claim7 := { stood := { row := progChecksUptoRow, standIns := [], harness := (true, "46b978c9bce45191a36c03ba6b34055525547121f508e2c94e6285e41631fd1e"), looks := true }, kinds := [], alts := [], laidByText := true, laidKinds := [.data], laidTests := true, laidLooks := .later }
def ProgChecksUptoCardSaid : Prop := Claim7.holds Tryd.pinned (.plain (OpenSpec.upto progChecksSpec)) progChecksUptoCard

/-- THE SECOND FORM's CARD OF 'warrenerlaw11.ProgGets'. -/
def progGetsUptoCard : Claim7 := { stood := { row := progGetsUptoRow, standIns := [], harness := (true, "46b978c9bce45191a36c03ba6b34055525547121f508e2c94e6285e41631fd1e"), looks := true }, kinds := [], alts := [], laidByText := true, laidKinds := [.data], laidTests := true, laidLooks := .later }
def ProgGetsUptoCardSaid : Prop := Claim7.holds Tryd.pinned (.plain (OpenSpec.upto progGetsSpec)) progGetsUptoCard

/-- THE SECOND FORM's CARD OF 'warrenerlaw11.ProgBack'. -/
def progBackUptoCard : Claim7 := { stood := { row := progBackUptoRow, standIns := [], harness := (true, "46b978c9bce45191a36c03ba6b34055525547121f508e2c94e6285e41631fd1e"), looks := true }, kinds := [], alts := [], laidByText := true, laidKinds := [.data], laidTests := true, laidLooks := .later }
def ProgBackUptoCardSaid : Prop := Claim7.holds Tryd.pinned (.plain (OpenSpec.upto progBackSpec)) progBackUptoCard

/-- THE SECOND FORM's CARD OF 'warrenerlaw11.ProgClones'. -/
def progClonesUptoCard : Claim7 := { stood := { row := progClonesUptoRow, standIns := [], harness := (true, "46b978c9bce45191a36c03ba6b34055525547121f508e2c94e6285e41631fd1e"), looks := true }, kinds := [], alts := [], laidByText := true, laidKinds := [.data], laidTests := true, laidLooks := .later }
def ProgClonesUptoCardSaid : Prop := Claim7.holds Tryd.pinned (.plain (OpenSpec.upto progClonesSpec)) progClonesUptoCard
end Rows
end Go.Proofs.YtcbekkbhhepeaaaDoor
