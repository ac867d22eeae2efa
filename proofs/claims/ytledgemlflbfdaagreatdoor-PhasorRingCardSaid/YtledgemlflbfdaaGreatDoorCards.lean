/-
  DERIVED. GIVEN WITH THE SEED: THE CARDS: each row of YtledgemlflbfdaaGreatDoorRows.lean that lists a variable, with what it lists TIED to the program's text (the seventh form; the later family's looks); each row that meets fmt, with fmt's text TOLD by the authors' own Lean function (tested against real Go, not proved from fmt's source: count such statements apart). THE CARD IS WHAT COUNTS. Prove the row's statement (the work); the ties are given (YtledgemlflbfdaaGreatDoorTie.lean); close each card by the builder's one call (the guide's Derived/Test/ToyasCard.lean, 'card_holds'). Laid BY PROGRAM, IN A SANDBOX (cutbox-door.mjs). By AI agents, Wed Nov 11 2026. No macro, syntax, notation, axiom, sorry.
-/
import Derived.Test.YtledgemlflbfdaaGreatDoorRows
import GoSem.ClaimSeven
namespace Go.Proofs.YtledgemlflbfdaaGreatDoor
namespace Rows

/-- THE TIED CARD OF 'bipolelaw01.PhasorNumbers'. -/
def phasorNumbersCard : Claim7 := { stood := { row := phasorNumbersRow, standIns := [], harness := (true, "40c5c901f847b1356a085af93ac0c93dc63c9367925256e44562548ad171593c"), looks := false }, kinds := [], alts := [], laidByText := true, laidKinds := [.data, .data, .data, .data], laidTests := true, laidLooks := .later }
def PhasorNumbersCardSaid : Prop := Claim7.holds Tryz.pinned (.plain (OpenSpec.ofChange phasorNumbersSpec)) phasorNumbersCard

/-- THE TIED CARD OF 'bipolelaw01.PhasorFrames'. -/
def phasorFramesCard : Claim7 := { stood := { row := phasorFramesRow, standIns := [], harness := (true, "40c5c901f847b1356a085af93ac0c93dc63c9367925256e44562548ad171593c"), looks := false }, kinds := [], alts := [], laidByText := true, laidKinds := [.data, .data, .data, .data], laidTests := true, laidLooks := .later }
def PhasorFramesCardSaid : Prop := Claim7.holds Tryz.pinned (.plain (OpenSpec.ofChange phasorFramesSpec)) phasorFramesCard

/-- THE TIED CARD OF 'bipolelaw01.PhasorPhases'. -/
def phasorPhasesCard : Claim7 := { stood := { row := phasorPhasesRow, standIns := [], harness := (true, "40c5c901f847b1356a085af93ac0c93dc63c9367925256e44562548ad171593c"), looks := false }, kinds := [], alts := [], laidByText := true, laidKinds := [.data, .data, .data, .data], laidTests := true, laidLooks := .later }
def PhasorPhasesCardSaid : Prop := Claim7.holds Tryz.pinned (.plain (OpenSpec.ofChange phasorPhasesSpec)) phasorPhasesCard

/-- THE TIED CARD OF 'bipolelaw01.PhasorRing'. -/
def phasorRingCard : Claim7 := { stood := { row := phasorRingRow, standIns := [], harness := (true, "40c5c901f847b1356a085af93ac0c93dc63c9367925256e44562548ad171593c"), looks := false }, kinds := [], alts := [], laidByText := true, laidKinds := [.data, .data, .data, .data], laidTests := true, laidLooks := .later }
def PhasorRingCardSaid : Prop := Claim7.holds Tryz.pinned (.plain (OpenSpec.ofChange phasorRingSpec)) phasorRingCard

/-- THE TIED CARD OF 'bipolelaw01.PhasorSequences'. -/
def phasorSequencesCard : Claim7 := { stood := { row := phasorSequencesRow, standIns := [], harness := (true, "40c5c901f847b1356a085af93ac0c93dc63c9367925256e44562548ad171593c"), looks := false }, kinds := [], alts := [], laidByText := true, laidKinds := [.data, .data, .data, .data], laidTests := true, laidLooks := .later }
def PhasorSequencesCardSaid : Prop := Claim7.holds Tryz.pinned (.plain (OpenSpec.ofChange phasorSequencesSpec)) phasorSequencesCard

/-- THE TIED CARD OF 'bipolelaw01.PhasorTurns'. -/
def phasorTurnsCard : Claim7 := { stood := { row := phasorTurnsRow, standIns := [], harness := (true, "40c5c901f847b1356a085af93ac0c93dc63c9367925256e44562548ad171593c"), looks := false }, kinds := [], alts := [], laidByText := true, laidKinds := [.data, .data, .data, .data], laidTests := true, laidLooks := .later }
def PhasorTurnsCardSaid : Prop := Claim7.holds Tryz.pinned (.plain (OpenSpec.ofChange phasorTurnsSpec)) phasorTurnsCard

/-- THE SECOND FORM's CARD OF 'bipolelaw01.PhasorNumbers'. -/
def phasorNumbersUptoCard : Claim7 := { stood := { row := phasorNumbersUptoRow, standIns := [], harness := (true, "40c5c901f847b1356a085af93ac0c93dc63c9367925256e44562548ad171593c"), looks := false }, kinds := [], alts := [], laidByText := true, laidKinds := [.data, .data, .data, .data], laidTests := true, laidLooks := .later }
def PhasorNumbersUptoCardSaid : Prop := Claim7.holds Tryz.pinned (.plain (OpenSpec.upto phasorNumbersSpec)) phasorNumbersUptoCard

/-- THE SECOND FORM's CARD OF 'bipolelaw01.PhasorFrames'. -/
def phasorFramesUptoCard : Claim7 := { stood := { row := phasorFramesUptoRow, standIns := [], harness := (true, "40c5c901f847b1356a085af93ac0c93dc63c9367925256e44562548ad171593c"), looks := false }, kinds := [], alts := [], laidByText := true, laidKinds := [.data, .data, .data, .data], laidTests := true, laidLooks := .later }
def PhasorFramesUptoCardSaid : Prop := Claim7.holds Tryz.pinned (.plain (OpenSpec.upto phasorFramesSpec)) phasorFramesUptoCard

/-- THE SECOND FORM's CARD OF 'bipolelaw01.PhasorPhases'. -/
def phasorPhasesUptoCard : Claim7 := { stood := { row := phasorPhasesUptoRow, standIns := [], harness := (true, "40c5c901f847b1356a085af93ac0c93dc63c9367925256e44562548ad171593c"), looks := false }, kinds := [], alts := [], laidByText := true, laidKinds := [.data, .data, .data, .data], laidTests := true, laidLooks := .later }
def PhasorPhasesUptoCardSaid : Prop := Claim7.holds Tryz.pinned (.plain (OpenSpec.upto phasorPhasesSpec)) phasorPhasesUptoCard

/-- THE SECOND FORM's CARD OF 'bipolelaw01.PhasorRing'. -/
def phasorRingUptoCard : Claim7 := { stood := { row := phasorRingUptoRow, standIns := [], harness := (true, "40c5c901f847b1356a085af93ac0c93dc63c9367925256e44562548ad171593c"), looks := false }, kinds := [], alts := [], laidByText := true, laidKinds := [.data, .data, .data, .data], laidTests := true, laidLooks := .later }
def PhasorRingUptoCardSaid : Prop := Claim7.holds Tryz.pinned (.plain (OpenSpec.upto phasorRingSpec)) phasorRingUptoCard

/-- THE SECOND FORM's CARD OF 'bipolelaw01.PhasorSequences'. -/
def phasorSequencesUptoCard : Claim7 := { stood := { row := phasorSequencesUptoRow, standIns := [], harness := (true, "40c5c901f847b1356a085af93ac0c93dc63c9367925256e44562548ad171593c"), looks := false }, kinds := [], alts := [], laidByText := true, laidKinds := [.data, .data, .data, .data], laidTests := true, laidLooks := .later }
def PhasorSequencesUptoCardSaid : Prop := Claim7.holds Tryz.pinned (.plain (OpenSpec.upto phasorSequencesSpec)) phasorSequencesUptoCard

/-- THE SECOND FORM's CARD OF 'bipolelaw01.PhasorTurns'. -/
def phasorTurnsUptoCard : Claim7 := { stood := { row := phasorTurnsUptoRow, standIns := [], harness := (true, "40c5c901f847b1356a085af93ac0c93dc63c9367925256e44562548ad171593c"), looks := false }, kinds := [], alts := [], laidByText := true, laidKinds := [.data, .data, .data, .data], laidTests := true, laidLooks := .later }
def PhasorTurnsUptoCardSaid : Prop := Claim7.holds Tryz.pinned (.plain (OpenSpec.upto phasorTurnsSpec)) phasorTurnsUptoCard
end Rows
end Go.Proofs.YtledgemlflbfdaaGreatDoor
