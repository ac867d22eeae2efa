/-
  DERIVED. GIVEN WITH THE SEED: THE CARDS: each row of YtgapibngfpafpaaGreatDoorRows.lean that lists a variable, with what it lists TIED to the program's text (the seventh form; the later family's looks); each row that meets fmt, with fmt's text TOLD by the authors' own Lean function (tested against real Go, not proved from fmt's source: count such statements apart). THE CARD IS WHAT COUNTS. Prove the row's statement (the work); the ties are given (YtgapibngfpafpaaGreatDoorTie.lean); close each card by the builder's one call (the guide's Derived/Test/ToyasCard.lean, 'card_holds'). Laid BY PROGRAM, IN A SANDBOX (cutbox-door.mjs). By AI agents, Wed Nov 11 2026. No macro, syntax, notation, axiom, sorry.
-/
import Derived.Test.YtgapibngfpafpaaGreatDoorRows
import GoSem.ClaimSeven
namespace Go.Proofs.YtgapibngfpafpaaGreatDoor
namespace Rows

/-- THE TIED CARD OF 'bipolelaw01.PhasorTelegrams'. -/
def phasorTelegramsCard : Claim7 := { stood := { row := phasorTelegramsRow, standIns := [], harness := (true, "a6daed1730e88eb018f764a745d58777cf838a445624fbd0f210f89656e2843f"), looks := false }, kinds := [], alts := [], laidByText := true, laidKinds := [.data, .data, .data, .data], laidTests := true, laidLooks := .later }
def PhasorTelegramsCardSaid : Prop := Claim7.holds Tryz.pinned (.plain (OpenSpec.ofChange phasorTelegramsSpec)) phasorTelegramsCard

/-- THE SECOND FORM's CARD OF 'bipolelaw01.PhasorTelegrams'. -/
def phasorTelegramsUptoCard : Claim7 := { stood := { row := phasorTelegramsUptoRow, standIns := [], harness := (true, "a6daed1730e88eb018f764a745d58777cf838a445624fbd0f210f89656e2843f"), looks := false }, kinds := [], alts := [], laidByText := true, laidKinds := [.data, .data, .data, .data], laidTests := true, laidLooks := .later }
def PhasorTelegramsUptoCardSaid : Prop := Claim7.holds Tryz.pinned (.plain (OpenSpec.upto phasorTelegramsSpec)) phasorTelegramsUptoCard
end Rows
end Go.Proofs.YtgapibngfpafpaaGreatDoor
