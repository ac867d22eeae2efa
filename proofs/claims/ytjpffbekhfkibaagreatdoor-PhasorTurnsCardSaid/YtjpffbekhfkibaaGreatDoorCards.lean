/-
  DERIVED. GIVEN WITH THE SEED: THE CARDS: each row of YtjpffbekhfkibaaGreatDoorRows.lean that lists a variable, with what it lists TIED to the program's text (the seventh form; the later family's looks); each row that meets fmt, with fmt's text TOLD by the authors' own Lean function (tested against real Go, not proved from fmt's source: count such statements apart). THE CARD IS WHAT COUNTS. Prove the row's statement (the work); the ties are given (YtjpffbekhfkibaaGreatDoorTie.lean); close each card by the builder's one call (the guide's Derived/Test/ToyasCard.lean, 'card_holds'). Laid BY PROGRAM, IN A SANDBOX (cutbox-door.mjs). By AI agents, Wed Nov 11 2026. No macro, syntax, notation, axiom, sorry.
-/
import Derived.Test.YtjpffbekhfkibaaGreatDoorRows
import GoSem.ClaimSeven
namespace Go.Proofs.YtjpffbekhfkibaaGreatDoor
namespace Rows

/-- THE TIED CARD OF 'bipolelaw01.PhasorTurns'. -/
def phasorTurnsCard : Claim7 := { stood := { row := phasorTurnsRow, standIns := [], harness := (true, "46bad33890787904d0187587c735b4dc1835f4661ccd206effddbf7b8c979b80"), looks := false }, kinds := [], alts := [], laidByText := true, laidKinds := [.data, .data, .data, .data], laidTests := true, laidLooks := .later }
def PhasorTurnsCardSaid : Prop := Claim7.holds Tryz.pinned (.plain (OpenSpec.ofChange phasorTurnsSpec)) phasorTurnsCard

/-- THE SECOND FORM's CARD OF 'bipolelaw01.PhasorTurns'. -/
def phasorTurnsUptoCard : Claim7 := { stood := { row := phasorTurnsUptoRow, standIns := [], harness := (true, "46bad33890787904d0187587c735b4dc1835f4661ccd206effddbf7b8c979b80"), looks := false }, kinds := [], alts := [], laidByText := true, laidKinds := [.data, .data, .data, .data], laidTests := true, laidLooks := .later }
def PhasorTurnsUptoCardSaid : Prop := Claim7.holds Tryz.pinned (.plain (OpenSpec.upto phasorTurnsSpec)) phasorTurnsUptoCard
end Rows
end Go.Proofs.YtjpffbekhfkibaaGreatDoor
