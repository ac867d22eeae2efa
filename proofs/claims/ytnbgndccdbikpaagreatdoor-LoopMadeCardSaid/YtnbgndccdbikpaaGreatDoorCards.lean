/-
  DERIVED. GIVEN WITH THE SEED: THE CARDS: each row of YtnbgndccdbikpaaGreatDoorRows.lean that lists a variable, with what it lists TIED to the program's text (the seventh form; the later family's looks); each row that meets fmt, with fmt's text TOLD by the authors' own Lean function (tested against real Go, not proved from fmt's source: count such statements apart). THE CARD IS WHAT COUNTS. Prove the row's statement (the work); the ties are given (YtnbgndccdbikpaaGreatDoorTie.lean); close each card by the builder's one call (the guide's Derived/Test/ToyasCard.lean, 'card_holds'). Laid BY PROGRAM, IN A SANDBOX (cutbox-door.mjs). By AI agents, Wed Nov 11 2026. No macro, syntax, notation, axiom, sorry.
-/
import Derived.Test.YtnbgndccdbikpaaGreatDoorRows
import GoSem.ClaimSeven
namespace Go.Proofs.YtnbgndccdbikpaaGreatDoor
namespace Rows

/-- THE TIED CARD OF 'bipolelaw03.LoopMade'. -/
def loopMadeCard : Claim7 := { stood := { row := loopMadeRow, standIns := [], harness := (true, "41c56401008440f57a637a7b6f18554db12d09bd49c18a86b1868e588910f503"), looks := false }, kinds := [], alts := [], laidByText := true, laidKinds := [.data, .data, .data, .data, .data], laidTests := true, laidLooks := .later }
def LoopMadeCardSaid : Prop := Claim7.holds Tryz.pinned (.plain (OpenSpec.ofChange loopMadeSpec)) loopMadeCard

/-- THE SECOND FORM's CARD OF 'bipolelaw03.LoopMade'. -/
def loopMadeUptoCard : Claim7 := { stood := { row := loopMadeUptoRow, standIns := [], harness := (true, "41c56401008440f57a637a7b6f18554db12d09bd49c18a86b1868e588910f503"), looks := false }, kinds := [], alts := [], laidByText := true, laidKinds := [.data, .data, .data, .data, .data], laidTests := true, laidLooks := .later }
def LoopMadeUptoCardSaid : Prop := Claim7.holds Tryz.pinned (.plain (OpenSpec.upto loopMadeSpec)) loopMadeUptoCard
end Rows
end Go.Proofs.YtnbgndccdbikpaaGreatDoor
