/-
  DERIVED. GIVEN WITH THE SEED: THE CARDS: each row of YtencngffhbhifaaGreatDoorRows.lean that lists a variable, with what it lists TIED to the program's text (the seventh form; the later family's looks); each row that meets fmt, with fmt's text TOLD by the authors' own Lean function (tested against real Go, not proved from fmt's source: count such statements apart). THE CARD IS WHAT COUNTS. Prove the row's statement (the work); the ties are given (YtencngffhbhifaaGreatDoorTie.lean); close each card by the builder's one call (the guide's Derived/Test/ToyasCard.lean, 'card_holds'). Laid BY PROGRAM, IN A SANDBOX (cutbox-door.mjs). By AI agents, Wed Nov 11 2026. No macro, syntax, notation, axiom, sorry.
-/
import Derived.Test.YtencngffhbhifaaGreatDoorRows
import GoSem.ClaimSeven
namespace Go.Proofs.YtencngffhbhifaaGreatDoor
namespace Rows

/-- THE TIED CARD OF 'bipolelaw03.LoopWhole'. -/
def loopWholeCard : Claim7 := { stood := { row := loopWholeRow, standIns := [], harness := (true, "d377a0a75f99a4af4e80b604205bb6405f6a87d510944b16fc8021a7d8212cbe"), looks := false }, kinds := [], alts := [], laidByText := true, laidKinds := [.data, .data, .data, .data, .data], laidTests := true, laidLooks := .later }
def LoopWholeCardSaid : Prop := Claim7.holds Tryz.pinned (.plain (OpenSpec.ofChange loopWholeSpec)) loopWholeCard

/-- THE SECOND FORM's CARD OF 'bipolelaw03.LoopWhole'. -/
def loopWholeUptoCard : Claim7 := { stood := { row := loopWholeUptoRow, standIns := [], harness := (true, "d377a0a75f99a4af4e80b604205bb6405f6a87d510944b16fc8021a7d8212cbe"), looks := false }, kinds := [], alts := [], laidByText := true, laidKinds := [.data, .data, .data, .data, .data], laidTests := true, laidLooks := .later }
def LoopWholeUptoCardSaid : Prop := Claim7.holds Tryz.pinned (.plain (OpenSpec.upto loopWholeSpec)) loopWholeUptoCard
end Rows
end Go.Proofs.YtencngffhbhifaaGreatDoor
