/-
  DERIVED. GIVEN WITH THE SEED: THE CARDS: each row of YtgnmhapgciejfaaGreatDoorRows.lean that lists a variable, with what it lists TIED to the program's text (the seventh form; the later family's looks); each row that meets fmt, with fmt's text TOLD by the authors' own Lean function (tested against real Go, not proved from fmt's source: count such statements apart). THE CARD IS WHAT COUNTS. Prove the row's statement (the work); the ties are given (YtgnmhapgciejfaaGreatDoorTie.lean); close each card by the builder's one call (the guide's Derived/Test/ToyasCard.lean, 'card_holds'). Laid BY PROGRAM, IN A SANDBOX (cutbox-door.mjs). By AI agents, Wed Nov 11 2026. No macro, syntax, notation, axiom, sorry.
-/
import Derived.Test.YtgnmhapgciejfaaGreatDoorRows
import GoSem.ClaimSeven
namespace Go.Proofs.YtgnmhapgciejfaaGreatDoor
namespace Rows

/-- THE TIED CARD OF 'bipolelaw03.LoopRoots'. -/
def loopRootsCard : Claim7 := { stood := { row := loopRootsRow, standIns := [], harness := (true, "2cf4d71d327a708d3e99f538f0f9eed66223ab356dcf2e745e8412fe5ea13d0e"), looks := false }, kinds := [], alts := [], laidByText := true, laidKinds := [.data, .data, .data, .data, .data], laidTests := true, laidLooks := .later }
def LoopRootsCardSaid : Prop := Claim7.holds Tryz.pinned (.plain (OpenSpec.ofChange loopRootsSpec)) loopRootsCard

/-- THE TIED CARD OF 'bipolelaw04.HarmonicNumbers'. -/
def harmonicNumbersCard : Claim7 := { stood := { row := harmonicNumbersRow, standIns := [], harness := (true, "2cf4d71d327a708d3e99f538f0f9eed66223ab356dcf2e745e8412fe5ea13d0e"), looks := false }, kinds := [], alts := [], laidByText := true, laidKinds := [.data, .data, .data, .data], laidTests := true, laidLooks := .later }
def HarmonicNumbersCardSaid : Prop := Claim7.holds Tryz.pinned (.plain (OpenSpec.ofChange harmonicNumbersSpec)) harmonicNumbersCard

/-- THE TIED CARD OF 'bipolelaw04.HarmonicSpectra'. -/
def harmonicSpectraCard : Claim7 := { stood := { row := harmonicSpectraRow, standIns := [], harness := (true, "2cf4d71d327a708d3e99f538f0f9eed66223ab356dcf2e745e8412fe5ea13d0e"), looks := false }, kinds := [], alts := [], laidByText := true, laidKinds := [.data, .data, .data, .data], laidTests := true, laidLooks := .later }
def HarmonicSpectraCardSaid : Prop := Claim7.holds Tryz.pinned (.plain (OpenSpec.ofChange harmonicSpectraSpec)) harmonicSpectraCard

/-- THE TIED CARD OF 'bipolelaw04.HarmonicSums'. -/
def harmonicSumsCard : Claim7 := { stood := { row := harmonicSumsRow, standIns := [], harness := (true, "2cf4d71d327a708d3e99f538f0f9eed66223ab356dcf2e745e8412fe5ea13d0e"), looks := false }, kinds := [], alts := [], laidByText := true, laidKinds := [.data, .data, .data, .data], laidTests := true, laidLooks := .later }
def HarmonicSumsCardSaid : Prop := Claim7.holds Tryz.pinned (.plain (OpenSpec.ofChange harmonicSumsSpec)) harmonicSumsCard

/-- THE SECOND FORM's CARD OF 'bipolelaw03.LoopRoots'. -/
def loopRootsUptoCard : Claim7 := { stood := { row := loopRootsUptoRow, standIns := [], harness := (true, "2cf4d71d327a708d3e99f538f0f9eed66223ab356dcf2e745e8412fe5ea13d0e"), looks := false }, kinds := [], alts := [], laidByText := true, laidKinds := [.data, .data, .data, .data, .data], laidTests := true, laidLooks := .later }
def LoopRootsUptoCardSaid : Prop := Claim7.holds Tryz.pinned (.plain (OpenSpec.upto loopRootsSpec)) loopRootsUptoCard

/-- THE SECOND FORM's CARD OF 'bipolelaw04.HarmonicNumbers'. -/
def harmonicNumbersUptoCard : Claim7 := { stood := { row := harmonicNumbersUptoRow, standIns := [], harness := (true, "2cf4d71d327a708d3e99f538f0f9eed66223ab356dcf2e745e8412fe5ea13d0e"), looks := false }, kinds := [], alts := [], laidByText := true, laidKinds := [.data, .data, .data, .data], laidTests := true, laidLooks := .later }
def HarmonicNumbersUptoCardSaid : Prop := Claim7.holds Tryz.pinned (.plain (OpenSpec.upto harmonicNumbersSpec)) harmonicNumbersUptoCard

/-- THE SECOND FORM's CARD OF 'bipolelaw04.HarmonicSpectra'. -/
def harmonicSpectraUptoCard : Claim7 := { stood := { row := harmonicSpectraUptoRow, standIns := [], harness := (true, "2cf4d71d327a708d3e99f538f0f9eed66223ab356dcf2e745e8412fe5ea13d0e"), looks := false }, kinds := [], alts := [], laidByText := true, laidKinds := [.data, .data, .data, .data], laidTests := true, laidLooks := .later }
def HarmonicSpectraUptoCardSaid : Prop := Claim7.holds Tryz.pinned (.plain (OpenSpec.upto harmonicSpectraSpec)) harmonicSpectraUptoCard

/-- THE SECOND FORM's CARD OF 'bipolelaw04.HarmonicSums'. -/
def harmonicSumsUptoCard : Claim7 := { stood := { row := harmonicSumsUptoRow, standIns := [], harness := (true, "2cf4d71d327a708d3e99f538f0f9eed66223ab356dcf2e745e8412fe5ea13d0e"), looks := false }, kinds := [], alts := [], laidByText := true, laidKinds := [.data, .data, .data, .data], laidTests := true, laidLooks := .later }
def HarmonicSumsUptoCardSaid : Prop := Claim7.holds Tryz.pinned (.plain (OpenSpec.upto harmonicSumsSpec)) harmonicSumsUptoCard
end Rows
end Go.Proofs.YtgnmhapgciejfaaGreatDoor
