/-
  DERIVED. GIVEN WITH THE SEED: THE CARDS: each row of YtffllmdjpeigbaaGreatDoorRows.lean that lists a variable, with what it lists TIED to the program's text (the seventh form; the later family's looks); each row that meets fmt, with fmt's text TOLD by the authors' own Lean function (tested against real Go, not proved from fmt's source: count such statements apart). THE CARD IS WHAT COUNTS. Prove the row's statement (the work); the ties are given (YtffllmdjpeigbaaGreatDoorTie.lean); close each card by the builder's one call (the guide's Derived/Test/ToyasCard.lean, 'card_holds'). Laid BY PROGRAM, IN A SANDBOX (cutbox-door.mjs). By AI agents, Wed Nov 11 2026. No macro, syntax, notation, axiom, sorry.
-/
import Derived.Test.YtffllmdjpeigbaaGreatDoorRows
import GoSem.ClaimSeven
namespace Go.Proofs.YtffllmdjpeigbaaGreatDoor
namespace Rows

/-- THE TIED CARD OF 'bipolelaw01.PhasorFrames'. -/
def phasorFramesCard : Claim7 := { stood := { row := phasorFramesRow, standIns := [], harness := (true, "86b0356a9976d43c59a404a96359c969ce1bcb449ebfe4eb6c7c167bbf179df0"), looks := false }, kinds := [], alts := [], laidByText := true, laidKinds := [.data, .data, .data, .data], laidTests := true, laidLooks := .later }
def PhasorFramesCardSaid : Prop := Claim7.holds Tryz.pinned (.plain (OpenSpec.ofChange phasorFramesSpec)) phasorFramesCard

/-- THE TIED CARD OF 'bipolelaw01.PhasorTurns'. -/
def phasorTurnsCard : Claim7 := { stood := { row := phasorTurnsRow, standIns := [], harness := (true, "86b0356a9976d43c59a404a96359c969ce1bcb449ebfe4eb6c7c167bbf179df0"), looks := false }, kinds := [], alts := [], laidByText := true, laidKinds := [.data, .data, .data, .data], laidTests := true, laidLooks := .later }
def PhasorTurnsCardSaid : Prop := Claim7.holds Tryz.pinned (.plain (OpenSpec.ofChange phasorTurnsSpec)) phasorTurnsCard

/-- THE TIED CARD OF 'bipolelaw03.LoopRoots'. -/
def loopRootsCard : Claim7 := { stood := { row := loopRootsRow, standIns := [], harness := (true, "86b0356a9976d43c59a404a96359c969ce1bcb449ebfe4eb6c7c167bbf179df0"), looks := false }, kinds := [], alts := [], laidByText := true, laidKinds := [.data, .data, .data, .data, .data], laidTests := true, laidLooks := .later }
def LoopRootsCardSaid : Prop := Claim7.holds Tryz.pinned (.plain (OpenSpec.ofChange loopRootsSpec)) loopRootsCard

/-- THE TIED CARD OF 'bipolelaw04.HarmonicSpectra'. -/
def harmonicSpectraCard : Claim7 := { stood := { row := harmonicSpectraRow, standIns := [], harness := (true, "86b0356a9976d43c59a404a96359c969ce1bcb449ebfe4eb6c7c167bbf179df0"), looks := false }, kinds := [], alts := [], laidByText := true, laidKinds := [.data, .data, .data, .data], laidTests := true, laidLooks := .later }
def HarmonicSpectraCardSaid : Prop := Claim7.holds Tryz.pinned (.plain (OpenSpec.ofChange harmonicSpectraSpec)) harmonicSpectraCard

/-- THE TIED CARD OF 'bipolelaw04.HarmonicSums'. -/
def harmonicSumsCard : Claim7 := { stood := { row := harmonicSumsRow, standIns := [], harness := (true, "86b0356a9976d43c59a404a96359c969ce1bcb449ebfe4eb6c7c167bbf179df0"), looks := false }, kinds := [], alts := [], laidByText := true, laidKinds := [.data, .data, .data, .data], laidTests := true, laidLooks := .later }
def HarmonicSumsCardSaid : Prop := Claim7.holds Tryz.pinned (.plain (OpenSpec.ofChange harmonicSumsSpec)) harmonicSumsCard

/-- THE SECOND FORM's CARD OF 'bipolelaw01.PhasorFrames'. -/
def phasorFramesUptoCard : Claim7 := { stood := { row := phasorFramesUptoRow, standIns := [], harness := (true, "86b0356a9976d43c59a404a96359c969ce1bcb449ebfe4eb6c7c167bbf179df0"), looks := false }, kinds := [], alts := [], laidByText := true, laidKinds := [.data, .data, .data, .data], laidTests := true, laidLooks := .later }
def PhasorFramesUptoCardSaid : Prop := Claim7.holds Tryz.pinned (.plain (OpenSpec.upto phasorFramesSpec)) phasorFramesUptoCard

/-- THE SECOND FORM's CARD OF 'bipolelaw01.PhasorTurns'. -/
def phasorTurnsUptoCard : Claim7 := { stood := { row := phasorTurnsUptoRow, standIns := [], harness := (true, "86b0356a9976d43c59a404a96359c969ce1bcb449ebfe4eb6c7c167bbf179df0"), looks := false }, kinds := [], alts := [], laidByText := true, laidKinds := [.data, .data, .data, .data], laidTests := true, laidLooks := .later }
def PhasorTurnsUptoCardSaid : Prop := Claim7.holds Tryz.pinned (.plain (OpenSpec.upto phasorTurnsSpec)) phasorTurnsUptoCard

/-- THE SECOND FORM's CARD OF 'bipolelaw03.LoopRoots'. -/
def loopRootsUptoCard : Claim7 := { stood := { row := loopRootsUptoRow, standIns := [], harness := (true, "86b0356a9976d43c59a404a96359c969ce1bcb449ebfe4eb6c7c167bbf179df0"), looks := false }, kinds := [], alts := [], laidByText := true, laidKinds := [.data, .data, .data, .data, .data], laidTests := true, laidLooks := .later }
def LoopRootsUptoCardSaid : Prop := Claim7.holds Tryz.pinned (.plain (OpenSpec.upto loopRootsSpec)) loopRootsUptoCard

/-- THE SECOND FORM's CARD OF 'bipolelaw04.HarmonicSpectra'. -/
def harmonicSpectraUptoCard : Claim7 := { stood := { row := harmonicSpectraUptoRow, standIns := [], harness := (true, "86b0356a9976d43c59a404a96359c969ce1bcb449ebfe4eb6c7c167bbf179df0"), looks := false }, kinds := [], alts := [], laidByText := true, laidKinds := [.data, .data, .data, .data], laidTests := true, laidLooks := .later }
def HarmonicSpectraUptoCardSaid : Prop := Claim7.holds Tryz.pinned (.plain (OpenSpec.upto harmonicSpectraSpec)) harmonicSpectraUptoCard

/-- THE SECOND FORM's CARD OF 'bipolelaw04.HarmonicSums'. -/
def harmonicSumsUptoCard : Claim7 := { stood := { row := harmonicSumsUptoRow, standIns := [], harness := (true, "86b0356a9976d43c59a404a96359c969ce1bcb449ebfe4eb6c7c167bbf179df0"), looks := false }, kinds := [], alts := [], laidByText := true, laidKinds := [.data, .data, .data, .data], laidTests := true, laidLooks := .later }
def HarmonicSumsUptoCardSaid : Prop := Claim7.holds Tryz.pinned (.plain (OpenSpec.upto harmonicSumsSpec)) harmonicSumsUptoCard
end Rows
end Go.Proofs.YtffllmdjpeigbaaGreatDoor
