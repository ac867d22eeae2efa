/-
  DERIVED. GIVEN WITH THE SEED: THE CARDS: each row of YtbkpnhbcihcgaaaGreatDoorRows.lean that lists a variable, with what it lists TIED to the program's text (the seventh form; the later family's looks); each row that meets fmt, with fmt's text TOLD by the authors' own Lean function (tested against real Go, not proved from fmt's source: count such statements apart). THE CARD IS WHAT COUNTS. Prove the row's statement (the work); the ties are given (YtbkpnhbcihcgaaaGreatDoorTie.lean); close each card by the builder's one call (the guide's Derived/Test/ToyasCard.lean, 'card_holds'). Laid BY PROGRAM, IN A SANDBOX (cutbox-door.mjs). By AI agents, Wed Nov 11 2026. No macro, syntax, notation, axiom, sorry.
-/
import Derived.Test.YtbkpnhbcihcgaaaGreatDoorRows
import GoSem.ClaimSeven
namespace Go.Proofs.YtbkpnhbcihcgaaaGreatDoor
namespace Rows

/-- THE TIED CARD OF 'bipolelaw03.LoopPolys'. -/
def loopPolysCard : Claim7 := { stood := { row := loopPolysRow, standIns := [], harness := (true, "0eee7f817ec5ebcb44fce98f5b5b65ba56375d40e5aa614664699191c16125a4"), looks := false }, kinds := [], alts := [], laidByText := true, laidKinds := [.data, .data, .data, .data, .data], laidTests := true, laidLooks := .later }
def LoopPolysCardSaid : Prop := Claim7.holds Tryz.pinned (.plain (OpenSpec.ofChange loopPolysSpec)) loopPolysCard

/-- THE TIED CARD OF 'bipolelaw03.LoopTables'. -/
def loopTablesCard : Claim7 := { stood := { row := loopTablesRow, standIns := [], harness := (true, "0eee7f817ec5ebcb44fce98f5b5b65ba56375d40e5aa614664699191c16125a4"), looks := false }, kinds := [], alts := [], laidByText := true, laidKinds := [.data, .data, .data, .data, .data], laidTests := true, laidLooks := .later }
def LoopTablesCardSaid : Prop := Claim7.holds Tryz.pinned (.plain (OpenSpec.ofChange loopTablesSpec)) loopTablesCard

/-- THE TIED CARD OF 'bipolelaw03.LoopScales'. -/
def loopScalesCard : Claim7 := { stood := { row := loopScalesRow, standIns := [], harness := (true, "0eee7f817ec5ebcb44fce98f5b5b65ba56375d40e5aa614664699191c16125a4"), looks := false }, kinds := [], alts := [], laidByText := true, laidKinds := [.data, .data, .data, .data, .data], laidTests := true, laidLooks := .later }
def LoopScalesCardSaid : Prop := Claim7.holds Tryz.pinned (.plain (OpenSpec.ofChange loopScalesSpec)) loopScalesCard

/-- THE TIED CARD OF 'bipolelaw03.LoopLoops'. -/
def loopLoopsCard : Claim7 := { stood := { row := loopLoopsRow, standIns := [], harness := (true, "0eee7f817ec5ebcb44fce98f5b5b65ba56375d40e5aa614664699191c16125a4"), looks := false }, kinds := [], alts := [], laidByText := true, laidKinds := [.data, .data, .data, .data, .data], laidTests := true, laidLooks := .later }
def LoopLoopsCardSaid : Prop := Claim7.holds Tryz.pinned (.plain (OpenSpec.ofChange loopLoopsSpec)) loopLoopsCard

/-- THE TIED CARD OF 'bipolelaw03.LoopSteps'. -/
def loopStepsCard : Claim7 := { stood := { row := loopStepsRow, standIns := [], harness := (true, "0eee7f817ec5ebcb44fce98f5b5b65ba56375d40e5aa614664699191c16125a4"), looks := false }, kinds := [], alts := [], laidByText := true, laidKinds := [.data, .data, .data, .data, .data], laidTests := true, laidLooks := .later }
def LoopStepsCardSaid : Prop := Claim7.holds Tryz.pinned (.plain (OpenSpec.ofChange loopStepsSpec)) loopStepsCard

/-- THE TIED CARD OF 'bipolelaw03.LoopRings'. -/
def loopRingsCard : Claim7 := { stood := { row := loopRingsRow, standIns := [], harness := (true, "0eee7f817ec5ebcb44fce98f5b5b65ba56375d40e5aa614664699191c16125a4"), looks := false }, kinds := [], alts := [], laidByText := true, laidKinds := [.data, .data, .data, .data, .data], laidTests := true, laidLooks := .later }
def LoopRingsCardSaid : Prop := Claim7.holds Tryz.pinned (.plain (OpenSpec.ofChange loopRingsSpec)) loopRingsCard

/-- THE TIED CARD OF 'bipolelaw03.LoopRoots'. -/
def loopRootsCard : Claim7 := { stood := { row := loopRootsRow, standIns := [], harness := (true, "0eee7f817ec5ebcb44fce98f5b5b65ba56375d40e5aa614664699191c16125a4"), looks := false }, kinds := [], alts := [], laidByText := true, laidKinds := [.data, .data, .data, .data, .data], laidTests := true, laidLooks := .later }
def LoopRootsCardSaid : Prop := Claim7.holds Tryz.pinned (.plain (OpenSpec.ofChange loopRootsSpec)) loopRootsCard

/-- THE TIED CARD OF 'bipolelaw03.LoopSums'. -/
def loopSumsCard : Claim7 := { stood := { row := loopSumsRow, standIns := [], harness := (true, "0eee7f817ec5ebcb44fce98f5b5b65ba56375d40e5aa614664699191c16125a4"), looks := false }, kinds := [], alts := [], laidByText := true, laidKinds := [.data, .data, .data, .data, .data], laidTests := true, laidLooks := .later }
def LoopSumsCardSaid : Prop := Claim7.holds Tryz.pinned (.plain (OpenSpec.ofChange loopSumsSpec)) loopSumsCard

/-- THE TIED CARD OF 'bipolelaw03.LoopFalls'. -/
def loopFallsCard : Claim7 := { stood := { row := loopFallsRow, standIns := [], harness := (true, "0eee7f817ec5ebcb44fce98f5b5b65ba56375d40e5aa614664699191c16125a4"), looks := false }, kinds := [], alts := [], laidByText := true, laidKinds := [.data, .data, .data, .data, .data], laidTests := true, laidLooks := .later }
def LoopFallsCardSaid : Prop := Claim7.holds Tryz.pinned (.plain (OpenSpec.ofChange loopFallsSpec)) loopFallsCard

/-- THE SECOND FORM's CARD OF 'bipolelaw03.LoopPolys'. -/
def loopPolysUptoCard : Claim7 := { stood := { row := loopPolysUptoRow, standIns := [], harness := (true, "0eee7f817ec5ebcb44fce98f5b5b65ba56375d40e5aa614664699191c16125a4"), looks := false }, kinds := [], alts := [], laidByText := true, laidKinds := [.data, .data, .data, .data, .data], laidTests := true, laidLooks := .later }
def LoopPolysUptoCardSaid : Prop := Claim7.holds Tryz.pinned (.plain (OpenSpec.upto loopPolysSpec)) loopPolysUptoCard

/-- THE SECOND FORM's CARD OF 'bipolelaw03.LoopTables'. -/
def loopTablesUptoCard : Claim7 := { stood := { row := loopTablesUptoRow, standIns := [], harness := (true, "0eee7f817ec5ebcb44fce98f5b5b65ba56375d40e5aa614664699191c16125a4"), looks := false }, kinds := [], alts := [], laidByText := true, laidKinds := [.data, .data, .data, .data, .data], laidTests := true, laidLooks := .later }
def LoopTablesUptoCardSaid : Prop := Claim7.holds Tryz.pinned (.plain (OpenSpec.upto loopTablesSpec)) loopTablesUptoCard

/-- THE SECOND FORM's CARD OF 'bipolelaw03.LoopScales'. -/
def loopScalesUptoCard : Claim7 := { stood := { row := loopScalesUptoRow, standIns := [], harness := (true, "0eee7f817ec5ebcb44fce98f5b5b65ba56375d40e5aa614664699191c16125a4"), looks := false }, kinds := [], alts := [], laidByText := true, laidKinds := [.data, .data, .data, .data, .data], laidTests := true, laidLooks := .later }
def LoopScalesUptoCardSaid : Prop := Claim7.holds Tryz.pinned (.plain (OpenSpec.upto loopScalesSpec)) loopScalesUptoCard

/-- THE SECOND FORM's CARD OF 'bipolelaw03.LoopLoops'. -/
def loopLoopsUptoCard : Claim7 := { stood := { row := loopLoopsUptoRow, standIns := [], harness := (true, "0eee7f817ec5ebcb44fce98f5b5b65ba56375d40e5aa614664699191c16125a4"), looks := false }, kinds := [], alts := [], laidByText := true, laidKinds := [.data, .data, .data, .data, .data], laidTests := true, laidLooks := .later }
def LoopLoopsUptoCardSaid : Prop := Claim7.holds Tryz.pinned (.plain (OpenSpec.upto loopLoopsSpec)) loopLoopsUptoCard

/-- THE SECOND FORM's CARD OF 'bipolelaw03.LoopSteps'. -/
def loopStepsUptoCard : Claim7 := { stood := { row := loopStepsUptoRow, standIns := [], harness := (true, "0eee7f817ec5ebcb44fce98f5b5b65ba56375d40e5aa614664699191c16125a4"), looks := false }, kinds := [], alts := [], laidByText := true, laidKinds := [.data, .data, .data, .data, .data], laidTests := true, laidLooks := .later }
def LoopStepsUptoCardSaid : Prop := Claim7.holds Tryz.pinned (.plain (OpenSpec.upto loopStepsSpec)) loopStepsUptoCard

/-- THE SECOND FORM's CARD OF 'bipolelaw03.LoopRings'. -/
def loopRingsUptoCard : Claim7 := { stood := { row := loopRingsUptoRow, standIns := [], harness := (true, "0eee7f817ec5ebcb44fce98f5b5b65ba56375d40e5aa614664699191c16125a4"), looks := false }, kinds := [], alts := [], laidByText := true, laidKinds := [.data, .data, .data, .data, .data], laidTests := true, laidLooks := .later }
def LoopRingsUptoCardSaid : Prop := Claim7.holds Tryz.pinned (.plain (OpenSpec.upto loopRingsSpec)) loopRingsUptoCard

/-- THE SECOND FORM's CARD OF 'bipolelaw03.LoopRoots'. -/
def loopRootsUptoCard : Claim7 := { stood := { row := loopRootsUptoRow, standIns := [], harness := (true, "0eee7f817ec5ebcb44fce98f5b5b65ba56375d40e5aa614664699191c16125a4"), looks := false }, kinds := [], alts := [], laidByText := true, laidKinds := [.data, .data, .data, .data, .data], laidTests := true, laidLooks := .later }
def LoopRootsUptoCardSaid : Prop := Claim7.holds Tryz.pinned (.plain (OpenSpec.upto loopRootsSpec)) loopRootsUptoCard

/-- THE SECOND FORM's CARD OF 'bipolelaw03.LoopSums'. -/
def loopSumsUptoCard : Claim7 := { stood := { row := loopSumsUptoRow, standIns := [], harness := (true, "0eee7f817ec5ebcb44fce98f5b5b65ba56375d40e5aa614664699191c16125a4"), looks := false }, kinds := [], alts := [], laidByText := true, laidKinds := [.data, .data, .data, .data, .data], laidTests := true, laidLooks := .later }
def LoopSumsUptoCardSaid : Prop := Claim7.holds Tryz.pinned (.plain (OpenSpec.upto loopSumsSpec)) loopSumsUptoCard

/-- THE SECOND FORM's CARD OF 'bipolelaw03.LoopFalls'. -/
def loopFallsUptoCard : Claim7 := { stood := { row := loopFallsUptoRow, standIns := [], harness := (true, "0eee7f817ec5ebcb44fce98f5b5b65ba56375d40e5aa614664699191c16125a4"), looks := false }, kinds := [], alts := [], laidByText := true, laidKinds := [.data, .data, .data, .data, .data], laidTests := true, laidLooks := .later }
def LoopFallsUptoCardSaid : Prop := Claim7.holds Tryz.pinned (.plain (OpenSpec.upto loopFallsSpec)) loopFallsUptoCard
end Rows
end Go.Proofs.YtbkpnhbcihcgaaaGreatDoor
