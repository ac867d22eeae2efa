/-
  DERIVED. GIVEN WITH THE SEED: THE CARDS: each row of YthhgmnocigekaaaGreatDoorRows.lean that lists a variable, with what it lists TIED to the program's text (the seventh form; the later family's looks); each row that meets fmt, with fmt's text TOLD by the authors' own Lean function (tested against real Go, not proved from fmt's source: count such statements apart). THE CARD IS WHAT COUNTS. Prove the row's statement (the work); the ties are given (YthhgmnocigekaaaGreatDoorTie.lean); close each card by the builder's one call (the guide's Derived/Test/ToyasCard.lean, 'card_holds'). Laid BY PROGRAM, IN A SANDBOX (cutbox-door.mjs). By AI agents, Wed Nov 11 2026. No macro, syntax, notation, axiom, sorry.
-/
import Derived.Test.YthhgmnocigekaaaGreatDoorRows
import GoSem.ClaimSeven
namespace Go.Proofs.YthhgmnocigekaaaGreatDoor
namespace Rows

/-- THE TIED CARD OF 'bipolelaw05.FlowLosses'. -/
def flowLossesCard : Claim7 := { stood := { row := flowLossesRow, standIns := [], harness := (true, "69b4c5f1e1d9a5e6edce332eae21f945b1af4b3c7a7ba3fad75785a19028ec90"), looks := false }, kinds := [], alts := [], laidByText := true, laidKinds := [.data, .data, .data], laidTests := true, laidLooks := .later }
def FlowLossesCardSaid : Prop := Claim7.holds Tryz.pinned (.plain (OpenSpec.ofChange flowLossesSpec)) flowLossesCard

/-- THE TIED CARD OF 'bipolelaw05.FlowSupports'. -/
def flowSupportsCard : Claim7 := { stood := { row := flowSupportsRow, standIns := [], harness := (true, "69b4c5f1e1d9a5e6edce332eae21f945b1af4b3c7a7ba3fad75785a19028ec90"), looks := false }, kinds := [], alts := [], laidByText := true, laidKinds := [.data, .data, .data], laidTests := true, laidLooks := .later }
def FlowSupportsCardSaid : Prop := Claim7.holds Tryz.pinned (.plain (OpenSpec.ofChange flowSupportsSpec)) flowSupportsCard

/-- THE TIED CARD OF 'bipolelaw05.FlowTrips'. -/
def flowTripsCard : Claim7 := { stood := { row := flowTripsRow, standIns := [], harness := (true, "69b4c5f1e1d9a5e6edce332eae21f945b1af4b3c7a7ba3fad75785a19028ec90"), looks := false }, kinds := [], alts := [], laidByText := true, laidKinds := [.data, .data, .data], laidTests := true, laidLooks := .later }
def FlowTripsCardSaid : Prop := Claim7.holds Tryz.pinned (.plain (OpenSpec.ofChange flowTripsSpec)) flowTripsCard

/-- THE TIED CARD OF 'bipolelaw05.FlowSaved'. -/
def flowSavedCard : Claim7 := { stood := { row := flowSavedRow, standIns := [], harness := (true, "69b4c5f1e1d9a5e6edce332eae21f945b1af4b3c7a7ba3fad75785a19028ec90"), looks := false }, kinds := [], alts := [], laidByText := true, laidKinds := [.data, .data, .data], laidTests := true, laidLooks := .later }
def FlowSavedCardSaid : Prop := Claim7.holds Tryz.pinned (.plain (OpenSpec.ofChange flowSavedSpec)) flowSavedCard

/-- THE TIED CARD OF 'bipolelaw05.FlowSafe'. -/
def flowSafeCard : Claim7 := { stood := { row := flowSafeRow, standIns := [], harness := (true, "69b4c5f1e1d9a5e6edce332eae21f945b1af4b3c7a7ba3fad75785a19028ec90"), looks := false }, kinds := [], alts := [], laidByText := true, laidKinds := [.data, .data, .data], laidTests := true, laidLooks := .later }
def FlowSafeCardSaid : Prop := Claim7.holds Tryz.pinned (.plain (OpenSpec.ofChange flowSafeSpec)) flowSafeCard

/-- THE SECOND FORM's CARD OF 'bipolelaw05.FlowLosses'. -/
def flowLossesUptoCard : Claim7 := { stood := { row := flowLossesUptoRow, standIns := [], harness := (true, "69b4c5f1e1d9a5e6edce332eae21f945b1af4b3c7a7ba3fad75785a19028ec90"), looks := false }, kinds := [], alts := [], laidByText := true, laidKinds := [.data, .data, .data], laidTests := true, laidLooks := .later }
def FlowLossesUptoCardSaid : Prop := Claim7.holds Tryz.pinned (.plain (OpenSpec.upto flowLossesSpec)) flowLossesUptoCard

/-- THE SECOND FORM's CARD OF 'bipolelaw05.FlowSupports'. -/
def flowSupportsUptoCard : Claim7 := { stood := { row := flowSupportsUptoRow, standIns := [], harness := (true, "69b4c5f1e1d9a5e6edce332eae21f945b1af4b3c7a7ba3fad75785a19028ec90"), looks := false }, kinds := [], alts := [], laidByText := true, laidKinds := [.data, .data, .data], laidTests := true, laidLooks := .later }
def FlowSupportsUptoCardSaid : Prop := Claim7.holds Tryz.pinned (.plain (OpenSpec.upto flowSupportsSpec)) flowSupportsUptoCard

/-- THE SECOND FORM's CARD OF 'bipolelaw05.FlowTrips'. -/
def flowTripsUptoCard : Claim7 := { stood := { row := flowTripsUptoRow, standIns := [], harness := (true, "69b4c5f1e1d9a5e6edce332eae21f945b1af4b3c7a7ba3fad75785a19028ec90"), looks := false }, kinds := [], alts := [], laidByText := true, laidKinds := [.data, .data, .data], laidTests := true, laidLooks := .later }
def FlowTripsUptoCardSaid : Prop := Claim7.holds Tryz.pinned (.plain (OpenSpec.upto flowTripsSpec)) flowTripsUptoCard

/-- THE SECOND FORM's CARD OF 'bipolelaw05.FlowSaved'. -/
def flowSavedUptoCard : Claim7 := { stood := { row := flowSavedUptoRow, standIns := [], harness := (true, "69b4c5f1e1d9a5e6edce332eae21f945b1af4b3c7a7ba3fad75785a19028ec90"), looks := false }, kinds := [], alts := [], laidByText := true, laidKinds := [.data, .data, .data], laidTests := true, laidLooks := .later }
def FlowSavedUptoCardSaid : Prop := Claim7.holds Tryz.pinned (.plain (OpenSpec.upto flowSavedSpec)) flowSavedUptoCard

/-- THE SECOND FORM's CARD OF 'bipolelaw05.FlowSafe'. -/
def flowSafeUptoCard : Claim7 := { stood := { row := flowSafeUptoRow, standIns := [], harness := (true, "69b4c5f1e1d9a5e6edce332eae21f945b1af4b3c7a7ba3fad75785a19028ec90"), looks := false }, kinds := [], alts := [], laidByText := true, laidKinds := [.data, .data, .data], laidTests := true, laidLooks := .later }
def FlowSafeUptoCardSaid : Prop := Claim7.holds Tryz.pinned (.plain (OpenSpec.upto flowSafeSpec)) flowSafeUptoCard
end Rows
end Go.Proofs.YthhgmnocigekaaaGreatDoor
