/-
  Steps, reckoned.
-/
import Derived.Test.YtbkpnhbcihcgaaaGreatDoorGU2
set_option linter.all false
set_option maxRecDepth 1000000
namespace Go.Proofs.YtbkpnhbcihcgaaaGreatDoor
open Mini
theorem aw3c0 : evC Tryz.prog (joinX 142) 1000 false (headS (dropS 0 aw3B)) aw3A0 aw3S0 = some (.normal, aw3A1, aw3S1, aw3R0, aw3W0) := by kernel_rfl
theorem aw3c1 : evC Tryz.prog (joinX 142) 1000 false (headS (dropS 1 aw3B)) aw3A1 aw3S1 = some (.normal, aw3A2, aw3S2, aw3R1, aw3W1) := by kernel_rfl
theorem aw3c2 : evC Tryz.prog (joinX 142) 1000 false (headS (dropS 2 aw3B)) aw3A2 aw3S2 = some (.normal, aw3A3, aw3S3, aw3R2, aw3W2) := by kernel_rfl
theorem aw3c3 : evC Tryz.prog (joinX 142) 1000 false (headS (dropS 3 aw3B)) aw3A3 aw3S3 = some (.normal, aw3A4, aw3S4, aw3R3, aw3W3) := by kernel_rfl
end Go.Proofs.YtbkpnhbcihcgaaaGreatDoor
