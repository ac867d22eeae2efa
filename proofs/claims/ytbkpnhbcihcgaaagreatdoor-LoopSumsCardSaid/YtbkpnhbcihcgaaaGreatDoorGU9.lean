/-
  Steps, reckoned.
-/
import Derived.Test.YtbkpnhbcihcgaaaGreatDoorGU2
set_option linter.all false
set_option maxRecDepth 1000000
namespace Go.Proofs.YtbkpnhbcihcgaaaGreatDoor
open Mini
theorem aw3c20 : evC Tryz.prog (joinX 142) 1000 false (headS (dropS 20 aw3B)) aw3A20 aw3S20 = some (.normal, aw3A21, aw3S21, aw3R20, aw3W20) := by kernel_rfl
theorem aw3c21 : evC Tryz.prog (joinX 142) 1000 false (headS (dropS 21 aw3B)) aw3A21 aw3S21 = some (.normal, aw3A22, aw3S22, aw3R21, aw3W21) := by kernel_rfl
theorem aw3c22 : evC Tryz.prog (joinX 142) 1000 false (headS (dropS 22 aw3B)) aw3A22 aw3S22 = some (.normal, aw3A23, aw3S23, aw3R22, aw3W22) := by kernel_rfl
theorem aw3c23 : evC Tryz.prog (joinX 142) 1000 false (headS (dropS 23 aw3B)) aw3A23 aw3S23 = some (.normal, aw3A24, aw3S24, aw3R23, aw3W23) := by kernel_rfl
end Go.Proofs.YtbkpnhbcihcgaaaGreatDoor
