/-
  Steps, reckoned.
-/
import Derived.Test.YtbkpnhbcihcgaaaGreatDoorGU2
set_option linter.all false
set_option maxRecDepth 1000000
namespace Go.Proofs.YtbkpnhbcihcgaaaGreatDoor
open Mini
theorem aw3c8 : evC Tryz.prog (joinX 142) 1000 false (headS (dropS 8 aw3B)) aw3A8 aw3S8 = some (.normal, aw3A9, aw3S9, aw3R8, aw3W8) := by kernel_rfl
theorem aw3c9 : evC Tryz.prog (joinX 142) 1000 false (headS (dropS 9 aw3B)) aw3A9 aw3S9 = some (.normal, aw3A10, aw3S10, aw3R9, aw3W9) := by kernel_rfl
theorem aw3c10 : evC Tryz.prog (joinX 142) 1000 false (headS (dropS 10 aw3B)) aw3A10 aw3S10 = some (.normal, aw3A11, aw3S11, aw3R10, aw3W10) := by kernel_rfl
theorem aw3c11 : evC Tryz.prog (joinX 142) 1000 false (headS (dropS 11 aw3B)) aw3A11 aw3S11 = some (.normal, aw3A12, aw3S12, aw3R11, aw3W11) := by kernel_rfl
end Go.Proofs.YtbkpnhbcihcgaaaGreatDoor
