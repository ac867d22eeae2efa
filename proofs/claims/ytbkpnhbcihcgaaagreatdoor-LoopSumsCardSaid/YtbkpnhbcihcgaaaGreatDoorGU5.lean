/-
  Steps, reckoned.
-/
import Derived.Test.YtbkpnhbcihcgaaaGreatDoorGU2
set_option linter.all false
set_option maxRecDepth 1000000
namespace Go.Proofs.YtbkpnhbcihcgaaaGreatDoor
open Mini
theorem aw3c4 : evC Tryz.prog (joinX 142) 1000 false (headS (dropS 4 aw3B)) aw3A4 aw3S4 = some (.normal, aw3A5, aw3S5, aw3R4, aw3W4) := by kernel_rfl
theorem aw3c5 : evC Tryz.prog (joinX 142) 1000 false (headS (dropS 5 aw3B)) aw3A5 aw3S5 = some (.normal, aw3A6, aw3S6, aw3R5, aw3W5) := by kernel_rfl
theorem aw3c6 : evC Tryz.prog (joinX 142) 1000 false (headS (dropS 6 aw3B)) aw3A6 aw3S6 = some (.normal, aw3A7, aw3S7, aw3R6, aw3W6) := by kernel_rfl
theorem aw3c7 : evC Tryz.prog (joinX 142) 1000 false (headS (dropS 7 aw3B)) aw3A7 aw3S7 = some (.normal, aw3A8, aw3S8, aw3R7, aw3W7) := by kernel_rfl
end Go.Proofs.YtbkpnhbcihcgaaaGreatDoor
