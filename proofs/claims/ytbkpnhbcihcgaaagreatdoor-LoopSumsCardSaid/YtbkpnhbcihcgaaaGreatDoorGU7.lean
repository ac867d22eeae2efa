/-
  Steps, reckoned.
-/
import Derived.Test.YtbkpnhbcihcgaaaGreatDoorGU2
set_option linter.all false
set_option maxRecDepth 1000000
namespace Go.Proofs.YtbkpnhbcihcgaaaGreatDoor
open Mini
theorem aw3c12 : evC Tryz.prog (joinX 142) 1000 false (headS (dropS 12 aw3B)) aw3A12 aw3S12 = some (.normal, aw3A13, aw3S13, aw3R12, aw3W12) := by kernel_rfl
theorem aw3c13 : evC Tryz.prog (joinX 142) 1000 false (headS (dropS 13 aw3B)) aw3A13 aw3S13 = some (.normal, aw3A14, aw3S14, aw3R13, aw3W13) := by kernel_rfl
theorem aw3c14 : evC Tryz.prog (joinX 142) 1000 false (headS (dropS 14 aw3B)) aw3A14 aw3S14 = some (.normal, aw3A15, aw3S15, aw3R14, aw3W14) := by kernel_rfl
theorem aw3c15 : evC Tryz.prog (joinX 142) 1000 false (headS (dropS 15 aw3B)) aw3A15 aw3S15 = some (.normal, aw3A16, aw3S16, aw3R15, aw3W15) := by kernel_rfl
end Go.Proofs.YtbkpnhbcihcgaaaGreatDoor
