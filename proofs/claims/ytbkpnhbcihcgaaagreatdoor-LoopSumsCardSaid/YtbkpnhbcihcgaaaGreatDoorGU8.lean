/-
  Steps, reckoned.
-/
import Derived.Test.YtbkpnhbcihcgaaaGreatDoorGU2
set_option linter.all false
set_option maxRecDepth 1000000
namespace Go.Proofs.YtbkpnhbcihcgaaaGreatDoor
open Mini
theorem aw3c16 : evC Tryz.prog (joinX 142) 1000 false (headS (dropS 16 aw3B)) aw3A16 aw3S16 = some (.normal, aw3A17, aw3S17, aw3R16, aw3W16) := by kernel_rfl
theorem aw3c17 : evC Tryz.prog (joinX 142) 1000 false (headS (dropS 17 aw3B)) aw3A17 aw3S17 = some (.normal, aw3A18, aw3S18, aw3R17, aw3W17) := by kernel_rfl
theorem aw3c18 : evC Tryz.prog (joinX 142) 1000 false (headS (dropS 18 aw3B)) aw3A18 aw3S18 = some (.normal, aw3A19, aw3S19, aw3R18, aw3W18) := by kernel_rfl
theorem aw3c19 : evC Tryz.prog (joinX 142) 1000 false (headS (dropS 19 aw3B)) aw3A19 aw3S19 = some (.normal, aw3A20, aw3S20, aw3R19, aw3W19) := by kernel_rfl
end Go.Proofs.YtbkpnhbcihcgaaaGreatDoor
