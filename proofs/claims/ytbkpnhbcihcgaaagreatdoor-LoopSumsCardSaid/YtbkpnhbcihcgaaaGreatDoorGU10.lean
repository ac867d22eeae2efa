/-
  Steps, reckoned.
-/
import Derived.Test.YtbkpnhbcihcgaaaGreatDoorGU2
set_option linter.all false
set_option maxRecDepth 1000000
namespace Go.Proofs.YtbkpnhbcihcgaaaGreatDoor
open Mini
theorem aw3c24 : evC Tryz.prog (joinX 142) 1000 false (dropS 24 aw3B) aw3A24 aw3S24 = some (.ret, aw3A25, aw3S25, aw3R24, aw3W24) := by kernel_rfl
end Go.Proofs.YtbkpnhbcihcgaaaGreatDoor
