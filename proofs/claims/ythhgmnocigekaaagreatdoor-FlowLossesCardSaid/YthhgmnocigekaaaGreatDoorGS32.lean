/-
  Steps, reckoned.
-/
import Derived.Test.YthhgmnocigekaaaGreatDoorGS4
set_option linter.all false
set_option maxRecDepth 1000000
namespace Go.Proofs.YthhgmnocigekaaaGreatDoor
open Mini
theorem aw5c27 : evC Tryz.prog (orX (orX awK (evNF Tryz.prog (joinX 131) 400 84)) (joinX 131)) 1000 false (dropS 27 aw5B) aw5A27 aw5S27 = some (.ret, aw5A28, aw5S28, aw5R27, aw5W27) := by kernel_rfl
end Go.Proofs.YthhgmnocigekaaaGreatDoor
