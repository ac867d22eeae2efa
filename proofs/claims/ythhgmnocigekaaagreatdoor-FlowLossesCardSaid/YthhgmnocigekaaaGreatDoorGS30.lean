/-
  Steps, reckoned.
-/
import Derived.Test.YthhgmnocigekaaaGreatDoorGS4
set_option linter.all false
set_option maxRecDepth 1000000
namespace Go.Proofs.YthhgmnocigekaaaGreatDoor
open Mini
theorem aw5c25 : evC Tryz.prog (orX (orX awK (evNF Tryz.prog (joinX 131) 400 84)) (joinX 131)) 1000 false (headS (dropS 25 aw5B)) aw5A25 aw5S25 = some (.normal, aw5A26, aw5S26, aw5R25, aw5W25) := by kernel_rfl
end Go.Proofs.YthhgmnocigekaaaGreatDoor
