/-
  Steps, reckoned.
-/
import Derived.Test.YthhgmnocigekaaaGreatDoorGS4
set_option linter.all false
set_option maxRecDepth 1000000
namespace Go.Proofs.YthhgmnocigekaaaGreatDoor
open Mini
theorem aw5c7 : evC Tryz.prog (orX (orX awK (evNF Tryz.prog (joinX 131) 400 84)) (joinX 131)) 1000 false (headS (dropS 7 aw5B)) aw5A7 aw5S7 = some (.normal, aw5A8, aw5S8, aw5R7, aw5W7) := by kernel_rfl
end Go.Proofs.YthhgmnocigekaaaGreatDoor
