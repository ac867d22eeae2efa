/-
  Steps, reckoned.
-/
import Derived.Test.YthhgmnocigekaaaGreatDoorGS4
set_option linter.all false
set_option maxRecDepth 1000000
namespace Go.Proofs.YthhgmnocigekaaaGreatDoor
open Mini
theorem aw5c22 : evC Tryz.prog (orX (orX awK (evNF Tryz.prog (joinX 131) 400 84)) (joinX 131)) 1000 false (headS (dropS 22 aw5B)) aw5A22 aw5S22 = some (.normal, aw5A23, aw5S23, aw5R22, aw5W22) := by kernel_rfl
end Go.Proofs.YthhgmnocigekaaaGreatDoor
