/-
  Steps, reckoned.
-/
import Derived.Test.YthhgmnocigekaaaGreatDoorGS4
set_option linter.all false
set_option maxRecDepth 1000000
namespace Go.Proofs.YthhgmnocigekaaaGreatDoor
open Mini
theorem aw5c21 : evC Tryz.prog (orX (orX awK (evNF Tryz.prog (joinX 131) 400 84)) (joinX 131)) 1000 false (headS (dropS 21 aw5B)) aw5A21 aw5S21 = some (.normal, aw5A22, aw5S22, aw5R21, aw5W21) := by kernel_rfl
end Go.Proofs.YthhgmnocigekaaaGreatDoor
