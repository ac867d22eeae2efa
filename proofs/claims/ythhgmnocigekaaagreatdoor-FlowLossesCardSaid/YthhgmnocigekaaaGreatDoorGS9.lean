/-
  Steps, reckoned.
-/
import Derived.Test.YthhgmnocigekaaaGreatDoorGS4
set_option linter.all false
set_option maxRecDepth 1000000
namespace Go.Proofs.YthhgmnocigekaaaGreatDoor
open Mini
theorem aw5c4 : evC Tryz.prog (orX (orX awK (evNF Tryz.prog (joinX 131) 400 84)) (joinX 131)) 1000 false (headS (dropS 4 aw5B)) aw5A4 aw5S4 = some (.normal, aw5A5, aw5S5, aw5R4, aw5W4) := by kernel_rfl
end Go.Proofs.YthhgmnocigekaaaGreatDoor
