/-
  Steps, reckoned.
-/
import Derived.Test.YthhgmnocigekaaaGreatDoorGS4
set_option linter.all false
set_option maxRecDepth 1000000
namespace Go.Proofs.YthhgmnocigekaaaGreatDoor
open Mini
theorem aw5c12 : evC Tryz.prog (orX (orX awK (evNF Tryz.prog (joinX 131) 400 84)) (joinX 131)) 1000 false (headS (dropS 12 aw5B)) aw5A12 aw5S12 = some (.normal, aw5A13, aw5S13, aw5R12, aw5W12) := by kernel_rfl
end Go.Proofs.YthhgmnocigekaaaGreatDoor
