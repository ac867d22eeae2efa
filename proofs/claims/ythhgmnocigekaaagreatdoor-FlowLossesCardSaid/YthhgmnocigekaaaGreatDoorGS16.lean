/-
  Steps, reckoned.
-/
import Derived.Test.YthhgmnocigekaaaGreatDoorGS4
set_option linter.all false
set_option maxRecDepth 1000000
namespace Go.Proofs.YthhgmnocigekaaaGreatDoor
open Mini
theorem aw5c11 : evC Tryz.prog (orX (orX awK (evNF Tryz.prog (joinX 131) 400 84)) (joinX 131)) 1000 false (headS (dropS 11 aw5B)) aw5A11 aw5S11 = some (.normal, aw5A12, aw5S12, aw5R11, aw5W11) := by kernel_rfl
end Go.Proofs.YthhgmnocigekaaaGreatDoor
