/-
  Steps, reckoned.
-/
import Derived.Test.YthhgmnocigekaaaGreatDoorGS4
set_option linter.all false
set_option maxRecDepth 1000000
namespace Go.Proofs.YthhgmnocigekaaaGreatDoor
open Mini
theorem aw5c0 : evC Tryz.prog (orX (orX awK (evNF Tryz.prog (joinX 131) 400 84)) (joinX 131)) 1000 false (headS (dropS 0 aw5B)) aw5A0 aw5S0 = some (.normal, aw5A1, aw5S1, aw5R0, aw5W0) := by kernel_rfl
end Go.Proofs.YthhgmnocigekaaaGreatDoor
