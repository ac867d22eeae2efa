/-
  Steps, reckoned.
-/
import Derived.Test.YthhgmnocigekaaaGreatDoorGS4
set_option linter.all false
set_option maxRecDepth 1000000
namespace Go.Proofs.YthhgmnocigekaaaGreatDoor
open Mini
theorem aw5c10 : evC Tryz.prog (orX (orX awK (evNF Tryz.prog (joinX 131) 400 84)) (joinX 131)) 1000 false (headS (dropS 10 aw5B)) aw5A10 aw5S10 = some (.normal, aw5A11, aw5S11, aw5R10, aw5W10) := by kernel_rfl
end Go.Proofs.YthhgmnocigekaaaGreatDoor
