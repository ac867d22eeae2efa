/-
  Steps, reckoned.
-/
import Derived.Test.YthhgmnocigekaaaGreatDoorGS4
set_option linter.all false
set_option maxRecDepth 1000000
namespace Go.Proofs.YthhgmnocigekaaaGreatDoor
open Mini
theorem aw5c9 : evC Tryz.prog (orX (orX awK (evNF Tryz.prog (joinX 131) 400 84)) (joinX 131)) 1000 false (headS (dropS 9 aw5B)) aw5A9 aw5S9 = some (.normal, aw5A10, aw5S10, aw5R9, aw5W9) := by kernel_rfl
end Go.Proofs.YthhgmnocigekaaaGreatDoor
