/-
  Steps, reckoned.
-/
import Derived.Test.YthhgmnocigekaaaGreatDoorGS4
set_option linter.all false
set_option maxRecDepth 1000000
namespace Go.Proofs.YthhgmnocigekaaaGreatDoor
open Mini
theorem aw5c26 : evC Tryz.prog (orX (orX awK (evNF Tryz.prog (joinX 131) 400 84)) (joinX 131)) 1000 false (headS (dropS 26 aw5B)) aw5A26 aw5S26 = some (.normal, aw5A27, aw5S27, aw5R26, aw5W26) := by kernel_rfl
end Go.Proofs.YthhgmnocigekaaaGreatDoor
