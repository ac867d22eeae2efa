/-
  Steps, reckoned.
-/
import Derived.Test.YthhgmnocigekaaaGreatDoorGS4
set_option linter.all false
set_option maxRecDepth 1000000
namespace Go.Proofs.YthhgmnocigekaaaGreatDoor
open Mini
theorem aw5c17 : evC Tryz.prog (orX (orX awK (evNF Tryz.prog (joinX 131) 400 84)) (joinX 131)) 1000 false (headS (dropS 17 aw5B)) aw5A17 aw5S17 = some (.normal, aw5A18, aw5S18, aw5R17, aw5W17) := by kernel_rfl
end Go.Proofs.YthhgmnocigekaaaGreatDoor
