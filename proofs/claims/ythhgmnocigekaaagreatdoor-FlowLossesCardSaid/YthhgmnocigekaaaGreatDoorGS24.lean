/-
  Steps, reckoned.
-/
import Derived.Test.YthhgmnocigekaaaGreatDoorGS4
set_option linter.all false
set_option maxRecDepth 1000000
namespace Go.Proofs.YthhgmnocigekaaaGreatDoor
open Mini
theorem aw5c19 : evC Tryz.prog (orX (orX awK (evNF Tryz.prog (joinX 131) 400 84)) (joinX 131)) 1000 false (headS (dropS 19 aw5B)) aw5A19 aw5S19 = some (.normal, aw5A20, aw5S20, aw5R19, aw5W19) := by kernel_rfl
end Go.Proofs.YthhgmnocigekaaaGreatDoor
