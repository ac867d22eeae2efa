/-
  Steps, reckoned.
-/
import Derived.Test.YthhgmnocigekaaaGreatDoorGS4
set_option linter.all false
set_option maxRecDepth 1000000
namespace Go.Proofs.YthhgmnocigekaaaGreatDoor
open Mini
theorem aw5c15 : evC Tryz.prog (orX (orX awK (evNF Tryz.prog (joinX 131) 400 84)) (joinX 131)) 1000 false (headS (dropS 15 aw5B)) aw5A15 aw5S15 = some (.normal, aw5A16, aw5S16, aw5R15, aw5W15) := by kernel_rfl
end Go.Proofs.YthhgmnocigekaaaGreatDoor
