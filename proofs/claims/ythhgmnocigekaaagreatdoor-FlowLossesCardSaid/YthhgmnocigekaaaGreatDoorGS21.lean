/-
  Steps, reckoned.
-/
import Derived.Test.YthhgmnocigekaaaGreatDoorGS4
set_option linter.all false
set_option maxRecDepth 1000000
namespace Go.Proofs.YthhgmnocigekaaaGreatDoor
open Mini
theorem aw5c16 : evC Tryz.prog (orX (orX awK (evNF Tryz.prog (joinX 131) 400 84)) (joinX 131)) 1000 false (headS (dropS 16 aw5B)) aw5A16 aw5S16 = some (.normal, aw5A17, aw5S17, aw5R16, aw5W16) := by kernel_rfl
end Go.Proofs.YthhgmnocigekaaaGreatDoor
