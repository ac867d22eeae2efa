/-
  Steps, reckoned.
-/
import Derived.Test.YthhgmnocigekaaaGreatDoorGS4
set_option linter.all false
set_option maxRecDepth 1000000
namespace Go.Proofs.YthhgmnocigekaaaGreatDoor
open Mini
theorem aw5c14 : evC Tryz.prog (orX (orX awK (evNF Tryz.prog (joinX 131) 400 84)) (joinX 131)) 1000 false (headS (dropS 14 aw5B)) aw5A14 aw5S14 = some (.normal, aw5A15, aw5S15, aw5R14, aw5W14) := by kernel_rfl
end Go.Proofs.YthhgmnocigekaaaGreatDoor
