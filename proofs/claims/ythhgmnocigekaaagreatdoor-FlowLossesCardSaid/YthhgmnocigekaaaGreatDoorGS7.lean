/-
  Steps, reckoned.
-/
import Derived.Test.YthhgmnocigekaaaGreatDoorGS4
set_option linter.all false
set_option maxRecDepth 1000000
namespace Go.Proofs.YthhgmnocigekaaaGreatDoor
open Mini
theorem aw5c2 : evC Tryz.prog (orX (orX awK (evNF Tryz.prog (joinX 131) 400 84)) (joinX 131)) 1000 false (headS (dropS 2 aw5B)) aw5A2 aw5S2 = some (.normal, aw5A3, aw5S3, aw5R2, aw5W2) := by kernel_rfl
end Go.Proofs.YthhgmnocigekaaaGreatDoor
