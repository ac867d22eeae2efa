/-
  Steps, reckoned.
-/
import Derived.Test.YthhgmnocigekaaaGreatDoorGS4
set_option linter.all false
set_option maxRecDepth 1000000
namespace Go.Proofs.YthhgmnocigekaaaGreatDoor
open Mini
theorem aw5c18 : evC Tryz.prog (orX (orX awK (evNF Tryz.prog (joinX 131) 400 84)) (joinX 131)) 1000 false (headS (dropS 18 aw5B)) aw5A18 aw5S18 = some (.normal, aw5A19, aw5S19, aw5R18, aw5W18) := by kernel_rfl
end Go.Proofs.YthhgmnocigekaaaGreatDoor
