/-
  Steps, reckoned.
-/
import Derived.Test.YtgnmhapgciejfaaGreatDoorGHN4
set_option linter.all false
set_option maxRecDepth 1000000
namespace Go.Proofs.YtgnmhapgciejfaaGreatDoor
open Mini
theorem awc18 : evC Tryz.prog (orX awK (joinX 211)) 1000 false (headS (dropS 18 awB)) awA18 awS18 = some (.normal, awA19, awS19, awR18, awW18) := by kernel_rfl
theorem awc19 : evC Tryz.prog (orX awK (joinX 211)) 1000 false (headS (dropS 19 awB)) awA19 awS19 = some (.normal, awA20, awS20, awR19, awW19) := by kernel_rfl
end Go.Proofs.YtgnmhapgciejfaaGreatDoor
