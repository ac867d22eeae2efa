/-
  Steps, reckoned.
-/
import Derived.Test.YtgnmhapgciejfaaGreatDoorGHN4
set_option linter.all false
set_option maxRecDepth 1000000
namespace Go.Proofs.YtgnmhapgciejfaaGreatDoor
open Mini
theorem awc20 : evC Tryz.prog (orX awK (joinX 211)) 1000 false (headS (dropS 20 awB)) awA20 awS20 = some (.normal, awA21, awS21, awR20, awW20) := by kernel_rfl
theorem awc21 : evC Tryz.prog (orX awK (joinX 211)) 1000 false (headS (dropS 21 awB)) awA21 awS21 = some (.normal, awA22, awS22, awR21, awW21) := by kernel_rfl
end Go.Proofs.YtgnmhapgciejfaaGreatDoor
