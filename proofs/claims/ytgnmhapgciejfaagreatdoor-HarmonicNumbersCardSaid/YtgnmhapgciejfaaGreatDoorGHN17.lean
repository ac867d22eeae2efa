/-
  Steps, reckoned.
-/
import Derived.Test.YtgnmhapgciejfaaGreatDoorGHN4
set_option linter.all false
set_option maxRecDepth 1000000
namespace Go.Proofs.YtgnmhapgciejfaaGreatDoor
open Mini
theorem awc22 : evC Tryz.prog (orX awK (joinX 211)) 1000 false (headS (dropS 22 awB)) awA22 awS22 = some (.normal, awA23, awS23, awR22, awW22) := by kernel_rfl
theorem awc23 : evC Tryz.prog (orX awK (joinX 211)) 1000 false (headS (dropS 23 awB)) awA23 awS23 = some (.normal, awA24, awS24, awR23, awW23) := by kernel_rfl
end Go.Proofs.YtgnmhapgciejfaaGreatDoor
