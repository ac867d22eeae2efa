/-
  Steps, reckoned.
-/
import Derived.Test.YtgnmhapgciejfaaGreatDoorGHN4
set_option linter.all false
set_option maxRecDepth 1000000
namespace Go.Proofs.YtgnmhapgciejfaaGreatDoor
open Mini
theorem awc10 : evC Tryz.prog (orX awK (joinX 211)) 1000 false (headS (dropS 10 awB)) awA10 awS10 = some (.normal, awA11, awS11, awR10, awW10) := by kernel_rfl
theorem awc11 : evC Tryz.prog (orX awK (joinX 211)) 1000 false (headS (dropS 11 awB)) awA11 awS11 = some (.normal, awA12, awS12, awR11, awW11) := by kernel_rfl
end Go.Proofs.YtgnmhapgciejfaaGreatDoor
