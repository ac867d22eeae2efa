/-
  Steps, reckoned.
-/
import Derived.Test.YtgnmhapgciejfaaGreatDoorGHN4
set_option linter.all false
set_option maxRecDepth 1000000
namespace Go.Proofs.YtgnmhapgciejfaaGreatDoor
open Mini
theorem awc2 : evC Tryz.prog (orX awK (joinX 211)) 1000 false (headS (dropS 2 awB)) awA2 awS2 = some (.normal, awA3, awS3, awR2, awW2) := by kernel_rfl
theorem awc3 : evC Tryz.prog (orX awK (joinX 211)) 1000 false (headS (dropS 3 awB)) awA3 awS3 = some (.normal, awA4, awS4, awR3, awW3) := by kernel_rfl
end Go.Proofs.YtgnmhapgciejfaaGreatDoor
