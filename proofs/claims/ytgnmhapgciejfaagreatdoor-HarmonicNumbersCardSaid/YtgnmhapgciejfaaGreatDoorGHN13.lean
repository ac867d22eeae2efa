/-
  Steps, reckoned.
-/
import Derived.Test.YtgnmhapgciejfaaGreatDoorGHN4
set_option linter.all false
set_option maxRecDepth 1000000
namespace Go.Proofs.YtgnmhapgciejfaaGreatDoor
open Mini
theorem awc14 : evC Tryz.prog (orX awK (joinX 211)) 1000 false (headS (dropS 14 awB)) awA14 awS14 = some (.normal, awA15, awS15, awR14, awW14) := by kernel_rfl
theorem awc15 : evC Tryz.prog (orX awK (joinX 211)) 1000 false (headS (dropS 15 awB)) awA15 awS15 = some (.normal, awA16, awS16, awR15, awW15) := by kernel_rfl
end Go.Proofs.YtgnmhapgciejfaaGreatDoor
