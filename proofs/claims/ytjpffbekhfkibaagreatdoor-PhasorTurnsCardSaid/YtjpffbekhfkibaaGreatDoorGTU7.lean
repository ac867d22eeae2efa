/-
  Steps, reckoned.
-/
import Derived.Test.YtjpffbekhfkibaaGreatDoorGTU3
set_option linter.all false
set_option maxRecDepth 1000000
namespace Go.Proofs.YtjpffbekhfkibaaGreatDoor
open Mini
theorem awc12 : evC Tryz.prog (joinX 95) 1000 false (headS (dropS 12 awB)) awA12 awS12 = some (.normal, awA13, awS13, awR12, awW12) := by kernel_rfl
theorem awc13 : evC Tryz.prog (joinX 95) 1000 false (headS (dropS 13 awB)) awA13 awS13 = some (.normal, awA14, awS14, awR13, awW13) := by kernel_rfl
theorem awc14 : evC Tryz.prog (joinX 95) 1000 false (headS (dropS 14 awB)) awA14 awS14 = some (.normal, awA15, awS15, awR14, awW14) := by kernel_rfl
theorem awc15 : evC Tryz.prog (joinX 95) 1000 false (headS (dropS 15 awB)) awA15 awS15 = some (.normal, awA16, awS16, awR15, awW15) := by kernel_rfl
end Go.Proofs.YtjpffbekhfkibaaGreatDoor
