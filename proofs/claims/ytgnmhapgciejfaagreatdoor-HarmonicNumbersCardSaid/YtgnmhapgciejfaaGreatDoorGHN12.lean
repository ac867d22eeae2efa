/-
  Steps, reckoned.
-/
import Derived.Test.YtgnmhapgciejfaaGreatDoorGHN4
set_option linter.all false
set_option maxRecDepth 1000000
namespace Go.Proofs.YtgnmhapgciejfaaGreatDoor
open Mini
theorem awc12 : evC Tryz.prog (orX awK (joinX 211)) 1000 false (headS (dropS 12 awB)) awA12 awS12 = some (.normal, awA13, awS13, awR12, awW12) := by kernel_rfl
theorem awc13 : evC Tryz.prog (orX awK (joinX 211)) 1000 false (headS (dropS 13 awB)) awA13 awS13 = some (.normal, awA14, awS14, awR13, awW13) := by kernel_rfl
end Go.Proofs.YtgnmhapgciejfaaGreatDoor
