/-
  Steps, reckoned.
-/
import Derived.Test.YtgnmhapgciejfaaGreatDoorGHN4
set_option linter.all false
set_option maxRecDepth 1000000
namespace Go.Proofs.YtgnmhapgciejfaaGreatDoor
open Mini
theorem awc0 : evC Tryz.prog (orX awK (joinX 211)) 1000 false (headS (dropS 0 awB)) awA0 awS0 = some (.normal, awA1, awS1, awR0, awW0) := by kernel_rfl
theorem awc1 : evC Tryz.prog (orX awK (joinX 211)) 1000 false (headS (dropS 1 awB)) awA1 awS1 = some (.normal, awA2, awS2, awR1, awW1) := by kernel_rfl
end Go.Proofs.YtgnmhapgciejfaaGreatDoor
