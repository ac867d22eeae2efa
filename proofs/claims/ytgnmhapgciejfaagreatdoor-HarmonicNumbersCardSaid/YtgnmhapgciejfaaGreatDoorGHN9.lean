/-
  Steps, reckoned.
-/
import Derived.Test.YtgnmhapgciejfaaGreatDoorGHN4
set_option linter.all false
set_option maxRecDepth 1000000
namespace Go.Proofs.YtgnmhapgciejfaaGreatDoor
open Mini
theorem awc6 : evC Tryz.prog (orX awK (joinX 211)) 1000 false (headS (dropS 6 awB)) awA6 awS6 = some (.normal, awA7, awS7, awR6, awW6) := by kernel_rfl
theorem awc7 : evC Tryz.prog (orX awK (joinX 211)) 1000 false (headS (dropS 7 awB)) awA7 awS7 = some (.normal, awA8, awS8, awR7, awW7) := by kernel_rfl
end Go.Proofs.YtgnmhapgciejfaaGreatDoor
