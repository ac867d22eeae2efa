/-
  Steps, reckoned.
-/
import Derived.Test.YtgnmhapgciejfaaGreatDoorGHN4
set_option linter.all false
set_option maxRecDepth 1000000
namespace Go.Proofs.YtgnmhapgciejfaaGreatDoor
open Mini
theorem awc4 : evC Tryz.prog (orX awK (joinX 211)) 1000 false (headS (dropS 4 awB)) awA4 awS4 = some (.normal, awA5, awS5, awR4, awW4) := by kernel_rfl
theorem awc5 : evC Tryz.prog (orX awK (joinX 211)) 1000 false (headS (dropS 5 awB)) awA5 awS5 = some (.normal, awA6, awS6, awR5, awW5) := by kernel_rfl
end Go.Proofs.YtgnmhapgciejfaaGreatDoor
