/-
  Steps, reckoned.
-/
import Derived.Test.YtgnmhapgciejfaaGreatDoorGHN4
set_option linter.all false
set_option maxRecDepth 1000000
namespace Go.Proofs.YtgnmhapgciejfaaGreatDoor
open Mini
theorem awc8 : evC Tryz.prog (orX awK (joinX 211)) 1000 false (headS (dropS 8 awB)) awA8 awS8 = some (.normal, awA9, awS9, awR8, awW8) := by kernel_rfl
theorem awc9 : evC Tryz.prog (orX awK (joinX 211)) 1000 false (headS (dropS 9 awB)) awA9 awS9 = some (.normal, awA10, awS10, awR9, awW9) := by kernel_rfl
end Go.Proofs.YtgnmhapgciejfaaGreatDoor
