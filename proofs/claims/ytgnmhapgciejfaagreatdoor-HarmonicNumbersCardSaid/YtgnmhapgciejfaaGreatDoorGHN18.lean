/-
  Steps, reckoned.
-/
import Derived.Test.YtgnmhapgciejfaaGreatDoorGHN4
set_option linter.all false
set_option maxRecDepth 1000000
namespace Go.Proofs.YtgnmhapgciejfaaGreatDoor
open Mini
theorem awc24 : evC Tryz.prog (orX awK (joinX 211)) 1000 false (headS (dropS 24 awB)) awA24 awS24 = some (.normal, awA25, awS25, awR24, awW24) := by kernel_rfl
theorem awc25 : evC Tryz.prog (orX awK (joinX 211)) 1000 false (dropS 25 awB) awA25 awS25 = some (.ret, awA26, awS26, awR25, awW25) := by kernel_rfl
end Go.Proofs.YtgnmhapgciejfaaGreatDoor
