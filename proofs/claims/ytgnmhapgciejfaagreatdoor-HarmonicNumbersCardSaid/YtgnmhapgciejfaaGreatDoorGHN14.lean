/-
  Steps, reckoned.
-/
import Derived.Test.YtgnmhapgciejfaaGreatDoorGHN4
set_option linter.all false
set_option maxRecDepth 1000000
namespace Go.Proofs.YtgnmhapgciejfaaGreatDoor
open Mini
theorem awc16 : evC Tryz.prog (orX awK (joinX 211)) 1000 false (headS (dropS 16 awB)) awA16 awS16 = some (.normal, awA17, awS17, awR16, awW16) := by kernel_rfl
theorem awc17 : evC Tryz.prog (orX awK (joinX 211)) 1000 false (headS (dropS 17 awB)) awA17 awS17 = some (.normal, awA18, awS18, awR17, awW17) := by kernel_rfl
end Go.Proofs.YtgnmhapgciejfaaGreatDoor
