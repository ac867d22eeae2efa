/-
  Steps, reckoned.
-/
import Derived.Test.YtjpffbekhfkibaaGreatDoorGTU3
set_option linter.all false
set_option maxRecDepth 1000000
namespace Go.Proofs.YtjpffbekhfkibaaGreatDoor
open Mini
theorem awc16 : evC Tryz.prog (joinX 95) 1000 false (headS (dropS 16 awB)) awA16 awS16 = some (.normal, awA17, awS17, awR16, awW16) := by kernel_rfl
theorem awc17 : evC Tryz.prog (joinX 95) 1000 false (headS (dropS 17 awB)) awA17 awS17 = some (.normal, awA18, awS18, awR17, awW17) := by kernel_rfl
theorem awc18 : evC Tryz.prog (joinX 95) 1000 false (headS (dropS 18 awB)) awA18 awS18 = some (.normal, awA19, awS19, awR18, awW18) := by kernel_rfl
theorem awc19 : evC Tryz.prog (joinX 95) 1000 false (dropS 19 awB) awA19 awS19 = some (.ret, awA20, awS20, awR19, awW19) := by kernel_rfl
end Go.Proofs.YtjpffbekhfkibaaGreatDoor
