/-
  Steps, reckoned.
-/
import Derived.Test.YtjpffbekhfkibaaGreatDoorGTU3
set_option linter.all false
set_option maxRecDepth 1000000
namespace Go.Proofs.YtjpffbekhfkibaaGreatDoor
open Mini
theorem awc8 : evC Tryz.prog (joinX 95) 1000 false (headS (dropS 8 awB)) awA8 awS8 = some (.normal, awA9, awS9, awR8, awW8) := by kernel_rfl
theorem awc9 : evC Tryz.prog (joinX 95) 1000 false (headS (dropS 9 awB)) awA9 awS9 = some (.normal, awA10, awS10, awR9, awW9) := by kernel_rfl
theorem awc10 : evC Tryz.prog (joinX 95) 1000 false (headS (dropS 10 awB)) awA10 awS10 = some (.normal, awA11, awS11, awR10, awW10) := by kernel_rfl
theorem awc11 : evC Tryz.prog (joinX 95) 1000 false (headS (dropS 11 awB)) awA11 awS11 = some (.normal, awA12, awS12, awR11, awW11) := by kernel_rfl
end Go.Proofs.YtjpffbekhfkibaaGreatDoor
