/-
  Steps, reckoned.
-/
import Derived.Test.YtjpffbekhfkibaaGreatDoorGTU3
set_option linter.all false
set_option maxRecDepth 1000000
namespace Go.Proofs.YtjpffbekhfkibaaGreatDoor
open Mini
theorem awc4 : evC Tryz.prog (joinX 95) 1000 false (headS (dropS 4 awB)) awA4 awS4 = some (.normal, awA5, awS5, awR4, awW4) := by kernel_rfl
theorem awc5 : evC Tryz.prog (joinX 95) 1000 false (headS (dropS 5 awB)) awA5 awS5 = some (.normal, awA6, awS6, awR5, awW5) := by kernel_rfl
theorem awc6 : evC Tryz.prog (joinX 95) 1000 false (headS (dropS 6 awB)) awA6 awS6 = some (.normal, awA7, awS7, awR6, awW6) := by kernel_rfl
theorem awc7 : evC Tryz.prog (joinX 95) 1000 false (headS (dropS 7 awB)) awA7 awS7 = some (.normal, awA8, awS8, awR7, awW7) := by kernel_rfl
end Go.Proofs.YtjpffbekhfkibaaGreatDoor
