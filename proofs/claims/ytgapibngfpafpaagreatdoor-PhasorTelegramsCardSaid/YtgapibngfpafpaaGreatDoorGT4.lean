/-
  Steps, reckoned.
-/
import Derived.Test.YtgapibngfpafpaaGreatDoorGT2
set_option linter.all false
set_option maxRecDepth 1000000
namespace Go.Proofs.YtgapibngfpafpaaGreatDoor
open Mini
theorem awc0 : evC Tryz.prog (joinX 99) 1000 false (headS (dropS 0 awB)) awA0 awS0 = some (.normal, awA1, awS1, 0, 0) := by kernel_rfl
theorem awc1 : evC Tryz.prog (joinX 99) 1000 false (headS (dropS 1 awB)) awA1 awS1 = some (.normal, awA2, awS2, 16777152, 30409920) := by kernel_rfl
theorem awc2 : evC Tryz.prog (joinX 99) 1000 false (headS (dropS 2 awB)) awA2 awS2 = some (.normal, awA3, awS3, 2113929216, 33554432) := by kernel_rfl
theorem awc3 : evC Tryz.prog (joinX 99) 1000 false (headS (dropS 3 awB)) awA3 awS3 = some (.normal, awA4, awS4, 8793945538560, 16228533927936) := by kernel_rfl
end Go.Proofs.YtgapibngfpafpaaGreatDoor
