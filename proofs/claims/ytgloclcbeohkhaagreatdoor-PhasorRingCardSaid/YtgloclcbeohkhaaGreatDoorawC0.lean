/- Steps, reckoned. -/
import Derived.Test.YtgloclcbeohkhaaGreatDoorawS
set_option linter.all false
set_option maxRecDepth 1000000
namespace Go.Proofs.YtgloclcbeohkhaaGreatDoor
open Mini
theorem awc0 : evC Tryz.prog (joinX 121) 1000 false (headS (dropS 0 awB)) awA0 awS0 = some (.normal, awA1, awS1, 0, 0) := by kernel_rfl
theorem awc1 : evC Tryz.prog (joinX 121) 1000 false (headS (dropS 1 awB)) awA1 awS1 = some (.normal, awA2, awS2, 16777152, 30409920) := by kernel_rfl
theorem awc2 : evC Tryz.prog (joinX 121) 1000 false (headS (dropS 2 awB)) awA2 awS2 = some (.normal, awA3, awS3, 1040187392, 33554432) := by kernel_rfl
theorem awc3 : evC Tryz.prog (joinX 121) 1000 false (headS (dropS 3 awB)) awA3 awS3 = some (.normal, awA4, awS4, 4396972769280, 8114266963968) := by kernel_rfl
end Go.Proofs.YtgloclcbeohkhaaGreatDoor
