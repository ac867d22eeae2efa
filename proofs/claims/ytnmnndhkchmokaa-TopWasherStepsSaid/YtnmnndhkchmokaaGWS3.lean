/-
  Steps, reckoned.
-/
import Derived.Test.YtnmnndhkchmokaaGWS2
set_option linter.all false
set_option maxRecDepth 1000000
namespace Go.Proofs.Ytnmnndhkchmokaa
open Mini
theorem awc0 : evC Try.prog noX 1000 false (headS (dropS 0 awB)) awA0 awS0 = some (.normal, awA1, awS1, awR0, awW0) := by kernel_rfl
theorem awc1 : evC Try.prog noX 1000 false (headS (dropS 1 awB)) awA1 awS1 = some (.normal, awA2, awS2, awR1, awW1) := by kernel_rfl
theorem awc2 : evC Try.prog noX 1000 false (headS (dropS 2 awB)) awA2 awS2 = some (.normal, awA3, awS3, awR2, awW2) := by kernel_rfl
theorem awc3 : evC Try.prog noX 1000 false (headS (dropS 3 awB)) awA3 awS3 = some (.normal, awA4, awS4, awR3, awW3) := by kernel_rfl
end Go.Proofs.Ytnmnndhkchmokaa
