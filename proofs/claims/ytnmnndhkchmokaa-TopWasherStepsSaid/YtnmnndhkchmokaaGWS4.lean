/-
  Steps, reckoned.
-/
import Derived.Test.YtnmnndhkchmokaaGWS2
set_option linter.all false
set_option maxRecDepth 1000000
namespace Go.Proofs.Ytnmnndhkchmokaa
open Mini
theorem awc4 : evC Try.prog noX 1000 false (dropS 4 awB) awA4 awS4 = some (.ret, awA5, awS5, awR4, awW4) := by kernel_rfl
end Go.Proofs.Ytnmnndhkchmokaa
