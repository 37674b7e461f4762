/- Calls, evaluated. -/
import Derived.Test.YtgomkbcokgeciaaKeptA
open Go Go.Eng
set_option maxRecDepth 1000000
set_option linter.unusedVariables false
namespace Go.Proofs.Ytgomkbcokgeciaa.K
theorem eeA7x0 : (endsC cbA7 (run cbA7 100000) none 65 tA7x0 (loopOf Try.f33) sA7x0).isSome = true := by kernel_rfl
theorem erA7x0c0 : rowsC cbA7 (run cbA7 100000) none 65 tA7x0 (loopOf Try.f33) sA7x0 0 12 = true := by kernel_rfl
end Go.Proofs.Ytgomkbcokgeciaa.K
