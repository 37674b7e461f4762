/- Calls, evaluated. -/
import Derived.Test.YtgomkbcokgeciaaKeptA
open Go Go.Eng
set_option maxRecDepth 1000000
set_option linter.unusedVariables false
namespace Go.Proofs.Ytgomkbcokgeciaa.K
theorem erA6x0c1 : rowsC cbA6 (run cbA6 100000) none 50 tA6x0 (loopOf Try.f32) sA6x0 12 12 = true := by kernel_rfl
theorem erA6x0c2 : rowsC cbA6 (run cbA6 100000) none 50 tA6x0 (loopOf Try.f32) sA6x0 24 12 = true := by kernel_rfl
end Go.Proofs.Ytgomkbcokgeciaa.K
