/- Calls, evaluated. -/
import Derived.Test.YtgomkbcokgeciaaKeptA
open Go Go.Eng
set_option maxRecDepth 1000000
set_option linter.unusedVariables false
namespace Go.Proofs.Ytgomkbcokgeciaa.K
theorem eA6 : retL (runL cbA6 (run cbA6 100000) ndP lA6 100000 (.call 32 aA6.toArray (hpAt 606 hA6))) vA6 1000000 nA6 = true := by kernel_rfl
theorem ehA7x0 : headC 65 tA7x0 (loopOf Try.f33) sA7x0 = true := by kernel_rfl
end Go.Proofs.Ytgomkbcokgeciaa.K
