/- Calls, evaluated. -/
import Derived.Test.YtgomkbcokgeciaaKeptA
open Go Go.Eng
set_option maxRecDepth 1000000
set_option linter.unusedVariables false
namespace Go.Proofs.Ytgomkbcokgeciaa.K
theorem eA5 : retR (runQ cbA5 lA5 100000 (.call 48 aA5.toArray (hpAt 618 hA5))) vA5 1198 nA5 = true := by kernel_rfl
theorem ehA6x0 : headC 50 tA6x0 (loopOf Try.f32) sA6x0 = true := by kernel_rfl
end Go.Proofs.Ytgomkbcokgeciaa.K
