/- Calls, evaluated. -/
import Derived.Test.YtgomkbcokgeciaaGreatScKeptA
open Go Go.bR
set_option maxRecDepth 1000000
set_option linter.unusedVariables false
namespace Go.Proofs.YtgomkbcokgeciaaGreat.K
theorem eA0 : sD (mY aZB lA0 100000 (.call 19 aA0.toArray (hpAt 9 hA0))) vA0 1000000 nA0 = true := by kernel_rfl
theorem eA1 : sD (IU (bJI) 100000 (.call 19 aA1.toArray (hpAt 10 hA1))) vA1 1000000 nA1 = true := by kernel_rfl
end Go.Proofs.YtgomkbcokgeciaaGreat.K
