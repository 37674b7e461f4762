/- Calls, evaluated. -/
import Derived.Test.YtgomkbcokgeciaaKeptA
open Go Go.Eng
set_option maxRecDepth 1000000
set_option linter.unusedVariables false
namespace Go.Proofs.Ytgomkbcokgeciaa.K
theorem eA12 : retR (run2 (cbA12) 100000 (.call 31 aA12.toArray (hpAt 621 hA12))) vA12 1000000 nA12 = true := by kernel_rfl
theorem eA13 : retR (run2 (cbA13) 100000 (.call 31 aA13.toArray (hpAt 621 hA13))) vA13 1000000 nA13 = true := by kernel_rfl
end Go.Proofs.Ytgomkbcokgeciaa.K
