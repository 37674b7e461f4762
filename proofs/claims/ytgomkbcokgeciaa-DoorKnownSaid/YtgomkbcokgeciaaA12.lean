/- Calls, evaluated. -/
import Derived.Test.YtgomkbcokgeciaaKeptA
open Go Go.Eng
set_option maxRecDepth 1000000
set_option linter.unusedVariables false
namespace Go.Proofs.Ytgomkbcokgeciaa.K
theorem eA10 : retR (run2 (cbA10) 100000 (.call 31 aA10.toArray (hpAt 621 hA10))) vA10 1000000 nA10 = true := by kernel_rfl
theorem eA11 : retR (run2 (cbA11) 100000 (.call 31 aA11.toArray (hpAt 621 hA11))) vA11 1000000 nA11 = true := by kernel_rfl
end Go.Proofs.Ytgomkbcokgeciaa.K
