/- Calls, evaluated. -/
import Derived.Test.YtgomkbcokgeciaaKeptA
open Go Go.Eng
set_option maxRecDepth 1000000
set_option linter.unusedVariables false
namespace Go.Proofs.Ytgomkbcokgeciaa.K
theorem eA14 : retR (run2 (cbA14) 100000 (.call 31 aA14.toArray (hpAt 621 hA14))) vA14 1000000 nA14 = true := by kernel_rfl
theorem eA15 : retR (run2 (cbA15) 100000 (.call 31 aA15.toArray (hpAt 621 hA15))) vA15 1000000 nA15 = true := by kernel_rfl
end Go.Proofs.Ytgomkbcokgeciaa.K
