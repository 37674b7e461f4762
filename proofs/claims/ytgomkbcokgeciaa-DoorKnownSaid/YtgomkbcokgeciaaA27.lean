/- Calls, evaluated. -/
import Derived.Test.YtgomkbcokgeciaaKeptA
open Go Go.Eng
set_option maxRecDepth 1000000
set_option linter.unusedVariables false
namespace Go.Proofs.Ytgomkbcokgeciaa.K
theorem eA20 : retR (runQ cbA20 lA20 100000 (.call 31 aA20.toArray (hpAt 621 hA20))) vA20 1000000 nA20 = true := by kernel_rfl
theorem eA21 : retR (run2 (cbA21) 100000 (.call 31 aA21.toArray (hpAt 624 hA21))) vA21 1000000 nA21 = true := by kernel_rfl
end Go.Proofs.Ytgomkbcokgeciaa.K
