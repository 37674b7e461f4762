/- Calls, evaluated. -/
import Derived.Test.YtgomkbcokgeciaaKeptA
open Go Go.Eng
set_option maxRecDepth 1000000
set_option linter.unusedVariables false
namespace Go.Proofs.Ytgomkbcokgeciaa.K
theorem eA24 : retR (run2 (cbA24) 100000 (.call 31 aA24.toArray (hpAt 625 hA24))) vA24 1000000 nA24 = true := by kernel_rfl
theorem eA25 : retR (run2 (cbA25) 100000 (.call 31 aA25.toArray (hpAt 641 hA25))) vA25 1000000 nA25 = true := by kernel_rfl
end Go.Proofs.Ytgomkbcokgeciaa.K
