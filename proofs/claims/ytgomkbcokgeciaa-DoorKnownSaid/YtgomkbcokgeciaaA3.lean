/- Calls, evaluated. -/
import Derived.Test.YtgomkbcokgeciaaKeptA
open Go Go.Eng
set_option maxRecDepth 1000000
set_option linter.unusedVariables false
namespace Go.Proofs.Ytgomkbcokgeciaa.K
theorem eA2 : retR (runQ cbA2 lA2 100000 (.call 48 aA2.toArray (hpAt 22 hA2))) vA2 602 nA2 = true := by kernel_rfl
theorem eA3 : retL (runL cbA3 (run cbA3 100000) ndP lA3 100000 (.call 26 aA3.toArray (hpAt 603 hA3))) vA3 1000000 nA3 = true := by kernel_rfl
end Go.Proofs.Ytgomkbcokgeciaa.K
