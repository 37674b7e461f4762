/- Calls, evaluated. -/
import Derived.Test.YtgomkbcokgeciaaKeptA
open Go Go.Eng
set_option maxRecDepth 1000000
set_option linter.unusedVariables false
namespace Go.Proofs.Ytgomkbcokgeciaa.K
theorem eA26 : retR (run2 (cbA26) 100000 (.call 31 aA26.toArray (hpAt 641 hA26))) vA26 1000000 nA26 = true := by kernel_rfl
end Go.Proofs.Ytgomkbcokgeciaa.K
