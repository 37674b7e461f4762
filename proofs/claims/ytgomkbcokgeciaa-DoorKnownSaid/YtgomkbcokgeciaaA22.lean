/- Calls, evaluated. -/
import Derived.Test.YtgomkbcokgeciaaKeptA
open Go Go.Eng
set_option maxRecDepth 1000000
set_option linter.unusedVariables false
namespace Go.Proofs.Ytgomkbcokgeciaa.K
theorem eA18 : retR (runQ cbA18 lA18 100000 (.call 31 aA18.toArray (hpAt 621 hA18))) vA18 1000000 nA18 = true := by kernel_rfl
theorem xA19q3 : isRes (.exit 0) 60 2276 621 ruA19q3 rbA19q3 rdA19q3 (runQ cbA19 lA19q3n 100000 (.code (loopNo Try.f42 0) none 60 (stQ 60 2220 621 uA19q3 bA19q3 duA19q3))) = true := by kernel_rfl
end Go.Proofs.Ytgomkbcokgeciaa.K
