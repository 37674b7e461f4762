/- Calls, evaluated. -/
import Derived.Test.YtgomkbcokgeciaaKeptA
open Go Go.Eng
set_option maxRecDepth 1000000
set_option linter.unusedVariables false
namespace Go.Proofs.Ytgomkbcokgeciaa.K
theorem xA19q0 : isRes (.exit 0) 60 2276 621 ruA19q3 rbA19q3 rdA19q3 (runQ cbA19 lA19q0n 100000 (.code (loopNo Try.f42 0) none 60 (stQ 60 1072 621 uA19q0 bA19q0 duA19q0))) = true := by kernel_rfl
theorem eA19 : retR (runQ cbA19 lA19 100000 (.call 31 aA19.toArray (hpAt 621 hA19))) vA19 1000000 nA19 = true := by kernel_rfl
end Go.Proofs.Ytgomkbcokgeciaa.K
