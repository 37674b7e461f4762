/- Calls, evaluated. -/
import Derived.Test.YtgomkbcokgeciaaKeptA
open Go Go.Eng
set_option maxRecDepth 1000000
set_option linter.unusedVariables false
namespace Go.Proofs.Ytgomkbcokgeciaa.K
theorem xA0q0 : isRes (.exit 0) 60 1034 9 ruA0q2 rbA0q2 rdA0q2 (runQ cbA0 lA0q0n 100000 (.code (loopNo Try.f42 0) none 60 (stQ 60 326 9 uA0q0 bA0q0 duA0q0))) = true := by kernel_rfl
theorem eA0 : retR (runQ cbA0 lA0 100000 (.call 7 aA0.toArray (hpAt 9 hA0))) vA0 1000000 nA0 = true := by kernel_rfl
end Go.Proofs.Ytgomkbcokgeciaa.K
