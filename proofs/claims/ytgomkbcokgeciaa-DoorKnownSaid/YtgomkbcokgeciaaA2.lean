/- Calls, evaluated. -/
import Derived.Test.YtgomkbcokgeciaaKeptA
open Go Go.Eng
set_option maxRecDepth 1000000
set_option linter.unusedVariables false
namespace Go.Proofs.Ytgomkbcokgeciaa.K
theorem eA1 : retR (run2 (cbA1) 100000 (.call 7 aA1.toArray (hpAt 10 hA1))) vA1 1000000 nA1 = true := by kernel_rfl
theorem xA2q0 : isRes (.exit 0) 60 602 22 ruA2q0 rbA2q0 rdA2q0 (runQ cbA2 lA2q0n 100000 (.code (loopNo Try.f42 0) none 60 (stQ 60 443 22 uA2q0 bA2q0 duA2q0))) = true := by kernel_rfl
end Go.Proofs.Ytgomkbcokgeciaa.K
