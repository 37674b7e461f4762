/- Calls, evaluated. -/
import Derived.Test.YtgomkbcokgeciaaKeptA
open Go Go.Eng
set_option maxRecDepth 1000000
set_option linter.unusedVariables false
namespace Go.Proofs.Ytgomkbcokgeciaa.K
theorem xA19q2 : isRes (.exit 0) 60 2276 621 ruA19q3 rbA19q3 rdA19q3 (runQ cbA19 lA19q2n 100000 (.code (loopNo Try.f42 0) none 60 (stQ 60 1842 621 uA19q2 bA19q2 duA19q2))) = true := by kernel_rfl
theorem xA19q1 : isRes (.exit 0) 60 2276 621 ruA19q3 rbA19q3 rdA19q3 (runQ cbA19 lA19q1n 100000 (.code (loopNo Try.f42 0) none 60 (stQ 60 1450 621 uA19q1 bA19q1 duA19q1))) = true := by kernel_rfl
end Go.Proofs.Ytgomkbcokgeciaa.K
