/- Calls, evaluated. -/
import Derived.Test.YtgomkbcokgeciaaKeptA
open Go Go.Eng
set_option maxRecDepth 1000000
set_option linter.unusedVariables false
namespace Go.Proofs.Ytgomkbcokgeciaa.K
theorem xA17q2 : isRes (.exit 0) 60 2276 621 ruA17q3 rbA17q3 rdA17q3 (runQ cbA17 lA17q2n 100000 (.code (loopNo Try.f42 0) none 60 (stQ 60 1842 621 uA17q2 bA17q2 duA17q2))) = true := by kernel_rfl
theorem xA17q1 : isRes (.exit 0) 60 2276 621 ruA17q3 rbA17q3 rdA17q3 (runQ cbA17 lA17q1n 100000 (.code (loopNo Try.f42 0) none 60 (stQ 60 1450 621 uA17q1 bA17q1 duA17q1))) = true := by kernel_rfl
end Go.Proofs.Ytgomkbcokgeciaa.K
