/- Calls, evaluated. -/
import Derived.Test.YtgomkbcokgeciaaKeptA
open Go Go.Eng
set_option maxRecDepth 1000000
set_option linter.unusedVariables false
namespace Go.Proofs.Ytgomkbcokgeciaa.K
theorem xA18q3 : isRes (.exit 0) 60 2276 621 ruA18q3 rbA18q3 rdA18q3 (runQ cbA18 lA18q3n 100000 (.code (loopNo Try.f42 0) none 60 (stQ 60 2220 621 uA18q3 bA18q3 duA18q3))) = true := by kernel_rfl
theorem xA18q2 : isRes (.exit 0) 60 2276 621 ruA18q3 rbA18q3 rdA18q3 (runQ cbA18 lA18q2n 100000 (.code (loopNo Try.f42 0) none 60 (stQ 60 1842 621 uA18q2 bA18q2 duA18q2))) = true := by kernel_rfl
end Go.Proofs.Ytgomkbcokgeciaa.K
