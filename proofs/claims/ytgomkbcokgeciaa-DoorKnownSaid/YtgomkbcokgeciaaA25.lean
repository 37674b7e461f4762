/- Calls, evaluated. -/
import Derived.Test.YtgomkbcokgeciaaKeptA
open Go Go.Eng
set_option maxRecDepth 1000000
set_option linter.unusedVariables false
namespace Go.Proofs.Ytgomkbcokgeciaa.K
theorem xA20q3 : isRes (.exit 0) 60 2276 621 ruA20q3 rbA20q3 rdA20q3 (runQ cbA20 lA20q3n 100000 (.code (loopNo Try.f42 0) none 60 (stQ 60 2220 621 uA20q3 bA20q3 duA20q3))) = true := by kernel_rfl
theorem xA20q2 : isRes (.exit 0) 60 2276 621 ruA20q3 rbA20q3 rdA20q3 (runQ cbA20 lA20q2n 100000 (.code (loopNo Try.f42 0) none 60 (stQ 60 1842 621 uA20q2 bA20q2 duA20q2))) = true := by kernel_rfl
end Go.Proofs.Ytgomkbcokgeciaa.K
