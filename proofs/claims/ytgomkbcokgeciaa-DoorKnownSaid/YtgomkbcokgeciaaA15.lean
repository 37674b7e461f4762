/- Calls, evaluated. -/
import Derived.Test.YtgomkbcokgeciaaKeptA
open Go Go.Eng
set_option maxRecDepth 1000000
set_option linter.unusedVariables false
namespace Go.Proofs.Ytgomkbcokgeciaa.K
theorem xA16q3 : isRes (.exit 0) 60 2276 621 ruA16q3 rbA16q3 rdA16q3 (runQ cbA16 lA16q3n 100000 (.code (loopNo Try.f42 0) none 60 (stQ 60 2220 621 uA16q3 bA16q3 duA16q3))) = true := by kernel_rfl
theorem xA16q2 : isRes (.exit 0) 60 2276 621 ruA16q3 rbA16q3 rdA16q3 (runQ cbA16 lA16q2n 100000 (.code (loopNo Try.f42 0) none 60 (stQ 60 1842 621 uA16q2 bA16q2 duA16q2))) = true := by kernel_rfl
end Go.Proofs.Ytgomkbcokgeciaa.K
