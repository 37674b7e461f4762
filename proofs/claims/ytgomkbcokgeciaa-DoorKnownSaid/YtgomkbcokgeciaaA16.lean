/- Calls, evaluated. -/
import Derived.Test.YtgomkbcokgeciaaKeptA
open Go Go.Eng
set_option maxRecDepth 1000000
set_option linter.unusedVariables false
namespace Go.Proofs.Ytgomkbcokgeciaa.K
theorem xA16q1 : isRes (.exit 0) 60 2276 621 ruA16q3 rbA16q3 rdA16q3 (runQ cbA16 lA16q1n 100000 (.code (loopNo Try.f42 0) none 60 (stQ 60 1450 621 uA16q1 bA16q1 duA16q1))) = true := by kernel_rfl
theorem xA16q0 : isRes (.exit 0) 60 2276 621 ruA16q3 rbA16q3 rdA16q3 (runQ cbA16 lA16q0n 100000 (.code (loopNo Try.f42 0) none 60 (stQ 60 1072 621 uA16q0 bA16q0 duA16q0))) = true := by kernel_rfl
end Go.Proofs.Ytgomkbcokgeciaa.K
