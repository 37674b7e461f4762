/- Calls, evaluated. -/
import Derived.Test.YtgomkbcokgeciaaKeptA
open Go Go.Eng
set_option maxRecDepth 1000000
set_option linter.unusedVariables false
namespace Go.Proofs.Ytgomkbcokgeciaa.K
theorem xA18q1 : isRes (.exit 0) 60 2276 621 ruA18q3 rbA18q3 rdA18q3 (runQ cbA18 lA18q1n 100000 (.code (loopNo Try.f42 0) none 60 (stQ 60 1450 621 uA18q1 bA18q1 duA18q1))) = true := by kernel_rfl
theorem xA18q0 : isRes (.exit 0) 60 2276 621 ruA18q3 rbA18q3 rdA18q3 (runQ cbA18 lA18q0n 100000 (.code (loopNo Try.f42 0) none 60 (stQ 60 1072 621 uA18q0 bA18q0 duA18q0))) = true := by kernel_rfl
end Go.Proofs.Ytgomkbcokgeciaa.K
