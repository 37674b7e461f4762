/- Calls, evaluated. -/
import Derived.Test.YtgomkbcokgeciaaKeptA
open Go Go.Eng
set_option maxRecDepth 1000000
set_option linter.unusedVariables false
namespace Go.Proofs.Ytgomkbcokgeciaa.K
theorem xA20q1 : isRes (.exit 0) 60 2276 621 ruA20q3 rbA20q3 rdA20q3 (runQ cbA20 lA20q1n 100000 (.code (loopNo Try.f42 0) none 60 (stQ 60 1450 621 uA20q1 bA20q1 duA20q1))) = true := by kernel_rfl
theorem xA20q0 : isRes (.exit 0) 60 2276 621 ruA20q3 rbA20q3 rdA20q3 (runQ cbA20 lA20q0n 100000 (.code (loopNo Try.f42 0) none 60 (stQ 60 1072 621 uA20q0 bA20q0 duA20q0))) = true := by kernel_rfl
end Go.Proofs.Ytgomkbcokgeciaa.K
