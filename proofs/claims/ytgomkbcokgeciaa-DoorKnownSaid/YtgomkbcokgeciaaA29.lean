/- Calls, evaluated. -/
import Derived.Test.YtgomkbcokgeciaaKeptA
open Go Go.Eng
set_option maxRecDepth 1000000
set_option linter.unusedVariables false
namespace Go.Proofs.Ytgomkbcokgeciaa.K
theorem xA23q2 : isRes (.exit 0) 60 2300 625 ruA23q3 rbA23q3 rdA23q3 (runQ cbA23 lA23q2n 100000 (.code (loopNo Try.f42 0) none 60 (stQ 60 1780 625 uA23q2 bA23q2 duA23q2))) = true := by kernel_rfl
theorem xA23q1 : isRes (.exit 0) 60 2300 625 ruA23q3 rbA23q3 rdA23q3 (runQ cbA23 lA23q1n 100000 (.code (loopNo Try.f42 0) none 60 (stQ 60 1416 625 uA23q1 bA23q1 duA23q1))) = true := by kernel_rfl
end Go.Proofs.Ytgomkbcokgeciaa.K
