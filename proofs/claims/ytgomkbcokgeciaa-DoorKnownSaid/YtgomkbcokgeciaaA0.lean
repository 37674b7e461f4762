/- Calls, evaluated. -/
import Derived.Test.YtgomkbcokgeciaaKeptA
open Go Go.Eng
set_option maxRecDepth 1000000
set_option linter.unusedVariables false
namespace Go.Proofs.Ytgomkbcokgeciaa.K
theorem xA0q2 : isRes (.exit 0) 60 1034 9 ruA0q2 rbA0q2 rdA0q2 (runQ cbA0 lA0q2n 100000 (.code (loopNo Try.f42 0) none 60 (stQ 60 884 9 uA0q2 bA0q2 duA0q2))) = true := by kernel_rfl
theorem xA0q1 : isRes (.exit 0) 60 1034 9 ruA0q2 rbA0q2 rdA0q2 (runQ cbA0 lA0q1n 100000 (.code (loopNo Try.f42 0) none 60 (stQ 60 594 9 uA0q1 bA0q1 duA0q1))) = true := by kernel_rfl
end Go.Proofs.Ytgomkbcokgeciaa.K
