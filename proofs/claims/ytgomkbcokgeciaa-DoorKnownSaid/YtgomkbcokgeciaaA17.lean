/- Calls, evaluated. -/
import Derived.Test.YtgomkbcokgeciaaKeptA
open Go Go.Eng
set_option maxRecDepth 1000000
set_option linter.unusedVariables false
namespace Go.Proofs.Ytgomkbcokgeciaa.K
theorem eA16 : retR (runQ cbA16 lA16 100000 (.call 31 aA16.toArray (hpAt 621 hA16))) vA16 1000000 nA16 = true := by kernel_rfl
theorem xA17q3 : isRes (.exit 0) 60 2276 621 ruA17q3 rbA17q3 rdA17q3 (runQ cbA17 lA17q3n 100000 (.code (loopNo Try.f42 0) none 60 (stQ 60 2220 621 uA17q3 bA17q3 duA17q3))) = true := by kernel_rfl
end Go.Proofs.Ytgomkbcokgeciaa.K
