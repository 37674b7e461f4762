/- Calls, evaluated. -/
import Derived.Test.YtgomkbcokgeciaaKeptA
open Go Go.Eng
set_option maxRecDepth 1000000
set_option linter.unusedVariables false
namespace Go.Proofs.Ytgomkbcokgeciaa.K
theorem xA17q0 : isRes (.exit 0) 60 2276 621 ruA17q3 rbA17q3 rdA17q3 (runQ cbA17 lA17q0n 100000 (.code (loopNo Try.f42 0) none 60 (stQ 60 1072 621 uA17q0 bA17q0 duA17q0))) = true := by kernel_rfl
theorem eA17 : retR (runQ cbA17 lA17 100000 (.call 31 aA17.toArray (hpAt 621 hA17))) vA17 1000000 nA17 = true := by kernel_rfl
end Go.Proofs.Ytgomkbcokgeciaa.K
