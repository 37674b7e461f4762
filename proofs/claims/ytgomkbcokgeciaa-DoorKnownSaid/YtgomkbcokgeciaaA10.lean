/- Calls, evaluated. -/
import Derived.Test.YtgomkbcokgeciaaKeptA
open Go Go.Eng
set_option maxRecDepth 1000000
set_option linter.unusedVariables false
namespace Go.Proofs.Ytgomkbcokgeciaa.K
theorem eA7 : retL (runL cbA7 (run cbA7 100000) ndP lA7 100000 (.call 33 aA7.toArray (hpAt 608 hA7))) vA7 1000000 nA7 = true := by kernel_rfl
theorem xA8q0 : isRes (.exit 0) 60 1200 620 ruA8q0 rbA8q0 rdA8q0 (runQ cbA8 lA8q0n 100000 (.code (loopNo Try.f42 0) none 60 (stQ 60 1041 620 uA8q0 bA8q0 duA8q0))) = true := by kernel_rfl
end Go.Proofs.Ytgomkbcokgeciaa.K
