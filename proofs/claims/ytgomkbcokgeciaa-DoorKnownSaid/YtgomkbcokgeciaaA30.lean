/- Calls, evaluated. -/
import Derived.Test.YtgomkbcokgeciaaKeptA
open Go Go.Eng
set_option maxRecDepth 1000000
set_option linter.unusedVariables false
namespace Go.Proofs.Ytgomkbcokgeciaa.K
theorem xA23q0 : isRes (.exit 0) 60 2300 625 ruA23q3 rbA23q3 rdA23q3 (runQ cbA23 lA23q0n 100000 (.code (loopNo Try.f42 0) none 60 (stQ 60 1026 625 uA23q0 bA23q0 duA23q0))) = true := by kernel_rfl
theorem eA23 : retR (runQ cbA23 lA23 100000 (.call 31 aA23.toArray (hpAt 625 hA23))) vA23 1000000 nA23 = true := by kernel_rfl
end Go.Proofs.Ytgomkbcokgeciaa.K
