/- Calls, evaluated. -/
import Derived.Test.YtgomkbcokgeciaaKeptA
open Go Go.Eng
set_option maxRecDepth 1000000
set_option linter.unusedVariables false
namespace Go.Proofs.Ytgomkbcokgeciaa.K
theorem eA22 : retR (run2 (cbA22) 100000 (.call 31 aA22.toArray (hpAt 625 hA22))) vA22 1000000 nA22 = true := by kernel_rfl
theorem xA23q3 : isRes (.exit 0) 60 2300 625 ruA23q3 rbA23q3 rdA23q3 (runQ cbA23 lA23q3n 100000 (.code (loopNo Try.f42 0) none 60 (stQ 60 2154 625 uA23q3 bA23q3 duA23q3))) = true := by kernel_rfl
end Go.Proofs.Ytgomkbcokgeciaa.K
