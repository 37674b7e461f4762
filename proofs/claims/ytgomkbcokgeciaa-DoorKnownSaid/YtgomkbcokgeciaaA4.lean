/- Calls, evaluated. -/
import Derived.Test.YtgomkbcokgeciaaKeptA
open Go Go.Eng
set_option maxRecDepth 1000000
set_option linter.unusedVariables false
namespace Go.Proofs.Ytgomkbcokgeciaa.K
theorem eA4 : retL (runL cbA4 (run cbA4 100000) ndP lA4 100000 (.call 27 aA4.toArray (hpAt 605 hA4))) vA4 1000000 nA4 = true := by kernel_rfl
theorem xA5q0 : isRes (.exit 0) 60 1198 618 ruA5q0 rbA5q0 rdA5q0 (runQ cbA5 lA5q0n 100000 (.code (loopNo Try.f42 0) none 60 (stQ 60 1039 618 uA5q0 bA5q0 duA5q0))) = true := by kernel_rfl
end Go.Proofs.Ytgomkbcokgeciaa.K
