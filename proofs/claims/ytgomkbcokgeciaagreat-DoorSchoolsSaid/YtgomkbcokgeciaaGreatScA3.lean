/- Calls, evaluated. -/
import Derived.Test.YtgomkbcokgeciaaGreatScKeptA
open Go Go.bR
set_option maxRecDepth 1000000
set_option linter.unusedVariables false
namespace Go.Proofs.YtgomkbcokgeciaaGreat.K
theorem eA3 : aFZ (aFY aT9 (run aT9 100000) ndP lA3 100000 (.call 82 aA3.toArray (hpAt 603 hA3))) vA3 1000000 nA3 = true := by kernel_rfl
theorem eA4 : aFZ (aFY aUA (run aUA 100000) ndP lA4 100000 (.call 83 aA4.toArray (hpAt 605 hA4))) vA4 1000000 nA4 = true := by kernel_rfl
end Go.Proofs.YtgomkbcokgeciaaGreat.K
