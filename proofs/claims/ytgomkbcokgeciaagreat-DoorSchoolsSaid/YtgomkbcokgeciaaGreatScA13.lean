/- Calls, evaluated. -/
import Derived.Test.YtgomkbcokgeciaaGreatScKeptA
open Go Go.bR
set_option maxRecDepth 1000000
set_option linter.unusedVariables false
namespace Go.Proofs.YtgomkbcokgeciaaGreat.K
theorem bTH : sD (IU (a4S) 100000 (.call 93 aZN.toArray (hpAt 621 aZL))) aZM 1000000 bJM = true := by kernel_rfl
theorem bTI : sD (IU (a4T) 100000 (.call 93 aZQ.toArray (hpAt 621 aZO))) aZP 1000000 bJN = true := by kernel_rfl
end Go.Proofs.YtgomkbcokgeciaaGreat.K
