/- Calls, evaluated. -/
import Derived.Test.YtgomkbcokgeciaaGreatScKeptA
open Go Go.bR
set_option maxRecDepth 1000000
set_option linter.unusedVariables false
namespace Go.Proofs.YtgomkbcokgeciaaGreat.K
theorem bTL : sD (mY aD4 bS9 100000 (.call 93 aZZ.toArray (hpAt 621 aZX))) aZY 1000000 bJQ = true := by kernel_rfl
theorem bBU : lU (.exit 0) 60 2276 621 NZ N7 JE (mY aD5 aLQ 100000 (.code (dI Tryz.f113 0) none 60 (zH 60 2080 621 aU0 aU1 ZW))) = true := by kernel_rfl
end Go.Proofs.YtgomkbcokgeciaaGreat.K
