/- Calls, evaluated. -/
import Derived.Test.YtgomkbcokgeciaaGreatScKeptA
open Go Go.bR
set_option maxRecDepth 1000000
set_option linter.unusedVariables false
namespace Go.Proofs.YtgomkbcokgeciaaGreat.K
theorem bTK : sD (mY aD3 bS8 100000 (.call 93 aZW.toArray (hpAt 621 aZU))) aZV 1000000 bJP = true := by kernel_rfl
theorem bBR : lU (.exit 0) 60 2276 621 NW NY JD (mY aD4 aLN 100000 (.code (dI Tryz.f113 0) none 60 (zH 60 2080 621 aUR aUS ZQ))) = true := by kernel_rfl
end Go.Proofs.YtgomkbcokgeciaaGreat.K
