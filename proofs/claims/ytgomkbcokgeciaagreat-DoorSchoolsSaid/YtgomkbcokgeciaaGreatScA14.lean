/- Calls, evaluated. -/
import Derived.Test.YtgomkbcokgeciaaGreatScKeptA
open Go Go.bR
set_option maxRecDepth 1000000
set_option linter.unusedVariables false
namespace Go.Proofs.YtgomkbcokgeciaaGreat.K
theorem bTJ : sD (IU (a4U) 100000 (.call 93 aZT.toArray (hpAt 621 aZR))) aZS 1000000 bJO = true := by kernel_rfl
theorem bBO : lU (.exit 0) 60 2276 621 NU NV JC (mY aD3 aLK 100000 (.code (dI Tryz.f113 0) none 60 (zH 60 2080 621 aUI aUJ ZL))) = true := by kernel_rfl
end Go.Proofs.YtgomkbcokgeciaaGreat.K
