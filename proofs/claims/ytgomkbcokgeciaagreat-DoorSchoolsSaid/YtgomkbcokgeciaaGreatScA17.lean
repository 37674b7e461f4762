/- Calls, evaluated. -/
import Derived.Test.YtgomkbcokgeciaaGreatScKeptA
open Go Go.bR
set_option maxRecDepth 1000000
set_option linter.unusedVariables false
namespace Go.Proofs.YtgomkbcokgeciaaGreat.K
theorem bBS : lU (.exit 0) 60 2276 621 NW NY JD (mY aD4 aLO 100000 (.code (dI Tryz.f113 0) none 60 (zH 60 1612 621 aUU aUV ZR))) = true := by kernel_rfl
theorem bBT : lU (.exit 0) 60 2276 621 NW NY JD (mY aD4 aLP 100000 (.code (dI Tryz.f113 0) none 60 (zH 60 1140 621 aUX aUY ZT))) = true := by kernel_rfl
end Go.Proofs.YtgomkbcokgeciaaGreat.K
