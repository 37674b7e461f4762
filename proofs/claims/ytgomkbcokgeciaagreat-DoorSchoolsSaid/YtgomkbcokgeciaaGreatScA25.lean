/- Calls, evaluated. -/
import Derived.Test.YtgomkbcokgeciaaGreatScKeptA
open Go Go.bR
set_option maxRecDepth 1000000
set_option linter.unusedVariables false
namespace Go.Proofs.YtgomkbcokgeciaaGreat.K
theorem bTQ : sD (IU (a4W) 100000 (.call 93 a0E.toArray (hpAt 625 a0C))) a0D 1000000 bJV = true := by kernel_rfl
theorem bB3 : lU (.exit 0) 60 2300 625 OC OD JH (mY aD8 aLZ 100000 (.code (dI Tryz.f113 0) none 60 (zH 60 2104 625 aVR aVS aAG))) = true := by kernel_rfl
end Go.Proofs.YtgomkbcokgeciaaGreat.K
