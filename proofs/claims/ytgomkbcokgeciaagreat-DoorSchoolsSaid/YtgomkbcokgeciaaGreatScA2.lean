/- Calls, evaluated. -/
import Derived.Test.YtgomkbcokgeciaaGreatScKeptA
open Go Go.bR
set_option maxRecDepth 1000000
set_option linter.unusedVariables false
namespace Go.Proofs.YtgomkbcokgeciaaGreat.K
theorem bJ3 : lU (.exit 0) 60 602 22 aT6 aT7 aHP (mY bBI aT8 100000 (.code (dI Tryz.f113 0) none 60 (zH 60 518 22 a4A a4B aHQ))) = true := by kernel_rfl
theorem eA2 : sD (mY bBI lA2 100000 (.call 88 aA2.toArray (hpAt 22 hA2))) vA2 602 nA2 = true := by kernel_rfl
end Go.Proofs.YtgomkbcokgeciaaGreat.K
