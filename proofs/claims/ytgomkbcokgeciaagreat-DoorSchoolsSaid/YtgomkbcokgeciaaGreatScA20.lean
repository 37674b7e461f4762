/- Calls, evaluated. -/
import Derived.Test.YtgomkbcokgeciaaGreatScKeptA
open Go Go.bR
set_option maxRecDepth 1000000
set_option linter.unusedVariables false
namespace Go.Proofs.YtgomkbcokgeciaaGreat.K
theorem bTM : sD (mY aD5 bTA 100000 (.call 93 aZ2.toArray (hpAt 621 aZ0))) aZ1 1000000 bJR = true := by kernel_rfl
theorem bBX : lU (.exit 0) 60 2276 621 N8 N9 JF (mY aD6 aLT 100000 (.code (dI Tryz.f113 0) none 60 (zH 60 2080 621 aU9 aVA Z4))) = true := by kernel_rfl
end Go.Proofs.YtgomkbcokgeciaaGreat.K
