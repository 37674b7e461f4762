/- Calls, evaluated. -/
import Derived.Test.YtgomkbcokgeciaaGreatScKeptA
open Go Go.bR
set_option maxRecDepth 1000000
set_option linter.unusedVariables false
namespace Go.Proofs.YtgomkbcokgeciaaGreat.K
theorem bBV : lU (.exit 0) 60 2276 621 NZ N7 JE (mY aD5 aLR 100000 (.code (dI Tryz.f113 0) none 60 (zH 60 1612 621 aU3 aU4 ZX))) = true := by kernel_rfl
theorem bBW : lU (.exit 0) 60 2276 621 NZ N7 JE (mY aD5 aLS 100000 (.code (dI Tryz.f113 0) none 60 (zH 60 1140 621 aU6 aU7 ZY))) = true := by kernel_rfl
end Go.Proofs.YtgomkbcokgeciaaGreat.K
