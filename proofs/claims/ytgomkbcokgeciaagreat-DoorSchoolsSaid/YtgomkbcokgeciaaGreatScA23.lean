/- Calls, evaluated. -/
import Derived.Test.YtgomkbcokgeciaaGreatScKeptA
open Go Go.bR
set_option maxRecDepth 1000000
set_option linter.unusedVariables false
namespace Go.Proofs.YtgomkbcokgeciaaGreat.K
theorem bB1 : lU (.exit 0) 60 2276 621 OA OB JG (mY aD7 aLX 100000 (.code (dI Tryz.f113 0) none 60 (zH 60 1612 621 aVL aVM aAA))) = true := by kernel_rfl
theorem bB2 : lU (.exit 0) 60 2276 621 OA OB JG (mY aD7 aLY 100000 (.code (dI Tryz.f113 0) none 60 (zH 60 1140 621 aVO aVP aAB))) = true := by kernel_rfl
end Go.Proofs.YtgomkbcokgeciaaGreat.K
