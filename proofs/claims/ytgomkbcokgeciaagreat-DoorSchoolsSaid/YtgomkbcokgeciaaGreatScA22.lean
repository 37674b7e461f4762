/- Calls, evaluated. -/
import Derived.Test.YtgomkbcokgeciaaGreatScKeptA
open Go Go.bR
set_option maxRecDepth 1000000
set_option linter.unusedVariables false
namespace Go.Proofs.YtgomkbcokgeciaaGreat.K
theorem bTN : sD (mY aD6 bTB 100000 (.call 93 aZ5.toArray (hpAt 621 aZ3))) aZ4 1000000 bJS = true := by kernel_rfl
theorem bB0 : lU (.exit 0) 60 2276 621 OA OB JG (mY aD7 aLW 100000 (.code (dI Tryz.f113 0) none 60 (zH 60 2080 621 aVI aVJ Z9))) = true := by kernel_rfl
end Go.Proofs.YtgomkbcokgeciaaGreat.K
