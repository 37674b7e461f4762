/- Calls, evaluated. -/
import Derived.Test.YtgomkbcokgeciaaGreatScKeptA
open Go Go.bR
set_option maxRecDepth 1000000
set_option linter.unusedVariables false
namespace Go.Proofs.YtgomkbcokgeciaaGreat.K
theorem bJ4 : lU (.exit 0) 60 1198 618 aUB aUC aHR (mY bBK aUD 100000 (.code (dI Tryz.f113 0) none 60 (zH 60 1114 618 a4D a4E aHS))) = true := by kernel_rfl
theorem eA5 : sD (mY bBK lA5 100000 (.call 88 aA5.toArray (hpAt 618 hA5))) vA5 1198 nA5 = true := by kernel_rfl
end Go.Proofs.YtgomkbcokgeciaaGreat.K
