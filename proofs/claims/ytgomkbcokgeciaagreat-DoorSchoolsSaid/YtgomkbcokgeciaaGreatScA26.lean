/- Calls, evaluated. -/
import Derived.Test.YtgomkbcokgeciaaGreatScKeptA
open Go Go.bR
set_option maxRecDepth 1000000
set_option linter.unusedVariables false
namespace Go.Proofs.YtgomkbcokgeciaaGreat.K
theorem bB4 : lU (.exit 0) 60 2300 625 OC OD JH (mY aD8 aL0 100000 (.code (dI Tryz.f113 0) none 60 (zH 60 1636 625 aVU aVV aAH))) = true := by kernel_rfl
theorem bB5 : lU (.exit 0) 60 2300 625 OC OD JH (mY aD8 aL1 100000 (.code (dI Tryz.f113 0) none 60 (zH 60 1164 625 aVX aVY aAI))) = true := by kernel_rfl
end Go.Proofs.YtgomkbcokgeciaaGreat.K
