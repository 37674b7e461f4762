/- Calls, evaluated. -/
import Derived.Test.YtgomkbcokgeciaaGreatScKeptA
open Go Go.bR
set_option maxRecDepth 1000000
set_option linter.unusedVariables false
namespace Go.Proofs.YtgomkbcokgeciaaGreat.K
theorem bJ2 : lU (.exit 0) 60 1200 620 aUE aUF aHT (mY bBM aUG 100000 (.code (dI Tryz.f113 0) none 60 (zH 60 1116 620 a4M a4N aHU))) = true := by kernel_rfl
theorem eA8 : sD (mY bBM lA8 100000 (.call 88 aA8.toArray (hpAt 620 hA8))) vA8 1200 nA8 = true := by kernel_rfl
end Go.Proofs.YtgomkbcokgeciaaGreat.K
