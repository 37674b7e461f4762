/- Calls, evaluated. -/
import Derived.Test.YtgomkbcokgeciaaGreatScKeptA
open Go Go.bR
set_option maxRecDepth 1000000
set_option linter.unusedVariables false
namespace Go.Proofs.YtgomkbcokgeciaaGreat.K
theorem bBY : lU (.exit 0) 60 2276 621 N8 N9 JF (mY aD6 aLU 100000 (.code (dI Tryz.f113 0) none 60 (zH 60 1612 621 aVC aVD Z5))) = true := by kernel_rfl
theorem bBZ : lU (.exit 0) 60 2276 621 N8 N9 JF (mY aD6 aLV 100000 (.code (dI Tryz.f113 0) none 60 (zH 60 1140 621 aVF aVG Z6))) = true := by kernel_rfl
end Go.Proofs.YtgomkbcokgeciaaGreat.K
