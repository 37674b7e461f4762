/- Calls, evaluated. -/
import Derived.Test.YtgomkbcokgeciaaGreatScKeptA
open Go Go.bR
set_option maxRecDepth 1000000
set_option linter.unusedVariables false
namespace Go.Proofs.YtgomkbcokgeciaaGreat.K
theorem bBP : lU (.exit 0) 60 2276 621 NU NV JC (mY aD3 aLL 100000 (.code (dI Tryz.f113 0) none 60 (zH 60 1612 621 aUL aUM ZM))) = true := by kernel_rfl
theorem bBQ : lU (.exit 0) 60 2276 621 NU NV JC (mY aD3 aLM 100000 (.code (dI Tryz.f113 0) none 60 (zH 60 1140 621 aUO aUP ZN))) = true := by kernel_rfl
end Go.Proofs.YtgomkbcokgeciaaGreat.K
