/- Calls, evaluated. -/
import Derived.Test.YtgomkbcokgeciaaGreatScKeptA
open Go Go.bR
set_option maxRecDepth 1000000
set_option linter.unusedVariables false
namespace Go.Proofs.YtgomkbcokgeciaaGreat.K
theorem bTR : sD (mY aD8 bTD 100000 (.call 93 a0H.toArray (hpAt 625 a0F))) a0G 1000000 bJW = true := by kernel_rfl
theorem bTS : sD (IU (a4X) 100000 (.call 93 a0K.toArray (hpAt 625 a0I))) a0J 1000000 bJX = true := by kernel_rfl
end Go.Proofs.YtgomkbcokgeciaaGreat.K
