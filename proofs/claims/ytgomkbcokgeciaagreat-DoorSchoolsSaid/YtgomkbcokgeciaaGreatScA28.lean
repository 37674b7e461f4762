/- Calls, evaluated. -/
import Derived.Test.YtgomkbcokgeciaaGreatScKeptA
open Go Go.bR
set_option maxRecDepth 1000000
set_option linter.unusedVariables false
namespace Go.Proofs.YtgomkbcokgeciaaGreat.K
theorem bTT : sD (IU (a4Y) 100000 (.call 93 a0N.toArray (hpAt 641 a0L))) a0M 1000000 bJY = true := by kernel_rfl
theorem bTU : sD (IU (a4Z) 100000 (.call 93 a0Q.toArray (hpAt 641 a0O))) a0P 1000000 bJZ = true := by kernel_rfl
end Go.Proofs.YtgomkbcokgeciaaGreat.K
