/- Calls, evaluated. -/
import Derived.Test.YtgomkbcokgeciaaGreatScKeptA
open Go Go.bR
set_option maxRecDepth 1000000
set_option linter.unusedVariables false
namespace Go.Proofs.YtgomkbcokgeciaaGreat.K
theorem bTO : sD (mY aD7 bTC 100000 (.call 93 aZ8.toArray (hpAt 621 aZ6))) aZ7 1000000 bJT = true := by kernel_rfl
theorem bTP : sD (IU (a4V) 100000 (.call 93 a0B.toArray (hpAt 624 aZ9))) a0A 1000000 bJU = true := by kernel_rfl
end Go.Proofs.YtgomkbcokgeciaaGreat.K
