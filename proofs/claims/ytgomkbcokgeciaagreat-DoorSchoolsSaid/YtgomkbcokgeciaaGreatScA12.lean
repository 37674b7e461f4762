/- Calls, evaluated. -/
import Derived.Test.YtgomkbcokgeciaaGreatScKeptA
open Go Go.bR
set_option maxRecDepth 1000000
set_option linter.unusedVariables false
namespace Go.Proofs.YtgomkbcokgeciaaGreat.K
theorem bTF : sD (IU (a4Q) 100000 (.call 93 aZH.toArray (hpAt 621 aZF))) aZG 1000000 bJK = true := by kernel_rfl
theorem bTG : sD (IU (a4R) 100000 (.call 93 aZK.toArray (hpAt 621 aZI))) aZJ 1000000 bJL = true := by kernel_rfl
end Go.Proofs.YtgomkbcokgeciaaGreat.K
