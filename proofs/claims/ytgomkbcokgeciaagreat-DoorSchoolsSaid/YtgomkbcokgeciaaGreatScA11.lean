/- Calls, evaluated. -/
import Derived.Test.YtgomkbcokgeciaaGreatScKeptA
open Go Go.bR
set_option maxRecDepth 1000000
set_option linter.unusedVariables false
namespace Go.Proofs.YtgomkbcokgeciaaGreat.K
theorem eA9 : aFZ (aFY aUH (run aUH 100000) ndP lA9 100000 (.call 82 aA9.toArray (hpAt 1201 hA9))) vA9 1000000 nA9 = true := by kernel_rfl
theorem bTE : sD (IU (a4P) 100000 (.call 93 aZE.toArray (hpAt 621 aZC))) aZD 1000000 bJJ = true := by kernel_rfl
end Go.Proofs.YtgomkbcokgeciaaGreat.K
