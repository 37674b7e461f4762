/- Calls, evaluated. -/
import Derived.Test.YtgomkbcokgeciaaKeptA
open Go Go.Eng
set_option maxRecDepth 1000000
set_option linter.unusedVariables false
namespace Go.Proofs.Ytgomkbcokgeciaa.K
theorem eA8 : retR (runQ cbA8 lA8 100000 (.call 48 aA8.toArray (hpAt 620 hA8))) vA8 1200 nA8 = true := by kernel_rfl
theorem eA9 : retL (runL cbA9 (run cbA9 100000) ndP lA9 100000 (.call 26 aA9.toArray (hpAt 1201 hA9))) vA9 1000000 nA9 = true := by kernel_rfl
end Go.Proofs.Ytgomkbcokgeciaa.K
