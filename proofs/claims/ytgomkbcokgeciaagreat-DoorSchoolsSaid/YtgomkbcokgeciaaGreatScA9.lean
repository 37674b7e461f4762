/- Calls, evaluated. -/
import Derived.Test.YtgomkbcokgeciaaGreatScKeptA
open Go Go.bR
set_option maxRecDepth 1000000
set_option linter.unusedVariables false
namespace Go.Proofs.YtgomkbcokgeciaaGreat.K
theorem aV4 : QZ K9 (run K9 100000) none 65 aD0 (nN Tryz.f27) V9 0 12 = true := by kernel_rfl
theorem eA7 : aFZ (aFY K9 (run K9 100000) ndP lA7 100000 (.call 27 aA7.toArray (hpAt 608 hA7))) vA7 1000000 nA7 = true := by kernel_rfl
end Go.Proofs.YtgomkbcokgeciaaGreat.K
