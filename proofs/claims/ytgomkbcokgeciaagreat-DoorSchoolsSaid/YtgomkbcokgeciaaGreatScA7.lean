/- Calls, evaluated. -/
import Derived.Test.YtgomkbcokgeciaaGreatScKeptA
open Go Go.bR
set_option maxRecDepth 1000000
set_option linter.unusedVariables false
namespace Go.Proofs.YtgomkbcokgeciaaGreat.K
theorem aV3 : QZ CG (run CG 100000) none 50 SS (nN Tryz.f25) MU 24 12 = true := by kernel_rfl
theorem eA6 : aFZ (aFY CG (run CG 100000) ndP lA6 100000 (.call 25 aA6.toArray (hpAt 606 hA6))) vA6 1000000 nA6 = true := by kernel_rfl
end Go.Proofs.YtgomkbcokgeciaaGreat.K
