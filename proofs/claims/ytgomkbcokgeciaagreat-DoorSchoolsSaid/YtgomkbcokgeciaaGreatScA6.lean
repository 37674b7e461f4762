/- Calls, evaluated. -/
import Derived.Test.YtgomkbcokgeciaaGreatScKeptA
open Go Go.bR
set_option maxRecDepth 1000000
set_option linter.unusedVariables false
namespace Go.Proofs.YtgomkbcokgeciaaGreat.K
theorem aV1 : QZ CG (run CG 100000) none 50 SS (nN Tryz.f25) MU 0 12 = true := by kernel_rfl
theorem aV2 : QZ CG (run CG 100000) none 50 SS (nN Tryz.f25) MU 12 12 = true := by kernel_rfl
end Go.Proofs.YtgomkbcokgeciaaGreat.K
