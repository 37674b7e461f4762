/- Calls, evaluated. -/
import Derived.Test.YtgomkbcokgeciaaGreatScKeptA
open Go Go.bR
set_option maxRecDepth 1000000
set_option linter.unusedVariables false
namespace Go.Proofs.YtgomkbcokgeciaaGreat.K
theorem bB6 : aIY 50 SS (nN Tryz.f25) MU = true := by kernel_rfl
theorem bB7 : (U5 CG (run CG 100000) none 50 SS (nN Tryz.f25) MU).isSome = true := by kernel_rfl
end Go.Proofs.YtgomkbcokgeciaaGreat.K
