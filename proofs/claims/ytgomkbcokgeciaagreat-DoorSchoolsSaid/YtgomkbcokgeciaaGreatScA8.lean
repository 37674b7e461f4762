/- Calls, evaluated. -/
import Derived.Test.YtgomkbcokgeciaaGreatScKeptA
open Go Go.bR
set_option maxRecDepth 1000000
set_option linter.unusedVariables false
namespace Go.Proofs.YtgomkbcokgeciaaGreat.K
theorem bB8 : aIY 65 aD0 (nN Tryz.f27) V9 = true := by kernel_rfl
theorem bB9 : (U5 K9 (run K9 100000) none 65 aD0 (nN Tryz.f27) V9).isSome = true := by kernel_rfl
end Go.Proofs.YtgomkbcokgeciaaGreat.K
