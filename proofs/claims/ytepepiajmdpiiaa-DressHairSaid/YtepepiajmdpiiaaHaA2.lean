/- Calls, evaluated. -/
import Derived.Test.YtepepiajmdpiiaaHaKeptA
open Go Go.Eng
set_option maxRecDepth 1000000
set_option linter.unusedVariables false
namespace Go.Proofs.Ytepepiajmdpiiaa.K
theorem eA2 : VJ (WA (cbA2) 100000 (.call 28 aA2.toArray (hpAt 266 hA2))) vA2 453 nA2 = true := by kernel_rfl
end Go.Proofs.Ytepepiajmdpiiaa.K
