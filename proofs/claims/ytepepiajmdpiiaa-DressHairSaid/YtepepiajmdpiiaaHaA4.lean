/- Calls, evaluated. -/
import Derived.Test.YtepepiajmdpiiaaHaKeptA
open Go Go.Eng
set_option maxRecDepth 1000000
set_option linter.unusedVariables false
namespace Go.Proofs.Ytepepiajmdpiiaa.K
theorem eA4 : VJ (WA (cbA4) 100000 (.call 32 aA4.toArray (hpAt 453 hA4))) vA4 498 nA4 = true := by kernel_rfl
end Go.Proofs.Ytepepiajmdpiiaa.K
