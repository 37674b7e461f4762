/- Calls, evaluated. -/
import Derived.Test.YtepepiajmdpiiaaPlKeptA
open Go Go.Eng
set_option maxRecDepth 1000000
set_option linter.unusedVariables false
namespace Go.Proofs.Ytepepiajmdpiiaa.K
theorem eA2 : VP (WI (cbA2) 100000 (.call 28 aA2.toArray (hpAt 266 hA2))) vA2 453 nA2 = true := by kernel_rfl
end Go.Proofs.Ytepepiajmdpiiaa.K
