/- Calls, evaluated. -/
import Derived.Test.YtepepiajmdpiiaaHaKeptA
open Go Go.Eng
set_option maxRecDepth 1000000
set_option linter.unusedVariables false
namespace Go.Proofs.Ytepepiajmdpiiaa.K
theorem eA3 : VJ (WA (cbA3) 100000 (.call 30 aA3.toArray (hpAt 453 hA3))) vA3 1000000 nA3 = true := by kernel_rfl
end Go.Proofs.Ytepepiajmdpiiaa.K
