/- Calls, evaluated. -/
import Derived.Test.YtepepiajmdpiiaaHaKeptA
open Go Go.Eng
set_option maxRecDepth 1000000
set_option linter.unusedVariables false
namespace Go.Proofs.Ytepepiajmdpiiaa.K
theorem eA5 : VJ (WA (cbA5) 100000 (.call 34 aA5.toArray (hpAt 498 hA5))) vA5 614 nA5 = true := by kernel_rfl
end Go.Proofs.Ytepepiajmdpiiaa.K
