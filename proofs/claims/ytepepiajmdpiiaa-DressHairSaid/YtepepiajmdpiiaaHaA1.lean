/- Calls, evaluated. -/
import Derived.Test.YtepepiajmdpiiaaHaKeptA
open Go Go.Eng
set_option maxRecDepth 1000000
set_option linter.unusedVariables false
namespace Go.Proofs.Ytepepiajmdpiiaa.K
theorem eA1 : VJ (WA (cbA1) 100000 (.call 26 aA1.toArray (hpAt 266 hA1))) vA1 1000000 nA1 = true := by kernel_rfl
end Go.Proofs.Ytepepiajmdpiiaa.K
