/- Calls, evaluated. -/
import Derived.Test.YtepepiajmdpiiaaHaKeptA
open Go Go.Eng
set_option maxRecDepth 1000000
set_option linter.unusedVariables false
namespace Go.Proofs.Ytepepiajmdpiiaa.K
theorem eA0 : VJ (WA (cbA0) 100000 (.call 26 aA0.toArray (hpAt 144 hA0))) vA0 266 nA0 = true := by kernel_rfl
end Go.Proofs.Ytepepiajmdpiiaa.K
