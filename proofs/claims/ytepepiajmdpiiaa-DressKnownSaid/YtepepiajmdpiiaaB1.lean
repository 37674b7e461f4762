/- Calls, evaluated. -/
import Derived.Test.YtepepiajmdpiiaaKeptB
open Go Go.Eng
set_option maxRecDepth 1000000
set_option linter.unusedVariables false
namespace Go.Proofs.Ytepepiajmdpiiaa.K
theorem eB1 : retR (run2 (cbB1) 100000 (.call 30 aB1.toArray (hpAt 126 hB1))) vB1 1000000 nB1 = true := by kernel_rfl
end Go.Proofs.Ytepepiajmdpiiaa.K
