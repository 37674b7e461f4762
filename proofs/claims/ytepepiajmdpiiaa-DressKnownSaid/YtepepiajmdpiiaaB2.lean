/- Calls, evaluated. -/
import Derived.Test.YtepepiajmdpiiaaKeptB
open Go Go.Eng
set_option maxRecDepth 1000000
set_option linter.unusedVariables false
namespace Go.Proofs.Ytepepiajmdpiiaa.K
theorem eB2 : retR (run2 (cbB2) 100000 (.call 32 aB2.toArray (hpAt 126 hB2))) vB2 1000000 nB2 = true := by kernel_rfl
end Go.Proofs.Ytepepiajmdpiiaa.K
