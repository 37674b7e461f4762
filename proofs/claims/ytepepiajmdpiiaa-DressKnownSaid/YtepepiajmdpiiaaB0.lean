/- Calls, evaluated. -/
import Derived.Test.YtepepiajmdpiiaaKeptB
open Go Go.Eng
set_option maxRecDepth 1000000
set_option linter.unusedVariables false
namespace Go.Proofs.Ytepepiajmdpiiaa.K
theorem eB0 : retR (run2 (cbB0) 100000 (.call 30 aB0.toArray (hpAt 126 hB0))) vB0 1000000 nB0 = true := by kernel_rfl
end Go.Proofs.Ytepepiajmdpiiaa.K
