/- Calls, evaluated. -/
import Derived.Test.YtepepiajmdpiiaaKeptB
open Go Go.Eng
set_option maxRecDepth 1000000
set_option linter.unusedVariables false
namespace Go.Proofs.Ytepepiajmdpiiaa.K
theorem eB3 : retR (run2 (cbB3) 100000 (.call 34 aB3.toArray (hpAt 126 hB3))) vB3 242 nB3 = true := by kernel_rfl
end Go.Proofs.Ytepepiajmdpiiaa.K
