/- One call, evaluated. -/
import Derived.Test.YtekocllllbdbgaaKeptB
open Go Go.Eng
set_option maxRecDepth 1000000
set_option linter.unusedVariables false
namespace Go.Proofs.Ytekocllllbdbgaa.K
theorem eB1 : retR (run (cbB1) 100000 (.call 17 aB1.toArray (hpAt 18 hB1))) vB1 1000000 nB1 = true := by kernel_rfl
end Go.Proofs.Ytekocllllbdbgaa.K
