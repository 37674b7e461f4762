/- One call, evaluated. -/
import Derived.Test.YtekocllllbdbgaaKeptB
open Go Go.Eng
set_option maxRecDepth 1000000
set_option linter.unusedVariables false
namespace Go.Proofs.Ytekocllllbdbgaa.K
theorem eB6 : retR (run (cbB6) 100000 (.call 25 aB6.toArray (hpAt 83 hB6))) vB6 1000000 nB6 = true := by kernel_rfl
end Go.Proofs.Ytekocllllbdbgaa.K
