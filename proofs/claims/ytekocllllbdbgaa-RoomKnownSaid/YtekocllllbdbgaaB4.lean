/- One call, evaluated. -/
import Derived.Test.YtekocllllbdbgaaKeptB
open Go Go.Eng
set_option maxRecDepth 1000000
set_option linter.unusedVariables false
namespace Go.Proofs.Ytekocllllbdbgaa.K
theorem eB4 : retR (run (cbB4) 100000 (.call 22 aB4.toArray (hpAt 83 hB4))) vB4 1000000 nB4 = true := by kernel_rfl
end Go.Proofs.Ytekocllllbdbgaa.K
