/- One call, evaluated. -/
import Derived.Test.YtekocllllbdbgaaKeptB
open Go Go.Eng
set_option maxRecDepth 1000000
set_option linter.unusedVariables false
namespace Go.Proofs.Ytekocllllbdbgaa.K
theorem eB0 : retR (run (cbB0) 100000 (.call 15 aB0.toArray (hpAt 17 hB0))) vB0 1000000 nB0 = true := by kernel_rfl
end Go.Proofs.Ytekocllllbdbgaa.K
