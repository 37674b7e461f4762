/- One call, evaluated. -/
import Derived.Test.YtekocllllbdbgaaKeptB
open Go Go.Eng
set_option maxRecDepth 1000000
set_option linter.unusedVariables false
namespace Go.Proofs.Ytekocllllbdbgaa.K
theorem eB5 : retR (run (cbB5) 100000 (.call 24 aB5.toArray (hpAt 83 hB5))) vB5 1000000 nB5 = true := by kernel_rfl
end Go.Proofs.Ytekocllllbdbgaa.K
