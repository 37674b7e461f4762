/- One call, evaluated. -/
import Derived.Test.YtekocllllbdbgaaFtKeptA
open Go Go.Eng
set_option maxRecDepth 1000000
set_option linter.unusedVariables false
namespace Go.Proofs.Ytekocllllbdbgaa.K
theorem eA5 : retR (run (cbA5) 100000 (.call 22 aA5.toArray (hpAt 75 hA5))) vA5 1000000 nA5 = true := by kernel_rfl
end Go.Proofs.Ytekocllllbdbgaa.K
