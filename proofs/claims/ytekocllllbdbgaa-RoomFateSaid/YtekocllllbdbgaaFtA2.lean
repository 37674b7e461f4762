/- One call, evaluated. -/
import Derived.Test.YtekocllllbdbgaaFtKeptA
open Go Go.Eng
set_option maxRecDepth 1000000
set_option linter.unusedVariables false
namespace Go.Proofs.Ytekocllllbdbgaa.K
theorem eA2 : retR (run (cbA2) 100000 (.call 17 aA2.toArray (hpAt 18 hA2))) vA2 1000000 nA2 = true := by kernel_rfl
end Go.Proofs.Ytekocllllbdbgaa.K
