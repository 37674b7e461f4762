/- One call, evaluated. -/
import Derived.Test.YtekocllllbdbgaaFtKeptA
open Go Go.Eng
set_option maxRecDepth 1000000
set_option linter.unusedVariables false
namespace Go.Proofs.Ytekocllllbdbgaa.K
theorem eA11 : retR (run (cbA11) 100000 (.call 25 aA11.toArray (hpAt 160 hA11))) vA11 1000000 nA11 = true := by kernel_rfl
end Go.Proofs.Ytekocllllbdbgaa.K
