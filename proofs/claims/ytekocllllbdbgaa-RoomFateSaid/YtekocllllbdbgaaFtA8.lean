/- One call, evaluated. -/
import Derived.Test.YtekocllllbdbgaaFtKeptA
open Go Go.Eng
set_option maxRecDepth 1000000
set_option linter.unusedVariables false
namespace Go.Proofs.Ytekocllllbdbgaa.K
theorem eA8 : retR (run (cbA8) 100000 (.call 24 aA8.toArray (hpAt 99 hA8))) vA8 105 nA8 = true := by kernel_rfl
end Go.Proofs.Ytekocllllbdbgaa.K
