/- One call, evaluated. -/
import Derived.Test.YtekocllllbdbgaaFtKeptA
open Go Go.Eng
set_option maxRecDepth 1000000
set_option linter.unusedVariables false
namespace Go.Proofs.Ytekocllllbdbgaa.K
theorem eA7 : retR (run (cbA7) 100000 (.call 42 aA7.toArray (hpAt 77 hA7))) vA7 91 nA7 = true := by kernel_rfl
end Go.Proofs.Ytekocllllbdbgaa.K
