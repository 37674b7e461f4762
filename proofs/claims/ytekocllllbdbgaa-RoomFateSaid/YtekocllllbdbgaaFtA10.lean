/- One call, evaluated. -/
import Derived.Test.YtekocllllbdbgaaFtKeptA
open Go Go.Eng
set_option maxRecDepth 1000000
set_option linter.unusedVariables false
namespace Go.Proofs.Ytekocllllbdbgaa.K
theorem eA10 : retR (run (cbA10) 100000 (.call 29 aA10.toArray (hpAt 160 hA10))) vA10 1000000 nA10 = true := by kernel_rfl
end Go.Proofs.Ytekocllllbdbgaa.K
