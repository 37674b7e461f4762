/- One call, evaluated. -/
import Derived.Test.YtekocllllbdbgaaFtKeptA
open Go Go.Eng
set_option maxRecDepth 1000000
set_option linter.unusedVariables false
namespace Go.Proofs.Ytekocllllbdbgaa.K
theorem eA9 : retR (run (cbA9) 100000 (.call 29 aA9.toArray (hpAt 105 hA9))) vA9 160 nA9 = true := by kernel_rfl
end Go.Proofs.Ytekocllllbdbgaa.K
