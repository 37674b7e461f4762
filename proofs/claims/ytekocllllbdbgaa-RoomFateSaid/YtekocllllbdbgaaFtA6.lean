/- One call, evaluated. -/
import Derived.Test.YtekocllllbdbgaaFtKeptA
open Go Go.Eng
set_option maxRecDepth 1000000
set_option linter.unusedVariables false
namespace Go.Proofs.Ytekocllllbdbgaa.K
theorem eA6 : retL (runL cbA6 (run cbA6 100000) ndP lA6 100000 (.call 83 aA6.toArray (hpAt 79 hA6))) vA6 87 nA6 = true := by kernel_rfl
end Go.Proofs.Ytekocllllbdbgaa.K
