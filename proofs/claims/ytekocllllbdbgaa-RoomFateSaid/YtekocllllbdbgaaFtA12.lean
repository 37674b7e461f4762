/- One call, evaluated. -/
import Derived.Test.YtekocllllbdbgaaFtKeptA
open Go Go.Eng
set_option maxRecDepth 1000000
set_option linter.unusedVariables false
namespace Go.Proofs.Ytekocllllbdbgaa.K
theorem eA12 : retL (runL cbA12 (run cbA12 100000) ndP lA12 100000 (.call 26 aA12.toArray (hpAt 160 hA12))) vA12 1000000 nA12 = true := by kernel_rfl
end Go.Proofs.Ytekocllllbdbgaa.K
