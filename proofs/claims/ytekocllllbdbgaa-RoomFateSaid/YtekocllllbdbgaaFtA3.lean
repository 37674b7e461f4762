/- One call, evaluated. -/
import Derived.Test.YtekocllllbdbgaaFtKeptA
open Go Go.Eng
set_option maxRecDepth 1000000
set_option linter.unusedVariables false
namespace Go.Proofs.Ytekocllllbdbgaa.K
theorem eA3 : retL (runL cbA3 (run cbA3 100000) ndP lA3 100000 (.call 21 aA3.toArray (hpAt 18 hA3))) vA3 72 nA3 = true := by kernel_rfl
end Go.Proofs.Ytekocllllbdbgaa.K
