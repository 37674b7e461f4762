/- One call, evaluated. -/
import Derived.Test.YtekocllllbdbgaaFtKeptA
open Go Go.Eng
set_option maxRecDepth 1000000
set_option linter.unusedVariables false
namespace Go.Proofs.Ytekocllllbdbgaa.K
theorem eA4 : retL (runL cbA4 (run cbA4 100000) ndP lA4 100000 (.call 70 aA4.toArray (hpAt 77 hA4))) vA4 1000000 nA4 = true := by kernel_rfl
end Go.Proofs.Ytekocllllbdbgaa.K
