/- One call, evaluated. -/
import Derived.Test.YtekocllllbdbgaaKeptB
open Go Go.Eng
set_option maxRecDepth 1000000
set_option linter.unusedVariables false
namespace Go.Proofs.Ytekocllllbdbgaa.K
theorem eB3 : retL (runL cbB3 (run cbB3 100000) ndP lB3 100000 (.call 70 aB3.toArray (hpAt 85 hB3))) vB3 1000000 nB3 = true := by kernel_rfl
end Go.Proofs.Ytekocllllbdbgaa.K
