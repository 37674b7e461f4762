/- One call, evaluated. -/
import Derived.Test.YtekocllllbdbgaaKeptB
open Go Go.Eng
set_option maxRecDepth 1000000
set_option linter.unusedVariables false
namespace Go.Proofs.Ytekocllllbdbgaa.K
theorem eB7 : retL (runL cbB7 (run cbB7 100000) ndP lB7 100000 (.call 26 aB7.toArray (hpAt 85 hB7))) vB7 1000000 nB7 = true := by kernel_rfl
end Go.Proofs.Ytekocllllbdbgaa.K
