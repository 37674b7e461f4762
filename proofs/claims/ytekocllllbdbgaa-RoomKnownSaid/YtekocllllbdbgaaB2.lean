/- One call, evaluated. -/
import Derived.Test.YtekocllllbdbgaaKeptB
open Go Go.Eng
set_option maxRecDepth 1000000
set_option linter.unusedVariables false
namespace Go.Proofs.Ytekocllllbdbgaa.K
theorem eB2 : retL (runL cbB2 (run cbB2 100000) ndP lB2 100000 (.call 21 aB2.toArray (hpAt 18 hB2))) vB2 80 nB2 = true := by kernel_rfl
end Go.Proofs.Ytekocllllbdbgaa.K
