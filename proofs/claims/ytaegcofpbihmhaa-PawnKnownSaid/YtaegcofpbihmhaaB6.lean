/- One call, evaluated. -/
import Derived.Test.YtaegcofpbihmhaaKeptB
open Go Go.Eng
set_option maxRecDepth 1000000
set_option linter.unusedVariables false
namespace Go.Proofs.Ytaegcofpbihmhaa.K
theorem eB6 : retL (runL cbB6 (run cbB6 100000) ndP lB6 100000 (.call 21 aB6.toArray (hpAt 2298 hB6))) vB6 9109 nB6 = true := by kernel_rfl
end Go.Proofs.Ytaegcofpbihmhaa.K
