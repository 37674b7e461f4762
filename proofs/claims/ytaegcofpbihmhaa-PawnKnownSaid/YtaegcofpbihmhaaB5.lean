/- One call, evaluated. -/
import Derived.Test.YtaegcofpbihmhaaKeptB
open Go Go.Eng
set_option maxRecDepth 1000000
set_option linter.unusedVariables false
namespace Go.Proofs.Ytaegcofpbihmhaa.K
theorem eB5 : retL (runL cbB5 (run cbB5 100000) ndP lB5 100000 (.call 56 aB5.toArray (hpAt 5716 hB5))) vB5 1000000 nB5 = true := by kernel_rfl
end Go.Proofs.Ytaegcofpbihmhaa.K
