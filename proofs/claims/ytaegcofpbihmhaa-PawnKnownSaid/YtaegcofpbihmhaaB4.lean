/- One call, evaluated. -/
import Derived.Test.YtaegcofpbihmhaaKeptB
open Go Go.Eng
set_option maxRecDepth 1000000
set_option linter.unusedVariables false
namespace Go.Proofs.Ytaegcofpbihmhaa.K
theorem eB4 : retR (run (cbB4) 100000 (.call 57 aB4.toArray (hpAt 2304 hB4))) vB4 5716 nB4 = true := by kernel_rfl
end Go.Proofs.Ytaegcofpbihmhaa.K
