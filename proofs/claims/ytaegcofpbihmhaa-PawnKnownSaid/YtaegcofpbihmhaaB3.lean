/- One call, evaluated. -/
import Derived.Test.YtaegcofpbihmhaaKeptB
open Go Go.Eng
set_option maxRecDepth 1000000
set_option linter.unusedVariables false
namespace Go.Proofs.Ytaegcofpbihmhaa.K
theorem eB3 : retR (run (cbB3) 100000 (.call 19 aB3.toArray (hpAt 2293 hB3))) vB3 1000000 nB3 = true := by kernel_rfl
end Go.Proofs.Ytaegcofpbihmhaa.K
