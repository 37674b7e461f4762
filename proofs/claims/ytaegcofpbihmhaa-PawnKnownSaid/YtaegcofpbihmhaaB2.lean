/- One call, evaluated. -/
import Derived.Test.YtaegcofpbihmhaaKeptB
open Go Go.Eng
set_option maxRecDepth 1000000
set_option linter.unusedVariables false
namespace Go.Proofs.Ytaegcofpbihmhaa.K
theorem eB2 : retR (run (cbB2) 100000 (.call 19 aB2.toArray (hpAt 2292 hB2))) vB2 1000000 nB2 = true := by kernel_rfl
end Go.Proofs.Ytaegcofpbihmhaa.K
