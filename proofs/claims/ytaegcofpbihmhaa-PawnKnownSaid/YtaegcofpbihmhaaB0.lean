/- One call, evaluated. -/
import Derived.Test.YtaegcofpbihmhaaKeptB
open Go Go.Eng
set_option maxRecDepth 1000000
set_option linter.unusedVariables false
namespace Go.Proofs.Ytaegcofpbihmhaa.K
theorem eB0 : retR (run (cbB0) 100000 (.call 14 aB0.toArray (hpAt 6 hB0))) vB0 1156 nB0 = true := by kernel_rfl
end Go.Proofs.Ytaegcofpbihmhaa.K
