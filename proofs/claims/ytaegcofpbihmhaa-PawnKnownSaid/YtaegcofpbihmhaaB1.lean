/- One call, evaluated. -/
import Derived.Test.YtaegcofpbihmhaaKeptB
open Go Go.Eng
set_option maxRecDepth 1000000
set_option linter.unusedVariables false
namespace Go.Proofs.Ytaegcofpbihmhaa.K
theorem eB1 : retR (run (cbB1) 100000 (.call 14 aB1.toArray (hpAt 1156 hB1))) vB1 2291 nB1 = true := by kernel_rfl
end Go.Proofs.Ytaegcofpbihmhaa.K
