/- One call, evaluated. -/
import Derived.Test.YtaegcofpbihmhaaKeptA
open Go Go.Eng
set_option maxRecDepth 1000000
set_option linter.unusedVariables false
namespace Go.Proofs.Ytaegcofpbihmhaa.K
theorem eA1 : retR (run (cbA1) 100000 (.call 19 aA1.toArray (hpAt 1152 hA1))) vA1 1000000 nA1 = true := by kernel_rfl
end Go.Proofs.Ytaegcofpbihmhaa.K
