/- One call, evaluated. -/
import Derived.Test.YtaegcofpbihmhaaKeptA
open Go Go.Eng
set_option maxRecDepth 1000000
set_option linter.unusedVariables false
namespace Go.Proofs.Ytaegcofpbihmhaa.K
theorem eA2 : retR (run (cbA2) 100000 (.call 51 aA2.toArray (hpAt 1153 hA2))) vA2 1000000 nA2 = true := by kernel_rfl
end Go.Proofs.Ytaegcofpbihmhaa.K
