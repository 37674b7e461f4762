/- One call, evaluated. -/
import Derived.Test.YtaegcofpbihmhaaKeptA
open Go Go.Eng
set_option maxRecDepth 1000000
set_option linter.unusedVariables false
namespace Go.Proofs.Ytaegcofpbihmhaa.K
theorem eA0 : retR (run (cbA0) 100000 (.call 14 aA0.toArray (hpAt 12 hA0))) vA0 1151 nA0 = true := by kernel_rfl
end Go.Proofs.Ytaegcofpbihmhaa.K
