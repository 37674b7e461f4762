/- One call, evaluated. -/
import Derived.Test.YtaegcofpbihmhaaKeptA
open Go Go.Eng
set_option maxRecDepth 1000000
set_option linter.unusedVariables false
namespace Go.Proofs.Ytaegcofpbihmhaa.K
theorem eA3 : retR (run (cbA3) 100000 (.call 51 aA3.toArray (hpAt 1154 hA3))) vA3 1000000 nA3 = true := by kernel_rfl
end Go.Proofs.Ytaegcofpbihmhaa.K
