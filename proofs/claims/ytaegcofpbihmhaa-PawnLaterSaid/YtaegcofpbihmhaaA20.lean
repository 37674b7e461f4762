/- One call, evaluated. -/
import Derived.Test.YtaegcofpbihmhaaKeptA
open Go Go.Eng
set_option maxRecDepth 1000000
set_option linter.unusedVariables false
namespace Go.Proofs.Ytaegcofpbihmhaa.K
theorem eA10 : retR (run (cbA10) 100000 (.call 57 aA10.toArray (hpAt 15195 hA10))) vA10 18607 nA10 = true := by kernel_rfl
end Go.Proofs.Ytaegcofpbihmhaa.K
