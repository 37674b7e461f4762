/- One call, evaluated. -/
import Derived.Test.YtaegcofpbihmhaaKeptA
open Go Go.Eng
set_option maxRecDepth 1000000
set_option linter.unusedVariables false
namespace Go.Proofs.Ytaegcofpbihmhaa.K
theorem eA4 : retR (run (cbA4) 100000 (.call 57 aA4.toArray (hpAt 1159 hA4))) vA4 4884 nA4 = true := by kernel_rfl
end Go.Proofs.Ytaegcofpbihmhaa.K
