/- One call, evaluated. -/
import Derived.Test.YtaegcofpbihmhaaKeptA
open Go Go.Eng
set_option maxRecDepth 1000000
set_option linter.unusedVariables false
namespace Go.Proofs.Ytaegcofpbihmhaa.K
theorem eA7 : retR (run (cbA7) 100000 (.call 57 aA7.toArray (hpAt 8386 hA7))) vA7 11798 nA7 = true := by kernel_rfl
end Go.Proofs.Ytaegcofpbihmhaa.K
