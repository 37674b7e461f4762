/- One call, evaluated. -/
import Derived.Test.YtaegcofpbihmhaaKeptA
open Go Go.Eng
set_option maxRecDepth 1000000
set_option linter.unusedVariables false
namespace Go.Proofs.Ytaegcofpbihmhaa.K
theorem eA13 : retR (run (cbA13) 100000 (.call 52 aA13.toArray (hpAt 18635 hA13))) vA13 18649 nA13 = true := by kernel_rfl
end Go.Proofs.Ytaegcofpbihmhaa.K
