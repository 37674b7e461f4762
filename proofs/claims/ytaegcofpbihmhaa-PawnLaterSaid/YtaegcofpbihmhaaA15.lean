/- One call, evaluated. -/
import Derived.Test.YtaegcofpbihmhaaKeptA
open Go Go.Eng
set_option maxRecDepth 1000000
set_option linter.unusedVariables false
namespace Go.Proofs.Ytaegcofpbihmhaa.K
theorem eA5 : retL (runL cbA5 (run cbA5 100000) ndP lA5 100000 (.call 56 aA5.toArray (hpAt 4884 hA5))) vA5 1000000 nA5 = true := by kernel_rfl
end Go.Proofs.Ytaegcofpbihmhaa.K
