/- One call, evaluated. -/
import Derived.Test.YtaegcofpbihmhaaKeptA
open Go Go.Eng
set_option maxRecDepth 1000000
set_option linter.unusedVariables false
namespace Go.Proofs.Ytaegcofpbihmhaa.K
theorem eA11 : retL (runL cbA11 (run cbA11 100000) ndP lA11 100000 (.call 27 aA11.toArray (hpAt 15191 hA11))) vA11 18634 nA11 = true := by kernel_rfl
end Go.Proofs.Ytaegcofpbihmhaa.K
