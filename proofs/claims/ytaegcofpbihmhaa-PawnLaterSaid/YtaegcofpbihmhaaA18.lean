/- One call, evaluated. -/
import Derived.Test.YtaegcofpbihmhaaKeptA
open Go Go.Eng
set_option maxRecDepth 1000000
set_option linter.unusedVariables false
namespace Go.Proofs.Ytaegcofpbihmhaa.K
theorem eA8 : retL (runL cbA8 (run cbA8 100000) ndP lA8 100000 (.call 56 aA8.toArray (hpAt 11798 hA8))) vA8 1000000 nA8 = true := by kernel_rfl
end Go.Proofs.Ytaegcofpbihmhaa.K
