/- One call, evaluated. -/
import Derived.Test.YtaegcofpbihmhaaKeptA
open Go Go.Eng
set_option maxRecDepth 1000000
set_option linter.unusedVariables false
namespace Go.Proofs.Ytaegcofpbihmhaa.K
theorem eA6 : retL (runL cbA6 (run cbA6 100000) ndP lA6 100000 (.call 21 aA6.toArray (hpAt 1154 hA6))) vA6 8381 nA6 = true := by kernel_rfl
end Go.Proofs.Ytaegcofpbihmhaa.K
