/- One call, evaluated. -/
import Derived.Test.YtaegcofpbihmhaaKeptA
open Go Go.Eng
set_option maxRecDepth 1000000
set_option linter.unusedVariables false
namespace Go.Proofs.Ytaegcofpbihmhaa.K
theorem eA9 : retL (runL cbA9 (run cbA9 100000) ndP lA9 100000 (.call 21 aA9.toArray (hpAt 8381 hA9))) vA9 15191 nA9 = true := by kernel_rfl
end Go.Proofs.Ytaegcofpbihmhaa.K
