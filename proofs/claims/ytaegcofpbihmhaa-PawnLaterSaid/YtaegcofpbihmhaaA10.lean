/- One call, evaluated. -/
import Derived.Test.YtaegcofpbihmhaaKeptA
open Go Go.Eng
set_option maxRecDepth 1000000
set_option linter.unusedVariables false
namespace Go.Proofs.Ytaegcofpbihmhaa.K
theorem erA5x0c3 : rowsC cbA5 (run cbA5 100000) none 21 tA5x0 (loopOf Try.f81) sA5x0 36 12 = true := by kernel_rfl
end Go.Proofs.Ytaegcofpbihmhaa.K
