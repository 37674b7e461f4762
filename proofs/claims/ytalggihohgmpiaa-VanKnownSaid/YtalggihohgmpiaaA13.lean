/- Calls, evaluated. -/
import Derived.Test.YtalggihohgmpiaaKeptA
open Go Go.Eng
set_option maxRecDepth 1000000
set_option linter.unusedVariables false
namespace Go.Proofs.Ytalggihohgmpiaa.K
theorem eA203 : retL (runL cbA203 (run cbA203 100000) ndP lA203 100000 (.call 41 aA203.toArray (hpAt 337 hA203))) vA203 1000000 nA203 = true := by kernel_rfl
end Go.Proofs.Ytalggihohgmpiaa.K
