/- Calls, evaluated. -/
import Derived.Test.YtalggihohgmpiaaKeptA
open Go Go.Eng
set_option maxRecDepth 1000000
set_option linter.unusedVariables false
namespace Go.Proofs.Ytalggihohgmpiaa.K
theorem eA202 : retL (runL cbA202 (run cbA202 100000) ndP lA202 100000 (.call 41 aA202.toArray (hpAt 337 hA202))) vA202 1000000 nA202 = true := by kernel_rfl
end Go.Proofs.Ytalggihohgmpiaa.K
