/- Calls, evaluated. -/
import Derived.Test.YtalggihohgmpiaaKeptA
open Go Go.Eng
set_option maxRecDepth 1000000
set_option linter.unusedVariables false
namespace Go.Proofs.Ytalggihohgmpiaa.K
theorem eA204 : retR (run (cbA204) 100000 (.call 24 aA204.toArray (hpAt 268 hA204))) vA204 339 nA204 = true := by kernel_rfl
end Go.Proofs.Ytalggihohgmpiaa.K
