/- Calls, evaluated. -/
import Derived.Test.YtalggihohgmpiaaKeptA
open Go Go.Eng
set_option maxRecDepth 1000000
set_option linter.unusedVariables false
namespace Go.Proofs.Ytalggihohgmpiaa.K
theorem eA3 : retR (run (cbA3) 100000 (.call 7 aA3.toArray (hpAt 19 hA3))) vA3 30 nA3 = true := by kernel_rfl
end Go.Proofs.Ytalggihohgmpiaa.K
