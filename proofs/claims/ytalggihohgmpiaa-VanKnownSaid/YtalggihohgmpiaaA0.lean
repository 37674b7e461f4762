/- Calls, evaluated. -/
import Derived.Test.YtalggihohgmpiaaKeptA
open Go Go.Eng
set_option maxRecDepth 1000000
set_option linter.unusedVariables false
namespace Go.Proofs.Ytalggihohgmpiaa.K
theorem eA1 : retR (run (cbA1) 100000 (.call 5 aA1.toArray (hpAt 8 hA1))) vA1 18 nA1 = true := by kernel_rfl
end Go.Proofs.Ytalggihohgmpiaa.K
