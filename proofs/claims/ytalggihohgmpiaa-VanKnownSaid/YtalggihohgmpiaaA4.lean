/- Calls, evaluated. -/
import Derived.Test.YtalggihohgmpiaaKeptA
open Go Go.Eng
set_option maxRecDepth 1000000
set_option linter.unusedVariables false
namespace Go.Proofs.Ytalggihohgmpiaa.K
theorem eA9 : retR (run (cbA9) 100000 (.call 9 aA9.toArray (hpAt 33 hA9))) vA9 47 nA9 = true := by kernel_rfl
end Go.Proofs.Ytalggihohgmpiaa.K
