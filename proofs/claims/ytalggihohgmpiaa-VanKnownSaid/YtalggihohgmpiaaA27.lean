/- Calls, evaluated. -/
import Derived.Test.YtalggihohgmpiaaKeptA
open Go Go.Eng
set_option maxRecDepth 1000000
set_option linter.unusedVariables false
namespace Go.Proofs.Ytalggihohgmpiaa.K
theorem eA418 : retR (run (cbA418) 100000 (.call 40 aA418.toArray (hpAt 343 hA418))) vA418 499 nA418 = true := by kernel_rfl
end Go.Proofs.Ytalggihohgmpiaa.K
