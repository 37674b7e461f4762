/- Calls, evaluated. -/
import Derived.Test.YtalggihohgmpiaaKeptA
open Go Go.Eng
set_option maxRecDepth 1000000
set_option linter.unusedVariables false
namespace Go.Proofs.Ytalggihohgmpiaa.K
theorem eA313 : retR (run (cbA313) 100000 (.call 40 aA313.toArray (hpAt 346 hA313))) vA313 512 nA313 = true := by kernel_rfl
end Go.Proofs.Ytalggihohgmpiaa.K
