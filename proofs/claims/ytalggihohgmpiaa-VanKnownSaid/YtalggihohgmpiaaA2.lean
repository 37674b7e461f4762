/- Calls, evaluated. -/
import Derived.Test.YtalggihohgmpiaaKeptA
open Go Go.Eng
set_option maxRecDepth 1000000
set_option linter.unusedVariables false
namespace Go.Proofs.Ytalggihohgmpiaa.K
theorem eA5 : retR (run (cbVA orcA4) 100000 (.call 8 aA5.toArray (hpAt 31 hA5))) vA5 1000000 nA5 = true := by kernel_rfl
end Go.Proofs.Ytalggihohgmpiaa.K
