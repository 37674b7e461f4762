/- Calls, evaluated. -/
import Derived.Test.YtalggihohgmpiaaKeptA
open Go Go.Eng
set_option maxRecDepth 1000000
set_option linter.unusedVariables false
namespace Go.Proofs.Ytalggihohgmpiaa.K
theorem eA421 : retR (run (cbVA orcA420) 100000 (.call 8 aA421.toArray (hpAt 339 hA421))) vA421 1000000 nA421 = true := by kernel_rfl
end Go.Proofs.Ytalggihohgmpiaa.K
