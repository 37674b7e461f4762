/- Calls, evaluated. -/
import Derived.Test.YtalggihohgmpiaaKeptA
open Go Go.Eng
set_option maxRecDepth 1000000
set_option linter.unusedVariables false
namespace Go.Proofs.Ytalggihohgmpiaa.K
theorem eA7 : retR (run (cbVA orcA6) 100000 (.call 8 aA7.toArray (hpAt 32 hA7))) vA7 1000000 nA7 = true := by kernel_rfl
end Go.Proofs.Ytalggihohgmpiaa.K
