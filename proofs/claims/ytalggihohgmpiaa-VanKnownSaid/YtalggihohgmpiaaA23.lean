/- Calls, evaluated. -/
import Derived.Test.YtalggihohgmpiaaKeptA
open Go Go.Eng
set_option maxRecDepth 1000000
set_option linter.unusedVariables false
namespace Go.Proofs.Ytalggihohgmpiaa.K
theorem eA315 : retR (run (cbVA orcA314) 100000 (.call 24 aA315.toArray (hpAt 339 hA315))) vA315 1000000 nA315 = true := by kernel_rfl
end Go.Proofs.Ytalggihohgmpiaa.K
