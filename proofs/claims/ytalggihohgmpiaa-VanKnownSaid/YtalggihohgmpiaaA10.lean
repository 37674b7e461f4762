/- Calls, evaluated. -/
import Derived.Test.YtalggihohgmpiaaKeptA
open Go Go.Eng
set_option maxRecDepth 1000000
set_option linter.unusedVariables false
namespace Go.Proofs.Ytalggihohgmpiaa.K
theorem eA170 : retR (run (cbVA orcA169) 100000 (.call 23 aA170.toArray (hpAt 260 hA170))) vA170 1000000 nA170 = true := by kernel_rfl
end Go.Proofs.Ytalggihohgmpiaa.K
