/- Calls, evaluated. -/
import Derived.Test.YtalggihohgmpiaaKeptA
open Go Go.Eng
set_option maxRecDepth 1000000
set_option linter.unusedVariables false
namespace Go.Proofs.Ytalggihohgmpiaa.K
theorem eA201 : retR (run (cbA201) 100000 (.call 40 aA201.toArray (hpAt 275 hA201))) vA201 336 nA201 = true := by kernel_rfl
end Go.Proofs.Ytalggihohgmpiaa.K
