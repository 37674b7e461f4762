/- Calls, evaluated. -/
import Derived.Test.YtalggihohgmpiaaKeptA
open Go Go.Eng
set_option maxRecDepth 1000000
set_option linter.unusedVariables false
namespace Go.Proofs.Ytalggihohgmpiaa.K
theorem eA419 : retL (runL cbA419 (run cbA419 100000) ndP lA419 100000 (.call 26 aA419.toArray (hpAt 339 hA419))) vA419 1000000 nA419 = true := by kernel_rfl
end Go.Proofs.Ytalggihohgmpiaa.K
