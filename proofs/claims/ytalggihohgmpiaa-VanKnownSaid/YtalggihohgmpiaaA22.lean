/- Calls, evaluated. -/
import Derived.Test.YtalggihohgmpiaaKeptA
open Go Go.Eng
set_option maxRecDepth 1000000
set_option linter.unusedVariables false
namespace Go.Proofs.Ytalggihohgmpiaa.K
theorem eA314 : retL (runL cbA314 (run cbA314 100000) ndP lA314 100000 (.call 41 aA314.toArray (hpAt 513 hA314))) vA314 1000000 nA314 = true := by kernel_rfl
end Go.Proofs.Ytalggihohgmpiaa.K
