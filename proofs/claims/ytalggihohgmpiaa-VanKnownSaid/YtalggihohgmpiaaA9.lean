/- Calls, evaluated. -/
import Derived.Test.YtalggihohgmpiaaKeptA
open Go Go.Eng
set_option maxRecDepth 1000000
set_option linter.unusedVariables false
namespace Go.Proofs.Ytalggihohgmpiaa.K
theorem eA165 : retL (runL cbA165 (run cbA165 100000) ndP lA165 100000 (.call 22 aA165.toArray (hpAt 47 hA165))) vA165 260 nA165 = true := by kernel_rfl
end Go.Proofs.Ytalggihohgmpiaa.K
