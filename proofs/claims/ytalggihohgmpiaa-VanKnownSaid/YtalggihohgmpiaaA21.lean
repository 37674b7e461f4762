/- Calls, evaluated. -/
import Derived.Test.YtalggihohgmpiaaKeptA
open Go Go.Eng
set_option maxRecDepth 1000000
set_option linter.unusedVariables false
namespace Go.Proofs.Ytalggihohgmpiaa.K
theorem erA314x0c0 : rowsC cbA314 (run cbA314 100000) none 25 tA314x0 (loopOf Try.f41) sA314x0 0 6 = true := by kernel_rfl
end Go.Proofs.Ytalggihohgmpiaa.K
