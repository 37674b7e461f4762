/- Calls, evaluated. -/
import Derived.Test.YtalggihohgmpiaaKeptA
open Go Go.Eng
set_option maxRecDepth 1000000
set_option linter.unusedVariables false
namespace Go.Proofs.Ytalggihohgmpiaa.K
theorem erA419x0c1 : rowsC cbA419 (run cbA419 100000) none 30 tA419x0 (loopOf Try.f26) sA419x0 12 1 = true := by kernel_rfl
end Go.Proofs.Ytalggihohgmpiaa.K
