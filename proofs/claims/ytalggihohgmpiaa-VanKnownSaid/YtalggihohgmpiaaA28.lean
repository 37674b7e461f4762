/- Calls, evaluated. -/
import Derived.Test.YtalggihohgmpiaaKeptA
open Go Go.Eng
set_option maxRecDepth 1000000
set_option linter.unusedVariables false
namespace Go.Proofs.Ytalggihohgmpiaa.K
theorem ehA419x0 : headC 30 tA419x0 (loopOf Try.f26) sA419x0 = true := by kernel_rfl
end Go.Proofs.Ytalggihohgmpiaa.K
