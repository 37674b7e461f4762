/- One call, evaluated. -/
import Derived.Test.YtalggihohgmpiaaKeptB
open Go Go.Eng
set_option maxRecDepth 1000000
set_option linter.unusedVariables false
namespace Go.Proofs.Ytalggihohgmpiaa.K
theorem eB1 : retR (run (cbB1) 100000 (.call 7 aB1.toArray (hpAt 19 hB1))) vB1 30 nB1 = true := by kernel_rfl
end Go.Proofs.Ytalggihohgmpiaa.K
