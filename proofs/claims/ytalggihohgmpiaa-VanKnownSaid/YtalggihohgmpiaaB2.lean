/- One call, evaluated. -/
import Derived.Test.YtalggihohgmpiaaKeptB
open Go Go.Eng
set_option maxRecDepth 1000000
set_option linter.unusedVariables false
namespace Go.Proofs.Ytalggihohgmpiaa.K
theorem eB2 : retR (run (cbB2) 100000 (.call 8 aB2.toArray (hpAt 31 hB2))) vB2 1000000 nB2 = true := by kernel_rfl
end Go.Proofs.Ytalggihohgmpiaa.K
