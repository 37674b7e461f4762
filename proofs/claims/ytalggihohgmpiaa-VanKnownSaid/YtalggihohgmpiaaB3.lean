/- One call, evaluated. -/
import Derived.Test.YtalggihohgmpiaaKeptB
open Go Go.Eng
set_option maxRecDepth 1000000
set_option linter.unusedVariables false
namespace Go.Proofs.Ytalggihohgmpiaa.K
theorem eB3 : retR (run (cbB3) 100000 (.call 9 aB3.toArray (hpAt 32 hB3))) vB3 46 nB3 = true := by kernel_rfl
end Go.Proofs.Ytalggihohgmpiaa.K
