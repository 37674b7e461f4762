/- One call, evaluated. -/
import Derived.Test.YtalggihohgmpiaaKeptB
open Go Go.Eng
set_option maxRecDepth 1000000
set_option linter.unusedVariables false
namespace Go.Proofs.Ytalggihohgmpiaa.K
theorem eB0 : retR (run (cbB0) 100000 (.call 5 aB0.toArray (hpAt 8 hB0))) vB0 18 nB0 = true := by kernel_rfl
end Go.Proofs.Ytalggihohgmpiaa.K
