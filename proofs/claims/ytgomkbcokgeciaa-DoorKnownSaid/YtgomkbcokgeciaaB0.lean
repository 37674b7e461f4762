/- Calls, evaluated. -/
import Derived.Test.YtgomkbcokgeciaaKeptB
open Go Go.Eng
set_option maxRecDepth 1000000
set_option linter.unusedVariables false
namespace Go.Proofs.Ytgomkbcokgeciaa.K
theorem eB0 : retR (run2 (cbB0) 100000 (.call 7 aB0.toArray (hpAt 9 hB0))) vB0 1000000 nB0 = true := by kernel_rfl
theorem eB1 : retR (run2 (cbB1) 100000 (.call 48 aB1.toArray (hpAt 21 hB1))) vB1 1000000 nB1 = true := by kernel_rfl
end Go.Proofs.Ytgomkbcokgeciaa.K
