/- Calls, evaluated. -/
import Derived.Test.YtgomkbcokgeciaaKeptB
open Go Go.Eng
set_option maxRecDepth 1000000
set_option linter.unusedVariables false
namespace Go.Proofs.Ytgomkbcokgeciaa.K
theorem eB2 : retR (run2 (cbB2) 100000 (.call 31 aB2.toArray (hpAt 22 hB2))) vB2 1000000 nB2 = true := by kernel_rfl
theorem eB3 : retR (run2 (cbB3) 100000 (.call 31 aB3.toArray (hpAt 22 hB3))) vB3 1000000 nB3 = true := by kernel_rfl
end Go.Proofs.Ytgomkbcokgeciaa.K
