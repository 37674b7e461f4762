/- Calls, evaluated. -/
import Derived.Test.YtgomkbcokgeciaaKeptB
open Go Go.Eng
set_option maxRecDepth 1000000
set_option linter.unusedVariables false
namespace Go.Proofs.Ytgomkbcokgeciaa.K
theorem eB6 : retR (run2 (cbB6) 100000 (.call 31 aB6.toArray (hpAt 22 hB6))) vB6 1000000 nB6 = true := by kernel_rfl
theorem eB7 : retR (run2 (cbB7) 100000 (.call 31 aB7.toArray (hpAt 22 hB7))) vB7 1000000 nB7 = true := by kernel_rfl
end Go.Proofs.Ytgomkbcokgeciaa.K
