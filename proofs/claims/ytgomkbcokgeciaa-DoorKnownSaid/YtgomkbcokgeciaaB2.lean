/- Calls, evaluated. -/
import Derived.Test.YtgomkbcokgeciaaKeptB
open Go Go.Eng
set_option maxRecDepth 1000000
set_option linter.unusedVariables false
namespace Go.Proofs.Ytgomkbcokgeciaa.K
theorem eB4 : retR (run2 (cbB4) 100000 (.call 31 aB4.toArray (hpAt 22 hB4))) vB4 1000000 nB4 = true := by kernel_rfl
theorem eB5 : retR (run2 (cbB5) 100000 (.call 31 aB5.toArray (hpAt 22 hB5))) vB5 1000000 nB5 = true := by kernel_rfl
end Go.Proofs.Ytgomkbcokgeciaa.K
