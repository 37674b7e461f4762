/- Calls, evaluated. -/
import Derived.Test.YtpjflnjlmjnmjaaGreatDoorKeptB
open Go Go.Eng
set_option maxRecDepth 1000000
set_option linter.unusedVariables false
namespace Go.Proofs.YtpjflnjlmjnmjaaGreatDoor.K
theorem eB0 : retR (run (cbB0) 100000 (.call 66 aB0.toArray (hpAt 12 hB0))) vB0 1000000 nB0 = true := by kernel_rfl
end Go.Proofs.YtpjflnjlmjnmjaaGreatDoor.K
