/- Calls, evaluated. -/
import Derived.Test.YtpjflnjlmjnmjaaGreatDoorKeptB
open Go Go.Eng
set_option maxRecDepth 1000000
set_option linter.unusedVariables false
namespace Go.Proofs.YtpjflnjlmjnmjaaGreatDoor.K
theorem eB3 : retR (run (cbB3) 100000 (.call 66 aB3.toArray (hpAt 57 hB3))) vB3 1000000 nB3 = true := by kernel_rfl
end Go.Proofs.YtpjflnjlmjnmjaaGreatDoor.K
