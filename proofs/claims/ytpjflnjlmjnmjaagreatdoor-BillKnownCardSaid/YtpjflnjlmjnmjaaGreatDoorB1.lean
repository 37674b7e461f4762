/- Calls, evaluated. -/
import Derived.Test.YtpjflnjlmjnmjaaGreatDoorKeptB
open Go Go.Eng
set_option maxRecDepth 1000000
set_option linter.unusedVariables false
namespace Go.Proofs.YtpjflnjlmjnmjaaGreatDoor.K
theorem eB1 : retR (run (cbB1) 100000 (.call 66 aB1.toArray (hpAt 15 hB1))) vB1 1000000 nB1 = true := by kernel_rfl
end Go.Proofs.YtpjflnjlmjnmjaaGreatDoor.K
