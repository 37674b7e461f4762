/- Calls, evaluated. -/
import Derived.Test.YtpjflnjlmjnmjaaGreatDoorKeptB
open Go Go.Eng
set_option maxRecDepth 1000000
set_option linter.unusedVariables false
namespace Go.Proofs.YtpjflnjlmjnmjaaGreatDoor.K
theorem eB4 : retR (run (cbB4) 100000 (.call 77 aB4.toArray (hpAt 58 hB4))) vB4 107 nB4 = true := by kernel_rfl
end Go.Proofs.YtpjflnjlmjnmjaaGreatDoor.K
