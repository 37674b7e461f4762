/- Calls, evaluated. -/
import Derived.Test.YtpjflnjlmjnmjaaGreatDoorKeptB
open Go Go.Eng
set_option maxRecDepth 1000000
set_option linter.unusedVariables false
namespace Go.Proofs.YtpjflnjlmjnmjaaGreatDoor.K
theorem eB2 : retR (run (cbB2) 100000 (.call 77 aB2.toArray (hpAt 16 hB2))) vB2 47 nB2 = true := by kernel_rfl
end Go.Proofs.YtpjflnjlmjnmjaaGreatDoor.K
