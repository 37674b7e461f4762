/- Calls, evaluated. -/
import Derived.Test.YtpjflnjlmjnmjaaGreatDoorFsKeptA
open Go Go.Eng
set_option maxRecDepth 1000000
set_option linter.unusedVariables false
namespace Go.Proofs.YtpjflnjlmjnmjaaGreatDoor.K
theorem eA15 : retR (run (cbA15) 100000 (.call 66 aA15.toArray (hpAt 295 hA15))) vA15 1000000 nA15 = true := by kernel_rfl
end Go.Proofs.YtpjflnjlmjnmjaaGreatDoor.K
