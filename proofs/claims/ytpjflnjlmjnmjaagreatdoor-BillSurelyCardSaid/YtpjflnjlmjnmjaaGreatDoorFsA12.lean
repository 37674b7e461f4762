/- Calls, evaluated. -/
import Derived.Test.YtpjflnjlmjnmjaaGreatDoorFsKeptA
open Go Go.Eng
set_option maxRecDepth 1000000
set_option linter.unusedVariables false
namespace Go.Proofs.YtpjflnjlmjnmjaaGreatDoor.K
theorem eA12 : retR (run (cbA12) 100000 (.call 134 aA12.toArray (hpAt 264 hA12))) vA12 1000000 nA12 = true := by kernel_rfl
end Go.Proofs.YtpjflnjlmjnmjaaGreatDoor.K
