/- Calls, evaluated. -/
import Derived.Test.YtpjflnjlmjnmjaaGreatDoorFsKeptA
open Go Go.Eng
set_option maxRecDepth 1000000
set_option linter.unusedVariables false
namespace Go.Proofs.YtpjflnjlmjnmjaaGreatDoor.K
theorem eA0 : retR (run (cbA0) 100000 (.call 66 aA0.toArray (hpAt 9 hA0))) vA0 1000000 nA0 = true := by kernel_rfl
end Go.Proofs.YtpjflnjlmjnmjaaGreatDoor.K
