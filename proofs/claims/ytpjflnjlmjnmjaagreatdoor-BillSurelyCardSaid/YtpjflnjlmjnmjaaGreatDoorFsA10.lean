/- Calls, evaluated. -/
import Derived.Test.YtpjflnjlmjnmjaaGreatDoorFsKeptA
open Go Go.Eng
set_option maxRecDepth 1000000
set_option linter.unusedVariables false
namespace Go.Proofs.YtpjflnjlmjnmjaaGreatDoor.K
theorem eA10 : retR (run (cbA10) 100000 (.call 134 aA10.toArray (hpAt 252 hA10))) vA10 1000000 nA10 = true := by kernel_rfl
end Go.Proofs.YtpjflnjlmjnmjaaGreatDoor.K
