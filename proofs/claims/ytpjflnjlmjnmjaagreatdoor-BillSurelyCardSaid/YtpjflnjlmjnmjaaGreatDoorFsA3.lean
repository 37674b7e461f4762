/- Calls, evaluated. -/
import Derived.Test.YtpjflnjlmjnmjaaGreatDoorFsKeptA
open Go Go.Eng
set_option maxRecDepth 1000000
set_option linter.unusedVariables false
namespace Go.Proofs.YtpjflnjlmjnmjaaGreatDoor.K
theorem eA3 : retR (run (cbA3) 100000 (.call 77 aA3.toArray (hpAt 169 hA3))) vA3 200 nA3 = true := by kernel_rfl
end Go.Proofs.YtpjflnjlmjnmjaaGreatDoor.K
