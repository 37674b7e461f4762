/- BillKnown, evaluated, the kept answers and Awake's taken. -/
import Derived.Test.YtpjflnjlmjnmjaaGreatDoorAwake
import Derived.Test.YtpjflnjlmjnmjaaGreatDoorChainB
open Go Go.Eng
set_option maxRecDepth 1000000
namespace Go.Proofs.YtpjflnjlmjnmjaaGreatDoor.K
noncomputable def CY : Cfg := { CXB with orc := orcP 22 (constF (.bool true)) CXB.orc }
theorem okY : CY.Ok := orcP_ok (C := CXB) okXB awakeP
theorem knownV : isV (run CY 100000 (.call 8 #[] h00)) true = true := by kernel_rfl
theorem knownP : PSound Tryz.prog 8 (constF (.bool true)) := bool_sound okY knownV
end Go.Proofs.YtpjflnjlmjnmjaaGreatDoor.K
