/- Awake, evaluated, the kept answers taken. -/
import Derived.Test.YtpjflnjlmjnmjaaGreatDoorFsChainA
open Go Go.Eng
set_option maxRecDepth 1000000
namespace Go.Proofs.YtpjflnjlmjnmjaaGreatDoor.K
theorem awakeV : isV (run CXA 100000 (.call 22 #[] h00)) true = true := by kernel_rfl
theorem awakeP : PSound Tryz.prog 22 (constF (.bool true)) := bool_sound okXA awakeV
end Go.Proofs.YtpjflnjlmjnmjaaGreatDoor.K
