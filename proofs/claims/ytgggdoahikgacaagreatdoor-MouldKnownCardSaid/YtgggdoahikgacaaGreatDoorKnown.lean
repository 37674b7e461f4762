/- MouldKnown, evaluated, the kept answers and Awake's taken. -/
import Derived.Test.YtgggdoahikgacaaGreatDoorCallL
import Derived.Test.YtgggdoahikgacaaGreatDoorAwake
open Go Go.Eng
set_option maxRecDepth 1000000
namespace Go.Proofs.YtgggdoahikgacaaGreatDoor.K
noncomputable def CY : Cfg := { CXNK with orc := orcP 13 (constF (.bool true)) CXNK.orc }
theorem okY : CY.Ok := orcP_ok (C := CXNK) okXNK awakeP
theorem knownV : isV (run CY 100000 (.call 3 #[] h00)) true = true := by kernel_rfl
theorem knownP : PSound Tryz.prog 3 (constF (.bool true)) := bool_sound okY knownV
end Go.Proofs.YtgggdoahikgacaaGreatDoor.K
