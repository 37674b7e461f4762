/- Awake, evaluated, the kept answers taken. -/
import Derived.Test.YtgggdoahikgacaaGreatDoorCallB
open Go Go.Eng
set_option maxRecDepth 1000000
namespace Go.Proofs.YtgggdoahikgacaaGreatDoor.K
theorem awakeV : isV (run CXNA 100000 (.call 13 #[] h00)) true = true := by kernel_rfl
theorem awakeP : PSound Tryz.prog 13 (constF (.bool true)) := bool_sound okXNA awakeV
end Go.Proofs.YtgggdoahikgacaaGreatDoor.K
