/- WaxKnown, evaluated, the kept answers and Awake's taken. -/
import Derived.Test.YtegcnkcbmbcdkaaAwake
import Derived.Test.YtegcnkcbmbcdkaaChainB
open Go Go.Eng
set_option maxRecDepth 1000000
namespace Go.Proofs.Ytegcnkcbmbcdkaa.K
noncomputable def CY : Cfg := { CXB with orc := orcP 9 (constF (.bool true)) CXB.orc }
theorem okY : CY.Ok := orcP_ok (C := CXB) okXB awakeP
theorem knownV : isV (run CY 100000 (.call 3 #[] h00)) true = true := by kernel_rfl
theorem knownP : PSound Try.prog 3 (constF (.bool true)) := bool_sound okY knownV
end Go.Proofs.Ytegcnkcbmbcdkaa.K
