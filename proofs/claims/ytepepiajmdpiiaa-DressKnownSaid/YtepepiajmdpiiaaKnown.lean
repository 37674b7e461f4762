/- DressKnown, evaluated, the kept answers and Awake's taken. -/
import Derived.Test.YtepepiajmdpiiaaAwake
import Derived.Test.YtepepiajmdpiiaaChainB
open Go Go.Eng
set_option maxRecDepth 1000000
namespace Go.Proofs.Ytepepiajmdpiiaa.K
noncomputable def CY : Cfg := { CXB with orc := orcP 21 (constF (.bool true)) CXB.orc }
theorem okY : CY.Ok := orcP_ok (C := CXB) okXB awakeP
theorem knownV : isV (run2 CY 100000 (.call 7 #[] h00)) true = true := by kernel_rfl
theorem knownP : PSound Try.prog 7 (constF (.bool true)) := bool_sound2 (eval2_sound okY 100000) knownV
end Go.Proofs.Ytepepiajmdpiiaa.K
