/- Awake, evaluated, the kept answers taken. -/
import Derived.Test.YtepepiajmdpiiaaCoChainA
open Go Go.Eng
set_option maxRecDepth 1000000
namespace Go.Proofs.Ytepepiajmdpiiaa.K
theorem awakeV : isV (run2 CXA 100000 (.call 21 #[] h00)) true = true := by kernel_rfl
theorem awakeP : PSound Try.prog 21 (constF (.bool true)) := bool_sound2 (eval2_sound okXA 100000) awakeV
end Go.Proofs.Ytepepiajmdpiiaa.K
