/- Awake, evaluated, the kept answers taken. -/
import Derived.Test.YtepepiajmdpiiaaHaChainA
open Go Go.Eng
set_option maxRecDepth 1000000
namespace Go.Proofs.Ytepepiajmdpiiaa.K
theorem aVN : isV (WA CXA 100000 (.call 21 #[] h00)) true = true := by kernel_rfl
theorem aU6 : PSound Try.prog 21 (K7 (.bool true)) := WC (eval2_sound okXA 100000) aVN
end Go.Proofs.Ytepepiajmdpiiaa.K
