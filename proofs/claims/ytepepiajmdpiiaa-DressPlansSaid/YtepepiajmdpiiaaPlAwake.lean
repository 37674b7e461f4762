/- Awake, evaluated, the kept answers taken. -/
import Derived.Test.YtepepiajmdpiiaaPlChainA
open Go Go.Eng
set_option maxRecDepth 1000000
namespace Go.Proofs.Ytepepiajmdpiiaa.K
theorem aVL : isV (WI CXA 100000 (.call 21 #[] h00)) true = true := by kernel_rfl
theorem aU4 : PSound Try.prog 21 (LA (.bool true)) := WK (eval2_sound okXA 100000) aVL
end Go.Proofs.Ytepepiajmdpiiaa.K
