/- Awake, evaluated, the kept answers taken. -/
import Derived.Test.YtalggihohgmpiaaChainA
open Go Go.Eng
set_option maxRecDepth 1000000
namespace Go.Proofs.Ytalggihohgmpiaa.K
theorem awakeV : isV (run CXA 100000 (.call 13 #[] h00)) true = true := by kernel_rfl
theorem awakeP : PSound Try.prog 13 (constF (.bool true)) := bool_sound okXA awakeV
end Go.Proofs.Ytalggihohgmpiaa.K
