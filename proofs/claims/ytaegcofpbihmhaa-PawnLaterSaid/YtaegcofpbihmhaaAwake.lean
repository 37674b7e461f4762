/- Awake, evaluated, the kept answers taken. -/
import Derived.Test.YtaegcofpbihmhaaChainA
open Go Go.Eng
set_option maxRecDepth 1000000
namespace Go.Proofs.Ytaegcofpbihmhaa.K
theorem awakeV : isV (run CXA 100000 (.call 17 #[] h00)) true = true := by kernel_rfl
theorem awakeP : PSound Try.prog 17 (constF (.bool true)) := bool_sound okXA awakeV
end Go.Proofs.Ytaegcofpbihmhaa.K
