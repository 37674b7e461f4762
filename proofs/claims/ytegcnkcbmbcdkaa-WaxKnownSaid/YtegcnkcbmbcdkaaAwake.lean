/- Awake, evaluated, the kept answers taken. -/
import Derived.Test.YtegcnkcbmbcdkaaChainA
open Go Go.Eng
set_option maxRecDepth 1000000
namespace Go.Proofs.Ytegcnkcbmbcdkaa.K
theorem awakeV : isV (run CXA 100000 (.call 9 #[] h00)) true = true := by kernel_rfl
theorem awakeP : PSound Try.prog 9 (constF (.bool true)) := bool_sound okXA awakeV
end Go.Proofs.Ytegcnkcbmbcdkaa.K
