/- Awake, evaluated, the kept answers taken. -/
import Derived.Test.YtgomkbcokgeciaaChainA
open Go Go.Eng
set_option maxRecDepth 1000000
namespace Go.Proofs.Ytgomkbcokgeciaa.K
theorem awakeV : isV (run2 CXA 100000 (.call 11 #[] h00)) true = true := by kernel_rfl
theorem awakeP : PSound Try.prog 11 (constF (.bool true)) := bool_sound2 (eval2_sound okXA 100000) awakeV
end Go.Proofs.Ytgomkbcokgeciaa.K
