/- Awake, evaluated, the kept answers taken. -/
import Derived.Test.YtekencpjhiijaaaGreatCallB
open Go Go.Eng
set_option maxRecDepth 1000000
namespace Go.Proofs.YtekencpjhiijaaaGreat.K
theorem awakeV : isV (run CXA 100000 (.call 13 #[] h00)) true = true := by kernel_rfl
theorem awakeP : PSound Tryz.prog 13 (constF (.bool true)) := bool_sound okXA awakeV
end Go.Proofs.YtekencpjhiijaaaGreat.K
