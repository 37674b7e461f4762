/- HeadKnown, evaluated, the kept answers and Awake's taken. -/
import Derived.Test.YtekencpjhiijaaaGreatAwake
import Derived.Test.YtekencpjhiijaaaGreatCallK
open Go Go.Eng
set_option maxRecDepth 1000000
namespace Go.Proofs.YtekencpjhiijaaaGreat.K
noncomputable def CY : Cfg := { CXK with orc := orcP 13 (constF (.bool true)) CXK.orc }
theorem okY : CY.Ok := orcP_ok (C := CXK) okXK awakeP
theorem knownV : isV (run CY 100000 (.call 3 #[] h00)) true = true := by kernel_rfl
theorem knownP : PSound Tryz.prog 3 (constF (.bool true)) := bool_sound okY knownV
end Go.Proofs.YtekencpjhiijaaaGreat.K
