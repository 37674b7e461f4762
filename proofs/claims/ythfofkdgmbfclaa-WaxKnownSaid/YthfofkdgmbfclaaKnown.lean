/- WaxKnown, evaluated, Awake's answer taken. -/
import Derived.Test.YthfofkdgmbfclaaAwake
open Go Go.Eng
set_option maxRecDepth 1000000
namespace Go.Proofs.Ythfofkdgmbfclaa.K
noncomputable def CY : Cfg := { CX with orc := orcP 9 (constF (.bool true)) orcE }
theorem okY : CY.Ok := orcP_ok (C := CX) okX awakeP
theorem knownV : isV (run CY 100000 (.call 3 #[] h00)) true = true := by kernel_rfl
theorem knownP : PSound Try.prog 3 (constF (.bool true)) := bool_sound okY knownV
end Go.Proofs.Ythfofkdgmbfclaa.K
