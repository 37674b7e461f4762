/- Awake, evaluated. -/
import Derived.Test.YthfofkdgmbfclaaTold
import Derived.Test.YthfofkdgmbfclaaEngC
open Go Go.Eng
set_option maxRecDepth 1000000
namespace Go.Proofs.Ythfofkdgmbfclaa.K
noncomputable def CX : Cfg := { P := env, fn := fun f => fnT.get f, orc := orcE, quiet := fun f => !(Nat.beq f 41 || Nat.beq f 56 || Nat.beq f 31 || Nat.beq f 18 || Nat.beq f 30 || Nat.beq f 17 || Nat.beq f 50) }
theorem okX : CX.Ok := ⟨okE.env, okE.fn, okE.orc, okE.mixed⟩
theorem awakeV : isV (run CX 100000 (.call 9 #[] h00)) true = true := by kernel_rfl
theorem awakeP : PSound Try.prog 9 (constF (.bool true)) := bool_sound okX awakeV
end Go.Proofs.Ythfofkdgmbfclaa.K
