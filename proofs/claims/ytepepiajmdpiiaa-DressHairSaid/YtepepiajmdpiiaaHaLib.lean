/- The library's functions by their contracts; the evaluator for this seat. -/
import Derived.Test.YtepepiajmdpiiaaHaTold
import Derived.Test.YtepepiajmdpiiaaHaEngC
import Derived.Test.YtepepiajmdpiiaaHaEngD
open Go Go.Eng
set_option maxRecDepth 1000000
set_option linter.unusedVariables false
namespace Go.Proofs.Ytepepiajmdpiiaa.K
noncomputable def orcLib := a2B
theorem okLib : (cfg orcLib).Ok := okE
noncomputable def loud (f : Nat) : Bool := Nat.beq f 95 || Nat.beq f 94 || Nat.beq f 72
noncomputable def CX : dM := { P := env, fn := fun f => fnT.get f, orc := orcLib, quiet := fun f => !loud f }
theorem okX : CX.Ok := ⟨okLib.env, okLib.fn, okLib.orc, okLib.mixed⟩
noncomputable def ndP (f : Nat) : Bool := false
end Go.Proofs.Ytepepiajmdpiiaa.K
