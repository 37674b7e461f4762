/- The library's functions by their contracts; the evaluator for this seat. -/
import Derived.Test.YtegcnkcbmbcdkaaTold
import Derived.Test.YtegcnkcbmbcdkaaEngC
open Go Go.Eng
set_option maxRecDepth 1000000
set_option linter.unusedVariables false
namespace Go.Proofs.Ytegcnkcbmbcdkaa.K
noncomputable def orcLib := orcE
theorem okLib : (cfg orcLib).Ok := okE
noncomputable def loud (f : Nat) : Bool := Nat.beq f 71 || Nat.beq f 61 || Nat.beq f 42 || Nat.beq f 31 || Nat.beq f 18 || Nat.beq f 30 || Nat.beq f 17 || Nat.beq f 51
noncomputable def CX : Cfg := { P := env, fn := fun f => fnT.get f, orc := orcLib, quiet := fun f => !loud f }
theorem okX : CX.Ok := ⟨okLib.env, okLib.fn, okLib.orc, okLib.mixed⟩
noncomputable def ndP (f : Nat) : Bool := false
end Go.Proofs.Ytegcnkcbmbcdkaa.K
