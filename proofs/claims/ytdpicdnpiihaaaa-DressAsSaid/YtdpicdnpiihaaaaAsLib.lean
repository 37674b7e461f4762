/- The library's functions by their contracts; the evaluator for this seat. -/
import Derived.Test.YtdpicdnpiihaaaaAsTold
import Derived.Test.YtdpicdnpiihaaaaAsEngC
open Go Go.bG
set_option maxRecDepth 1000000
set_option linter.unusedVariables false
namespace Go.Proofs.Ytdpicdnpiihaaaa.K
noncomputable def aNG := aZ3
theorem aD3 : (cfg aNG).Ok := okE
noncomputable def loud (f : Nat) : Bool := Nat.beq f 95 || Nat.beq f 94 || Nat.beq f 72
noncomputable def CX : dL := { P := env, fn := fun f => fnT.get f, iG := aNG, quiet := fun f => !loud f }
theorem okX : CX.Ok := ⟨aD3.env, aD3.fn, aD3.iG, aD3.mixed⟩
end Go.Proofs.Ytdpicdnpiihaaaa.K
