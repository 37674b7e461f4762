/- The library's functions by their contracts; the evaluator for this seat. -/
import Derived.Test.YtdpicdnpiihaaaaBoTold
import Derived.Test.YtdpicdnpiihaaaaBoEngC
open Go Go.bK
set_option maxRecDepth 1000000
set_option linter.unusedVariables false
namespace Go.Proofs.Ytdpicdnpiihaaaa.K
noncomputable def aNV := a0N
theorem aER : (cfg aNV).Ok := okE
noncomputable def loud (f : Nat) : Bool := Nat.beq f 95 || Nat.beq f 94 || Nat.beq f 72
noncomputable def CX : dO := { P := env, fn := fun f => fnT.get f, iJ := aNV, quiet := fun f => !loud f }
theorem okX : CX.Ok := ⟨aER.env, aER.fn, aER.iJ, aER.mixed⟩
end Go.Proofs.Ytdpicdnpiihaaaa.K
