/- The library's functions by their contracts; the evaluator for this seat. -/
import Derived.Test.YtdpicdnpiihaaaaLeTold
import Derived.Test.YtdpicdnpiihaaaaLeEngC
open Go Go.bK
set_option maxRecDepth 1000000
set_option linter.unusedVariables false
namespace Go.Proofs.Ytdpicdnpiihaaaa.K
noncomputable def aPU := a2T
theorem aFM : (cfg aPU).Ok := okE
noncomputable def loud (f : Nat) : Bool := Nat.beq f 95 || Nat.beq f 94 || Nat.beq f 72
noncomputable def CX : dK := { P := env, fn := fun f => fnT.get f, iJ := aPU, quiet := fun f => !loud f }
theorem okX : CX.Ok := ⟨aFM.env, aFM.fn, aFM.iJ, aFM.mixed⟩
end Go.Proofs.Ytdpicdnpiihaaaa.K
