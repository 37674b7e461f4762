/- The library's functions by their contracts; the evaluator for this seat. -/
import Derived.Test.YtdpicdnpiihaaaaOrTold
import Derived.Test.YtdpicdnpiihaaaaOrEngC
open Go Go.bI
set_option maxRecDepth 1000000
set_option linter.unusedVariables false
namespace Go.Proofs.Ytdpicdnpiihaaaa.K
noncomputable def aOX := a1U
theorem aFJ : (cfg aOX).Ok := okE
noncomputable def loud (f : Nat) : Bool := Nat.beq f 95 || Nat.beq f 94 || Nat.beq f 72
noncomputable def CX : dP := { P := env, fn := fun f => fnT.get f, iT := aOX, quiet := fun f => !loud f }
theorem okX : CX.Ok := ⟨aFJ.env, aFJ.fn, aFJ.iT, aFJ.mixed⟩
end Go.Proofs.Ytdpicdnpiihaaaa.K
