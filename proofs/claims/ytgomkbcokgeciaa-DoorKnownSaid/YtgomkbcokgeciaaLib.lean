/- The library's functions by their contracts; the evaluator for this seat. -/
import Derived.Test.YtgomkbcokgeciaaTold
import Derived.Test.YtgomkbcokgeciaaEngD
import Derived.Test.YtgomkbcokgeciaaEngC
open Go Go.Eng
set_option maxRecDepth 1000000
set_option linter.unusedVariables false
namespace Go.Proofs.Ytgomkbcokgeciaa.K
noncomputable def orcLib := orcE
theorem okLib : (cfg orcLib).Ok := okE
noncomputable def loud (f : Nat) : Bool := Nat.beq f 22 || Nat.beq f 42 || Nat.beq f 62 || Nat.beq f 64 || Nat.beq f 70 || Nat.beq f 82 || Nat.beq f 83 || Nat.beq f 84
noncomputable def CX : Cfg := { P := env, fn := fun f => fnT.get f, orc := orcLib, quiet := fun f => !loud f }
theorem okX : CX.Ok := ⟨okLib.env, okLib.fn, okLib.orc, okLib.mixed⟩
noncomputable def ndP (f : Nat) : Bool := Nat.beq f 26 || Nat.beq f 50 || Nat.beq f 69 || Nat.beq f 70 || Nat.beq f 27 || Nat.beq f 32 || Nat.beq f 33
end Go.Proofs.Ytgomkbcokgeciaa.K
