/- The evaluator for this seat. -/
import Derived.Test.YtekocllllbdbgaaFtTold
import Derived.Test.YtekocllllbdbgaaFtEngD
import Derived.Test.YtekocllllbdbgaaFtEngC
open Go Go.Eng
set_option maxRecDepth 1000000
namespace Go.Proofs.Ytekocllllbdbgaa.K
noncomputable def loud (f : Nat) : Bool := Nat.beq f 103 || Nat.beq f 104 || Nat.beq f 110
noncomputable def CX : Cfg := { P := env, fn := fun f => fnT.get f, orc := orcE, quiet := fun f => !loud f }
theorem okX : CX.Ok := ⟨okE.env, okE.fn, okE.orc, okE.mixed⟩
noncomputable def ndP (f : Nat) : Bool := Nat.beq f 21 || Nat.beq f 83 || Nat.beq f 70 || Nat.beq f 26
end Go.Proofs.Ytekocllllbdbgaa.K
