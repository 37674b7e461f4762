/- The evaluator for this seat. -/
import Derived.Test.YtaegcofpbihmhaaTold
import Derived.Test.YtaegcofpbihmhaaEngD
import Derived.Test.YtaegcofpbihmhaaEngC
open Go Go.Eng
set_option maxRecDepth 1000000
namespace Go.Proofs.Ytaegcofpbihmhaa.K
noncomputable def loud (f : Nat) : Bool := Nat.beq f 81 || Nat.beq f 86 || Nat.beq f 87 || Nat.beq f 89 || Nat.beq f 49
noncomputable def CX : Cfg := { P := env, fn := fun f => fnT.get f, orc := orcE, quiet := fun f => !loud f }
theorem okX : CX.Ok := ⟨okE.env, okE.fn, okE.orc, okE.mixed⟩
noncomputable def ndP (f : Nat) : Bool := Nat.beq f 21 || Nat.beq f 56 || Nat.beq f 82 || Nat.beq f 81 || Nat.beq f 27
end Go.Proofs.Ytaegcofpbihmhaa.K
