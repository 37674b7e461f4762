/- The evaluator for this seat. -/
import Derived.Test.YtalggihohgmpiaaTold
import Derived.Test.YtalggihohgmpiaaEngD
import Derived.Test.YtalggihohgmpiaaEngC
open Go Go.Eng
set_option maxRecDepth 1000000
namespace Go.Proofs.Ytalggihohgmpiaa.K
noncomputable def loud (f : Nat) : Bool := Nat.beq f 47 || Nat.beq f 48 || Nat.beq f 68
noncomputable def CX : Cfg := { P := env, fn := fun f => fnT.get f, orc := orcE, quiet := fun f => !loud f }
theorem okX : CX.Ok := ⟨okE.env, okE.fn, okE.orc, okE.mixed⟩
noncomputable def ndP (f : Nat) : Bool := Nat.beq f 22 || Nat.beq f 41 || Nat.beq f 26
end Go.Proofs.Ytalggihohgmpiaa.K
