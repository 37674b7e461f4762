/- The library's functions by their contracts; the evaluator for this seat. -/
import Derived.Test.YtgomkbcokgeciaaGreatScTold
import Derived.Test.YtgomkbcokgeciaaGreatScEngD
import Derived.Test.YtgomkbcokgeciaaGreatScEngC
open Go Go.bR
set_option maxRecDepth 1000000
set_option linter.unusedVariables false
namespace Go.Proofs.YtgomkbcokgeciaaGreat.K
noncomputable def RJ := bHJ
theorem I6 : (cfg RJ).Ok := okE
noncomputable def loud (f : Nat) : Bool := Nat.beq f 74 || Nat.beq f 113 || Nat.beq f 138 || Nat.beq f 140 || Nat.beq f 144 || Nat.beq f 146 || Nat.beq f 147 || Nat.beq f 148
noncomputable def CX : bP := { P := env, fn := fun f => fnT.get f, gB := RJ, quiet := fun f => !loud f }
theorem okX : CX.Ok := ⟨I6.env, I6.fn, I6.gB, I6.mixed⟩
noncomputable def ndP (f : Nat) : Bool := Nat.beq f 82 || Nat.beq f 120 || Nat.beq f 143 || Nat.beq f 144 || Nat.beq f 83 || Nat.beq f 25 || Nat.beq f 27
end Go.Proofs.YtgomkbcokgeciaaGreat.K
