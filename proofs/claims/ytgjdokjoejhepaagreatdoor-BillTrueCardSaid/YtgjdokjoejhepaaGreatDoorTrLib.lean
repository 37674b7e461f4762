/- The library's functions by their contracts; the evaluator for this seat. -/
import Derived.Test.YtgjdokjoejhepaaGreatDoorTrTold
import Derived.Test.YtgjdokjoejhepaaGreatDoorTrEngC
import Derived.Test.YtgjdokjoejhepaaGreatDoorTrShelf
import Derived.Test.YtgjdokjoejhepaaGreatDoorTrEngD
open Go Go.bP
set_option maxRecDepth 1000000
set_option linter.unusedVariables false
namespace Go.Proofs.YtgjdokjoejhepaaGreatDoor.K
theorem ent (f : Nat) (fn : Func) (h : fnT.get f = some fn) : bP.Enters Tryz.prog f := (aW5 h).2
theorem bKS : dS Tryz.prog 124 NH := aDZ (ent 124 Tryz.f124 (by kernel_rfl)) fun i hi w => Tryz.strconv_Itoa_small i hi w
theorem bKT : dS Tryz.prog 155 NI := aD0 (ent 155 Tryz.f155 (by kernel_rfl)) fun bk o c xs sep w h1 h2 h3 h4 h5 => Tryz.strings_Join bk o c xs sep w h1 h2 h3 h4 h5
noncomputable def QU := (pI 124 NH (pI 155 NI a7X))
theorem IU : (cfg QU).Ok := (gZ (gZ okE bKT) bKS)
noncomputable def loud (f : Nat) : Bool := Nat.beq f 146 || Nat.beq f 148 || Nat.beq f 108 || Nat.beq f 107 || Nat.beq f 158
noncomputable def CX : cB := { P := env, fn := fun f => fnT.get f, fJ := QU, quiet := fun f => !loud f }
theorem okX : CX.Ok := ⟨IU.env, IU.fn, IU.fJ, IU.mixed⟩
noncomputable def ndP (f : Nat) : Bool := Nat.beq f 23
end Go.Proofs.YtgjdokjoejhepaaGreatDoor.K
