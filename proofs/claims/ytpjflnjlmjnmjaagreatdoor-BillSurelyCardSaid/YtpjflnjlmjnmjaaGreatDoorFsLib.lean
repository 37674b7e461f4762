/- The library's functions by their contracts; the evaluator for this seat. -/
import Derived.Test.YtpjflnjlmjnmjaaGreatDoorFsTold
import Derived.Test.YtpjflnjlmjnmjaaGreatDoorFsEngC
import Derived.Test.YtpjflnjlmjnmjaaGreatDoorFsShelf
import Derived.Test.YtpjflnjlmjnmjaaGreatDoorFsEngD
open Go Go.Eng
set_option maxRecDepth 1000000
namespace Go.Proofs.YtpjflnjlmjnmjaaGreatDoor.K
theorem ent (f : Nat) (fn : Func) (h : fnT.get f = some fn) : Eng.Enters Tryz.prog f := (fn_ok h).2
theorem s124 : PSound Tryz.prog 124 libItoa := libItoa_ok (ent 124 Tryz.f124 (by kernel_rfl)) fun i hi w => Tryz.strconv_Itoa_small i hi w
theorem s155 : PSound Tryz.prog 155 libJoin := libJoin_ok (ent 155 Tryz.f155 (by kernel_rfl)) fun bk o c xs sep w h1 h2 h3 h4 h5 => Tryz.strings_Join bk o c xs sep w h1 h2 h3 h4 h5
noncomputable def orcLib := orcP 124 libItoa (orcP 155 libJoin orcE)
theorem okLib : (cfg orcLib).Ok := orcP_ok (orcP_ok okE s155) s124
noncomputable def loud (f : Nat) : Bool := Nat.beq f 107 || Nat.beq f 108 || Nat.beq f 146 || Nat.beq f 158
noncomputable def CX : Cfg := { P := env, fn := fun f => fnT.get f, orc := orcLib, quiet := fun f => !loud f }
theorem okX : CX.Ok := ⟨okLib.env, okLib.fn, okLib.orc, okLib.mixed⟩
noncomputable def ndP (f : Nat) : Bool := Nat.beq f 23
end Go.Proofs.YtpjflnjlmjnmjaaGreatDoor.K
