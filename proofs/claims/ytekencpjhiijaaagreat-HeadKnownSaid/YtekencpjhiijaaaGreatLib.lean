/- The evaluator for this seat. -/
import Derived.Test.YtekencpjhiijaaaGreatTold
import Derived.Test.YtekencpjhiijaaaGreatSwap
import Derived.Test.YtekencpjhiijaaaGreatEngD
import Derived.Test.YtekencpjhiijaaaGreatEngC
open Go Go.Eng
set_option maxRecDepth 1000000
namespace Go.Proofs.YtekencpjhiijaaaGreat.K
theorem s54 : PSound Tryz.prog 54 exF := exF_ok (fn_ok (f := 54) (fn := Tryz.f54) (by kernel_rfl)).2
noncomputable def orcL := orcP 54 exF orcE
theorem okL : (cfg orcL).Ok := orcP_ok okE s54
noncomputable def loud (f : Nat) : Bool := Nat.beq f 53 || Nat.beq f 51 || Nat.beq f 116 || Nat.beq f 74 || Nat.beq f 82 || Nat.beq f 58 || Nat.beq f 97 || Nat.beq f 70 || Nat.beq f 43 || Nat.beq f 44 || Nat.beq f 26 || Nat.beq f 47 || Nat.beq f 73 || Nat.beq f 106 || Nat.beq f 48 || Nat.beq f 57 || Nat.beq f 85
noncomputable def CX : Cfg := { P := env, fn := fun f => fnT.get f, orc := orcL, quiet := fun f => !loud f }
theorem okX : CX.Ok := ⟨okL.env, okL.fn, okL.orc, okL.mixed⟩
noncomputable def nd (f : Nat) : Bool := Nat.beq f 57 || Nat.beq f 85 || Nat.beq f 58
noncomputable def CU1 : Cfg := { CX with orc := orcU CX (run CX 100000) nd 100000 19 CX.orc }
theorem okU1 : CU1.Ok := orcU_ok okX (eval_sound okX 100000) nd 100000 19 rfl okX
noncomputable def CU2 : Cfg := { CU1 with orc := orcU CX (run CX 100000) nd 100000 24 CU1.orc }
theorem okU2 : CU2.Ok := orcU_ok okX (eval_sound okX 100000) nd 100000 24 rfl okU1
noncomputable def CU : Cfg := { CU2 with orc := orcU CX (run CX 100000) nd 100000 30 CU2.orc }
theorem okU : CU.Ok := orcU_ok okX (eval_sound okX 100000) nd 100000 30 rfl okU2
noncomputable def orcUU := CU.orc
theorem okUU : (cfg orcUU).Ok := ⟨okU.env, okU.fn, okU.orc, okU.mixed⟩
end Go.Proofs.YtekencpjhiijaaaGreat.K
