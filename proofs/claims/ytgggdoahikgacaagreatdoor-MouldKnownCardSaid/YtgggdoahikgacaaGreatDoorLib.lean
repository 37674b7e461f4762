/- The library's functions by their contracts; the evaluator for this seat. -/
import Derived.Test.YtgggdoahikgacaaGreatDoorToldB
import Derived.Test.YtgggdoahikgacaaGreatDoorEngC
import Derived.Test.YtgggdoahikgacaaGreatDoorShelf
open Go Go.Eng
set_option maxRecDepth 100000
namespace Go.Proofs.YtgggdoahikgacaaGreatDoor.K
theorem ent (f : Nat) (fn : Func) (h : fnT.get f = some fn) : Eng.Enters Tryz.prog f := (fn_ok h).2
theorem s41 : PSound Tryz.prog 41 libItoa := libItoa_ok (ent 41 Tryz.f41 (by kernel_rfl)) fun i hi w => Tryz.strconv_Itoa_small i hi w
theorem s62 : PSound Tryz.prog 62 libJoin := libJoin_ok (ent 62 Tryz.f62 (by kernel_rfl)) fun bk o c xs sep w h1 h2 h3 h4 h5 => Tryz.strings_Join bk o c xs sep w h1 h2 h3 h4 h5
theorem s45 : PSound Tryz.prog 45 libTrim := libTrim_ok (ent 45 Tryz.f45 (by kernel_rfl)) fun s p w h => Tryz.strings_TrimSuffix s p w h
theorem s86 : PSound Tryz.prog 86 libAtoi := libAtoi_ok (ent 86 Tryz.f86 (by kernel_rfl)) fun s n hl h w => Tryz.strconv_Atoi s n hl h w
theorem s84 : PSound Tryz.prog 84 libIndex := libIndex_ok (ent 84 Tryz.f84 (by kernel_rfl)) fun s c w => Tryz.strings_Index_one s c w
theorem s83 : PSound Tryz.prog 83 libCount := libCount_ok (ent 83 Tryz.f83 (by kernel_rfl)) fun s c w => Tryz.strings_Count_one s c w
noncomputable def orcL := orcP 41 libItoa (orcP 62 libJoin (orcP 45 libTrim (orcP 86 libAtoi (orcP 84 libIndex (orcP 83 libCount orcE)))))
theorem okL : (cfg orcL).Ok := orcP_ok (orcP_ok (orcP_ok (orcP_ok (orcP_ok (orcP_ok okE s83) s84) s86) s45) s62) s41
noncomputable def CX : Cfg := { P := env, fn := fun f => fnT.get f, orc := orcL, quiet := fun f => !(Nat.beq f 57 || Nat.beq f 58 || Nat.beq f 43 || Nat.beq f 66 || Nat.beq f 46) }
theorem okX : CX.Ok := ⟨okL.env, okL.fn, okL.orc, okL.mixed⟩
end Go.Proofs.YtgggdoahikgacaaGreatDoor.K
