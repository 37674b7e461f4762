/- Kept answers, one upon the other. -/
import Derived.Test.YtpjflnjlmjnmjaaGreatDoorB0
import Derived.Test.YtpjflnjlmjnmjaaGreatDoorB1
import Derived.Test.YtpjflnjlmjnmjaaGreatDoorB2
import Derived.Test.YtpjflnjlmjnmjaaGreatDoorB3
import Derived.Test.YtpjflnjlmjnmjaaGreatDoorB4
open Go Go.Eng
set_option maxRecDepth 1000000
set_option linter.unusedVariables false
namespace Go.Proofs.YtpjflnjlmjnmjaaGreatDoor.K
theorem obB0 : cbB0.Ok := ⟨okLib.env, okLib.fn, okLib.orc, okLib.mixed⟩
theorem cB0 : CallOk Tryz.prog 66 aB0 12 hB0 (QRet vB0 1000000 nB0) := callOk_run (eval_sound obB0 100000) eB0
theorem pB0 : PSound Tryz.prog 66 (memoL aB0 hB0 vB0) := memoL_sound (by kernel_rfl) (by kernel_rfl) (by kernel_rfl) cB0
theorem okB0 : (cfg orcB0).Ok := orcM_ok (C := cfg orcLib) okLib pB0
theorem obB1 : cbB1.Ok := ⟨okB0.env, okB0.fn, okB0.orc, okB0.mixed⟩
theorem cB1 : CallOk Tryz.prog 66 aB1 15 hB1 (QRet vB1 1000000 nB1) := callOk_run (eval_sound obB1 100000) eB1
theorem pB1 : PSound Tryz.prog 66 (memoL aB1 hB1 vB1) := memoL_sound (by kernel_rfl) (by kernel_rfl) (by kernel_rfl) cB1
theorem okB1 : (cfg orcB1).Ok := orcM_ok (C := cfg orcB0) okB0 pB1
theorem obB2 : cbB2.Ok := ⟨okB1.env, okB1.fn, okB1.orc, okB1.mixed⟩
theorem cB2 : CallOk Tryz.prog 77 aB2 16 hB2 (QRet vB2 47 nB2) := callOk_run (eval_sound obB2 100000) eB2
theorem okB2 : (cfg orcB2).Ok := orcL_ok (C := cfg orcB1) okB1 (by kernel_rfl) (by kernel_rfl) (by kernel_rfl) cB2
theorem obB3 : cbB3.Ok := ⟨okB2.env, okB2.fn, okB2.orc, okB2.mixed⟩
theorem cB3 : CallOk Tryz.prog 66 aB3 57 hB3 (QRet vB3 1000000 nB3) := callOk_run (eval_sound obB3 100000) eB3
theorem pB3 : PSound Tryz.prog 66 (memoL aB3 hB3 vB3) := memoL_sound (by kernel_rfl) (by kernel_rfl) (by kernel_rfl) cB3
theorem okB3 : (cfg orcB3).Ok := orcM_ok (C := cfg orcB2) okB2 pB3
theorem obB4 : cbB4.Ok := ⟨okB3.env, okB3.fn, okB3.orc, okB3.mixed⟩
theorem cB4 : CallOk Tryz.prog 77 aB4 58 hB4 (QRet vB4 107 nB4) := callOk_run (eval_sound obB4 100000) eB4
theorem okB4 : (cfg orcB4).Ok := orcL_ok (C := cfg orcB3) okB3 (by kernel_rfl) (by kernel_rfl) (by kernel_rfl) cB4
theorem okXB : CXB.Ok := ⟨okB4.env, okB4.fn, okB4.orc, okB4.mixed⟩
end Go.Proofs.YtpjflnjlmjnmjaaGreatDoor.K
