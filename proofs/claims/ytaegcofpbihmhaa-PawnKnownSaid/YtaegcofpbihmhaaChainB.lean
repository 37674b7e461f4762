/- Kept answers, one upon the other. -/
import Derived.Test.YtaegcofpbihmhaaB0
import Derived.Test.YtaegcofpbihmhaaB1
import Derived.Test.YtaegcofpbihmhaaB2
import Derived.Test.YtaegcofpbihmhaaB3
import Derived.Test.YtaegcofpbihmhaaB4
import Derived.Test.YtaegcofpbihmhaaB5
import Derived.Test.YtaegcofpbihmhaaB6
open Go Go.Eng
set_option maxRecDepth 1000000
set_option linter.unusedVariables false
namespace Go.Proofs.Ytaegcofpbihmhaa.K
theorem obB0 : cbB0.Ok := ⟨okE.env, okE.fn, okE.orc, okE.mixed⟩
theorem cB0 : CallOk Try.prog 14 aB0 6 hB0 (QRet vB0 1156 nB0) := callOk_run (eval_sound obB0 100000) eB0
theorem okB0 : (cfg orcB0).Ok := orcL_ok (C := cfg orcE) okE (by kernel_rfl) (by kernel_rfl) (by kernel_rfl) cB0
theorem obB1 : cbB1.Ok := ⟨okB0.env, okB0.fn, okB0.orc, okB0.mixed⟩
theorem cB1 : CallOk Try.prog 14 aB1 1156 hB1 (QRet vB1 2291 nB1) := callOk_run (eval_sound obB1 100000) eB1
theorem okB1 : (cfg orcB1).Ok := orcL_ok (C := cfg orcB0) okB0 (by kernel_rfl) (by kernel_rfl) (by kernel_rfl) cB1
theorem obB2 : cbB2.Ok := ⟨okB1.env, okB1.fn, okB1.orc, okB1.mixed⟩
theorem cB2 : CallOk Try.prog 19 aB2 2292 hB2 (QRet vB2 1000000 nB2) := callOk_run (eval_sound obB2 100000) eB2
theorem pB2 : PSound Try.prog 19 (memoL aB2 hB2 vB2) := memoL_sound (by kernel_rfl) (by kernel_rfl) (by kernel_rfl) cB2
theorem okB2 : (cfg orcB2).Ok := orcP_ok (C := cfg orcB1) okB1 pB2
theorem obB3 : cbB3.Ok := ⟨okB2.env, okB2.fn, okB2.orc, okB2.mixed⟩
theorem cB3 : CallOk Try.prog 19 aB3 2293 hB3 (QRet vB3 1000000 nB3) := callOk_run (eval_sound obB3 100000) eB3
theorem pB3 : PSound Try.prog 19 (memoL aB3 hB3 vB3) := memoL_sound (by kernel_rfl) (by kernel_rfl) (by kernel_rfl) cB3
theorem okB3 : (cfg orcB3).Ok := orcP_ok (C := cfg orcB2) okB2 pB3
theorem obB4 : cbB4.Ok := ⟨okB3.env, okB3.fn, okB3.orc, okB3.mixed⟩
theorem cB4 : CallOk Try.prog 57 aB4 2304 hB4 (QRet vB4 5716 nB4) := callOk_run (eval_sound obB4 100000) eB4
theorem okB4 : (cfg orcB4).Ok := orcL_ok (C := cfg orcB3) okB3 (by kernel_rfl) (by kernel_rfl) (by kernel_rfl) cB4
theorem obB5 : cbB5.Ok := ⟨okB4.env, okB4.fn, okB4.orc, okB4.mixed⟩
theorem cB5 : CallOk Try.prog 56 aB5 5716 hB5 (QRet vB5 1000000 nB5) := callOk_runL (runL_sound obB5 (eval_sound obB5 100000) ndP (lpC_ok obB5 (eval_sound obB5 100000)) 100000) eB5
theorem pB5 : PSound Try.prog 56 (memoL aB5 hB5 vB5) := memoL_sound (by kernel_rfl) (by kernel_rfl) (by kernel_rfl) cB5
theorem okB5 : (cfg orcB5).Ok := orcP_ok (C := cfg orcB4) okB4 pB5
theorem obB6 : cbB6.Ok := ⟨okB5.env, okB5.fn, okB5.orc, okB5.mixed⟩
theorem cB6 : CallOk Try.prog 21 aB6 2298 hB6 (QRet vB6 9109 nB6) := callOk_runL (runL_sound obB6 (eval_sound obB6 100000) ndP (lpC_ok obB6 (eval_sound obB6 100000)) 100000) eB6
theorem okB6 : (cfg orcB6).Ok := orcL_ok (C := cfg orcB5) okB5 (by kernel_rfl) (by kernel_rfl) (by kernel_rfl) cB6
theorem okXB : CXB.Ok := ⟨okB6.env, okB6.fn, okB6.orc, okB6.mixed⟩
end Go.Proofs.Ytaegcofpbihmhaa.K
