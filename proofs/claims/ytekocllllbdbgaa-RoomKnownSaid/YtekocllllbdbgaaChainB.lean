/- Kept answers, one upon the other. -/
import Derived.Test.YtekocllllbdbgaaB0
import Derived.Test.YtekocllllbdbgaaB1
import Derived.Test.YtekocllllbdbgaaB2
import Derived.Test.YtekocllllbdbgaaB3
import Derived.Test.YtekocllllbdbgaaB4
import Derived.Test.YtekocllllbdbgaaB5
import Derived.Test.YtekocllllbdbgaaB6
import Derived.Test.YtekocllllbdbgaaB7
open Go Go.Eng
set_option maxRecDepth 1000000
set_option linter.unusedVariables false
namespace Go.Proofs.Ytekocllllbdbgaa.K
theorem obB0 : cbB0.Ok := ⟨okE.env, okE.fn, okE.orc, okE.mixed⟩
theorem cB0 : CallOk Try.prog 15 aB0 17 hB0 (QRet vB0 1000000 nB0) := callOk_run (eval_sound obB0 100000) eB0
theorem pB0 : PSound Try.prog 15 (memoL aB0 hB0 vB0) := memoL_sound (by kernel_rfl) (by kernel_rfl) (by kernel_rfl) cB0
theorem okB0 : (cfg orcB0).Ok := orcP_ok (C := cfg orcE) okE pB0
theorem obB1 : cbB1.Ok := ⟨okB0.env, okB0.fn, okB0.orc, okB0.mixed⟩
theorem cB1 : CallOk Try.prog 17 aB1 18 hB1 (QRet vB1 1000000 nB1) := callOk_run (eval_sound obB1 100000) eB1
theorem pB1 : PSound Try.prog 17 (memoL aB1 hB1 vB1) := memoL_sound (by kernel_rfl) (by kernel_rfl) (by kernel_rfl) cB1
theorem okB1 : (cfg orcB1).Ok := orcP_ok (C := cfg orcB0) okB0 pB1
theorem obB2 : cbB2.Ok := ⟨okB1.env, okB1.fn, okB1.orc, okB1.mixed⟩
theorem cB2 : CallOk Try.prog 21 aB2 18 hB2 (QRet vB2 80 nB2) := callOk_runL (runL_sound obB2 (eval_sound obB2 100000) ndP (lpC2_ok obB2 (eval_sound obB2 100000)) 100000) eB2
theorem okB2 : (cfg orcB2).Ok := orcL_ok (C := cfg orcB1) okB1 (by kernel_rfl) (by kernel_rfl) (by kernel_rfl) cB2
theorem obB3 : cbB3.Ok := ⟨okB2.env, okB2.fn, okB2.orc, okB2.mixed⟩
theorem cB3 : CallOk Try.prog 70 aB3 85 hB3 (QRet vB3 1000000 nB3) := callOk_runL (runL_sound obB3 (eval_sound obB3 100000) ndP (lpC2_ok obB3 (eval_sound obB3 100000)) 100000) eB3
theorem pB3 : PSound Try.prog 70 (memoL aB3 hB3 vB3) := memoL_sound (by kernel_rfl) (by kernel_rfl) (by kernel_rfl) cB3
theorem okB3 : (cfg orcB3).Ok := orcP_ok (C := cfg orcB2) okB2 pB3
theorem obB4 : cbB4.Ok := ⟨okB3.env, okB3.fn, okB3.orc, okB3.mixed⟩
theorem cB4 : CallOk Try.prog 22 aB4 83 hB4 (QRet vB4 1000000 nB4) := callOk_run (eval_sound obB4 100000) eB4
theorem pB4 : PSound Try.prog 22 (memoL aB4 hB4 vB4) := memoL_sound (by kernel_rfl) (by kernel_rfl) (by kernel_rfl) cB4
theorem okB4 : (cfg orcB4).Ok := orcP_ok (C := cfg orcB3) okB3 pB4
theorem obB5 : cbB5.Ok := ⟨okB4.env, okB4.fn, okB4.orc, okB4.mixed⟩
theorem cB5 : CallOk Try.prog 24 aB5 83 hB5 (QRet vB5 1000000 nB5) := callOk_run (eval_sound obB5 100000) eB5
theorem pB5 : PSound Try.prog 24 (memoL aB5 hB5 vB5) := memoL_sound (by kernel_rfl) (by kernel_rfl) (by kernel_rfl) cB5
theorem okB5 : (cfg orcB5).Ok := orcP_ok (C := cfg orcB4) okB4 pB5
theorem obB6 : cbB6.Ok := ⟨okB5.env, okB5.fn, okB5.orc, okB5.mixed⟩
theorem cB6 : CallOk Try.prog 25 aB6 83 hB6 (QRet vB6 1000000 nB6) := callOk_run (eval_sound obB6 100000) eB6
theorem pB6 : PSound Try.prog 25 (memoL aB6 hB6 vB6) := memoL_sound (by kernel_rfl) (by kernel_rfl) (by kernel_rfl) cB6
theorem okB6 : (cfg orcB6).Ok := orcP_ok (C := cfg orcB5) okB5 pB6
theorem obB7 : cbB7.Ok := ⟨okB6.env, okB6.fn, okB6.orc, okB6.mixed⟩
theorem cB7 : CallOk Try.prog 26 aB7 85 hB7 (QRet vB7 1000000 nB7) := callOk_runL (runL_sound obB7 (eval_sound obB7 100000) ndP (lpC2_ok obB7 (eval_sound obB7 100000)) 100000) eB7
theorem pB7 : PSound Try.prog 26 (memoL aB7 hB7 vB7) := memoL_sound (by kernel_rfl) (by kernel_rfl) (by kernel_rfl) cB7
theorem okB7 : (cfg orcB7).Ok := orcP_ok (C := cfg orcB6) okB6 pB7
theorem okXB : CXB.Ok := ⟨okB7.env, okB7.fn, okB7.orc, okB7.mixed⟩
end Go.Proofs.Ytekocllllbdbgaa.K
