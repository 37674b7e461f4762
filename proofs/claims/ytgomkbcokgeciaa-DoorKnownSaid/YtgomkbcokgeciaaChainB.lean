/- Kept answers, one upon the other. -/
import Derived.Test.YtgomkbcokgeciaaB0
import Derived.Test.YtgomkbcokgeciaaB1
import Derived.Test.YtgomkbcokgeciaaB2
import Derived.Test.YtgomkbcokgeciaaB3
open Go Go.Eng
set_option maxRecDepth 1000000
set_option linter.unusedVariables false
namespace Go.Proofs.Ytgomkbcokgeciaa.K
theorem obB0 : cbB0.Ok := ⟨okLib.env, okLib.fn, okLib.orc, okLib.mixed⟩
theorem cB0 : CallOk Try.prog 7 aB0 9 hB0 (QRet vB0 1000000 nB0) := callOk_run (eval2_sound obB0 100000) eB0
theorem pB0 : PSound Try.prog 7 (memoL aB0 hB0 vB0) := memoL_sound (by kernel_rfl) (by kernel_rfl) (by kernel_rfl) cB0
theorem okB0 : (cfg orcB0).Ok := orcM_ok (C := cfg orcLib) okLib pB0
theorem obB1 : cbB1.Ok := ⟨okB0.env, okB0.fn, okB0.orc, okB0.mixed⟩
theorem cB1 : CallOk Try.prog 48 aB1 21 hB1 (QRet vB1 1000000 nB1) := callOk_run (eval2_sound obB1 100000) eB1
theorem pB1 : PSound Try.prog 48 (memoL aB1 hB1 vB1) := memoL_sound (by kernel_rfl) (by kernel_rfl) (by kernel_rfl) cB1
theorem okB1 : (cfg orcB1).Ok := orcM_ok (C := cfg orcB0) okB0 pB1
theorem obB2 : cbB2.Ok := ⟨okB1.env, okB1.fn, okB1.orc, okB1.mixed⟩
theorem cB2 : CallOk Try.prog 31 aB2 22 hB2 (QRet vB2 1000000 nB2) := callOk_run (eval2_sound obB2 100000) eB2
theorem pB2 : PSound Try.prog 31 (memoL aB2 hB2 vB2) := memoL_sound (by kernel_rfl) (by kernel_rfl) (by kernel_rfl) cB2
theorem okB2 : (cfg orcB2).Ok := orcM_ok (C := cfg orcB1) okB1 pB2
theorem obB3 : cbB3.Ok := ⟨okB2.env, okB2.fn, okB2.orc, okB2.mixed⟩
theorem cB3 : CallOk Try.prog 31 aB3 22 hB3 (QRet vB3 1000000 nB3) := callOk_run (eval2_sound obB3 100000) eB3
theorem pB3 : PSound Try.prog 31 (memoL aB3 hB3 vB3) := memoL_sound (by kernel_rfl) (by kernel_rfl) (by kernel_rfl) cB3
theorem okB3 : (cfg orcB3).Ok := orcM_ok (C := cfg orcB2) okB2 pB3
theorem obB4 : cbB4.Ok := ⟨okB3.env, okB3.fn, okB3.orc, okB3.mixed⟩
theorem cB4 : CallOk Try.prog 31 aB4 22 hB4 (QRet vB4 1000000 nB4) := callOk_run (eval2_sound obB4 100000) eB4
theorem pB4 : PSound Try.prog 31 (memoL aB4 hB4 vB4) := memoL_sound (by kernel_rfl) (by kernel_rfl) (by kernel_rfl) cB4
theorem okB4 : (cfg orcB4).Ok := orcM_ok (C := cfg orcB3) okB3 pB4
theorem obB5 : cbB5.Ok := ⟨okB4.env, okB4.fn, okB4.orc, okB4.mixed⟩
theorem cB5 : CallOk Try.prog 31 aB5 22 hB5 (QRet vB5 1000000 nB5) := callOk_run (eval2_sound obB5 100000) eB5
theorem pB5 : PSound Try.prog 31 (memoL aB5 hB5 vB5) := memoL_sound (by kernel_rfl) (by kernel_rfl) (by kernel_rfl) cB5
theorem okB5 : (cfg orcB5).Ok := orcM_ok (C := cfg orcB4) okB4 pB5
theorem obB6 : cbB6.Ok := ⟨okB5.env, okB5.fn, okB5.orc, okB5.mixed⟩
theorem cB6 : CallOk Try.prog 31 aB6 22 hB6 (QRet vB6 1000000 nB6) := callOk_run (eval2_sound obB6 100000) eB6
theorem pB6 : PSound Try.prog 31 (memoL aB6 hB6 vB6) := memoL_sound (by kernel_rfl) (by kernel_rfl) (by kernel_rfl) cB6
theorem okB6 : (cfg orcB6).Ok := orcM_ok (C := cfg orcB5) okB5 pB6
theorem obB7 : cbB7.Ok := ⟨okB6.env, okB6.fn, okB6.orc, okB6.mixed⟩
theorem cB7 : CallOk Try.prog 31 aB7 22 hB7 (QRet vB7 1000000 nB7) := callOk_run (eval2_sound obB7 100000) eB7
theorem pB7 : PSound Try.prog 31 (memoL aB7 hB7 vB7) := memoL_sound (by kernel_rfl) (by kernel_rfl) (by kernel_rfl) cB7
theorem okB7 : (cfg orcB7).Ok := orcM_ok (C := cfg orcB6) okB6 pB7
theorem okXB : CXB.Ok := ⟨okB7.env, okB7.fn, okB7.orc, okB7.mixed⟩
end Go.Proofs.Ytgomkbcokgeciaa.K
