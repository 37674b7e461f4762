/- Kept answers, one upon the other. -/
import Derived.Test.YtepepiajmdpiiaaB0
import Derived.Test.YtepepiajmdpiiaaB1
import Derived.Test.YtepepiajmdpiiaaB2
import Derived.Test.YtepepiajmdpiiaaB3
open Go Go.Eng
set_option maxRecDepth 1000000
set_option linter.unusedVariables false
namespace Go.Proofs.Ytepepiajmdpiiaa.K
theorem obB0 : cbB0.Ok := ⟨okLib.env, okLib.fn, okLib.orc, okLib.mixed⟩
theorem cB0 : CallOk Try.prog 30 aB0 126 hB0 (QRet vB0 1000000 nB0) := callOk_run (eval2_sound obB0 100000) eB0
theorem pB0 : PSound Try.prog 30 (memoL aB0 hB0 vB0) := memoL_sound (by kernel_rfl) (by kernel_rfl) (by kernel_rfl) cB0
theorem okB0 : (cfg orcB0).Ok := orcM_ok (C := cfg orcLib) okLib pB0
theorem obB1 : cbB1.Ok := ⟨okB0.env, okB0.fn, okB0.orc, okB0.mixed⟩
theorem cB1 : CallOk Try.prog 30 aB1 126 hB1 (QRet vB1 1000000 nB1) := callOk_run (eval2_sound obB1 100000) eB1
theorem pB1 : PSound Try.prog 30 (memoL aB1 hB1 vB1) := memoL_sound (by kernel_rfl) (by kernel_rfl) (by kernel_rfl) cB1
theorem okB1 : (cfg orcB1).Ok := orcM_ok (C := cfg orcB0) okB0 pB1
theorem obB2 : cbB2.Ok := ⟨okB1.env, okB1.fn, okB1.orc, okB1.mixed⟩
theorem cB2 : CallOk Try.prog 32 aB2 126 hB2 (QRet vB2 1000000 nB2) := callOk_run (eval2_sound obB2 100000) eB2
theorem pB2 : PSound Try.prog 32 (memoL aB2 hB2 vB2) := memoL_sound (by kernel_rfl) (by kernel_rfl) (by kernel_rfl) cB2
theorem okB2 : (cfg orcB2).Ok := orcM_ok (C := cfg orcB1) okB1 pB2
theorem obB3 : cbB3.Ok := ⟨okB2.env, okB2.fn, okB2.orc, okB2.mixed⟩
theorem cB3 : CallOk Try.prog 34 aB3 126 hB3 (QRet vB3 242 nB3) := callOk_run (eval2_sound obB3 100000) eB3
theorem okB3 : (cfg orcB3).Ok := orcL_ok (C := cfg orcB2) okB2 (by kernel_rfl) (by kernel_rfl) (by kernel_rfl) cB3
theorem okXB : CXB.Ok := ⟨okB3.env, okB3.fn, okB3.orc, okB3.mixed⟩
end Go.Proofs.Ytepepiajmdpiiaa.K
