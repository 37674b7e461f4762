/- Kept answers, one upon the other. -/
import Derived.Test.YtalggihohgmpiaaB0
import Derived.Test.YtalggihohgmpiaaB1
import Derived.Test.YtalggihohgmpiaaB2
import Derived.Test.YtalggihohgmpiaaB3
open Go Go.Eng
set_option maxRecDepth 1000000
set_option linter.unusedVariables false
namespace Go.Proofs.Ytalggihohgmpiaa.K
theorem obB0 : cbB0.Ok := ⟨okE.env, okE.fn, okE.orc, okE.mixed⟩
theorem cB0 : CallOk Try.prog 5 aB0 8 hB0 (QRet vB0 18 nB0) := callOk_run (eval_sound obB0 100000) eB0
theorem okB0 : (cfg orcB0).Ok := orcL_ok (C := cfg orcE) okE (by kernel_rfl) (by kernel_rfl) (by kernel_rfl) cB0
theorem obB1 : cbB1.Ok := ⟨okB0.env, okB0.fn, okB0.orc, okB0.mixed⟩
theorem cB1 : CallOk Try.prog 7 aB1 19 hB1 (QRet vB1 30 nB1) := callOk_run (eval_sound obB1 100000) eB1
theorem okB1 : (cfg orcB1).Ok := orcL_ok (C := cfg orcB0) okB0 (by kernel_rfl) (by kernel_rfl) (by kernel_rfl) cB1
theorem obB2 : cbB2.Ok := ⟨okB1.env, okB1.fn, okB1.orc, okB1.mixed⟩
theorem cB2 : CallOk Try.prog 8 aB2 31 hB2 (QRet vB2 1000000 nB2) := callOk_run (eval_sound obB2 100000) eB2
theorem pB2 : PSound Try.prog 8 (memoL aB2 hB2 vB2) := memoL_sound (by kernel_rfl) (by kernel_rfl) (by kernel_rfl) cB2
theorem okB2 : (cfg orcB2).Ok := orcP_ok (C := cfg orcB1) okB1 pB2
theorem obB3 : cbB3.Ok := ⟨okB2.env, okB2.fn, okB2.orc, okB2.mixed⟩
theorem cB3 : CallOk Try.prog 9 aB3 32 hB3 (QRet vB3 46 nB3) := callOk_run (eval_sound obB3 100000) eB3
theorem okB3 : (cfg orcB3).Ok := orcL_ok (C := cfg orcB2) okB2 (by kernel_rfl) (by kernel_rfl) (by kernel_rfl) cB3
theorem okXB : CXB.Ok := ⟨okB3.env, okB3.fn, okB3.orc, okB3.mixed⟩
end Go.Proofs.Ytalggihohgmpiaa.K
