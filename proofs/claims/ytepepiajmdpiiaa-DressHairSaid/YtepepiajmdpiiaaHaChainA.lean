/- Kept answers, one upon the other. -/
import Derived.Test.YtepepiajmdpiiaaHaA0
import Derived.Test.YtepepiajmdpiiaaHaA1
import Derived.Test.YtepepiajmdpiiaaHaA2
import Derived.Test.YtepepiajmdpiiaaHaA3
import Derived.Test.YtepepiajmdpiiaaHaA4
import Derived.Test.YtepepiajmdpiiaaHaA5
open Go Go.Eng
set_option maxRecDepth 1000000
set_option linter.unusedVariables false
namespace Go.Proofs.Ytepepiajmdpiiaa.K
theorem obA0 : cbA0.Ok := ⟨okLib.env, okLib.fn, okLib.orc, okLib.mixed⟩
theorem cA0 : CallOk Try.prog 26 aA0 144 hA0 (QRet vA0 266 nA0) := callOk_run (eval2_sound obA0 100000) eA0
theorem okA0 : (cfg orcA0).Ok := orcL_ok (C := cfg orcLib) okLib (by kernel_rfl) (by kernel_rfl) (by kernel_rfl) cA0
theorem obA1 : cbA1.Ok := ⟨okA0.env, okA0.fn, okA0.orc, okA0.mixed⟩
theorem cA1 : CallOk Try.prog 26 aA1 266 hA1 (QRet vA1 1000000 nA1) := callOk_run (eval2_sound obA1 100000) eA1
theorem pA1 : PSound Try.prog 26 (memoL aA1 hA1 vA1) := memoL_sound (by kernel_rfl) (by kernel_rfl) (by kernel_rfl) cA1
theorem okA1 : (cfg orcA1).Ok := orcM_ok (C := cfg orcA0) okA0 pA1
theorem obA2 : cbA2.Ok := ⟨okA1.env, okA1.fn, okA1.orc, okA1.mixed⟩
theorem cA2 : CallOk Try.prog 28 aA2 266 hA2 (QRet vA2 453 nA2) := callOk_run (eval2_sound obA2 100000) eA2
theorem okA2 : (cfg orcA2).Ok := orcL_ok (C := cfg orcA1) okA1 (by kernel_rfl) (by kernel_rfl) (by kernel_rfl) cA2
theorem obA3 : cbA3.Ok := ⟨okA2.env, okA2.fn, okA2.orc, okA2.mixed⟩
theorem cA3 : CallOk Try.prog 30 aA3 453 hA3 (QRet vA3 1000000 nA3) := callOk_run (eval2_sound obA3 100000) eA3
theorem pA3 : PSound Try.prog 30 (memoL aA3 hA3 vA3) := memoL_sound (by kernel_rfl) (by kernel_rfl) (by kernel_rfl) cA3
theorem okA3 : (cfg orcA3).Ok := orcM_ok (C := cfg orcA2) okA2 pA3
theorem obA4 : cbA4.Ok := ⟨okA3.env, okA3.fn, okA3.orc, okA3.mixed⟩
theorem cA4 : CallOk Try.prog 32 aA4 453 hA4 (QRet vA4 498 nA4) := callOk_run (eval2_sound obA4 100000) eA4
theorem okA4 : (cfg orcA4).Ok := orcL_ok (C := cfg orcA3) okA3 (by kernel_rfl) (by kernel_rfl) (by kernel_rfl) cA4
theorem obA5 : cbA5.Ok := ⟨okA4.env, okA4.fn, okA4.orc, okA4.mixed⟩
theorem cA5 : CallOk Try.prog 34 aA5 498 hA5 (QRet vA5 614 nA5) := callOk_run (eval2_sound obA5 100000) eA5
theorem okA5 : (cfg orcA5).Ok := orcL_ok (C := cfg orcA4) okA4 (by kernel_rfl) (by kernel_rfl) (by kernel_rfl) cA5
theorem okXA : CXA.Ok := ⟨okA5.env, okA5.fn, okA5.orc, okA5.mixed⟩
end Go.Proofs.Ytepepiajmdpiiaa.K
