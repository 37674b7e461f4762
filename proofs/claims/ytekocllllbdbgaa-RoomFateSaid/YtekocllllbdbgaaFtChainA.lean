/- Kept answers, one upon the other. -/
import Derived.Test.YtekocllllbdbgaaFtA0
import Derived.Test.YtekocllllbdbgaaFtA1
import Derived.Test.YtekocllllbdbgaaFtA2
import Derived.Test.YtekocllllbdbgaaFtA3
import Derived.Test.YtekocllllbdbgaaFtA4
import Derived.Test.YtekocllllbdbgaaFtA5
import Derived.Test.YtekocllllbdbgaaFtA6
import Derived.Test.YtekocllllbdbgaaFtA7
import Derived.Test.YtekocllllbdbgaaFtA8
import Derived.Test.YtekocllllbdbgaaFtA9
import Derived.Test.YtekocllllbdbgaaFtA10
import Derived.Test.YtekocllllbdbgaaFtA11
import Derived.Test.YtekocllllbdbgaaFtA12
open Go Go.Eng
set_option maxRecDepth 1000000
set_option linter.unusedVariables false
namespace Go.Proofs.Ytekocllllbdbgaa.K
theorem obA0 : cbA0.Ok := ⟨okE.env, okE.fn, okE.orc, okE.mixed⟩
theorem cA0 : CallOk Try.prog 15 aA0 17 hA0 (QRet vA0 1000000 nA0) := callOk_run (eval_sound obA0 100000) eA0
theorem pA0 : PSound Try.prog 15 (memoL aA0 hA0 vA0) := memoL_sound (by kernel_rfl) (by kernel_rfl) (by kernel_rfl) cA0
theorem okA0 : (cfg orcA0).Ok := orcP_ok (C := cfg orcE) okE pA0
theorem obA1 : cbA1.Ok := ⟨okA0.env, okA0.fn, okA0.orc, okA0.mixed⟩
theorem cA1 : CallOk Try.prog 17 aA1 18 hA1 (QRet vA1 1000000 nA1) := callOk_run (eval_sound obA1 100000) eA1
theorem pA1 : PSound Try.prog 17 (memoL aA1 hA1 vA1) := memoL_sound (by kernel_rfl) (by kernel_rfl) (by kernel_rfl) cA1
theorem okA1 : (cfg orcA1).Ok := orcP_ok (C := cfg orcA0) okA0 pA1
theorem obA2 : cbA2.Ok := ⟨okA1.env, okA1.fn, okA1.orc, okA1.mixed⟩
theorem cA2 : CallOk Try.prog 17 aA2 18 hA2 (QRet vA2 1000000 nA2) := callOk_run (eval_sound obA2 100000) eA2
theorem pA2 : PSound Try.prog 17 (memoL aA2 hA2 vA2) := memoL_sound (by kernel_rfl) (by kernel_rfl) (by kernel_rfl) cA2
theorem okA2 : (cfg orcA2).Ok := orcP_ok (C := cfg orcA1) okA1 pA2
theorem obA3 : cbA3.Ok := ⟨okA2.env, okA2.fn, okA2.orc, okA2.mixed⟩
theorem cA3 : CallOk Try.prog 21 aA3 18 hA3 (QRet vA3 72 nA3) := callOk_runL (runL_sound obA3 (eval_sound obA3 100000) ndP (lpC2_ok obA3 (eval_sound obA3 100000)) 100000) eA3
theorem okA3 : (cfg orcA3).Ok := orcL_ok (C := cfg orcA2) okA2 (by kernel_rfl) (by kernel_rfl) (by kernel_rfl) cA3
theorem obA4 : cbA4.Ok := ⟨okA3.env, okA3.fn, okA3.orc, okA3.mixed⟩
theorem cA4 : CallOk Try.prog 70 aA4 77 hA4 (QRet vA4 1000000 nA4) := callOk_runL (runL_sound obA4 (eval_sound obA4 100000) ndP (lpC2_ok obA4 (eval_sound obA4 100000)) 100000) eA4
theorem pA4 : PSound Try.prog 70 (memoL aA4 hA4 vA4) := memoL_sound (by kernel_rfl) (by kernel_rfl) (by kernel_rfl) cA4
theorem okA4 : (cfg orcA4).Ok := orcP_ok (C := cfg orcA3) okA3 pA4
theorem obA5 : cbA5.Ok := ⟨okA4.env, okA4.fn, okA4.orc, okA4.mixed⟩
theorem cA5 : CallOk Try.prog 22 aA5 75 hA5 (QRet vA5 1000000 nA5) := callOk_run (eval_sound obA5 100000) eA5
theorem pA5 : PSound Try.prog 22 (memoL aA5 hA5 vA5) := memoL_sound (by kernel_rfl) (by kernel_rfl) (by kernel_rfl) cA5
theorem okA5 : (cfg orcA5).Ok := orcP_ok (C := cfg orcA4) okA4 pA5
theorem obA6 : cbA6.Ok := ⟨okA5.env, okA5.fn, okA5.orc, okA5.mixed⟩
theorem cA6 : CallOk Try.prog 83 aA6 79 hA6 (QRet vA6 87 nA6) := callOk_runL (runL_sound obA6 (eval_sound obA6 100000) ndP (lpC2_ok obA6 (eval_sound obA6 100000)) 100000) eA6
theorem okA6 : (cfg orcA6).Ok := orcL_ok (C := cfg orcA5) okA5 (by kernel_rfl) (by kernel_rfl) (by kernel_rfl) cA6
theorem obA7 : cbA7.Ok := ⟨okA6.env, okA6.fn, okA6.orc, okA6.mixed⟩
theorem cA7 : CallOk Try.prog 42 aA7 77 hA7 (QRet vA7 91 nA7) := callOk_run (eval_sound obA7 100000) eA7
theorem okA7 : (cfg orcA7).Ok := orcL_ok (C := cfg orcA6) okA6 (by kernel_rfl) (by kernel_rfl) (by kernel_rfl) cA7
theorem obA8 : cbA8.Ok := ⟨okA7.env, okA7.fn, okA7.orc, okA7.mixed⟩
theorem cA8 : CallOk Try.prog 24 aA8 99 hA8 (QRet vA8 105 nA8) := callOk_run (eval_sound obA8 100000) eA8
theorem okA8 : (cfg orcA8).Ok := orcL_ok (C := cfg orcA7) okA7 (by kernel_rfl) (by kernel_rfl) (by kernel_rfl) cA8
theorem obA9 : cbA9.Ok := ⟨okA8.env, okA8.fn, okA8.orc, okA8.mixed⟩
theorem cA9 : CallOk Try.prog 29 aA9 105 hA9 (QRet vA9 160 nA9) := callOk_run (eval_sound obA9 100000) eA9
theorem okA9 : (cfg orcA9).Ok := orcL_ok (C := cfg orcA8) okA8 (by kernel_rfl) (by kernel_rfl) (by kernel_rfl) cA9
theorem obA10 : cbA10.Ok := ⟨okA9.env, okA9.fn, okA9.orc, okA9.mixed⟩
theorem cA10 : CallOk Try.prog 29 aA10 160 hA10 (QRet vA10 1000000 nA10) := callOk_run (eval_sound obA10 100000) eA10
theorem pA10 : PSound Try.prog 29 (memoL aA10 hA10 vA10) := memoL_sound (by kernel_rfl) (by kernel_rfl) (by kernel_rfl) cA10
theorem okA10 : (cfg orcA10).Ok := orcP_ok (C := cfg orcA9) okA9 pA10
theorem obA11 : cbA11.Ok := ⟨okA10.env, okA10.fn, okA10.orc, okA10.mixed⟩
theorem cA11 : CallOk Try.prog 25 aA11 160 hA11 (QRet vA11 1000000 nA11) := callOk_run (eval_sound obA11 100000) eA11
theorem pA11 : PSound Try.prog 25 (memoL aA11 hA11 vA11) := memoL_sound (by kernel_rfl) (by kernel_rfl) (by kernel_rfl) cA11
theorem okA11 : (cfg orcA11).Ok := orcP_ok (C := cfg orcA10) okA10 pA11
theorem obA12 : cbA12.Ok := ⟨okA11.env, okA11.fn, okA11.orc, okA11.mixed⟩
theorem cA12 : CallOk Try.prog 26 aA12 160 hA12 (QRet vA12 1000000 nA12) := callOk_runL (runL_sound obA12 (eval_sound obA12 100000) ndP (lpC2_ok obA12 (eval_sound obA12 100000)) 100000) eA12
theorem pA12 : PSound Try.prog 26 (memoL aA12 hA12 vA12) := memoL_sound (by kernel_rfl) (by kernel_rfl) (by kernel_rfl) cA12
theorem okA12 : (cfg orcA12).Ok := orcP_ok (C := cfg orcA11) okA11 pA12
theorem okXA : CXA.Ok := ⟨okA12.env, okA12.fn, okA12.orc, okA12.mixed⟩
end Go.Proofs.Ytekocllllbdbgaa.K
