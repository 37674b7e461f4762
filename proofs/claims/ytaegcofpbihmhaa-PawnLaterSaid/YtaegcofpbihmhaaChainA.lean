/- Kept answers, one upon the other. -/
import Derived.Test.YtaegcofpbihmhaaA0
import Derived.Test.YtaegcofpbihmhaaA1
import Derived.Test.YtaegcofpbihmhaaA2
import Derived.Test.YtaegcofpbihmhaaA3
import Derived.Test.YtaegcofpbihmhaaA4
import Derived.Test.YtaegcofpbihmhaaA5
import Derived.Test.YtaegcofpbihmhaaA6
import Derived.Test.YtaegcofpbihmhaaA7
import Derived.Test.YtaegcofpbihmhaaA8
import Derived.Test.YtaegcofpbihmhaaA9
import Derived.Test.YtaegcofpbihmhaaA10
import Derived.Test.YtaegcofpbihmhaaA11
import Derived.Test.YtaegcofpbihmhaaA12
import Derived.Test.YtaegcofpbihmhaaA13
import Derived.Test.YtaegcofpbihmhaaA14
import Derived.Test.YtaegcofpbihmhaaA15
import Derived.Test.YtaegcofpbihmhaaA16
import Derived.Test.YtaegcofpbihmhaaA17
import Derived.Test.YtaegcofpbihmhaaA18
import Derived.Test.YtaegcofpbihmhaaA19
import Derived.Test.YtaegcofpbihmhaaA20
import Derived.Test.YtaegcofpbihmhaaA21
import Derived.Test.YtaegcofpbihmhaaA22
import Derived.Test.YtaegcofpbihmhaaA23
open Go Go.Eng
set_option maxRecDepth 1000000
set_option linter.unusedVariables false
namespace Go.Proofs.Ytaegcofpbihmhaa.K
theorem obA0 : cbA0.Ok := ⟨okE.env, okE.fn, okE.orc, okE.mixed⟩
theorem cA0 : CallOk Try.prog 14 aA0 12 hA0 (QRet vA0 1151 nA0) := callOk_run (eval_sound obA0 100000) eA0
theorem okA0 : (cfg orcA0).Ok := orcL_ok (C := cfg orcE) okE (by kernel_rfl) (by kernel_rfl) (by kernel_rfl) cA0
theorem obA1 : cbA1.Ok := ⟨okA0.env, okA0.fn, okA0.orc, okA0.mixed⟩
theorem cA1 : CallOk Try.prog 19 aA1 1152 hA1 (QRet vA1 1000000 nA1) := callOk_run (eval_sound obA1 100000) eA1
theorem pA1 : PSound Try.prog 19 (memoL aA1 hA1 vA1) := memoL_sound (by kernel_rfl) (by kernel_rfl) (by kernel_rfl) cA1
theorem okA1 : (cfg orcA1).Ok := orcP_ok (C := cfg orcA0) okA0 pA1
theorem obA2 : cbA2.Ok := ⟨okA1.env, okA1.fn, okA1.orc, okA1.mixed⟩
theorem cA2 : CallOk Try.prog 51 aA2 1153 hA2 (QRet vA2 1000000 nA2) := callOk_run (eval_sound obA2 100000) eA2
theorem pA2 : PSound Try.prog 51 (memoL aA2 hA2 vA2) := memoL_sound (by kernel_rfl) (by kernel_rfl) (by kernel_rfl) cA2
theorem okA2 : (cfg orcA2).Ok := orcP_ok (C := cfg orcA1) okA1 pA2
theorem obA3 : cbA3.Ok := ⟨okA2.env, okA2.fn, okA2.orc, okA2.mixed⟩
theorem cA3 : CallOk Try.prog 51 aA3 1154 hA3 (QRet vA3 1000000 nA3) := callOk_run (eval_sound obA3 100000) eA3
theorem pA3 : PSound Try.prog 51 (memoL aA3 hA3 vA3) := memoL_sound (by kernel_rfl) (by kernel_rfl) (by kernel_rfl) cA3
theorem okA3 : (cfg orcA3).Ok := orcP_ok (C := cfg orcA2) okA2 pA3
theorem obA4 : cbA4.Ok := ⟨okA3.env, okA3.fn, okA3.orc, okA3.mixed⟩
theorem cA4 : CallOk Try.prog 57 aA4 1159 hA4 (QRet vA4 4884 nA4) := callOk_run (eval_sound obA4 100000) eA4
theorem okA4 : (cfg orcA4).Ok := orcL_ok (C := cfg orcA3) okA3 (by kernel_rfl) (by kernel_rfl) (by kernel_rfl) cA4
theorem obA5 : cbA5.Ok := ⟨okA4.env, okA4.fn, okA4.orc, okA4.mixed⟩
theorem rowsA5x0 (i : Nat) (hi : i < 92) : rowC cbA5 (run cbA5 100000) none 21 tA5x0 (loopOf Try.f81) sA5x0 i = true := by
  by_cases h0 : i < 12
  · exact rowsC_get erA5x0c0 i (by omega) (by omega)
  by_cases h1 : i < 24
  · exact rowsC_get erA5x0c1 i (by omega) (by omega)
  by_cases h2 : i < 36
  · exact rowsC_get erA5x0c2 i (by omega) (by omega)
  by_cases h3 : i < 48
  · exact rowsC_get erA5x0c3 i (by omega) (by omega)
  by_cases h4 : i < 60
  · exact rowsC_get erA5x0c4 i (by omega) (by omega)
  by_cases h5 : i < 72
  · exact rowsC_get erA5x0c5 i (by omega) (by omega)
  by_cases h6 : i < 84
  · exact rowsC_get erA5x0c6 i (by omega) (by omega)
  by_cases h7 : i < 92
  · exact rowsC_get erA5x0c7 i (by omega) (by omega)
  omega
theorem wpA5x0 : WpC Try.prog (loopOf Try.f81) none 21 sA5x0 rA5x0 := tabC_sound obA5 (eval_sound obA5 100000) ehA5x0 (fun i hi => rowsA5x0 i hi) (some_getD eeA5x0)
theorem cA5 : CallOk Try.prog 56 aA5 4884 hA5 (QRet vA5 1000000 nA5) := callOk_runL (runL_sound obA5 (eval_sound obA5 100000) ndP (lpOr_ok (lpP_ok wpA5x0) (lpC_ok obA5 (eval_sound obA5 100000))) 100000) eA5
theorem pA5 : PSound Try.prog 56 (memoL aA5 hA5 vA5) := memoL_sound (by kernel_rfl) (by kernel_rfl) (by kernel_rfl) cA5
theorem okA5 : (cfg orcA5).Ok := orcP_ok (C := cfg orcA4) okA4 pA5
theorem obA6 : cbA6.Ok := ⟨okA5.env, okA5.fn, okA5.orc, okA5.mixed⟩
theorem cA6 : CallOk Try.prog 21 aA6 1154 hA6 (QRet vA6 8381 nA6) := callOk_runL (runL_sound obA6 (eval_sound obA6 100000) ndP (lpC_ok obA6 (eval_sound obA6 100000)) 100000) eA6
theorem okA6 : (cfg orcA6).Ok := orcL_ok (C := cfg orcA5) okA5 (by kernel_rfl) (by kernel_rfl) (by kernel_rfl) cA6
theorem obA7 : cbA7.Ok := ⟨okA6.env, okA6.fn, okA6.orc, okA6.mixed⟩
theorem cA7 : CallOk Try.prog 57 aA7 8386 hA7 (QRet vA7 11798 nA7) := callOk_run (eval_sound obA7 100000) eA7
theorem okA7 : (cfg orcA7).Ok := orcL_ok (C := cfg orcA6) okA6 (by kernel_rfl) (by kernel_rfl) (by kernel_rfl) cA7
theorem obA8 : cbA8.Ok := ⟨okA7.env, okA7.fn, okA7.orc, okA7.mixed⟩
theorem cA8 : CallOk Try.prog 56 aA8 11798 hA8 (QRet vA8 1000000 nA8) := callOk_runL (runL_sound obA8 (eval_sound obA8 100000) ndP (lpC_ok obA8 (eval_sound obA8 100000)) 100000) eA8
theorem pA8 : PSound Try.prog 56 (memoL aA8 hA8 vA8) := memoL_sound (by kernel_rfl) (by kernel_rfl) (by kernel_rfl) cA8
theorem okA8 : (cfg orcA8).Ok := orcP_ok (C := cfg orcA7) okA7 pA8
theorem obA9 : cbA9.Ok := ⟨okA8.env, okA8.fn, okA8.orc, okA8.mixed⟩
theorem cA9 : CallOk Try.prog 21 aA9 8381 hA9 (QRet vA9 15191 nA9) := callOk_runL (runL_sound obA9 (eval_sound obA9 100000) ndP (lpC_ok obA9 (eval_sound obA9 100000)) 100000) eA9
theorem okA9 : (cfg orcA9).Ok := orcL_ok (C := cfg orcA8) okA8 (by kernel_rfl) (by kernel_rfl) (by kernel_rfl) cA9
theorem obA10 : cbA10.Ok := ⟨okA9.env, okA9.fn, okA9.orc, okA9.mixed⟩
theorem cA10 : CallOk Try.prog 57 aA10 15195 hA10 (QRet vA10 18607 nA10) := callOk_run (eval_sound obA10 100000) eA10
theorem okA10 : (cfg orcA10).Ok := orcL_ok (C := cfg orcA9) okA9 (by kernel_rfl) (by kernel_rfl) (by kernel_rfl) cA10
theorem obA11 : cbA11.Ok := ⟨okA10.env, okA10.fn, okA10.orc, okA10.mixed⟩
theorem cA11 : CallOk Try.prog 27 aA11 15191 hA11 (QRet vA11 18634 nA11) := callOk_runL (runL_sound obA11 (eval_sound obA11 100000) ndP (lpC_ok obA11 (eval_sound obA11 100000)) 100000) eA11
theorem okA11 : (cfg orcA11).Ok := orcL_ok (C := cfg orcA10) okA10 (by kernel_rfl) (by kernel_rfl) (by kernel_rfl) cA11
theorem obA12 : cbA12.Ok := ⟨okA11.env, okA11.fn, okA11.orc, okA11.mixed⟩
theorem cA12 : CallOk Try.prog 28 aA12 18634 hA12 (QRet vA12 1000000 nA12) := callOk_runL (runL_sound obA12 (eval_sound obA12 100000) ndP (lpC_ok obA12 (eval_sound obA12 100000)) 100000) eA12
theorem pA12 : PSound Try.prog 28 (memoL aA12 hA12 vA12) := memoL_sound (by kernel_rfl) (by kernel_rfl) (by kernel_rfl) cA12
theorem okA12 : (cfg orcA12).Ok := orcP_ok (C := cfg orcA11) okA11 pA12
theorem obA13 : cbA13.Ok := ⟨okA12.env, okA12.fn, okA12.orc, okA12.mixed⟩
theorem cA13 : CallOk Try.prog 52 aA13 18635 hA13 (QRet vA13 18649 nA13) := callOk_run (eval_sound obA13 100000) eA13
theorem okA13 : (cfg orcA13).Ok := orcL_ok (C := cfg orcA12) okA12 (by kernel_rfl) (by kernel_rfl) (by kernel_rfl) cA13
theorem okXA : CXA.Ok := ⟨okA13.env, okA13.fn, okA13.orc, okA13.mixed⟩
end Go.Proofs.Ytaegcofpbihmhaa.K
