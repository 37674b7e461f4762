/- Kept answers, one upon the other. -/
import Derived.Test.YtpjflnjlmjnmjaaGreatDoorFsA0
import Derived.Test.YtpjflnjlmjnmjaaGreatDoorFsA1
import Derived.Test.YtpjflnjlmjnmjaaGreatDoorFsA2
import Derived.Test.YtpjflnjlmjnmjaaGreatDoorFsA3
import Derived.Test.YtpjflnjlmjnmjaaGreatDoorFsA4
import Derived.Test.YtpjflnjlmjnmjaaGreatDoorFsA5
import Derived.Test.YtpjflnjlmjnmjaaGreatDoorFsA6
import Derived.Test.YtpjflnjlmjnmjaaGreatDoorFsA7
import Derived.Test.YtpjflnjlmjnmjaaGreatDoorFsA8
import Derived.Test.YtpjflnjlmjnmjaaGreatDoorFsA9
import Derived.Test.YtpjflnjlmjnmjaaGreatDoorFsA10
import Derived.Test.YtpjflnjlmjnmjaaGreatDoorFsA11
import Derived.Test.YtpjflnjlmjnmjaaGreatDoorFsA12
import Derived.Test.YtpjflnjlmjnmjaaGreatDoorFsA13
import Derived.Test.YtpjflnjlmjnmjaaGreatDoorFsA14
import Derived.Test.YtpjflnjlmjnmjaaGreatDoorFsA15
import Derived.Test.YtpjflnjlmjnmjaaGreatDoorFsA16
import Derived.Test.YtpjflnjlmjnmjaaGreatDoorFsA17
import Derived.Test.YtpjflnjlmjnmjaaGreatDoorFsA18
open Go Go.Eng
set_option maxRecDepth 1000000
set_option linter.unusedVariables false
namespace Go.Proofs.YtpjflnjlmjnmjaaGreatDoor.K
theorem obA0 : cbA0.Ok := ⟨okLib.env, okLib.fn, okLib.orc, okLib.mixed⟩
theorem cA0 : CallOk Tryz.prog 66 aA0 9 hA0 (QRet vA0 1000000 nA0) := callOk_run (eval_sound obA0 100000) eA0
theorem pA0 : PSound Tryz.prog 66 (memoL aA0 hA0 vA0) := memoL_sound (by kernel_rfl) (by kernel_rfl) (by kernel_rfl) cA0
theorem okA0 : (cfg orcA0).Ok := orcM_ok (C := cfg orcLib) okLib pA0
theorem obA1 : cbA1.Ok := ⟨okA0.env, okA0.fn, okA0.orc, okA0.mixed⟩
theorem cA1 : CallOk Tryz.prog 66 aA1 9 hA1 (QRet vA1 1000000 nA1) := callOk_run (eval_sound obA1 100000) eA1
theorem pA1 : PSound Tryz.prog 66 (memoL aA1 hA1 vA1) := memoL_sound (by kernel_rfl) (by kernel_rfl) (by kernel_rfl) cA1
theorem okA1 : (cfg orcA1).Ok := orcM_ok (C := cfg orcA0) okA0 pA1
theorem obA2 : cbA2.Ok := ⟨okA1.env, okA1.fn, okA1.orc, okA1.mixed⟩
theorem cA2 : CallOk Tryz.prog 23 aA2 5 hA2 (QRet vA2 160 nA2) := callOk_runL (runL_sound obA2 (eval_sound obA2 100000) ndP (lpC2_ok obA2 (eval_sound obA2 100000)) 100000) eA2
theorem okA2 : (cfg orcA2).Ok := orcL_ok (C := cfg orcA1) okA1 (by kernel_rfl) (by kernel_rfl) (by kernel_rfl) cA2
theorem obA3 : cbA3.Ok := ⟨okA2.env, okA2.fn, okA2.orc, okA2.mixed⟩
theorem cA3 : CallOk Tryz.prog 77 aA3 169 hA3 (QRet vA3 200 nA3) := callOk_run (eval_sound obA3 100000) eA3
theorem okA3 : (cfg orcA3).Ok := orcL_ok (C := cfg orcA2) okA2 (by kernel_rfl) (by kernel_rfl) (by kernel_rfl) cA3
theorem obA4 : cbA4.Ok := ⟨okA3.env, okA3.fn, okA3.orc, okA3.mixed⟩
theorem cA4 : CallOk Tryz.prog 77 aA4 208 hA4 (QRet vA4 239 nA4) := callOk_run (eval_sound obA4 100000) eA4
theorem okA4 : (cfg orcA4).Ok := orcL_ok (C := cfg orcA3) okA3 (by kernel_rfl) (by kernel_rfl) (by kernel_rfl) cA4
theorem obA5 : cbA5.Ok := ⟨okA4.env, okA4.fn, okA4.orc, okA4.mixed⟩
theorem cA5 : CallOk Tryz.prog 77 aA5 209 hA5 (QRet vA5 240 nA5) := callOk_run (eval_sound obA5 100000) eA5
theorem okA5 : (cfg orcA5).Ok := orcL_ok (C := cfg orcA4) okA4 (by kernel_rfl) (by kernel_rfl) (by kernel_rfl) cA5
theorem obA6 : cbA6.Ok := ⟨okA5.env, okA5.fn, okA5.orc, okA5.mixed⟩
theorem cA6 : CallOk Tryz.prog 82 aA6 208 hA6 (QRet vA6 1000000 nA6) := callOk_run (eval_sound obA6 100000) eA6
theorem pA6 : PSound Tryz.prog 82 (memoL aA6 hA6 vA6) := memoL_sound (by kernel_rfl) (by kernel_rfl) (by kernel_rfl) cA6
theorem okA6 : (cfg orcA6).Ok := orcM_ok (C := cfg orcA5) okA5 pA6
theorem obA7 : cbA7.Ok := ⟨okA6.env, okA6.fn, okA6.orc, okA6.mixed⟩
theorem cA7 : CallOk Tryz.prog 134 aA7 215 hA7 (QRet vA7 1000000 nA7) := callOk_run (eval_sound obA7 100000) eA7
theorem pA7 : PSound Tryz.prog 134 (memoL aA7 hA7 vA7) := memoL_sound (by kernel_rfl) (by kernel_rfl) (by kernel_rfl) cA7
theorem okA7 : (cfg orcA7).Ok := orcM_ok (C := cfg orcA6) okA6 pA7
theorem obA8 : cbA8.Ok := ⟨okA7.env, okA7.fn, okA7.orc, okA7.mixed⟩
theorem cA8 : CallOk Tryz.prog 134 aA8 220 hA8 (QRet vA8 1000000 nA8) := callOk_run (eval_sound obA8 100000) eA8
theorem pA8 : PSound Tryz.prog 134 (memoL aA8 hA8 vA8) := memoL_sound (by kernel_rfl) (by kernel_rfl) (by kernel_rfl) cA8
theorem okA8 : (cfg orcA8).Ok := orcM_ok (C := cfg orcA7) okA7 pA8
theorem obA9 : cbA9.Ok := ⟨okA8.env, okA8.fn, okA8.orc, okA8.mixed⟩
theorem cA9 : CallOk Tryz.prog 134 aA9 231 hA9 (QRet vA9 1000000 nA9) := callOk_run (eval_sound obA9 100000) eA9
theorem pA9 : PSound Tryz.prog 134 (memoL aA9 hA9 vA9) := memoL_sound (by kernel_rfl) (by kernel_rfl) (by kernel_rfl) cA9
theorem okA9 : (cfg orcA9).Ok := orcM_ok (C := cfg orcA8) okA8 pA9
theorem obA10 : cbA10.Ok := ⟨okA9.env, okA9.fn, okA9.orc, okA9.mixed⟩
theorem cA10 : CallOk Tryz.prog 134 aA10 252 hA10 (QRet vA10 1000000 nA10) := callOk_run (eval_sound obA10 100000) eA10
theorem pA10 : PSound Tryz.prog 134 (memoL aA10 hA10 vA10) := memoL_sound (by kernel_rfl) (by kernel_rfl) (by kernel_rfl) cA10
theorem okA10 : (cfg orcA10).Ok := orcM_ok (C := cfg orcA9) okA9 pA10
theorem obA11 : cbA11.Ok := ⟨okA10.env, okA10.fn, okA10.orc, okA10.mixed⟩
theorem cA11 : CallOk Tryz.prog 134 aA11 259 hA11 (QRet vA11 1000000 nA11) := callOk_run (eval_sound obA11 100000) eA11
theorem pA11 : PSound Tryz.prog 134 (memoL aA11 hA11 vA11) := memoL_sound (by kernel_rfl) (by kernel_rfl) (by kernel_rfl) cA11
theorem okA11 : (cfg orcA11).Ok := orcM_ok (C := cfg orcA10) okA10 pA11
theorem obA12 : cbA12.Ok := ⟨okA11.env, okA11.fn, okA11.orc, okA11.mixed⟩
theorem cA12 : CallOk Tryz.prog 134 aA12 264 hA12 (QRet vA12 1000000 nA12) := callOk_run (eval_sound obA12 100000) eA12
theorem pA12 : PSound Tryz.prog 134 (memoL aA12 hA12 vA12) := memoL_sound (by kernel_rfl) (by kernel_rfl) (by kernel_rfl) cA12
theorem okA12 : (cfg orcA12).Ok := orcM_ok (C := cfg orcA11) okA11 pA12
theorem obA13 : cbA13.Ok := ⟨okA12.env, okA12.fn, okA12.orc, okA12.mixed⟩
theorem cA13 : CallOk Tryz.prog 134 aA13 277 hA13 (QRet vA13 1000000 nA13) := callOk_run (eval_sound obA13 100000) eA13
theorem pA13 : PSound Tryz.prog 134 (memoL aA13 hA13 vA13) := memoL_sound (by kernel_rfl) (by kernel_rfl) (by kernel_rfl) cA13
theorem okA13 : (cfg orcA13).Ok := orcM_ok (C := cfg orcA12) okA12 pA13
theorem obA14 : cbA14.Ok := ⟨okA13.env, okA13.fn, okA13.orc, okA13.mixed⟩
theorem cA14 : CallOk Tryz.prog 134 aA14 292 hA14 (QRet vA14 1000000 nA14) := callOk_run (eval_sound obA14 100000) eA14
theorem pA14 : PSound Tryz.prog 134 (memoL aA14 hA14 vA14) := memoL_sound (by kernel_rfl) (by kernel_rfl) (by kernel_rfl) cA14
theorem okA14 : (cfg orcA14).Ok := orcM_ok (C := cfg orcA13) okA13 pA14
theorem obA15 : cbA15.Ok := ⟨okA14.env, okA14.fn, okA14.orc, okA14.mixed⟩
theorem cA15 : CallOk Tryz.prog 66 aA15 295 hA15 (QRet vA15 1000000 nA15) := callOk_run (eval_sound obA15 100000) eA15
theorem pA15 : PSound Tryz.prog 66 (memoL aA15 hA15 vA15) := memoL_sound (by kernel_rfl) (by kernel_rfl) (by kernel_rfl) cA15
theorem okA15 : (cfg orcA15).Ok := orcM_ok (C := cfg orcA14) okA14 pA15
theorem obA16 : cbA16.Ok := ⟨okA15.env, okA15.fn, okA15.orc, okA15.mixed⟩
theorem cA16 : CallOk Tryz.prog 77 aA16 296 hA16 (QRet vA16 327 nA16) := callOk_run (eval_sound obA16 100000) eA16
theorem okA16 : (cfg orcA16).Ok := orcL_ok (C := cfg orcA15) okA15 (by kernel_rfl) (by kernel_rfl) (by kernel_rfl) cA16
theorem obA17 : cbA17.Ok := ⟨okA16.env, okA16.fn, okA16.orc, okA16.mixed⟩
theorem cA17 : CallOk Tryz.prog 82 aA17 295 hA17 (QRet vA17 1000000 nA17) := callOk_run (eval_sound obA17 100000) eA17
theorem pA17 : PSound Tryz.prog 82 (memoL aA17 hA17 vA17) := memoL_sound (by kernel_rfl) (by kernel_rfl) (by kernel_rfl) cA17
theorem okA17 : (cfg orcA17).Ok := orcM_ok (C := cfg orcA16) okA16 pA17
theorem obA18 : cbA18.Ok := ⟨okA17.env, okA17.fn, okA17.orc, okA17.mixed⟩
theorem cA18 : CallOk Tryz.prog 84 aA18 205 hA18 (QRet vA18 295 nA18) := callOk_run (eval_sound obA18 100000) eA18
theorem okA18 : (cfg orcA18).Ok := orcL_ok (C := cfg orcA17) okA17 (by kernel_rfl) (by kernel_rfl) (by kernel_rfl) cA18
theorem okXA : CXA.Ok := ⟨okA18.env, okA18.fn, okA18.orc, okA18.mixed⟩
end Go.Proofs.YtpjflnjlmjnmjaaGreatDoor.K
