/- Kept answers, one upon the other. -/
import Derived.Test.YtgomkbcokgeciaaA0
import Derived.Test.YtgomkbcokgeciaaA1
import Derived.Test.YtgomkbcokgeciaaA2
import Derived.Test.YtgomkbcokgeciaaA3
import Derived.Test.YtgomkbcokgeciaaA4
import Derived.Test.YtgomkbcokgeciaaA5
import Derived.Test.YtgomkbcokgeciaaA6
import Derived.Test.YtgomkbcokgeciaaA7
import Derived.Test.YtgomkbcokgeciaaA8
import Derived.Test.YtgomkbcokgeciaaA9
import Derived.Test.YtgomkbcokgeciaaA10
import Derived.Test.YtgomkbcokgeciaaA11
import Derived.Test.YtgomkbcokgeciaaA12
import Derived.Test.YtgomkbcokgeciaaA13
import Derived.Test.YtgomkbcokgeciaaA14
import Derived.Test.YtgomkbcokgeciaaA15
import Derived.Test.YtgomkbcokgeciaaA16
import Derived.Test.YtgomkbcokgeciaaA17
import Derived.Test.YtgomkbcokgeciaaA18
import Derived.Test.YtgomkbcokgeciaaA19
import Derived.Test.YtgomkbcokgeciaaA20
import Derived.Test.YtgomkbcokgeciaaA21
import Derived.Test.YtgomkbcokgeciaaA22
import Derived.Test.YtgomkbcokgeciaaA23
import Derived.Test.YtgomkbcokgeciaaA24
import Derived.Test.YtgomkbcokgeciaaA25
import Derived.Test.YtgomkbcokgeciaaA26
import Derived.Test.YtgomkbcokgeciaaA27
import Derived.Test.YtgomkbcokgeciaaA28
import Derived.Test.YtgomkbcokgeciaaA29
import Derived.Test.YtgomkbcokgeciaaA30
import Derived.Test.YtgomkbcokgeciaaA31
import Derived.Test.YtgomkbcokgeciaaA32
open Go Go.Eng
set_option maxRecDepth 1000000
set_option linter.unusedVariables false
namespace Go.Proofs.Ytgomkbcokgeciaa.K
theorem obA0 : cbA0.Ok := ⟨okLib.env, okLib.fn, okLib.orc, okLib.mixed⟩
theorem wA0q2 : LpOk Try.prog kA0q2 := lpQ_ok (cut_ok (runQ_sound obA0 (fun _ _ _ _ _ e => by cases e) 100000) xA0q2)
theorem wA0q1 : LpOk Try.prog kA0q1 := lpQ_ok (cut_ok (runQ_sound obA0 (lpOr_ok wA0q2 (fun _ _ _ _ _ e => by cases e)) 100000) xA0q1)
theorem wA0q0 : LpOk Try.prog kA0q0 := lpQ_ok (cut_ok (runQ_sound obA0 (lpOr_ok wA0q1 (lpOr_ok wA0q2 (fun _ _ _ _ _ e => by cases e))) 100000) xA0q0)
theorem cA0 : CallOk Try.prog 7 aA0 9 hA0 (QRet vA0 1000000 nA0) := callOk_run (runQ_sound obA0 (lpOr_ok wA0q0 (lpOr_ok wA0q1 (lpOr_ok wA0q2 (fun _ _ _ _ _ e => by cases e)))) 100000) eA0
theorem pA0 : PSound Try.prog 7 (memoL aA0 hA0 vA0) := memoL_sound (by kernel_rfl) (by kernel_rfl) (by kernel_rfl) cA0
theorem okA0 : (cfg orcA0).Ok := orcM_ok (C := cfg orcLib) okLib pA0
theorem obA1 : cbA1.Ok := ⟨okA0.env, okA0.fn, okA0.orc, okA0.mixed⟩
theorem cA1 : CallOk Try.prog 7 aA1 10 hA1 (QRet vA1 1000000 nA1) := callOk_run (eval2_sound obA1 100000) eA1
theorem pA1 : PSound Try.prog 7 (memoL aA1 hA1 vA1) := memoL_sound (by kernel_rfl) (by kernel_rfl) (by kernel_rfl) cA1
theorem okA1 : (cfg orcA1).Ok := orcM_ok (C := cfg orcA0) okA0 pA1
theorem obA2 : cbA2.Ok := ⟨okA1.env, okA1.fn, okA1.orc, okA1.mixed⟩
theorem wA2q0 : LpOk Try.prog kA2q0 := lpQ_ok (cut_ok (runQ_sound obA2 (fun _ _ _ _ _ e => by cases e) 100000) xA2q0)
theorem cA2 : CallOk Try.prog 48 aA2 22 hA2 (QRet vA2 602 nA2) := callOk_run (runQ_sound obA2 (lpOr_ok wA2q0 (fun _ _ _ _ _ e => by cases e)) 100000) eA2
theorem okA2 : (cfg orcA2).Ok := orcL_ok (C := cfg orcA1) okA1 (by kernel_rfl) (by kernel_rfl) (by kernel_rfl) cA2
theorem obA3 : cbA3.Ok := ⟨okA2.env, okA2.fn, okA2.orc, okA2.mixed⟩
theorem cA3 : CallOk Try.prog 26 aA3 603 hA3 (QRet vA3 1000000 nA3) := callOk_runL (runL_sound obA3 (eval_sound obA3 100000) ndP (lpC2_ok obA3 (eval_sound obA3 100000)) 100000) eA3
theorem pA3 : PSound Try.prog 26 (memoL aA3 hA3 vA3) := memoL_sound (by kernel_rfl) (by kernel_rfl) (by kernel_rfl) cA3
theorem okA3 : (cfg orcA3).Ok := orcM_ok (C := cfg orcA2) okA2 pA3
theorem obA4 : cbA4.Ok := ⟨okA3.env, okA3.fn, okA3.orc, okA3.mixed⟩
theorem cA4 : CallOk Try.prog 27 aA4 605 hA4 (QRet vA4 1000000 nA4) := callOk_runL (runL_sound obA4 (eval_sound obA4 100000) ndP (lpC2_ok obA4 (eval_sound obA4 100000)) 100000) eA4
theorem pA4 : PSound Try.prog 27 (memoL aA4 hA4 vA4) := memoL_sound (by kernel_rfl) (by kernel_rfl) (by kernel_rfl) cA4
theorem okA4 : (cfg orcA4).Ok := orcM_ok (C := cfg orcA3) okA3 pA4
theorem obA5 : cbA5.Ok := ⟨okA4.env, okA4.fn, okA4.orc, okA4.mixed⟩
theorem wA5q0 : LpOk Try.prog kA5q0 := lpQ_ok (cut_ok (runQ_sound obA5 (fun _ _ _ _ _ e => by cases e) 100000) xA5q0)
theorem cA5 : CallOk Try.prog 48 aA5 618 hA5 (QRet vA5 1198 nA5) := callOk_run (runQ_sound obA5 (lpOr_ok wA5q0 (fun _ _ _ _ _ e => by cases e)) 100000) eA5
theorem okA5 : (cfg orcA5).Ok := orcL_ok (C := cfg orcA4) okA4 (by kernel_rfl) (by kernel_rfl) (by kernel_rfl) cA5
theorem obA6 : cbA6.Ok := ⟨okA5.env, okA5.fn, okA5.orc, okA5.mixed⟩
theorem rowsA6x0 (i : Nat) (hi : i < 36) : rowC cbA6 (run cbA6 100000) none 50 tA6x0 (loopOf Try.f32) sA6x0 i = true := by
  by_cases h0 : i < 12
  · exact rowsC_get erA6x0c0 i (by omega) (by omega)
  by_cases h1 : i < 24
  · exact rowsC_get erA6x0c1 i (by omega) (by omega)
  by_cases h2 : i < 36
  · exact rowsC_get erA6x0c2 i (by omega) (by omega)
  omega
theorem wpA6x0 : WpC Try.prog (loopOf Try.f32) none 50 sA6x0 rA6x0 := tabC_sound obA6 (eval_sound obA6 100000) ehA6x0 (fun i hi => rowsA6x0 i hi) (some_getD eeA6x0)
theorem cA6 : CallOk Try.prog 32 aA6 606 hA6 (QRet vA6 1000000 nA6) := callOk_runL (runL_sound obA6 (eval_sound obA6 100000) ndP (lpOr_ok (lpP_ok wpA6x0) (lpC2_ok obA6 (eval_sound obA6 100000))) 100000) eA6
theorem pA6 : PSound Try.prog 32 (memoL aA6 hA6 vA6) := memoL_sound (by kernel_rfl) (by kernel_rfl) (by kernel_rfl) cA6
theorem okA6 : (cfg orcA6).Ok := orcM_ok (C := cfg orcA5) okA5 pA6
theorem obA7 : cbA7.Ok := ⟨okA6.env, okA6.fn, okA6.orc, okA6.mixed⟩
theorem rowsA7x0 (i : Nat) (hi : i < 12) : rowC cbA7 (run cbA7 100000) none 65 tA7x0 (loopOf Try.f33) sA7x0 i = true := by
  by_cases h0 : i < 12
  · exact rowsC_get erA7x0c0 i (by omega) (by omega)
  omega
theorem wpA7x0 : WpC Try.prog (loopOf Try.f33) none 65 sA7x0 rA7x0 := tabC_sound obA7 (eval_sound obA7 100000) ehA7x0 (fun i hi => rowsA7x0 i hi) (some_getD eeA7x0)
theorem cA7 : CallOk Try.prog 33 aA7 608 hA7 (QRet vA7 1000000 nA7) := callOk_runL (runL_sound obA7 (eval_sound obA7 100000) ndP (lpOr_ok (lpP_ok wpA7x0) (lpC2_ok obA7 (eval_sound obA7 100000))) 100000) eA7
theorem pA7 : PSound Try.prog 33 (memoL aA7 hA7 vA7) := memoL_sound (by kernel_rfl) (by kernel_rfl) (by kernel_rfl) cA7
theorem okA7 : (cfg orcA7).Ok := orcM_ok (C := cfg orcA6) okA6 pA7
theorem obA8 : cbA8.Ok := ⟨okA7.env, okA7.fn, okA7.orc, okA7.mixed⟩
theorem wA8q0 : LpOk Try.prog kA8q0 := lpQ_ok (cut_ok (runQ_sound obA8 (fun _ _ _ _ _ e => by cases e) 100000) xA8q0)
theorem cA8 : CallOk Try.prog 48 aA8 620 hA8 (QRet vA8 1200 nA8) := callOk_run (runQ_sound obA8 (lpOr_ok wA8q0 (fun _ _ _ _ _ e => by cases e)) 100000) eA8
theorem okA8 : (cfg orcA8).Ok := orcL_ok (C := cfg orcA7) okA7 (by kernel_rfl) (by kernel_rfl) (by kernel_rfl) cA8
theorem obA9 : cbA9.Ok := ⟨okA8.env, okA8.fn, okA8.orc, okA8.mixed⟩
theorem cA9 : CallOk Try.prog 26 aA9 1201 hA9 (QRet vA9 1000000 nA9) := callOk_runL (runL_sound obA9 (eval_sound obA9 100000) ndP (lpC2_ok obA9 (eval_sound obA9 100000)) 100000) eA9
theorem pA9 : PSound Try.prog 26 (memoL aA9 hA9 vA9) := memoL_sound (by kernel_rfl) (by kernel_rfl) (by kernel_rfl) cA9
theorem okA9 : (cfg orcA9).Ok := orcM_ok (C := cfg orcA8) okA8 pA9
theorem obA10 : cbA10.Ok := ⟨okA9.env, okA9.fn, okA9.orc, okA9.mixed⟩
theorem cA10 : CallOk Try.prog 31 aA10 621 hA10 (QRet vA10 1000000 nA10) := callOk_run (eval2_sound obA10 100000) eA10
theorem pA10 : PSound Try.prog 31 (memoL aA10 hA10 vA10) := memoL_sound (by kernel_rfl) (by kernel_rfl) (by kernel_rfl) cA10
theorem okA10 : (cfg orcA10).Ok := orcM_ok (C := cfg orcA9) okA9 pA10
theorem obA11 : cbA11.Ok := ⟨okA10.env, okA10.fn, okA10.orc, okA10.mixed⟩
theorem cA11 : CallOk Try.prog 31 aA11 621 hA11 (QRet vA11 1000000 nA11) := callOk_run (eval2_sound obA11 100000) eA11
theorem pA11 : PSound Try.prog 31 (memoL aA11 hA11 vA11) := memoL_sound (by kernel_rfl) (by kernel_rfl) (by kernel_rfl) cA11
theorem okA11 : (cfg orcA11).Ok := orcM_ok (C := cfg orcA10) okA10 pA11
theorem obA12 : cbA12.Ok := ⟨okA11.env, okA11.fn, okA11.orc, okA11.mixed⟩
theorem cA12 : CallOk Try.prog 31 aA12 621 hA12 (QRet vA12 1000000 nA12) := callOk_run (eval2_sound obA12 100000) eA12
theorem pA12 : PSound Try.prog 31 (memoL aA12 hA12 vA12) := memoL_sound (by kernel_rfl) (by kernel_rfl) (by kernel_rfl) cA12
theorem okA12 : (cfg orcA12).Ok := orcM_ok (C := cfg orcA11) okA11 pA12
theorem obA13 : cbA13.Ok := ⟨okA12.env, okA12.fn, okA12.orc, okA12.mixed⟩
theorem cA13 : CallOk Try.prog 31 aA13 621 hA13 (QRet vA13 1000000 nA13) := callOk_run (eval2_sound obA13 100000) eA13
theorem pA13 : PSound Try.prog 31 (memoL aA13 hA13 vA13) := memoL_sound (by kernel_rfl) (by kernel_rfl) (by kernel_rfl) cA13
theorem okA13 : (cfg orcA13).Ok := orcM_ok (C := cfg orcA12) okA12 pA13
theorem obA14 : cbA14.Ok := ⟨okA13.env, okA13.fn, okA13.orc, okA13.mixed⟩
theorem cA14 : CallOk Try.prog 31 aA14 621 hA14 (QRet vA14 1000000 nA14) := callOk_run (eval2_sound obA14 100000) eA14
theorem pA14 : PSound Try.prog 31 (memoL aA14 hA14 vA14) := memoL_sound (by kernel_rfl) (by kernel_rfl) (by kernel_rfl) cA14
theorem okA14 : (cfg orcA14).Ok := orcM_ok (C := cfg orcA13) okA13 pA14
theorem obA15 : cbA15.Ok := ⟨okA14.env, okA14.fn, okA14.orc, okA14.mixed⟩
theorem cA15 : CallOk Try.prog 31 aA15 621 hA15 (QRet vA15 1000000 nA15) := callOk_run (eval2_sound obA15 100000) eA15
theorem pA15 : PSound Try.prog 31 (memoL aA15 hA15 vA15) := memoL_sound (by kernel_rfl) (by kernel_rfl) (by kernel_rfl) cA15
theorem okA15 : (cfg orcA15).Ok := orcM_ok (C := cfg orcA14) okA14 pA15
theorem obA16 : cbA16.Ok := ⟨okA15.env, okA15.fn, okA15.orc, okA15.mixed⟩
theorem wA16q3 : LpOk Try.prog kA16q3 := lpQ_ok (cut_ok (runQ_sound obA16 (fun _ _ _ _ _ e => by cases e) 100000) xA16q3)
theorem wA16q2 : LpOk Try.prog kA16q2 := lpQ_ok (cut_ok (runQ_sound obA16 (lpOr_ok wA16q3 (fun _ _ _ _ _ e => by cases e)) 100000) xA16q2)
theorem wA16q1 : LpOk Try.prog kA16q1 := lpQ_ok (cut_ok (runQ_sound obA16 (lpOr_ok wA16q2 (lpOr_ok wA16q3 (fun _ _ _ _ _ e => by cases e))) 100000) xA16q1)
theorem wA16q0 : LpOk Try.prog kA16q0 := lpQ_ok (cut_ok (runQ_sound obA16 (lpOr_ok wA16q1 (lpOr_ok wA16q2 (lpOr_ok wA16q3 (fun _ _ _ _ _ e => by cases e)))) 100000) xA16q0)
theorem cA16 : CallOk Try.prog 31 aA16 621 hA16 (QRet vA16 1000000 nA16) := callOk_run (runQ_sound obA16 (lpOr_ok wA16q0 (lpOr_ok wA16q1 (lpOr_ok wA16q2 (lpOr_ok wA16q3 (fun _ _ _ _ _ e => by cases e))))) 100000) eA16
theorem pA16 : PSound Try.prog 31 (memoL aA16 hA16 vA16) := memoL_sound (by kernel_rfl) (by kernel_rfl) (by kernel_rfl) cA16
theorem okA16 : (cfg orcA16).Ok := orcM_ok (C := cfg orcA15) okA15 pA16
theorem obA17 : cbA17.Ok := ⟨okA16.env, okA16.fn, okA16.orc, okA16.mixed⟩
theorem wA17q3 : LpOk Try.prog kA17q3 := lpQ_ok (cut_ok (runQ_sound obA17 (fun _ _ _ _ _ e => by cases e) 100000) xA17q3)
theorem wA17q2 : LpOk Try.prog kA17q2 := lpQ_ok (cut_ok (runQ_sound obA17 (lpOr_ok wA17q3 (fun _ _ _ _ _ e => by cases e)) 100000) xA17q2)
theorem wA17q1 : LpOk Try.prog kA17q1 := lpQ_ok (cut_ok (runQ_sound obA17 (lpOr_ok wA17q2 (lpOr_ok wA17q3 (fun _ _ _ _ _ e => by cases e))) 100000) xA17q1)
theorem wA17q0 : LpOk Try.prog kA17q0 := lpQ_ok (cut_ok (runQ_sound obA17 (lpOr_ok wA17q1 (lpOr_ok wA17q2 (lpOr_ok wA17q3 (fun _ _ _ _ _ e => by cases e)))) 100000) xA17q0)
theorem cA17 : CallOk Try.prog 31 aA17 621 hA17 (QRet vA17 1000000 nA17) := callOk_run (runQ_sound obA17 (lpOr_ok wA17q0 (lpOr_ok wA17q1 (lpOr_ok wA17q2 (lpOr_ok wA17q3 (fun _ _ _ _ _ e => by cases e))))) 100000) eA17
theorem pA17 : PSound Try.prog 31 (memoL aA17 hA17 vA17) := memoL_sound (by kernel_rfl) (by kernel_rfl) (by kernel_rfl) cA17
theorem okA17 : (cfg orcA17).Ok := orcM_ok (C := cfg orcA16) okA16 pA17
theorem obA18 : cbA18.Ok := ⟨okA17.env, okA17.fn, okA17.orc, okA17.mixed⟩
theorem wA18q3 : LpOk Try.prog kA18q3 := lpQ_ok (cut_ok (runQ_sound obA18 (fun _ _ _ _ _ e => by cases e) 100000) xA18q3)
theorem wA18q2 : LpOk Try.prog kA18q2 := lpQ_ok (cut_ok (runQ_sound obA18 (lpOr_ok wA18q3 (fun _ _ _ _ _ e => by cases e)) 100000) xA18q2)
theorem wA18q1 : LpOk Try.prog kA18q1 := lpQ_ok (cut_ok (runQ_sound obA18 (lpOr_ok wA18q2 (lpOr_ok wA18q3 (fun _ _ _ _ _ e => by cases e))) 100000) xA18q1)
theorem wA18q0 : LpOk Try.prog kA18q0 := lpQ_ok (cut_ok (runQ_sound obA18 (lpOr_ok wA18q1 (lpOr_ok wA18q2 (lpOr_ok wA18q3 (fun _ _ _ _ _ e => by cases e)))) 100000) xA18q0)
theorem cA18 : CallOk Try.prog 31 aA18 621 hA18 (QRet vA18 1000000 nA18) := callOk_run (runQ_sound obA18 (lpOr_ok wA18q0 (lpOr_ok wA18q1 (lpOr_ok wA18q2 (lpOr_ok wA18q3 (fun _ _ _ _ _ e => by cases e))))) 100000) eA18
theorem pA18 : PSound Try.prog 31 (memoL aA18 hA18 vA18) := memoL_sound (by kernel_rfl) (by kernel_rfl) (by kernel_rfl) cA18
theorem okA18 : (cfg orcA18).Ok := orcM_ok (C := cfg orcA17) okA17 pA18
theorem obA19 : cbA19.Ok := ⟨okA18.env, okA18.fn, okA18.orc, okA18.mixed⟩
theorem wA19q3 : LpOk Try.prog kA19q3 := lpQ_ok (cut_ok (runQ_sound obA19 (fun _ _ _ _ _ e => by cases e) 100000) xA19q3)
theorem wA19q2 : LpOk Try.prog kA19q2 := lpQ_ok (cut_ok (runQ_sound obA19 (lpOr_ok wA19q3 (fun _ _ _ _ _ e => by cases e)) 100000) xA19q2)
theorem wA19q1 : LpOk Try.prog kA19q1 := lpQ_ok (cut_ok (runQ_sound obA19 (lpOr_ok wA19q2 (lpOr_ok wA19q3 (fun _ _ _ _ _ e => by cases e))) 100000) xA19q1)
theorem wA19q0 : LpOk Try.prog kA19q0 := lpQ_ok (cut_ok (runQ_sound obA19 (lpOr_ok wA19q1 (lpOr_ok wA19q2 (lpOr_ok wA19q3 (fun _ _ _ _ _ e => by cases e)))) 100000) xA19q0)
theorem cA19 : CallOk Try.prog 31 aA19 621 hA19 (QRet vA19 1000000 nA19) := callOk_run (runQ_sound obA19 (lpOr_ok wA19q0 (lpOr_ok wA19q1 (lpOr_ok wA19q2 (lpOr_ok wA19q3 (fun _ _ _ _ _ e => by cases e))))) 100000) eA19
theorem pA19 : PSound Try.prog 31 (memoL aA19 hA19 vA19) := memoL_sound (by kernel_rfl) (by kernel_rfl) (by kernel_rfl) cA19
theorem okA19 : (cfg orcA19).Ok := orcM_ok (C := cfg orcA18) okA18 pA19
theorem obA20 : cbA20.Ok := ⟨okA19.env, okA19.fn, okA19.orc, okA19.mixed⟩
theorem wA20q3 : LpOk Try.prog kA20q3 := lpQ_ok (cut_ok (runQ_sound obA20 (fun _ _ _ _ _ e => by cases e) 100000) xA20q3)
theorem wA20q2 : LpOk Try.prog kA20q2 := lpQ_ok (cut_ok (runQ_sound obA20 (lpOr_ok wA20q3 (fun _ _ _ _ _ e => by cases e)) 100000) xA20q2)
theorem wA20q1 : LpOk Try.prog kA20q1 := lpQ_ok (cut_ok (runQ_sound obA20 (lpOr_ok wA20q2 (lpOr_ok wA20q3 (fun _ _ _ _ _ e => by cases e))) 100000) xA20q1)
theorem wA20q0 : LpOk Try.prog kA20q0 := lpQ_ok (cut_ok (runQ_sound obA20 (lpOr_ok wA20q1 (lpOr_ok wA20q2 (lpOr_ok wA20q3 (fun _ _ _ _ _ e => by cases e)))) 100000) xA20q0)
theorem cA20 : CallOk Try.prog 31 aA20 621 hA20 (QRet vA20 1000000 nA20) := callOk_run (runQ_sound obA20 (lpOr_ok wA20q0 (lpOr_ok wA20q1 (lpOr_ok wA20q2 (lpOr_ok wA20q3 (fun _ _ _ _ _ e => by cases e))))) 100000) eA20
theorem pA20 : PSound Try.prog 31 (memoL aA20 hA20 vA20) := memoL_sound (by kernel_rfl) (by kernel_rfl) (by kernel_rfl) cA20
theorem okA20 : (cfg orcA20).Ok := orcM_ok (C := cfg orcA19) okA19 pA20
theorem obA21 : cbA21.Ok := ⟨okA20.env, okA20.fn, okA20.orc, okA20.mixed⟩
theorem cA21 : CallOk Try.prog 31 aA21 624 hA21 (QRet vA21 1000000 nA21) := callOk_run (eval2_sound obA21 100000) eA21
theorem pA21 : PSound Try.prog 31 (memoL aA21 hA21 vA21) := memoL_sound (by kernel_rfl) (by kernel_rfl) (by kernel_rfl) cA21
theorem okA21 : (cfg orcA21).Ok := orcM_ok (C := cfg orcA20) okA20 pA21
theorem obA22 : cbA22.Ok := ⟨okA21.env, okA21.fn, okA21.orc, okA21.mixed⟩
theorem cA22 : CallOk Try.prog 31 aA22 625 hA22 (QRet vA22 1000000 nA22) := callOk_run (eval2_sound obA22 100000) eA22
theorem pA22 : PSound Try.prog 31 (memoL aA22 hA22 vA22) := memoL_sound (by kernel_rfl) (by kernel_rfl) (by kernel_rfl) cA22
theorem okA22 : (cfg orcA22).Ok := orcM_ok (C := cfg orcA21) okA21 pA22
theorem obA23 : cbA23.Ok := ⟨okA22.env, okA22.fn, okA22.orc, okA22.mixed⟩
theorem wA23q3 : LpOk Try.prog kA23q3 := lpQ_ok (cut_ok (runQ_sound obA23 (fun _ _ _ _ _ e => by cases e) 100000) xA23q3)
theorem wA23q2 : LpOk Try.prog kA23q2 := lpQ_ok (cut_ok (runQ_sound obA23 (lpOr_ok wA23q3 (fun _ _ _ _ _ e => by cases e)) 100000) xA23q2)
theorem wA23q1 : LpOk Try.prog kA23q1 := lpQ_ok (cut_ok (runQ_sound obA23 (lpOr_ok wA23q2 (lpOr_ok wA23q3 (fun _ _ _ _ _ e => by cases e))) 100000) xA23q1)
theorem wA23q0 : LpOk Try.prog kA23q0 := lpQ_ok (cut_ok (runQ_sound obA23 (lpOr_ok wA23q1 (lpOr_ok wA23q2 (lpOr_ok wA23q3 (fun _ _ _ _ _ e => by cases e)))) 100000) xA23q0)
theorem cA23 : CallOk Try.prog 31 aA23 625 hA23 (QRet vA23 1000000 nA23) := callOk_run (runQ_sound obA23 (lpOr_ok wA23q0 (lpOr_ok wA23q1 (lpOr_ok wA23q2 (lpOr_ok wA23q3 (fun _ _ _ _ _ e => by cases e))))) 100000) eA23
theorem pA23 : PSound Try.prog 31 (memoL aA23 hA23 vA23) := memoL_sound (by kernel_rfl) (by kernel_rfl) (by kernel_rfl) cA23
theorem okA23 : (cfg orcA23).Ok := orcM_ok (C := cfg orcA22) okA22 pA23
theorem obA24 : cbA24.Ok := ⟨okA23.env, okA23.fn, okA23.orc, okA23.mixed⟩
theorem cA24 : CallOk Try.prog 31 aA24 625 hA24 (QRet vA24 1000000 nA24) := callOk_run (eval2_sound obA24 100000) eA24
theorem pA24 : PSound Try.prog 31 (memoL aA24 hA24 vA24) := memoL_sound (by kernel_rfl) (by kernel_rfl) (by kernel_rfl) cA24
theorem okA24 : (cfg orcA24).Ok := orcM_ok (C := cfg orcA23) okA23 pA24
theorem obA25 : cbA25.Ok := ⟨okA24.env, okA24.fn, okA24.orc, okA24.mixed⟩
theorem cA25 : CallOk Try.prog 31 aA25 641 hA25 (QRet vA25 1000000 nA25) := callOk_run (eval2_sound obA25 100000) eA25
theorem pA25 : PSound Try.prog 31 (memoL aA25 hA25 vA25) := memoL_sound (by kernel_rfl) (by kernel_rfl) (by kernel_rfl) cA25
theorem okA25 : (cfg orcA25).Ok := orcM_ok (C := cfg orcA24) okA24 pA25
theorem obA26 : cbA26.Ok := ⟨okA25.env, okA25.fn, okA25.orc, okA25.mixed⟩
theorem cA26 : CallOk Try.prog 31 aA26 641 hA26 (QRet vA26 1000000 nA26) := callOk_run (eval2_sound obA26 100000) eA26
theorem pA26 : PSound Try.prog 31 (memoL aA26 hA26 vA26) := memoL_sound (by kernel_rfl) (by kernel_rfl) (by kernel_rfl) cA26
theorem okA26 : (cfg orcA26).Ok := orcM_ok (C := cfg orcA25) okA25 pA26
theorem okXA : CXA.Ok := ⟨okA26.env, okA26.fn, okA26.orc, okA26.mixed⟩
end Go.Proofs.Ytgomkbcokgeciaa.K
