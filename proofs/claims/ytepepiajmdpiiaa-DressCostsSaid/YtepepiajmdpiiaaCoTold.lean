/- Functions told. -/
import Derived.Test.YtepepiajmdpiiaaCoTab
open Go Go.Eng
set_option maxRecDepth 100000
set_option linter.unusedVariables false
namespace Go.Proofs.Ytepepiajmdpiiaa.K
noncomputable def B82 : Code := (Try.f82.body).getD .skip
noncomputable def A82 : G.Ann (List KI) := (G.Ann.node (some (0, [KI.reg 0 (Kd.i .i64), KI.reg 1 (Kd.i .i64), KI.reg 2 (Kd.v)])) G.Ann.nil (G.Ann.node none (G.Ann.node none G.Ann.nil (G.Ann.node none (G.Ann.node (some (1, [KI.reg 0 (Kd.i .i64), KI.reg 1 (Kd.i .i64), KI.reg 9 (Kd.v), KI.reg 10 (Kd.i .i64), KI.reg 11 (Kd.i .i64)])) (G.Ann.node none G.Ann.nil (G.Ann.node none (G.Ann.node none G.Ann.nil G.Ann.nil) (G.Ann.node none (G.Ann.node none (G.Ann.node none G.Ann.nil (G.Ann.node none G.Ann.nil (G.Ann.node none (G.Ann.node none G.Ann.nil G.Ann.nil) G.Ann.nil))) G.Ann.nil) G.Ann.nil))) G.Ann.nil) G.Ann.nil)) (G.Ann.node (some (2, [])) G.Ann.nil G.Ann.nil)))
noncomputable def P82x2 (h : Hp) (S : Nat → PAL → Option Value) : Option Value :=
  some (Value.bool true)
noncomputable def P82x1 (h : Hp) (S : Nat → PAL → Option Value) (r0 : Int) (r1 : Int) (r9 : Value) (r10 : Int) (r11 : Int) : Option Value :=
  boolZ (ltZ r11 r10) fun b0 =>
  ifB b0
  (idxSK 1 r9 r11 fun v1 =>
  load1K h v1 fun v2 =>
  intK .i64 v2 fun i3 =>
  boolZ (ltZ i3 r0) fun b4 =>
  ifB b4
  (some (Value.bool false))
  (boolZ (ltZ r1 i3) fun b5 =>
  ifB b5
  (some (Value.bool false))
  (wrap64 (Int.add r11 (Int.ofNat 1)) fun i6 =>
  S 1 (PAL.i r0 (PAL.i r1 (PAL.v r9 (PAL.i r10 (PAL.i i6 PAL.n))))))))
  (S 2 PAL.n)
noncomputable def P82x0 (h : Hp) (S : Nat → PAL → Option Value) (r0 : Int) (r1 : Int) (r2 : Value) : Option Value :=
  lenSK r2 fun i0 =>
  S 1 (PAL.i r0 (PAL.i r1 (PAL.v r2 (PAL.i i0 (PAL.i (Int.ofNat 0) PAL.n)))))
noncomputable def T82 (h : Hp) (S : Nat → PAL → Option Value) : Nat → PAL → Option Value := tabPC 0 (wI fun r0 => wI fun r1 => wV fun r2 => wN (P82x0 h S r0 r1 r2)) (tabPC 1 (wI fun r0 => wI fun r1 => wV fun r9 => wI fun r10 => wI fun r11 => wN (P82x1 h S r0 r1 r9 r10 r11)) (tabPC 2 (wN (P82x2 h S)) (tabPN)))
noncomputable def F82 (args : List Value) (h : Hp) : Option Value := plainO (packArgs [Kd.i .i64, Kd.i .i64, Kd.v] args fun al => G.rec' (T82 h) 1000000 0 al)
def nt82 : Nat := 3 + (24 - 3)
theorem q82x2 (h : Hp) (S : Nat → PAL → Option Value) : P82x2 h S = G.stepAt packP unpackP evXV (regP env pf0 nt82 h) (finP env Try.f82.results.toList) (G.collect B82 A82 []) 2 S PAL.n := by kernel_rfl
theorem q82x1 (h : Hp) (S : Nat → PAL → Option Value) (r0 : Int) (r1 : Int) (r9 : Value) (r10 : Int) (r11 : Int) : P82x1 h S r0 r1 r9 r10 r11 = G.stepAt packP unpackP evXV (regP env pf0 nt82 h) (finP env Try.f82.results.toList) (G.collect B82 A82 []) 1 S (PAL.i r0 (PAL.i r1 (PAL.v r9 (PAL.i r10 (PAL.i r11 PAL.n))))) := by kernel_rfl
theorem q82x0 (h : Hp) (S : Nat → PAL → Option Value) (r0 : Int) (r1 : Int) (r2 : Value) : P82x0 h S r0 r1 r2 = G.stepAt packP unpackP evXV (regP env pf0 nt82 h) (finP env Try.f82.results.toList) (G.collect B82 A82 []) 0 S (PAL.i r0 (PAL.i r1 (PAL.v r2 PAL.n))) := by kernel_rfl
theorem t82 (h : Hp) (S : Nat → PAL → Option Value) : TabP (fun l al => G.stepAt packP unpackP evXV (regP env pf0 nt82 h) (finP env Try.f82.results.toList) (G.collect B82 A82 []) l S al) (T82 h S) := by
  unfold T82
  refine TabP.cons 0 (fun vs0 q e0 => ?_) ?_
  · obtain ⟨r0, vs1, rfl, e1⟩ := wI_some e0
    obtain ⟨r1, vs2, rfl, e2⟩ := wI_some e1
    obtain ⟨r2, vs3, rfl, e3⟩ := wV_some e2
    obtain ⟨rfl, ee⟩ := wN_some e3
    exact (q82x0 h S r0 r1 r2).symm.trans ee
  refine TabP.cons 1 (fun vs0 q e0 => ?_) ?_
  · obtain ⟨r0, vs1, rfl, e1⟩ := wI_some e0
    obtain ⟨r1, vs2, rfl, e2⟩ := wI_some e1
    obtain ⟨r9, vs3, rfl, e3⟩ := wV_some e2
    obtain ⟨r10, vs4, rfl, e4⟩ := wI_some e3
    obtain ⟨r11, vs5, rfl, e5⟩ := wI_some e4
    obtain ⟨rfl, ee⟩ := wN_some e5
    exact (q82x1 h S r0 r1 r9 r10 r11).symm.trans ee
  refine TabP.cons 2 (fun vs0 q e0 => ?_) ?_
  · 
    obtain ⟨rfl, ee⟩ := wN_some e0
    exact (q82x2 h S).symm.trans ee
  exact TabP.nil
theorem r82 : PSound Try.prog 82 F82 := fun_soundP (C := C0) ok0 (pf := pf0) pfok0 (fn := Try.f82) (body := B82) (kinds := [Kd.i .i64, Kd.i .i64, Kd.v]) (A := A82) (T := T82) (by kernel_rfl) (by kernel_rfl) (by kernel_rfl) (by kernel_rfl) (fun h S => t82 h S)
noncomputable def pf1 : PF := pfC 82 F82 pf0
theorem pfok1 : PfSound Try.prog pf1 := pfC_ok r82 pfok0
noncomputable def orc1 := orcP 82 F82 orc0
noncomputable def C1 : Cfg := cfg orc1
theorem ok1 : C1.Ok := orcP_ok (C := C0) ok0 r82
noncomputable def B81 : Code := (Try.f81.body).getD .skip
def A81 : Ann := (Ann.node (some (0, [(0, Kd.v), (1, Kd.i .i64), (2, Kd.v)])) Ann.nil (Ann.node none (Ann.node none Ann.nil (Ann.node none (Ann.node none Ann.nil Ann.nil) Ann.nil)) (Ann.node none Ann.nil Ann.nil)))
noncomputable def P81x0 (S : Sg) (r0 : Value) (r1 : Int) (r2 : Value) (h : Hp) : CRes :=
  load1K h r2 fun v0 =>
  intK .i64 v0 fun i1 =>
  pairK (buildSliceV env h 22 1 (List.toArray [(0, (Value.int .i64 r1))])) fun v2 h2 =>
  pairK (optK (F82 [(Value.int .i64 (Int.ofNat 0)), (Value.int .i64 i1), v2] h2) fun v => some (v, h2)) fun v3 h3 =>
  boolK v3 fun b4 =>
  boolN b4 fun b5 =>
  ifB b5
  (some ((Value.int .i64 (Int.ofNat 7)), h3))
  (some ((Value.int .i64 (Int.ofNat 0)), h3))
noncomputable def T81 (S : Sg) : Sg := tabC 0 (uV fun r0 => uI fun r1 => uV fun r2 => uN fun h => P81x0 S r0 r1 r2 h) (tabN)
noncomputable def F81 (args : List Value) (h : Hp) : CRes := packVals [Kd.v, Kd.i .i64, Kd.v] args fun al => rec' T81 1000000 0 al h
def nt81 : Nat := 3 + (11 - 3)
theorem q81x0 (S : Sg) (r0 : Value) (r1 : Int) (r2 : Value) (h : Hp) : P81x0 S r0 r1 r2 h = stepAt (regK env orc1 (nt81)) (finK env Try.f81.results.toList) (collect B81 A81 []) 0 S (AL.v r0 (AL.i r1 (AL.v r2 AL.n))) h := by kernel_rfl
theorem t81 (S : Sg) : Tab (fun l vs h => stepAt (regK env orc1 nt81) (finK env Try.f81.results.toList) (collect B81 A81 []) l S vs h) (T81 S) := by
  unfold T81
  refine Tab.cons 0 (fun vs0 h q e0 => ?_) ?_
  · obtain ⟨r0, vs1, rfl, e1⟩ := uV_some e0
    obtain ⟨r1, vs2, rfl, e2⟩ := uI_some e1
    obtain ⟨r2, vs3, rfl, e3⟩ := uV_some e2
    obtain ⟨rfl, ee⟩ := uN_some e3
    exact (q81x0 S r0 r1 r2 h).symm.trans ee
  exact Tab.nil
theorem r81 : ∀ args h v h', F81 args h = some (v, h') → Runs (C1) (.call 81 args.toArray h) (.ret v h') := by
  intro args h v h' e
  exact fun_sound (C := C1) (fn := Try.f81) (body := B81) (np := 3) (A := A81) (T := T81) (kinds := [Kd.v, Kd.i .i64, Kd.v]) (by kernel_rfl) (by kernel_rfl) (by kernel_rfl) (by kernel_rfl) (regK_ok env_ok) (by kernel_rfl) (fun S => t81 S) e
noncomputable def orc2 := orcQ 81 F81 orc1
noncomputable def C2 : Cfg := cfg orc2
theorem ok2 : C2.Ok := orcQ_ok (C := C1) ok1 r81
noncomputable def B104 : Code := (Try.f104.body).getD .skip
def A104 : Ann := (Ann.node (some (0, [(0, Kd.v), (1, Kd.v)])) Ann.nil (Ann.node none (Ann.node none Ann.nil (Ann.node none (Ann.node (some (1, [(0, Kd.v), (1, Kd.v), (9, Kd.v), (10, Kd.i .i64), (11, Kd.i .i64)])) (Ann.node none Ann.nil (Ann.node none (Ann.node none Ann.nil Ann.nil) (Ann.node none (Ann.node none (Ann.node none Ann.nil (Ann.node none Ann.nil (Ann.node none Ann.nil (Ann.node none (Ann.node none Ann.nil Ann.nil) Ann.nil)))) Ann.nil) Ann.nil))) Ann.nil) Ann.nil)) (Ann.node (some (2, [])) Ann.nil Ann.nil)))
noncomputable def P104x2 (S : Sg) (h : Hp) : CRes :=
  some (Value.tuple (List.toArray [(Value.int .i64 (Int.ofNat 0)), (Value.int .i64 (Int.ofNat 0))]), h)
noncomputable def P104x1 (S : Sg) (r0 : Value) (r1 : Value) (r9 : Value) (r10 : Int) (r11 : Int) (h : Hp) : CRes :=
  boolZ (ltZ r11 r10) fun b0 =>
  ifB b0
  (idxSK 1 r9 r11 fun v1 =>
  load1K h v1 fun v2 =>
  intK .i64 v2 fun i3 =>
  optK (sliceV env h 22 r0 none (some (Value.int .i64 r11)) none) fun v4 =>
  pairK (callF orc2 r1 [v4, (Value.int .i64 i3)] h) fun v5 h5 =>
  intK .i64 v5 fun i6 =>
  boolN (eqZ i6 (Int.ofNat 0)) fun b7 =>
  ifB b7
  (some (Value.tuple (List.toArray [(Value.int .i64 r11), (Value.int .i64 i6)]), h5))
  (wrap64 (Int.add r11 (Int.ofNat 1)) fun i8 =>
  S 1 (AL.v r0 (AL.v r1 (AL.v r9 (AL.i r10 (AL.i i8 AL.n))))) h5))
  (S 2 AL.n h)
noncomputable def P104x0 (S : Sg) (r0 : Value) (r1 : Value) (h : Hp) : CRes :=
  lenSK r0 fun i0 =>
  S 1 (AL.v r0 (AL.v r1 (AL.v r0 (AL.i i0 (AL.i (Int.ofNat 0) AL.n))))) h
noncomputable def T104 (S : Sg) : Sg := tabC 0 (uV fun r0 => uV fun r1 => uN fun h => P104x0 S r0 r1 h) (tabC 1 (uV fun r0 => uV fun r1 => uV fun r9 => uI fun r10 => uI fun r11 => uN fun h => P104x1 S r0 r1 r9 r10 r11 h) (tabC 2 (uN fun h => P104x2 S  h) (tabN)))
noncomputable def F104 (args : List Value) (h : Hp) : CRes := packVals [Kd.v, Kd.v] args fun al => rec' T104 1000000 0 al h
def nt104 : Nat := 2 + (27 - 2)
theorem q104x2 (S : Sg) (h : Hp) : P104x2 S  h = stepAt (regK env orc2 (nt104)) (finK env Try.f104.results.toList) (collect B104 A104 []) 2 S AL.n h := by kernel_rfl
theorem q104x1 (S : Sg) (r0 : Value) (r1 : Value) (r9 : Value) (r10 : Int) (r11 : Int) (h : Hp) : P104x1 S r0 r1 r9 r10 r11 h = stepAt (regK env orc2 (nt104)) (finK env Try.f104.results.toList) (collect B104 A104 []) 1 S (AL.v r0 (AL.v r1 (AL.v r9 (AL.i r10 (AL.i r11 AL.n))))) h := by kernel_rfl
theorem q104x0 (S : Sg) (r0 : Value) (r1 : Value) (h : Hp) : P104x0 S r0 r1 h = stepAt (regK env orc2 (nt104)) (finK env Try.f104.results.toList) (collect B104 A104 []) 0 S (AL.v r0 (AL.v r1 AL.n)) h := by kernel_rfl
theorem t104 (S : Sg) : Tab (fun l vs h => stepAt (regK env orc2 nt104) (finK env Try.f104.results.toList) (collect B104 A104 []) l S vs h) (T104 S) := by
  unfold T104
  refine Tab.cons 0 (fun vs0 h q e0 => ?_) ?_
  · obtain ⟨r0, vs1, rfl, e1⟩ := uV_some e0
    obtain ⟨r1, vs2, rfl, e2⟩ := uV_some e1
    obtain ⟨rfl, ee⟩ := uN_some e2
    exact (q104x0 S r0 r1 h).symm.trans ee
  refine Tab.cons 1 (fun vs0 h q e0 => ?_) ?_
  · obtain ⟨r0, vs1, rfl, e1⟩ := uV_some e0
    obtain ⟨r1, vs2, rfl, e2⟩ := uV_some e1
    obtain ⟨r9, vs3, rfl, e3⟩ := uV_some e2
    obtain ⟨r10, vs4, rfl, e4⟩ := uI_some e3
    obtain ⟨r11, vs5, rfl, e5⟩ := uI_some e4
    obtain ⟨rfl, ee⟩ := uN_some e5
    exact (q104x1 S r0 r1 r9 r10 r11 h).symm.trans ee
  refine Tab.cons 2 (fun vs0 h q e0 => ?_) ?_
  · 
    obtain ⟨rfl, ee⟩ := uN_some e0
    exact (q104x2 S  h).symm.trans ee
  exact Tab.nil
theorem r104 : ∀ args h v h', F104 args h = some (v, h') → Runs (C2) (.call 104 args.toArray h) (.ret v h') := by
  intro args h v h' e
  exact fun_sound (C := C2) (fn := Try.f104) (body := B104) (np := 2) (A := A104) (T := T104) (kinds := [Kd.v, Kd.v]) (by kernel_rfl) (by kernel_rfl) (by kernel_rfl) (by kernel_rfl) (regK_ok env_ok) (by kernel_rfl) (fun S => t104 S) e
noncomputable def orc3 := orcQ 104 F104 orc2
noncomputable def C3 : Cfg := cfg orc3
theorem ok3 : C3.Ok := orcQ_ok (C := C2) ok2 r104
noncomputable def B80 : Code := (Try.f80.body).getD .skip
def A80 : Ann := (Ann.node (some (0, [(0, Kd.v), (1, Kd.i .i64), (2, Kd.v)])) Ann.nil (Ann.node none (Ann.node none Ann.nil (Ann.node none (Ann.node none Ann.nil Ann.nil) Ann.nil)) (Ann.node none Ann.nil Ann.nil)))
noncomputable def P80x0 (S : Sg) (r0 : Value) (r1 : Int) (r2 : Value) (h : Hp) : CRes :=
  lenSK r0 fun i0 =>
  boolZ (ltZ r1 i0) fun b1 =>
  ifB b1
  (some (Value.tuple (List.toArray [(Value.int .i64 (Int.ofNat 0)), (Value.int .i64 (Int.ofNat 3))]), h))
  (pairK (callQ F104 [r0, r2] h) fun v2 h2 =>
  extK v2 0 fun v3 =>
  intK .i64 v3 fun i4 =>
  extK v2 1 fun v5 =>
  intK .i64 v5 fun i6 =>
  some (Value.tuple (List.toArray [(Value.int .i64 i4), (Value.int .i64 i6)]), h2))
noncomputable def T80 (S : Sg) : Sg := tabC 0 (uV fun r0 => uI fun r1 => uV fun r2 => uN fun h => P80x0 S r0 r1 r2 h) (tabN)
noncomputable def F80 (args : List Value) (h : Hp) : CRes := packVals [Kd.v, Kd.i .i64, Kd.v] args fun al => rec' T80 1000000 0 al h
def nt80 : Nat := 3 + (17 - 3)
theorem q80x0 (S : Sg) (r0 : Value) (r1 : Int) (r2 : Value) (h : Hp) : P80x0 S r0 r1 r2 h = stepAt (regK env orc3 (nt80)) (finK env Try.f80.results.toList) (collect B80 A80 []) 0 S (AL.v r0 (AL.i r1 (AL.v r2 AL.n))) h := by kernel_rfl
theorem t80 (S : Sg) : Tab (fun l vs h => stepAt (regK env orc3 nt80) (finK env Try.f80.results.toList) (collect B80 A80 []) l S vs h) (T80 S) := by
  unfold T80
  refine Tab.cons 0 (fun vs0 h q e0 => ?_) ?_
  · obtain ⟨r0, vs1, rfl, e1⟩ := uV_some e0
    obtain ⟨r1, vs2, rfl, e2⟩ := uI_some e1
    obtain ⟨r2, vs3, rfl, e3⟩ := uV_some e2
    obtain ⟨rfl, ee⟩ := uN_some e3
    exact (q80x0 S r0 r1 r2 h).symm.trans ee
  exact Tab.nil
theorem r80 : ∀ args h v h', F80 args h = some (v, h') → Runs (C3) (.call 80 args.toArray h) (.ret v h') := by
  intro args h v h' e
  exact fun_sound (C := C3) (fn := Try.f80) (body := B80) (np := 3) (A := A80) (T := T80) (kinds := [Kd.v, Kd.i .i64, Kd.v]) (by kernel_rfl) (by kernel_rfl) (by kernel_rfl) (by kernel_rfl) (regK_ok env_ok) (by kernel_rfl) (fun S => t80 S) e
noncomputable def orc4 := orcQ 80 F80 orc3
noncomputable def C4 : Cfg := cfg orc4
theorem ok4 : C4.Ok := orcQ_ok (C := C3) ok3 r80
noncomputable def B48 : Code := (Try.f48.body).getD .skip
def A48 : Ann := (Ann.node (some (0, [(0, Kd.v), (1, Kd.i .i64), (2, Kd.i .i64)])) Ann.nil (Ann.node none (Ann.node none Ann.nil (Ann.node none (Ann.node none Ann.nil Ann.nil) Ann.nil)) (Ann.node none Ann.nil Ann.nil)))
noncomputable def P48x0 (S : Sg) (r0 : Value) (r1 : Int) (r2 : Int) (h : Hp) : CRes :=
  allocK h 3 [(Value.int .i64 r2)] fun a0 h0 =>
  lenSK r0 fun i1 =>
  boolZ (eqZ i1 (Int.ofNat 0)) fun b2 =>
  ifB b2
  (some (Value.tuple (List.toArray [(Value.int .i64 (Int.ofNat 0)), (Value.int .i64 (Int.ofNat 3))]), h0))
  (pairK (callQ F80 [r0, (Value.int .i64 r1), (Value.func (.func 81) (List.toArray []) (List.toArray [a0]))] h0) fun v3 h3 =>
  extK v3 0 fun v4 =>
  intK .i64 v4 fun i5 =>
  extK v3 1 fun v6 =>
  intK .i64 v6 fun i7 =>
  some (Value.tuple (List.toArray [(Value.int .i64 i5), (Value.int .i64 i7)]), h3))
noncomputable def T48 (S : Sg) : Sg := tabC 0 (uV fun r0 => uI fun r1 => uI fun r2 => uN fun h => P48x0 S r0 r1 r2 h) (tabN)
noncomputable def F48 (args : List Value) (h : Hp) : CRes := packVals [Kd.v, Kd.i .i64, Kd.i .i64] args fun al => rec' T48 1000000 0 al h
def nt48 : Nat := 3 + (17 - 3)
theorem q48x0 (S : Sg) (r0 : Value) (r1 : Int) (r2 : Int) (h : Hp) : P48x0 S r0 r1 r2 h = stepAt (regK env orc4 (nt48)) (finK env Try.f48.results.toList) (collect B48 A48 []) 0 S (AL.v r0 (AL.i r1 (AL.i r2 AL.n))) h := by kernel_rfl
theorem t48 (S : Sg) : Tab (fun l vs h => stepAt (regK env orc4 nt48) (finK env Try.f48.results.toList) (collect B48 A48 []) l S vs h) (T48 S) := by
  unfold T48
  refine Tab.cons 0 (fun vs0 h q e0 => ?_) ?_
  · obtain ⟨r0, vs1, rfl, e1⟩ := uV_some e0
    obtain ⟨r1, vs2, rfl, e2⟩ := uI_some e1
    obtain ⟨r2, vs3, rfl, e3⟩ := uI_some e2
    obtain ⟨rfl, ee⟩ := uN_some e3
    exact (q48x0 S r0 r1 r2 h).symm.trans ee
  exact Tab.nil
theorem r48 : ∀ args h v h', F48 args h = some (v, h') → Runs (C4) (.call 48 args.toArray h) (.ret v h') := by
  intro args h v h' e
  exact fun_sound (C := C4) (fn := Try.f48) (body := B48) (np := 3) (A := A48) (T := T48) (kinds := [Kd.v, Kd.i .i64, Kd.i .i64]) (by kernel_rfl) (by kernel_rfl) (by kernel_rfl) (by kernel_rfl) (regK_ok env_ok) (by kernel_rfl) (fun S => t48 S) e
noncomputable def orc5 := orcQ 48 F48 orc4
noncomputable def C5 : Cfg := cfg orc5
theorem ok5 : C5.Ok := orcQ_ok (C := C4) ok4 r48
noncomputable def B87 : Code := (Try.f87.body).getD .skip
noncomputable def A87 : G.Ann (List KI) := (G.Ann.node (some (0, [KI.reg 0 (Kd.v), KI.reg 1 (Kd.v)])) G.Ann.nil (G.Ann.node none G.Ann.nil G.Ann.nil))
noncomputable def P87x0 (h : Hp) (S : Nat → PAL → Option Value) (r0 : Value) (r1 : Value) : Option Value :=
  forceL (Array.toList (Value.cells r0)) fun c0 =>
  nthR c0 0 fun v1 =>
  ptrAddK 0 r1 fun v2 =>
  load1K h v2 fun v3 =>
  optK (binV env .eql 9 (Operand.tmp 5) (Operand.tmp 7) v1 v3) fun v4 =>
  boolK v4 fun b5 =>
  some (Value.bool b5)
noncomputable def T87 (h : Hp) (S : Nat → PAL → Option Value) : Nat → PAL → Option Value := tabPC 0 (wV fun r0 => wV fun r1 => wN (P87x0 h S r0 r1)) (tabPN)
noncomputable def F87 (args : List Value) (h : Hp) : Option Value := plainO (packArgs [Kd.v, Kd.v] args fun al => G.rec' (T87 h) 1000000 0 al)
def nt87 : Nat := 2 + (9 - 2)
theorem q87x0 (h : Hp) (S : Nat → PAL → Option Value) (r0 : Value) (r1 : Value) : P87x0 h S r0 r1 = G.stepAt packP unpackP evXV (regP env pf1 nt87 h) (finP env Try.f87.results.toList) (G.collect B87 A87 []) 0 S (PAL.v r0 (PAL.v r1 PAL.n)) := by kernel_rfl
theorem t87 (h : Hp) (S : Nat → PAL → Option Value) : TabP (fun l al => G.stepAt packP unpackP evXV (regP env pf1 nt87 h) (finP env Try.f87.results.toList) (G.collect B87 A87 []) l S al) (T87 h S) := by
  unfold T87
  refine TabP.cons 0 (fun vs0 q e0 => ?_) ?_
  · obtain ⟨r0, vs1, rfl, e1⟩ := wV_some e0
    obtain ⟨r1, vs2, rfl, e2⟩ := wV_some e1
    obtain ⟨rfl, ee⟩ := wN_some e2
    exact (q87x0 h S r0 r1).symm.trans ee
  exact TabP.nil
theorem r87 : PSound Try.prog 87 F87 := fun_soundP (C := C0) ok0 (pf := pf1) pfok1 (fn := Try.f87) (body := B87) (kinds := [Kd.v, Kd.v]) (A := A87) (T := T87) (by kernel_rfl) (by kernel_rfl) (by kernel_rfl) (by kernel_rfl) (fun h S => t87 h S)
noncomputable def pf2 : PF := pfC 87 F87 pf1
theorem pfok2 : PfSound Try.prog pf2 := pfC_ok r87 pfok1
noncomputable def orc6 := orcP 87 F87 orc5
noncomputable def C6 : Cfg := cfg orc6
theorem ok6 : C6.Ok := orcP_ok (C := C5) ok5 r87
noncomputable def B106 : Code := (Try.f106.body).getD .skip
noncomputable def A106 : G.Ann (List KI) := (G.Ann.node (some (0, [KI.reg 0 (Kd.i .u8)])) G.Ann.nil (G.Ann.node none G.Ann.nil G.Ann.nil))
noncomputable def P106x0 (h : Hp) (S : Nat → PAL → Option Value) (r0 : Int) : Option Value :=
  boolN (ltZ r0 (Int.ofNat 97)) fun b0 =>
  ifB b0
  (boolN (ltZ (Int.ofNat 122) r0) fun b1 =>
  some (Value.bool b1))
  (some (Value.bool false))
noncomputable def T106 (h : Hp) (S : Nat → PAL → Option Value) : Nat → PAL → Option Value := tabPC 0 (wI fun r0 => wN (P106x0 h S r0)) (tabPN)
noncomputable def F106 (args : List Value) (h : Hp) : Option Value := plainO (packArgs [Kd.i .u8] args fun al => G.rec' (T106 h) 1000000 0 al)
def nt106 : Nat := 1 + (9 - 1)
theorem q106x0 (h : Hp) (S : Nat → PAL → Option Value) (r0 : Int) : P106x0 h S r0 = G.stepAt packP unpackP evXV (regP env pf2 nt106 h) (finP env Try.f106.results.toList) (G.collect B106 A106 []) 0 S (PAL.i r0 PAL.n) := by kernel_rfl
theorem t106 (h : Hp) (S : Nat → PAL → Option Value) : TabP (fun l al => G.stepAt packP unpackP evXV (regP env pf2 nt106 h) (finP env Try.f106.results.toList) (G.collect B106 A106 []) l S al) (T106 h S) := by
  unfold T106
  refine TabP.cons 0 (fun vs0 q e0 => ?_) ?_
  · obtain ⟨r0, vs1, rfl, e1⟩ := wI_some e0
    obtain ⟨rfl, ee⟩ := wN_some e1
    exact (q106x0 h S r0).symm.trans ee
  exact TabP.nil
theorem r106 : PSound Try.prog 106 F106 := fun_soundP (C := C0) ok0 (pf := pf2) pfok2 (fn := Try.f106) (body := B106) (kinds := [Kd.i .u8]) (A := A106) (T := T106) (by kernel_rfl) (by kernel_rfl) (by kernel_rfl) (by kernel_rfl) (fun h S => t106 h S)
noncomputable def pf3 : PF := pfC 106 F106 pf2
theorem pfok3 : PfSound Try.prog pf3 := pfC_ok r106 pfok2
noncomputable def orc7 := orcP 106 F106 orc6
noncomputable def C7 : Cfg := cfg orc7
theorem ok7 : C7.Ok := orcP_ok (C := C6) ok6 r106
noncomputable def B107 : Code := (Try.f107.body).getD .skip
noncomputable def A107 : G.Ann (List KI) := (G.Ann.node (some (0, [KI.reg 0 (Kd.i .u8)])) G.Ann.nil (G.Ann.node none G.Ann.nil G.Ann.nil))
noncomputable def P107x0 (h : Hp) (S : Nat → PAL → Option Value) (r0 : Int) : Option Value :=
  boolN (ltZ r0 (Int.ofNat 48)) fun b0 =>
  ifB b0
  (boolN (ltZ (Int.ofNat 57) r0) fun b1 =>
  some (Value.bool b1))
  (some (Value.bool false))
noncomputable def T107 (h : Hp) (S : Nat → PAL → Option Value) : Nat → PAL → Option Value := tabPC 0 (wI fun r0 => wN (P107x0 h S r0)) (tabPN)
noncomputable def F107 (args : List Value) (h : Hp) : Option Value := plainO (packArgs [Kd.i .u8] args fun al => G.rec' (T107 h) 1000000 0 al)
def nt107 : Nat := 1 + (9 - 1)
theorem q107x0 (h : Hp) (S : Nat → PAL → Option Value) (r0 : Int) : P107x0 h S r0 = G.stepAt packP unpackP evXV (regP env pf3 nt107 h) (finP env Try.f107.results.toList) (G.collect B107 A107 []) 0 S (PAL.i r0 PAL.n) := by kernel_rfl
theorem t107 (h : Hp) (S : Nat → PAL → Option Value) : TabP (fun l al => G.stepAt packP unpackP evXV (regP env pf3 nt107 h) (finP env Try.f107.results.toList) (G.collect B107 A107 []) l S al) (T107 h S) := by
  unfold T107
  refine TabP.cons 0 (fun vs0 q e0 => ?_) ?_
  · obtain ⟨r0, vs1, rfl, e1⟩ := wI_some e0
    obtain ⟨rfl, ee⟩ := wN_some e1
    exact (q107x0 h S r0).symm.trans ee
  exact TabP.nil
theorem r107 : PSound Try.prog 107 F107 := fun_soundP (C := C0) ok0 (pf := pf3) pfok3 (fn := Try.f107) (body := B107) (kinds := [Kd.i .u8]) (A := A107) (T := T107) (by kernel_rfl) (by kernel_rfl) (by kernel_rfl) (by kernel_rfl) (fun h S => t107 h S)
noncomputable def pf4 : PF := pfC 107 F107 pf3
theorem pfok4 : PfSound Try.prog pf4 := pfC_ok r107 pfok3
noncomputable def orc8 := orcP 107 F107 orc7
noncomputable def C8 : Cfg := cfg orc8
theorem ok8 : C8.Ok := orcP_ok (C := C7) ok7 r107
noncomputable def B85 : Code := (Try.f85.body).getD .skip
def A85 : Ann := (Ann.node (some (0, [(0, Kd.v)])) Ann.nil (Ann.node none (Ann.node none Ann.nil (Ann.node none (Ann.node none Ann.nil Ann.nil) Ann.nil)) (Ann.node none (Ann.node none Ann.nil (Ann.node none (Ann.node (some (1, [(0, Kd.v), (16, Kd.i .i64), (17, Kd.i .i64)])) (Ann.node none Ann.nil (Ann.node none (Ann.node none Ann.nil Ann.nil) (Ann.node none (Ann.node none (Ann.node none Ann.nil (Ann.node none Ann.nil (Ann.node none (Ann.node none Ann.nil Ann.nil) Ann.nil))) Ann.nil) Ann.nil))) Ann.nil) Ann.nil)) (Ann.node (some (2, [])) Ann.nil Ann.nil))))
noncomputable def P85x2 (S : Sg) (h : Hp) : CRes :=
  some ((Value.bool true), h)
noncomputable def P85x1 (S : Sg) (r0 : Value) (r16 : Int) (r17 : Int) (h : Hp) : CRes :=
  boolZ (ltZ r17 r16) fun b0 =>
  ifB b0
  (optK (indexV env 9 r0 (Value.int .i64 r17)) fun v1 =>
  intK .u8 v1 fun i2 =>
  pairK (optK (F106 [(Value.int .u8 i2)] h) fun v => some (v, h)) fun v3 h3 =>
  boolK v3 fun b4 =>
  boolN b4 fun b5 =>
  ifB b5
  (optK (indexV env 9 r0 (Value.int .i64 r17)) fun v6 =>
  intK .u8 v6 fun i7 =>
  pairK (optK (F107 [(Value.int .u8 i7)] h3) fun v => some (v, h3)) fun v8 h8 =>
  boolK v8 fun b9 =>
  boolN b9 fun b10 =>
  ifB b10
  (optK (indexV env 9 r0 (Value.int .i64 r17)) fun v11 =>
  intK .u8 v11 fun i12 =>
  boolN (eqZ i12 (Int.ofNat 46)) fun b13 =>
  ifB b13
  (some ((Value.bool false), h8))
  (wrap64 (Int.add r17 (Int.ofNat 1)) fun i14 =>
  S 1 (AL.v r0 (AL.i r16 (AL.i i14 AL.n))) h8))
  (wrap64 (Int.add r17 (Int.ofNat 1)) fun i15 =>
  S 1 (AL.v r0 (AL.i r16 (AL.i i15 AL.n))) h8))
  (wrap64 (Int.add r17 (Int.ofNat 1)) fun i16 =>
  S 1 (AL.v r0 (AL.i r16 (AL.i i16 AL.n))) h3))
  (S 2 AL.n h)
noncomputable def P85x0 (S : Sg) (r0 : Value) (h : Hp) : CRes :=
  lenBK r0 fun i0 =>
  pairK (buildSliceV env h 22 1 (List.toArray [(0, (Value.int .i64 i0))])) fun v1 h1 =>
  pairK (optK (F82 [(Value.int .i64 (Int.ofNat 1)), (Value.int .i64 (Int.ofNat 16)), v1] h1) fun v => some (v, h1)) fun v2 h2 =>
  boolK v2 fun b3 =>
  boolN b3 fun b4 =>
  ifB b4
  (some ((Value.bool false), h2))
  (optK (indexV env 9 r0 (Value.int .i64 (Int.ofNat 0))) fun v5 =>
  intK .u8 v5 fun i6 =>
  pairK (optK (F106 [(Value.int .u8 i6)] h2) fun v => some (v, h2)) fun v7 h7 =>
  boolK v7 fun b8 =>
  boolN b8 fun b9 =>
  ifB b9
  (some ((Value.bool false), h7))
  (lenBK r0 fun i10 =>
  S 1 (AL.v r0 (AL.i i10 (AL.i (Int.ofNat 0) AL.n))) h7))
noncomputable def T85 (S : Sg) : Sg := tabC 0 (uV fun r0 => uN fun h => P85x0 S r0 h) (tabC 1 (uV fun r0 => uI fun r16 => uI fun r17 => uN fun h => P85x1 S r0 r16 r17 h) (tabC 2 (uN fun h => P85x2 S  h) (tabN)))
noncomputable def F85 (args : List Value) (h : Hp) : CRes := packVals [Kd.v] args fun al => rec' T85 1000000 0 al h
def nt85 : Nat := 1 + (39 - 1)
theorem q85x2 (S : Sg) (h : Hp) : P85x2 S  h = stepAt (regK env orc8 (nt85)) (finK env Try.f85.results.toList) (collect B85 A85 []) 2 S AL.n h := by kernel_rfl
theorem q85x1 (S : Sg) (r0 : Value) (r16 : Int) (r17 : Int) (h : Hp) : P85x1 S r0 r16 r17 h = stepAt (regK env orc8 (nt85)) (finK env Try.f85.results.toList) (collect B85 A85 []) 1 S (AL.v r0 (AL.i r16 (AL.i r17 AL.n))) h := by kernel_rfl
theorem q85x0 (S : Sg) (r0 : Value) (h : Hp) : P85x0 S r0 h = stepAt (regK env orc8 (nt85)) (finK env Try.f85.results.toList) (collect B85 A85 []) 0 S (AL.v r0 AL.n) h := by kernel_rfl
theorem t85 (S : Sg) : Tab (fun l vs h => stepAt (regK env orc8 nt85) (finK env Try.f85.results.toList) (collect B85 A85 []) l S vs h) (T85 S) := by
  unfold T85
  refine Tab.cons 0 (fun vs0 h q e0 => ?_) ?_
  · obtain ⟨r0, vs1, rfl, e1⟩ := uV_some e0
    obtain ⟨rfl, ee⟩ := uN_some e1
    exact (q85x0 S r0 h).symm.trans ee
  refine Tab.cons 1 (fun vs0 h q e0 => ?_) ?_
  · obtain ⟨r0, vs1, rfl, e1⟩ := uV_some e0
    obtain ⟨r16, vs2, rfl, e2⟩ := uI_some e1
    obtain ⟨r17, vs3, rfl, e3⟩ := uI_some e2
    obtain ⟨rfl, ee⟩ := uN_some e3
    exact (q85x1 S r0 r16 r17 h).symm.trans ee
  refine Tab.cons 2 (fun vs0 h q e0 => ?_) ?_
  · 
    obtain ⟨rfl, ee⟩ := uN_some e0
    exact (q85x2 S  h).symm.trans ee
  exact Tab.nil
theorem r85 : ∀ args h v h', F85 args h = some (v, h') → Runs (C8) (.call 85 args.toArray h) (.ret v h') := by
  intro args h v h' e
  exact fun_sound (C := C8) (fn := Try.f85) (body := B85) (np := 1) (A := A85) (T := T85) (kinds := [Kd.v]) (by kernel_rfl) (by kernel_rfl) (by kernel_rfl) (by kernel_rfl) (regK_ok env_ok) (by kernel_rfl) (fun S => t85 S) e
noncomputable def orc9 := orcQ 85 F85 orc8
noncomputable def C9 : Cfg := cfg orc9
theorem ok9 : C9.Ok := orcQ_ok (C := C8) ok8 r85
noncomputable def B108 : Code := (Try.f108.body).getD .skip
def A108 : Ann := (Ann.node (some (0, [(0, Kd.v), (1, Kd.v)])) Ann.nil (Ann.node none (Ann.node none Ann.nil (Ann.node none (Ann.node (some (1, [(0, Kd.v), (1, Kd.v), (7, Kd.i .i64), (8, Kd.i .i64)])) (Ann.node none Ann.nil (Ann.node none (Ann.node none Ann.nil Ann.nil) (Ann.node none (Ann.node none (Ann.node none Ann.nil (Ann.node none Ann.nil (Ann.node none (Ann.node none Ann.nil Ann.nil) Ann.nil))) Ann.nil) Ann.nil))) Ann.nil) Ann.nil)) (Ann.node (some (2, [])) Ann.nil Ann.nil)))
noncomputable def P108x2 (S : Sg) (h : Hp) : CRes :=
  some ((Value.int .i64 (Int.negSucc 0)), h)
noncomputable def P108x1 (S : Sg) (r0 : Value) (r1 : Value) (r7 : Int) (r8 : Int) (h : Hp) : CRes :=
  boolZ (ltZ r8 r7) fun b0 =>
  ifB b0
  (idxSK 3 r0 r8 fun v1 =>
  loadNK 3 h v1 fun v2 =>
  pairK (callF orc9 r1 [v2] h) fun v3 h3 =>
  boolK v3 fun b4 =>
  ifB b4
  (some ((Value.int .i64 r8), h3))
  (wrap64 (Int.add r8 (Int.ofNat 1)) fun i5 =>
  S 1 (AL.v r0 (AL.v r1 (AL.i r7 (AL.i i5 AL.n)))) h3))
  (S 2 AL.n h)
noncomputable def P108x0 (S : Sg) (r0 : Value) (r1 : Value) (h : Hp) : CRes :=
  lenSK r0 fun i0 =>
  S 1 (AL.v r0 (AL.v r1 (AL.i i0 (AL.i (Int.ofNat 0) AL.n)))) h
noncomputable def T108 (S : Sg) : Sg := tabC 0 (uV fun r0 => uV fun r1 => uN fun h => P108x0 S r0 r1 h) (tabC 1 (uV fun r0 => uV fun r1 => uI fun r7 => uI fun r8 => uN fun h => P108x1 S r0 r1 r7 r8 h) (tabC 2 (uN fun h => P108x2 S  h) (tabN)))
noncomputable def F108 (args : List Value) (h : Hp) : CRes := packVals [Kd.v, Kd.v] args fun al => rec' T108 1000000 0 al h
def nt108 : Nat := 2 + (19 - 2)
theorem q108x2 (S : Sg) (h : Hp) : P108x2 S  h = stepAt (regK env orc9 (nt108)) (finK env Try.f108.results.toList) (collect B108 A108 []) 2 S AL.n h := by kernel_rfl
theorem q108x1 (S : Sg) (r0 : Value) (r1 : Value) (r7 : Int) (r8 : Int) (h : Hp) : P108x1 S r0 r1 r7 r8 h = stepAt (regK env orc9 (nt108)) (finK env Try.f108.results.toList) (collect B108 A108 []) 1 S (AL.v r0 (AL.v r1 (AL.i r7 (AL.i r8 AL.n)))) h := by kernel_rfl
theorem q108x0 (S : Sg) (r0 : Value) (r1 : Value) (h : Hp) : P108x0 S r0 r1 h = stepAt (regK env orc9 (nt108)) (finK env Try.f108.results.toList) (collect B108 A108 []) 0 S (AL.v r0 (AL.v r1 AL.n)) h := by kernel_rfl
theorem t108 (S : Sg) : Tab (fun l vs h => stepAt (regK env orc9 nt108) (finK env Try.f108.results.toList) (collect B108 A108 []) l S vs h) (T108 S) := by
  unfold T108
  refine Tab.cons 0 (fun vs0 h q e0 => ?_) ?_
  · obtain ⟨r0, vs1, rfl, e1⟩ := uV_some e0
    obtain ⟨r1, vs2, rfl, e2⟩ := uV_some e1
    obtain ⟨rfl, ee⟩ := uN_some e2
    exact (q108x0 S r0 r1 h).symm.trans ee
  refine Tab.cons 1 (fun vs0 h q e0 => ?_) ?_
  · obtain ⟨r0, vs1, rfl, e1⟩ := uV_some e0
    obtain ⟨r1, vs2, rfl, e2⟩ := uV_some e1
    obtain ⟨r7, vs3, rfl, e3⟩ := uI_some e2
    obtain ⟨r8, vs4, rfl, e4⟩ := uI_some e3
    obtain ⟨rfl, ee⟩ := uN_some e4
    exact (q108x1 S r0 r1 r7 r8 h).symm.trans ee
  refine Tab.cons 2 (fun vs0 h q e0 => ?_) ?_
  · 
    obtain ⟨rfl, ee⟩ := uN_some e0
    exact (q108x2 S  h).symm.trans ee
  exact Tab.nil
theorem r108 : ∀ args h v h', F108 args h = some (v, h') → Runs (C9) (.call 108 args.toArray h) (.ret v h') := by
  intro args h v h' e
  exact fun_sound (C := C9) (fn := Try.f108) (body := B108) (np := 2) (A := A108) (T := T108) (kinds := [Kd.v, Kd.v]) (by kernel_rfl) (by kernel_rfl) (by kernel_rfl) (by kernel_rfl) (regK_ok env_ok) (by kernel_rfl) (fun S => t108 S) e
noncomputable def orc10 := orcQ 108 F108 orc9
noncomputable def C10 : Cfg := cfg orc10
theorem ok10 : C10.Ok := orcQ_ok (C := C9) ok9 r108
noncomputable def B86 : Code := (Try.f86.body).getD .skip
def A86 : Ann := (Ann.node (some (0, [(0, Kd.v), (1, Kd.v)])) Ann.nil (Ann.node none Ann.nil Ann.nil))
noncomputable def P86x0 (S : Sg) (r0 : Value) (r1 : Value) (h : Hp) : CRes :=
  pairK (callQ F108 [r0, r1] h) fun v0 h0 =>
  intK .i64 v0 fun i1 =>
  boolN (ltZ i1 (Int.ofNat 0)) fun b2 =>
  some ((Value.bool b2), h0)
noncomputable def T86 (S : Sg) : Sg := tabC 0 (uV fun r0 => uV fun r1 => uN fun h => P86x0 S r0 r1 h) (tabN)
noncomputable def F86 (args : List Value) (h : Hp) : CRes := packVals [Kd.v, Kd.v] args fun al => rec' T86 1000000 0 al h
def nt86 : Nat := 2 + (9 - 2)
theorem q86x0 (S : Sg) (r0 : Value) (r1 : Value) (h : Hp) : P86x0 S r0 r1 h = stepAt (regK env orc10 (nt86)) (finK env Try.f86.results.toList) (collect B86 A86 []) 0 S (AL.v r0 (AL.v r1 AL.n)) h := by kernel_rfl
theorem t86 (S : Sg) : Tab (fun l vs h => stepAt (regK env orc10 nt86) (finK env Try.f86.results.toList) (collect B86 A86 []) l S vs h) (T86 S) := by
  unfold T86
  refine Tab.cons 0 (fun vs0 h q e0 => ?_) ?_
  · obtain ⟨r0, vs1, rfl, e1⟩ := uV_some e0
    obtain ⟨r1, vs2, rfl, e2⟩ := uV_some e1
    obtain ⟨rfl, ee⟩ := uN_some e2
    exact (q86x0 S r0 r1 h).symm.trans ee
  exact Tab.nil
theorem r86 : ∀ args h v h', F86 args h = some (v, h') → Runs (C10) (.call 86 args.toArray h) (.ret v h') := by
  intro args h v h' e
  exact fun_sound (C := C10) (fn := Try.f86) (body := B86) (np := 2) (A := A86) (T := T86) (kinds := [Kd.v, Kd.v]) (by kernel_rfl) (by kernel_rfl) (by kernel_rfl) (by kernel_rfl) (regK_ok env_ok) (by kernel_rfl) (fun S => t86 S) e
noncomputable def orc11 := orcQ 86 F86 orc10
noncomputable def C11 : Cfg := cfg orc11
theorem ok11 : C11.Ok := orcQ_ok (C := C10) ok10 r86
noncomputable def B84 : Code := (Try.f84.body).getD .skip
def A84 : Ann := (Ann.node (some (0, [(0, Kd.v), (1, Kd.v), (2, Kd.v), (3, Kd.v)])) Ann.nil (Ann.node none (Ann.node none (Ann.node none Ann.nil (Ann.node none (Ann.node none Ann.nil Ann.nil) (Ann.node none Ann.nil (Ann.node none (Ann.node none Ann.nil Ann.nil) (Ann.node none Ann.nil (Ann.node none (Ann.node none Ann.nil Ann.nil) (Ann.node none Ann.nil (Ann.node none (Ann.node none Ann.nil Ann.nil) (Ann.node none (Ann.node none Ann.nil (Ann.node none Ann.nil Ann.nil)) (Ann.node none (Ann.node none Ann.nil Ann.nil) Ann.nil)))))))))) Ann.nil) (Ann.node none Ann.nil Ann.nil)))
noncomputable def P84x0 (S : Sg) (r0 : Value) (r1 : Value) (r2 : Value) (r3 : Value) (h : Hp) : CRes :=
  allocK h 59 (Array.toList (Value.cells r1)) fun a0 h0 =>
  ptrAddK 0 a0 fun v1 =>
  load1K h0 v1 fun v2 =>
  pairK (callQ F85 [v2] h0) fun v3 h3 =>
  boolK v3 fun b4 =>
  boolN b4 fun b5 =>
  ifB b5
  (some ((Value.int .i64 (Int.ofNat 6)), h3))
  (pairK (callQ F86 [r0, (Value.func (.func 87) (List.toArray []) (List.toArray [a0]))] h3) fun v6 h6 =>
  boolK v6 fun b7 =>
  ifB b7
  (some ((Value.int .i64 (Int.ofNat 5)), h6))
  (ptrAddK 1 a0 fun v8 =>
  load1K h6 v8 fun v9 =>
  lenSK v9 fun i10 =>
  ptrAddK 0 r2 fun v11 =>
  load1K h6 v11 fun v12 =>
  lenSK v12 fun i13 =>
  boolN (eqZ i10 i13) fun b14 =>
  ifB b14
  (some ((Value.int .i64 (Int.ofNat 3)), h6))
  (load1K h6 r3 fun v15 =>
  intK .i64 v15 fun i16 =>
  ptrAddK 1 r2 fun v17 =>
  load1K h6 v17 fun v18 =>
  lenSK v18 fun i19 =>
  wrap64 (Int.sub i19 (Int.ofNat 1)) fun i20 =>
  ptrAddK 1 a0 fun v21 =>
  load1K h6 v21 fun v22 =>
  idxSK 1 v22 (Int.ofNat 0) fun v23 =>
  load1K h6 v23 fun v24 =>
  intK .i64 v24 fun i25 =>
  pairK (buildSliceV env h6 22 1 (List.toArray [(0, (Value.int .i64 i25))])) fun v26 h26 =>
  pairK (optK (F82 [(Value.int .i64 i16), (Value.int .i64 i20), v26] h26) fun v => some (v, h26)) fun v27 h27 =>
  boolK v27 fun b28 =>
  boolN b28 fun b29 =>
  ifB b29
  (some ((Value.int .i64 (Int.ofNat 4)), h27))
  (load1K h27 r3 fun v30 =>
  intK .i64 v30 fun i31 =>
  ptrAddK 1 a0 fun v32 =>
  load1K h27 v32 fun v33 =>
  optK (sliceV env h27 22 v33 (some (Value.int .i64 (Int.ofNat 1))) none none) fun v34 =>
  pairK (optK (F82 [(Value.int .i64 i31), (Value.int .i64 (Int.ofNat 5)), v34] h27) fun v => some (v, h27)) fun v35 h35 =>
  boolK v35 fun b36 =>
  boolN b36 fun b37 =>
  ifB b37
  (ifB b37
  (some ((Value.int .i64 (Int.ofNat 7)), h35))
  (some ((Value.int .i64 (Int.ofNat 0)), h35)))
  (ptrAddK 2 a0 fun v38 =>
  load1K h35 v38 fun v39 =>
  intK .i64 v39 fun i40 =>
  pairK (buildSliceV env h35 22 1 (List.toArray [(0, (Value.int .i64 i40))])) fun v41 h41 =>
  pairK (optK (F82 [(Value.int .i64 (Int.ofNat 0)), (Value.int .i64 (Int.ofNat 50)), v41] h41) fun v => some (v, h41)) fun v42 h42 =>
  boolK v42 fun b43 =>
  boolN b43 fun b44 =>
  ifB b44
  (some ((Value.int .i64 (Int.ofNat 7)), h42))
  (some ((Value.int .i64 (Int.ofNat 0)), h42)))))))
noncomputable def T84 (S : Sg) : Sg := tabC 0 (uV fun r0 => uV fun r1 => uV fun r2 => uV fun r3 => uN fun h => P84x0 S r0 r1 r2 r3 h) (tabN)
noncomputable def F84 (args : List Value) (h : Hp) : CRes := packVals [Kd.v, Kd.v, Kd.v, Kd.v] args fun al => rec' T84 1000000 0 al h
def nt84 : Nat := 4 + (49 - 4)
theorem q84x0 (S : Sg) (r0 : Value) (r1 : Value) (r2 : Value) (r3 : Value) (h : Hp) : P84x0 S r0 r1 r2 r3 h = stepAt (regK env orc11 (nt84)) (finK env Try.f84.results.toList) (collect B84 A84 []) 0 S (AL.v r0 (AL.v r1 (AL.v r2 (AL.v r3 AL.n)))) h := by kernel_rfl
theorem t84 (S : Sg) : Tab (fun l vs h => stepAt (regK env orc11 nt84) (finK env Try.f84.results.toList) (collect B84 A84 []) l S vs h) (T84 S) := by
  unfold T84
  refine Tab.cons 0 (fun vs0 h q e0 => ?_) ?_
  · obtain ⟨r0, vs1, rfl, e1⟩ := uV_some e0
    obtain ⟨r1, vs2, rfl, e2⟩ := uV_some e1
    obtain ⟨r2, vs3, rfl, e3⟩ := uV_some e2
    obtain ⟨r3, vs4, rfl, e4⟩ := uV_some e3
    obtain ⟨rfl, ee⟩ := uN_some e4
    exact (q84x0 S r0 r1 r2 r3 h).symm.trans ee
  exact Tab.nil
theorem r84 : ∀ args h v h', F84 args h = some (v, h') → Runs (C11) (.call 84 args.toArray h) (.ret v h') := by
  intro args h v h' e
  exact fun_sound (C := C11) (fn := Try.f84) (body := B84) (np := 4) (A := A84) (T := T84) (kinds := [Kd.v, Kd.v, Kd.v, Kd.v]) (by kernel_rfl) (by kernel_rfl) (by kernel_rfl) (by kernel_rfl) (regK_ok env_ok) (by kernel_rfl) (fun S => t84 S) e
noncomputable def orc12 := orcQ 84 F84 orc11
noncomputable def C12 : Cfg := cfg orc12
theorem ok12 : C12.Ok := orcQ_ok (C := C11) ok11 r84
noncomputable def B105 : Code := (Try.f105.body).getD .skip
def A105 : Ann := (Ann.node (some (0, [(0, Kd.v), (1, Kd.v)])) Ann.nil (Ann.node none (Ann.node none Ann.nil (Ann.node none (Ann.node (some (1, [(0, Kd.v), (1, Kd.v), (9, Kd.v), (10, Kd.i .i64), (11, Kd.i .i64)])) (Ann.node none Ann.nil (Ann.node none (Ann.node none Ann.nil Ann.nil) (Ann.node none (Ann.node none (Ann.node none Ann.nil (Ann.node none Ann.nil (Ann.node none Ann.nil (Ann.node none (Ann.node none Ann.nil Ann.nil) Ann.nil)))) Ann.nil) Ann.nil))) Ann.nil) Ann.nil)) (Ann.node (some (2, [])) Ann.nil Ann.nil)))
noncomputable def P105x2 (S : Sg) (h : Hp) : CRes :=
  some (Value.tuple (List.toArray [(Value.int .i64 (Int.ofNat 0)), (Value.int .i64 (Int.ofNat 0))]), h)
noncomputable def P105x1 (S : Sg) (r0 : Value) (r1 : Value) (r9 : Value) (r10 : Int) (r11 : Int) (h : Hp) : CRes :=
  boolZ (ltZ r11 r10) fun b0 =>
  ifB b0
  (idxSK 3 r9 r11 fun v1 =>
  loadNK 3 h v1 fun v2 =>
  allocK h 59 [(Value.string (ByteArray.mk #[])), (Value.slice none 0 0), (Value.int .i64 (Int.ofNat 0))] fun a3 h3 =>
  storeNK 3 h3 a3 v2 fun h4 =>
  optK (sliceV env h4 23 r0 none (some (Value.int .i64 r11)) none) fun v5 =>
  loadNK 3 h4 a3 fun v6 =>
  pairK (callF orc12 r1 [v5, v6] h4) fun v7 h7 =>
  intK .i64 v7 fun i8 =>
  boolN (eqZ i8 (Int.ofNat 0)) fun b9 =>
  ifB b9
  (some (Value.tuple (List.toArray [(Value.int .i64 r11), (Value.int .i64 i8)]), h7))
  (wrap64 (Int.add r11 (Int.ofNat 1)) fun i10 =>
  S 1 (AL.v r0 (AL.v r1 (AL.v r9 (AL.i r10 (AL.i i10 AL.n))))) h7))
  (S 2 AL.n h)
noncomputable def P105x0 (S : Sg) (r0 : Value) (r1 : Value) (h : Hp) : CRes :=
  lenSK r0 fun i0 =>
  S 1 (AL.v r0 (AL.v r1 (AL.v r0 (AL.i i0 (AL.i (Int.ofNat 0) AL.n))))) h
noncomputable def T105 (S : Sg) : Sg := tabC 0 (uV fun r0 => uV fun r1 => uN fun h => P105x0 S r0 r1 h) (tabC 1 (uV fun r0 => uV fun r1 => uV fun r9 => uI fun r10 => uI fun r11 => uN fun h => P105x1 S r0 r1 r9 r10 r11 h) (tabC 2 (uN fun h => P105x2 S  h) (tabN)))
noncomputable def F105 (args : List Value) (h : Hp) : CRes := packVals [Kd.v, Kd.v] args fun al => rec' T105 1000000 0 al h
def nt105 : Nat := 2 + (27 - 2)
theorem q105x2 (S : Sg) (h : Hp) : P105x2 S  h = stepAt (regK env orc12 (nt105)) (finK env Try.f105.results.toList) (collect B105 A105 []) 2 S AL.n h := by kernel_rfl
theorem q105x1 (S : Sg) (r0 : Value) (r1 : Value) (r9 : Value) (r10 : Int) (r11 : Int) (h : Hp) : P105x1 S r0 r1 r9 r10 r11 h = stepAt (regK env orc12 (nt105)) (finK env Try.f105.results.toList) (collect B105 A105 []) 1 S (AL.v r0 (AL.v r1 (AL.v r9 (AL.i r10 (AL.i r11 AL.n))))) h := by kernel_rfl
theorem q105x0 (S : Sg) (r0 : Value) (r1 : Value) (h : Hp) : P105x0 S r0 r1 h = stepAt (regK env orc12 (nt105)) (finK env Try.f105.results.toList) (collect B105 A105 []) 0 S (AL.v r0 (AL.v r1 AL.n)) h := by kernel_rfl
theorem t105 (S : Sg) : Tab (fun l vs h => stepAt (regK env orc12 nt105) (finK env Try.f105.results.toList) (collect B105 A105 []) l S vs h) (T105 S) := by
  unfold T105
  refine Tab.cons 0 (fun vs0 h q e0 => ?_) ?_
  · obtain ⟨r0, vs1, rfl, e1⟩ := uV_some e0
    obtain ⟨r1, vs2, rfl, e2⟩ := uV_some e1
    obtain ⟨rfl, ee⟩ := uN_some e2
    exact (q105x0 S r0 r1 h).symm.trans ee
  refine Tab.cons 1 (fun vs0 h q e0 => ?_) ?_
  · obtain ⟨r0, vs1, rfl, e1⟩ := uV_some e0
    obtain ⟨r1, vs2, rfl, e2⟩ := uV_some e1
    obtain ⟨r9, vs3, rfl, e3⟩ := uV_some e2
    obtain ⟨r10, vs4, rfl, e4⟩ := uI_some e3
    obtain ⟨r11, vs5, rfl, e5⟩ := uI_some e4
    obtain ⟨rfl, ee⟩ := uN_some e5
    exact (q105x1 S r0 r1 r9 r10 r11 h).symm.trans ee
  refine Tab.cons 2 (fun vs0 h q e0 => ?_) ?_
  · 
    obtain ⟨rfl, ee⟩ := uN_some e0
    exact (q105x2 S  h).symm.trans ee
  exact Tab.nil
theorem r105 : ∀ args h v h', F105 args h = some (v, h') → Runs (C12) (.call 105 args.toArray h) (.ret v h') := by
  intro args h v h' e
  exact fun_sound (C := C12) (fn := Try.f105) (body := B105) (np := 2) (A := A105) (T := T105) (kinds := [Kd.v, Kd.v]) (by kernel_rfl) (by kernel_rfl) (by kernel_rfl) (by kernel_rfl) (regK_ok env_ok) (by kernel_rfl) (fun S => t105 S) e
noncomputable def orc13 := orcQ 105 F105 orc12
noncomputable def C13 : Cfg := cfg orc13
theorem ok13 : C13.Ok := orcQ_ok (C := C12) ok12 r105
noncomputable def B83 : Code := (Try.f83.body).getD .skip
def A83 : Ann := (Ann.node (some (0, [(0, Kd.v), (1, Kd.i .i64), (2, Kd.v)])) Ann.nil (Ann.node none (Ann.node none Ann.nil (Ann.node none (Ann.node none Ann.nil Ann.nil) Ann.nil)) (Ann.node none Ann.nil Ann.nil)))
noncomputable def P83x0 (S : Sg) (r0 : Value) (r1 : Int) (r2 : Value) (h : Hp) : CRes :=
  lenSK r0 fun i0 =>
  boolZ (ltZ r1 i0) fun b1 =>
  ifB b1
  (some (Value.tuple (List.toArray [(Value.int .i64 (Int.ofNat 0)), (Value.int .i64 (Int.ofNat 3))]), h))
  (pairK (callQ F105 [r0, r2] h) fun v2 h2 =>
  extK v2 0 fun v3 =>
  intK .i64 v3 fun i4 =>
  extK v2 1 fun v5 =>
  intK .i64 v5 fun i6 =>
  some (Value.tuple (List.toArray [(Value.int .i64 i4), (Value.int .i64 i6)]), h2))
noncomputable def T83 (S : Sg) : Sg := tabC 0 (uV fun r0 => uI fun r1 => uV fun r2 => uN fun h => P83x0 S r0 r1 r2 h) (tabN)
noncomputable def F83 (args : List Value) (h : Hp) : CRes := packVals [Kd.v, Kd.i .i64, Kd.v] args fun al => rec' T83 1000000 0 al h
def nt83 : Nat := 3 + (17 - 3)
theorem q83x0 (S : Sg) (r0 : Value) (r1 : Int) (r2 : Value) (h : Hp) : P83x0 S r0 r1 r2 h = stepAt (regK env orc13 (nt83)) (finK env Try.f83.results.toList) (collect B83 A83 []) 0 S (AL.v r0 (AL.i r1 (AL.v r2 AL.n))) h := by kernel_rfl
theorem t83 (S : Sg) : Tab (fun l vs h => stepAt (regK env orc13 nt83) (finK env Try.f83.results.toList) (collect B83 A83 []) l S vs h) (T83 S) := by
  unfold T83
  refine Tab.cons 0 (fun vs0 h q e0 => ?_) ?_
  · obtain ⟨r0, vs1, rfl, e1⟩ := uV_some e0
    obtain ⟨r1, vs2, rfl, e2⟩ := uI_some e1
    obtain ⟨r2, vs3, rfl, e3⟩ := uV_some e2
    obtain ⟨rfl, ee⟩ := uN_some e3
    exact (q83x0 S r0 r1 r2 h).symm.trans ee
  exact Tab.nil
theorem r83 : ∀ args h v h', F83 args h = some (v, h') → Runs (C13) (.call 83 args.toArray h) (.ret v h') := by
  intro args h v h' e
  exact fun_sound (C := C13) (fn := Try.f83) (body := B83) (np := 3) (A := A83) (T := T83) (kinds := [Kd.v, Kd.i .i64, Kd.v]) (by kernel_rfl) (by kernel_rfl) (by kernel_rfl) (by kernel_rfl) (regK_ok env_ok) (by kernel_rfl) (fun S => t83 S) e
noncomputable def orc14 := orcQ 83 F83 orc13
noncomputable def C14 : Cfg := cfg orc14
theorem ok14 : C14.Ok := orcQ_ok (C := C13) ok13 r83
noncomputable def B49 : Code := (Try.f49.body).getD .skip
def A49 : Ann := (Ann.node (some (0, [(0, Kd.v), (1, Kd.v), (2, Kd.i .i64), (3, Kd.i .i64)])) Ann.nil (Ann.node none Ann.nil Ann.nil))
noncomputable def P49x0 (S : Sg) (r0 : Value) (r1 : Value) (r2 : Int) (r3 : Int) (h : Hp) : CRes :=
  allocK h 25 (Array.toList (Value.cells r0)) fun a0 h0 =>
  allocK h0 3 [(Value.int .i64 r3)] fun a1 h1 =>
  pairK (callQ F83 [r1, (Value.int .i64 r2), (Value.func (.func 84) (List.toArray []) (List.toArray [a0, a1]))] h1) fun v2 h2 =>
  extK v2 0 fun v3 =>
  intK .i64 v3 fun i4 =>
  extK v2 1 fun v5 =>
  intK .i64 v5 fun i6 =>
  some (Value.tuple (List.toArray [(Value.int .i64 i4), (Value.int .i64 i6)]), h2)
noncomputable def T49 (S : Sg) : Sg := tabC 0 (uV fun r0 => uV fun r1 => uI fun r2 => uI fun r3 => uN fun h => P49x0 S r0 r1 r2 r3 h) (tabN)
noncomputable def F49 (args : List Value) (h : Hp) : CRes := packVals [Kd.v, Kd.v, Kd.i .i64, Kd.i .i64] args fun al => rec' T49 1000000 0 al h
def nt49 : Nat := 4 + (16 - 4)
theorem q49x0 (S : Sg) (r0 : Value) (r1 : Value) (r2 : Int) (r3 : Int) (h : Hp) : P49x0 S r0 r1 r2 r3 h = stepAt (regK env orc14 (nt49)) (finK env Try.f49.results.toList) (collect B49 A49 []) 0 S (AL.v r0 (AL.v r1 (AL.i r2 (AL.i r3 AL.n)))) h := by kernel_rfl
theorem t49 (S : Sg) : Tab (fun l vs h => stepAt (regK env orc14 nt49) (finK env Try.f49.results.toList) (collect B49 A49 []) l S vs h) (T49 S) := by
  unfold T49
  refine Tab.cons 0 (fun vs0 h q e0 => ?_) ?_
  · obtain ⟨r0, vs1, rfl, e1⟩ := uV_some e0
    obtain ⟨r1, vs2, rfl, e2⟩ := uV_some e1
    obtain ⟨r2, vs3, rfl, e3⟩ := uI_some e2
    obtain ⟨r3, vs4, rfl, e4⟩ := uI_some e3
    obtain ⟨rfl, ee⟩ := uN_some e4
    exact (q49x0 S r0 r1 r2 r3 h).symm.trans ee
  exact Tab.nil
theorem r49 : ∀ args h v h', F49 args h = some (v, h') → Runs (C14) (.call 49 args.toArray h) (.ret v h') := by
  intro args h v h' e
  exact fun_sound (C := C14) (fn := Try.f49) (body := B49) (np := 4) (A := A49) (T := T49) (kinds := [Kd.v, Kd.v, Kd.i .i64, Kd.i .i64]) (by kernel_rfl) (by kernel_rfl) (by kernel_rfl) (by kernel_rfl) (regK_ok env_ok) (by kernel_rfl) (fun S => t49 S) e
noncomputable def orc15 := orcQ 49 F49 orc14
noncomputable def C15 : Cfg := cfg orc15
theorem ok15 : C15.Ok := orcQ_ok (C := C14) ok14 r49
noncomputable def B16 : Code := (Try.f16.body).getD .skip
def A16 : Ann := (Ann.node (some (0, [(0, Kd.v)])) Ann.nil (Ann.node none (Ann.node none Ann.nil (Ann.node none Ann.nil (Ann.node none (Ann.node none Ann.nil Ann.nil) Ann.nil))) (Ann.node none (Ann.node none Ann.nil (Ann.node none Ann.nil (Ann.node none (Ann.node none Ann.nil Ann.nil) Ann.nil))) (Ann.node none (Ann.node none Ann.nil (Ann.node none Ann.nil (Ann.node none (Ann.node none Ann.nil Ann.nil) Ann.nil))) (Ann.node none (Ann.node none Ann.nil (Ann.node none Ann.nil (Ann.node none (Ann.node none Ann.nil Ann.nil) Ann.nil))) (Ann.node none Ann.nil Ann.nil))))))
noncomputable def P16x0 (S : Sg) (r0 : Value) (h : Hp) : CRes :=
  allocK h 25 (Array.toList (Value.cells r0)) fun a0 h0 =>
  ptrAddK 0 a0 fun v1 =>
  load1K h0 v1 fun v2 =>
  pairK (callQ F48 [v2, (Value.int .i64 (Int.ofNat 4)), (Value.int .i64 (Int.ofNat 100))] h0) fun v3 h3 =>
  extK v3 0 fun v4 =>
  intK .i64 v4 fun i5 =>
  extK v3 1 fun v6 =>
  intK .i64 v6 fun i7 =>
  boolN (eqZ i7 (Int.ofNat 0)) fun b8 =>
  ifB b8
  (some (Value.tuple (List.toArray [(Value.int .i64 (Int.ofNat 1)), (Value.int .i64 i5), (Value.int .i64 i7)]), h3))
  (ptrAddK 1 a0 fun v9 =>
  load1K h3 v9 fun v10 =>
  pairK (callQ F48 [v10, (Value.int .i64 (Int.ofNat 4)), (Value.int .i64 (Int.ofNat 50))] h3) fun v11 h11 =>
  extK v11 0 fun v12 =>
  intK .i64 v12 fun i13 =>
  extK v11 1 fun v14 =>
  intK .i64 v14 fun i15 =>
  boolN (eqZ i15 (Int.ofNat 0)) fun b16 =>
  ifB b16
  (some (Value.tuple (List.toArray [(Value.int .i64 (Int.ofNat 2)), (Value.int .i64 i13), (Value.int .i64 i15)]), h11))
  (loadNK 4 h11 a0 fun v17 =>
  ptrAddK 2 a0 fun v18 =>
  load1K h11 v18 fun v19 =>
  pairK (callQ F49 [v17, v19, (Value.int .i64 (Int.ofNat 6)), (Value.int .i64 (Int.ofNat 0))] h11) fun v20 h20 =>
  extK v20 0 fun v21 =>
  intK .i64 v21 fun i22 =>
  extK v20 1 fun v23 =>
  intK .i64 v23 fun i24 =>
  boolN (eqZ i24 (Int.ofNat 0)) fun b25 =>
  ifB b25
  (some (Value.tuple (List.toArray [(Value.int .i64 (Int.ofNat 3)), (Value.int .i64 i22), (Value.int .i64 i24)]), h20))
  (loadNK 4 h20 a0 fun v26 =>
  ptrAddK 3 a0 fun v27 =>
  load1K h20 v27 fun v28 =>
  pairK (callQ F49 [v26, v28, (Value.int .i64 (Int.ofNat 5)), (Value.int .i64 (Int.negSucc 0))] h20) fun v29 h29 =>
  extK v29 0 fun v30 =>
  intK .i64 v30 fun i31 =>
  extK v29 1 fun v32 =>
  intK .i64 v32 fun i33 =>
  boolN (eqZ i33 (Int.ofNat 0)) fun b34 =>
  ifB b34
  (some (Value.tuple (List.toArray [(Value.int .i64 (Int.ofNat 4)), (Value.int .i64 i31), (Value.int .i64 i33)]), h29))
  (some (Value.tuple (List.toArray [(Value.int .i64 (Int.ofNat 0)), (Value.int .i64 (Int.ofNat 0)), (Value.int .i64 (Int.ofNat 0))]), h29)))))
noncomputable def T16 (S : Sg) : Sg := tabC 0 (uV fun r0 => uN fun h => P16x0 S r0 h) (tabN)
noncomputable def F16 (args : List Value) (h : Hp) : CRes := packVals [Kd.v] args fun al => rec' T16 1000000 0 al h
def nt16 : Nat := 1 + (55 - 1)
theorem q16x0 (S : Sg) (r0 : Value) (h : Hp) : P16x0 S r0 h = stepAt (regK env orc15 (nt16)) (finK env Try.f16.results.toList) (collect B16 A16 []) 0 S (AL.v r0 AL.n) h := by kernel_rfl
theorem t16 (S : Sg) : Tab (fun l vs h => stepAt (regK env orc15 nt16) (finK env Try.f16.results.toList) (collect B16 A16 []) l S vs h) (T16 S) := by
  unfold T16
  refine Tab.cons 0 (fun vs0 h q e0 => ?_) ?_
  · obtain ⟨r0, vs1, rfl, e1⟩ := uV_some e0
    obtain ⟨rfl, ee⟩ := uN_some e1
    exact (q16x0 S r0 h).symm.trans ee
  exact Tab.nil
theorem r16 : ∀ args h v h', F16 args h = some (v, h') → Runs (C15) (.call 16 args.toArray h) (.ret v h') := by
  intro args h v h' e
  exact fun_sound (C := C15) (fn := Try.f16) (body := B16) (np := 1) (A := A16) (T := T16) (kinds := [Kd.v]) (by kernel_rfl) (by kernel_rfl) (by kernel_rfl) (by kernel_rfl) (regK_ok env_ok) (by kernel_rfl) (fun S => t16 S) e
noncomputable def orc16 := orcQ 16 F16 orc15
noncomputable def C16 : Cfg := cfg orc16
theorem ok16 : C16.Ok := orcQ_ok (C := C15) ok15 r16
noncomputable def B93 : Code := (Try.f93.body).getD .skip
def A93 : Ann := (Ann.node (some (0, [(0, Kd.v), (1, Kd.v)])) Ann.nil (Ann.node none Ann.nil (Ann.node none (Ann.node none Ann.nil (Ann.node none (Ann.node (some (1, [(0, Kd.v), (5, Kd.v), (8, Kd.v), (9, Kd.i .i64), (10, Kd.i .i64)])) (Ann.node none Ann.nil (Ann.node none (Ann.node none Ann.nil Ann.nil) (Ann.node none (Ann.node none (Ann.node none Ann.nil (Ann.node none Ann.nil (Ann.node none Ann.nil Ann.nil))) Ann.nil) Ann.nil))) Ann.nil) Ann.nil)) (Ann.node (some (2, [(5, Kd.v)])) Ann.nil Ann.nil))))
noncomputable def P93x2 (S : Sg) (r5 : Value) (h : Hp) : CRes :=
  some (r5, h)
noncomputable def P93x1 (S : Sg) (r0 : Value) (r5 : Value) (r8 : Value) (r9 : Int) (r10 : Int) (h : Hp) : CRes :=
  boolZ (ltZ r10 r9) fun b0 =>
  ifB b0
  (idxSK 1 r8 r10 fun v1 =>
  load1K h v1 fun v2 =>
  intK .i64 v2 fun i3 =>
  boolN (eqZ i3 (Int.negSucc 0)) fun b4 =>
  ifB b4
  (idxSK 1 r0 r10 fun v5 =>
  load1K h v5 fun v6 =>
  intK .i64 v6 fun i7 =>
  boolN (eqZ i3 i7) fun b8 =>
  ifB b8
  (pairK (buildSliceV env h 22 1 (List.toArray [(0, (Value.int .i64 r10))])) fun v9 h9 =>
  pairK (appendV env h9 #[22, 22] (List.toArray [r5, v9])) fun v10 h10 =>
  wrap64 (Int.add r10 (Int.ofNat 1)) fun i11 =>
  S 1 (AL.v r0 (AL.v v10 (AL.v r8 (AL.i r9 (AL.i i11 AL.n))))) h10)
  (wrap64 (Int.add r10 (Int.ofNat 1)) fun i12 =>
  S 1 (AL.v r0 (AL.v r5 (AL.v r8 (AL.i r9 (AL.i i12 AL.n))))) h))
  (wrap64 (Int.add r10 (Int.ofNat 1)) fun i13 =>
  S 1 (AL.v r0 (AL.v r5 (AL.v r8 (AL.i r9 (AL.i i13 AL.n))))) h))
  (S 2 (AL.v r5 AL.n) h)
noncomputable def P93x0 (S : Sg) (r0 : Value) (r1 : Value) (h : Hp) : CRes :=
  lenSK r1 fun i0 =>
  S 1 (AL.v r0 (AL.v (Value.slice none 0 0) (AL.v r1 (AL.i i0 (AL.i (Int.ofNat 0) AL.n))))) h
noncomputable def T93 (S : Sg) : Sg := tabC 0 (uV fun r0 => uV fun r1 => uN fun h => P93x0 S r0 r1 h) (tabC 1 (uV fun r0 => uV fun r5 => uV fun r8 => uI fun r9 => uI fun r10 => uN fun h => P93x1 S r0 r5 r8 r9 r10 h) (tabC 2 (uV fun r5 => uN fun h => P93x2 S r5 h) (tabN)))
noncomputable def F93 (args : List Value) (h : Hp) : CRes := packVals [Kd.v, Kd.v] args fun al => rec' T93 1000000 0 al h
def nt93 : Nat := 2 + (31 - 2)
theorem q93x2 (S : Sg) (r5 : Value) (h : Hp) : P93x2 S r5 h = stepAt (regK env orc16 (nt93)) (finK env Try.f93.results.toList) (collect B93 A93 []) 2 S (AL.v r5 AL.n) h := by kernel_rfl
theorem q93x1 (S : Sg) (r0 : Value) (r5 : Value) (r8 : Value) (r9 : Int) (r10 : Int) (h : Hp) : P93x1 S r0 r5 r8 r9 r10 h = stepAt (regK env orc16 (nt93)) (finK env Try.f93.results.toList) (collect B93 A93 []) 1 S (AL.v r0 (AL.v r5 (AL.v r8 (AL.i r9 (AL.i r10 AL.n))))) h := by kernel_rfl
theorem q93x0 (S : Sg) (r0 : Value) (r1 : Value) (h : Hp) : P93x0 S r0 r1 h = stepAt (regK env orc16 (nt93)) (finK env Try.f93.results.toList) (collect B93 A93 []) 0 S (AL.v r0 (AL.v r1 AL.n)) h := by kernel_rfl
theorem t93 (S : Sg) : Tab (fun l vs h => stepAt (regK env orc16 nt93) (finK env Try.f93.results.toList) (collect B93 A93 []) l S vs h) (T93 S) := by
  unfold T93
  refine Tab.cons 0 (fun vs0 h q e0 => ?_) ?_
  · obtain ⟨r0, vs1, rfl, e1⟩ := uV_some e0
    obtain ⟨r1, vs2, rfl, e2⟩ := uV_some e1
    obtain ⟨rfl, ee⟩ := uN_some e2
    exact (q93x0 S r0 r1 h).symm.trans ee
  refine Tab.cons 1 (fun vs0 h q e0 => ?_) ?_
  · obtain ⟨r0, vs1, rfl, e1⟩ := uV_some e0
    obtain ⟨r5, vs2, rfl, e2⟩ := uV_some e1
    obtain ⟨r8, vs3, rfl, e3⟩ := uV_some e2
    obtain ⟨r9, vs4, rfl, e4⟩ := uI_some e3
    obtain ⟨r10, vs5, rfl, e5⟩ := uI_some e4
    obtain ⟨rfl, ee⟩ := uN_some e5
    exact (q93x1 S r0 r5 r8 r9 r10 h).symm.trans ee
  refine Tab.cons 2 (fun vs0 h q e0 => ?_) ?_
  · obtain ⟨r5, vs1, rfl, e1⟩ := uV_some e0
    obtain ⟨rfl, ee⟩ := uN_some e1
    exact (q93x2 S r5 h).symm.trans ee
  exact Tab.nil
theorem r93 : ∀ args h v h', F93 args h = some (v, h') → Runs (C16) (.call 93 args.toArray h) (.ret v h') := by
  intro args h v h' e
  exact fun_sound (C := C16) (fn := Try.f93) (body := B93) (np := 2) (A := A93) (T := T93) (kinds := [Kd.v, Kd.v]) (by kernel_rfl) (by kernel_rfl) (by kernel_rfl) (by kernel_rfl) (regK_ok env_ok) (by kernel_rfl) (fun S => t93 S) e
noncomputable def orc17 := orcQ 93 F93 orc16
noncomputable def C17 : Cfg := cfg orc17
theorem ok17 : C17.Ok := orcQ_ok (C := C16) ok16 r93
noncomputable def B63 : Code := (Try.f63.body).getD .skip
def A63 : Ann := (Ann.node (some (0, [(0, Kd.v)])) Ann.nil (Ann.node none (Ann.node none Ann.nil (Ann.node none Ann.nil (Ann.node none (Ann.node none Ann.nil Ann.nil) Ann.nil))) (Ann.node none Ann.nil (Ann.node none (Ann.node none Ann.nil (Ann.node none (Ann.node (some (1, [(1, Kd.v), (2, Kd.v), (7, Kd.v), (24, Kd.v), (25, Kd.i .i64), (26, Kd.i .i64)])) (Ann.node none Ann.nil (Ann.node none (Ann.node none Ann.nil Ann.nil) (Ann.node none (Ann.node none (Ann.node none Ann.nil (Ann.node none Ann.nil (Ann.node none (Ann.node (some (2, [(1, Kd.v), (2, Kd.v), (7, Kd.v), (8, Kd.i .i64), (9, Kd.v), (24, Kd.v), (25, Kd.i .i64), (26, Kd.i .i64), (32, Kd.v), (33, Kd.i .i64), (34, Kd.i .i64)])) (Ann.node none Ann.nil (Ann.node none (Ann.node none Ann.nil Ann.nil) (Ann.node none (Ann.node none (Ann.node none Ann.nil Ann.nil) Ann.nil) Ann.nil))) Ann.nil) Ann.nil))) Ann.nil) (Ann.node (some (3, [(1, Kd.v), (2, Kd.v), (7, Kd.v), (24, Kd.v), (25, Kd.i .i64), (26, Kd.i .i64)])) Ann.nil Ann.nil)))) Ann.nil) Ann.nil)) (Ann.node (some (4, [(1, Kd.v), (2, Kd.v), (7, Kd.v)])) Ann.nil Ann.nil)))))
noncomputable def P63x4 (S : Sg) (r1 : Value) (r2 : Value) (r7 : Value) (h : Hp) : CRes :=
  loadNK 4 h r1 fun v0 =>
  optK (buildV env 71 (List.toArray [(0, v0), (1, r7)])) fun v1 =>
  storeNK 5 h r2 v1 fun h2 =>
  loadNK 5 h2 r2 fun v3 => some (Value.tuple (List.toArray [v3, (Value.int .i64 (Int.ofNat 0))]), h2)
noncomputable def P63x3 (S : Sg) (r1 : Value) (r2 : Value) (r7 : Value) (r24 : Value) (r25 : Int) (r26 : Int) (h : Hp) : CRes :=
  wrap64 (Int.add r26 (Int.ofNat 1)) fun i0 =>
  S 1 (AL.v r1 (AL.v r2 (AL.v r7 (AL.v r24 (AL.i r25 (AL.i i0 AL.n)))))) h
noncomputable def P63x2 (S : Sg) (r1 : Value) (r2 : Value) (r7 : Value) (r8 : Int) (r9 : Value) (r24 : Value) (r25 : Int) (r26 : Int) (r32 : Value) (r33 : Int) (r34 : Int) (h : Hp) : CRes :=
  boolZ (ltZ r34 r33) fun b0 =>
  ifB b0
  (idxSK 3 r32 r34 fun v1 =>
  loadNK 3 h v1 fun v2 =>
  allocK h 59 [(Value.string (ByteArray.mk #[])), (Value.slice none 0 0), (Value.int .i64 (Int.ofNat 0))] fun a3 h3 =>
  storeNK 3 h3 a3 v2 fun h4 =>
  optK (buildV env 76 (List.toArray [(0, (Value.int .i64 r8)), (1, (Value.int .i64 r34))])) fun v5 =>
  ptrAddK 1 r9 fun v6 =>
  load1K h4 v6 fun v7 =>
  ptrAddK 1 a3 fun v8 =>
  load1K h4 v8 fun v9 =>
  pairK (callQ F93 [v7, v9] h4) fun v10 h10 =>
  optK (mapUpdateV env h10 69 r7 v5 v10) fun h11 =>
  wrap64 (Int.add r34 (Int.ofNat 1)) fun i12 =>
  S 2 (AL.v r1 (AL.v r2 (AL.v r7 (AL.i r8 (AL.v r9 (AL.v r24 (AL.i r25 (AL.i r26 (AL.v r32 (AL.i r33 (AL.i i12 AL.n))))))))))) h11)
  (S 3 (AL.v r1 (AL.v r2 (AL.v r7 (AL.v r24 (AL.i r25 (AL.i r26 AL.n)))))) h)
noncomputable def P63x1 (S : Sg) (r1 : Value) (r2 : Value) (r7 : Value) (r24 : Value) (r25 : Int) (r26 : Int) (h : Hp) : CRes :=
  boolZ (ltZ r26 r25) fun b0 =>
  ifB b0
  (idxSK 3 r24 r26 fun v1 =>
  loadNK 3 h v1 fun v2 =>
  allocK h 59 [(Value.string (ByteArray.mk #[])), (Value.slice none 0 0), (Value.int .i64 (Int.ofNat 0))] fun a3 h3 =>
  storeNK 3 h3 a3 v2 fun h4 =>
  ptrAddK 3 r1 fun v5 =>
  load1K h4 v5 fun v6 =>
  lenSK v6 fun i7 =>
  S 2 (AL.v r1 (AL.v r2 (AL.v r7 (AL.i r26 (AL.v a3 (AL.v r24 (AL.i r25 (AL.i r26 (AL.v v6 (AL.i i7 (AL.i (Int.ofNat 0) AL.n))))))))))) h4)
  (S 4 (AL.v r1 (AL.v r2 (AL.v r7 AL.n))) h)
noncomputable def P63x0 (S : Sg) (r0 : Value) (h : Hp) : CRes :=
  allocK h 25 (Array.toList (Value.cells r0)) fun a0 h0 =>
  allocK h0 71 [(Value.slice none 0 0), (Value.slice none 0 0), (Value.slice none 0 0), (Value.slice none 0 0), (Value.map none)] fun a1 h1 =>
  loadNK 4 h1 a0 fun v2 =>
  pairK (callQ F16 [v2] h1) fun v3 h3 =>
  extK v3 0 fun v4 =>
  intK .i64 v4 fun i5 =>
  extK v3 1 fun v6 =>
  intK .i64 v6 fun i7 =>
  extK v3 2 fun v8 =>
  intK .i64 v8 fun i9 =>
  boolN (eqZ i9 (Int.ofNat 0)) fun b10 =>
  ifB b10
  (optK (buildV env 71 (List.toArray [])) fun v11 =>
  storeNK 5 h3 a1 v11 fun h12 =>
  loadNK 5 h12 a1 fun v13 => some (Value.tuple (List.toArray [v13, (Value.int .i64 i9)]), h12))
  (let a14 := Value.map (some (Hp.next h3)); let h14 := Hp.add h3 (.map []);
  ptrAddK 2 a0 fun v15 =>
  load1K h14 v15 fun v16 =>
  lenSK v16 fun i17 =>
  S 1 (AL.v a0 (AL.v a1 (AL.v a14 (AL.v v16 (AL.i i17 (AL.i (Int.ofNat 0) AL.n)))))) h14)
noncomputable def T63 (S : Sg) : Sg := tabC 0 (uV fun r0 => uN fun h => P63x0 S r0 h) (tabC 1 (uV fun r1 => uV fun r2 => uV fun r7 => uV fun r24 => uI fun r25 => uI fun r26 => uN fun h => P63x1 S r1 r2 r7 r24 r25 r26 h) (tabC 2 (uV fun r1 => uV fun r2 => uV fun r7 => uI fun r8 => uV fun r9 => uV fun r24 => uI fun r25 => uI fun r26 => uV fun r32 => uI fun r33 => uI fun r34 => uN fun h => P63x2 S r1 r2 r7 r8 r9 r24 r25 r26 r32 r33 r34 h) (tabC 3 (uV fun r1 => uV fun r2 => uV fun r7 => uV fun r24 => uI fun r25 => uI fun r26 => uN fun h => P63x3 S r1 r2 r7 r24 r25 r26 h) (tabC 4 (uV fun r1 => uV fun r2 => uV fun r7 => uN fun h => P63x4 S r1 r2 r7 h) (tabN)))))
noncomputable def F63 (args : List Value) (h : Hp) : CRes := packVals [Kd.v] args fun al => rec' T63 1000000 0 al h
def nt63 : Nat := 1 + (53 - 1)
theorem q63x4 (S : Sg) (r1 : Value) (r2 : Value) (r7 : Value) (h : Hp) : P63x4 S r1 r2 r7 h = stepAt (regK env orc17 (nt63)) (finK env Try.f63.results.toList) (collect B63 A63 []) 4 S (AL.v r1 (AL.v r2 (AL.v r7 AL.n))) h := by kernel_rfl
theorem q63x3 (S : Sg) (r1 : Value) (r2 : Value) (r7 : Value) (r24 : Value) (r25 : Int) (r26 : Int) (h : Hp) : P63x3 S r1 r2 r7 r24 r25 r26 h = stepAt (regK env orc17 (nt63)) (finK env Try.f63.results.toList) (collect B63 A63 []) 3 S (AL.v r1 (AL.v r2 (AL.v r7 (AL.v r24 (AL.i r25 (AL.i r26 AL.n)))))) h := by kernel_rfl
theorem q63x2 (S : Sg) (r1 : Value) (r2 : Value) (r7 : Value) (r8 : Int) (r9 : Value) (r24 : Value) (r25 : Int) (r26 : Int) (r32 : Value) (r33 : Int) (r34 : Int) (h : Hp) : P63x2 S r1 r2 r7 r8 r9 r24 r25 r26 r32 r33 r34 h = stepAt (regK env orc17 (nt63)) (finK env Try.f63.results.toList) (collect B63 A63 []) 2 S (AL.v r1 (AL.v r2 (AL.v r7 (AL.i r8 (AL.v r9 (AL.v r24 (AL.i r25 (AL.i r26 (AL.v r32 (AL.i r33 (AL.i r34 AL.n))))))))))) h := by kernel_rfl
theorem q63x1 (S : Sg) (r1 : Value) (r2 : Value) (r7 : Value) (r24 : Value) (r25 : Int) (r26 : Int) (h : Hp) : P63x1 S r1 r2 r7 r24 r25 r26 h = stepAt (regK env orc17 (nt63)) (finK env Try.f63.results.toList) (collect B63 A63 []) 1 S (AL.v r1 (AL.v r2 (AL.v r7 (AL.v r24 (AL.i r25 (AL.i r26 AL.n)))))) h := by kernel_rfl
theorem q63x0 (S : Sg) (r0 : Value) (h : Hp) : P63x0 S r0 h = stepAt (regK env orc17 (nt63)) (finK env Try.f63.results.toList) (collect B63 A63 []) 0 S (AL.v r0 AL.n) h := by kernel_rfl
theorem t63 (S : Sg) : Tab (fun l vs h => stepAt (regK env orc17 nt63) (finK env Try.f63.results.toList) (collect B63 A63 []) l S vs h) (T63 S) := by
  unfold T63
  refine Tab.cons 0 (fun vs0 h q e0 => ?_) ?_
  · obtain ⟨r0, vs1, rfl, e1⟩ := uV_some e0
    obtain ⟨rfl, ee⟩ := uN_some e1
    exact (q63x0 S r0 h).symm.trans ee
  refine Tab.cons 1 (fun vs0 h q e0 => ?_) ?_
  · obtain ⟨r1, vs1, rfl, e1⟩ := uV_some e0
    obtain ⟨r2, vs2, rfl, e2⟩ := uV_some e1
    obtain ⟨r7, vs3, rfl, e3⟩ := uV_some e2
    obtain ⟨r24, vs4, rfl, e4⟩ := uV_some e3
    obtain ⟨r25, vs5, rfl, e5⟩ := uI_some e4
    obtain ⟨r26, vs6, rfl, e6⟩ := uI_some e5
    obtain ⟨rfl, ee⟩ := uN_some e6
    exact (q63x1 S r1 r2 r7 r24 r25 r26 h).symm.trans ee
  refine Tab.cons 2 (fun vs0 h q e0 => ?_) ?_
  · obtain ⟨r1, vs1, rfl, e1⟩ := uV_some e0
    obtain ⟨r2, vs2, rfl, e2⟩ := uV_some e1
    obtain ⟨r7, vs3, rfl, e3⟩ := uV_some e2
    obtain ⟨r8, vs4, rfl, e4⟩ := uI_some e3
    obtain ⟨r9, vs5, rfl, e5⟩ := uV_some e4
    obtain ⟨r24, vs6, rfl, e6⟩ := uV_some e5
    obtain ⟨r25, vs7, rfl, e7⟩ := uI_some e6
    obtain ⟨r26, vs8, rfl, e8⟩ := uI_some e7
    obtain ⟨r32, vs9, rfl, e9⟩ := uV_some e8
    obtain ⟨r33, vs10, rfl, e10⟩ := uI_some e9
    obtain ⟨r34, vs11, rfl, e11⟩ := uI_some e10
    obtain ⟨rfl, ee⟩ := uN_some e11
    exact (q63x2 S r1 r2 r7 r8 r9 r24 r25 r26 r32 r33 r34 h).symm.trans ee
  refine Tab.cons 3 (fun vs0 h q e0 => ?_) ?_
  · obtain ⟨r1, vs1, rfl, e1⟩ := uV_some e0
    obtain ⟨r2, vs2, rfl, e2⟩ := uV_some e1
    obtain ⟨r7, vs3, rfl, e3⟩ := uV_some e2
    obtain ⟨r24, vs4, rfl, e4⟩ := uV_some e3
    obtain ⟨r25, vs5, rfl, e5⟩ := uI_some e4
    obtain ⟨r26, vs6, rfl, e6⟩ := uI_some e5
    obtain ⟨rfl, ee⟩ := uN_some e6
    exact (q63x3 S r1 r2 r7 r24 r25 r26 h).symm.trans ee
  refine Tab.cons 4 (fun vs0 h q e0 => ?_) ?_
  · obtain ⟨r1, vs1, rfl, e1⟩ := uV_some e0
    obtain ⟨r2, vs2, rfl, e2⟩ := uV_some e1
    obtain ⟨r7, vs3, rfl, e3⟩ := uV_some e2
    obtain ⟨rfl, ee⟩ := uN_some e3
    exact (q63x4 S r1 r2 r7 h).symm.trans ee
  exact Tab.nil
theorem r63 : ∀ args h v h', F63 args h = some (v, h') → Runs (C17) (.call 63 args.toArray h) (.ret v h') := by
  intro args h v h' e
  exact fun_sound (C := C17) (fn := Try.f63) (body := B63) (np := 1) (A := A63) (T := T63) (kinds := [Kd.v]) (by kernel_rfl) (by kernel_rfl) (by kernel_rfl) (by kernel_rfl) (regK_ok env_ok) (by kernel_rfl) (fun S => t63 S) e
noncomputable def orc18 := orcQ 63 F63 orc17
noncomputable def C18 : Cfg := cfg orc18
theorem ok18 : C18.Ok := orcQ_ok (C := C17) ok17 r63
noncomputable def B53 : Code := (Try.f53.body).getD .skip
noncomputable def A53 : G.Ann (List KI) := (G.Ann.node (some (0, [KI.reg 0 (Kd.i .i64), KI.reg 1 (Kd.v)])) G.Ann.nil (G.Ann.node none G.Ann.nil G.Ann.nil))
noncomputable def P53x0 (h : Hp) (S : Nat → PAL → Option Value) (r0 : Int) (r1 : Value) : Option Value :=
  wrap64 (Int.sub r0 (Int.ofNat 1)) fun i0 =>
  optK (F82 [(Value.int .i64 (Int.ofNat 0)), (Value.int .i64 i0), r1] h) fun v1 =>
  boolK v1 fun b2 =>
  some (Value.bool b2)
noncomputable def T53 (h : Hp) (S : Nat → PAL → Option Value) : Nat → PAL → Option Value := tabPC 0 (wI fun r0 => wV fun r1 => wN (P53x0 h S r0 r1)) (tabPN)
noncomputable def F53 (args : List Value) (h : Hp) : Option Value := plainO (packArgs [Kd.i .i64, Kd.v] args fun al => G.rec' (T53 h) 1000000 0 al)
def nt53 : Nat := 2 + (9 - 2)
theorem q53x0 (h : Hp) (S : Nat → PAL → Option Value) (r0 : Int) (r1 : Value) : P53x0 h S r0 r1 = G.stepAt packP unpackP evXV (regP env pf4 nt53 h) (finP env Try.f53.results.toList) (G.collect B53 A53 []) 0 S (PAL.i r0 (PAL.v r1 PAL.n)) := by kernel_rfl
theorem t53 (h : Hp) (S : Nat → PAL → Option Value) : TabP (fun l al => G.stepAt packP unpackP evXV (regP env pf4 nt53 h) (finP env Try.f53.results.toList) (G.collect B53 A53 []) l S al) (T53 h S) := by
  unfold T53
  refine TabP.cons 0 (fun vs0 q e0 => ?_) ?_
  · obtain ⟨r0, vs1, rfl, e1⟩ := wI_some e0
    obtain ⟨r1, vs2, rfl, e2⟩ := wV_some e1
    obtain ⟨rfl, ee⟩ := wN_some e2
    exact (q53x0 h S r0 r1).symm.trans ee
  exact TabP.nil
theorem r53 : PSound Try.prog 53 F53 := fun_soundP (C := C0) ok0 (pf := pf4) pfok4 (fn := Try.f53) (body := B53) (kinds := [Kd.i .i64, Kd.v]) (A := A53) (T := T53) (by kernel_rfl) (by kernel_rfl) (by kernel_rfl) (by kernel_rfl) (fun h S => t53 h S)
noncomputable def pf5 : PF := pfC 53 F53 pf4
theorem pfok5 : PfSound Try.prog pf5 := pfC_ok r53 pfok4
noncomputable def orc19 := orcP 53 F53 orc18
noncomputable def C19 : Cfg := cfg orc19
theorem ok19 : C19.Ok := orcP_ok (C := C18) ok18 r53
noncomputable def B52 : Code := (Try.f52.body).getD .skip
def A52 : Ann := (Ann.node (some (0, [(0, Kd.v), (1, Kd.i .i64)])) Ann.nil (Ann.node none Ann.nil (Ann.node none (Ann.node none Ann.nil (Ann.node none (Ann.node none Ann.nil Ann.nil) Ann.nil)) (Ann.node none (Ann.node none Ann.nil (Ann.node none (Ann.node none Ann.nil Ann.nil) Ann.nil)) (Ann.node none Ann.nil Ann.nil)))))
noncomputable def P52x0 (S : Sg) (r0 : Value) (r1 : Int) (h : Hp) : CRes :=
  allocK h 25 (Array.toList (Value.cells r0)) fun a0 h0 =>
  allocK h0 71 [(Value.slice none 0 0), (Value.slice none 0 0), (Value.slice none 0 0), (Value.slice none 0 0), (Value.map none)] fun a1 h1 =>
  loadNK 4 h1 a0 fun v2 =>
  pairK (callQ F63 [v2] h1) fun v3 h3 =>
  extK v3 0 fun v4 =>
  extK v3 1 fun v5 =>
  intK .i64 v5 fun i6 =>
  allocK h3 71 [(Value.slice none 0 0), (Value.slice none 0 0), (Value.slice none 0 0), (Value.slice none 0 0), (Value.map none)] fun a7 h7 =>
  storeNK 5 h7 a7 v4 fun h8 =>
  boolN (eqZ i6 (Int.ofNat 0)) fun b9 =>
  ifB b9
  (optK (buildV env 71 (List.toArray [])) fun v10 =>
  storeNK 5 h8 a1 v10 fun h11 =>
  loadNK 5 h11 a1 fun v12 => some (Value.tuple (List.toArray [v12, (Value.int .i64 i6)]), h11))
  (ptrAddK 0 a7 fun v13 =>
  ptrAddK 3 v13 fun v14 =>
  load1K h8 v14 fun v15 =>
  lenSK v15 fun i16 =>
  pairK (buildSliceV env h8 22 1 (List.toArray [(0, (Value.int .i64 r1))])) fun v17 h17 =>
  pairK (optK (F53 [(Value.int .i64 i16), v17] h17) fun v => some (v, h17)) fun v18 h18 =>
  boolK v18 fun b19 =>
  boolN b19 fun b20 =>
  ifB b20
  (optK (buildV env 71 (List.toArray [])) fun v21 =>
  storeNK 5 h18 a1 v21 fun h22 =>
  loadNK 5 h22 a1 fun v23 => some (Value.tuple (List.toArray [v23, (Value.int .i64 (Int.ofNat 4))]), h22))
  (loadNK 5 h18 a7 fun v24 =>
  storeNK 5 h18 a1 v24 fun h25 =>
  loadNK 5 h25 a1 fun v26 => some (Value.tuple (List.toArray [v26, (Value.int .i64 (Int.ofNat 0))]), h25)))
noncomputable def T52 (S : Sg) : Sg := tabC 0 (uV fun r0 => uI fun r1 => uN fun h => P52x0 S r0 r1 h) (tabN)
noncomputable def F52 (args : List Value) (h : Hp) : CRes := packVals [Kd.v, Kd.i .i64] args fun al => rec' T52 1000000 0 al h
def nt52 : Nat := 2 + (27 - 2)
theorem q52x0 (S : Sg) (r0 : Value) (r1 : Int) (h : Hp) : P52x0 S r0 r1 h = stepAt (regK env orc19 (nt52)) (finK env Try.f52.results.toList) (collect B52 A52 []) 0 S (AL.v r0 (AL.i r1 AL.n)) h := by kernel_rfl
theorem t52 (S : Sg) : Tab (fun l vs h => stepAt (regK env orc19 nt52) (finK env Try.f52.results.toList) (collect B52 A52 []) l S vs h) (T52 S) := by
  unfold T52
  refine Tab.cons 0 (fun vs0 h q e0 => ?_) ?_
  · obtain ⟨r0, vs1, rfl, e1⟩ := uV_some e0
    obtain ⟨r1, vs2, rfl, e2⟩ := uI_some e1
    obtain ⟨rfl, ee⟩ := uN_some e2
    exact (q52x0 S r0 r1 h).symm.trans ee
  exact Tab.nil
theorem r52 : ∀ args h v h', F52 args h = some (v, h') → Runs (C19) (.call 52 args.toArray h) (.ret v h') := by
  intro args h v h' e
  exact fun_sound (C := C19) (fn := Try.f52) (body := B52) (np := 2) (A := A52) (T := T52) (kinds := [Kd.v, Kd.i .i64]) (by kernel_rfl) (by kernel_rfl) (by kernel_rfl) (by kernel_rfl) (regK_ok env_ok) (by kernel_rfl) (fun S => t52 S) e
noncomputable def orc20 := orcQ 52 F52 orc19
noncomputable def C20 : Cfg := cfg orc20
theorem ok20 : C20.Ok := orcQ_ok (C := C19) ok19 r52
noncomputable def B54 : Code := (Try.f54.body).getD .skip
noncomputable def A54 : G.Ann (List KI) := (G.Ann.node (some (0, [KI.reg 0 (Kd.v), KI.reg 1 (Kd.v)])) G.Ann.nil (G.Ann.node none G.Ann.nil (G.Ann.node none (G.Ann.node none G.Ann.nil (G.Ann.node none (G.Ann.node (some (1, [KI.loc 2 2, KI.reg 5 (Kd.i .i64), KI.reg 10 (Kd.v), KI.reg 11 (Kd.i .i64), KI.reg 12 (Kd.i .i64), KI.list 2])) (G.Ann.node none G.Ann.nil (G.Ann.node none (G.Ann.node none G.Ann.nil G.Ann.nil) (G.Ann.node none (G.Ann.node none (G.Ann.node none G.Ann.nil (G.Ann.node none G.Ann.nil (G.Ann.node none (G.Ann.node (some (2, [KI.loc 2 2, KI.reg 5 (Kd.i .i64), KI.reg 10 (Kd.v), KI.reg 11 (Kd.i .i64), KI.reg 12 (Kd.i .i64), KI.reg 19 (Kd.v), KI.reg 20 (Kd.i .i64), KI.reg 21 (Kd.i .i64), KI.list 2])) (G.Ann.node none G.Ann.nil (G.Ann.node none (G.Ann.node none G.Ann.nil G.Ann.nil) (G.Ann.node none (G.Ann.node none (G.Ann.node none G.Ann.nil G.Ann.nil) G.Ann.nil) G.Ann.nil))) G.Ann.nil) G.Ann.nil))) G.Ann.nil) (G.Ann.node (some (3, [KI.loc 2 2, KI.reg 5 (Kd.i .i64), KI.reg 10 (Kd.v), KI.reg 11 (Kd.i .i64), KI.reg 12 (Kd.i .i64), KI.list 2])) G.Ann.nil G.Ann.nil)))) G.Ann.nil) G.Ann.nil)) (G.Ann.node (some (4, [KI.reg 5 (Kd.i .i64)])) G.Ann.nil G.Ann.nil))))
noncomputable def P54x4 (h : Hp) (S : Nat → PAL → Option Value) (r5 : Int) : Option Value :=
  some (Value.int .i64 r5)
noncomputable def P54x3 (h : Hp) (S : Nat → PAL → Option Value) (r5 : Int) (r10 : Value) (r11 : Int) (r12 : Int) (c2 : List Value) : Option Value :=
  wrap64 (Int.add r12 (Int.ofNat 1)) fun i0 =>
  S 1 (PAL.i r5 (PAL.v r10 (PAL.i r11 (PAL.i i0 (PAL.l c2 PAL.n)))))
noncomputable def P54x2 (h : Hp) (S : Nat → PAL → Option Value) (r5 : Int) (r10 : Value) (r11 : Int) (r12 : Int) (r19 : Value) (r20 : Int) (r21 : Int) (c2 : List Value) : Option Value :=
  boolZ (ltZ r21 r20) fun b0 =>
  ifB b0
  (idxSK 1 r19 r21 fun v1 =>
  load1K h v1 fun v2 =>
  intK .i64 v2 fun i3 =>
  nthR c2 0 fun v4 =>
  idxSK 1 v4 i3 fun v5 =>
  load1K h v5 fun v6 =>
  intK .i64 v6 fun i7 =>
  wrap64 (Int.add r5 i7) fun i8 =>
  wrap64 (Int.add r21 (Int.ofNat 1)) fun i9 =>
  S 2 (PAL.i i8 (PAL.v r10 (PAL.i r11 (PAL.i r12 (PAL.v r19 (PAL.i r20 (PAL.i i9 (PAL.l c2 PAL.n)))))))))
  (S 3 (PAL.i r5 (PAL.v r10 (PAL.i r11 (PAL.i r12 (PAL.l c2 PAL.n))))))
noncomputable def P54x1 (h : Hp) (S : Nat → PAL → Option Value) (r5 : Int) (r10 : Value) (r11 : Int) (r12 : Int) (c2 : List Value) : Option Value :=
  boolZ (ltZ r12 r11) fun b0 =>
  ifB b0
  (idxSK 2 r10 r12 fun v1 =>
  loadNK 2 h v1 fun v2 =>
  aggK v2 fun l3 => ifB (Nat.beq (lenR l3) 2) (segR 0 l3 [(Value.int .i64 (Int.ofNat 0)), (Value.int .i64 (Int.ofNat 0))] fun c3 =>
  nthR c2 4 fun v4 =>
  dropR c3 0 fun d5 => takeR d5 2 fun l5 =>
  optK (lookupV env h 69 v4 (Value.agg (Array.mk l5)) false) fun v6 =>
  lenSK v6 fun i7 =>
  S 2 (PAL.i r5 (PAL.v r10 (PAL.i r11 (PAL.i r12 (PAL.v v6 (PAL.i i7 (PAL.i (Int.ofNat 0) (PAL.l c2 PAL.n))))))))) none)
  (S 4 (PAL.i r5 PAL.n))
noncomputable def P54x0 (h : Hp) (S : Nat → PAL → Option Value) (r0 : Value) (r1 : Value) : Option Value :=
  forceL (Array.toList (Value.cells r0)) fun c0 =>
  lenSK r1 fun i1 =>
  S 1 (PAL.i (Int.ofNat 0) (PAL.v r1 (PAL.i i1 (PAL.i (Int.ofNat 0) (PAL.l c0 PAL.n)))))
noncomputable def T54 (h : Hp) (S : Nat → PAL → Option Value) : Nat → PAL → Option Value := tabPC 0 (wV fun r0 => wV fun r1 => wN (P54x0 h S r0 r1)) (tabPC 1 (wI fun r5 => wV fun r10 => wI fun r11 => wI fun r12 => wL fun c2 => wN (P54x1 h S r5 r10 r11 r12 c2)) (tabPC 2 (wI fun r5 => wV fun r10 => wI fun r11 => wI fun r12 => wV fun r19 => wI fun r20 => wI fun r21 => wL fun c2 => wN (P54x2 h S r5 r10 r11 r12 r19 r20 r21 c2)) (tabPC 3 (wI fun r5 => wV fun r10 => wI fun r11 => wI fun r12 => wL fun c2 => wN (P54x3 h S r5 r10 r11 r12 c2)) (tabPC 4 (wI fun r5 => wN (P54x4 h S r5)) (tabPN)))))
noncomputable def F54 (args : List Value) (h : Hp) : Option Value := plainO (packArgs [Kd.v, Kd.v] args fun al => G.rec' (T54 h) 1000000 0 al)
def nt54 : Nat := 2 + (36 - 2)
theorem q54x4 (h : Hp) (S : Nat → PAL → Option Value) (r5 : Int) : P54x4 h S r5 = G.stepAt packP unpackP evXV (regP env pf5 nt54 h) (finP env Try.f54.results.toList) (G.collect B54 A54 []) 4 S (PAL.i r5 PAL.n) := by kernel_rfl
theorem q54x3 (h : Hp) (S : Nat → PAL → Option Value) (r5 : Int) (r10 : Value) (r11 : Int) (r12 : Int) (c2 : List Value) : P54x3 h S r5 r10 r11 r12 c2 = G.stepAt packP unpackP evXV (regP env pf5 nt54 h) (finP env Try.f54.results.toList) (G.collect B54 A54 []) 3 S (PAL.i r5 (PAL.v r10 (PAL.i r11 (PAL.i r12 (PAL.l c2 PAL.n))))) := by kernel_rfl
theorem q54x2 (h : Hp) (S : Nat → PAL → Option Value) (r5 : Int) (r10 : Value) (r11 : Int) (r12 : Int) (r19 : Value) (r20 : Int) (r21 : Int) (c2 : List Value) : P54x2 h S r5 r10 r11 r12 r19 r20 r21 c2 = G.stepAt packP unpackP evXV (regP env pf5 nt54 h) (finP env Try.f54.results.toList) (G.collect B54 A54 []) 2 S (PAL.i r5 (PAL.v r10 (PAL.i r11 (PAL.i r12 (PAL.v r19 (PAL.i r20 (PAL.i r21 (PAL.l c2 PAL.n)))))))) := by kernel_rfl
theorem q54x1 (h : Hp) (S : Nat → PAL → Option Value) (r5 : Int) (r10 : Value) (r11 : Int) (r12 : Int) (c2 : List Value) : P54x1 h S r5 r10 r11 r12 c2 = G.stepAt packP unpackP evXV (regP env pf5 nt54 h) (finP env Try.f54.results.toList) (G.collect B54 A54 []) 1 S (PAL.i r5 (PAL.v r10 (PAL.i r11 (PAL.i r12 (PAL.l c2 PAL.n))))) := by kernel_rfl
theorem q54x0 (h : Hp) (S : Nat → PAL → Option Value) (r0 : Value) (r1 : Value) : P54x0 h S r0 r1 = G.stepAt packP unpackP evXV (regP env pf5 nt54 h) (finP env Try.f54.results.toList) (G.collect B54 A54 []) 0 S (PAL.v r0 (PAL.v r1 PAL.n)) := by kernel_rfl
theorem t54 (h : Hp) (S : Nat → PAL → Option Value) : TabP (fun l al => G.stepAt packP unpackP evXV (regP env pf5 nt54 h) (finP env Try.f54.results.toList) (G.collect B54 A54 []) l S al) (T54 h S) := by
  unfold T54
  refine TabP.cons 0 (fun vs0 q e0 => ?_) ?_
  · obtain ⟨r0, vs1, rfl, e1⟩ := wV_some e0
    obtain ⟨r1, vs2, rfl, e2⟩ := wV_some e1
    obtain ⟨rfl, ee⟩ := wN_some e2
    exact (q54x0 h S r0 r1).symm.trans ee
  refine TabP.cons 1 (fun vs0 q e0 => ?_) ?_
  · obtain ⟨r5, vs1, rfl, e1⟩ := wI_some e0
    obtain ⟨r10, vs2, rfl, e2⟩ := wV_some e1
    obtain ⟨r11, vs3, rfl, e3⟩ := wI_some e2
    obtain ⟨r12, vs4, rfl, e4⟩ := wI_some e3
    obtain ⟨c2, vs5, rfl, e5⟩ := wL_some e4
    obtain ⟨rfl, ee⟩ := wN_some e5
    exact (q54x1 h S r5 r10 r11 r12 c2).symm.trans ee
  refine TabP.cons 2 (fun vs0 q e0 => ?_) ?_
  · obtain ⟨r5, vs1, rfl, e1⟩ := wI_some e0
    obtain ⟨r10, vs2, rfl, e2⟩ := wV_some e1
    obtain ⟨r11, vs3, rfl, e3⟩ := wI_some e2
    obtain ⟨r12, vs4, rfl, e4⟩ := wI_some e3
    obtain ⟨r19, vs5, rfl, e5⟩ := wV_some e4
    obtain ⟨r20, vs6, rfl, e6⟩ := wI_some e5
    obtain ⟨r21, vs7, rfl, e7⟩ := wI_some e6
    obtain ⟨c2, vs8, rfl, e8⟩ := wL_some e7
    obtain ⟨rfl, ee⟩ := wN_some e8
    exact (q54x2 h S r5 r10 r11 r12 r19 r20 r21 c2).symm.trans ee
  refine TabP.cons 3 (fun vs0 q e0 => ?_) ?_
  · obtain ⟨r5, vs1, rfl, e1⟩ := wI_some e0
    obtain ⟨r10, vs2, rfl, e2⟩ := wV_some e1
    obtain ⟨r11, vs3, rfl, e3⟩ := wI_some e2
    obtain ⟨r12, vs4, rfl, e4⟩ := wI_some e3
    obtain ⟨c2, vs5, rfl, e5⟩ := wL_some e4
    obtain ⟨rfl, ee⟩ := wN_some e5
    exact (q54x3 h S r5 r10 r11 r12 c2).symm.trans ee
  refine TabP.cons 4 (fun vs0 q e0 => ?_) ?_
  · obtain ⟨r5, vs1, rfl, e1⟩ := wI_some e0
    obtain ⟨rfl, ee⟩ := wN_some e1
    exact (q54x4 h S r5).symm.trans ee
  exact TabP.nil
theorem r54 : PSound Try.prog 54 F54 := fun_soundP (C := C0) ok0 (pf := pf5) pfok5 (fn := Try.f54) (body := B54) (kinds := [Kd.v, Kd.v]) (A := A54) (T := T54) (by kernel_rfl) (by kernel_rfl) (by kernel_rfl) (by kernel_rfl) (fun h S => t54 h S)
noncomputable def pf6 : PF := pfC 54 F54 pf5
theorem pfok6 : PfSound Try.prog pf6 := pfC_ok r54 pfok5
noncomputable def orc21 := orcP 54 F54 orc20
noncomputable def C21 : Cfg := cfg orc21
theorem ok21 : C21.Ok := orcP_ok (C := C20) ok20 r54
noncomputable def B18 : Code := (Try.f18.body).getD .skip
def A18 : Ann := (Ann.node (some (0, [(0, Kd.v), (1, Kd.i .i64), (2, Kd.i .i64)])) Ann.nil (Ann.node none Ann.nil (Ann.node none (Ann.node none Ann.nil (Ann.node none (Ann.node none Ann.nil Ann.nil) Ann.nil)) (Ann.node none (Ann.node none Ann.nil (Ann.node none (Ann.node none Ann.nil Ann.nil) Ann.nil)) (Ann.node none Ann.nil (Ann.node none Ann.nil Ann.nil))))))
noncomputable def P18x0 (S : Sg) (r0 : Value) (r1 : Int) (r2 : Int) (h : Hp) : CRes :=
  allocK h 25 (Array.toList (Value.cells r0)) fun a0 h0 =>
  loadNK 4 h0 a0 fun v1 =>
  pairK (callQ F52 [v1, (Value.int .i64 r2)] h0) fun v2 h2 =>
  extK v2 0 fun v3 =>
  extK v2 1 fun v4 =>
  intK .i64 v4 fun i5 =>
  allocK h2 71 [(Value.slice none 0 0), (Value.slice none 0 0), (Value.slice none 0 0), (Value.slice none 0 0), (Value.map none)] fun a6 h6 =>
  storeNK 5 h6 a6 v3 fun h7 =>
  boolN (eqZ i5 (Int.ofNat 0)) fun b8 =>
  ifB b8
  (some (Value.tuple (List.toArray [(Value.int .i64 (Int.ofNat 0)), (Value.slice none 0 0), (Value.int .i64 i5)]), h7))
  (ptrAddK 0 a6 fun v9 =>
  ptrAddK 2 v9 fun v10 =>
  load1K h7 v10 fun v11 =>
  lenSK v11 fun i12 =>
  pairK (buildSliceV env h7 22 1 (List.toArray [(0, (Value.int .i64 r1))])) fun v13 h13 =>
  pairK (optK (F53 [(Value.int .i64 i12), v13] h13) fun v => some (v, h13)) fun v14 h14 =>
  boolK v14 fun b15 =>
  boolN b15 fun b16 =>
  ifB b16
  (some (Value.tuple (List.toArray [(Value.int .i64 (Int.ofNat 0)), (Value.slice none 0 0), (Value.int .i64 (Int.ofNat 4))]), h14))
  (optK (buildV env 76 (List.toArray [(0, (Value.int .i64 r1)), (1, (Value.int .i64 r2))])) fun v17 =>
  allocK h14 76 [(Value.int .i64 (Int.ofNat 0)), (Value.int .i64 (Int.ofNat 0))] fun a18 h18 =>
  storeNK 2 h18 a18 v17 fun h19 =>
  loadNK 5 (Hp.mk (Hp.next h19) (Hp.next h19) (Hp.objs h19)) a6 fun v20 =>
  loadNK 2 (Hp.mk (Hp.next h19) (Hp.next h19) (Hp.objs h19)) a18 fun v21 =>
  pairK (buildSliceV env (Hp.mk (Hp.next h19) (Hp.next h19) T.nil) 79 1 (List.toArray [(0, v21)])) fun v22 h22 =>
  leftK v22 (Hp.next h19) h22 fun w23 n23 =>
  pairK (optK (F54 [v20, v22] (Hp.mk n23 n23 (addAll w23 (Hp.objs h19)))) fun v => some (v, (Hp.mk n23 n23 (addAll w23 (Hp.objs h19))))) fun v24 h24 =>
  intK .i64 v24 fun i25 =>
  ptrAddK 4 a6 fun v26 =>
  load1K (Hp.mk n23 n23 (Hp.objs h19)) v26 fun v27 =>
  loadNK 2 (Hp.mk n23 n23 (Hp.objs h19)) a18 fun v28 =>
  optK (lookupV env (Hp.mk n23 n23 (Hp.objs h19)) 69 v27 v28 false) fun v29 =>
  some (Value.tuple (List.toArray [(Value.int .i64 i25), v29, (Value.int .i64 (Int.ofNat 0))]), (Hp.mk n23 (Hp.ro h19) (addAll w23 (Hp.objs h19))))))
noncomputable def T18 (S : Sg) : Sg := tabC 0 (uV fun r0 => uI fun r1 => uI fun r2 => uN fun h => P18x0 S r0 r1 r2 h) (tabN)
noncomputable def F18 (args : List Value) (h : Hp) : CRes := packVals [Kd.v, Kd.i .i64, Kd.i .i64] args fun al => rec' T18 1000000 0 al h
def nt18 : Nat := 3 + (39 - 3)
theorem q18x0 (S : Sg) (r0 : Value) (r1 : Int) (r2 : Int) (h : Hp) : P18x0 S r0 r1 r2 h = stepAt (regK env orc21 (nt18)) (finK env Try.f18.results.toList) (collect B18 A18 []) 0 S (AL.v r0 (AL.i r1 (AL.i r2 AL.n))) h := by kernel_rfl
theorem t18 (S : Sg) : Tab (fun l vs h => stepAt (regK env orc21 nt18) (finK env Try.f18.results.toList) (collect B18 A18 []) l S vs h) (T18 S) := by
  unfold T18
  refine Tab.cons 0 (fun vs0 h q e0 => ?_) ?_
  · obtain ⟨r0, vs1, rfl, e1⟩ := uV_some e0
    obtain ⟨r1, vs2, rfl, e2⟩ := uI_some e1
    obtain ⟨r2, vs3, rfl, e3⟩ := uI_some e2
    obtain ⟨rfl, ee⟩ := uN_some e3
    exact (q18x0 S r0 r1 r2 h).symm.trans ee
  exact Tab.nil
theorem r18 : ∀ args h v h', F18 args h = some (v, h') → Runs (C21) (.call 18 args.toArray h) (.ret v h') := by
  intro args h v h' e
  exact fun_sound (C := C21) (fn := Try.f18) (body := B18) (np := 3) (A := A18) (T := T18) (kinds := [Kd.v, Kd.i .i64, Kd.i .i64]) (by kernel_rfl) (by kernel_rfl) (by kernel_rfl) (by kernel_rfl) (regK_ok env_ok) (by kernel_rfl) (fun S => t18 S) e
noncomputable def orc22 := orcQ 18 F18 orc21
noncomputable def C22 : Cfg := cfg orc22
theorem ok22 : C22.Ok := orcQ_ok (C := C21) ok21 r18
noncomputable def B111 : Code := (Try.f111.body).getD .skip
noncomputable def A111 : G.Ann (List KI) := (G.Ann.node (some (0, [KI.reg 0 (Kd.v), KI.reg 1 (Kd.i .i64)])) G.Ann.nil (G.Ann.node none (G.Ann.node none G.Ann.nil (G.Ann.node none (G.Ann.node (some (1, [KI.reg 0 (Kd.v), KI.reg 1 (Kd.i .i64), KI.reg 7 (Kd.i .i64), KI.reg 8 (Kd.i .i64)])) (G.Ann.node none G.Ann.nil (G.Ann.node none (G.Ann.node none G.Ann.nil G.Ann.nil) (G.Ann.node none (G.Ann.node none (G.Ann.node none G.Ann.nil (G.Ann.node none G.Ann.nil (G.Ann.node none (G.Ann.node none G.Ann.nil G.Ann.nil) G.Ann.nil))) G.Ann.nil) G.Ann.nil))) G.Ann.nil) G.Ann.nil)) (G.Ann.node (some (2, [])) G.Ann.nil G.Ann.nil)))
noncomputable def P111x2 (h : Hp) (S : Nat → PAL → Option Value) : Option Value :=
  some (Value.int .i64 (Int.negSucc 0))
noncomputable def P111x1 (h : Hp) (S : Nat → PAL → Option Value) (r0 : Value) (r1 : Int) (r7 : Int) (r8 : Int) : Option Value :=
  boolZ (ltZ r8 r7) fun b0 =>
  ifB b0
  (idxSK 1 r0 r8 fun v1 =>
  load1K h v1 fun v2 =>
  intK .i64 v2 fun i3 =>
  boolZ (eqZ r1 i3) fun b4 =>
  ifB b4
  (some (Value.int .i64 r8))
  (wrap64 (Int.add r8 (Int.ofNat 1)) fun i5 =>
  S 1 (PAL.v r0 (PAL.i r1 (PAL.i r7 (PAL.i i5 PAL.n))))))
  (S 2 PAL.n)
noncomputable def P111x0 (h : Hp) (S : Nat → PAL → Option Value) (r0 : Value) (r1 : Int) : Option Value :=
  lenSK r0 fun i0 =>
  S 1 (PAL.v r0 (PAL.i r1 (PAL.i i0 (PAL.i (Int.ofNat 0) PAL.n))))
noncomputable def T111 (h : Hp) (S : Nat → PAL → Option Value) : Nat → PAL → Option Value := tabPC 0 (wV fun r0 => wI fun r1 => wN (P111x0 h S r0 r1)) (tabPC 1 (wV fun r0 => wI fun r1 => wI fun r7 => wI fun r8 => wN (P111x1 h S r0 r1 r7 r8)) (tabPC 2 (wN (P111x2 h S)) (tabPN)))
noncomputable def F111 (args : List Value) (h : Hp) : Option Value := plainO (packArgs [Kd.v, Kd.i .i64] args fun al => G.rec' (T111 h) 1000000 0 al)
def nt111 : Nat := 2 + (19 - 2)
theorem q111x2 (h : Hp) (S : Nat → PAL → Option Value) : P111x2 h S = G.stepAt packP unpackP evXV (regP env pf6 nt111 h) (finP env Try.f111.results.toList) (G.collect B111 A111 []) 2 S PAL.n := by kernel_rfl
theorem q111x1 (h : Hp) (S : Nat → PAL → Option Value) (r0 : Value) (r1 : Int) (r7 : Int) (r8 : Int) : P111x1 h S r0 r1 r7 r8 = G.stepAt packP unpackP evXV (regP env pf6 nt111 h) (finP env Try.f111.results.toList) (G.collect B111 A111 []) 1 S (PAL.v r0 (PAL.i r1 (PAL.i r7 (PAL.i r8 PAL.n)))) := by kernel_rfl
theorem q111x0 (h : Hp) (S : Nat → PAL → Option Value) (r0 : Value) (r1 : Int) : P111x0 h S r0 r1 = G.stepAt packP unpackP evXV (regP env pf6 nt111 h) (finP env Try.f111.results.toList) (G.collect B111 A111 []) 0 S (PAL.v r0 (PAL.i r1 PAL.n)) := by kernel_rfl
theorem t111 (h : Hp) (S : Nat → PAL → Option Value) : TabP (fun l al => G.stepAt packP unpackP evXV (regP env pf6 nt111 h) (finP env Try.f111.results.toList) (G.collect B111 A111 []) l S al) (T111 h S) := by
  unfold T111
  refine TabP.cons 0 (fun vs0 q e0 => ?_) ?_
  · obtain ⟨r0, vs1, rfl, e1⟩ := wV_some e0
    obtain ⟨r1, vs2, rfl, e2⟩ := wI_some e1
    obtain ⟨rfl, ee⟩ := wN_some e2
    exact (q111x0 h S r0 r1).symm.trans ee
  refine TabP.cons 1 (fun vs0 q e0 => ?_) ?_
  · obtain ⟨r0, vs1, rfl, e1⟩ := wV_some e0
    obtain ⟨r1, vs2, rfl, e2⟩ := wI_some e1
    obtain ⟨r7, vs3, rfl, e3⟩ := wI_some e2
    obtain ⟨r8, vs4, rfl, e4⟩ := wI_some e3
    obtain ⟨rfl, ee⟩ := wN_some e4
    exact (q111x1 h S r0 r1 r7 r8).symm.trans ee
  refine TabP.cons 2 (fun vs0 q e0 => ?_) ?_
  · 
    obtain ⟨rfl, ee⟩ := wN_some e0
    exact (q111x2 h S).symm.trans ee
  exact TabP.nil
theorem r111 : PSound Try.prog 111 F111 := fun_soundP (C := C0) ok0 (pf := pf6) pfok6 (fn := Try.f111) (body := B111) (kinds := [Kd.v, Kd.i .i64]) (A := A111) (T := T111) (by kernel_rfl) (by kernel_rfl) (by kernel_rfl) (by kernel_rfl) (fun h S => t111 h S)
noncomputable def pf7 : PF := pfC 111 F111 pf6
theorem pfok7 : PfSound Try.prog pf7 := pfC_ok r111 pfok6
noncomputable def orc23 := orcP 111 F111 orc22
noncomputable def C23 : Cfg := cfg orc23
theorem ok23 : C23.Ok := orcP_ok (C := C22) ok22 r111
noncomputable def B90 : Code := (Try.f90.body).getD .skip
noncomputable def A90 : G.Ann (List KI) := (G.Ann.node (some (0, [KI.reg 0 (Kd.v), KI.reg 1 (Kd.i .i64)])) G.Ann.nil (G.Ann.node none G.Ann.nil G.Ann.nil))
noncomputable def P90x0 (h : Hp) (S : Nat → PAL → Option Value) (r0 : Value) (r1 : Int) : Option Value :=
  optK (F111 [r0, (Value.int .i64 r1)] h) fun v0 =>
  intK .i64 v0 fun i1 =>
  boolN (ltZ i1 (Int.ofNat 0)) fun b2 =>
  some (Value.bool b2)
noncomputable def T90 (h : Hp) (S : Nat → PAL → Option Value) : Nat → PAL → Option Value := tabPC 0 (wV fun r0 => wI fun r1 => wN (P90x0 h S r0 r1)) (tabPN)
noncomputable def F90 (args : List Value) (h : Hp) : Option Value := plainO (packArgs [Kd.v, Kd.i .i64] args fun al => G.rec' (T90 h) 1000000 0 al)
def nt90 : Nat := 2 + (9 - 2)
theorem q90x0 (h : Hp) (S : Nat → PAL → Option Value) (r0 : Value) (r1 : Int) : P90x0 h S r0 r1 = G.stepAt packP unpackP evXV (regP env pf7 nt90 h) (finP env Try.f90.results.toList) (G.collect B90 A90 []) 0 S (PAL.v r0 (PAL.i r1 PAL.n)) := by kernel_rfl
theorem t90 (h : Hp) (S : Nat → PAL → Option Value) : TabP (fun l al => G.stepAt packP unpackP evXV (regP env pf7 nt90 h) (finP env Try.f90.results.toList) (G.collect B90 A90 []) l S al) (T90 h S) := by
  unfold T90
  refine TabP.cons 0 (fun vs0 q e0 => ?_) ?_
  · obtain ⟨r0, vs1, rfl, e1⟩ := wV_some e0
    obtain ⟨r1, vs2, rfl, e2⟩ := wI_some e1
    obtain ⟨rfl, ee⟩ := wN_some e2
    exact (q90x0 h S r0 r1).symm.trans ee
  exact TabP.nil
theorem r90 : PSound Try.prog 90 F90 := fun_soundP (C := C0) ok0 (pf := pf7) pfok7 (fn := Try.f90) (body := B90) (kinds := [Kd.v, Kd.i .i64]) (A := A90) (T := T90) (by kernel_rfl) (by kernel_rfl) (by kernel_rfl) (by kernel_rfl) (fun h S => t90 h S)
noncomputable def pf8 : PF := pfC 90 F90 pf7
theorem pfok8 : PfSound Try.prog pf8 := pfC_ok r90 pfok7
noncomputable def orc24 := orcP 90 F90 orc23
noncomputable def C24 : Cfg := cfg orc24
theorem ok24 : C24.Ok := orcP_ok (C := C23) ok23 r90
noncomputable def B92 : Code := (Try.f92.body).getD .skip
noncomputable def A92 : G.Ann (List KI) := (G.Ann.node (some (0, [KI.reg 0 (Kd.v), KI.reg 1 (Kd.v)])) G.Ann.nil (G.Ann.node none G.Ann.nil G.Ann.nil))
noncomputable def P92x0 (h : Hp) (S : Nat → PAL → Option Value) (r0 : Value) (r1 : Value) : Option Value :=
  forceL (Array.toList (Value.cells r0)) fun c0 =>
  forceL (Array.toList (Value.cells r1)) fun c1 =>
  nthR c0 4 fun v2 =>
  dropR c1 0 fun d3 => takeR d3 2 fun l3 =>
  optK (lookupV env h 69 v2 (Value.agg (Array.mk l3)) false) fun v4 =>
  optK (F90 [v4, (Value.int .i64 (Int.ofNat 0))] h) fun v5 =>
  boolK v5 fun b6 =>
  some (Value.bool b6)
noncomputable def T92 (h : Hp) (S : Nat → PAL → Option Value) : Nat → PAL → Option Value := tabPC 0 (wV fun r0 => wV fun r1 => wN (P92x0 h S r0 r1)) (tabPN)
noncomputable def F92 (args : List Value) (h : Hp) : Option Value := plainO (packArgs [Kd.v, Kd.v] args fun al => G.rec' (T92 h) 1000000 0 al)
def nt92 : Nat := 2 + (10 - 2)
theorem q92x0 (h : Hp) (S : Nat → PAL → Option Value) (r0 : Value) (r1 : Value) : P92x0 h S r0 r1 = G.stepAt packP unpackP evXV (regP env pf8 nt92 h) (finP env Try.f92.results.toList) (G.collect B92 A92 []) 0 S (PAL.v r0 (PAL.v r1 PAL.n)) := by kernel_rfl
theorem t92 (h : Hp) (S : Nat → PAL → Option Value) : TabP (fun l al => G.stepAt packP unpackP evXV (regP env pf8 nt92 h) (finP env Try.f92.results.toList) (G.collect B92 A92 []) l S al) (T92 h S) := by
  unfold T92
  refine TabP.cons 0 (fun vs0 q e0 => ?_) ?_
  · obtain ⟨r0, vs1, rfl, e1⟩ := wV_some e0
    obtain ⟨r1, vs2, rfl, e2⟩ := wV_some e1
    obtain ⟨rfl, ee⟩ := wN_some e2
    exact (q92x0 h S r0 r1).symm.trans ee
  exact TabP.nil
theorem r92 : PSound Try.prog 92 F92 := fun_soundP (C := C0) ok0 (pf := pf8) pfok8 (fn := Try.f92) (body := B92) (kinds := [Kd.v, Kd.v]) (A := A92) (T := T92) (by kernel_rfl) (by kernel_rfl) (by kernel_rfl) (by kernel_rfl) (fun h S => t92 h S)
noncomputable def pf9 : PF := pfC 92 F92 pf8
theorem pfok9 : PfSound Try.prog pf9 := pfC_ok r92 pfok8
noncomputable def orc25 := orcP 92 F92 orc24
noncomputable def C25 : Cfg := cfg orc25
theorem ok25 : C25.Ok := orcP_ok (C := C24) ok24 r92
noncomputable def B60 : Code := (Try.f60.body).getD .skip
def A60 : Ann := (Ann.node (some (0, [(0, Kd.v), (1, Kd.v)])) Ann.nil (Ann.node none Ann.nil (Ann.node none Ann.nil (Ann.node none (Ann.node none Ann.nil (Ann.node none (Ann.node (some (1, [(2, Kd.v), (4, Kd.v), (5, Kd.v), (15, Kd.v), (16, Kd.i .i64), (17, Kd.i .i64)])) (Ann.node none Ann.nil (Ann.node none (Ann.node none Ann.nil Ann.nil) (Ann.node none (Ann.node none (Ann.node none Ann.nil (Ann.node none Ann.nil (Ann.node none (Ann.node none Ann.nil (Ann.node none Ann.nil Ann.nil)) Ann.nil))) Ann.nil) Ann.nil))) Ann.nil) Ann.nil)) (Ann.node (some (2, [(4, Kd.v), (5, Kd.v)])) Ann.nil Ann.nil)))))
noncomputable def P60x2 (S : Sg) (r4 : Value) (r5 : Value) (h : Hp) : CRes :=
  loadNK 4 h r5 fun v0 =>
  storeNK 4 h r4 v0 fun h1 =>
  loadNK 4 h1 r4 fun v2 => some (v2, h1)
noncomputable def P60x1 (S : Sg) (r2 : Value) (r4 : Value) (r5 : Value) (r15 : Value) (r16 : Int) (r17 : Int) (h : Hp) : CRes :=
  boolZ (ltZ r17 r16) fun b0 =>
  ifB b0
  (idxSK 2 r15 r17 fun v1 =>
  loadNK 2 h v1 fun v2 =>
  allocK h 76 [(Value.int .i64 (Int.ofNat 0)), (Value.int .i64 (Int.ofNat 0))] fun a3 h3 =>
  storeNK 2 h3 a3 v2 fun h4 =>
  loadNK 5 h4 r2 fun v5 =>
  loadNK 2 h4 a3 fun v6 =>
  pairK (optK (F92 [v5, v6] h4) fun v => some (v, h4)) fun v7 h7 =>
  boolK v7 fun b8 =>
  ifB b8
  (ptrAddK 0 r2 fun v9 =>
  ptrAddK 2 v9 fun v10 =>
  load1K (Hp.mk (Hp.next h7) (Hp.next h7) (Hp.objs h7)) v10 fun v11 =>
  ptrAddK 0 a3 fun v12 =>
  load1K (Hp.mk (Hp.next h7) (Hp.next h7) (Hp.objs h7)) v12 fun v13 =>
  intK .i64 v13 fun i14 =>
  idxSK 3 v11 i14 fun v15 =>
  loadNK 3 (Hp.mk (Hp.next h7) (Hp.next h7) (Hp.objs h7)) v15 fun v16 =>
  ptrAddK 0 r2 fun v17 =>
  ptrAddK 3 v17 fun v18 =>
  load1K (Hp.mk (Hp.next h7) (Hp.next h7) (Hp.objs h7)) v18 fun v19 =>
  ptrAddK 1 a3 fun v20 =>
  load1K (Hp.mk (Hp.next h7) (Hp.next h7) (Hp.objs h7)) v20 fun v21 =>
  intK .i64 v21 fun i22 =>
  idxSK 3 v19 i22 fun v23 =>
  loadNK 3 (Hp.mk (Hp.next h7) (Hp.next h7) (Hp.objs h7)) v23 fun v24 =>
  allocK (Hp.mk (Hp.next h7) (Hp.next h7) T.nil) 59 [(Value.string (ByteArray.mk #[])), (Value.slice none 0 0), (Value.int .i64 (Int.ofNat 0))] fun a25 h25 =>
  leftK a25 (Hp.next h7) h25 fun w26 n26 =>
  allocK (Hp.mk n26 n26 T.nil) 59 [(Value.string (ByteArray.mk #[])), (Value.slice none 0 0), (Value.int .i64 (Int.ofNat 0))] fun a27 h27 =>
  leftK a27 n26 h27 fun w28 n28 =>
  storeQ env 59 a25 v16 n28 (Hp.next h7) (addAll w28 (addAll w26 (Hp.objs h7))) (fun b => (hasBlk [] b || (hasBlk [] b || (hasBlk [] b || (hasBlk [] b || (hasBlk [] b || (hasBlk [] b || (hasBlk [] b || (hasBlk w26 b || (hasBlk w28 b || false)))))))))) fun w29 =>
  storeNK 3 (Hp.mk n28 (Hp.ro h7) (addAll w29 (addAll w28 (addAll w26 (Hp.objs h7))))) a27 v24 fun h30 =>
  ptrAddK 1 a25 fun v31 =>
  load1K h30 v31 fun v32 =>
  idxSK 1 v32 (Int.ofNat 0) fun v33 =>
  load1K h30 v33 fun v34 =>
  intK .i64 v34 fun i35 =>
  idxAK 4 1 r5 i35 fun v36 =>
  load1K h30 v36 fun v37 =>
  intK .i64 v37 fun i38 =>
  ptrAddK 2 a25 fun v39 =>
  load1K h30 v39 fun v40 =>
  intK .i64 v40 fun i41 =>
  wrap64 (Int.add i38 i41) fun i42 =>
  idxAK 4 1 r5 i35 fun v43 =>
  store1K h30 v43 (Value.int .i64 i42) fun h44 =>
  ptrAddK 1 a27 fun v45 =>
  load1K h44 v45 fun v46 =>
  idxSK 1 v46 (Int.ofNat 0) fun v47 =>
  load1K h44 v47 fun v48 =>
  intK .i64 v48 fun i49 =>
  idxAK 4 1 r5 i49 fun v50 =>
  load1K h44 v50 fun v51 =>
  intK .i64 v51 fun i52 =>
  ptrAddK 2 a27 fun v53 =>
  load1K h44 v53 fun v54 =>
  intK .i64 v54 fun i55 =>
  wrap64 (Int.sub i52 i55) fun i56 =>
  idxAK 4 1 r5 i49 fun v57 =>
  store1K h44 v57 (Value.int .i64 i56) fun h58 =>
  wrap64 (Int.add r17 (Int.ofNat 1)) fun i59 =>
  S 1 (AL.v r2 (AL.v r4 (AL.v r5 (AL.v r15 (AL.i r16 (AL.i i59 AL.n)))))) h58)
  (wrap64 (Int.add r17 (Int.ofNat 1)) fun i60 =>
  S 1 (AL.v r2 (AL.v r4 (AL.v r5 (AL.v r15 (AL.i r16 (AL.i i60 AL.n)))))) h7))
  (S 2 (AL.v r4 (AL.v r5 AL.n)) h)
noncomputable def P60x0 (S : Sg) (r0 : Value) (r1 : Value) (h : Hp) : CRes :=
  allocK h 71 (Array.toList (Value.cells r0)) fun a0 h0 =>
  allocK h0 87 [(Value.int .i64 (Int.ofNat 0)), (Value.int .i64 (Int.ofNat 0)), (Value.int .i64 (Int.ofNat 0)), (Value.int .i64 (Int.ofNat 0))] fun a1 h1 =>
  allocK h1 87 [(Value.int .i64 (Int.ofNat 0)), (Value.int .i64 (Int.ofNat 0)), (Value.int .i64 (Int.ofNat 0)), (Value.int .i64 (Int.ofNat 0))] fun a2 h2 =>
  optK (sliceV env h2 87 a2 none none none) fun v3 =>
  ptrAddK 0 a0 fun v4 =>
  ptrAddK 1 v4 fun v5 =>
  load1K h2 v5 fun v6 =>
  pairK (copyV env h2 #[22, 22] (List.toArray [v3, v6])) fun v7 h7 =>
  lenSK r1 fun i8 =>
  S 1 (AL.v a0 (AL.v a1 (AL.v a2 (AL.v r1 (AL.i i8 (AL.i (Int.ofNat 0) AL.n)))))) h7
noncomputable def T60 (S : Sg) : Sg := tabC 0 (uV fun r0 => uV fun r1 => uN fun h => P60x0 S r0 r1 h) (tabC 1 (uV fun r2 => uV fun r4 => uV fun r5 => uV fun r15 => uI fun r16 => uI fun r17 => uN fun h => P60x1 S r2 r4 r5 r15 r16 r17 h) (tabC 2 (uV fun r4 => uV fun r5 => uN fun h => P60x2 S r4 r5 h) (tabN)))
noncomputable def F60 (args : List Value) (h : Hp) : CRes := packVals [Kd.v, Kd.v] args fun al => rec' T60 1000000 0 al h
def nt60 : Nat := 2 + (60 - 2)
theorem q60x2 (S : Sg) (r4 : Value) (r5 : Value) (h : Hp) : P60x2 S r4 r5 h = stepAt (regK env orc25 (nt60)) (finK env Try.f60.results.toList) (collect B60 A60 []) 2 S (AL.v r4 (AL.v r5 AL.n)) h := by kernel_rfl
theorem q60x1 (S : Sg) (r2 : Value) (r4 : Value) (r5 : Value) (r15 : Value) (r16 : Int) (r17 : Int) (h : Hp) : P60x1 S r2 r4 r5 r15 r16 r17 h = stepAt (regK env orc25 (nt60)) (finK env Try.f60.results.toList) (collect B60 A60 []) 1 S (AL.v r2 (AL.v r4 (AL.v r5 (AL.v r15 (AL.i r16 (AL.i r17 AL.n)))))) h := by kernel_rfl
theorem q60x0 (S : Sg) (r0 : Value) (r1 : Value) (h : Hp) : P60x0 S r0 r1 h = stepAt (regK env orc25 (nt60)) (finK env Try.f60.results.toList) (collect B60 A60 []) 0 S (AL.v r0 (AL.v r1 AL.n)) h := by kernel_rfl
theorem t60 (S : Sg) : Tab (fun l vs h => stepAt (regK env orc25 nt60) (finK env Try.f60.results.toList) (collect B60 A60 []) l S vs h) (T60 S) := by
  unfold T60
  refine Tab.cons 0 (fun vs0 h q e0 => ?_) ?_
  · obtain ⟨r0, vs1, rfl, e1⟩ := uV_some e0
    obtain ⟨r1, vs2, rfl, e2⟩ := uV_some e1
    obtain ⟨rfl, ee⟩ := uN_some e2
    exact (q60x0 S r0 r1 h).symm.trans ee
  refine Tab.cons 1 (fun vs0 h q e0 => ?_) ?_
  · obtain ⟨r2, vs1, rfl, e1⟩ := uV_some e0
    obtain ⟨r4, vs2, rfl, e2⟩ := uV_some e1
    obtain ⟨r5, vs3, rfl, e3⟩ := uV_some e2
    obtain ⟨r15, vs4, rfl, e4⟩ := uV_some e3
    obtain ⟨r16, vs5, rfl, e5⟩ := uI_some e4
    obtain ⟨r17, vs6, rfl, e6⟩ := uI_some e5
    obtain ⟨rfl, ee⟩ := uN_some e6
    exact (q60x1 S r2 r4 r5 r15 r16 r17 h).symm.trans ee
  refine Tab.cons 2 (fun vs0 h q e0 => ?_) ?_
  · obtain ⟨r4, vs1, rfl, e1⟩ := uV_some e0
    obtain ⟨r5, vs2, rfl, e2⟩ := uV_some e1
    obtain ⟨rfl, ee⟩ := uN_some e2
    exact (q60x2 S r4 r5 h).symm.trans ee
  exact Tab.nil
theorem r60 : ∀ args h v h', F60 args h = some (v, h') → Runs (C25) (.call 60 args.toArray h) (.ret v h') := by
  intro args h v h' e
  exact fun_sound (C := C25) (fn := Try.f60) (body := B60) (np := 2) (A := A60) (T := T60) (kinds := [Kd.v, Kd.v]) (by kernel_rfl) (by kernel_rfl) (by kernel_rfl) (by kernel_rfl) (regK_ok env_ok) (by kernel_rfl) (fun S => t60 S) e
noncomputable def orc26 := orcQ 60 F60 orc25
noncomputable def C26 : Cfg := cfg orc26
theorem ok26 : C26.Ok := orcQ_ok (C := C25) ok25 r60
noncomputable def B77 : Code := (Try.f77.body).getD .skip
noncomputable def A77 : G.Ann (List KI) := (G.Ann.node (some (0, [KI.reg 0 (Kd.v)])) G.Ann.nil (G.Ann.node none G.Ann.nil (G.Ann.node none (G.Ann.node none G.Ann.nil (G.Ann.node none (G.Ann.node (some (1, [KI.loc 2 2, KI.loc 3 3, KI.reg 6 (Kd.v), KI.reg 7 (Kd.i .i64), KI.cells 2 [Kd.i .i64, Kd.i .i64, Kd.i .i64, Kd.i .i64], KI.cells 3 [Kd.i .i64, Kd.i .i64, Kd.i .i64, Kd.i .i64]])) (G.Ann.node none G.Ann.nil (G.Ann.node none (G.Ann.node none G.Ann.nil G.Ann.nil) (G.Ann.node none (G.Ann.node none (G.Ann.node none G.Ann.nil G.Ann.nil) G.Ann.nil) G.Ann.nil))) G.Ann.nil) G.Ann.nil)) (G.Ann.node (some (2, [KI.loc 2 2, KI.loc 3 3, KI.cells 2 [Kd.i .i64, Kd.i .i64, Kd.i .i64, Kd.i .i64], KI.cells 3 [Kd.i .i64, Kd.i .i64, Kd.i .i64, Kd.i .i64]])) G.Ann.nil G.Ann.nil))))
noncomputable def P77x2 (h : Hp) (S : Nat → PAL → Option Value) (c2x0 : Int) (c2x1 : Int) (c2x2 : Int) (c2x3 : Int) (c3x0 : Int) (c3x1 : Int) (c3x2 : Int) (c3x3 : Int) : Option Value :=
  aggK (Value.agg (Array.mk [(Value.int .i64 c3x0), (Value.int .i64 c3x1), (Value.int .i64 c3x2), (Value.int .i64 c3x3)])) fun l0 => ifB (Nat.beq (lenR l0) 4) (segR 0 l0 [(Value.int .i64 c2x0), (Value.int .i64 c2x1), (Value.int .i64 c2x2), (Value.int .i64 c2x3)] fun c0 =>
  dropR c0 0 fun d1 => takeR d1 4 fun l1 => some (Value.agg (Array.mk l1))) none
noncomputable def P77x1 (h : Hp) (S : Nat → PAL → Option Value) (r6 : Value) (r7 : Int) (c2x0 : Int) (c2x1 : Int) (c2x2 : Int) (c2x3 : Int) (c3x0 : Int) (c3x1 : Int) (c3x2 : Int) (c3x3 : Int) : Option Value :=
  boolZ (ltZ r7 (Int.ofNat 4)) fun b0 =>
  ifB b0
  (optK (indexV env 87 r6 (Value.int .i64 r7)) fun v1 =>
  intK .i64 v1 fun i2 =>
  wrap64 (Int.sub 0 i2) fun i3 =>
  maxZ (Int.ofNat 0) i3 fun i4 =>
  onI r7 (fun n5 => ifB (Nat.ble (Nat.succ n5) 4) (forceN (Nat.add 0 (Nat.mul n5 1)) fun o5 =>
  setNthR [(Value.int .i64 c3x0), (Value.int .i64 c3x1), (Value.int .i64 c3x2), (Value.int .i64 c3x3)] o5 (Value.int .i64 i4) fun c6 =>
  wrap64 (Int.add r7 (Int.ofNat 1)) fun i7 =>
  unconsK c6 fun a8 c8 =>
  intK .i64 a8 fun i9 =>
  unconsK c8 fun a10 c10 =>
  intK .i64 a10 fun i11 =>
  unconsK c10 fun a12 c12 =>
  intK .i64 a12 fun i13 =>
  unconsK c12 fun a14 c14 =>
  intK .i64 a14 fun i15 =>
  nilK c14 (S 1 (PAL.v r6 (PAL.i i7 (PAL.i c2x0 (PAL.i c2x1 (PAL.i c2x2 (PAL.i c2x3 (PAL.i i9 (PAL.i i11 (PAL.i i13 (PAL.i i15 PAL.n)))))))))))) none) (fun _ => none))
  (S 2 (PAL.i c2x0 (PAL.i c2x1 (PAL.i c2x2 (PAL.i c2x3 (PAL.i c3x0 (PAL.i c3x1 (PAL.i c3x2 (PAL.i c3x3 PAL.n)))))))))
noncomputable def P77x0 (h : Hp) (S : Nat → PAL → Option Value) (r0 : Value) : Option Value :=
  forceL (Array.toList (Value.cells r0)) fun c0 =>
  dropR c0 0 fun d1 => takeR d1 4 fun l1 =>
  S 1 (PAL.v (Value.agg (Array.mk l1)) (PAL.i (Int.ofNat 0) (PAL.i (Int.ofNat 0) (PAL.i (Int.ofNat 0) (PAL.i (Int.ofNat 0) (PAL.i (Int.ofNat 0) (PAL.i (Int.ofNat 0) (PAL.i (Int.ofNat 0) (PAL.i (Int.ofNat 0) (PAL.i (Int.ofNat 0) PAL.n))))))))))
noncomputable def T77 (h : Hp) (S : Nat → PAL → Option Value) : Nat → PAL → Option Value := tabPC 0 (wV fun r0 => wN (P77x0 h S r0)) (tabPC 1 (wV fun r6 => wI fun r7 => wI fun c2x0 => wI fun c2x1 => wI fun c2x2 => wI fun c2x3 => wI fun c3x0 => wI fun c3x1 => wI fun c3x2 => wI fun c3x3 => wN (P77x1 h S r6 r7 c2x0 c2x1 c2x2 c2x3 c3x0 c3x1 c3x2 c3x3)) (tabPC 2 (wI fun c2x0 => wI fun c2x1 => wI fun c2x2 => wI fun c2x3 => wI fun c3x0 => wI fun c3x1 => wI fun c3x2 => wI fun c3x3 => wN (P77x2 h S c2x0 c2x1 c2x2 c2x3 c3x0 c3x1 c3x2 c3x3)) (tabPN)))
noncomputable def F77 (args : List Value) (h : Hp) : Option Value := plainO (packArgs [Kd.v] args fun al => G.rec' (T77 h) 1000000 0 al)
def nt77 : Nat := 1 + (18 - 1)
theorem q77x2 (h : Hp) (S : Nat → PAL → Option Value) (c2x0 : Int) (c2x1 : Int) (c2x2 : Int) (c2x3 : Int) (c3x0 : Int) (c3x1 : Int) (c3x2 : Int) (c3x3 : Int) : P77x2 h S c2x0 c2x1 c2x2 c2x3 c3x0 c3x1 c3x2 c3x3 = G.stepAt packP unpackP evXV (regP env pf9 nt77 h) (finP env Try.f77.results.toList) (G.collect B77 A77 []) 2 S (PAL.i c2x0 (PAL.i c2x1 (PAL.i c2x2 (PAL.i c2x3 (PAL.i c3x0 (PAL.i c3x1 (PAL.i c3x2 (PAL.i c3x3 PAL.n)))))))) := by kernel_rfl
theorem q77x1 (h : Hp) (S : Nat → PAL → Option Value) (r6 : Value) (r7 : Int) (c2x0 : Int) (c2x1 : Int) (c2x2 : Int) (c2x3 : Int) (c3x0 : Int) (c3x1 : Int) (c3x2 : Int) (c3x3 : Int) : P77x1 h S r6 r7 c2x0 c2x1 c2x2 c2x3 c3x0 c3x1 c3x2 c3x3 = G.stepAt packP unpackP evXV (regP env pf9 nt77 h) (finP env Try.f77.results.toList) (G.collect B77 A77 []) 1 S (PAL.v r6 (PAL.i r7 (PAL.i c2x0 (PAL.i c2x1 (PAL.i c2x2 (PAL.i c2x3 (PAL.i c3x0 (PAL.i c3x1 (PAL.i c3x2 (PAL.i c3x3 PAL.n)))))))))) := by kernel_rfl
theorem q77x0 (h : Hp) (S : Nat → PAL → Option Value) (r0 : Value) : P77x0 h S r0 = G.stepAt packP unpackP evXV (regP env pf9 nt77 h) (finP env Try.f77.results.toList) (G.collect B77 A77 []) 0 S (PAL.v r0 PAL.n) := by kernel_rfl
theorem t77 (h : Hp) (S : Nat → PAL → Option Value) : TabP (fun l al => G.stepAt packP unpackP evXV (regP env pf9 nt77 h) (finP env Try.f77.results.toList) (G.collect B77 A77 []) l S al) (T77 h S) := by
  unfold T77
  refine TabP.cons 0 (fun vs0 q e0 => ?_) ?_
  · obtain ⟨r0, vs1, rfl, e1⟩ := wV_some e0
    obtain ⟨rfl, ee⟩ := wN_some e1
    exact (q77x0 h S r0).symm.trans ee
  refine TabP.cons 1 (fun vs0 q e0 => ?_) ?_
  · obtain ⟨r6, vs1, rfl, e1⟩ := wV_some e0
    obtain ⟨r7, vs2, rfl, e2⟩ := wI_some e1
    obtain ⟨c2x0, vs3, rfl, e3⟩ := wI_some e2
    obtain ⟨c2x1, vs4, rfl, e4⟩ := wI_some e3
    obtain ⟨c2x2, vs5, rfl, e5⟩ := wI_some e4
    obtain ⟨c2x3, vs6, rfl, e6⟩ := wI_some e5
    obtain ⟨c3x0, vs7, rfl, e7⟩ := wI_some e6
    obtain ⟨c3x1, vs8, rfl, e8⟩ := wI_some e7
    obtain ⟨c3x2, vs9, rfl, e9⟩ := wI_some e8
    obtain ⟨c3x3, vs10, rfl, e10⟩ := wI_some e9
    obtain ⟨rfl, ee⟩ := wN_some e10
    exact (q77x1 h S r6 r7 c2x0 c2x1 c2x2 c2x3 c3x0 c3x1 c3x2 c3x3).symm.trans ee
  refine TabP.cons 2 (fun vs0 q e0 => ?_) ?_
  · obtain ⟨c2x0, vs1, rfl, e1⟩ := wI_some e0
    obtain ⟨c2x1, vs2, rfl, e2⟩ := wI_some e1
    obtain ⟨c2x2, vs3, rfl, e3⟩ := wI_some e2
    obtain ⟨c2x3, vs4, rfl, e4⟩ := wI_some e3
    obtain ⟨c3x0, vs5, rfl, e5⟩ := wI_some e4
    obtain ⟨c3x1, vs6, rfl, e6⟩ := wI_some e5
    obtain ⟨c3x2, vs7, rfl, e7⟩ := wI_some e6
    obtain ⟨c3x3, vs8, rfl, e8⟩ := wI_some e7
    obtain ⟨rfl, ee⟩ := wN_some e8
    exact (q77x2 h S c2x0 c2x1 c2x2 c2x3 c3x0 c3x1 c3x2 c3x3).symm.trans ee
  exact TabP.nil
theorem r77 : PSound Try.prog 77 F77 := fun_soundP (C := C0) ok0 (pf := pf9) pfok9 (fn := Try.f77) (body := B77) (kinds := [Kd.v]) (A := A77) (T := T77) (by kernel_rfl) (by kernel_rfl) (by kernel_rfl) (by kernel_rfl) (fun h S => t77 h S)
noncomputable def pf10 : PF := pfC 77 F77 pf9
theorem pfok10 : PfSound Try.prog pf10 := pfC_ok r77 pfok9
noncomputable def orc27 := orcP 77 F77 orc26
noncomputable def C27 : Cfg := cfg orc27
theorem ok27 : C27.Ok := orcP_ok (C := C26) ok26 r77
noncomputable def B102 : Code := (Try.f102.body).getD .skip
def A102 : Ann := (Ann.node (some (0, [(0, Kd.v), (1, Kd.v)])) Ann.nil (Ann.node none Ann.nil (Ann.node none (Ann.node none Ann.nil (Ann.node none (Ann.node (some (1, [(5, Kd.i .i64), (11, Kd.v), (12, Kd.i .i64)])) (Ann.node none Ann.nil (Ann.node none (Ann.node none Ann.nil Ann.nil) (Ann.node none (Ann.node none (Ann.node none Ann.nil Ann.nil) Ann.nil) Ann.nil))) Ann.nil) Ann.nil)) (Ann.node (some (2, [(5, Kd.i .i64)])) Ann.nil Ann.nil))))
noncomputable def P102x2 (S : Sg) (r5 : Int) (h : Hp) : CRes :=
  some ((Value.int .i64 r5), h)
noncomputable def P102x1 (S : Sg) (r5 : Int) (r11 : Value) (r12 : Int) (h : Hp) : CRes :=
  boolZ (ltZ r12 (Int.ofNat 4)) fun b0 =>
  ifB b0
  (optK (indexV env 87 r11 (Value.int .i64 r12)) fun v1 =>
  intK .i64 v1 fun i2 =>
  wrap64 (Int.add r5 i2) fun i3 =>
  wrap64 (Int.add r12 (Int.ofNat 1)) fun i4 =>
  S 1 (AL.i i3 (AL.v r11 (AL.i i4 AL.n))) h)
  (S 2 (AL.i r5 AL.n) h)
noncomputable def P102x0 (S : Sg) (r0 : Value) (r1 : Value) (h : Hp) : CRes :=
  allocK h 71 (Array.toList (Value.cells r0)) fun a0 h0 =>
  loadNK 5 h0 a0 fun v1 =>
  pairK (callQ F60 [v1, r1] h0) fun v2 h2 =>
  pairK (optK (F77 [v2] h2) fun v => some (v, h2)) fun v3 h3 =>
  S 1 (AL.i (Int.ofNat 0) (AL.v v3 (AL.i (Int.ofNat 0) AL.n))) h3
noncomputable def T102 (S : Sg) : Sg := tabC 0 (uV fun r0 => uV fun r1 => uN fun h => P102x0 S r0 r1 h) (tabC 1 (uI fun r5 => uV fun r11 => uI fun r12 => uN fun h => P102x1 S r5 r11 r12 h) (tabC 2 (uI fun r5 => uN fun h => P102x2 S r5 h) (tabN)))
noncomputable def F102 (args : List Value) (h : Hp) : CRes := packVals [Kd.v, Kd.v] args fun al => rec' T102 1000000 0 al h
def nt102 : Nat := 2 + (20 - 2)
theorem q102x2 (S : Sg) (r5 : Int) (h : Hp) : P102x2 S r5 h = stepAt (regK env orc27 (nt102)) (finK env Try.f102.results.toList) (collect B102 A102 []) 2 S (AL.i r5 AL.n) h := by kernel_rfl
theorem q102x1 (S : Sg) (r5 : Int) (r11 : Value) (r12 : Int) (h : Hp) : P102x1 S r5 r11 r12 h = stepAt (regK env orc27 (nt102)) (finK env Try.f102.results.toList) (collect B102 A102 []) 1 S (AL.i r5 (AL.v r11 (AL.i r12 AL.n))) h := by kernel_rfl
theorem q102x0 (S : Sg) (r0 : Value) (r1 : Value) (h : Hp) : P102x0 S r0 r1 h = stepAt (regK env orc27 (nt102)) (finK env Try.f102.results.toList) (collect B102 A102 []) 0 S (AL.v r0 (AL.v r1 AL.n)) h := by kernel_rfl
theorem t102 (S : Sg) : Tab (fun l vs h => stepAt (regK env orc27 nt102) (finK env Try.f102.results.toList) (collect B102 A102 []) l S vs h) (T102 S) := by
  unfold T102
  refine Tab.cons 0 (fun vs0 h q e0 => ?_) ?_
  · obtain ⟨r0, vs1, rfl, e1⟩ := uV_some e0
    obtain ⟨r1, vs2, rfl, e2⟩ := uV_some e1
    obtain ⟨rfl, ee⟩ := uN_some e2
    exact (q102x0 S r0 r1 h).symm.trans ee
  refine Tab.cons 1 (fun vs0 h q e0 => ?_) ?_
  · obtain ⟨r5, vs1, rfl, e1⟩ := uI_some e0
    obtain ⟨r11, vs2, rfl, e2⟩ := uV_some e1
    obtain ⟨r12, vs3, rfl, e3⟩ := uI_some e2
    obtain ⟨rfl, ee⟩ := uN_some e3
    exact (q102x1 S r5 r11 r12 h).symm.trans ee
  refine Tab.cons 2 (fun vs0 h q e0 => ?_) ?_
  · obtain ⟨r5, vs1, rfl, e1⟩ := uI_some e0
    obtain ⟨rfl, ee⟩ := uN_some e1
    exact (q102x2 S r5 h).symm.trans ee
  exact Tab.nil
theorem r102 : ∀ args h v h', F102 args h = some (v, h') → Runs (C27) (.call 102 args.toArray h) (.ret v h') := by
  intro args h v h' e
  exact fun_sound (C := C27) (fn := Try.f102) (body := B102) (np := 2) (A := A102) (T := T102) (kinds := [Kd.v, Kd.v]) (by kernel_rfl) (by kernel_rfl) (by kernel_rfl) (by kernel_rfl) (regK_ok env_ok) (by kernel_rfl) (fun S => t102 S) e
noncomputable def orc28 := orcQ 102 F102 orc27
noncomputable def C28 : Cfg := cfg orc28
theorem ok28 : C28.Ok := orcQ_ok (C := C27) ok27 r102
noncomputable def B120 : Code := (Try.f120.body).getD .skip
noncomputable def A120 : G.Ann (List KI) := (G.Ann.node (some (0, [KI.reg 0 (Kd.i .i64)])) G.Ann.nil (G.Ann.node none G.Ann.nil G.Ann.nil))
noncomputable def P120x0 (h : Hp) (S : Nat → PAL → Option Value) (r0 : Int) : Option Value :=
  boolN (eqZ r0 r0) fun b0 =>
  some (Value.bool b0)
noncomputable def T120 (h : Hp) (S : Nat → PAL → Option Value) : Nat → PAL → Option Value := tabPC 0 (wI fun r0 => wN (P120x0 h S r0)) (tabPN)
noncomputable def F120 (args : List Value) (h : Hp) : Option Value := plainO (packArgs [Kd.i .i64] args fun al => G.rec' (T120 h) 1000000 0 al)
def nt120 : Nat := 1 + (6 - 1)
theorem q120x0 (h : Hp) (S : Nat → PAL → Option Value) (r0 : Int) : P120x0 h S r0 = G.stepAt packP unpackP evXV (regP env pf10 nt120 h) (finP env Try.f120.results.toList) (G.collect B120 A120 []) 0 S (PAL.i r0 PAL.n) := by kernel_rfl
theorem t120 (h : Hp) (S : Nat → PAL → Option Value) : TabP (fun l al => G.stepAt packP unpackP evXV (regP env pf10 nt120 h) (finP env Try.f120.results.toList) (G.collect B120 A120 []) l S al) (T120 h S) := by
  unfold T120
  refine TabP.cons 0 (fun vs0 q e0 => ?_) ?_
  · obtain ⟨r0, vs1, rfl, e1⟩ := wI_some e0
    obtain ⟨rfl, ee⟩ := wN_some e1
    exact (q120x0 h S r0).symm.trans ee
  exact TabP.nil
theorem r120 : PSound Try.prog 120 F120 := fun_soundP (C := C0) ok0 (pf := pf10) pfok10 (fn := Try.f120) (body := B120) (kinds := [Kd.i .i64]) (A := A120) (T := T120) (by kernel_rfl) (by kernel_rfl) (by kernel_rfl) (by kernel_rfl) (fun h S => t120 h S)
noncomputable def pf11 : PF := pfC 120 F120 pf10
theorem pfok11 : PfSound Try.prog pf11 := pfC_ok r120 pfok10
noncomputable def orc29 := orcP 120 F120 orc28
noncomputable def C29 : Cfg := cfg orc29
theorem ok29 : C29.Ok := orcP_ok (C := C28) ok28 r120
noncomputable def B116 : Code := (Try.f116.body).getD .skip
noncomputable def A116 : G.Ann (List KI) := (G.Ann.node (some (0, [KI.reg 0 (Kd.i .i64), KI.reg 1 (Kd.i .i64)])) G.Ann.nil (G.Ann.node none G.Ann.nil (G.Ann.node none G.Ann.nil (G.Ann.node none (G.Ann.node none G.Ann.nil (G.Ann.node none (G.Ann.node none (G.Ann.node none G.Ann.nil (G.Ann.node none (G.Ann.node none G.Ann.nil G.Ann.nil) G.Ann.nil)) (G.Ann.node none G.Ann.nil G.Ann.nil)) G.Ann.nil)) (G.Ann.node none (G.Ann.node none G.Ann.nil (G.Ann.node none (G.Ann.node none G.Ann.nil G.Ann.nil) G.Ann.nil)) (G.Ann.node none (G.Ann.node none G.Ann.nil (G.Ann.node none (G.Ann.node none G.Ann.nil G.Ann.nil) G.Ann.nil)) (G.Ann.node none (G.Ann.node none G.Ann.nil (G.Ann.node none (G.Ann.node none G.Ann.nil G.Ann.nil) G.Ann.nil)) (G.Ann.node none G.Ann.nil G.Ann.nil))))))))
noncomputable def P116x0 (h : Hp) (S : Nat → PAL → Option Value) (r0 : Int) (r1 : Int) : Option Value :=
  optK (F120 [(Value.int .i64 r0)] h) fun v0 =>
  boolK v0 fun b1 =>
  optK (F120 [(Value.int .i64 r1)] h) fun v2 =>
  boolK v2 fun b3 =>
  ifB b1
  (ifB b3
  (some (Value.int .i64 (Int.ofNat 0)))
  (some (Value.int .i64 (Int.negSucc 0))))
  (ifB b3
  (some (Value.int .i64 (Int.ofNat 1)))
  (boolZ (ltZ r0 r1) fun b4 =>
  ifB b4
  (some (Value.int .i64 (Int.negSucc 0)))
  (boolZ (ltZ r1 r0) fun b5 =>
  ifB b5
  (some (Value.int .i64 (Int.ofNat 1)))
  (some (Value.int .i64 (Int.ofNat 0))))))
noncomputable def T116 (h : Hp) (S : Nat → PAL → Option Value) : Nat → PAL → Option Value := tabPC 0 (wI fun r0 => wI fun r1 => wN (P116x0 h S r0 r1)) (tabPN)
noncomputable def F116 (args : List Value) (h : Hp) : Option Value := plainO (packArgs [Kd.i .i64, Kd.i .i64] args fun al => G.rec' (T116 h) 1000000 0 al)
def nt116 : Nat := 2 + (20 - 2)
theorem q116x0 (h : Hp) (S : Nat → PAL → Option Value) (r0 : Int) (r1 : Int) : P116x0 h S r0 r1 = G.stepAt packP unpackP evXV (regP env pf11 nt116 h) (finP env Try.f116.results.toList) (G.collect B116 A116 []) 0 S (PAL.i r0 (PAL.i r1 PAL.n)) := by kernel_rfl
theorem t116 (h : Hp) (S : Nat → PAL → Option Value) : TabP (fun l al => G.stepAt packP unpackP evXV (regP env pf11 nt116 h) (finP env Try.f116.results.toList) (G.collect B116 A116 []) l S al) (T116 h S) := by
  unfold T116
  refine TabP.cons 0 (fun vs0 q e0 => ?_) ?_
  · obtain ⟨r0, vs1, rfl, e1⟩ := wI_some e0
    obtain ⟨r1, vs2, rfl, e2⟩ := wI_some e1
    obtain ⟨rfl, ee⟩ := wN_some e2
    exact (q116x0 h S r0 r1).symm.trans ee
  exact TabP.nil
theorem r116 : PSound Try.prog 116 F116 := fun_soundP (C := C0) ok0 (pf := pf11) pfok11 (fn := Try.f116) (body := B116) (kinds := [Kd.i .i64, Kd.i .i64]) (A := A116) (T := T116) (by kernel_rfl) (by kernel_rfl) (by kernel_rfl) (by kernel_rfl) (fun h S => t116 h S)
noncomputable def pf12 : PF := pfC 116 F116 pf11
theorem pfok12 : PfSound Try.prog pf12 := pfC_ok r116 pfok11
noncomputable def orc30 := orcP 116 F116 orc29
noncomputable def C30 : Cfg := cfg orc30
theorem ok30 : C30.Ok := orcP_ok (C := C29) ok29 r116
noncomputable def B115 : Code := (Try.f115.body).getD .skip
noncomputable def A115 : G.Ann (List KI) := (G.Ann.node (some (0, [KI.reg 0 (Kd.v)])) G.Ann.nil (G.Ann.node none G.Ann.nil (G.Ann.node none (G.Ann.node none G.Ann.nil (G.Ann.node none (G.Ann.node (some (1, [KI.reg 3 (Kd.i .i64), KI.reg 6 (Kd.v), KI.reg 7 (Kd.i .i64), KI.reg 8 (Kd.i .i64)])) (G.Ann.node none G.Ann.nil (G.Ann.node none (G.Ann.node none G.Ann.nil G.Ann.nil) (G.Ann.node none (G.Ann.node none (G.Ann.node none G.Ann.nil (G.Ann.node none G.Ann.nil (G.Ann.node none (G.Ann.node none G.Ann.nil G.Ann.nil) G.Ann.nil))) G.Ann.nil) G.Ann.nil))) G.Ann.nil) G.Ann.nil)) (G.Ann.node (some (2, [KI.reg 3 (Kd.i .i64)])) G.Ann.nil G.Ann.nil))))
noncomputable def P115x2 (h : Hp) (S : Nat → PAL → Option Value) (r3 : Int) : Option Value :=
  some (Value.int .i64 r3)
noncomputable def P115x1 (h : Hp) (S : Nat → PAL → Option Value) (r3 : Int) (r6 : Value) (r7 : Int) (r8 : Int) : Option Value :=
  boolZ (ltZ r8 r7) fun b0 =>
  ifB b0
  (idxSK 1 r6 r8 fun v1 =>
  load1K h v1 fun v2 =>
  intK .i64 v2 fun i3 =>
  boolN (eqZ i3 r3) fun b4 =>
  ifB b4
  (some (Value.int .i64 i3))
  (wrap64 (Int.add r8 (Int.ofNat 1)) fun i5 =>
  S 1 (PAL.i r3 (PAL.v r6 (PAL.i r7 (PAL.i i5 PAL.n))))))
  (S 2 (PAL.i r3 PAL.n))
noncomputable def P115x0 (h : Hp) (S : Nat → PAL → Option Value) (r0 : Value) : Option Value :=
  lenSK r0 fun i0 =>
  S 1 (PAL.i (Int.ofNat 0) (PAL.v r0 (PAL.i i0 (PAL.i (Int.ofNat 0) PAL.n))))
noncomputable def T115 (h : Hp) (S : Nat → PAL → Option Value) : Nat → PAL → Option Value := tabPC 0 (wV fun r0 => wN (P115x0 h S r0)) (tabPC 1 (wI fun r3 => wV fun r6 => wI fun r7 => wI fun r8 => wN (P115x1 h S r3 r6 r7 r8)) (tabPC 2 (wI fun r3 => wN (P115x2 h S r3)) (tabPN)))
noncomputable def F115 (args : List Value) (h : Hp) : Option Value := plainO (packArgs [Kd.v] args fun al => G.rec' (T115 h) 1000000 0 al)
def nt115 : Nat := 1 + (18 - 1)
theorem q115x2 (h : Hp) (S : Nat → PAL → Option Value) (r3 : Int) : P115x2 h S r3 = G.stepAt packP unpackP evXV (regP env pf12 nt115 h) (finP env Try.f115.results.toList) (G.collect B115 A115 []) 2 S (PAL.i r3 PAL.n) := by kernel_rfl
theorem q115x1 (h : Hp) (S : Nat → PAL → Option Value) (r3 : Int) (r6 : Value) (r7 : Int) (r8 : Int) : P115x1 h S r3 r6 r7 r8 = G.stepAt packP unpackP evXV (regP env pf12 nt115 h) (finP env Try.f115.results.toList) (G.collect B115 A115 []) 1 S (PAL.i r3 (PAL.v r6 (PAL.i r7 (PAL.i r8 PAL.n)))) := by kernel_rfl
theorem q115x0 (h : Hp) (S : Nat → PAL → Option Value) (r0 : Value) : P115x0 h S r0 = G.stepAt packP unpackP evXV (regP env pf12 nt115 h) (finP env Try.f115.results.toList) (G.collect B115 A115 []) 0 S (PAL.v r0 PAL.n) := by kernel_rfl
theorem t115 (h : Hp) (S : Nat → PAL → Option Value) : TabP (fun l al => G.stepAt packP unpackP evXV (regP env pf12 nt115 h) (finP env Try.f115.results.toList) (G.collect B115 A115 []) l S al) (T115 h S) := by
  unfold T115
  refine TabP.cons 0 (fun vs0 q e0 => ?_) ?_
  · obtain ⟨r0, vs1, rfl, e1⟩ := wV_some e0
    obtain ⟨rfl, ee⟩ := wN_some e1
    exact (q115x0 h S r0).symm.trans ee
  refine TabP.cons 1 (fun vs0 q e0 => ?_) ?_
  · obtain ⟨r3, vs1, rfl, e1⟩ := wI_some e0
    obtain ⟨r6, vs2, rfl, e2⟩ := wV_some e1
    obtain ⟨r7, vs3, rfl, e3⟩ := wI_some e2
    obtain ⟨r8, vs4, rfl, e4⟩ := wI_some e3
    obtain ⟨rfl, ee⟩ := wN_some e4
    exact (q115x1 h S r3 r6 r7 r8).symm.trans ee
  refine TabP.cons 2 (fun vs0 q e0 => ?_) ?_
  · obtain ⟨r3, vs1, rfl, e1⟩ := wI_some e0
    obtain ⟨rfl, ee⟩ := wN_some e1
    exact (q115x2 h S r3).symm.trans ee
  exact TabP.nil
theorem r115 : PSound Try.prog 115 F115 := fun_soundP (C := C0) ok0 (pf := pf12) pfok12 (fn := Try.f115) (body := B115) (kinds := [Kd.v]) (A := A115) (T := T115) (by kernel_rfl) (by kernel_rfl) (by kernel_rfl) (by kernel_rfl) (fun h S => t115 h S)
noncomputable def pf13 : PF := pfC 115 F115 pf12
theorem pfok13 : PfSound Try.prog pf13 := pfC_ok r115 pfok12
noncomputable def orc31 := orcP 115 F115 orc30
noncomputable def C31 : Cfg := cfg orc31
theorem ok31 : C31.Ok := orcP_ok (C := C30) ok30 r115
noncomputable def B103 : Code := (Try.f103.body).getD .skip
def A103 : Ann := (Ann.node (some (0, [(0, Kd.v), (1, Kd.v), (2, Kd.v)])) Ann.nil (Ann.node none Ann.nil Ann.nil))
noncomputable def P103x0 (S : Sg) (r0 : Value) (r1 : Value) (r2 : Value) (h : Hp) : CRes :=
  allocK h 135 (Array.toList (Value.cells r0)) fun a0 h0 =>
  ptrAddK 0 a0 fun v1 =>
  load1K (Hp.mk (Hp.next h0) (Hp.next h0) (Hp.objs h0)) v1 fun v2 =>
  pairK (callF orc31 v2 [r1] (Hp.mk (Hp.next h0) (Hp.next h0) (Hp.objs h0))) fun v3 h3 =>
  intK .i64 v3 fun i4 =>
  ptrAddK 0 a0 fun v5 =>
  load1K (Hp.mk (Hp.next h0) (Hp.next h0) (Hp.objs h0)) v5 fun v6 =>
  pairK (callF orc31 v6 [r2] (Hp.mk (Hp.next h0) (Hp.next h0) (Hp.objs h0))) fun v7 h7 =>
  intK .i64 v7 fun i8 =>
  pairK (optK (F116 [(Value.int .i64 i4), (Value.int .i64 i8)] (Hp.mk (Hp.next h0) (Hp.next h0) (Hp.objs h0))) fun v => some (v, (Hp.mk (Hp.next h0) (Hp.next h0) (Hp.objs h0)))) fun v9 h9 =>
  intK .i64 v9 fun i10 =>
  ptrAddK 1 a0 fun v11 =>
  load1K (Hp.mk (Hp.next h0) (Hp.next h0) (Hp.objs h0)) v11 fun v12 =>
  pairK (callF orc31 v12 [r1] (Hp.mk (Hp.next h0) (Hp.next h0) (Hp.objs h0))) fun v13 h13 =>
  intK .i64 v13 fun i14 =>
  ptrAddK 1 a0 fun v15 =>
  load1K (Hp.mk (Hp.next h0) (Hp.next h0) (Hp.objs h0)) v15 fun v16 =>
  pairK (callF orc31 v16 [r2] (Hp.mk (Hp.next h0) (Hp.ro h0) (Hp.objs h0))) fun v17 h17 =>
  intK .i64 v17 fun i18 =>
  pairK (optK (F116 [(Value.int .i64 i14), (Value.int .i64 i18)] h17) fun v => some (v, h17)) fun v19 h19 =>
  intK .i64 v19 fun i20 =>
  pairK (buildSliceV env h19 22 2 (List.toArray [(0, (Value.int .i64 i10)), (1, (Value.int .i64 i20))])) fun v21 h21 =>
  pairK (optK (F115 [v21] h21) fun v => some (v, h21)) fun v22 h22 =>
  intK .i64 v22 fun i23 =>
  some ((Value.int .i64 i23), h22)
noncomputable def T103 (S : Sg) : Sg := tabC 0 (uV fun r0 => uV fun r1 => uV fun r2 => uN fun h => P103x0 S r0 r1 r2 h) (tabN)
noncomputable def F103 (args : List Value) (h : Hp) : CRes := packVals [Kd.v, Kd.v, Kd.v] args fun al => rec' T103 1000000 0 al h
def nt103 : Nat := 3 + (27 - 3)
theorem q103x0 (S : Sg) (r0 : Value) (r1 : Value) (r2 : Value) (h : Hp) : P103x0 S r0 r1 r2 h = stepAt (regK env orc31 (nt103)) (finK env Try.f103.results.toList) (collect B103 A103 []) 0 S (AL.v r0 (AL.v r1 (AL.v r2 AL.n))) h := by kernel_rfl
theorem t103 (S : Sg) : Tab (fun l vs h => stepAt (regK env orc31 nt103) (finK env Try.f103.results.toList) (collect B103 A103 []) l S vs h) (T103 S) := by
  unfold T103
  refine Tab.cons 0 (fun vs0 h q e0 => ?_) ?_
  · obtain ⟨r0, vs1, rfl, e1⟩ := uV_some e0
    obtain ⟨r1, vs2, rfl, e2⟩ := uV_some e1
    obtain ⟨r2, vs3, rfl, e3⟩ := uV_some e2
    obtain ⟨rfl, ee⟩ := uN_some e3
    exact (q103x0 S r0 r1 r2 h).symm.trans ee
  exact Tab.nil
theorem r103 : ∀ args h v h', F103 args h = some (v, h') → Runs (C31) (.call 103 args.toArray h) (.ret v h') := by
  intro args h v h' e
  exact fun_sound (C := C31) (fn := Try.f103) (body := B103) (np := 3) (A := A103) (T := T103) (kinds := [Kd.v, Kd.v, Kd.v]) (by kernel_rfl) (by kernel_rfl) (by kernel_rfl) (by kernel_rfl) (regK_ok env_ok) (by kernel_rfl) (fun S => t103 S) e
noncomputable def orc32 := orcQ 103 F103 orc31
noncomputable def C32 : Cfg := cfg orc32
theorem ok32 : C32.Ok := orcQ_ok (C := C31) ok31 r103
noncomputable def B58 : Code := (Try.f58.body).getD .skip
def A58 : Ann := (Ann.node (some (0, [(0, Kd.v), (1, Kd.v)])) Ann.nil (Ann.node none Ann.nil (Ann.node none (Ann.node none (Ann.node none Ann.nil (Ann.node none (Ann.node none Ann.nil Ann.nil) (Ann.node none Ann.nil (Ann.node none (Ann.node none Ann.nil Ann.nil) (Ann.node none Ann.nil (Ann.node none (Ann.node none Ann.nil Ann.nil) Ann.nil)))))) Ann.nil) (Ann.node none Ann.nil (Ann.node none (Ann.node none Ann.nil (Ann.node none (Ann.node (some (1, [(1, Kd.v), (4, Kd.v), (7, Kd.v), (9, Kd.v), (40, Kd.v), (41, Kd.i .i64), (42, Kd.i .i64)])) (Ann.node none Ann.nil (Ann.node none (Ann.node none Ann.nil Ann.nil) (Ann.node none (Ann.node none (Ann.node none Ann.nil (Ann.node none (Ann.node none Ann.nil (Ann.node none (Ann.node none Ann.nil Ann.nil) Ann.nil)) Ann.nil)) Ann.nil) Ann.nil))) Ann.nil) Ann.nil)) (Ann.node (some (2, [(4, Kd.v), (7, Kd.v), (9, Kd.v)])) Ann.nil Ann.nil))))))
noncomputable def P58x2 (S : Sg) (r4 : Value) (r7 : Value) (r9 : Value) (h : Hp) : CRes :=
  loadNK 5 h r7 fun v0 =>
  storeNK 5 h r4 v0 fun h1 =>
  loadNK 5 h1 r4 fun v2 => some (Value.tuple (List.toArray [v2, r9, (Value.int .i64 (Int.ofNat 0))]), h1)
noncomputable def P58x1 (S : Sg) (r1 : Value) (r4 : Value) (r7 : Value) (r9 : Value) (r40 : Value) (r41 : Int) (r42 : Int) (h : Hp) : CRes :=
  boolZ (ltZ r42 r41) fun b0 =>
  ifB b0
  (idxSK 1 r40 r42 fun v1 =>
  load1K h v1 fun v2 =>
  intK .i64 v2 fun i3 =>
  optK (sliceV env h 22 r1 none (some (Value.int .i64 r42)) none) fun v4 =>
  pairK (optK (F90 [v4, (Value.int .i64 i3)] h) fun v => some (v, h)) fun v5 h5 =>
  boolK v5 fun b6 =>
  ifB b6
  (optK (buildV env 71 (List.toArray [])) fun v7 =>
  storeNK 5 h5 r4 v7 fun h8 =>
  loadNK 5 h8 r4 fun v9 => some (Value.tuple (List.toArray [v9, (Value.slice none 0 0), (Value.int .i64 (Int.ofNat 5))]), h8))
  (optK (buildV env 76 (List.toArray [(0, (Value.int .i64 i3)), (1, (Value.int .i64 r42))])) fun v10 =>
  pairK (buildSliceV env h5 79 1 (List.toArray [(0, v10)])) fun v11 h11 =>
  pairK (appendV env h11 #[79, 79] (List.toArray [r9, v11])) fun v12 h12 =>
  wrap64 (Int.add r42 (Int.ofNat 1)) fun i13 =>
  S 1 (AL.v r1 (AL.v r4 (AL.v r7 (AL.v v12 (AL.v r40 (AL.i r41 (AL.i i13 AL.n))))))) h12))
  (S 2 (AL.v r4 (AL.v r7 (AL.v r9 AL.n))) h)
noncomputable def P58x0 (S : Sg) (r0 : Value) (r1 : Value) (h : Hp) : CRes :=
  allocK h 25 (Array.toList (Value.cells r0)) fun a0 h0 =>
  allocK h0 71 [(Value.slice none 0 0), (Value.slice none 0 0), (Value.slice none 0 0), (Value.slice none 0 0), (Value.map none)] fun a1 h1 =>
  loadNK 4 h1 a0 fun v2 =>
  pairK (callQ F63 [v2] h1) fun v3 h3 =>
  extK v3 0 fun v4 =>
  extK v3 1 fun v5 =>
  intK .i64 v5 fun i6 =>
  allocK h3 71 [(Value.slice none 0 0), (Value.slice none 0 0), (Value.slice none 0 0), (Value.slice none 0 0), (Value.map none)] fun a7 h7 =>
  storeNK 5 h7 a7 v4 fun h8 =>
  boolN (eqZ i6 (Int.ofNat 0)) fun b9 =>
  ifB b9
  (optK (buildV env 71 (List.toArray [])) fun v10 =>
  storeNK 5 h8 a1 v10 fun h11 =>
  loadNK 5 h11 a1 fun v12 => some (Value.tuple (List.toArray [v12, (Value.slice none 0 0), (Value.int .i64 i6)]), h11))
  (lenSK r1 fun i13 =>
  ptrAddK 0 a7 fun v14 =>
  ptrAddK 3 v14 fun v15 =>
  load1K h8 v15 fun v16 =>
  lenSK v16 fun i17 =>
  boolN (eqZ i13 i17) fun b18 =>
  ifB b18
  (optK (buildV env 71 (List.toArray [])) fun v19 =>
  storeNK 5 h8 a1 v19 fun h20 =>
  loadNK 5 h20 a1 fun v21 => some (Value.tuple (List.toArray [v21, (Value.slice none 0 0), (Value.int .i64 (Int.ofNat 3))]), h20))
  (ptrAddK 0 a7 fun v22 =>
  ptrAddK 2 v22 fun v23 =>
  load1K h8 v23 fun v24 =>
  lenSK v24 fun i25 =>
  pairK (optK (F53 [(Value.int .i64 i25), r1] h8) fun v => some (v, h8)) fun v26 h26 =>
  boolK v26 fun b27 =>
  boolN b27 fun b28 =>
  ifB b28
  (optK (buildV env 71 (List.toArray [])) fun v29 =>
  storeNK 5 h26 a1 v29 fun h30 =>
  loadNK 5 h30 a1 fun v31 => some (Value.tuple (List.toArray [v31, (Value.slice none 0 0), (Value.int .i64 (Int.ofNat 4))]), h30))
  (lenSK r1 fun i32 =>
  S 1 (AL.v r1 (AL.v a1 (AL.v a7 (AL.v (Value.slice none 0 0) (AL.v r1 (AL.i i32 (AL.i (Int.ofNat 0) AL.n))))))) h26)))
noncomputable def T58 (S : Sg) : Sg := tabC 0 (uV fun r0 => uV fun r1 => uN fun h => P58x0 S r0 r1 h) (tabC 1 (uV fun r1 => uV fun r4 => uV fun r7 => uV fun r9 => uV fun r40 => uI fun r41 => uI fun r42 => uN fun h => P58x1 S r1 r4 r7 r9 r40 r41 r42 h) (tabC 2 (uV fun r4 => uV fun r7 => uV fun r9 => uN fun h => P58x2 S r4 r7 r9 h) (tabN)))
noncomputable def F58 (args : List Value) (h : Hp) : CRes := packVals [Kd.v, Kd.v] args fun al => rec' T58 1000000 0 al h
def nt58 : Nat := 2 + (62 - 2)
theorem q58x2 (S : Sg) (r4 : Value) (r7 : Value) (r9 : Value) (h : Hp) : P58x2 S r4 r7 r9 h = stepAt (regK env orc32 (nt58)) (finK env Try.f58.results.toList) (collect B58 A58 []) 2 S (AL.v r4 (AL.v r7 (AL.v r9 AL.n))) h := by kernel_rfl
theorem q58x1 (S : Sg) (r1 : Value) (r4 : Value) (r7 : Value) (r9 : Value) (r40 : Value) (r41 : Int) (r42 : Int) (h : Hp) : P58x1 S r1 r4 r7 r9 r40 r41 r42 h = stepAt (regK env orc32 (nt58)) (finK env Try.f58.results.toList) (collect B58 A58 []) 1 S (AL.v r1 (AL.v r4 (AL.v r7 (AL.v r9 (AL.v r40 (AL.i r41 (AL.i r42 AL.n))))))) h := by kernel_rfl
theorem q58x0 (S : Sg) (r0 : Value) (r1 : Value) (h : Hp) : P58x0 S r0 r1 h = stepAt (regK env orc32 (nt58)) (finK env Try.f58.results.toList) (collect B58 A58 []) 0 S (AL.v r0 (AL.v r1 AL.n)) h := by kernel_rfl
theorem t58 (S : Sg) : Tab (fun l vs h => stepAt (regK env orc32 nt58) (finK env Try.f58.results.toList) (collect B58 A58 []) l S vs h) (T58 S) := by
  unfold T58
  refine Tab.cons 0 (fun vs0 h q e0 => ?_) ?_
  · obtain ⟨r0, vs1, rfl, e1⟩ := uV_some e0
    obtain ⟨r1, vs2, rfl, e2⟩ := uV_some e1
    obtain ⟨rfl, ee⟩ := uN_some e2
    exact (q58x0 S r0 r1 h).symm.trans ee
  refine Tab.cons 1 (fun vs0 h q e0 => ?_) ?_
  · obtain ⟨r1, vs1, rfl, e1⟩ := uV_some e0
    obtain ⟨r4, vs2, rfl, e2⟩ := uV_some e1
    obtain ⟨r7, vs3, rfl, e3⟩ := uV_some e2
    obtain ⟨r9, vs4, rfl, e4⟩ := uV_some e3
    obtain ⟨r40, vs5, rfl, e5⟩ := uV_some e4
    obtain ⟨r41, vs6, rfl, e6⟩ := uI_some e5
    obtain ⟨r42, vs7, rfl, e7⟩ := uI_some e6
    obtain ⟨rfl, ee⟩ := uN_some e7
    exact (q58x1 S r1 r4 r7 r9 r40 r41 r42 h).symm.trans ee
  refine Tab.cons 2 (fun vs0 h q e0 => ?_) ?_
  · obtain ⟨r4, vs1, rfl, e1⟩ := uV_some e0
    obtain ⟨r7, vs2, rfl, e2⟩ := uV_some e1
    obtain ⟨r9, vs3, rfl, e3⟩ := uV_some e2
    obtain ⟨rfl, ee⟩ := uN_some e3
    exact (q58x2 S r4 r7 r9 h).symm.trans ee
  exact Tab.nil
theorem r58 : ∀ args h v h', F58 args h = some (v, h') → Runs (C32) (.call 58 args.toArray h) (.ret v h') := by
  intro args h v h' e
  exact fun_sound (C := C32) (fn := Try.f58) (body := B58) (np := 2) (A := A58) (T := T58) (kinds := [Kd.v, Kd.v]) (by kernel_rfl) (by kernel_rfl) (by kernel_rfl) (by kernel_rfl) (regK_ok env_ok) (by kernel_rfl) (fun S => t58 S) e
noncomputable def orc33 := orcQ 58 F58 orc32
noncomputable def C33 : Cfg := cfg orc33
theorem ok33 : C33.Ok := orcQ_ok (C := C32) ok32 r58
noncomputable def B91 : Code := (Try.f91.body).getD .skip
def A91 : Ann := (Ann.node (some (0, [(0, Kd.v)])) Ann.nil (Ann.node none (Ann.node none Ann.nil (Ann.node none (Ann.node none Ann.nil Ann.nil) Ann.nil)) (Ann.node none Ann.nil Ann.nil)))
noncomputable def P91x0 (S : Sg) (r0 : Value) (h : Hp) : CRes :=
  optK (binV env .eql 22 (Operand.tmp 3) (Operand.const (Value.slice none 0 0)) r0 (Value.slice none 0 0)) fun v0 =>
  boolK v0 fun b1 =>
  ifB b1
  (some ((Value.slice none 0 0), h))
  (pairK (buildSliceV env h 22 0 (List.toArray [])) fun v2 h2 =>
  pairK (appendV env h2 #[22, 22] (List.toArray [v2, r0])) fun v3 h3 =>
  some (v3, h3))
noncomputable def T91 (S : Sg) : Sg := tabC 0 (uV fun r0 => uN fun h => P91x0 S r0 h) (tabN)
noncomputable def F91 (args : List Value) (h : Hp) : CRes := packVals [Kd.v] args fun al => rec' T91 1000000 0 al h
def nt91 : Nat := 1 + (8 - 1)
theorem q91x0 (S : Sg) (r0 : Value) (h : Hp) : P91x0 S r0 h = stepAt (regK env orc33 (nt91)) (finK env Try.f91.results.toList) (collect B91 A91 []) 0 S (AL.v r0 AL.n) h := by kernel_rfl
theorem t91 (S : Sg) : Tab (fun l vs h => stepAt (regK env orc33 nt91) (finK env Try.f91.results.toList) (collect B91 A91 []) l S vs h) (T91 S) := by
  unfold T91
  refine Tab.cons 0 (fun vs0 h q e0 => ?_) ?_
  · obtain ⟨r0, vs1, rfl, e1⟩ := uV_some e0
    obtain ⟨rfl, ee⟩ := uN_some e1
    exact (q91x0 S r0 h).symm.trans ee
  exact Tab.nil
theorem r91 : ∀ args h v h', F91 args h = some (v, h') → Runs (C33) (.call 91 args.toArray h) (.ret v h') := by
  intro args h v h' e
  exact fun_sound (C := C33) (fn := Try.f91) (body := B91) (np := 1) (A := A91) (T := T91) (kinds := [Kd.v]) (by kernel_rfl) (by kernel_rfl) (by kernel_rfl) (by kernel_rfl) (regK_ok env_ok) (by kernel_rfl) (fun S => t91 S) e
noncomputable def orc34 := orcQ 91 F91 orc33
noncomputable def C34 : Cfg := cfg orc34
theorem ok34 : C34.Ok := orcQ_ok (C := C33) ok33 r91
noncomputable def B59 : Code := (Try.f59.body).getD .skip
def A59 : Ann := (Ann.node (some (0, [(0, Kd.v), (1, Kd.v)])) Ann.nil (Ann.node none Ann.nil Ann.nil))
noncomputable def P59x0 (S : Sg) (r0 : Value) (r1 : Value) (h : Hp) : CRes :=
  allocK h 71 (Array.toList (Value.cells r0)) fun a0 h0 =>
  allocK h0 87 (Array.toList (Value.cells r1)) fun a1 h1 =>
  ptrAddK 0 a0 fun v2 =>
  ptrAddK 1 v2 fun v3 =>
  load1K h1 v3 fun v4 =>
  lenSK v4 fun i5 =>
  optK (sliceV env h1 87 a1 none (some (Value.int .i64 i5)) none) fun v6 =>
  pairK (callQ F91 [v6] h1) fun v7 h7 =>
  some (v7, h7)
noncomputable def T59 (S : Sg) : Sg := tabC 0 (uV fun r0 => uV fun r1 => uN fun h => P59x0 S r0 r1 h) (tabN)
noncomputable def F59 (args : List Value) (h : Hp) : CRes := packVals [Kd.v, Kd.v] args fun al => rec' T59 1000000 0 al h
def nt59 : Nat := 2 + (11 - 2)
theorem q59x0 (S : Sg) (r0 : Value) (r1 : Value) (h : Hp) : P59x0 S r0 r1 h = stepAt (regK env orc34 (nt59)) (finK env Try.f59.results.toList) (collect B59 A59 []) 0 S (AL.v r0 (AL.v r1 AL.n)) h := by kernel_rfl
theorem t59 (S : Sg) : Tab (fun l vs h => stepAt (regK env orc34 nt59) (finK env Try.f59.results.toList) (collect B59 A59 []) l S vs h) (T59 S) := by
  unfold T59
  refine Tab.cons 0 (fun vs0 h q e0 => ?_) ?_
  · obtain ⟨r0, vs1, rfl, e1⟩ := uV_some e0
    obtain ⟨r1, vs2, rfl, e2⟩ := uV_some e1
    obtain ⟨rfl, ee⟩ := uN_some e2
    exact (q59x0 S r0 r1 h).symm.trans ee
  exact Tab.nil
theorem r59 : ∀ args h v h', F59 args h = some (v, h') → Runs (C34) (.call 59 args.toArray h) (.ret v h') := by
  intro args h v h' e
  exact fun_sound (C := C34) (fn := Try.f59) (body := B59) (np := 2) (A := A59) (T := T59) (kinds := [Kd.v, Kd.v]) (by kernel_rfl) (by kernel_rfl) (by kernel_rfl) (by kernel_rfl) (regK_ok env_ok) (by kernel_rfl) (fun S => t59 S) e
noncomputable def orc35 := orcQ 59 F59 orc34
noncomputable def C35 : Cfg := cfg orc35
theorem ok35 : C35.Ok := orcQ_ok (C := C34) ok34 r59
noncomputable def B22 : Code := (Try.f22.body).getD .skip
def A22 : Ann := (Ann.node (some (0, [(0, Kd.v), (1, Kd.v)])) Ann.nil (Ann.node none Ann.nil (Ann.node none (Ann.node none Ann.nil (Ann.node none (Ann.node none Ann.nil Ann.nil) Ann.nil)) (Ann.node none Ann.nil Ann.nil))))
noncomputable def P22x0 (S : Sg) (r0 : Value) (r1 : Value) (h : Hp) : CRes :=
  allocK h 25 (Array.toList (Value.cells r0)) fun a0 h0 =>
  loadNK 4 h0 a0 fun v1 =>
  pairK (callQ F58 [v1, r1] h0) fun v2 h2 =>
  extK v2 0 fun v3 =>
  extK v2 1 fun v4 =>
  extK v2 2 fun v5 =>
  intK .i64 v5 fun i6 =>
  allocK h2 71 [(Value.slice none 0 0), (Value.slice none 0 0), (Value.slice none 0 0), (Value.slice none 0 0), (Value.map none)] fun a7 h7 =>
  storeNK 5 h7 a7 v3 fun h8 =>
  boolN (eqZ i6 (Int.ofNat 0)) fun b9 =>
  ifB b9
  (some (Value.tuple (List.toArray [(Value.slice none 0 0), (Value.int .i64 i6)]), h8))
  (loadNK 5 h8 a7 fun v10 =>
  loadNK 5 h8 a7 fun v11 =>
  pairK (pairK (callQ F60 [v11, v4] (Hp.mk (Hp.next h8) (Hp.next h8) (Hp.objs h8))) fun v _ => ifB (plainK v) (some (v, h8)) none) fun v12 h12 =>
  pairK (callQ F59 [v10, v12] h12) fun v13 h13 =>
  some (Value.tuple (List.toArray [v13, (Value.int .i64 (Int.ofNat 0))]), h13))
noncomputable def T22 (S : Sg) : Sg := tabC 0 (uV fun r0 => uV fun r1 => uN fun h => P22x0 S r0 r1 h) (tabN)
noncomputable def F22 (args : List Value) (h : Hp) : CRes := packVals [Kd.v, Kd.v] args fun al => rec' T22 1000000 0 al h
def nt22 : Nat := 2 + (24 - 2)
theorem q22x0 (S : Sg) (r0 : Value) (r1 : Value) (h : Hp) : P22x0 S r0 r1 h = stepAt (regK env orc35 (nt22)) (finK env Try.f22.results.toList) (collect B22 A22 []) 0 S (AL.v r0 (AL.v r1 AL.n)) h := by kernel_rfl
theorem t22 (S : Sg) : Tab (fun l vs h => stepAt (regK env orc35 nt22) (finK env Try.f22.results.toList) (collect B22 A22 []) l S vs h) (T22 S) := by
  unfold T22
  refine Tab.cons 0 (fun vs0 h q e0 => ?_) ?_
  · obtain ⟨r0, vs1, rfl, e1⟩ := uV_some e0
    obtain ⟨r1, vs2, rfl, e2⟩ := uV_some e1
    obtain ⟨rfl, ee⟩ := uN_some e2
    exact (q22x0 S r0 r1 h).symm.trans ee
  exact Tab.nil
theorem r22 : ∀ args h v h', F22 args h = some (v, h') → Runs (C35) (.call 22 args.toArray h) (.ret v h') := by
  intro args h v h' e
  exact fun_sound (C := C35) (fn := Try.f22) (body := B22) (np := 2) (A := A22) (T := T22) (kinds := [Kd.v, Kd.v]) (by kernel_rfl) (by kernel_rfl) (by kernel_rfl) (by kernel_rfl) (regK_ok env_ok) (by kernel_rfl) (fun S => t22 S) e
noncomputable def orc36 := orcQ 22 F22 orc35
noncomputable def C36 : Cfg := cfg orc36
theorem ok36 : C36.Ok := orcQ_ok (C := C35) ok35 r22
noncomputable def B62 : Code := (Try.f62.body).getD .skip
def A62 : Ann := (Ann.node (some (0, [(0, Kd.v), (1, Kd.v)])) Ann.nil (Ann.node none Ann.nil Ann.nil))
noncomputable def P62x0 (S : Sg) (r0 : Value) (r1 : Value) (h : Hp) : CRes :=
  allocK h 71 (Array.toList (Value.cells r0)) fun a0 h0 =>
  loadNK 5 h0 a0 fun v1 =>
  pairK (callQ F60 [v1, r1] h0) fun v2 h2 =>
  pairK (optK (F77 [v2] h2) fun v => some (v, h2)) fun v3 h3 =>
  optK (buildV env 87 (List.toArray [])) fun v4 =>
  optK (binV env .eql 87 (Operand.tmp 8) (Operand.tmp 9) v3 v4) fun v5 =>
  boolK v5 fun b6 =>
  some ((Value.bool b6), h3)
noncomputable def T62 (S : Sg) : Sg := tabC 0 (uV fun r0 => uV fun r1 => uN fun h => P62x0 S r0 r1 h) (tabN)
noncomputable def F62 (args : List Value) (h : Hp) : CRes := packVals [Kd.v, Kd.v] args fun al => rec' T62 1000000 0 al h
def nt62 : Nat := 2 + (11 - 2)
theorem q62x0 (S : Sg) (r0 : Value) (r1 : Value) (h : Hp) : P62x0 S r0 r1 h = stepAt (regK env orc36 (nt62)) (finK env Try.f62.results.toList) (collect B62 A62 []) 0 S (AL.v r0 (AL.v r1 AL.n)) h := by kernel_rfl
theorem t62 (S : Sg) : Tab (fun l vs h => stepAt (regK env orc36 nt62) (finK env Try.f62.results.toList) (collect B62 A62 []) l S vs h) (T62 S) := by
  unfold T62
  refine Tab.cons 0 (fun vs0 h q e0 => ?_) ?_
  · obtain ⟨r0, vs1, rfl, e1⟩ := uV_some e0
    obtain ⟨r1, vs2, rfl, e2⟩ := uV_some e1
    obtain ⟨rfl, ee⟩ := uN_some e2
    exact (q62x0 S r0 r1 h).symm.trans ee
  exact Tab.nil
theorem r62 : ∀ args h v h', F62 args h = some (v, h') → Runs (C36) (.call 62 args.toArray h) (.ret v h') := by
  intro args h v h' e
  exact fun_sound (C := C36) (fn := Try.f62) (body := B62) (np := 2) (A := A62) (T := T62) (kinds := [Kd.v, Kd.v]) (by kernel_rfl) (by kernel_rfl) (by kernel_rfl) (by kernel_rfl) (regK_ok env_ok) (by kernel_rfl) (fun S => t62 S) e
noncomputable def orc37 := orcQ 62 F62 orc36
noncomputable def C37 : Cfg := cfg orc37
theorem ok37 : C37.Ok := orcQ_ok (C := C36) ok36 r62
noncomputable def B24 : Code := (Try.f24.body).getD .skip
def A24 : Ann := (Ann.node (some (0, [(0, Kd.v), (1, Kd.v)])) Ann.nil (Ann.node none Ann.nil (Ann.node none (Ann.node none Ann.nil (Ann.node none (Ann.node none Ann.nil Ann.nil) Ann.nil)) (Ann.node none (Ann.node none Ann.nil (Ann.node none (Ann.node none Ann.nil Ann.nil) Ann.nil)) (Ann.node none Ann.nil Ann.nil)))))
noncomputable def P24x0 (S : Sg) (r0 : Value) (r1 : Value) (h : Hp) : CRes :=
  allocK h 25 (Array.toList (Value.cells r0)) fun a0 h0 =>
  loadNK 4 h0 a0 fun v1 =>
  pairK (callQ F58 [v1, r1] h0) fun v2 h2 =>
  extK v2 0 fun v3 =>
  extK v2 1 fun v4 =>
  extK v2 2 fun v5 =>
  intK .i64 v5 fun i6 =>
  allocK h2 71 [(Value.slice none 0 0), (Value.slice none 0 0), (Value.slice none 0 0), (Value.slice none 0 0), (Value.map none)] fun a7 h7 =>
  storeNK 5 h7 a7 v3 fun h8 =>
  boolN (eqZ i6 (Int.ofNat 0)) fun b9 =>
  ifB b9
  (some (Value.tuple (List.toArray [(Value.int .i64 (Int.ofNat 0)), (Value.int .i64 i6)]), h8))
  (loadNK 5 h8 a7 fun v10 =>
  pairK (callQ F62 [v10, v4] h8) fun v11 h11 =>
  boolK v11 fun b12 =>
  boolN b12 fun b13 =>
  ifB b13
  (some (Value.tuple (List.toArray [(Value.int .i64 (Int.ofNat 0)), (Value.int .i64 (Int.ofNat 9))]), h11))
  (loadNK 5 h11 a7 fun v14 =>
  pairK (optK (F54 [v14, v4] h11) fun v => some (v, h11)) fun v15 h15 =>
  intK .i64 v15 fun i16 =>
  some (Value.tuple (List.toArray [(Value.int .i64 i16), (Value.int .i64 (Int.ofNat 0))]), h15)))
noncomputable def T24 (S : Sg) : Sg := tabC 0 (uV fun r0 => uV fun r1 => uN fun h => P24x0 S r0 r1 h) (tabN)
noncomputable def F24 (args : List Value) (h : Hp) : CRes := packVals [Kd.v, Kd.v] args fun al => rec' T24 1000000 0 al h
def nt24 : Nat := 2 + (26 - 2)
theorem q24x0 (S : Sg) (r0 : Value) (r1 : Value) (h : Hp) : P24x0 S r0 r1 h = stepAt (regK env orc37 (nt24)) (finK env Try.f24.results.toList) (collect B24 A24 []) 0 S (AL.v r0 (AL.v r1 AL.n)) h := by kernel_rfl
theorem t24 (S : Sg) : Tab (fun l vs h => stepAt (regK env orc37 nt24) (finK env Try.f24.results.toList) (collect B24 A24 []) l S vs h) (T24 S) := by
  unfold T24
  refine Tab.cons 0 (fun vs0 h q e0 => ?_) ?_
  · obtain ⟨r0, vs1, rfl, e1⟩ := uV_some e0
    obtain ⟨r1, vs2, rfl, e2⟩ := uV_some e1
    obtain ⟨rfl, ee⟩ := uN_some e2
    exact (q24x0 S r0 r1 h).symm.trans ee
  exact Tab.nil
theorem r24 : ∀ args h v h', F24 args h = some (v, h') → Runs (C37) (.call 24 args.toArray h) (.ret v h') := by
  intro args h v h' e
  exact fun_sound (C := C37) (fn := Try.f24) (body := B24) (np := 2) (A := A24) (T := T24) (kinds := [Kd.v, Kd.v]) (by kernel_rfl) (by kernel_rfl) (by kernel_rfl) (by kernel_rfl) (regK_ok env_ok) (by kernel_rfl) (fun S => t24 S) e
noncomputable def orc38 := orcQ 24 F24 orc37
noncomputable def C38 : Cfg := cfg orc38
theorem ok38 : C38.Ok := orcQ_ok (C := C37) ok37 r24
noncomputable abbrev orcE := orc38
theorem okE : (cfg orcE).Ok := ok38
end Go.Proofs.Ytepepiajmdpiiaa.K
