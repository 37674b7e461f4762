/- Functions told. -/
import Derived.Test.YtepepiajmdpiiaaHaTab
open Go Go.Eng
set_option maxRecDepth 100000
set_option linter.unusedVariables false
namespace Go.Proofs.Ytepepiajmdpiiaa.K
noncomputable def B82 : Code := (Try.f82.body).getD .skip
noncomputable def A82 : G.aB (List KI) := (G.aB.node (some (0, [KI.reg 0 (Kd.i .i64), KI.reg 1 (Kd.i .i64), KI.reg 2 (Kd.v)])) G.aB.nil (G.aB.node none (G.aB.node none G.aB.nil (G.aB.node none (G.aB.node (some (1, [KI.reg 0 (Kd.i .i64), KI.reg 1 (Kd.i .i64), KI.reg 9 (Kd.v), KI.reg 10 (Kd.i .i64), KI.reg 11 (Kd.i .i64)])) (G.aB.node none G.aB.nil (G.aB.node none (G.aB.node none G.aB.nil G.aB.nil) (G.aB.node none (G.aB.node none (G.aB.node none G.aB.nil (G.aB.node none G.aB.nil (G.aB.node none (G.aB.node none G.aB.nil G.aB.nil) G.aB.nil))) G.aB.nil) G.aB.nil))) G.aB.nil) G.aB.nil)) (G.aB.node (some (2, [])) G.aB.nil G.aB.nil)))
noncomputable def aBZ (h : Hp) (S : Nat → aD → Option Value) : Option Value :=
 some (Value.bool true)
noncomputable def PZ (h : Hp) (S : Nat → aD → Option Value) (r0 : Int) (r1 : Int) (r9 : Value) (dR : Int) (gQ : Int) : Option Value :=
 bX (nG gQ dR) fun b0 =>
 dF b0
 (dS 1 r9 gQ fun v1 =>
 aK h v1 fun v2 =>
 aX .i64 v2 fun i3 =>
 bX (nG i3 r0) fun b4 =>
 dF b4
 (some (Value.bool false))
 (bX (nG r1 i3) fun b5 =>
 dF b5
 (some (Value.bool false))
 (wrap64 (Int.add gQ (Int.ofNat 1)) fun i6 =>
 S 1 (aD.i r0 (aD.i r1 (aD.v r9 (aD.i dR (aD.i i6 aD.n))))))))
 (S 2 aD.n)
noncomputable def aB5 (h : Hp) (S : Nat → aD → Option Value) (r0 : Int) (r1 : Int) (r2 : Value) : Option Value :=
 dK r2 fun i0 =>
 S 1 (aD.i r0 (aD.i r1 (aD.v r2 (aD.i i0 (aD.i (Int.ofNat 0) aD.n)))))
noncomputable def T82 (h : Hp) (S : Nat → aD → Option Value) : Nat → aD → Option Value := eP 0 (wI fun r0 => wI fun r1 => wV fun r2 => wN (aB5 h S r0 r1 r2)) (eP 1 (wI fun r0 => wI fun r1 => wV fun r9 => wI fun dR => wI fun gQ => wN (PZ h S r0 r1 r9 dR gQ)) (eP 2 (wN (aBZ h S)) (lY)))
noncomputable def F82 (args : List Value) (h : Hp) : Option Value := plainO (eT [Kd.i .i64, Kd.i .i64, Kd.v] args fun al => G.aP (T82 h) 1000000 0 al)
def aNO : Nat := 3 + (24 - 3)
theorem aY2 (h : Hp) (S : Nat → aD → Option Value) : aBZ h S = G.aF bR aQ fC (fF env pf0 aNO h) (fH env Try.f82.results.toList) (G.collect B82 A82 []) 2 S aD.n := by kernel_rfl
theorem aY3 (h : Hp) (S : Nat → aD → Option Value) (r0 : Int) (r1 : Int) (r9 : Value) (dR : Int) (gQ : Int) : PZ h S r0 r1 r9 dR gQ = G.aF bR aQ fC (fF env pf0 aNO h) (fH env Try.f82.results.toList) (G.collect B82 A82 []) 1 S (aD.i r0 (aD.i r1 (aD.v r9 (aD.i dR (aD.i gQ aD.n))))) := by kernel_rfl
theorem aY4 (h : Hp) (S : Nat → aD → Option Value) (r0 : Int) (r1 : Int) (r2 : Value) : aB5 h S r0 r1 r2 = G.aF bR aQ fC (fF env pf0 aNO h) (fH env Try.f82.results.toList) (G.collect B82 A82 []) 0 S (aD.i r0 (aD.i r1 (aD.v r2 aD.n))) := by kernel_rfl
theorem t82 (h : Hp) (S : Nat → aD → Option Value) : dG (fun l al => G.aF bR aQ fC (fF env pf0 aNO h) (fH env Try.f82.results.toList) (G.collect B82 A82 []) l S al) (T82 h S) := by
 unfold T82
 refine dG.cons 0 (fun fJ q e0 => ?_) ?_
 ·obtain ⟨r0, vs1, rfl, e1⟩ := aV e0
  obtain ⟨r1, vs2, rfl, e2⟩ := aV e1
  obtain ⟨r2, vs3, rfl, e3⟩ := bA e2
  obtain ⟨rfl, ee⟩ := bQ e3
  exact (aY4 h S r0 r1 r2).symm.trans ee
 refine dG.cons 1 (fun fJ q e0 => ?_) ?_
 ·obtain ⟨r0, vs1, rfl, e1⟩ := aV e0
  obtain ⟨r1, vs2, rfl, e2⟩ := aV e1
  obtain ⟨r9, vs3, rfl, e3⟩ := bA e2
  obtain ⟨dR, pF, rfl, e4⟩ := aV e3
  obtain ⟨gQ, zS, rfl, e5⟩ := aV e4
  obtain ⟨rfl, ee⟩ := bQ e5
  exact (aY3 h S r0 r1 r9 dR gQ).symm.trans ee
 refine dG.cons 2 (fun fJ q e0 => ?_) ?_
 ·
  obtain ⟨rfl, ee⟩ := bQ e0
  exact (aY2 h S).symm.trans ee
 exact dG.nil
theorem r82 : PSound Try.prog 82 F82 := dY (C := C0) ok0 (pf := pf0) aPC (fn := Try.f82) (body := B82) (kinds := [Kd.i .i64, Kd.i .i64, Kd.v]) (A := A82) (T := T82) (by kernel_rfl) (by kernel_rfl) (by kernel_rfl) (by kernel_rfl) (fun h S => t82 h S)
noncomputable def pf1 : PF := JF 82 F82 pf0
theorem aPD : fT Try.prog pf1 := jJ r82 aPC
noncomputable def aNP := o8 82 F82 aY6
noncomputable def C1 : dM := cfg aNP
theorem ok1 : C1.Ok := gP (C := C0) ok0 r82
noncomputable def B81 : Code := (Try.f81.body).getD .skip
def A81 : aB := (aB.node (some (0, [(0, Kd.v), (1, Kd.i .i64), (2, Kd.v)])) aB.nil (aB.node none (aB.node none aB.nil (aB.node none (aB.node none aB.nil aB.nil) aB.nil)) (aB.node none aB.nil aB.nil)))
noncomputable def aDH (S : Sg) (r0 : Value) (r1 : Int) (r2 : Value) (h : Hp) : aW :=
 aK h r2 fun v0 =>
 aX .i64 v0 fun i1 =>
 aS (bO env h 22 1 (List.toArray [(0, (Value.int .i64 r1))])) fun v2 h2 =>
 aS (cO (F82 [(Value.int .i64 (Int.ofNat 0)), (Value.int .i64 i1), v2] h2) fun v => some (v, h2)) fun v3 h3 =>
 eO v3 fun b4 =>
 bU b4 fun b5 =>
 dF b5
 (some ((Value.int .i64 (Int.ofNat 7)), h3))
 (some ((Value.int .i64 (Int.ofNat 0)), h3))
noncomputable def T81 (S : Sg) : Sg := dJ 0 (uV fun r0 => uI fun r1 => uV fun r2 => uN fun h => aDH S r0 r1 r2 h) (kP)
noncomputable def F81 (args : List Value) (h : Hp) : aW := bP [Kd.v, Kd.i .i64, Kd.v] args fun al => aP T81 1000000 0 al h
def aY7 : Nat := 3 + (11 - 3)
theorem aY8 (S : Sg) (r0 : Value) (r1 : Int) (r2 : Value) (h : Hp) : aDH S r0 r1 r2 h = aF (bK env aNP (aY7)) (bM env Try.f81.results.toList) (collect B81 A81 []) 0 S (AL.v r0 (AL.i r1 (AL.v r2 AL.n))) h := by kernel_rfl
theorem t81 (S : Sg) : dW (fun l vs h => aF (bK env aNP aY7) (bM env Try.f81.results.toList) (collect B81 A81 []) l S vs h) (T81 S) := by
 unfold T81
 refine dW.cons 0 (fun fJ h q e0 => ?_) ?_
 ·obtain ⟨r0, vs1, rfl, e1⟩ := aC e0
  obtain ⟨r1, vs2, rfl, e2⟩ := aM e1
  obtain ⟨r2, vs3, rfl, e3⟩ := aC e2
  obtain ⟨rfl, ee⟩ := aN e3
  exact (aY8 S r0 r1 r2 h).symm.trans ee
 exact dW.nil
theorem r81 : ∀ args h v h', F81 args h = some (v, h') → gW (C1) (.call 81 args.toArray h) (.ret v h') := by
 intro args h v h' e
 exact bJ (C := C1) (fn := Try.f81) (body := B81) (np := 3) (A := A81) (T := T81) (kinds := [Kd.v, Kd.i .i64, Kd.v]) (by kernel_rfl) (by kernel_rfl) (by kernel_rfl) (by kernel_rfl) (dH eF) (by kernel_rfl) (fun S => t81 S) e
noncomputable def OE := kH 81 F81 aNP
noncomputable def C2 : dM := cfg OE
theorem ok2 : C2.Ok := dI (C := C1) ok1 r81
noncomputable def aJZ : Code := (Try.f104.body).getD .skip
def aJ0 : aB := (aB.node (some (0, [(0, Kd.v), (1, Kd.v)])) aB.nil (aB.node none (aB.node none aB.nil (aB.node none (aB.node (some (1, [(0, Kd.v), (1, Kd.v), (9, Kd.v), (10, Kd.i .i64), (11, Kd.i .i64)])) (aB.node none aB.nil (aB.node none (aB.node none aB.nil aB.nil) (aB.node none (aB.node none (aB.node none aB.nil (aB.node none aB.nil (aB.node none aB.nil (aB.node none (aB.node none aB.nil aB.nil) aB.nil)))) aB.nil) aB.nil))) aB.nil) aB.nil)) (aB.node (some (2, [])) aB.nil aB.nil)))
noncomputable def aJ1 (S : Sg) (h : Hp) : aW :=
 some (Value.tuple (List.toArray [(Value.int .i64 (Int.ofNat 0)), (Value.int .i64 (Int.ofNat 0))]), h)
noncomputable def IC (S : Sg) (r0 : Value) (r1 : Value) (r9 : Value) (dR : Int) (gQ : Int) (h : Hp) : aW :=
 bX (nG gQ dR) fun b0 =>
 dF b0
 (dS 1 r9 gQ fun v1 =>
 aK h v1 fun v2 =>
 aX .i64 v2 fun i3 =>
 cO (gB env h 22 r0 none (some (Value.int .i64 gQ)) none) fun v4 =>
 aS (qM OE r1 [v4, (Value.int .i64 i3)] h) fun v5 h5 =>
 aX .i64 v5 fun i6 =>
 bU (lW i6 (Int.ofNat 0)) fun b7 =>
 dF b7
 (some (Value.tuple (List.toArray [(Value.int .i64 gQ), (Value.int .i64 i6)]), h5))
 (wrap64 (Int.add gQ (Int.ofNat 1)) fun i8 =>
 S 1 (AL.v r0 (AL.v r1 (AL.v r9 (AL.i dR (AL.i i8 AL.n))))) h5))
 (S 2 AL.n h)
noncomputable def TZ (S : Sg) (r0 : Value) (r1 : Value) (h : Hp) : aW :=
 dK r0 fun i0 =>
 S 1 (AL.v r0 (AL.v r1 (AL.v r0 (AL.i i0 (AL.i (Int.ofNat 0) AL.n))))) h
noncomputable def XH (S : Sg) : Sg := dJ 0 (uV fun r0 => uV fun r1 => uN fun h => TZ S r0 r1 h) (dJ 1 (uV fun r0 => uV fun r1 => uV fun r9 => uI fun dR => uI fun gQ => uN fun h => IC S r0 r1 r9 dR gQ h) (dJ 2 (uN fun h => aJ1 S  h) (kP)))
noncomputable def aNG (args : List Value) (h : Hp) : aW := bP [Kd.v, Kd.v] args fun al => aP XH 1000000 0 al h
def aDS : Nat := 2 + (27 - 2)
theorem aT1 (S : Sg) (h : Hp) : aJ1 S  h = aF (bK env OE (aDS)) (bM env Try.f104.results.toList) (collect aJZ aJ0 []) 2 S AL.n h := by kernel_rfl
theorem aT2 (S : Sg) (r0 : Value) (r1 : Value) (r9 : Value) (dR : Int) (gQ : Int) (h : Hp) : IC S r0 r1 r9 dR gQ h = aF (bK env OE (aDS)) (bM env Try.f104.results.toList) (collect aJZ aJ0 []) 1 S (AL.v r0 (AL.v r1 (AL.v r9 (AL.i dR (AL.i gQ AL.n))))) h := by kernel_rfl
theorem aT3 (S : Sg) (r0 : Value) (r1 : Value) (h : Hp) : TZ S r0 r1 h = aF (bK env OE (aDS)) (bM env Try.f104.results.toList) (collect aJZ aJ0 []) 0 S (AL.v r0 (AL.v r1 AL.n)) h := by kernel_rfl
theorem t104 (S : Sg) : dW (fun l vs h => aF (bK env OE aDS) (bM env Try.f104.results.toList) (collect aJZ aJ0 []) l S vs h) (XH S) := by
 unfold XH
 refine dW.cons 0 (fun fJ h q e0 => ?_) ?_
 ·obtain ⟨r0, vs1, rfl, e1⟩ := aC e0
  obtain ⟨r1, vs2, rfl, e2⟩ := aC e1
  obtain ⟨rfl, ee⟩ := aN e2
  exact (aT3 S r0 r1 h).symm.trans ee
 refine dW.cons 1 (fun fJ h q e0 => ?_) ?_
 ·obtain ⟨r0, vs1, rfl, e1⟩ := aC e0
  obtain ⟨r1, vs2, rfl, e2⟩ := aC e1
  obtain ⟨r9, vs3, rfl, e3⟩ := aC e2
  obtain ⟨dR, pF, rfl, e4⟩ := aM e3
  obtain ⟨gQ, zS, rfl, e5⟩ := aM e4
  obtain ⟨rfl, ee⟩ := aN e5
  exact (aT2 S r0 r1 r9 dR gQ h).symm.trans ee
 refine dW.cons 2 (fun fJ h q e0 => ?_) ?_
 ·
  obtain ⟨rfl, ee⟩ := aN e0
  exact (aT1 S  h).symm.trans ee
 exact dW.nil
theorem bC8 : ∀ args h v h', aNG args h = some (v, h') → gW (C2) (.call 104 args.toArray h) (.ret v h') := by
 intro args h v h' e
 exact bJ (C := C2) (fn := Try.f104) (body := aJZ) (np := 2) (A := aJ0) (T := XH) (kinds := [Kd.v, Kd.v]) (by kernel_rfl) (by kernel_rfl) (by kernel_rfl) (by kernel_rfl) (dH eF) (by kernel_rfl) (fun S => t104 S) e
noncomputable def aNQ := kH 104 aNG OE
noncomputable def C3 : dM := cfg aNQ
theorem ok3 : C3.Ok := dI (C := C2) ok2 bC8
noncomputable def B80 : Code := (Try.f80.body).getD .skip
def A80 : aB := (aB.node (some (0, [(0, Kd.v), (1, Kd.i .i64), (2, Kd.v)])) aB.nil (aB.node none (aB.node none aB.nil (aB.node none (aB.node none aB.nil aB.nil) aB.nil)) (aB.node none aB.nil aB.nil)))
noncomputable def aC7 (S : Sg) (r0 : Value) (r1 : Int) (r2 : Value) (h : Hp) : aW :=
 dK r0 fun i0 =>
 bX (nG r1 i0) fun b1 =>
 dF b1
 (some (Value.tuple (List.toArray [(Value.int .i64 (Int.ofNat 0)), (Value.int .i64 (Int.ofNat 3))]), h))
 (aS (dV aNG [r0, r2] h) fun v2 h2 =>
 fK v2 0 fun v3 =>
 aX .i64 v3 fun i4 =>
 fK v2 1 fun v5 =>
 aX .i64 v5 fun i6 =>
 some (Value.tuple (List.toArray [(Value.int .i64 i4), (Value.int .i64 i6)]), h2))
noncomputable def T80 (S : Sg) : Sg := dJ 0 (uV fun r0 => uI fun r1 => uV fun r2 => uN fun h => aC7 S r0 r1 r2 h) (kP)
noncomputable def F80 (args : List Value) (h : Hp) : aW := bP [Kd.v, Kd.i .i64, Kd.v] args fun al => aP T80 1000000 0 al h
def aY9 : Nat := 3 + (17 - 3)
theorem aZA (S : Sg) (r0 : Value) (r1 : Int) (r2 : Value) (h : Hp) : aC7 S r0 r1 r2 h = aF (bK env aNQ (aY9)) (bM env Try.f80.results.toList) (collect B80 A80 []) 0 S (AL.v r0 (AL.i r1 (AL.v r2 AL.n))) h := by kernel_rfl
theorem t80 (S : Sg) : dW (fun l vs h => aF (bK env aNQ aY9) (bM env Try.f80.results.toList) (collect B80 A80 []) l S vs h) (T80 S) := by
 unfold T80
 refine dW.cons 0 (fun fJ h q e0 => ?_) ?_
 ·obtain ⟨r0, vs1, rfl, e1⟩ := aC e0
  obtain ⟨r1, vs2, rfl, e2⟩ := aM e1
  obtain ⟨r2, vs3, rfl, e3⟩ := aC e2
  obtain ⟨rfl, ee⟩ := aN e3
  exact (aZA S r0 r1 r2 h).symm.trans ee
 exact dW.nil
theorem r80 : ∀ args h v h', F80 args h = some (v, h') → gW (C3) (.call 80 args.toArray h) (.ret v h') := by
 intro args h v h' e
 exact bJ (C := C3) (fn := Try.f80) (body := B80) (np := 3) (A := A80) (T := T80) (kinds := [Kd.v, Kd.i .i64, Kd.v]) (by kernel_rfl) (by kernel_rfl) (by kernel_rfl) (by kernel_rfl) (dH eF) (by kernel_rfl) (fun S => t80 S) e
noncomputable def aNR := kH 80 F80 aNQ
noncomputable def C4 : dM := cfg aNR
theorem ok4 : C4.Ok := dI (C := C3) ok3 r80
noncomputable def B48 : Code := (Try.f48.body).getD .skip
def A48 : aB := (aB.node (some (0, [(0, Kd.v), (1, Kd.i .i64), (2, Kd.i .i64)])) aB.nil (aB.node none (aB.node none aB.nil (aB.node none (aB.node none aB.nil aB.nil) aB.nil)) (aB.node none aB.nil aB.nil)))
noncomputable def aDI (S : Sg) (r0 : Value) (r1 : Int) (r2 : Int) (h : Hp) : aW :=
 bS h 3 [(Value.int .i64 r2)] fun a0 h0 =>
 dK r0 fun i1 =>
 bX (lW i1 (Int.ofNat 0)) fun b2 =>
 dF b2
 (some (Value.tuple (List.toArray [(Value.int .i64 (Int.ofNat 0)), (Value.int .i64 (Int.ofNat 3))]), h0))
 (aS (dV F80 [r0, (Value.int .i64 r1), (Value.func (.func 81) (List.toArray []) (List.toArray [a0]))] h0) fun v3 h3 =>
 fK v3 0 fun v4 =>
 aX .i64 v4 fun i5 =>
 fK v3 1 fun v6 =>
 aX .i64 v6 fun i7 =>
 some (Value.tuple (List.toArray [(Value.int .i64 i5), (Value.int .i64 i7)]), h3))
noncomputable def T48 (S : Sg) : Sg := dJ 0 (uV fun r0 => uI fun r1 => uI fun r2 => uN fun h => aDI S r0 r1 r2 h) (kP)
noncomputable def F48 (args : List Value) (h : Hp) : aW := bP [Kd.v, Kd.i .i64, Kd.i .i64] args fun al => aP T48 1000000 0 al h
def aZB : Nat := 3 + (17 - 3)
theorem aZC (S : Sg) (r0 : Value) (r1 : Int) (r2 : Int) (h : Hp) : aDI S r0 r1 r2 h = aF (bK env aNR (aZB)) (bM env Try.f48.results.toList) (collect B48 A48 []) 0 S (AL.v r0 (AL.i r1 (AL.i r2 AL.n))) h := by kernel_rfl
theorem t48 (S : Sg) : dW (fun l vs h => aF (bK env aNR aZB) (bM env Try.f48.results.toList) (collect B48 A48 []) l S vs h) (T48 S) := by
 unfold T48
 refine dW.cons 0 (fun fJ h q e0 => ?_) ?_
 ·obtain ⟨r0, vs1, rfl, e1⟩ := aC e0
  obtain ⟨r1, vs2, rfl, e2⟩ := aM e1
  obtain ⟨r2, vs3, rfl, e3⟩ := aM e2
  obtain ⟨rfl, ee⟩ := aN e3
  exact (aZC S r0 r1 r2 h).symm.trans ee
 exact dW.nil
theorem r48 : ∀ args h v h', F48 args h = some (v, h') → gW (C4) (.call 48 args.toArray h) (.ret v h') := by
 intro args h v h' e
 exact bJ (C := C4) (fn := Try.f48) (body := B48) (np := 3) (A := A48) (T := T48) (kinds := [Kd.v, Kd.i .i64, Kd.i .i64]) (by kernel_rfl) (by kernel_rfl) (by kernel_rfl) (by kernel_rfl) (dH eF) (by kernel_rfl) (fun S => t48 S) e
noncomputable def aZD := kH 48 F48 aNR
noncomputable def C5 : dM := cfg aZD
theorem ok5 : C5.Ok := dI (C := C4) ok4 r48
noncomputable def B87 : Code := (Try.f87.body).getD .skip
noncomputable def A87 : G.aB (List KI) := (G.aB.node (some (0, [KI.reg 0 (Kd.v), KI.reg 1 (Kd.v)])) G.aB.nil (G.aB.node none G.aB.nil G.aB.nil))
noncomputable def aCT (h : Hp) (S : Nat → aD → Option Value) (r0 : Value) (r1 : Value) : Option Value :=
 oP (Array.toList (Value.cells r0)) fun c0 =>
 BG c0 0 fun v1 =>
 aT 0 r1 fun v2 =>
 aK h v2 fun v3 =>
 cO (qQ env .eql 9 (Operand.tmp 5) (Operand.tmp 7) v1 v3) fun v4 =>
 eO v4 fun b5 =>
 some (Value.bool b5)
noncomputable def T87 (h : Hp) (S : Nat → aD → Option Value) : Nat → aD → Option Value := eP 0 (wV fun r0 => wV fun r1 => wN (aCT h S r0 r1)) (lY)
noncomputable def F87 (args : List Value) (h : Hp) : Option Value := plainO (eT [Kd.v, Kd.v] args fun al => G.aP (T87 h) 1000000 0 al)
def aZE : Nat := 2 + (9 - 2)
theorem aZF (h : Hp) (S : Nat → aD → Option Value) (r0 : Value) (r1 : Value) : aCT h S r0 r1 = G.aF bR aQ fC (fF env pf1 aZE h) (fH env Try.f87.results.toList) (G.collect B87 A87 []) 0 S (aD.v r0 (aD.v r1 aD.n)) := by kernel_rfl
theorem t87 (h : Hp) (S : Nat → aD → Option Value) : dG (fun l al => G.aF bR aQ fC (fF env pf1 aZE h) (fH env Try.f87.results.toList) (G.collect B87 A87 []) l S al) (T87 h S) := by
 unfold T87
 refine dG.cons 0 (fun fJ q e0 => ?_) ?_
 ·obtain ⟨r0, vs1, rfl, e1⟩ := bA e0
  obtain ⟨r1, vs2, rfl, e2⟩ := bA e1
  obtain ⟨rfl, ee⟩ := bQ e2
  exact (aZF h S r0 r1).symm.trans ee
 exact dG.nil
theorem r87 : PSound Try.prog 87 F87 := dY (C := C0) ok0 (pf := pf1) aPD (fn := Try.f87) (body := B87) (kinds := [Kd.v, Kd.v]) (A := A87) (T := T87) (by kernel_rfl) (by kernel_rfl) (by kernel_rfl) (by kernel_rfl) (fun h S => t87 h S)
noncomputable def pf2 : PF := JF 87 F87 pf1
theorem aPE : fT Try.prog pf2 := jJ r87 aPD
noncomputable def aZH := o8 87 F87 aZD
noncomputable def C6 : dM := cfg aZH
theorem ok6 : C6.Ok := gP (C := C5) ok5 r87
noncomputable def aT4 : Code := (Try.f106.body).getD .skip
noncomputable def aT5 : G.aB (List KI) := (G.aB.node (some (0, [KI.reg 0 (Kd.i .u8)])) G.aB.nil (G.aB.node none G.aB.nil G.aB.nil))
noncomputable def TM (h : Hp) (S : Nat → aD → Option Value) (r0 : Int) : Option Value :=
 bU (nG r0 (Int.ofNat 97)) fun b0 =>
 dF b0
 (bU (nG (Int.ofNat 122) r0) fun b1 =>
 some (Value.bool b1))
 (some (Value.bool false))
noncomputable def aIQ (h : Hp) (S : Nat → aD → Option Value) : Nat → aD → Option Value := eP 0 (wI fun r0 => wN (TM h S r0)) (lY)
noncomputable def aFU (args : List Value) (h : Hp) : Option Value := plainO (eT [Kd.i .u8] args fun al => G.aP (aIQ h) 1000000 0 al)
def aPF : Nat := 1 + (9 - 1)
theorem aT6 (h : Hp) (S : Nat → aD → Option Value) (r0 : Int) : TM h S r0 = G.aF bR aQ fC (fF env pf2 aPF h) (fH env Try.f106.results.toList) (G.collect aT4 aT5 []) 0 S (aD.i r0 aD.n) := by kernel_rfl
theorem t106 (h : Hp) (S : Nat → aD → Option Value) : dG (fun l al => G.aF bR aQ fC (fF env pf2 aPF h) (fH env Try.f106.results.toList) (G.collect aT4 aT5 []) l S al) (aIQ h S) := by
 unfold aIQ
 refine dG.cons 0 (fun fJ q e0 => ?_) ?_
 ·obtain ⟨r0, vs1, rfl, e1⟩ := aV e0
  obtain ⟨rfl, ee⟩ := bQ e1
  exact (aT6 h S r0).symm.trans ee
 exact dG.nil
theorem aZI : PSound Try.prog 106 aFU := dY (C := C0) ok0 (pf := pf2) aPE (fn := Try.f106) (body := aT4) (kinds := [Kd.i .u8]) (A := aT5) (T := aIQ) (by kernel_rfl) (by kernel_rfl) (by kernel_rfl) (by kernel_rfl) (fun h S => t106 h S)
noncomputable def pf3 : PF := JF 106 aFU pf2
theorem aPG : fT Try.prog pf3 := jJ aZI aPE
noncomputable def aZK := o8 106 aFU aZH
noncomputable def C7 : dM := cfg aZK
theorem ok7 : C7.Ok := gP (C := C6) ok6 aZI
noncomputable def aT7 : Code := (Try.f107.body).getD .skip
noncomputable def aT8 : G.aB (List KI) := (G.aB.node (some (0, [KI.reg 0 (Kd.i .u8)])) G.aB.nil (G.aB.node none G.aB.nil G.aB.nil))
noncomputable def TN (h : Hp) (S : Nat → aD → Option Value) (r0 : Int) : Option Value :=
 bU (nG r0 (Int.ofNat 48)) fun b0 =>
 dF b0
 (bU (nG (Int.ofNat 57) r0) fun b1 =>
 some (Value.bool b1))
 (some (Value.bool false))
noncomputable def aIT (h : Hp) (S : Nat → aD → Option Value) : Nat → aD → Option Value := eP 0 (wI fun r0 => wN (TN h S r0)) (lY)
noncomputable def aIS (args : List Value) (h : Hp) : Option Value := plainO (eT [Kd.i .u8] args fun al => G.aP (aIT h) 1000000 0 al)
def aPH : Nat := 1 + (9 - 1)
theorem aT9 (h : Hp) (S : Nat → aD → Option Value) (r0 : Int) : TN h S r0 = G.aF bR aQ fC (fF env pf3 aPH h) (fH env Try.f107.results.toList) (G.collect aT7 aT8 []) 0 S (aD.i r0 aD.n) := by kernel_rfl
theorem t107 (h : Hp) (S : Nat → aD → Option Value) : dG (fun l al => G.aF bR aQ fC (fF env pf3 aPH h) (fH env Try.f107.results.toList) (G.collect aT7 aT8 []) l S al) (aIT h S) := by
 unfold aIT
 refine dG.cons 0 (fun fJ q e0 => ?_) ?_
 ·obtain ⟨r0, vs1, rfl, e1⟩ := aV e0
  obtain ⟨rfl, ee⟩ := bQ e1
  exact (aT9 h S r0).symm.trans ee
 exact dG.nil
theorem aZL : PSound Try.prog 107 aIS := dY (C := C0) ok0 (pf := pf3) aPG (fn := Try.f107) (body := aT7) (kinds := [Kd.i .u8]) (A := aT8) (T := aIT) (by kernel_rfl) (by kernel_rfl) (by kernel_rfl) (by kernel_rfl) (fun h S => t107 h S)
noncomputable def pf4 : PF := JF 107 aIS pf3
theorem aPI : fT Try.prog pf4 := jJ aZL aPG
noncomputable def aGD := o8 107 aIS aZK
noncomputable def C8 : dM := cfg aGD
theorem ok8 : C8.Ok := gP (C := C7) ok7 aZL
noncomputable def B85 : Code := (Try.f85.body).getD .skip
def A85 : aB := (aB.node (some (0, [(0, Kd.v)])) aB.nil (aB.node none (aB.node none aB.nil (aB.node none (aB.node none aB.nil aB.nil) aB.nil)) (aB.node none (aB.node none aB.nil (aB.node none (aB.node (some (1, [(0, Kd.v), (16, Kd.i .i64), (17, Kd.i .i64)])) (aB.node none aB.nil (aB.node none (aB.node none aB.nil aB.nil) (aB.node none (aB.node none (aB.node none aB.nil (aB.node none aB.nil (aB.node none (aB.node none aB.nil aB.nil) aB.nil))) aB.nil) aB.nil))) aB.nil) aB.nil)) (aB.node (some (2, [])) aB.nil aB.nil))))
noncomputable def aB6 (S : Sg) (h : Hp) : aW :=
 some ((Value.bool true), h)
noncomputable def QC (S : Sg) (r0 : Value) (r16 : Int) (FR : Int) (h : Hp) : aW :=
 bX (nG FR r16) fun b0 =>
 dF b0
 (cO (mZ env 9 r0 (Value.int .i64 FR)) fun v1 =>
 aX .u8 v1 fun i2 =>
 aS (cO (aFU [(Value.int .u8 i2)] h) fun v => some (v, h)) fun v3 h3 =>
 eO v3 fun b4 =>
 bU b4 fun b5 =>
 dF b5
 (cO (mZ env 9 r0 (Value.int .i64 FR)) fun v6 =>
 aX .u8 v6 fun i7 =>
 aS (cO (aIS [(Value.int .u8 i7)] h3) fun v => some (v, h3)) fun v8 h8 =>
 eO v8 fun b9 =>
 bU b9 fun b10 =>
 dF b10
 (cO (mZ env 9 r0 (Value.int .i64 FR)) fun v11 =>
 aX .u8 v11 fun i12 =>
 bU (lW i12 (Int.ofNat 46)) fun b13 =>
 dF b13
 (some ((Value.bool false), h8))
 (wrap64 (Int.add FR (Int.ofNat 1)) fun i14 =>
 S 1 (AL.v r0 (AL.i r16 (AL.i i14 AL.n))) h8))
 (wrap64 (Int.add FR (Int.ofNat 1)) fun i15 =>
 S 1 (AL.v r0 (AL.i r16 (AL.i i15 AL.n))) h8))
 (wrap64 (Int.add FR (Int.ofNat 1)) fun i16 =>
 S 1 (AL.v r0 (AL.i r16 (AL.i i16 AL.n))) h3))
 (S 2 AL.n h)
noncomputable def aB7 (S : Sg) (r0 : Value) (h : Hp) : aW :=
 I7 r0 fun i0 =>
 aS (bO env h 22 1 (List.toArray [(0, (Value.int .i64 i0))])) fun v1 h1 =>
 aS (cO (F82 [(Value.int .i64 (Int.ofNat 1)), (Value.int .i64 (Int.ofNat 16)), v1] h1) fun v => some (v, h1)) fun v2 h2 =>
 eO v2 fun b3 =>
 bU b3 fun b4 =>
 dF b4
 (some ((Value.bool false), h2))
 (cO (mZ env 9 r0 (Value.int .i64 (Int.ofNat 0))) fun v5 =>
 aX .u8 v5 fun i6 =>
 aS (cO (aFU [(Value.int .u8 i6)] h2) fun v => some (v, h2)) fun v7 h7 =>
 eO v7 fun b8 =>
 bU b8 fun b9 =>
 dF b9
 (some ((Value.bool false), h7))
 (I7 r0 fun i10 =>
 S 1 (AL.v r0 (AL.i i10 (AL.i (Int.ofNat 0) AL.n))) h7))
noncomputable def T85 (S : Sg) : Sg := dJ 0 (uV fun r0 => uN fun h => aB7 S r0 h) (dJ 1 (uV fun r0 => uI fun r16 => uI fun FR => uN fun h => QC S r0 r16 FR h) (dJ 2 (uN fun h => aB6 S  h) (kP)))
noncomputable def F85 (args : List Value) (h : Hp) : aW := bP [Kd.v] args fun al => aP T85 1000000 0 al h
def aNS : Nat := 1 + (39 - 1)
theorem aZP (S : Sg) (h : Hp) : aB6 S  h = aF (bK env aGD (aNS)) (bM env Try.f85.results.toList) (collect B85 A85 []) 2 S AL.n h := by kernel_rfl
theorem aZQ (S : Sg) (r0 : Value) (r16 : Int) (FR : Int) (h : Hp) : QC S r0 r16 FR h = aF (bK env aGD (aNS)) (bM env Try.f85.results.toList) (collect B85 A85 []) 1 S (AL.v r0 (AL.i r16 (AL.i FR AL.n))) h := by kernel_rfl
theorem aZR (S : Sg) (r0 : Value) (h : Hp) : aB7 S r0 h = aF (bK env aGD (aNS)) (bM env Try.f85.results.toList) (collect B85 A85 []) 0 S (AL.v r0 AL.n) h := by kernel_rfl
theorem t85 (S : Sg) : dW (fun l vs h => aF (bK env aGD aNS) (bM env Try.f85.results.toList) (collect B85 A85 []) l S vs h) (T85 S) := by
 unfold T85
 refine dW.cons 0 (fun fJ h q e0 => ?_) ?_
 ·obtain ⟨r0, vs1, rfl, e1⟩ := aC e0
  obtain ⟨rfl, ee⟩ := aN e1
  exact (aZR S r0 h).symm.trans ee
 refine dW.cons 1 (fun fJ h q e0 => ?_) ?_
 ·obtain ⟨r0, vs1, rfl, e1⟩ := aC e0
  obtain ⟨r16, vs2, rfl, e2⟩ := aM e1
  obtain ⟨FR, vs3, rfl, e3⟩ := aM e2
  obtain ⟨rfl, ee⟩ := aN e3
  exact (aZQ S r0 r16 FR h).symm.trans ee
 refine dW.cons 2 (fun fJ h q e0 => ?_) ?_
 ·
  obtain ⟨rfl, ee⟩ := aN e0
  exact (aZP S  h).symm.trans ee
 exact dW.nil
theorem r85 : ∀ args h v h', F85 args h = some (v, h') → gW (C8) (.call 85 args.toArray h) (.ret v h') := by
 intro args h v h' e
 exact bJ (C := C8) (fn := Try.f85) (body := B85) (np := 1) (A := A85) (T := T85) (kinds := [Kd.v]) (by kernel_rfl) (by kernel_rfl) (by kernel_rfl) (by kernel_rfl) (dH eF) (by kernel_rfl) (fun S => t85 S) e
noncomputable def WW := kH 85 F85 aGD
noncomputable def C9 : dM := cfg WW
theorem ok9 : C9.Ok := dI (C := C8) ok8 r85
noncomputable def aJ2 : Code := (Try.f108.body).getD .skip
def aJ3 : aB := (aB.node (some (0, [(0, Kd.v), (1, Kd.v)])) aB.nil (aB.node none (aB.node none aB.nil (aB.node none (aB.node (some (1, [(0, Kd.v), (1, Kd.v), (7, Kd.i .i64), (8, Kd.i .i64)])) (aB.node none aB.nil (aB.node none (aB.node none aB.nil aB.nil) (aB.node none (aB.node none (aB.node none aB.nil (aB.node none aB.nil (aB.node none (aB.node none aB.nil aB.nil) aB.nil))) aB.nil) aB.nil))) aB.nil) aB.nil)) (aB.node (some (2, [])) aB.nil aB.nil)))
noncomputable def aJ4 (S : Sg) (h : Hp) : aW :=
 some ((Value.int .i64 (Int.negSucc 0)), h)
noncomputable def IB (S : Sg) (r0 : Value) (r1 : Value) (r7 : Int) (r8 : Int) (h : Hp) : aW :=
 bX (nG r8 r7) fun b0 =>
 dF b0
 (dS 3 r0 r8 fun v1 =>
 aY 3 h v1 fun v2 =>
 aS (qM WW r1 [v2] h) fun v3 h3 =>
 eO v3 fun b4 =>
 dF b4
 (some ((Value.int .i64 r8), h3))
 (wrap64 (Int.add r8 (Int.ofNat 1)) fun i5 =>
 S 1 (AL.v r0 (AL.v r1 (AL.i r7 (AL.i i5 AL.n)))) h3))
 (S 2 AL.n h)
noncomputable def TV (S : Sg) (r0 : Value) (r1 : Value) (h : Hp) : aW :=
 dK r0 fun i0 =>
 S 1 (AL.v r0 (AL.v r1 (AL.i i0 (AL.i (Int.ofNat 0) AL.n)))) h
noncomputable def WV (S : Sg) : Sg := dJ 0 (uV fun r0 => uV fun r1 => uN fun h => TV S r0 r1 h) (dJ 1 (uV fun r0 => uV fun r1 => uI fun r7 => uI fun r8 => uN fun h => IB S r0 r1 r7 r8 h) (dJ 2 (uN fun h => aJ4 S  h) (kP)))
noncomputable def aNC (args : List Value) (h : Hp) : aW := bP [Kd.v, Kd.v] args fun al => aP WV 1000000 0 al h
def aDT : Nat := 2 + (19 - 2)
theorem aUA (S : Sg) (h : Hp) : aJ4 S  h = aF (bK env WW (aDT)) (bM env Try.f108.results.toList) (collect aJ2 aJ3 []) 2 S AL.n h := by kernel_rfl
theorem aUB (S : Sg) (r0 : Value) (r1 : Value) (r7 : Int) (r8 : Int) (h : Hp) : IB S r0 r1 r7 r8 h = aF (bK env WW (aDT)) (bM env Try.f108.results.toList) (collect aJ2 aJ3 []) 1 S (AL.v r0 (AL.v r1 (AL.i r7 (AL.i r8 AL.n)))) h := by kernel_rfl
theorem aUC (S : Sg) (r0 : Value) (r1 : Value) (h : Hp) : TV S r0 r1 h = aF (bK env WW (aDT)) (bM env Try.f108.results.toList) (collect aJ2 aJ3 []) 0 S (AL.v r0 (AL.v r1 AL.n)) h := by kernel_rfl
theorem t108 (S : Sg) : dW (fun l vs h => aF (bK env WW aDT) (bM env Try.f108.results.toList) (collect aJ2 aJ3 []) l S vs h) (WV S) := by
 unfold WV
 refine dW.cons 0 (fun fJ h q e0 => ?_) ?_
 ·obtain ⟨r0, vs1, rfl, e1⟩ := aC e0
  obtain ⟨r1, vs2, rfl, e2⟩ := aC e1
  obtain ⟨rfl, ee⟩ := aN e2
  exact (aUC S r0 r1 h).symm.trans ee
 refine dW.cons 1 (fun fJ h q e0 => ?_) ?_
 ·obtain ⟨r0, vs1, rfl, e1⟩ := aC e0
  obtain ⟨r1, vs2, rfl, e2⟩ := aC e1
  obtain ⟨r7, vs3, rfl, e3⟩ := aM e2
  obtain ⟨r8, pF, rfl, e4⟩ := aM e3
  obtain ⟨rfl, ee⟩ := aN e4
  exact (aUB S r0 r1 r7 r8 h).symm.trans ee
 refine dW.cons 2 (fun fJ h q e0 => ?_) ?_
 ·
  obtain ⟨rfl, ee⟩ := aN e0
  exact (aUA S  h).symm.trans ee
 exact dW.nil
theorem bDF : ∀ args h v h', aNC args h = some (v, h') → gW (C9) (.call 108 args.toArray h) (.ret v h') := by
 intro args h v h' e
 exact bJ (C := C9) (fn := Try.f108) (body := aJ2) (np := 2) (A := aJ3) (T := WV) (kinds := [Kd.v, Kd.v]) (by kernel_rfl) (by kernel_rfl) (by kernel_rfl) (by kernel_rfl) (dH eF) (by kernel_rfl) (fun S => t108 S) e
noncomputable def aDU := kH 108 aNC WW
noncomputable def C10 : dM := cfg aDU
theorem bDG : C10.Ok := dI (C := C9) ok9 bDF
noncomputable def B86 : Code := (Try.f86.body).getD .skip
def A86 : aB := (aB.node (some (0, [(0, Kd.v), (1, Kd.v)])) aB.nil (aB.node none aB.nil aB.nil))
noncomputable def aCU (S : Sg) (r0 : Value) (r1 : Value) (h : Hp) : aW :=
 aS (dV aNC [r0, r1] h) fun v0 h0 =>
 aX .i64 v0 fun i1 =>
 bU (nG i1 (Int.ofNat 0)) fun b2 =>
 some ((Value.bool b2), h0)
noncomputable def T86 (S : Sg) : Sg := dJ 0 (uV fun r0 => uV fun r1 => uN fun h => aCU S r0 r1 h) (kP)
noncomputable def F86 (args : List Value) (h : Hp) : aW := bP [Kd.v, Kd.v] args fun al => aP T86 1000000 0 al h
def aZS : Nat := 2 + (9 - 2)
theorem aZT (S : Sg) (r0 : Value) (r1 : Value) (h : Hp) : aCU S r0 r1 h = aF (bK env aDU (aZS)) (bM env Try.f86.results.toList) (collect B86 A86 []) 0 S (AL.v r0 (AL.v r1 AL.n)) h := by kernel_rfl
theorem t86 (S : Sg) : dW (fun l vs h => aF (bK env aDU aZS) (bM env Try.f86.results.toList) (collect B86 A86 []) l S vs h) (T86 S) := by
 unfold T86
 refine dW.cons 0 (fun fJ h q e0 => ?_) ?_
 ·obtain ⟨r0, vs1, rfl, e1⟩ := aC e0
  obtain ⟨r1, vs2, rfl, e2⟩ := aC e1
  obtain ⟨rfl, ee⟩ := aN e2
  exact (aZT S r0 r1 h).symm.trans ee
 exact dW.nil
theorem r86 : ∀ args h v h', F86 args h = some (v, h') → gW (C10) (.call 86 args.toArray h) (.ret v h') := by
 intro args h v h' e
 exact bJ (C := C10) (fn := Try.f86) (body := B86) (np := 2) (A := A86) (T := T86) (kinds := [Kd.v, Kd.v]) (by kernel_rfl) (by kernel_rfl) (by kernel_rfl) (by kernel_rfl) (dH eF) (by kernel_rfl) (fun S => t86 S) e
noncomputable def aDV := kH 86 F86 aDU
noncomputable def C11 : dM := cfg aDV
theorem bDJ : C11.Ok := dI (C := C10) bDG r86
noncomputable def B84 : Code := (Try.f84.body).getD .skip
def A84 : aB := (aB.node (some (0, [(0, Kd.v), (1, Kd.v), (2, Kd.v), (3, Kd.v)])) aB.nil (aB.node none (aB.node none (aB.node none aB.nil (aB.node none (aB.node none aB.nil aB.nil) (aB.node none aB.nil (aB.node none (aB.node none aB.nil aB.nil) (aB.node none aB.nil (aB.node none (aB.node none aB.nil aB.nil) (aB.node none aB.nil (aB.node none (aB.node none aB.nil aB.nil) (aB.node none (aB.node none aB.nil (aB.node none aB.nil aB.nil)) (aB.node none (aB.node none aB.nil aB.nil) aB.nil)))))))))) aB.nil) (aB.node none aB.nil aB.nil)))
noncomputable def aDJ (S : Sg) (r0 : Value) (r1 : Value) (r2 : Value) (r3 : Value) (h : Hp) : aW :=
 bS h 59 (Array.toList (Value.cells r1)) fun a0 h0 =>
 aT 0 a0 fun v1 =>
 aK h0 v1 fun v2 =>
 aS (dV F85 [v2] h0) fun v3 h3 =>
 eO v3 fun b4 =>
 bU b4 fun b5 =>
 dF b5
 (some ((Value.int .i64 (Int.ofNat 6)), h3))
 (aS (dV F86 [r0, (Value.func (.func 87) (List.toArray []) (List.toArray [a0]))] h3) fun v6 h6 =>
 eO v6 fun b7 =>
 dF b7
 (some ((Value.int .i64 (Int.ofNat 5)), h6))
 (aT 1 a0 fun v8 =>
 aK h6 v8 fun v9 =>
 dK v9 fun i10 =>
 aT 0 r2 fun v11 =>
 aK h6 v11 fun v12 =>
 dK v12 fun i13 =>
 bU (lW i10 i13) fun b14 =>
 dF b14
 (some ((Value.int .i64 (Int.ofNat 3)), h6))
 (aK h6 r3 fun v15 =>
 aX .i64 v15 fun i16 =>
 aT 1 r2 fun v17 =>
 aK h6 v17 fun v18 =>
 dK v18 fun i19 =>
 wrap64 (Int.sub i19 (Int.ofNat 1)) fun i20 =>
 aT 1 a0 fun v21 =>
 aK h6 v21 fun v22 =>
 dS 1 v22 (Int.ofNat 0) fun v23 =>
 aK h6 v23 fun v24 =>
 aX .i64 v24 fun i25 =>
 aS (bO env h6 22 1 (List.toArray [(0, (Value.int .i64 i25))])) fun v26 h26 =>
 aS (cO (F82 [(Value.int .i64 i16), (Value.int .i64 i20), v26] h26) fun v => some (v, h26)) fun v27 h27 =>
 eO v27 fun b28 =>
 bU b28 fun b29 =>
 dF b29
 (some ((Value.int .i64 (Int.ofNat 4)), h27))
 (aK h27 r3 fun v30 =>
 aX .i64 v30 fun i31 =>
 aT 1 a0 fun v32 =>
 aK h27 v32 fun v33 =>
 cO (gB env h27 22 v33 (some (Value.int .i64 (Int.ofNat 1))) none none) fun v34 =>
 aS (cO (F82 [(Value.int .i64 i31), (Value.int .i64 (Int.ofNat 5)), v34] h27) fun v => some (v, h27)) fun v35 h35 =>
 eO v35 fun b36 =>
 bU b36 fun b37 =>
 dF b37
 (dF b37
 (some ((Value.int .i64 (Int.ofNat 7)), h35))
 (some ((Value.int .i64 (Int.ofNat 0)), h35)))
 (aT 2 a0 fun v38 =>
 aK h35 v38 fun v39 =>
 aX .i64 v39 fun i40 =>
 aS (bO env h35 22 1 (List.toArray [(0, (Value.int .i64 i40))])) fun v41 h41 =>
 aS (cO (F82 [(Value.int .i64 (Int.ofNat 0)), (Value.int .i64 (Int.ofNat 50)), v41] h41) fun v => some (v, h41)) fun v42 h42 =>
 eO v42 fun b43 =>
 bU b43 fun b44 =>
 dF b44
 (some ((Value.int .i64 (Int.ofNat 7)), h42))
 (some ((Value.int .i64 (Int.ofNat 0)), h42)))))))
noncomputable def T84 (S : Sg) : Sg := dJ 0 (uV fun r0 => uV fun r1 => uV fun r2 => uV fun r3 => uN fun h => aDJ S r0 r1 r2 r3 h) (kP)
noncomputable def F84 (args : List Value) (h : Hp) : aW := bP [Kd.v, Kd.v, Kd.v, Kd.v] args fun al => aP T84 1000000 0 al h
def aZX : Nat := 4 + (49 - 4)
theorem aZY (S : Sg) (r0 : Value) (r1 : Value) (r2 : Value) (r3 : Value) (h : Hp) : aDJ S r0 r1 r2 r3 h = aF (bK env aDV (aZX)) (bM env Try.f84.results.toList) (collect B84 A84 []) 0 S (AL.v r0 (AL.v r1 (AL.v r2 (AL.v r3 AL.n)))) h := by kernel_rfl
theorem t84 (S : Sg) : dW (fun l vs h => aF (bK env aDV aZX) (bM env Try.f84.results.toList) (collect B84 A84 []) l S vs h) (T84 S) := by
 unfold T84
 refine dW.cons 0 (fun fJ h q e0 => ?_) ?_
 ·obtain ⟨r0, vs1, rfl, e1⟩ := aC e0
  obtain ⟨r1, vs2, rfl, e2⟩ := aC e1
  obtain ⟨r2, vs3, rfl, e3⟩ := aC e2
  obtain ⟨r3, pF, rfl, e4⟩ := aC e3
  obtain ⟨rfl, ee⟩ := aN e4
  exact (aZY S r0 r1 r2 r3 h).symm.trans ee
 exact dW.nil
theorem r84 : ∀ args h v h', F84 args h = some (v, h') → gW (C11) (.call 84 args.toArray h) (.ret v h') := by
 intro args h v h' e
 exact bJ (C := C11) (fn := Try.f84) (body := B84) (np := 4) (A := A84) (T := T84) (kinds := [Kd.v, Kd.v, Kd.v, Kd.v]) (by kernel_rfl) (by kernel_rfl) (by kernel_rfl) (by kernel_rfl) (dH eF) (by kernel_rfl) (fun S => t84 S) e
noncomputable def CJ := kH 84 F84 aDV
noncomputable def C12 : dM := cfg CJ
theorem bDM : C12.Ok := dI (C := C11) bDJ r84
noncomputable def aJ5 : Code := (Try.f105.body).getD .skip
def aJ6 : aB := (aB.node (some (0, [(0, Kd.v), (1, Kd.v)])) aB.nil (aB.node none (aB.node none aB.nil (aB.node none (aB.node (some (1, [(0, Kd.v), (1, Kd.v), (9, Kd.v), (10, Kd.i .i64), (11, Kd.i .i64)])) (aB.node none aB.nil (aB.node none (aB.node none aB.nil aB.nil) (aB.node none (aB.node none (aB.node none aB.nil (aB.node none aB.nil (aB.node none aB.nil (aB.node none (aB.node none aB.nil aB.nil) aB.nil)))) aB.nil) aB.nil))) aB.nil) aB.nil)) (aB.node (some (2, [])) aB.nil aB.nil)))
noncomputable def aJ7 (S : Sg) (h : Hp) : aW :=
 some (Value.tuple (List.toArray [(Value.int .i64 (Int.ofNat 0)), (Value.int .i64 (Int.ofNat 0))]), h)
noncomputable def IE (S : Sg) (r0 : Value) (r1 : Value) (r9 : Value) (dR : Int) (gQ : Int) (h : Hp) : aW :=
 bX (nG gQ dR) fun b0 =>
 dF b0
 (dS 3 r9 gQ fun v1 =>
 aY 3 h v1 fun v2 =>
 bS h 59 [(Value.string (ByteArray.mk #[])), (Value.slice none 0 0), (Value.int .i64 (Int.ofNat 0))] fun a3 h3 =>
 fG 3 h3 a3 v2 fun h4 =>
 cO (gB env h4 23 r0 none (some (Value.int .i64 gQ)) none) fun v5 =>
 aY 3 h4 a3 fun v6 =>
 aS (qM CJ r1 [v5, v6] h4) fun v7 h7 =>
 aX .i64 v7 fun i8 =>
 bU (lW i8 (Int.ofNat 0)) fun b9 =>
 dF b9
 (some (Value.tuple (List.toArray [(Value.int .i64 gQ), (Value.int .i64 i8)]), h7))
 (wrap64 (Int.add gQ (Int.ofNat 1)) fun i10 =>
 S 1 (AL.v r0 (AL.v r1 (AL.v r9 (AL.i dR (AL.i i10 AL.n))))) h7))
 (S 2 AL.n h)
noncomputable def UA (S : Sg) (r0 : Value) (r1 : Value) (h : Hp) : aW :=
 dK r0 fun i0 =>
 S 1 (AL.v r0 (AL.v r1 (AL.v r0 (AL.i i0 (AL.i (Int.ofNat 0) AL.n))))) h
noncomputable def XJ (S : Sg) : Sg := dJ 0 (uV fun r0 => uV fun r1 => uN fun h => UA S r0 r1 h) (dJ 1 (uV fun r0 => uV fun r1 => uV fun r9 => uI fun dR => uI fun gQ => uN fun h => IE S r0 r1 r9 dR gQ h) (dJ 2 (uN fun h => aJ7 S  h) (kP)))
noncomputable def aNH (args : List Value) (h : Hp) : aW := bP [Kd.v, Kd.v] args fun al => aP XJ 1000000 0 al h
def aDW : Nat := 2 + (27 - 2)
theorem aUD (S : Sg) (h : Hp) : aJ7 S  h = aF (bK env CJ (aDW)) (bM env Try.f105.results.toList) (collect aJ5 aJ6 []) 2 S AL.n h := by kernel_rfl
theorem aUE (S : Sg) (r0 : Value) (r1 : Value) (r9 : Value) (dR : Int) (gQ : Int) (h : Hp) : IE S r0 r1 r9 dR gQ h = aF (bK env CJ (aDW)) (bM env Try.f105.results.toList) (collect aJ5 aJ6 []) 1 S (AL.v r0 (AL.v r1 (AL.v r9 (AL.i dR (AL.i gQ AL.n))))) h := by kernel_rfl
theorem aUF (S : Sg) (r0 : Value) (r1 : Value) (h : Hp) : UA S r0 r1 h = aF (bK env CJ (aDW)) (bM env Try.f105.results.toList) (collect aJ5 aJ6 []) 0 S (AL.v r0 (AL.v r1 AL.n)) h := by kernel_rfl
theorem t105 (S : Sg) : dW (fun l vs h => aF (bK env CJ aDW) (bM env Try.f105.results.toList) (collect aJ5 aJ6 []) l S vs h) (XJ S) := by
 unfold XJ
 refine dW.cons 0 (fun fJ h q e0 => ?_) ?_
 ·obtain ⟨r0, vs1, rfl, e1⟩ := aC e0
  obtain ⟨r1, vs2, rfl, e2⟩ := aC e1
  obtain ⟨rfl, ee⟩ := aN e2
  exact (aUF S r0 r1 h).symm.trans ee
 refine dW.cons 1 (fun fJ h q e0 => ?_) ?_
 ·obtain ⟨r0, vs1, rfl, e1⟩ := aC e0
  obtain ⟨r1, vs2, rfl, e2⟩ := aC e1
  obtain ⟨r9, vs3, rfl, e3⟩ := aC e2
  obtain ⟨dR, pF, rfl, e4⟩ := aM e3
  obtain ⟨gQ, zS, rfl, e5⟩ := aM e4
  obtain ⟨rfl, ee⟩ := aN e5
  exact (aUE S r0 r1 r9 dR gQ h).symm.trans ee
 refine dW.cons 2 (fun fJ h q e0 => ?_) ?_
 ·
  obtain ⟨rfl, ee⟩ := aN e0
  exact (aUD S  h).symm.trans ee
 exact dW.nil
theorem bDN : ∀ args h v h', aNH args h = some (v, h') → gW (C12) (.call 105 args.toArray h) (.ret v h') := by
 intro args h v h' e
 exact bJ (C := C12) (fn := Try.f105) (body := aJ5) (np := 2) (A := aJ6) (T := XJ) (kinds := [Kd.v, Kd.v]) (by kernel_rfl) (by kernel_rfl) (by kernel_rfl) (by kernel_rfl) (dH eF) (by kernel_rfl) (fun S => t105 S) e
noncomputable def aDX := kH 105 aNH CJ
noncomputable def C13 : dM := cfg aDX
theorem bDO : C13.Ok := dI (C := C12) bDM bDN
noncomputable def B83 : Code := (Try.f83.body).getD .skip
def A83 : aB := (aB.node (some (0, [(0, Kd.v), (1, Kd.i .i64), (2, Kd.v)])) aB.nil (aB.node none (aB.node none aB.nil (aB.node none (aB.node none aB.nil aB.nil) aB.nil)) (aB.node none aB.nil aB.nil)))
noncomputable def aC8 (S : Sg) (r0 : Value) (r1 : Int) (r2 : Value) (h : Hp) : aW :=
 dK r0 fun i0 =>
 bX (nG r1 i0) fun b1 =>
 dF b1
 (some (Value.tuple (List.toArray [(Value.int .i64 (Int.ofNat 0)), (Value.int .i64 (Int.ofNat 3))]), h))
 (aS (dV aNH [r0, r2] h) fun v2 h2 =>
 fK v2 0 fun v3 =>
 aX .i64 v3 fun i4 =>
 fK v2 1 fun v5 =>
 aX .i64 v5 fun i6 =>
 some (Value.tuple (List.toArray [(Value.int .i64 i4), (Value.int .i64 i6)]), h2))
noncomputable def T83 (S : Sg) : Sg := dJ 0 (uV fun r0 => uI fun r1 => uV fun r2 => uN fun h => aC8 S r0 r1 r2 h) (kP)
noncomputable def F83 (args : List Value) (h : Hp) : aW := bP [Kd.v, Kd.i .i64, Kd.v] args fun al => aP T83 1000000 0 al h
def aZZ : Nat := 3 + (17 - 3)
theorem aZ0 (S : Sg) (r0 : Value) (r1 : Int) (r2 : Value) (h : Hp) : aC8 S r0 r1 r2 h = aF (bK env aDX (aZZ)) (bM env Try.f83.results.toList) (collect B83 A83 []) 0 S (AL.v r0 (AL.i r1 (AL.v r2 AL.n))) h := by kernel_rfl
theorem t83 (S : Sg) : dW (fun l vs h => aF (bK env aDX aZZ) (bM env Try.f83.results.toList) (collect B83 A83 []) l S vs h) (T83 S) := by
 unfold T83
 refine dW.cons 0 (fun fJ h q e0 => ?_) ?_
 ·obtain ⟨r0, vs1, rfl, e1⟩ := aC e0
  obtain ⟨r1, vs2, rfl, e2⟩ := aM e1
  obtain ⟨r2, vs3, rfl, e3⟩ := aC e2
  obtain ⟨rfl, ee⟩ := aN e3
  exact (aZ0 S r0 r1 r2 h).symm.trans ee
 exact dW.nil
theorem r83 : ∀ args h v h', F83 args h = some (v, h') → gW (C13) (.call 83 args.toArray h) (.ret v h') := by
 intro args h v h' e
 exact bJ (C := C13) (fn := Try.f83) (body := B83) (np := 3) (A := A83) (T := T83) (kinds := [Kd.v, Kd.i .i64, Kd.v]) (by kernel_rfl) (by kernel_rfl) (by kernel_rfl) (by kernel_rfl) (dH eF) (by kernel_rfl) (fun S => t83 S) e
noncomputable def aDY := kH 83 F83 aDX
noncomputable def C14 : dM := cfg aDY
theorem bDR : C14.Ok := dI (C := C13) bDO r83
noncomputable def B49 : Code := (Try.f49.body).getD .skip
def A49 : aB := (aB.node (some (0, [(0, Kd.v), (1, Kd.v), (2, Kd.i .i64), (3, Kd.i .i64)])) aB.nil (aB.node none aB.nil aB.nil))
noncomputable def aDK (S : Sg) (r0 : Value) (r1 : Value) (r2 : Int) (r3 : Int) (h : Hp) : aW :=
 bS h 25 (Array.toList (Value.cells r0)) fun a0 h0 =>
 bS h0 3 [(Value.int .i64 r3)] fun a1 h1 =>
 aS (dV F83 [r1, (Value.int .i64 r2), (Value.func (.func 84) (List.toArray []) (List.toArray [a0, a1]))] h1) fun v2 h2 =>
 fK v2 0 fun v3 =>
 aX .i64 v3 fun i4 =>
 fK v2 1 fun v5 =>
 aX .i64 v5 fun i6 =>
 some (Value.tuple (List.toArray [(Value.int .i64 i4), (Value.int .i64 i6)]), h2)
noncomputable def T49 (S : Sg) : Sg := dJ 0 (uV fun r0 => uV fun r1 => uI fun r2 => uI fun r3 => uN fun h => aDK S r0 r1 r2 r3 h) (kP)
noncomputable def F49 (args : List Value) (h : Hp) : aW := bP [Kd.v, Kd.v, Kd.i .i64, Kd.i .i64] args fun al => aP T49 1000000 0 al h
def aZ1 : Nat := 4 + (16 - 4)
theorem aZ2 (S : Sg) (r0 : Value) (r1 : Value) (r2 : Int) (r3 : Int) (h : Hp) : aDK S r0 r1 r2 r3 h = aF (bK env aDY (aZ1)) (bM env Try.f49.results.toList) (collect B49 A49 []) 0 S (AL.v r0 (AL.v r1 (AL.i r2 (AL.i r3 AL.n)))) h := by kernel_rfl
theorem t49 (S : Sg) : dW (fun l vs h => aF (bK env aDY aZ1) (bM env Try.f49.results.toList) (collect B49 A49 []) l S vs h) (T49 S) := by
 unfold T49
 refine dW.cons 0 (fun fJ h q e0 => ?_) ?_
 ·obtain ⟨r0, vs1, rfl, e1⟩ := aC e0
  obtain ⟨r1, vs2, rfl, e2⟩ := aC e1
  obtain ⟨r2, vs3, rfl, e3⟩ := aM e2
  obtain ⟨r3, pF, rfl, e4⟩ := aM e3
  obtain ⟨rfl, ee⟩ := aN e4
  exact (aZ2 S r0 r1 r2 r3 h).symm.trans ee
 exact dW.nil
theorem r49 : ∀ args h v h', F49 args h = some (v, h') → gW (C14) (.call 49 args.toArray h) (.ret v h') := by
 intro args h v h' e
 exact bJ (C := C14) (fn := Try.f49) (body := B49) (np := 4) (A := A49) (T := T49) (kinds := [Kd.v, Kd.v, Kd.i .i64, Kd.i .i64]) (by kernel_rfl) (by kernel_rfl) (by kernel_rfl) (by kernel_rfl) (dH eF) (by kernel_rfl) (fun S => t49 S) e
noncomputable def aDZ := kH 49 F49 aDY
noncomputable def C15 : dM := cfg aDZ
theorem bDU : C15.Ok := dI (C := C14) bDR r49
noncomputable def B16 : Code := (Try.f16.body).getD .skip
def A16 : aB := (aB.node (some (0, [(0, Kd.v)])) aB.nil (aB.node none (aB.node none aB.nil (aB.node none aB.nil (aB.node none (aB.node none aB.nil aB.nil) aB.nil))) (aB.node none (aB.node none aB.nil (aB.node none aB.nil (aB.node none (aB.node none aB.nil aB.nil) aB.nil))) (aB.node none (aB.node none aB.nil (aB.node none aB.nil (aB.node none (aB.node none aB.nil aB.nil) aB.nil))) (aB.node none (aB.node none aB.nil (aB.node none aB.nil (aB.node none (aB.node none aB.nil aB.nil) aB.nil))) (aB.node none aB.nil aB.nil))))))
noncomputable def aDL (S : Sg) (r0 : Value) (h : Hp) : aW :=
 bS h 25 (Array.toList (Value.cells r0)) fun a0 h0 =>
 aT 0 a0 fun v1 =>
 aK h0 v1 fun v2 =>
 aS (dV F48 [v2, (Value.int .i64 (Int.ofNat 4)), (Value.int .i64 (Int.ofNat 100))] h0) fun v3 h3 =>
 fK v3 0 fun v4 =>
 aX .i64 v4 fun i5 =>
 fK v3 1 fun v6 =>
 aX .i64 v6 fun i7 =>
 bU (lW i7 (Int.ofNat 0)) fun b8 =>
 dF b8
 (some (Value.tuple (List.toArray [(Value.int .i64 (Int.ofNat 1)), (Value.int .i64 i5), (Value.int .i64 i7)]), h3))
 (aT 1 a0 fun v9 =>
 aK h3 v9 fun v10 =>
 aS (dV F48 [v10, (Value.int .i64 (Int.ofNat 4)), (Value.int .i64 (Int.ofNat 50))] h3) fun v11 h11 =>
 fK v11 0 fun v12 =>
 aX .i64 v12 fun i13 =>
 fK v11 1 fun v14 =>
 aX .i64 v14 fun i15 =>
 bU (lW i15 (Int.ofNat 0)) fun b16 =>
 dF b16
 (some (Value.tuple (List.toArray [(Value.int .i64 (Int.ofNat 2)), (Value.int .i64 i13), (Value.int .i64 i15)]), h11))
 (aY 4 h11 a0 fun v17 =>
 aT 2 a0 fun v18 =>
 aK h11 v18 fun v19 =>
 aS (dV F49 [v17, v19, (Value.int .i64 (Int.ofNat 6)), (Value.int .i64 (Int.ofNat 0))] h11) fun v20 h20 =>
 fK v20 0 fun v21 =>
 aX .i64 v21 fun i22 =>
 fK v20 1 fun v23 =>
 aX .i64 v23 fun i24 =>
 bU (lW i24 (Int.ofNat 0)) fun b25 =>
 dF b25
 (some (Value.tuple (List.toArray [(Value.int .i64 (Int.ofNat 3)), (Value.int .i64 i22), (Value.int .i64 i24)]), h20))
 (aY 4 h20 a0 fun v26 =>
 aT 3 a0 fun v27 =>
 aK h20 v27 fun v28 =>
 aS (dV F49 [v26, v28, (Value.int .i64 (Int.ofNat 5)), (Value.int .i64 (Int.negSucc 0))] h20) fun v29 h29 =>
 fK v29 0 fun v30 =>
 aX .i64 v30 fun i31 =>
 fK v29 1 fun v32 =>
 aX .i64 v32 fun i33 =>
 bU (lW i33 (Int.ofNat 0)) fun b34 =>
 dF b34
 (some (Value.tuple (List.toArray [(Value.int .i64 (Int.ofNat 4)), (Value.int .i64 i31), (Value.int .i64 i33)]), h29))
 (some (Value.tuple (List.toArray [(Value.int .i64 (Int.ofNat 0)), (Value.int .i64 (Int.ofNat 0)), (Value.int .i64 (Int.ofNat 0))]), h29)))))
noncomputable def T16 (S : Sg) : Sg := dJ 0 (uV fun r0 => uN fun h => aDL S r0 h) (kP)
noncomputable def F16 (args : List Value) (h : Hp) : aW := bP [Kd.v] args fun al => aP T16 1000000 0 al h
def aZ5 : Nat := 1 + (55 - 1)
theorem aZ6 (S : Sg) (r0 : Value) (h : Hp) : aDL S r0 h = aF (bK env aDZ (aZ5)) (bM env Try.f16.results.toList) (collect B16 A16 []) 0 S (AL.v r0 AL.n) h := by kernel_rfl
theorem t16 (S : Sg) : dW (fun l vs h => aF (bK env aDZ aZ5) (bM env Try.f16.results.toList) (collect B16 A16 []) l S vs h) (T16 S) := by
 unfold T16
 refine dW.cons 0 (fun fJ h q e0 => ?_) ?_
 ·obtain ⟨r0, vs1, rfl, e1⟩ := aC e0
  obtain ⟨rfl, ee⟩ := aN e1
  exact (aZ6 S r0 h).symm.trans ee
 exact dW.nil
theorem r16 : ∀ args h v h', F16 args h = some (v, h') → gW (C15) (.call 16 args.toArray h) (.ret v h') := by
 intro args h v h' e
 exact bJ (C := C15) (fn := Try.f16) (body := B16) (np := 1) (A := A16) (T := T16) (kinds := [Kd.v]) (by kernel_rfl) (by kernel_rfl) (by kernel_rfl) (by kernel_rfl) (dH eF) (by kernel_rfl) (fun S => t16 S) e
noncomputable def QT := kH 16 F16 aDZ
noncomputable def C16 : dM := cfg QT
theorem ok16 : C16.Ok := dI (C := C15) bDU r16
noncomputable def B93 : Code := (Try.f93.body).getD .skip
def A93 : aB := (aB.node (some (0, [(0, Kd.v), (1, Kd.v)])) aB.nil (aB.node none aB.nil (aB.node none (aB.node none aB.nil (aB.node none (aB.node (some (1, [(0, Kd.v), (5, Kd.v), (8, Kd.v), (9, Kd.i .i64), (10, Kd.i .i64)])) (aB.node none aB.nil (aB.node none (aB.node none aB.nil aB.nil) (aB.node none (aB.node none (aB.node none aB.nil (aB.node none aB.nil (aB.node none aB.nil aB.nil))) aB.nil) aB.nil))) aB.nil) aB.nil)) (aB.node (some (2, [(5, Kd.v)])) aB.nil aB.nil))))
noncomputable def aPJ (S : Sg) (r5 : Value) (h : Hp) : aW :=
 some (r5, h)
noncomputable def XQ (S : Sg) (r0 : Value) (r5 : Value) (r8 : Value) (r9 : Int) (dR : Int) (h : Hp) : aW :=
 bX (nG dR r9) fun b0 =>
 dF b0
 (dS 1 r8 dR fun v1 =>
 aK h v1 fun v2 =>
 aX .i64 v2 fun i3 =>
 bU (lW i3 (Int.negSucc 0)) fun b4 =>
 dF b4
 (dS 1 r0 dR fun v5 =>
 aK h v5 fun v6 =>
 aX .i64 v6 fun i7 =>
 bU (lW i3 i7) fun b8 =>
 dF b8
 (aS (bO env h 22 1 (List.toArray [(0, (Value.int .i64 dR))])) fun v9 h9 =>
 aS (eX env h9 #[22, 22] (List.toArray [r5, v9])) fun v10 h10 =>
 wrap64 (Int.add dR (Int.ofNat 1)) fun i11 =>
 S 1 (AL.v r0 (AL.v v10 (AL.v r8 (AL.i r9 (AL.i i11 AL.n))))) h10)
 (wrap64 (Int.add dR (Int.ofNat 1)) fun i12 =>
 S 1 (AL.v r0 (AL.v r5 (AL.v r8 (AL.i r9 (AL.i i12 AL.n))))) h))
 (wrap64 (Int.add dR (Int.ofNat 1)) fun i13 =>
 S 1 (AL.v r0 (AL.v r5 (AL.v r8 (AL.i r9 (AL.i i13 AL.n))))) h))
 (S 2 (AL.v r5 AL.n) h)
noncomputable def aDM (S : Sg) (r0 : Value) (r1 : Value) (h : Hp) : aW :=
 dK r1 fun i0 =>
 S 1 (AL.v r0 (AL.v (Value.slice none 0 0) (AL.v r1 (AL.i i0 (AL.i (Int.ofNat 0) AL.n))))) h
noncomputable def T93 (S : Sg) : Sg := dJ 0 (uV fun r0 => uV fun r1 => uN fun h => aDM S r0 r1 h) (dJ 1 (uV fun r0 => uV fun r5 => uV fun r8 => uI fun r9 => uI fun dR => uN fun h => XQ S r0 r5 r8 r9 dR h) (dJ 2 (uV fun r5 => uN fun h => aPJ S r5 h) (kP)))
noncomputable def F93 (args : List Value) (h : Hp) : aW := bP [Kd.v, Kd.v] args fun al => aP T93 1000000 0 al h
def aNT : Nat := 2 + (31 - 2)
theorem aZ9 (S : Sg) (r5 : Value) (h : Hp) : aPJ S r5 h = aF (bK env QT (aNT)) (bM env Try.f93.results.toList) (collect B93 A93 []) 2 S (AL.v r5 AL.n) h := by kernel_rfl
theorem a0A (S : Sg) (r0 : Value) (r5 : Value) (r8 : Value) (r9 : Int) (dR : Int) (h : Hp) : XQ S r0 r5 r8 r9 dR h = aF (bK env QT (aNT)) (bM env Try.f93.results.toList) (collect B93 A93 []) 1 S (AL.v r0 (AL.v r5 (AL.v r8 (AL.i r9 (AL.i dR AL.n))))) h := by kernel_rfl
theorem a0B (S : Sg) (r0 : Value) (r1 : Value) (h : Hp) : aDM S r0 r1 h = aF (bK env QT (aNT)) (bM env Try.f93.results.toList) (collect B93 A93 []) 0 S (AL.v r0 (AL.v r1 AL.n)) h := by kernel_rfl
theorem t93 (S : Sg) : dW (fun l vs h => aF (bK env QT aNT) (bM env Try.f93.results.toList) (collect B93 A93 []) l S vs h) (T93 S) := by
 unfold T93
 refine dW.cons 0 (fun fJ h q e0 => ?_) ?_
 ·obtain ⟨r0, vs1, rfl, e1⟩ := aC e0
  obtain ⟨r1, vs2, rfl, e2⟩ := aC e1
  obtain ⟨rfl, ee⟩ := aN e2
  exact (a0B S r0 r1 h).symm.trans ee
 refine dW.cons 1 (fun fJ h q e0 => ?_) ?_
 ·obtain ⟨r0, vs1, rfl, e1⟩ := aC e0
  obtain ⟨r5, vs2, rfl, e2⟩ := aC e1
  obtain ⟨r8, vs3, rfl, e3⟩ := aC e2
  obtain ⟨r9, pF, rfl, e4⟩ := aM e3
  obtain ⟨dR, zS, rfl, e5⟩ := aM e4
  obtain ⟨rfl, ee⟩ := aN e5
  exact (a0A S r0 r5 r8 r9 dR h).symm.trans ee
 refine dW.cons 2 (fun fJ h q e0 => ?_) ?_
 ·obtain ⟨r5, vs1, rfl, e1⟩ := aC e0
  obtain ⟨rfl, ee⟩ := aN e1
  exact (aZ9 S r5 h).symm.trans ee
 exact dW.nil
theorem r93 : ∀ args h v h', F93 args h = some (v, h') → gW (C16) (.call 93 args.toArray h) (.ret v h') := by
 intro args h v h' e
 exact bJ (C := C16) (fn := Try.f93) (body := B93) (np := 2) (A := A93) (T := T93) (kinds := [Kd.v, Kd.v]) (by kernel_rfl) (by kernel_rfl) (by kernel_rfl) (by kernel_rfl) (dH eF) (by kernel_rfl) (fun S => t93 S) e
noncomputable def JW := kH 93 F93 QT
noncomputable def C17 : dM := cfg JW
theorem bDX : C17.Ok := dI (C := C16) ok16 r93
noncomputable def B63 : Code := (Try.f63.body).getD .skip
def A63 : aB := (aB.node (some (0, [(0, Kd.v)])) aB.nil (aB.node none (aB.node none aB.nil (aB.node none aB.nil (aB.node none (aB.node none aB.nil aB.nil) aB.nil))) (aB.node none aB.nil (aB.node none (aB.node none aB.nil (aB.node none (aB.node (some (1, [(1, Kd.v), (2, Kd.v), (7, Kd.v), (24, Kd.v), (25, Kd.i .i64), (26, Kd.i .i64)])) (aB.node none aB.nil (aB.node none (aB.node none aB.nil aB.nil) (aB.node none (aB.node none (aB.node none aB.nil (aB.node none aB.nil (aB.node none (aB.node (some (2, [(1, Kd.v), (2, Kd.v), (7, Kd.v), (8, Kd.i .i64), (9, Kd.v), (24, Kd.v), (25, Kd.i .i64), (26, Kd.i .i64), (32, Kd.v), (33, Kd.i .i64), (34, Kd.i .i64)])) (aB.node none aB.nil (aB.node none (aB.node none aB.nil aB.nil) (aB.node none (aB.node none (aB.node none aB.nil aB.nil) aB.nil) aB.nil))) aB.nil) aB.nil))) aB.nil) (aB.node (some (3, [(1, Kd.v), (2, Kd.v), (7, Kd.v), (24, Kd.v), (25, Kd.i .i64), (26, Kd.i .i64)])) aB.nil aB.nil)))) aB.nil) aB.nil)) (aB.node (some (4, [(1, Kd.v), (2, Kd.v), (7, Kd.v)])) aB.nil aB.nil)))))
noncomputable def aDO (S : Sg) (r1 : Value) (r2 : Value) (r7 : Value) (h : Hp) : aW :=
 aY 4 h r1 fun v0 =>
 cO (j4 env 71 (List.toArray [(0, v0), (1, r7)])) fun v1 =>
 fG 5 h r2 v1 fun h2 =>
 aY 5 h2 r2 fun v3 => some (Value.tuple (List.toArray [v3, (Value.int .i64 (Int.ofNat 0))]), h2)
noncomputable def aDN (S : Sg) (r1 : Value) (r2 : Value) (r7 : Value) (DZ : Value) (D5 : Int) (D6 : Int) (h : Hp) : aW :=
 wrap64 (Int.add D6 (Int.ofNat 1)) fun i0 =>
 S 1 (AL.v r1 (AL.v r2 (AL.v r7 (AL.v DZ (AL.i D5 (AL.i i0 AL.n)))))) h
noncomputable def XT (S : Sg) (r1 : Value) (r2 : Value) (r7 : Value) (r8 : Int) (r9 : Value) (DZ : Value) (D5 : Int) (D6 : Int) (r32 : Value) (r33 : Int) (r34 : Int) (h : Hp) : aW :=
 bX (nG r34 r33) fun b0 =>
 dF b0
 (dS 3 r32 r34 fun v1 =>
 aY 3 h v1 fun v2 =>
 bS h 59 [(Value.string (ByteArray.mk #[])), (Value.slice none 0 0), (Value.int .i64 (Int.ofNat 0))] fun a3 h3 =>
 fG 3 h3 a3 v2 fun h4 =>
 cO (j4 env 76 (List.toArray [(0, (Value.int .i64 r8)), (1, (Value.int .i64 r34))])) fun v5 =>
 aT 1 r9 fun v6 =>
 aK h4 v6 fun v7 =>
 aT 1 a3 fun v8 =>
 aK h4 v8 fun v9 =>
 aS (dV F93 [v7, v9] h4) fun v10 h10 =>
 cO (mH env h10 69 r7 v5 v10) fun h11 =>
 wrap64 (Int.add r34 (Int.ofNat 1)) fun i12 =>
 S 2 (AL.v r1 (AL.v r2 (AL.v r7 (AL.i r8 (AL.v r9 (AL.v DZ (AL.i D5 (AL.i D6 (AL.v r32 (AL.i r33 (AL.i i12 AL.n))))))))))) h11)
 (S 3 (AL.v r1 (AL.v r2 (AL.v r7 (AL.v DZ (AL.i D5 (AL.i D6 AL.n)))))) h)
noncomputable def XR (S : Sg) (r1 : Value) (r2 : Value) (r7 : Value) (DZ : Value) (D5 : Int) (D6 : Int) (h : Hp) : aW :=
 bX (nG D6 D5) fun b0 =>
 dF b0
 (dS 3 DZ D6 fun v1 =>
 aY 3 h v1 fun v2 =>
 bS h 59 [(Value.string (ByteArray.mk #[])), (Value.slice none 0 0), (Value.int .i64 (Int.ofNat 0))] fun a3 h3 =>
 fG 3 h3 a3 v2 fun h4 =>
 aT 3 r1 fun v5 =>
 aK h4 v5 fun v6 =>
 dK v6 fun i7 =>
 S 2 (AL.v r1 (AL.v r2 (AL.v r7 (AL.i D6 (AL.v a3 (AL.v DZ (AL.i D5 (AL.i D6 (AL.v v6 (AL.i i7 (AL.i (Int.ofNat 0) AL.n))))))))))) h4)
 (S 4 (AL.v r1 (AL.v r2 (AL.v r7 AL.n))) h)
noncomputable def aDP (S : Sg) (r0 : Value) (h : Hp) : aW :=
 bS h 25 (Array.toList (Value.cells r0)) fun a0 h0 =>
 bS h0 71 [(Value.slice none 0 0), (Value.slice none 0 0), (Value.slice none 0 0), (Value.slice none 0 0), (Value.map none)] fun a1 h1 =>
 aY 4 h1 a0 fun v2 =>
 aS (dV F16 [v2] h1) fun v3 h3 =>
 fK v3 0 fun v4 =>
 aX .i64 v4 fun i5 =>
 fK v3 1 fun v6 =>
 aX .i64 v6 fun i7 =>
 fK v3 2 fun v8 =>
 aX .i64 v8 fun i9 =>
 bU (lW i9 (Int.ofNat 0)) fun b10 =>
 dF b10
 (cO (j4 env 71 (List.toArray [])) fun v11 =>
 fG 5 h3 a1 v11 fun h12 =>
 aY 5 h12 a1 fun v13 => some (Value.tuple (List.toArray [v13, (Value.int .i64 i9)]), h12))
 (let a14 := Value.map (some (Hp.next h3)); let IA := Hp.add h3 (.map []);
 aT 2 a0 fun v15 =>
 aK IA v15 fun v16 =>
 dK v16 fun i17 =>
 S 1 (AL.v a0 (AL.v a1 (AL.v a14 (AL.v v16 (AL.i i17 (AL.i (Int.ofNat 0) AL.n)))))) IA)
noncomputable def X6 (S : Sg) : Sg := dJ 0 (uV fun r0 => uN fun h => aDP S r0 h) (dJ 1 (uV fun r1 => uV fun r2 => uV fun r7 => uV fun DZ => uI fun D5 => uI fun D6 => uN fun h => XR S r1 r2 r7 DZ D5 D6 h) (dJ 2 (uV fun r1 => uV fun r2 => uV fun r7 => uI fun r8 => uV fun r9 => uV fun DZ => uI fun D5 => uI fun D6 => uV fun r32 => uI fun r33 => uI fun r34 => uN fun h => XT S r1 r2 r7 r8 r9 DZ D5 D6 r32 r33 r34 h) (dJ 3 (uV fun r1 => uV fun r2 => uV fun r7 => uV fun DZ => uI fun D5 => uI fun D6 => uN fun h => aDN S r1 r2 r7 DZ D5 D6 h) (dJ 4 (uV fun r1 => uV fun r2 => uV fun r7 => uN fun h => aDO S r1 r2 r7 h) (kP)))))
noncomputable def F63 (args : List Value) (h : Hp) : aW := bP [Kd.v] args fun al => aP X6 1000000 0 al h
def aGE : Nat := 1 + (53 - 1)
theorem a0C (S : Sg) (r1 : Value) (r2 : Value) (r7 : Value) (h : Hp) : aDO S r1 r2 r7 h = aF (bK env JW (aGE)) (bM env Try.f63.results.toList) (collect B63 A63 []) 4 S (AL.v r1 (AL.v r2 (AL.v r7 AL.n))) h := by kernel_rfl
theorem a0D (S : Sg) (r1 : Value) (r2 : Value) (r7 : Value) (DZ : Value) (D5 : Int) (D6 : Int) (h : Hp) : aDN S r1 r2 r7 DZ D5 D6 h = aF (bK env JW (aGE)) (bM env Try.f63.results.toList) (collect B63 A63 []) 3 S (AL.v r1 (AL.v r2 (AL.v r7 (AL.v DZ (AL.i D5 (AL.i D6 AL.n)))))) h := by kernel_rfl
theorem a0E (S : Sg) (r1 : Value) (r2 : Value) (r7 : Value) (r8 : Int) (r9 : Value) (DZ : Value) (D5 : Int) (D6 : Int) (r32 : Value) (r33 : Int) (r34 : Int) (h : Hp) : XT S r1 r2 r7 r8 r9 DZ D5 D6 r32 r33 r34 h = aF (bK env JW (aGE)) (bM env Try.f63.results.toList) (collect B63 A63 []) 2 S (AL.v r1 (AL.v r2 (AL.v r7 (AL.i r8 (AL.v r9 (AL.v DZ (AL.i D5 (AL.i D6 (AL.v r32 (AL.i r33 (AL.i r34 AL.n))))))))))) h := by kernel_rfl
theorem a0F (S : Sg) (r1 : Value) (r2 : Value) (r7 : Value) (DZ : Value) (D5 : Int) (D6 : Int) (h : Hp) : XR S r1 r2 r7 DZ D5 D6 h = aF (bK env JW (aGE)) (bM env Try.f63.results.toList) (collect B63 A63 []) 1 S (AL.v r1 (AL.v r2 (AL.v r7 (AL.v DZ (AL.i D5 (AL.i D6 AL.n)))))) h := by kernel_rfl
theorem a0G (S : Sg) (r0 : Value) (h : Hp) : aDP S r0 h = aF (bK env JW (aGE)) (bM env Try.f63.results.toList) (collect B63 A63 []) 0 S (AL.v r0 AL.n) h := by kernel_rfl
theorem t63 (S : Sg) : dW (fun l vs h => aF (bK env JW aGE) (bM env Try.f63.results.toList) (collect B63 A63 []) l S vs h) (X6 S) := by
 unfold X6
 refine dW.cons 0 (fun fJ h q e0 => ?_) ?_
 ·obtain ⟨r0, vs1, rfl, e1⟩ := aC e0
  obtain ⟨rfl, ee⟩ := aN e1
  exact (a0G S r0 h).symm.trans ee
 refine dW.cons 1 (fun fJ h q e0 => ?_) ?_
 ·obtain ⟨r1, vs1, rfl, e1⟩ := aC e0
  obtain ⟨r2, vs2, rfl, e2⟩ := aC e1
  obtain ⟨r7, vs3, rfl, e3⟩ := aC e2
  obtain ⟨DZ, pF, rfl, e4⟩ := aC e3
  obtain ⟨D5, zS, rfl, e5⟩ := aM e4
  obtain ⟨D6, UG, rfl, e6⟩ := aM e5
  obtain ⟨rfl, ee⟩ := aN e6
  exact (a0F S r1 r2 r7 DZ D5 D6 h).symm.trans ee
 refine dW.cons 2 (fun fJ h q e0 => ?_) ?_
 ·obtain ⟨r1, vs1, rfl, e1⟩ := aC e0
  obtain ⟨r2, vs2, rfl, e2⟩ := aC e1
  obtain ⟨r7, vs3, rfl, e3⟩ := aC e2
  obtain ⟨r8, pF, rfl, e4⟩ := aM e3
  obtain ⟨r9, zS, rfl, e5⟩ := aC e4
  obtain ⟨DZ, UG, rfl, e6⟩ := aC e5
  obtain ⟨D5, vs7, rfl, e7⟩ := aM e6
  obtain ⟨D6, vs8, rfl, e8⟩ := aM e7
  obtain ⟨r32, vs9, rfl, e9⟩ := aC e8
  obtain ⟨r33, a0I, rfl, e10⟩ := aM e9
  obtain ⟨r34, bLJ, rfl, e11⟩ := aM e10
  obtain ⟨rfl, ee⟩ := aN e11
  exact (a0E S r1 r2 r7 r8 r9 DZ D5 D6 r32 r33 r34 h).symm.trans ee
 refine dW.cons 3 (fun fJ h q e0 => ?_) ?_
 ·obtain ⟨r1, vs1, rfl, e1⟩ := aC e0
  obtain ⟨r2, vs2, rfl, e2⟩ := aC e1
  obtain ⟨r7, vs3, rfl, e3⟩ := aC e2
  obtain ⟨DZ, pF, rfl, e4⟩ := aC e3
  obtain ⟨D5, zS, rfl, e5⟩ := aM e4
  obtain ⟨D6, UG, rfl, e6⟩ := aM e5
  obtain ⟨rfl, ee⟩ := aN e6
  exact (a0D S r1 r2 r7 DZ D5 D6 h).symm.trans ee
 refine dW.cons 4 (fun fJ h q e0 => ?_) ?_
 ·obtain ⟨r1, vs1, rfl, e1⟩ := aC e0
  obtain ⟨r2, vs2, rfl, e2⟩ := aC e1
  obtain ⟨r7, vs3, rfl, e3⟩ := aC e2
  obtain ⟨rfl, ee⟩ := aN e3
  exact (a0C S r1 r2 r7 h).symm.trans ee
 exact dW.nil
theorem r63 : ∀ args h v h', F63 args h = some (v, h') → gW (C17) (.call 63 args.toArray h) (.ret v h') := by
 intro args h v h' e
 exact bJ (C := C17) (fn := Try.f63) (body := B63) (np := 1) (A := A63) (T := X6) (kinds := [Kd.v]) (by kernel_rfl) (by kernel_rfl) (by kernel_rfl) (by kernel_rfl) (dH eF) (by kernel_rfl) (fun S => t63 S) e
noncomputable def aPK := kH 63 F63 JW
noncomputable def C18 : dM := cfg aPK
theorem bDZ : C18.Ok := dI (C := C17) bDX r63
noncomputable def B53 : Code := (Try.f53.body).getD .skip
noncomputable def A53 : G.aB (List KI) := (G.aB.node (some (0, [KI.reg 0 (Kd.i .i64), KI.reg 1 (Kd.v)])) G.aB.nil (G.aB.node none G.aB.nil G.aB.nil))
noncomputable def aCK (h : Hp) (S : Nat → aD → Option Value) (r0 : Int) (r1 : Value) : Option Value :=
 wrap64 (Int.sub r0 (Int.ofNat 1)) fun i0 =>
 cO (F82 [(Value.int .i64 (Int.ofNat 0)), (Value.int .i64 i0), r1] h) fun v1 =>
 eO v1 fun b2 =>
 some (Value.bool b2)
noncomputable def T53 (h : Hp) (S : Nat → aD → Option Value) : Nat → aD → Option Value := eP 0 (wI fun r0 => wV fun r1 => wN (aCK h S r0 r1)) (lY)
noncomputable def F53 (args : List Value) (h : Hp) : Option Value := plainO (eT [Kd.i .i64, Kd.v] args fun al => G.aP (T53 h) 1000000 0 al)
def a0J : Nat := 2 + (9 - 2)
theorem a0K (h : Hp) (S : Nat → aD → Option Value) (r0 : Int) (r1 : Value) : aCK h S r0 r1 = G.aF bR aQ fC (fF env pf4 a0J h) (fH env Try.f53.results.toList) (G.collect B53 A53 []) 0 S (aD.i r0 (aD.v r1 aD.n)) := by kernel_rfl
theorem t53 (h : Hp) (S : Nat → aD → Option Value) : dG (fun l al => G.aF bR aQ fC (fF env pf4 a0J h) (fH env Try.f53.results.toList) (G.collect B53 A53 []) l S al) (T53 h S) := by
 unfold T53
 refine dG.cons 0 (fun fJ q e0 => ?_) ?_
 ·obtain ⟨r0, vs1, rfl, e1⟩ := aV e0
  obtain ⟨r1, vs2, rfl, e2⟩ := bA e1
  obtain ⟨rfl, ee⟩ := bQ e2
  exact (a0K h S r0 r1).symm.trans ee
 exact dG.nil
theorem r53 : PSound Try.prog 53 F53 := dY (C := C0) ok0 (pf := pf4) aPI (fn := Try.f53) (body := B53) (kinds := [Kd.i .i64, Kd.v]) (A := A53) (T := T53) (by kernel_rfl) (by kernel_rfl) (by kernel_rfl) (by kernel_rfl) (fun h S => t53 h S)
noncomputable def pf5 : PF := JF 53 F53 pf4
theorem aPL : fT Try.prog pf5 := jJ r53 aPI
noncomputable def aD0 := o8 53 F53 aPK
noncomputable def C19 : dM := cfg aD0
theorem bD2 : C19.Ok := gP (C := C18) bDZ r53
noncomputable def B52 : Code := (Try.f52.body).getD .skip
def A52 : aB := (aB.node (some (0, [(0, Kd.v), (1, Kd.i .i64)])) aB.nil (aB.node none aB.nil (aB.node none (aB.node none aB.nil (aB.node none (aB.node none aB.nil aB.nil) aB.nil)) (aB.node none (aB.node none aB.nil (aB.node none (aB.node none aB.nil aB.nil) aB.nil)) (aB.node none aB.nil aB.nil)))))
noncomputable def aPM (S : Sg) (r0 : Value) (r1 : Int) (h : Hp) : aW :=
 bS h 25 (Array.toList (Value.cells r0)) fun a0 h0 =>
 bS h0 71 [(Value.slice none 0 0), (Value.slice none 0 0), (Value.slice none 0 0), (Value.slice none 0 0), (Value.map none)] fun a1 h1 =>
 aY 4 h1 a0 fun v2 =>
 aS (dV F63 [v2] h1) fun v3 h3 =>
 fK v3 0 fun v4 =>
 fK v3 1 fun v5 =>
 aX .i64 v5 fun i6 =>
 bS h3 71 [(Value.slice none 0 0), (Value.slice none 0 0), (Value.slice none 0 0), (Value.slice none 0 0), (Value.map none)] fun a7 h7 =>
 fG 5 h7 a7 v4 fun h8 =>
 bU (lW i6 (Int.ofNat 0)) fun b9 =>
 dF b9
 (cO (j4 env 71 (List.toArray [])) fun v10 =>
 fG 5 h8 a1 v10 fun h11 =>
 aY 5 h11 a1 fun v12 => some (Value.tuple (List.toArray [v12, (Value.int .i64 i6)]), h11))
 (aT 0 a7 fun v13 =>
 aT 3 v13 fun v14 =>
 aK h8 v14 fun v15 =>
 dK v15 fun i16 =>
 aS (bO env h8 22 1 (List.toArray [(0, (Value.int .i64 r1))])) fun v17 h17 =>
 aS (cO (F53 [(Value.int .i64 i16), v17] h17) fun v => some (v, h17)) fun v18 h18 =>
 eO v18 fun b19 =>
 bU b19 fun b20 =>
 dF b20
 (cO (j4 env 71 (List.toArray [])) fun v21 =>
 fG 5 h18 a1 v21 fun h22 =>
 aY 5 h22 a1 fun v23 => some (Value.tuple (List.toArray [v23, (Value.int .i64 (Int.ofNat 4))]), h22))
 (aY 5 h18 a7 fun v24 =>
 fG 5 h18 a1 v24 fun h25 =>
 aY 5 h25 a1 fun v26 => some (Value.tuple (List.toArray [v26, (Value.int .i64 (Int.ofNat 0))]), h25)))
noncomputable def T52 (S : Sg) : Sg := dJ 0 (uV fun r0 => uI fun r1 => uN fun h => aPM S r0 r1 h) (kP)
noncomputable def F52 (args : List Value) (h : Hp) : aW := bP [Kd.v, Kd.i .i64] args fun al => aP T52 1000000 0 al h
def a0M : Nat := 2 + (27 - 2)
theorem a0N (S : Sg) (r0 : Value) (r1 : Int) (h : Hp) : aPM S r0 r1 h = aF (bK env aD0 (a0M)) (bM env Try.f52.results.toList) (collect B52 A52 []) 0 S (AL.v r0 (AL.i r1 AL.n)) h := by kernel_rfl
theorem t52 (S : Sg) : dW (fun l vs h => aF (bK env aD0 a0M) (bM env Try.f52.results.toList) (collect B52 A52 []) l S vs h) (T52 S) := by
 unfold T52
 refine dW.cons 0 (fun fJ h q e0 => ?_) ?_
 ·obtain ⟨r0, vs1, rfl, e1⟩ := aC e0
  obtain ⟨r1, vs2, rfl, e2⟩ := aM e1
  obtain ⟨rfl, ee⟩ := aN e2
  exact (a0N S r0 r1 h).symm.trans ee
 exact dW.nil
theorem r52 : ∀ args h v h', F52 args h = some (v, h') → gW (C19) (.call 52 args.toArray h) (.ret v h') := by
 intro args h v h' e
 exact bJ (C := C19) (fn := Try.f52) (body := B52) (np := 2) (A := A52) (T := T52) (kinds := [Kd.v, Kd.i .i64]) (by kernel_rfl) (by kernel_rfl) (by kernel_rfl) (by kernel_rfl) (dH eF) (by kernel_rfl) (fun S => t52 S) e
noncomputable def aPN := kH 52 F52 aD0
noncomputable def C20 : dM := cfg aPN
theorem bD6 : C20.Ok := dI (C := C19) bD2 r52
noncomputable def B54 : Code := (Try.f54.body).getD .skip
noncomputable def A54 : G.aB (List KI) := (G.aB.node (some (0, [KI.reg 0 (Kd.v), KI.reg 1 (Kd.v)])) G.aB.nil (G.aB.node none G.aB.nil (G.aB.node none (G.aB.node none G.aB.nil (G.aB.node none (G.aB.node (some (1, [KI.loc 2 2, KI.reg 5 (Kd.i .i64), KI.reg 10 (Kd.v), KI.reg 11 (Kd.i .i64), KI.reg 12 (Kd.i .i64), KI.list 2])) (G.aB.node none G.aB.nil (G.aB.node none (G.aB.node none G.aB.nil G.aB.nil) (G.aB.node none (G.aB.node none (G.aB.node none G.aB.nil (G.aB.node none G.aB.nil (G.aB.node none (G.aB.node (some (2, [KI.loc 2 2, KI.reg 5 (Kd.i .i64), KI.reg 10 (Kd.v), KI.reg 11 (Kd.i .i64), KI.reg 12 (Kd.i .i64), KI.reg 19 (Kd.v), KI.reg 20 (Kd.i .i64), KI.reg 21 (Kd.i .i64), KI.list 2])) (G.aB.node none G.aB.nil (G.aB.node none (G.aB.node none G.aB.nil G.aB.nil) (G.aB.node none (G.aB.node none (G.aB.node none G.aB.nil G.aB.nil) G.aB.nil) G.aB.nil))) G.aB.nil) G.aB.nil))) G.aB.nil) (G.aB.node (some (3, [KI.loc 2 2, KI.reg 5 (Kd.i .i64), KI.reg 10 (Kd.v), KI.reg 11 (Kd.i .i64), KI.reg 12 (Kd.i .i64), KI.list 2])) G.aB.nil G.aB.nil)))) G.aB.nil) G.aB.nil)) (G.aB.node (some (4, [KI.reg 5 (Kd.i .i64)])) G.aB.nil G.aB.nil))))
noncomputable def aPO (h : Hp) (S : Nat → aD → Option Value) (r5 : Int) : Option Value :=
 some (Value.int .i64 r5)
noncomputable def aPP (h : Hp) (S : Nat → aD → Option Value) (r5 : Int) (dR : Value) (gQ : Int) (kT : Int) (c2 : List Value) : Option Value :=
 wrap64 (Int.add kT (Int.ofNat 1)) fun i0 =>
 S 1 (aD.i r5 (aD.v dR (aD.i gQ (aD.i i0 (aD.l c2 aD.n)))))
noncomputable def aPQ (h : Hp) (S : Nat → aD → Option Value) (r5 : Int) (dR : Value) (gQ : Int) (kT : Int) (r19 : Value) (r20 : Int) (r21 : Int) (c2 : List Value) : Option Value :=
 bX (nG r21 r20) fun b0 =>
 dF b0
 (dS 1 r19 r21 fun v1 =>
 aK h v1 fun v2 =>
 aX .i64 v2 fun i3 =>
 BG c2 0 fun v4 =>
 dS 1 v4 i3 fun v5 =>
 aK h v5 fun v6 =>
 aX .i64 v6 fun i7 =>
 wrap64 (Int.add r5 i7) fun i8 =>
 wrap64 (Int.add r21 (Int.ofNat 1)) fun i9 =>
 S 2 (aD.i i8 (aD.v dR (aD.i gQ (aD.i kT (aD.v r19 (aD.i r20 (aD.i i9 (aD.l c2 aD.n)))))))))
 (S 3 (aD.i r5 (aD.v dR (aD.i gQ (aD.i kT (aD.l c2 aD.n))))))
noncomputable def aPR (h : Hp) (S : Nat → aD → Option Value) (r5 : Int) (dR : Value) (gQ : Int) (kT : Int) (c2 : List Value) : Option Value :=
 bX (nG kT gQ) fun b0 =>
 dF b0
 (dS 2 dR kT fun v1 =>
 aY 2 h v1 fun v2 =>
 aSU v2 fun l3 => dF (Nat.beq (SQ l3) 2) (VE 0 l3 [(Value.int .i64 (Int.ofNat 0)), (Value.int .i64 (Int.ofNat 0))] fun c3 =>
 BG c2 4 fun v4 =>
 xJ c3 0 fun d5 => vJ d5 2 fun l5 =>
 cO (kE env h 69 v4 (Value.agg (Array.mk l5)) false) fun v6 =>
 dK v6 fun i7 =>
 S 2 (aD.i r5 (aD.v dR (aD.i gQ (aD.i kT (aD.v v6 (aD.i i7 (aD.i (Int.ofNat 0) (aD.l c2 aD.n))))))))) none)
 (S 4 (aD.i r5 aD.n))
noncomputable def aPS (h : Hp) (S : Nat → aD → Option Value) (r0 : Value) (r1 : Value) : Option Value :=
 oP (Array.toList (Value.cells r0)) fun c0 =>
 dK r1 fun i1 =>
 S 1 (aD.i (Int.ofNat 0) (aD.v r1 (aD.i i1 (aD.i (Int.ofNat 0) (aD.l c0 aD.n)))))
noncomputable def T54 (h : Hp) (S : Nat → aD → Option Value) : Nat → aD → Option Value := eP 0 (wV fun r0 => wV fun r1 => wN (aPS h S r0 r1)) (eP 1 (wI fun r5 => wV fun dR => wI fun gQ => wI fun kT => wL fun c2 => wN (aPR h S r5 dR gQ kT c2)) (eP 2 (wI fun r5 => wV fun dR => wI fun gQ => wI fun kT => wV fun r19 => wI fun r20 => wI fun r21 => wL fun c2 => wN (aPQ h S r5 dR gQ kT r19 r20 r21 c2)) (eP 3 (wI fun r5 => wV fun dR => wI fun gQ => wI fun kT => wL fun c2 => wN (aPP h S r5 dR gQ kT c2)) (eP 4 (wI fun r5 => wN (aPO h S r5)) (lY)))))
noncomputable def F54 (args : List Value) (h : Hp) : Option Value := plainO (eT [Kd.v, Kd.v] args fun al => G.aP (T54 h) 1000000 0 al)
def aGF : Nat := 2 + (36 - 2)
theorem a0P (h : Hp) (S : Nat → aD → Option Value) (r5 : Int) : aPO h S r5 = G.aF bR aQ fC (fF env pf5 aGF h) (fH env Try.f54.results.toList) (G.collect B54 A54 []) 4 S (aD.i r5 aD.n) := by kernel_rfl
theorem a0Q (h : Hp) (S : Nat → aD → Option Value) (r5 : Int) (dR : Value) (gQ : Int) (kT : Int) (c2 : List Value) : aPP h S r5 dR gQ kT c2 = G.aF bR aQ fC (fF env pf5 aGF h) (fH env Try.f54.results.toList) (G.collect B54 A54 []) 3 S (aD.i r5 (aD.v dR (aD.i gQ (aD.i kT (aD.l c2 aD.n))))) := by kernel_rfl
theorem a0R (h : Hp) (S : Nat → aD → Option Value) (r5 : Int) (dR : Value) (gQ : Int) (kT : Int) (r19 : Value) (r20 : Int) (r21 : Int) (c2 : List Value) : aPQ h S r5 dR gQ kT r19 r20 r21 c2 = G.aF bR aQ fC (fF env pf5 aGF h) (fH env Try.f54.results.toList) (G.collect B54 A54 []) 2 S (aD.i r5 (aD.v dR (aD.i gQ (aD.i kT (aD.v r19 (aD.i r20 (aD.i r21 (aD.l c2 aD.n)))))))) := by kernel_rfl
theorem a0S (h : Hp) (S : Nat → aD → Option Value) (r5 : Int) (dR : Value) (gQ : Int) (kT : Int) (c2 : List Value) : aPR h S r5 dR gQ kT c2 = G.aF bR aQ fC (fF env pf5 aGF h) (fH env Try.f54.results.toList) (G.collect B54 A54 []) 1 S (aD.i r5 (aD.v dR (aD.i gQ (aD.i kT (aD.l c2 aD.n))))) := by kernel_rfl
theorem a0T (h : Hp) (S : Nat → aD → Option Value) (r0 : Value) (r1 : Value) : aPS h S r0 r1 = G.aF bR aQ fC (fF env pf5 aGF h) (fH env Try.f54.results.toList) (G.collect B54 A54 []) 0 S (aD.v r0 (aD.v r1 aD.n)) := by kernel_rfl
theorem t54 (h : Hp) (S : Nat → aD → Option Value) : dG (fun l al => G.aF bR aQ fC (fF env pf5 aGF h) (fH env Try.f54.results.toList) (G.collect B54 A54 []) l S al) (T54 h S) := by
 unfold T54
 refine dG.cons 0 (fun fJ q e0 => ?_) ?_
 ·obtain ⟨r0, vs1, rfl, e1⟩ := bA e0
  obtain ⟨r1, vs2, rfl, e2⟩ := bA e1
  obtain ⟨rfl, ee⟩ := bQ e2
  exact (a0T h S r0 r1).symm.trans ee
 refine dG.cons 1 (fun fJ q e0 => ?_) ?_
 ·obtain ⟨r5, vs1, rfl, e1⟩ := aV e0
  obtain ⟨dR, vs2, rfl, e2⟩ := bA e1
  obtain ⟨gQ, vs3, rfl, e3⟩ := aV e2
  obtain ⟨kT, pF, rfl, e4⟩ := aV e3
  obtain ⟨c2, zS, rfl, e5⟩ := TL e4
  obtain ⟨rfl, ee⟩ := bQ e5
  exact (a0S h S r5 dR gQ kT c2).symm.trans ee
 refine dG.cons 2 (fun fJ q e0 => ?_) ?_
 ·obtain ⟨r5, vs1, rfl, e1⟩ := aV e0
  obtain ⟨dR, vs2, rfl, e2⟩ := bA e1
  obtain ⟨gQ, vs3, rfl, e3⟩ := aV e2
  obtain ⟨kT, pF, rfl, e4⟩ := aV e3
  obtain ⟨r19, zS, rfl, e5⟩ := bA e4
  obtain ⟨r20, UG, rfl, e6⟩ := aV e5
  obtain ⟨r21, vs7, rfl, e7⟩ := aV e6
  obtain ⟨c2, vs8, rfl, e8⟩ := TL e7
  obtain ⟨rfl, ee⟩ := bQ e8
  exact (a0R h S r5 dR gQ kT r19 r20 r21 c2).symm.trans ee
 refine dG.cons 3 (fun fJ q e0 => ?_) ?_
 ·obtain ⟨r5, vs1, rfl, e1⟩ := aV e0
  obtain ⟨dR, vs2, rfl, e2⟩ := bA e1
  obtain ⟨gQ, vs3, rfl, e3⟩ := aV e2
  obtain ⟨kT, pF, rfl, e4⟩ := aV e3
  obtain ⟨c2, zS, rfl, e5⟩ := TL e4
  obtain ⟨rfl, ee⟩ := bQ e5
  exact (a0Q h S r5 dR gQ kT c2).symm.trans ee
 refine dG.cons 4 (fun fJ q e0 => ?_) ?_
 ·obtain ⟨r5, vs1, rfl, e1⟩ := aV e0
  obtain ⟨rfl, ee⟩ := bQ e1
  exact (a0P h S r5).symm.trans ee
 exact dG.nil
theorem r54 : PSound Try.prog 54 F54 := dY (C := C0) ok0 (pf := pf5) aPL (fn := Try.f54) (body := B54) (kinds := [Kd.v, Kd.v]) (A := A54) (T := T54) (by kernel_rfl) (by kernel_rfl) (by kernel_rfl) (by kernel_rfl) (fun h S => t54 h S)
noncomputable def pf6 : PF := JF 54 F54 pf5
theorem aPT : fT Try.prog pf6 := jJ r54 aPL
noncomputable def aD1 := o8 54 F54 aPN
noncomputable def C21 : dM := cfg aD1
theorem bD7 : C21.Ok := gP (C := C20) bD6 r54
noncomputable def B18 : Code := (Try.f18.body).getD .skip
def A18 : aB := (aB.node (some (0, [(0, Kd.v), (1, Kd.i .i64), (2, Kd.i .i64)])) aB.nil (aB.node none aB.nil (aB.node none (aB.node none aB.nil (aB.node none (aB.node none aB.nil aB.nil) aB.nil)) (aB.node none (aB.node none aB.nil (aB.node none (aB.node none aB.nil aB.nil) aB.nil)) (aB.node none aB.nil (aB.node none aB.nil aB.nil))))))
noncomputable def aPU (S : Sg) (r0 : Value) (r1 : Int) (r2 : Int) (h : Hp) : aW :=
 bS h 25 (Array.toList (Value.cells r0)) fun a0 h0 =>
 aY 4 h0 a0 fun v1 =>
 aS (dV F52 [v1, (Value.int .i64 r2)] h0) fun v2 h2 =>
 fK v2 0 fun v3 =>
 fK v2 1 fun v4 =>
 aX .i64 v4 fun i5 =>
 bS h2 71 [(Value.slice none 0 0), (Value.slice none 0 0), (Value.slice none 0 0), (Value.slice none 0 0), (Value.map none)] fun a6 h6 =>
 fG 5 h6 a6 v3 fun h7 =>
 bU (lW i5 (Int.ofNat 0)) fun b8 =>
 dF b8
 (some (Value.tuple (List.toArray [(Value.int .i64 (Int.ofNat 0)), (Value.slice none 0 0), (Value.int .i64 i5)]), h7))
 (aT 0 a6 fun v9 =>
 aT 2 v9 fun v10 =>
 aK h7 v10 fun v11 =>
 dK v11 fun i12 =>
 aS (bO env h7 22 1 (List.toArray [(0, (Value.int .i64 r1))])) fun v13 h13 =>
 aS (cO (F53 [(Value.int .i64 i12), v13] h13) fun v => some (v, h13)) fun v14 IA =>
 eO v14 fun b15 =>
 bU b15 fun b16 =>
 dF b16
 (some (Value.tuple (List.toArray [(Value.int .i64 (Int.ofNat 0)), (Value.slice none 0 0), (Value.int .i64 (Int.ofNat 4))]), IA))
 (cO (j4 env 76 (List.toArray [(0, (Value.int .i64 r1)), (1, (Value.int .i64 r2))])) fun v17 =>
 bS IA 76 [(Value.int .i64 (Int.ofNat 0)), (Value.int .i64 (Int.ofNat 0))] fun a18 h18 =>
 fG 2 h18 a18 v17 fun h19 =>
 aY 5 (Hp.mk (Hp.next h19) (Hp.next h19) (Hp.aG h19)) a6 fun v20 =>
 aY 2 (Hp.mk (Hp.next h19) (Hp.next h19) (Hp.aG h19)) a18 fun v21 =>
 aS (bO env (Hp.mk (Hp.next h19) (Hp.next h19) T.nil) 79 1 (List.toArray [(0, v21)])) fun v22 h22 =>
 kX v22 (Hp.next h19) h22 fun w23 n23 =>
 aS (cO (F54 [v20, v22] (Hp.mk n23 n23 (bN w23 (Hp.aG h19)))) fun v => some (v, (Hp.mk n23 n23 (bN w23 (Hp.aG h19))))) fun v24 h24 =>
 aX .i64 v24 fun i25 =>
 aT 4 a6 fun v26 =>
 aK (Hp.mk n23 n23 (Hp.aG h19)) v26 fun v27 =>
 aY 2 (Hp.mk n23 n23 (Hp.aG h19)) a18 fun v28 =>
 cO (kE env (Hp.mk n23 n23 (Hp.aG h19)) 69 v27 v28 false) fun v29 =>
 some (Value.tuple (List.toArray [(Value.int .i64 i25), v29, (Value.int .i64 (Int.ofNat 0))]), (Hp.mk n23 (Hp.ro h19) (bN w23 (Hp.aG h19))))))
noncomputable def T18 (S : Sg) : Sg := dJ 0 (uV fun r0 => uI fun r1 => uI fun r2 => uN fun h => aPU S r0 r1 r2 h) (kP)
noncomputable def F18 (args : List Value) (h : Hp) : aW := bP [Kd.v, Kd.i .i64, Kd.i .i64] args fun al => aP T18 1000000 0 al h
def a0U : Nat := 3 + (39 - 3)
theorem a0V (S : Sg) (r0 : Value) (r1 : Int) (r2 : Int) (h : Hp) : aPU S r0 r1 r2 h = aF (bK env aD1 (a0U)) (bM env Try.f18.results.toList) (collect B18 A18 []) 0 S (AL.v r0 (AL.i r1 (AL.i r2 AL.n))) h := by kernel_rfl
theorem t18 (S : Sg) : dW (fun l vs h => aF (bK env aD1 a0U) (bM env Try.f18.results.toList) (collect B18 A18 []) l S vs h) (T18 S) := by
 unfold T18
 refine dW.cons 0 (fun fJ h q e0 => ?_) ?_
 ·obtain ⟨r0, vs1, rfl, e1⟩ := aC e0
  obtain ⟨r1, vs2, rfl, e2⟩ := aM e1
  obtain ⟨r2, vs3, rfl, e3⟩ := aM e2
  obtain ⟨rfl, ee⟩ := aN e3
  exact (a0V S r0 r1 r2 h).symm.trans ee
 exact dW.nil
theorem r18 : ∀ args h v h', F18 args h = some (v, h') → gW (C21) (.call 18 args.toArray h) (.ret v h') := by
 intro args h v h' e
 exact bJ (C := C21) (fn := Try.f18) (body := B18) (np := 3) (A := A18) (T := T18) (kinds := [Kd.v, Kd.i .i64, Kd.i .i64]) (by kernel_rfl) (by kernel_rfl) (by kernel_rfl) (by kernel_rfl) (dH eF) (by kernel_rfl) (fun S => t18 S) e
noncomputable def aPV := kH 18 F18 aD1
noncomputable def C22 : dM := cfg aPV
theorem bED : C22.Ok := dI (C := C21) bD7 r18
noncomputable def aKA : Code := (Try.f111.body).getD .skip
noncomputable def aKB : G.aB (List KI) := (G.aB.node (some (0, [KI.reg 0 (Kd.v), KI.reg 1 (Kd.i .i64)])) G.aB.nil (G.aB.node none (G.aB.node none G.aB.nil (G.aB.node none (G.aB.node (some (1, [KI.reg 0 (Kd.v), KI.reg 1 (Kd.i .i64), KI.reg 7 (Kd.i .i64), KI.reg 8 (Kd.i .i64)])) (G.aB.node none G.aB.nil (G.aB.node none (G.aB.node none G.aB.nil G.aB.nil) (G.aB.node none (G.aB.node none (G.aB.node none G.aB.nil (G.aB.node none G.aB.nil (G.aB.node none (G.aB.node none G.aB.nil G.aB.nil) G.aB.nil))) G.aB.nil) G.aB.nil))) G.aB.nil) G.aB.nil)) (G.aB.node (some (2, [])) G.aB.nil G.aB.nil)))
noncomputable def aKC (h : Hp) (S : Nat → aD → Option Value) : Option Value :=
 some (Value.int .i64 (Int.negSucc 0))
noncomputable def NH (h : Hp) (S : Nat → aD → Option Value) (r0 : Value) (r1 : Int) (r7 : Int) (r8 : Int) : Option Value :=
 bX (nG r8 r7) fun b0 =>
 dF b0
 (dS 1 r0 r8 fun v1 =>
 aK h v1 fun v2 =>
 aX .i64 v2 fun i3 =>
 bX (lW r1 i3) fun b4 =>
 dF b4
 (some (Value.int .i64 r8))
 (wrap64 (Int.add r8 (Int.ofNat 1)) fun i5 =>
 S 1 (aD.v r0 (aD.i r1 (aD.i r7 (aD.i i5 aD.n))))))
 (S 2 aD.n)
noncomputable def TS (h : Hp) (S : Nat → aD → Option Value) (r0 : Value) (r1 : Int) : Option Value :=
 dK r0 fun i0 =>
 S 1 (aD.v r0 (aD.i r1 (aD.i i0 (aD.i (Int.ofNat 0) aD.n))))
noncomputable def TR (h : Hp) (S : Nat → aD → Option Value) : Nat → aD → Option Value := eP 0 (wV fun r0 => wI fun r1 => wN (TS h S r0 r1)) (eP 1 (wV fun r0 => wI fun r1 => wI fun r7 => wI fun r8 => wN (NH h S r0 r1 r7 r8)) (eP 2 (wN (aKC h S)) (lY)))
noncomputable def aI7 (args : List Value) (h : Hp) : Option Value := plainO (eT [Kd.v, Kd.i .i64] args fun al => G.aP (TR h) 1000000 0 al)
def aD2 : Nat := 2 + (19 - 2)
theorem aUM (h : Hp) (S : Nat → aD → Option Value) : aKC h S = G.aF bR aQ fC (fF env pf6 aD2 h) (fH env Try.f111.results.toList) (G.collect aKA aKB []) 2 S aD.n := by kernel_rfl
theorem aUN (h : Hp) (S : Nat → aD → Option Value) (r0 : Value) (r1 : Int) (r7 : Int) (r8 : Int) : NH h S r0 r1 r7 r8 = G.aF bR aQ fC (fF env pf6 aD2 h) (fH env Try.f111.results.toList) (G.collect aKA aKB []) 1 S (aD.v r0 (aD.i r1 (aD.i r7 (aD.i r8 aD.n)))) := by kernel_rfl
theorem aUO (h : Hp) (S : Nat → aD → Option Value) (r0 : Value) (r1 : Int) : TS h S r0 r1 = G.aF bR aQ fC (fF env pf6 aD2 h) (fH env Try.f111.results.toList) (G.collect aKA aKB []) 0 S (aD.v r0 (aD.i r1 aD.n)) := by kernel_rfl
theorem t111 (h : Hp) (S : Nat → aD → Option Value) : dG (fun l al => G.aF bR aQ fC (fF env pf6 aD2 h) (fH env Try.f111.results.toList) (G.collect aKA aKB []) l S al) (TR h S) := by
 unfold TR
 refine dG.cons 0 (fun fJ q e0 => ?_) ?_
 ·obtain ⟨r0, vs1, rfl, e1⟩ := bA e0
  obtain ⟨r1, vs2, rfl, e2⟩ := aV e1
  obtain ⟨rfl, ee⟩ := bQ e2
  exact (aUO h S r0 r1).symm.trans ee
 refine dG.cons 1 (fun fJ q e0 => ?_) ?_
 ·obtain ⟨r0, vs1, rfl, e1⟩ := bA e0
  obtain ⟨r1, vs2, rfl, e2⟩ := aV e1
  obtain ⟨r7, vs3, rfl, e3⟩ := aV e2
  obtain ⟨r8, pF, rfl, e4⟩ := aV e3
  obtain ⟨rfl, ee⟩ := bQ e4
  exact (aUN h S r0 r1 r7 r8).symm.trans ee
 refine dG.cons 2 (fun fJ q e0 => ?_) ?_
 ·
  obtain ⟨rfl, ee⟩ := bQ e0
  exact (aUM h S).symm.trans ee
 exact dG.nil
theorem a0W : PSound Try.prog 111 aI7 := dY (C := C0) ok0 (pf := pf6) aPT (fn := Try.f111) (body := aKA) (kinds := [Kd.v, Kd.i .i64]) (A := aKB) (T := TR) (by kernel_rfl) (by kernel_rfl) (by kernel_rfl) (by kernel_rfl) (fun h S => t111 h S)
noncomputable def pf7 : PF := JF 111 aI7 pf6
theorem aPW : fT Try.prog pf7 := jJ a0W aPT
noncomputable def aPX := o8 111 aI7 aPV
noncomputable def C23 : dM := cfg aPX
theorem bEE : C23.Ok := gP (C := C22) bED a0W
noncomputable def B90 : Code := (Try.f90.body).getD .skip
noncomputable def A90 : G.aB (List KI) := (G.aB.node (some (0, [KI.reg 0 (Kd.v), KI.reg 1 (Kd.i .i64)])) G.aB.nil (G.aB.node none G.aB.nil G.aB.nil))
noncomputable def aCM (h : Hp) (S : Nat → aD → Option Value) (r0 : Value) (r1 : Int) : Option Value :=
 cO (aI7 [r0, (Value.int .i64 r1)] h) fun v0 =>
 aX .i64 v0 fun i1 =>
 bU (nG i1 (Int.ofNat 0)) fun b2 =>
 some (Value.bool b2)
noncomputable def T90 (h : Hp) (S : Nat → aD → Option Value) : Nat → aD → Option Value := eP 0 (wV fun r0 => wI fun r1 => wN (aCM h S r0 r1)) (lY)
noncomputable def F90 (args : List Value) (h : Hp) : Option Value := plainO (eT [Kd.v, Kd.i .i64] args fun al => G.aP (T90 h) 1000000 0 al)
def a0Y : Nat := 2 + (9 - 2)
theorem a0Z (h : Hp) (S : Nat → aD → Option Value) (r0 : Value) (r1 : Int) : aCM h S r0 r1 = G.aF bR aQ fC (fF env pf7 a0Y h) (fH env Try.f90.results.toList) (G.collect B90 A90 []) 0 S (aD.v r0 (aD.i r1 aD.n)) := by kernel_rfl
theorem t90 (h : Hp) (S : Nat → aD → Option Value) : dG (fun l al => G.aF bR aQ fC (fF env pf7 a0Y h) (fH env Try.f90.results.toList) (G.collect B90 A90 []) l S al) (T90 h S) := by
 unfold T90
 refine dG.cons 0 (fun fJ q e0 => ?_) ?_
 ·obtain ⟨r0, vs1, rfl, e1⟩ := bA e0
  obtain ⟨r1, vs2, rfl, e2⟩ := aV e1
  obtain ⟨rfl, ee⟩ := bQ e2
  exact (a0Z h S r0 r1).symm.trans ee
 exact dG.nil
theorem r90 : PSound Try.prog 90 F90 := dY (C := C0) ok0 (pf := pf7) aPW (fn := Try.f90) (body := B90) (kinds := [Kd.v, Kd.i .i64]) (A := A90) (T := T90) (by kernel_rfl) (by kernel_rfl) (by kernel_rfl) (by kernel_rfl) (fun h S => t90 h S)
noncomputable def pf8 : PF := JF 90 F90 pf7
theorem aPY : fT Try.prog pf8 := jJ r90 aPW
noncomputable def aPZ := o8 90 F90 aPX
noncomputable def C24 : dM := cfg aPZ
theorem bEH : C24.Ok := gP (C := C23) bEE r90
noncomputable def B92 : Code := (Try.f92.body).getD .skip
noncomputable def A92 : G.aB (List KI) := (G.aB.node (some (0, [KI.reg 0 (Kd.v), KI.reg 1 (Kd.v)])) G.aB.nil (G.aB.node none G.aB.nil G.aB.nil))
noncomputable def aCR (h : Hp) (S : Nat → aD → Option Value) (r0 : Value) (r1 : Value) : Option Value :=
 oP (Array.toList (Value.cells r0)) fun c0 =>
 oP (Array.toList (Value.cells r1)) fun c1 =>
 BG c0 4 fun v2 =>
 xJ c1 0 fun d3 => vJ d3 2 fun l3 =>
 cO (kE env h 69 v2 (Value.agg (Array.mk l3)) false) fun v4 =>
 cO (F90 [v4, (Value.int .i64 (Int.ofNat 0))] h) fun v5 =>
 eO v5 fun b6 =>
 some (Value.bool b6)
noncomputable def T92 (h : Hp) (S : Nat → aD → Option Value) : Nat → aD → Option Value := eP 0 (wV fun r0 => wV fun r1 => wN (aCR h S r0 r1)) (lY)
noncomputable def F92 (args : List Value) (h : Hp) : Option Value := plainO (eT [Kd.v, Kd.v] args fun al => G.aP (T92 h) 1000000 0 al)
def a01 : Nat := 2 + (10 - 2)
theorem a02 (h : Hp) (S : Nat → aD → Option Value) (r0 : Value) (r1 : Value) : aCR h S r0 r1 = G.aF bR aQ fC (fF env pf8 a01 h) (fH env Try.f92.results.toList) (G.collect B92 A92 []) 0 S (aD.v r0 (aD.v r1 aD.n)) := by kernel_rfl
theorem t92 (h : Hp) (S : Nat → aD → Option Value) : dG (fun l al => G.aF bR aQ fC (fF env pf8 a01 h) (fH env Try.f92.results.toList) (G.collect B92 A92 []) l S al) (T92 h S) := by
 unfold T92
 refine dG.cons 0 (fun fJ q e0 => ?_) ?_
 ·obtain ⟨r0, vs1, rfl, e1⟩ := bA e0
  obtain ⟨r1, vs2, rfl, e2⟩ := bA e1
  obtain ⟨rfl, ee⟩ := bQ e2
  exact (a02 h S r0 r1).symm.trans ee
 exact dG.nil
theorem r92 : PSound Try.prog 92 F92 := dY (C := C0) ok0 (pf := pf8) aPY (fn := Try.f92) (body := B92) (kinds := [Kd.v, Kd.v]) (A := A92) (T := T92) (by kernel_rfl) (by kernel_rfl) (by kernel_rfl) (by kernel_rfl) (fun h S => t92 h S)
noncomputable def pf9 : PF := JF 92 F92 pf8
theorem aP0 : fT Try.prog pf9 := jJ r92 aPY
noncomputable def QU := o8 92 F92 aPZ
noncomputable def C25 : dM := cfg QU
theorem bEK : C25.Ok := gP (C := C24) bEH r92
noncomputable def B60 : Code := (Try.f60.body).getD .skip
def A60 : aB := (aB.node (some (0, [(0, Kd.v), (1, Kd.v)])) aB.nil (aB.node none aB.nil (aB.node none aB.nil (aB.node none (aB.node none aB.nil (aB.node none (aB.node (some (1, [(2, Kd.v), (4, Kd.v), (5, Kd.v), (15, Kd.v), (16, Kd.i .i64), (17, Kd.i .i64)])) (aB.node none aB.nil (aB.node none (aB.node none aB.nil aB.nil) (aB.node none (aB.node none (aB.node none aB.nil (aB.node none aB.nil (aB.node none (aB.node none aB.nil (aB.node none aB.nil aB.nil)) aB.nil))) aB.nil) aB.nil))) aB.nil) aB.nil)) (aB.node (some (2, [(4, Kd.v), (5, Kd.v)])) aB.nil aB.nil)))))
noncomputable def aCS (S : Sg) (r4 : Value) (r5 : Value) (h : Hp) : aW :=
 aY 4 h r5 fun v0 =>
 fG 4 h r4 v0 fun h1 =>
 aY 4 h1 r4 fun v2 => some (v2, h1)
noncomputable def WS (S : Sg) (r2 : Value) (r4 : Value) (r5 : Value) (OH : Value) (r16 : Int) (FR : Int) (h : Hp) : aW :=
 bX (nG FR r16) fun b0 =>
 dF b0
 (dS 2 OH FR fun v1 =>
 aY 2 h v1 fun v2 =>
 bS h 76 [(Value.int .i64 (Int.ofNat 0)), (Value.int .i64 (Int.ofNat 0))] fun a3 h3 =>
 fG 2 h3 a3 v2 fun h4 =>
 aY 5 h4 r2 fun v5 =>
 aY 2 h4 a3 fun v6 =>
 aS (cO (F92 [v5, v6] h4) fun v => some (v, h4)) fun v7 h7 =>
 eO v7 fun b8 =>
 dF b8
 (aT 0 r2 fun v9 =>
 aT 2 v9 fun v10 =>
 aK (Hp.mk (Hp.next h7) (Hp.next h7) (Hp.aG h7)) v10 fun v11 =>
 aT 0 a3 fun v12 =>
 aK (Hp.mk (Hp.next h7) (Hp.next h7) (Hp.aG h7)) v12 fun v13 =>
 aX .i64 v13 fun i14 =>
 dS 3 v11 i14 fun v15 =>
 aY 3 (Hp.mk (Hp.next h7) (Hp.next h7) (Hp.aG h7)) v15 fun v16 =>
 aT 0 r2 fun v17 =>
 aT 3 v17 fun v18 =>
 aK (Hp.mk (Hp.next h7) (Hp.next h7) (Hp.aG h7)) v18 fun v19 =>
 aT 1 a3 fun v20 =>
 aK (Hp.mk (Hp.next h7) (Hp.next h7) (Hp.aG h7)) v20 fun v21 =>
 aX .i64 v21 fun i22 =>
 dS 3 v19 i22 fun v23 =>
 aY 3 (Hp.mk (Hp.next h7) (Hp.next h7) (Hp.aG h7)) v23 fun v24 =>
 bS (Hp.mk (Hp.next h7) (Hp.next h7) T.nil) 59 [(Value.string (ByteArray.mk #[])), (Value.slice none 0 0), (Value.int .i64 (Int.ofNat 0))] fun a25 h25 =>
 kX a25 (Hp.next h7) h25 fun w26 n26 =>
 bS (Hp.mk n26 n26 T.nil) 59 [(Value.string (ByteArray.mk #[])), (Value.slice none 0 0), (Value.int .i64 (Int.ofNat 0))] fun a27 h27 =>
 kX a27 n26 h27 fun w28 n28 =>
 wR env 59 a25 v16 n28 (Hp.next h7) (bN w28 (bN w26 (Hp.aG h7))) (fun b => (bY [] b || (bY [] b || (bY [] b || (bY [] b || (bY [] b || (bY [] b || (bY [] b || (bY w26 b || (bY w28 b || false)))))))))) fun w29 =>
 fG 3 (Hp.mk n28 (Hp.ro h7) (bN w29 (bN w28 (bN w26 (Hp.aG h7))))) a27 v24 fun h30 =>
 aT 1 a25 fun v31 =>
 aK h30 v31 fun v32 =>
 dS 1 v32 (Int.ofNat 0) fun v33 =>
 aK h30 v33 fun v34 =>
 aX .i64 v34 fun i35 =>
 yY 4 1 r5 i35 fun v36 =>
 aK h30 v36 fun v37 =>
 aX .i64 v37 fun i38 =>
 aT 2 a25 fun v39 =>
 aK h30 v39 fun v40 =>
 aX .i64 v40 fun i41 =>
 wrap64 (Int.add i38 i41) fun i42 =>
 yY 4 1 r5 i35 fun v43 =>
 EL h30 v43 (Value.int .i64 i42) fun h44 =>
 aT 1 a27 fun v45 =>
 aK h44 v45 fun v46 =>
 dS 1 v46 (Int.ofNat 0) fun v47 =>
 aK h44 v47 fun v48 =>
 aX .i64 v48 fun i49 =>
 yY 4 1 r5 i49 fun v50 =>
 aK h44 v50 fun v51 =>
 aX .i64 v51 fun i52 =>
 aT 2 a27 fun v53 =>
 aK h44 v53 fun v54 =>
 aX .i64 v54 fun i55 =>
 wrap64 (Int.sub i52 i55) fun i56 =>
 yY 4 1 r5 i49 fun v57 =>
 EL h44 v57 (Value.int .i64 i56) fun h58 =>
 wrap64 (Int.add FR (Int.ofNat 1)) fun i59 =>
 S 1 (AL.v r2 (AL.v r4 (AL.v r5 (AL.v OH (AL.i r16 (AL.i i59 AL.n)))))) h58)
 (wrap64 (Int.add FR (Int.ofNat 1)) fun i60 =>
 S 1 (AL.v r2 (AL.v r4 (AL.v r5 (AL.v OH (AL.i r16 (AL.i i60 AL.n)))))) h7))
 (S 2 (AL.v r4 (AL.v r5 AL.n)) h)
noncomputable def aCW (S : Sg) (r0 : Value) (r1 : Value) (h : Hp) : aW :=
 bS h 71 (Array.toList (Value.cells r0)) fun a0 h0 =>
 bS h0 87 [(Value.int .i64 (Int.ofNat 0)), (Value.int .i64 (Int.ofNat 0)), (Value.int .i64 (Int.ofNat 0)), (Value.int .i64 (Int.ofNat 0))] fun a1 h1 =>
 bS h1 87 [(Value.int .i64 (Int.ofNat 0)), (Value.int .i64 (Int.ofNat 0)), (Value.int .i64 (Int.ofNat 0)), (Value.int .i64 (Int.ofNat 0))] fun a2 h2 =>
 cO (gB env h2 87 a2 none none none) fun v3 =>
 aT 0 a0 fun v4 =>
 aT 1 v4 fun v5 =>
 aK h2 v5 fun v6 =>
 aS (copyV env h2 #[22, 22] (List.toArray [v3, v6])) fun v7 h7 =>
 dK r1 fun i8 =>
 S 1 (AL.v a0 (AL.v a1 (AL.v a2 (AL.v r1 (AL.i i8 (AL.i (Int.ofNat 0) AL.n)))))) h7
noncomputable def T60 (S : Sg) : Sg := dJ 0 (uV fun r0 => uV fun r1 => uN fun h => aCW S r0 r1 h) (dJ 1 (uV fun r2 => uV fun r4 => uV fun r5 => uV fun OH => uI fun r16 => uI fun FR => uN fun h => WS S r2 r4 r5 OH r16 FR h) (dJ 2 (uV fun r4 => uV fun r5 => uN fun h => aCS S r4 r5 h) (kP)))
noncomputable def F60 (args : List Value) (h : Hp) : aW := bP [Kd.v, Kd.v] args fun al => aP T60 1000000 0 al h
def aNY : Nat := 2 + (60 - 2)
theorem a06 (S : Sg) (r4 : Value) (r5 : Value) (h : Hp) : aCS S r4 r5 h = aF (bK env QU (aNY)) (bM env Try.f60.results.toList) (collect B60 A60 []) 2 S (AL.v r4 (AL.v r5 AL.n)) h := by kernel_rfl
theorem a07 (S : Sg) (r2 : Value) (r4 : Value) (r5 : Value) (OH : Value) (r16 : Int) (FR : Int) (h : Hp) : WS S r2 r4 r5 OH r16 FR h = aF (bK env QU (aNY)) (bM env Try.f60.results.toList) (collect B60 A60 []) 1 S (AL.v r2 (AL.v r4 (AL.v r5 (AL.v OH (AL.i r16 (AL.i FR AL.n)))))) h := by kernel_rfl
theorem a08 (S : Sg) (r0 : Value) (r1 : Value) (h : Hp) : aCW S r0 r1 h = aF (bK env QU (aNY)) (bM env Try.f60.results.toList) (collect B60 A60 []) 0 S (AL.v r0 (AL.v r1 AL.n)) h := by kernel_rfl
theorem t60 (S : Sg) : dW (fun l vs h => aF (bK env QU aNY) (bM env Try.f60.results.toList) (collect B60 A60 []) l S vs h) (T60 S) := by
 unfold T60
 refine dW.cons 0 (fun fJ h q e0 => ?_) ?_
 ·obtain ⟨r0, vs1, rfl, e1⟩ := aC e0
  obtain ⟨r1, vs2, rfl, e2⟩ := aC e1
  obtain ⟨rfl, ee⟩ := aN e2
  exact (a08 S r0 r1 h).symm.trans ee
 refine dW.cons 1 (fun fJ h q e0 => ?_) ?_
 ·obtain ⟨r2, vs1, rfl, e1⟩ := aC e0
  obtain ⟨r4, vs2, rfl, e2⟩ := aC e1
  obtain ⟨r5, vs3, rfl, e3⟩ := aC e2
  obtain ⟨OH, pF, rfl, e4⟩ := aC e3
  obtain ⟨r16, zS, rfl, e5⟩ := aM e4
  obtain ⟨FR, UG, rfl, e6⟩ := aM e5
  obtain ⟨rfl, ee⟩ := aN e6
  exact (a07 S r2 r4 r5 OH r16 FR h).symm.trans ee
 refine dW.cons 2 (fun fJ h q e0 => ?_) ?_
 ·obtain ⟨r4, vs1, rfl, e1⟩ := aC e0
  obtain ⟨r5, vs2, rfl, e2⟩ := aC e1
  obtain ⟨rfl, ee⟩ := aN e2
  exact (a06 S r4 r5 h).symm.trans ee
 exact dW.nil
theorem r60 : ∀ args h v h', F60 args h = some (v, h') → gW (C25) (.call 60 args.toArray h) (.ret v h') := by
 intro args h v h' e
 exact bJ (C := C25) (fn := Try.f60) (body := B60) (np := 2) (A := A60) (T := T60) (kinds := [Kd.v, Kd.v]) (by kernel_rfl) (by kernel_rfl) (by kernel_rfl) (by kernel_rfl) (dH eF) (by kernel_rfl) (fun S => t60 S) e
noncomputable def aP1 := kH 60 F60 QU
noncomputable def C26 : dM := cfg aP1
theorem bEL : C26.Ok := dI (C := C25) bEK r60
noncomputable def B77 : Code := (Try.f77.body).getD .skip
noncomputable def A77 : G.aB (List KI) := (G.aB.node (some (0, [KI.reg 0 (Kd.v)])) G.aB.nil (G.aB.node none G.aB.nil (G.aB.node none (G.aB.node none G.aB.nil (G.aB.node none (G.aB.node (some (1, [KI.loc 2 2, KI.loc 3 3, KI.reg 6 (Kd.v), KI.reg 7 (Kd.i .i64), KI.cells 2 [Kd.i .i64, Kd.i .i64, Kd.i .i64, Kd.i .i64], KI.cells 3 [Kd.i .i64, Kd.i .i64, Kd.i .i64, Kd.i .i64]])) (G.aB.node none G.aB.nil (G.aB.node none (G.aB.node none G.aB.nil G.aB.nil) (G.aB.node none (G.aB.node none (G.aB.node none G.aB.nil G.aB.nil) G.aB.nil) G.aB.nil))) G.aB.nil) G.aB.nil)) (G.aB.node (some (2, [KI.loc 2 2, KI.loc 3 3, KI.cells 2 [Kd.i .i64, Kd.i .i64, Kd.i .i64, Kd.i .i64], KI.cells 3 [Kd.i .i64, Kd.i .i64, Kd.i .i64, Kd.i .i64]])) G.aB.nil G.aB.nil))))
noncomputable def aP2 (h : Hp) (S : Nat → aD → Option Value) (xU : Int) (xV : Int) (xW : Int) (xX : Int) (jM : Int) (jK : Int) (jN : Int) (jO : Int) : Option Value :=
 aSU (Value.agg (Array.mk [(Value.int .i64 jM), (Value.int .i64 jK), (Value.int .i64 jN), (Value.int .i64 jO)])) fun l0 => dF (Nat.beq (SQ l0) 4) (VE 0 l0 [(Value.int .i64 xU), (Value.int .i64 xV), (Value.int .i64 xW), (Value.int .i64 xX)] fun c0 =>
 xJ c0 0 fun d1 => vJ d1 4 fun l1 => some (Value.agg (Array.mk l1))) none
noncomputable def aP3 (h : Hp) (S : Nat → aD → Option Value) (r6 : Value) (r7 : Int) (xU : Int) (xV : Int) (xW : Int) (xX : Int) (jM : Int) (jK : Int) (jN : Int) (jO : Int) : Option Value :=
 bX (nG r7 (Int.ofNat 4)) fun b0 =>
 dF b0
 (cO (mZ env 87 r6 (Value.int .i64 r7)) fun v1 =>
 aX .i64 v1 fun i2 =>
 wrap64 (Int.sub 0 i2) fun i3 =>
 aMF (Int.ofNat 0) i3 fun i4 =>
 SH r7 (fun n5 => dF (Nat.ble (Nat.succ n5) 4) (gX (Nat.add 0 (Nat.mul n5 1)) fun o5 =>
 AR [(Value.int .i64 jM), (Value.int .i64 jK), (Value.int .i64 jN), (Value.int .i64 jO)] o5 (Value.int .i64 i4) fun c6 =>
 wrap64 (Int.add r7 (Int.ofNat 1)) fun i7 =>
 lG c6 fun a8 c8 =>
 aX .i64 a8 fun i9 =>
 lG c8 fun a10 c10 =>
 aX .i64 a10 fun i11 =>
 lG c10 fun a12 c12 =>
 aX .i64 a12 fun i13 =>
 lG c12 fun a14 c14 =>
 aX .i64 a14 fun i15 =>
 aII c14 (S 1 (aD.v r6 (aD.i i7 (aD.i xU (aD.i xV (aD.i xW (aD.i xX (aD.i i9 (aD.i i11 (aD.i i13 (aD.i i15 aD.n)))))))))))) none) (fun _ => none))
 (S 2 (aD.i xU (aD.i xV (aD.i xW (aD.i xX (aD.i jM (aD.i jK (aD.i jN (aD.i jO aD.n)))))))))
noncomputable def aP4 (h : Hp) (S : Nat → aD → Option Value) (r0 : Value) : Option Value :=
 oP (Array.toList (Value.cells r0)) fun c0 =>
 xJ c0 0 fun d1 => vJ d1 4 fun l1 =>
 S 1 (aD.v (Value.agg (Array.mk l1)) (aD.i (Int.ofNat 0) (aD.i (Int.ofNat 0) (aD.i (Int.ofNat 0) (aD.i (Int.ofNat 0) (aD.i (Int.ofNat 0) (aD.i (Int.ofNat 0) (aD.i (Int.ofNat 0) (aD.i (Int.ofNat 0) (aD.i (Int.ofNat 0) aD.n))))))))))
noncomputable def T77 (h : Hp) (S : Nat → aD → Option Value) : Nat → aD → Option Value := eP 0 (wV fun r0 => wN (aP4 h S r0)) (eP 1 (wV fun r6 => wI fun r7 => wI fun xU => wI fun xV => wI fun xW => wI fun xX => wI fun jM => wI fun jK => wI fun jN => wI fun jO => wN (aP3 h S r6 r7 xU xV xW xX jM jK jN jO)) (eP 2 (wI fun xU => wI fun xV => wI fun xW => wI fun xX => wI fun jM => wI fun jK => wI fun jN => wI fun jO => wN (aP2 h S xU xV xW xX jM jK jN jO)) (lY)))
noncomputable def F77 (args : List Value) (h : Hp) : Option Value := plainO (eT [Kd.v] args fun al => G.aP (T77 h) 1000000 0 al)
def aNZ : Nat := 1 + (18 - 1)
theorem a1C (h : Hp) (S : Nat → aD → Option Value) (xU : Int) (xV : Int) (xW : Int) (xX : Int) (jM : Int) (jK : Int) (jN : Int) (jO : Int) : aP2 h S xU xV xW xX jM jK jN jO = G.aF bR aQ fC (fF env pf9 aNZ h) (fH env Try.f77.results.toList) (G.collect B77 A77 []) 2 S (aD.i xU (aD.i xV (aD.i xW (aD.i xX (aD.i jM (aD.i jK (aD.i jN (aD.i jO aD.n)))))))) := by kernel_rfl
theorem a1D (h : Hp) (S : Nat → aD → Option Value) (r6 : Value) (r7 : Int) (xU : Int) (xV : Int) (xW : Int) (xX : Int) (jM : Int) (jK : Int) (jN : Int) (jO : Int) : aP3 h S r6 r7 xU xV xW xX jM jK jN jO = G.aF bR aQ fC (fF env pf9 aNZ h) (fH env Try.f77.results.toList) (G.collect B77 A77 []) 1 S (aD.v r6 (aD.i r7 (aD.i xU (aD.i xV (aD.i xW (aD.i xX (aD.i jM (aD.i jK (aD.i jN (aD.i jO aD.n)))))))))) := by kernel_rfl
theorem a1E (h : Hp) (S : Nat → aD → Option Value) (r0 : Value) : aP4 h S r0 = G.aF bR aQ fC (fF env pf9 aNZ h) (fH env Try.f77.results.toList) (G.collect B77 A77 []) 0 S (aD.v r0 aD.n) := by kernel_rfl
theorem t77 (h : Hp) (S : Nat → aD → Option Value) : dG (fun l al => G.aF bR aQ fC (fF env pf9 aNZ h) (fH env Try.f77.results.toList) (G.collect B77 A77 []) l S al) (T77 h S) := by
 unfold T77
 refine dG.cons 0 (fun fJ q e0 => ?_) ?_
 ·obtain ⟨r0, vs1, rfl, e1⟩ := bA e0
  obtain ⟨rfl, ee⟩ := bQ e1
  exact (a1E h S r0).symm.trans ee
 refine dG.cons 1 (fun fJ q e0 => ?_) ?_
 ·obtain ⟨r6, vs1, rfl, e1⟩ := bA e0
  obtain ⟨r7, vs2, rfl, e2⟩ := aV e1
  obtain ⟨xU, vs3, rfl, e3⟩ := aV e2
  obtain ⟨xV, pF, rfl, e4⟩ := aV e3
  obtain ⟨xW, zS, rfl, e5⟩ := aV e4
  obtain ⟨xX, UG, rfl, e6⟩ := aV e5
  obtain ⟨jM, vs7, rfl, e7⟩ := aV e6
  obtain ⟨jK, vs8, rfl, e8⟩ := aV e7
  obtain ⟨jN, vs9, rfl, e9⟩ := aV e8
  obtain ⟨jO, a0I, rfl, e10⟩ := aV e9
  obtain ⟨rfl, ee⟩ := bQ e10
  exact (a1D h S r6 r7 xU xV xW xX jM jK jN jO).symm.trans ee
 refine dG.cons 2 (fun fJ q e0 => ?_) ?_
 ·obtain ⟨xU, vs1, rfl, e1⟩ := aV e0
  obtain ⟨xV, vs2, rfl, e2⟩ := aV e1
  obtain ⟨xW, vs3, rfl, e3⟩ := aV e2
  obtain ⟨xX, pF, rfl, e4⟩ := aV e3
  obtain ⟨jM, zS, rfl, e5⟩ := aV e4
  obtain ⟨jK, UG, rfl, e6⟩ := aV e5
  obtain ⟨jN, vs7, rfl, e7⟩ := aV e6
  obtain ⟨jO, vs8, rfl, e8⟩ := aV e7
  obtain ⟨rfl, ee⟩ := bQ e8
  exact (a1C h S xU xV xW xX jM jK jN jO).symm.trans ee
 exact dG.nil
theorem r77 : PSound Try.prog 77 F77 := dY (C := C0) ok0 (pf := pf9) aP0 (fn := Try.f77) (body := B77) (kinds := [Kd.v]) (A := A77) (T := T77) (by kernel_rfl) (by kernel_rfl) (by kernel_rfl) (by kernel_rfl) (fun h S => t77 h S)
noncomputable def aKD : PF := JF 77 F77 pf9
theorem aKE : fT Try.prog aKD := jJ r77 aP0
noncomputable def QV := o8 77 F77 aP1
noncomputable def C27 : dM := cfg QV
theorem bEN : C27.Ok := gP (C := C26) bEL r77
noncomputable def aKF : Code := (Try.f102.body).getD .skip
def aKG : aB := (aB.node (some (0, [(0, Kd.v), (1, Kd.v)])) aB.nil (aB.node none aB.nil (aB.node none (aB.node none aB.nil (aB.node none (aB.node (some (1, [(5, Kd.i .i64), (11, Kd.v), (12, Kd.i .i64)])) (aB.node none aB.nil (aB.node none (aB.node none aB.nil aB.nil) (aB.node none (aB.node none (aB.node none aB.nil aB.nil) aB.nil) aB.nil))) aB.nil) aB.nil)) (aB.node (some (2, [(5, Kd.i .i64)])) aB.nil aB.nil))))
noncomputable def aKH (S : Sg) (r5 : Int) (h : Hp) : aW :=
 some ((Value.int .i64 r5), h)
noncomputable def aKI (S : Sg) (r5 : Int) (gQ : Value) (kT : Int) (h : Hp) : aW :=
 bX (nG kT (Int.ofNat 4)) fun b0 =>
 dF b0
 (cO (mZ env 87 gQ (Value.int .i64 kT)) fun v1 =>
 aX .i64 v1 fun i2 =>
 wrap64 (Int.add r5 i2) fun i3 =>
 wrap64 (Int.add kT (Int.ofNat 1)) fun i4 =>
 S 1 (AL.i i3 (AL.v gQ (AL.i i4 AL.n))) h)
 (S 2 (AL.i r5 AL.n) h)
noncomputable def aKJ (S : Sg) (r0 : Value) (r1 : Value) (h : Hp) : aW :=
 bS h 71 (Array.toList (Value.cells r0)) fun a0 h0 =>
 aY 5 h0 a0 fun v1 =>
 aS (dV F60 [v1, r1] h0) fun v2 h2 =>
 aS (cO (F77 [v2] h2) fun v => some (v, h2)) fun v3 h3 =>
 S 1 (AL.i (Int.ofNat 0) (AL.v v3 (AL.i (Int.ofNat 0) AL.n))) h3
noncomputable def aN0 (S : Sg) : Sg := dJ 0 (uV fun r0 => uV fun r1 => uN fun h => aKJ S r0 r1 h) (dJ 1 (uI fun r5 => uV fun gQ => uI fun kT => uN fun h => aKI S r5 gQ kT h) (dJ 2 (uI fun r5 => uN fun h => aKH S r5 h) (kP)))
noncomputable def a1F (args : List Value) (h : Hp) : aW := bP [Kd.v, Kd.v] args fun al => aP aN0 1000000 0 al h
def aD3 : Nat := 2 + (20 - 2)
theorem aUQ (S : Sg) (r5 : Int) (h : Hp) : aKH S r5 h = aF (bK env QV (aD3)) (bM env Try.f102.results.toList) (collect aKF aKG []) 2 S (AL.i r5 AL.n) h := by kernel_rfl
theorem aUR (S : Sg) (r5 : Int) (gQ : Value) (kT : Int) (h : Hp) : aKI S r5 gQ kT h = aF (bK env QV (aD3)) (bM env Try.f102.results.toList) (collect aKF aKG []) 1 S (AL.i r5 (AL.v gQ (AL.i kT AL.n))) h := by kernel_rfl
theorem aUS (S : Sg) (r0 : Value) (r1 : Value) (h : Hp) : aKJ S r0 r1 h = aF (bK env QV (aD3)) (bM env Try.f102.results.toList) (collect aKF aKG []) 0 S (AL.v r0 (AL.v r1 AL.n)) h := by kernel_rfl
theorem t102 (S : Sg) : dW (fun l vs h => aF (bK env QV aD3) (bM env Try.f102.results.toList) (collect aKF aKG []) l S vs h) (aN0 S) := by
 unfold aN0
 refine dW.cons 0 (fun fJ h q e0 => ?_) ?_
 ·obtain ⟨r0, vs1, rfl, e1⟩ := aC e0
  obtain ⟨r1, vs2, rfl, e2⟩ := aC e1
  obtain ⟨rfl, ee⟩ := aN e2
  exact (aUS S r0 r1 h).symm.trans ee
 refine dW.cons 1 (fun fJ h q e0 => ?_) ?_
 ·obtain ⟨r5, vs1, rfl, e1⟩ := aM e0
  obtain ⟨gQ, vs2, rfl, e2⟩ := aC e1
  obtain ⟨kT, vs3, rfl, e3⟩ := aM e2
  obtain ⟨rfl, ee⟩ := aN e3
  exact (aUR S r5 gQ kT h).symm.trans ee
 refine dW.cons 2 (fun fJ h q e0 => ?_) ?_
 ·obtain ⟨r5, vs1, rfl, e1⟩ := aM e0
  obtain ⟨rfl, ee⟩ := aN e1
  exact (aUQ S r5 h).symm.trans ee
 exact dW.nil
theorem OI : ∀ args h v h', a1F args h = some (v, h') → gW (C27) (.call 102 args.toArray h) (.ret v h') := by
 intro args h v h' e
 exact bJ (C := C27) (fn := Try.f102) (body := aKF) (np := 2) (A := aKG) (T := aN0) (kinds := [Kd.v, Kd.v]) (by kernel_rfl) (by kernel_rfl) (by kernel_rfl) (by kernel_rfl) (dH eF) (by kernel_rfl) (fun S => t102 S) e
noncomputable def aP5 := kH 102 a1F QV
noncomputable def C28 : dM := cfg aP5
theorem bEO : C28.Ok := dI (C := C27) bEN OI
noncomputable def aUT : Code := (Try.f120.body).getD .skip
noncomputable def aUU : G.aB (List KI) := (G.aB.node (some (0, [KI.reg 0 (Kd.i .i64)])) G.aB.nil (G.aB.node none G.aB.nil G.aB.nil))
noncomputable def aKK (h : Hp) (S : Nat → aD → Option Value) (r0 : Int) : Option Value :=
 bU (lW r0 r0) fun b0 =>
 some (Value.bool b0)
noncomputable def aN1 (h : Hp) (S : Nat → aD → Option Value) : Nat → aD → Option Value := eP 0 (wI fun r0 => wN (aKK h S r0)) (lY)
noncomputable def aKL (args : List Value) (h : Hp) : Option Value := plainO (eT [Kd.i .i64] args fun al => G.aP (aN1 h) 1000000 0 al)
def aP6 : Nat := 1 + (6 - 1)
theorem aUV (h : Hp) (S : Nat → aD → Option Value) (r0 : Int) : aKK h S r0 = G.aF bR aQ fC (fF env aKD aP6 h) (fH env Try.f120.results.toList) (G.collect aUT aUU []) 0 S (aD.i r0 aD.n) := by kernel_rfl
theorem t120 (h : Hp) (S : Nat → aD → Option Value) : dG (fun l al => G.aF bR aQ fC (fF env aKD aP6 h) (fH env Try.f120.results.toList) (G.collect aUT aUU []) l S al) (aN1 h S) := by
 unfold aN1
 refine dG.cons 0 (fun fJ q e0 => ?_) ?_
 ·obtain ⟨r0, vs1, rfl, e1⟩ := aV e0
  obtain ⟨rfl, ee⟩ := bQ e1
  exact (aUV h S r0).symm.trans ee
 exact dG.nil
theorem a1G : PSound Try.prog 120 aKL := dY (C := C0) ok0 (pf := aKD) aKE (fn := Try.f120) (body := aUT) (kinds := [Kd.i .i64]) (A := aUU) (T := aN1) (by kernel_rfl) (by kernel_rfl) (by kernel_rfl) (by kernel_rfl) (fun h S => t120 h S)
noncomputable def aKM : PF := JF 120 aKL aKD
theorem aKN : fT Try.prog aKM := jJ a1G aKE
noncomputable def aP7 := o8 120 aKL aP5
noncomputable def C29 : dM := cfg aP7
theorem bEP : C29.Ok := gP (C := C28) bEO a1G
noncomputable def aUW : Code := (Try.f116.body).getD .skip
noncomputable def aUX : G.aB (List KI) := (G.aB.node (some (0, [KI.reg 0 (Kd.i .i64), KI.reg 1 (Kd.i .i64)])) G.aB.nil (G.aB.node none G.aB.nil (G.aB.node none G.aB.nil (G.aB.node none (G.aB.node none G.aB.nil (G.aB.node none (G.aB.node none (G.aB.node none G.aB.nil (G.aB.node none (G.aB.node none G.aB.nil G.aB.nil) G.aB.nil)) (G.aB.node none G.aB.nil G.aB.nil)) G.aB.nil)) (G.aB.node none (G.aB.node none G.aB.nil (G.aB.node none (G.aB.node none G.aB.nil G.aB.nil) G.aB.nil)) (G.aB.node none (G.aB.node none G.aB.nil (G.aB.node none (G.aB.node none G.aB.nil G.aB.nil) G.aB.nil)) (G.aB.node none (G.aB.node none G.aB.nil (G.aB.node none (G.aB.node none G.aB.nil G.aB.nil) G.aB.nil)) (G.aB.node none G.aB.nil G.aB.nil))))))))
noncomputable def aKO (h : Hp) (S : Nat → aD → Option Value) (r0 : Int) (r1 : Int) : Option Value :=
 cO (aKL [(Value.int .i64 r0)] h) fun v0 =>
 eO v0 fun b1 =>
 cO (aKL [(Value.int .i64 r1)] h) fun v2 =>
 eO v2 fun b3 =>
 dF b1
 (dF b3
 (some (Value.int .i64 (Int.ofNat 0)))
 (some (Value.int .i64 (Int.negSucc 0))))
 (dF b3
 (some (Value.int .i64 (Int.ofNat 1)))
 (bX (nG r0 r1) fun b4 =>
 dF b4
 (some (Value.int .i64 (Int.negSucc 0)))
 (bX (nG r1 r0) fun b5 =>
 dF b5
 (some (Value.int .i64 (Int.ofNat 1)))
 (some (Value.int .i64 (Int.ofNat 0))))))
noncomputable def aN2 (h : Hp) (S : Nat → aD → Option Value) : Nat → aD → Option Value := eP 0 (wI fun r0 => wI fun r1 => wN (aKO h S r0 r1)) (lY)
noncomputable def aKP (args : List Value) (h : Hp) : Option Value := plainO (eT [Kd.i .i64, Kd.i .i64] args fun al => G.aP (aN2 h) 1000000 0 al)
def aP8 : Nat := 2 + (20 - 2)
theorem aUY (h : Hp) (S : Nat → aD → Option Value) (r0 : Int) (r1 : Int) : aKO h S r0 r1 = G.aF bR aQ fC (fF env aKM aP8 h) (fH env Try.f116.results.toList) (G.collect aUW aUX []) 0 S (aD.i r0 (aD.i r1 aD.n)) := by kernel_rfl
theorem t116 (h : Hp) (S : Nat → aD → Option Value) : dG (fun l al => G.aF bR aQ fC (fF env aKM aP8 h) (fH env Try.f116.results.toList) (G.collect aUW aUX []) l S al) (aN2 h S) := by
 unfold aN2
 refine dG.cons 0 (fun fJ q e0 => ?_) ?_
 ·obtain ⟨r0, vs1, rfl, e1⟩ := aV e0
  obtain ⟨r1, vs2, rfl, e2⟩ := aV e1
  obtain ⟨rfl, ee⟩ := bQ e2
  exact (aUY h S r0 r1).symm.trans ee
 exact dG.nil
theorem a1H : PSound Try.prog 116 aKP := dY (C := C0) ok0 (pf := aKM) aKN (fn := Try.f116) (body := aUW) (kinds := [Kd.i .i64, Kd.i .i64]) (A := aUX) (T := aN2) (by kernel_rfl) (by kernel_rfl) (by kernel_rfl) (by kernel_rfl) (fun h S => t116 h S)
noncomputable def aAU : PF := JF 116 aKP aKM
theorem aKQ : fT Try.prog aAU := jJ a1H aKN
noncomputable def aP9 := o8 116 aKP aP7
noncomputable def C30 : dM := cfg aP9
theorem bEQ : C30.Ok := gP (C := C29) bEP a1H
noncomputable def aKR : Code := (Try.f115.body).getD .skip
noncomputable def aKS : G.aB (List KI) := (G.aB.node (some (0, [KI.reg 0 (Kd.v)])) G.aB.nil (G.aB.node none G.aB.nil (G.aB.node none (G.aB.node none G.aB.nil (G.aB.node none (G.aB.node (some (1, [KI.reg 3 (Kd.i .i64), KI.reg 6 (Kd.v), KI.reg 7 (Kd.i .i64), KI.reg 8 (Kd.i .i64)])) (G.aB.node none G.aB.nil (G.aB.node none (G.aB.node none G.aB.nil G.aB.nil) (G.aB.node none (G.aB.node none (G.aB.node none G.aB.nil (G.aB.node none G.aB.nil (G.aB.node none (G.aB.node none G.aB.nil G.aB.nil) G.aB.nil))) G.aB.nil) G.aB.nil))) G.aB.nil) G.aB.nil)) (G.aB.node (some (2, [KI.reg 3 (Kd.i .i64)])) G.aB.nil G.aB.nil))))
noncomputable def aKT (h : Hp) (S : Nat → aD → Option Value) (r3 : Int) : Option Value :=
 some (Value.int .i64 r3)
noncomputable def aKU (h : Hp) (S : Nat → aD → Option Value) (r3 : Int) (r6 : Value) (r7 : Int) (r8 : Int) : Option Value :=
 bX (nG r8 r7) fun b0 =>
 dF b0
 (dS 1 r6 r8 fun v1 =>
 aK h v1 fun v2 =>
 aX .i64 v2 fun i3 =>
 bU (lW i3 r3) fun b4 =>
 dF b4
 (some (Value.int .i64 i3))
 (wrap64 (Int.add r8 (Int.ofNat 1)) fun i5 =>
 S 1 (aD.i r3 (aD.v r6 (aD.i r7 (aD.i i5 aD.n))))))
 (S 2 (aD.i r3 aD.n))
noncomputable def aKV (h : Hp) (S : Nat → aD → Option Value) (r0 : Value) : Option Value :=
 dK r0 fun i0 =>
 S 1 (aD.i (Int.ofNat 0) (aD.v r0 (aD.i i0 (aD.i (Int.ofNat 0) aD.n))))
noncomputable def aN3 (h : Hp) (S : Nat → aD → Option Value) : Nat → aD → Option Value := eP 0 (wV fun r0 => wN (aKV h S r0)) (eP 1 (wI fun r3 => wV fun r6 => wI fun r7 => wI fun r8 => wN (aKU h S r3 r6 r7 r8)) (eP 2 (wI fun r3 => wN (aKT h S r3)) (lY)))
noncomputable def aN4 (args : List Value) (h : Hp) : Option Value := plainO (eT [Kd.v] args fun al => G.aP (aN3 h) 1000000 0 al)
def aD4 : Nat := 1 + (18 - 1)
theorem aUZ (h : Hp) (S : Nat → aD → Option Value) (r3 : Int) : aKT h S r3 = G.aF bR aQ fC (fF env aAU aD4 h) (fH env Try.f115.results.toList) (G.collect aKR aKS []) 2 S (aD.i r3 aD.n) := by kernel_rfl
theorem aU0 (h : Hp) (S : Nat → aD → Option Value) (r3 : Int) (r6 : Value) (r7 : Int) (r8 : Int) : aKU h S r3 r6 r7 r8 = G.aF bR aQ fC (fF env aAU aD4 h) (fH env Try.f115.results.toList) (G.collect aKR aKS []) 1 S (aD.i r3 (aD.v r6 (aD.i r7 (aD.i r8 aD.n)))) := by kernel_rfl
theorem aU1 (h : Hp) (S : Nat → aD → Option Value) (r0 : Value) : aKV h S r0 = G.aF bR aQ fC (fF env aAU aD4 h) (fH env Try.f115.results.toList) (G.collect aKR aKS []) 0 S (aD.v r0 aD.n) := by kernel_rfl
theorem t115 (h : Hp) (S : Nat → aD → Option Value) : dG (fun l al => G.aF bR aQ fC (fF env aAU aD4 h) (fH env Try.f115.results.toList) (G.collect aKR aKS []) l S al) (aN3 h S) := by
 unfold aN3
 refine dG.cons 0 (fun fJ q e0 => ?_) ?_
 ·obtain ⟨r0, vs1, rfl, e1⟩ := bA e0
  obtain ⟨rfl, ee⟩ := bQ e1
  exact (aU1 h S r0).symm.trans ee
 refine dG.cons 1 (fun fJ q e0 => ?_) ?_
 ·obtain ⟨r3, vs1, rfl, e1⟩ := aV e0
  obtain ⟨r6, vs2, rfl, e2⟩ := bA e1
  obtain ⟨r7, vs3, rfl, e3⟩ := aV e2
  obtain ⟨r8, pF, rfl, e4⟩ := aV e3
  obtain ⟨rfl, ee⟩ := bQ e4
  exact (aU0 h S r3 r6 r7 r8).symm.trans ee
 refine dG.cons 2 (fun fJ q e0 => ?_) ?_
 ·obtain ⟨r3, vs1, rfl, e1⟩ := aV e0
  obtain ⟨rfl, ee⟩ := bQ e1
  exact (aUZ h S r3).symm.trans ee
 exact dG.nil
theorem a1I : PSound Try.prog 115 aN4 := dY (C := C0) ok0 (pf := aAU) aKQ (fn := Try.f115) (body := aKR) (kinds := [Kd.v]) (A := aKS) (T := aN3) (by kernel_rfl) (by kernel_rfl) (by kernel_rfl) (by kernel_rfl) (fun h S => t115 h S)
noncomputable def a1J : PF := JF 115 aN4 aAU
theorem aU2 : fT Try.prog a1J := jJ a1I aKQ
noncomputable def JX := o8 115 aN4 aP9
noncomputable def C31 : dM := cfg JX
theorem bER : C31.Ok := gP (C := C30) bEQ a1I
noncomputable def aU3 : Code := (Try.f103.body).getD .skip
def aU4 : aB := (aB.node (some (0, [(0, Kd.v), (1, Kd.v), (2, Kd.v)])) aB.nil (aB.node none aB.nil aB.nil))
noncomputable def aKW (S : Sg) (r0 : Value) (r1 : Value) (r2 : Value) (h : Hp) : aW :=
 bS h 135 (Array.toList (Value.cells r0)) fun a0 h0 =>
 aT 0 a0 fun v1 =>
 aK (Hp.mk (Hp.next h0) (Hp.next h0) (Hp.aG h0)) v1 fun v2 =>
 aS (qM JX v2 [r1] (Hp.mk (Hp.next h0) (Hp.next h0) (Hp.aG h0))) fun v3 h3 =>
 aX .i64 v3 fun i4 =>
 aT 0 a0 fun v5 =>
 aK (Hp.mk (Hp.next h0) (Hp.next h0) (Hp.aG h0)) v5 fun v6 =>
 aS (qM JX v6 [r2] (Hp.mk (Hp.next h0) (Hp.next h0) (Hp.aG h0))) fun v7 h7 =>
 aX .i64 v7 fun i8 =>
 aS (cO (aKP [(Value.int .i64 i4), (Value.int .i64 i8)] (Hp.mk (Hp.next h0) (Hp.next h0) (Hp.aG h0))) fun v => some (v, (Hp.mk (Hp.next h0) (Hp.next h0) (Hp.aG h0)))) fun v9 h9 =>
 aX .i64 v9 fun i10 =>
 aT 1 a0 fun v11 =>
 aK (Hp.mk (Hp.next h0) (Hp.next h0) (Hp.aG h0)) v11 fun v12 =>
 aS (qM JX v12 [r1] (Hp.mk (Hp.next h0) (Hp.next h0) (Hp.aG h0))) fun v13 h13 =>
 aX .i64 v13 fun i14 =>
 aT 1 a0 fun v15 =>
 aK (Hp.mk (Hp.next h0) (Hp.next h0) (Hp.aG h0)) v15 fun v16 =>
 aS (qM JX v16 [r2] (Hp.mk (Hp.next h0) (Hp.ro h0) (Hp.aG h0))) fun v17 h17 =>
 aX .i64 v17 fun i18 =>
 aS (cO (aKP [(Value.int .i64 i14), (Value.int .i64 i18)] h17) fun v => some (v, h17)) fun v19 h19 =>
 aX .i64 v19 fun i20 =>
 aS (bO env h19 22 2 (List.toArray [(0, (Value.int .i64 i10)), (1, (Value.int .i64 i20))])) fun v21 h21 =>
 aS (cO (aN4 [v21] h21) fun v => some (v, h21)) fun v22 h22 =>
 aX .i64 v22 fun i23 =>
 some ((Value.int .i64 i23), h22)
noncomputable def aN5 (S : Sg) : Sg := dJ 0 (uV fun r0 => uV fun r1 => uV fun r2 => uN fun h => aKW S r0 r1 r2 h) (kP)
noncomputable def a1K (args : List Value) (h : Hp) : aW := bP [Kd.v, Kd.v, Kd.v] args fun al => aP aN5 1000000 0 al h
def aQA : Nat := 3 + (27 - 3)
theorem aU5 (S : Sg) (r0 : Value) (r1 : Value) (r2 : Value) (h : Hp) : aKW S r0 r1 r2 h = aF (bK env JX (aQA)) (bM env Try.f103.results.toList) (collect aU3 aU4 []) 0 S (AL.v r0 (AL.v r1 (AL.v r2 AL.n))) h := by kernel_rfl
theorem t103 (S : Sg) : dW (fun l vs h => aF (bK env JX aQA) (bM env Try.f103.results.toList) (collect aU3 aU4 []) l S vs h) (aN5 S) := by
 unfold aN5
 refine dW.cons 0 (fun fJ h q e0 => ?_) ?_
 ·obtain ⟨r0, vs1, rfl, e1⟩ := aC e0
  obtain ⟨r1, vs2, rfl, e2⟩ := aC e1
  obtain ⟨r2, vs3, rfl, e3⟩ := aC e2
  obtain ⟨rfl, ee⟩ := aN e3
  exact (aU5 S r0 r1 r2 h).symm.trans ee
 exact dW.nil
theorem bES : ∀ args h v h', a1K args h = some (v, h') → gW (C31) (.call 103 args.toArray h) (.ret v h') := by
 intro args h v h' e
 exact bJ (C := C31) (fn := Try.f103) (body := aU3) (np := 3) (A := aU4) (T := aN5) (kinds := [Kd.v, Kd.v, Kd.v]) (by kernel_rfl) (by kernel_rfl) (by kernel_rfl) (by kernel_rfl) (dH eF) (by kernel_rfl) (fun S => t103 S) e
noncomputable def QW := kH 103 a1K JX
noncomputable def C32 : dM := cfg QW
theorem ok32 : C32.Ok := dI (C := C31) bER bES
noncomputable def B58 : Code := (Try.f58.body).getD .skip
def A58 : aB := (aB.node (some (0, [(0, Kd.v), (1, Kd.v)])) aB.nil (aB.node none aB.nil (aB.node none (aB.node none (aB.node none aB.nil (aB.node none (aB.node none aB.nil aB.nil) (aB.node none aB.nil (aB.node none (aB.node none aB.nil aB.nil) (aB.node none aB.nil (aB.node none (aB.node none aB.nil aB.nil) aB.nil)))))) aB.nil) (aB.node none aB.nil (aB.node none (aB.node none aB.nil (aB.node none (aB.node (some (1, [(1, Kd.v), (4, Kd.v), (7, Kd.v), (9, Kd.v), (40, Kd.v), (41, Kd.i .i64), (42, Kd.i .i64)])) (aB.node none aB.nil (aB.node none (aB.node none aB.nil aB.nil) (aB.node none (aB.node none (aB.node none aB.nil (aB.node none (aB.node none aB.nil (aB.node none (aB.node none aB.nil aB.nil) aB.nil)) aB.nil)) aB.nil) aB.nil))) aB.nil) aB.nil)) (aB.node (some (2, [(4, Kd.v), (7, Kd.v), (9, Kd.v)])) aB.nil aB.nil))))))
noncomputable def aCN (S : Sg) (r4 : Value) (r7 : Value) (r9 : Value) (h : Hp) : aW :=
 aY 5 h r7 fun v0 =>
 fG 5 h r4 v0 fun h1 =>
 aY 5 h1 r4 fun v2 => some (Value.tuple (List.toArray [v2, r9, (Value.int .i64 (Int.ofNat 0))]), h1)
noncomputable def WQ (S : Sg) (r1 : Value) (r4 : Value) (r7 : Value) (r9 : Value) (r40 : Value) (r41 : Int) (r42 : Int) (h : Hp) : aW :=
 bX (nG r42 r41) fun b0 =>
 dF b0
 (dS 1 r40 r42 fun v1 =>
 aK h v1 fun v2 =>
 aX .i64 v2 fun i3 =>
 cO (gB env h 22 r1 none (some (Value.int .i64 r42)) none) fun v4 =>
 aS (cO (F90 [v4, (Value.int .i64 i3)] h) fun v => some (v, h)) fun v5 h5 =>
 eO v5 fun b6 =>
 dF b6
 (cO (j4 env 71 (List.toArray [])) fun v7 =>
 fG 5 h5 r4 v7 fun h8 =>
 aY 5 h8 r4 fun v9 => some (Value.tuple (List.toArray [v9, (Value.slice none 0 0), (Value.int .i64 (Int.ofNat 5))]), h8))
 (cO (j4 env 76 (List.toArray [(0, (Value.int .i64 i3)), (1, (Value.int .i64 r42))])) fun v10 =>
 aS (bO env h5 79 1 (List.toArray [(0, v10)])) fun v11 h11 =>
 aS (eX env h11 #[79, 79] (List.toArray [r9, v11])) fun v12 h12 =>
 wrap64 (Int.add r42 (Int.ofNat 1)) fun i13 =>
 S 1 (AL.v r1 (AL.v r4 (AL.v r7 (AL.v v12 (AL.v r40 (AL.i r41 (AL.i i13 AL.n))))))) h12))
 (S 2 (AL.v r4 (AL.v r7 (AL.v r9 AL.n))) h)
noncomputable def aCP (S : Sg) (r0 : Value) (r1 : Value) (h : Hp) : aW :=
 bS h 25 (Array.toList (Value.cells r0)) fun a0 h0 =>
 bS h0 71 [(Value.slice none 0 0), (Value.slice none 0 0), (Value.slice none 0 0), (Value.slice none 0 0), (Value.map none)] fun a1 h1 =>
 aY 4 h1 a0 fun v2 =>
 aS (dV F63 [v2] h1) fun v3 h3 =>
 fK v3 0 fun v4 =>
 fK v3 1 fun v5 =>
 aX .i64 v5 fun i6 =>
 bS h3 71 [(Value.slice none 0 0), (Value.slice none 0 0), (Value.slice none 0 0), (Value.slice none 0 0), (Value.map none)] fun a7 h7 =>
 fG 5 h7 a7 v4 fun h8 =>
 bU (lW i6 (Int.ofNat 0)) fun b9 =>
 dF b9
 (cO (j4 env 71 (List.toArray [])) fun v10 =>
 fG 5 h8 a1 v10 fun h11 =>
 aY 5 h11 a1 fun v12 => some (Value.tuple (List.toArray [v12, (Value.slice none 0 0), (Value.int .i64 i6)]), h11))
 (dK r1 fun i13 =>
 aT 0 a7 fun v14 =>
 aT 3 v14 fun v15 =>
 aK h8 v15 fun v16 =>
 dK v16 fun i17 =>
 bU (lW i13 i17) fun b18 =>
 dF b18
 (cO (j4 env 71 (List.toArray [])) fun v19 =>
 fG 5 h8 a1 v19 fun h20 =>
 aY 5 h20 a1 fun v21 => some (Value.tuple (List.toArray [v21, (Value.slice none 0 0), (Value.int .i64 (Int.ofNat 3))]), h20))
 (aT 0 a7 fun v22 =>
 aT 2 v22 fun v23 =>
 aK h8 v23 fun v24 =>
 dK v24 fun i25 =>
 aS (cO (F53 [(Value.int .i64 i25), r1] h8) fun v => some (v, h8)) fun v26 h26 =>
 eO v26 fun b27 =>
 bU b27 fun b28 =>
 dF b28
 (cO (j4 env 71 (List.toArray [])) fun v29 =>
 fG 5 h26 a1 v29 fun h30 =>
 aY 5 h30 a1 fun v31 => some (Value.tuple (List.toArray [v31, (Value.slice none 0 0), (Value.int .i64 (Int.ofNat 4))]), h30))
 (dK r1 fun i32 =>
 S 1 (AL.v r1 (AL.v a1 (AL.v a7 (AL.v (Value.slice none 0 0) (AL.v r1 (AL.i i32 (AL.i (Int.ofNat 0) AL.n))))))) h26)))
noncomputable def T58 (S : Sg) : Sg := dJ 0 (uV fun r0 => uV fun r1 => uN fun h => aCP S r0 r1 h) (dJ 1 (uV fun r1 => uV fun r4 => uV fun r7 => uV fun r9 => uV fun r40 => uI fun r41 => uI fun r42 => uN fun h => WQ S r1 r4 r7 r9 r40 r41 r42 h) (dJ 2 (uV fun r4 => uV fun r7 => uV fun r9 => uN fun h => aCN S r4 r7 r9 h) (kP)))
noncomputable def F58 (args : List Value) (h : Hp) : aW := bP [Kd.v, Kd.v] args fun al => aP T58 1000000 0 al h
def aN6 : Nat := 2 + (62 - 2)
theorem a1N (S : Sg) (r4 : Value) (r7 : Value) (r9 : Value) (h : Hp) : aCN S r4 r7 r9 h = aF (bK env QW (aN6)) (bM env Try.f58.results.toList) (collect B58 A58 []) 2 S (AL.v r4 (AL.v r7 (AL.v r9 AL.n))) h := by kernel_rfl
theorem a1O (S : Sg) (r1 : Value) (r4 : Value) (r7 : Value) (r9 : Value) (r40 : Value) (r41 : Int) (r42 : Int) (h : Hp) : WQ S r1 r4 r7 r9 r40 r41 r42 h = aF (bK env QW (aN6)) (bM env Try.f58.results.toList) (collect B58 A58 []) 1 S (AL.v r1 (AL.v r4 (AL.v r7 (AL.v r9 (AL.v r40 (AL.i r41 (AL.i r42 AL.n))))))) h := by kernel_rfl
theorem a1P (S : Sg) (r0 : Value) (r1 : Value) (h : Hp) : aCP S r0 r1 h = aF (bK env QW (aN6)) (bM env Try.f58.results.toList) (collect B58 A58 []) 0 S (AL.v r0 (AL.v r1 AL.n)) h := by kernel_rfl
theorem t58 (S : Sg) : dW (fun l vs h => aF (bK env QW aN6) (bM env Try.f58.results.toList) (collect B58 A58 []) l S vs h) (T58 S) := by
 unfold T58
 refine dW.cons 0 (fun fJ h q e0 => ?_) ?_
 ·obtain ⟨r0, vs1, rfl, e1⟩ := aC e0
  obtain ⟨r1, vs2, rfl, e2⟩ := aC e1
  obtain ⟨rfl, ee⟩ := aN e2
  exact (a1P S r0 r1 h).symm.trans ee
 refine dW.cons 1 (fun fJ h q e0 => ?_) ?_
 ·obtain ⟨r1, vs1, rfl, e1⟩ := aC e0
  obtain ⟨r4, vs2, rfl, e2⟩ := aC e1
  obtain ⟨r7, vs3, rfl, e3⟩ := aC e2
  obtain ⟨r9, pF, rfl, e4⟩ := aC e3
  obtain ⟨r40, zS, rfl, e5⟩ := aC e4
  obtain ⟨r41, UG, rfl, e6⟩ := aM e5
  obtain ⟨r42, vs7, rfl, e7⟩ := aM e6
  obtain ⟨rfl, ee⟩ := aN e7
  exact (a1O S r1 r4 r7 r9 r40 r41 r42 h).symm.trans ee
 refine dW.cons 2 (fun fJ h q e0 => ?_) ?_
 ·obtain ⟨r4, vs1, rfl, e1⟩ := aC e0
  obtain ⟨r7, vs2, rfl, e2⟩ := aC e1
  obtain ⟨r9, vs3, rfl, e3⟩ := aC e2
  obtain ⟨rfl, ee⟩ := aN e3
  exact (a1N S r4 r7 r9 h).symm.trans ee
 exact dW.nil
theorem r58 : ∀ args h v h', F58 args h = some (v, h') → gW (C32) (.call 58 args.toArray h) (.ret v h') := by
 intro args h v h' e
 exact bJ (C := C32) (fn := Try.f58) (body := B58) (np := 2) (A := A58) (T := T58) (kinds := [Kd.v, Kd.v]) (by kernel_rfl) (by kernel_rfl) (by kernel_rfl) (by kernel_rfl) (dH eF) (by kernel_rfl) (fun S => t58 S) e
noncomputable def aD5 := kH 58 F58 QW
noncomputable def C33 : dM := cfg aD5
theorem bEU : C33.Ok := dI (C := C32) ok32 r58
noncomputable def B91 : Code := (Try.f91.body).getD .skip
def A91 : aB := (aB.node (some (0, [(0, Kd.v)])) aB.nil (aB.node none (aB.node none aB.nil (aB.node none (aB.node none aB.nil aB.nil) aB.nil)) (aB.node none aB.nil aB.nil)))
noncomputable def aCX (S : Sg) (r0 : Value) (h : Hp) : aW :=
 cO (qQ env .eql 22 (Operand.tmp 3) (Operand.const (Value.slice none 0 0)) r0 (Value.slice none 0 0)) fun v0 =>
 eO v0 fun b1 =>
 dF b1
 (some ((Value.slice none 0 0), h))
 (aS (bO env h 22 0 (List.toArray [])) fun v2 h2 =>
 aS (eX env h2 #[22, 22] (List.toArray [v2, r0])) fun v3 h3 =>
 some (v3, h3))
noncomputable def T91 (S : Sg) : Sg := dJ 0 (uV fun r0 => uN fun h => aCX S r0 h) (kP)
noncomputable def F91 (args : List Value) (h : Hp) : aW := bP [Kd.v] args fun al => aP T91 1000000 0 al h
def a1Q : Nat := 1 + (8 - 1)
theorem a1R (S : Sg) (r0 : Value) (h : Hp) : aCX S r0 h = aF (bK env aD5 (a1Q)) (bM env Try.f91.results.toList) (collect B91 A91 []) 0 S (AL.v r0 AL.n) h := by kernel_rfl
theorem t91 (S : Sg) : dW (fun l vs h => aF (bK env aD5 a1Q) (bM env Try.f91.results.toList) (collect B91 A91 []) l S vs h) (T91 S) := by
 unfold T91
 refine dW.cons 0 (fun fJ h q e0 => ?_) ?_
 ·obtain ⟨r0, vs1, rfl, e1⟩ := aC e0
  obtain ⟨rfl, ee⟩ := aN e1
  exact (a1R S r0 h).symm.trans ee
 exact dW.nil
theorem r91 : ∀ args h v h', F91 args h = some (v, h') → gW (C33) (.call 91 args.toArray h) (.ret v h') := by
 intro args h v h' e
 exact bJ (C := C33) (fn := Try.f91) (body := B91) (np := 1) (A := A91) (T := T91) (kinds := [Kd.v]) (by kernel_rfl) (by kernel_rfl) (by kernel_rfl) (by kernel_rfl) (dH eF) (by kernel_rfl) (fun S => t91 S) e
noncomputable def aD6 := kH 91 F91 aD5
noncomputable def C34 : dM := cfg aD6
theorem bEX : C34.Ok := dI (C := C33) bEU r91
noncomputable def B59 : Code := (Try.f59.body).getD .skip
def A59 : aB := (aB.node (some (0, [(0, Kd.v), (1, Kd.v)])) aB.nil (aB.node none aB.nil aB.nil))
noncomputable def aCY (S : Sg) (r0 : Value) (r1 : Value) (h : Hp) : aW :=
 bS h 71 (Array.toList (Value.cells r0)) fun a0 h0 =>
 bS h0 87 (Array.toList (Value.cells r1)) fun a1 h1 =>
 aT 0 a0 fun v2 =>
 aT 1 v2 fun v3 =>
 aK h1 v3 fun v4 =>
 dK v4 fun i5 =>
 cO (gB env h1 87 a1 none (some (Value.int .i64 i5)) none) fun v6 =>
 aS (dV F91 [v6] h1) fun v7 h7 =>
 some (v7, h7)
noncomputable def T59 (S : Sg) : Sg := dJ 0 (uV fun r0 => uV fun r1 => uN fun h => aCY S r0 r1 h) (kP)
noncomputable def F59 (args : List Value) (h : Hp) : aW := bP [Kd.v, Kd.v] args fun al => aP T59 1000000 0 al h
def a1S : Nat := 2 + (11 - 2)
theorem a1T (S : Sg) (r0 : Value) (r1 : Value) (h : Hp) : aCY S r0 r1 h = aF (bK env aD6 (a1S)) (bM env Try.f59.results.toList) (collect B59 A59 []) 0 S (AL.v r0 (AL.v r1 AL.n)) h := by kernel_rfl
theorem t59 (S : Sg) : dW (fun l vs h => aF (bK env aD6 a1S) (bM env Try.f59.results.toList) (collect B59 A59 []) l S vs h) (T59 S) := by
 unfold T59
 refine dW.cons 0 (fun fJ h q e0 => ?_) ?_
 ·obtain ⟨r0, vs1, rfl, e1⟩ := aC e0
  obtain ⟨r1, vs2, rfl, e2⟩ := aC e1
  obtain ⟨rfl, ee⟩ := aN e2
  exact (a1T S r0 r1 h).symm.trans ee
 exact dW.nil
theorem r59 : ∀ args h v h', F59 args h = some (v, h') → gW (C34) (.call 59 args.toArray h) (.ret v h') := by
 intro args h v h' e
 exact bJ (C := C34) (fn := Try.f59) (body := B59) (np := 2) (A := A59) (T := T59) (kinds := [Kd.v, Kd.v]) (by kernel_rfl) (by kernel_rfl) (by kernel_rfl) (by kernel_rfl) (dH eF) (by kernel_rfl) (fun S => t59 S) e
noncomputable def aD7 := kH 59 F59 aD6
noncomputable def C35 : dM := cfg aD7
theorem bE0 : C35.Ok := dI (C := C34) bEX r59
noncomputable def B22 : Code := (Try.f22.body).getD .skip
def A22 : aB := (aB.node (some (0, [(0, Kd.v), (1, Kd.v)])) aB.nil (aB.node none aB.nil (aB.node none (aB.node none aB.nil (aB.node none (aB.node none aB.nil aB.nil) aB.nil)) (aB.node none aB.nil aB.nil))))
noncomputable def aCZ (S : Sg) (r0 : Value) (r1 : Value) (h : Hp) : aW :=
 bS h 25 (Array.toList (Value.cells r0)) fun a0 h0 =>
 aY 4 h0 a0 fun v1 =>
 aS (dV F58 [v1, r1] h0) fun v2 h2 =>
 fK v2 0 fun v3 =>
 fK v2 1 fun v4 =>
 fK v2 2 fun v5 =>
 aX .i64 v5 fun i6 =>
 bS h2 71 [(Value.slice none 0 0), (Value.slice none 0 0), (Value.slice none 0 0), (Value.slice none 0 0), (Value.map none)] fun a7 h7 =>
 fG 5 h7 a7 v3 fun h8 =>
 bU (lW i6 (Int.ofNat 0)) fun b9 =>
 dF b9
 (some (Value.tuple (List.toArray [(Value.slice none 0 0), (Value.int .i64 i6)]), h8))
 (aY 5 h8 a7 fun v10 =>
 aY 5 h8 a7 fun v11 =>
 aS (aS (dV F60 [v11, v4] (Hp.mk (Hp.next h8) (Hp.next h8) (Hp.aG h8))) fun v _ => dF (kL v) (some (v, h8)) none) fun v12 h12 =>
 aS (dV F59 [v10, v12] h12) fun v13 h13 =>
 some (Value.tuple (List.toArray [v13, (Value.int .i64 (Int.ofNat 0))]), h13))
noncomputable def T22 (S : Sg) : Sg := dJ 0 (uV fun r0 => uV fun r1 => uN fun h => aCZ S r0 r1 h) (kP)
noncomputable def F22 (args : List Value) (h : Hp) : aW := bP [Kd.v, Kd.v] args fun al => aP T22 1000000 0 al h
def a1U : Nat := 2 + (24 - 2)
theorem a1V (S : Sg) (r0 : Value) (r1 : Value) (h : Hp) : aCZ S r0 r1 h = aF (bK env aD7 (a1U)) (bM env Try.f22.results.toList) (collect B22 A22 []) 0 S (AL.v r0 (AL.v r1 AL.n)) h := by kernel_rfl
theorem t22 (S : Sg) : dW (fun l vs h => aF (bK env aD7 a1U) (bM env Try.f22.results.toList) (collect B22 A22 []) l S vs h) (T22 S) := by
 unfold T22
 refine dW.cons 0 (fun fJ h q e0 => ?_) ?_
 ·obtain ⟨r0, vs1, rfl, e1⟩ := aC e0
  obtain ⟨r1, vs2, rfl, e2⟩ := aC e1
  obtain ⟨rfl, ee⟩ := aN e2
  exact (a1V S r0 r1 h).symm.trans ee
 exact dW.nil
theorem r22 : ∀ args h v h', F22 args h = some (v, h') → gW (C35) (.call 22 args.toArray h) (.ret v h') := by
 intro args h v h' e
 exact bJ (C := C35) (fn := Try.f22) (body := B22) (np := 2) (A := A22) (T := T22) (kinds := [Kd.v, Kd.v]) (by kernel_rfl) (by kernel_rfl) (by kernel_rfl) (by kernel_rfl) (dH eF) (by kernel_rfl) (fun S => t22 S) e
noncomputable def aD8 := kH 22 F22 aD7
noncomputable def C36 : dM := cfg aD8
theorem bE3 : C36.Ok := dI (C := C35) bE0 r22
noncomputable def B62 : Code := (Try.f62.body).getD .skip
def A62 : aB := (aB.node (some (0, [(0, Kd.v), (1, Kd.v)])) aB.nil (aB.node none aB.nil aB.nil))
noncomputable def aQB (S : Sg) (r0 : Value) (r1 : Value) (h : Hp) : aW :=
 bS h 71 (Array.toList (Value.cells r0)) fun a0 h0 =>
 aY 5 h0 a0 fun v1 =>
 aS (dV F60 [v1, r1] h0) fun v2 h2 =>
 aS (cO (F77 [v2] h2) fun v => some (v, h2)) fun v3 h3 =>
 cO (j4 env 87 (List.toArray [])) fun v4 =>
 cO (qQ env .eql 87 (Operand.tmp 8) (Operand.tmp 9) v3 v4) fun v5 =>
 eO v5 fun b6 =>
 some ((Value.bool b6), h3)
noncomputable def T62 (S : Sg) : Sg := dJ 0 (uV fun r0 => uV fun r1 => uN fun h => aQB S r0 r1 h) (kP)
noncomputable def F62 (args : List Value) (h : Hp) : aW := bP [Kd.v, Kd.v] args fun al => aP T62 1000000 0 al h
def a1W : Nat := 2 + (11 - 2)
theorem a1X (S : Sg) (r0 : Value) (r1 : Value) (h : Hp) : aQB S r0 r1 h = aF (bK env aD8 (a1W)) (bM env Try.f62.results.toList) (collect B62 A62 []) 0 S (AL.v r0 (AL.v r1 AL.n)) h := by kernel_rfl
theorem t62 (S : Sg) : dW (fun l vs h => aF (bK env aD8 a1W) (bM env Try.f62.results.toList) (collect B62 A62 []) l S vs h) (T62 S) := by
 unfold T62
 refine dW.cons 0 (fun fJ h q e0 => ?_) ?_
 ·obtain ⟨r0, vs1, rfl, e1⟩ := aC e0
  obtain ⟨r1, vs2, rfl, e2⟩ := aC e1
  obtain ⟨rfl, ee⟩ := aN e2
  exact (a1X S r0 r1 h).symm.trans ee
 exact dW.nil
theorem r62 : ∀ args h v h', F62 args h = some (v, h') → gW (C36) (.call 62 args.toArray h) (.ret v h') := by
 intro args h v h' e
 exact bJ (C := C36) (fn := Try.f62) (body := B62) (np := 2) (A := A62) (T := T62) (kinds := [Kd.v, Kd.v]) (by kernel_rfl) (by kernel_rfl) (by kernel_rfl) (by kernel_rfl) (dH eF) (by kernel_rfl) (fun S => t62 S) e
noncomputable def aD9 := kH 62 F62 aD8
noncomputable def C37 : dM := cfg aD9
theorem bE7 : C37.Ok := dI (C := C36) bE3 r62
noncomputable def B24 : Code := (Try.f24.body).getD .skip
def A24 : aB := (aB.node (some (0, [(0, Kd.v), (1, Kd.v)])) aB.nil (aB.node none aB.nil (aB.node none (aB.node none aB.nil (aB.node none (aB.node none aB.nil aB.nil) aB.nil)) (aB.node none (aB.node none aB.nil (aB.node none (aB.node none aB.nil aB.nil) aB.nil)) (aB.node none aB.nil aB.nil)))))
noncomputable def aQC (S : Sg) (r0 : Value) (r1 : Value) (h : Hp) : aW :=
 bS h 25 (Array.toList (Value.cells r0)) fun a0 h0 =>
 aY 4 h0 a0 fun v1 =>
 aS (dV F58 [v1, r1] h0) fun v2 h2 =>
 fK v2 0 fun v3 =>
 fK v2 1 fun v4 =>
 fK v2 2 fun v5 =>
 aX .i64 v5 fun i6 =>
 bS h2 71 [(Value.slice none 0 0), (Value.slice none 0 0), (Value.slice none 0 0), (Value.slice none 0 0), (Value.map none)] fun a7 h7 =>
 fG 5 h7 a7 v3 fun h8 =>
 bU (lW i6 (Int.ofNat 0)) fun b9 =>
 dF b9
 (some (Value.tuple (List.toArray [(Value.int .i64 (Int.ofNat 0)), (Value.int .i64 i6)]), h8))
 (aY 5 h8 a7 fun v10 =>
 aS (dV F62 [v10, v4] h8) fun v11 h11 =>
 eO v11 fun b12 =>
 bU b12 fun b13 =>
 dF b13
 (some (Value.tuple (List.toArray [(Value.int .i64 (Int.ofNat 0)), (Value.int .i64 (Int.ofNat 9))]), h11))
 (aY 5 h11 a7 fun v14 =>
 aS (cO (F54 [v14, v4] h11) fun v => some (v, h11)) fun v15 h15 =>
 aX .i64 v15 fun i16 =>
 some (Value.tuple (List.toArray [(Value.int .i64 i16), (Value.int .i64 (Int.ofNat 0))]), h15)))
noncomputable def T24 (S : Sg) : Sg := dJ 0 (uV fun r0 => uV fun r1 => uN fun h => aQC S r0 r1 h) (kP)
noncomputable def F24 (args : List Value) (h : Hp) : aW := bP [Kd.v, Kd.v] args fun al => aP T24 1000000 0 al h
def a1Z : Nat := 2 + (26 - 2)
theorem a19 (S : Sg) (r0 : Value) (r1 : Value) (h : Hp) : aQC S r0 r1 h = aF (bK env aD9 (a1Z)) (bM env Try.f24.results.toList) (collect B24 A24 []) 0 S (AL.v r0 (AL.v r1 AL.n)) h := by kernel_rfl
theorem t24 (S : Sg) : dW (fun l vs h => aF (bK env aD9 a1Z) (bM env Try.f24.results.toList) (collect B24 A24 []) l S vs h) (T24 S) := by
 unfold T24
 refine dW.cons 0 (fun fJ h q e0 => ?_) ?_
 ·obtain ⟨r0, vs1, rfl, e1⟩ := aC e0
  obtain ⟨r1, vs2, rfl, e2⟩ := aC e1
  obtain ⟨rfl, ee⟩ := aN e2
  exact (a19 S r0 r1 h).symm.trans ee
 exact dW.nil
theorem DZ : ∀ args h v h', F24 args h = some (v, h') → gW (C37) (.call 24 args.toArray h) (.ret v h') := by
 intro args h v h' e
 exact bJ (C := C37) (fn := Try.f24) (body := B24) (np := 2) (A := A24) (T := T24) (kinds := [Kd.v, Kd.v]) (by kernel_rfl) (by kernel_rfl) (by kernel_rfl) (by kernel_rfl) (dH eF) (by kernel_rfl) (fun S => t24 S) e
noncomputable def aKZ := kH 24 F24 aD9
noncomputable def C38 : dM := cfg aKZ
theorem a2A : C38.Ok := dI (C := C37) bE7 DZ
noncomputable abbrev a2B := aKZ
theorem okE : (cfg a2B).Ok := a2A
end Go.Proofs.Ytepepiajmdpiiaa.K
