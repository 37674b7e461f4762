/- Functions told. -/
import Derived.Test.YtepepiajmdpiiaaPlTab
open Go Go.Eng
set_option maxRecDepth 100000
set_option linter.unusedVariables false
namespace Go.Proofs.Ytepepiajmdpiiaa.K
noncomputable def B82 : Code := (Try.f82.body).getD .skip
noncomputable def A82 : G.aB (List KI) := (G.aB.node (some (0, [KI.reg 0 (Kd.i .i64), KI.reg 1 (Kd.i .i64), KI.reg 2 (Kd.v)])) G.aB.nil (G.aB.node none (G.aB.node none G.aB.nil (G.aB.node none (G.aB.node (some (1, [KI.reg 0 (Kd.i .i64), KI.reg 1 (Kd.i .i64), KI.reg 9 (Kd.v), KI.reg 10 (Kd.i .i64), KI.reg 11 (Kd.i .i64)])) (G.aB.node none G.aB.nil (G.aB.node none (G.aB.node none G.aB.nil G.aB.nil) (G.aB.node none (G.aB.node none (G.aB.node none G.aB.nil (G.aB.node none G.aB.nil (G.aB.node none (G.aB.node none G.aB.nil G.aB.nil) G.aB.nil))) G.aB.nil) G.aB.nil))) G.aB.nil) G.aB.nil)) (G.aB.node (some (2, [])) G.aB.nil G.aB.nil)))
noncomputable def aCG (h : Hp) (S : Nat → aC → Option Value) : Option Value :=
 some (Value.bool true)
noncomputable def QG (h : Hp) (S : Nat → aC → Option Value) (r0 : Int) (r1 : Int) (r9 : Value) (iF : Int) (iH : Int) : Option Value :=
 dL (oN iH iF) fun b0 =>
 dJ b0
 (eU 1 r9 iH fun v1 =>
 aQ h v1 fun v2 =>
 aY .i64 v2 fun i3 =>
 dL (oN i3 r0) fun b4 =>
 dJ b4
 (some (Value.bool false))
 (dL (oN r1 i3) fun b5 =>
 dJ b5
 (some (Value.bool false))
 (wrap64 (Int.add iH (Int.ofNat 1)) fun i6 =>
 S 1 (aC.i r0 (aC.i r1 (aC.v r9 (aC.i iF (aC.i i6 aC.n))))))))
 (S 2 aC.n)
noncomputable def aCI (h : Hp) (S : Nat → aC → Option Value) (r0 : Int) (r1 : Int) (r2 : Value) : Option Value :=
 eO r2 fun i0 =>
 S 1 (aC.i r0 (aC.i r1 (aC.v r2 (aC.i i0 (aC.i (Int.ofNat 0) aC.n)))))
noncomputable def T82 (h : Hp) (S : Nat → aC → Option Value) : Nat → aC → Option Value := eG 0 (wI fun r0 => wI fun r1 => wV fun r2 => wN (aCI h S r0 r1 r2)) (eG 1 (wI fun r0 => wI fun r1 => wV fun r9 => wI fun iF => wI fun iH => wN (QG h S r0 r1 r9 iF iH)) (eG 2 (wN (aCG h S)) (l9)))
noncomputable def F82 (args : List Value) (h : Hp) : Option Value := plainO (eX [Kd.i .i64, Kd.i .i64, Kd.v] args fun al => G.aK (T82 h) 1000000 0 al)
def aOS : Nat := 3 + (24 - 3)
theorem aZI (h : Hp) (S : Nat → aC → Option Value) : aCG h S = G.aF bP aP fA (fB env pf0 aOS h) (fG env Try.f82.results.toList) (G.collect B82 A82 []) 2 S aC.n := by kernel_rfl
theorem aZJ (h : Hp) (S : Nat → aC → Option Value) (r0 : Int) (r1 : Int) (r9 : Value) (iF : Int) (iH : Int) : QG h S r0 r1 r9 iF iH = G.aF bP aP fA (fB env pf0 aOS h) (fG env Try.f82.results.toList) (G.collect B82 A82 []) 1 S (aC.i r0 (aC.i r1 (aC.v r9 (aC.i iF (aC.i iH aC.n))))) := by kernel_rfl
theorem aZK (h : Hp) (S : Nat → aC → Option Value) (r0 : Int) (r1 : Int) (r2 : Value) : aCI h S r0 r1 r2 = G.aF bP aP fA (fB env pf0 aOS h) (fG env Try.f82.results.toList) (G.collect B82 A82 []) 0 S (aC.i r0 (aC.i r1 (aC.v r2 aC.n))) := by kernel_rfl
theorem t82 (h : Hp) (S : Nat → aC → Option Value) : dI (fun l al => G.aF bP aP fA (fB env pf0 aOS h) (fG env Try.f82.results.toList) (G.collect B82 A82 []) l S al) (T82 h S) := by
 unfold T82
 refine dI.cons 0 (fun gF q e0 => ?_) ?_
 ·obtain ⟨r0, vs1, rfl, e1⟩ := aS e0
  obtain ⟨r1, vs2, rfl, e2⟩ := aS e1
  obtain ⟨r2, vs3, rfl, e3⟩ := bB e2
  obtain ⟨rfl, ee⟩ := bM e3
  exact (aZK h S r0 r1 r2).symm.trans ee
 refine dI.cons 1 (fun gF q e0 => ?_) ?_
 ·obtain ⟨r0, vs1, rfl, e1⟩ := aS e0
  obtain ⟨r1, vs2, rfl, e2⟩ := aS e1
  obtain ⟨r9, vs3, rfl, e3⟩ := bB e2
  obtain ⟨iF, tY, rfl, e4⟩ := aS e3
  obtain ⟨iH, JU, rfl, e5⟩ := aS e4
  obtain ⟨rfl, ee⟩ := bM e5
  exact (aZJ h S r0 r1 r9 iF iH).symm.trans ee
 refine dI.cons 2 (fun gF q e0 => ?_) ?_
 ·
  obtain ⟨rfl, ee⟩ := bM e0
  exact (aZI h S).symm.trans ee
 exact dI.nil
theorem r82 : PSound Try.prog 82 F82 := dW (C := C0) ok0 (pf := pf0) aQE (fn := Try.f82) (body := B82) (kinds := [Kd.i .i64, Kd.i .i64, Kd.v]) (A := A82) (T := T82) (by kernel_rfl) (by kernel_rfl) (by kernel_rfl) (by kernel_rfl) (fun h S => t82 h S)
noncomputable def pf1 : PF := J9 82 F82 pf0
theorem aQF : fO Try.prog pf1 := jT r82 aQE
noncomputable def aOT := pI 82 F82 aZM
noncomputable def C1 : dK := cfg aOT
theorem ok1 : C1.Ok := iB (C := C0) ok0 r82
noncomputable def B81 : Code := (Try.f81.body).getD .skip
def A81 : aB := (aB.node (some (0, [(0, Kd.v), (1, Kd.i .i64), (2, Kd.v)])) aB.nil (aB.node none (aB.node none aB.nil (aB.node none (aB.node none aB.nil aB.nil) aB.nil)) (aB.node none aB.nil aB.nil)))
noncomputable def aD2 (S : Sg) (r0 : Value) (r1 : Int) (r2 : Value) (h : Hp) : aZ :=
 aQ h r2 fun v0 =>
 aY .i64 v0 fun i1 =>
 aW (bW env h 22 1 (List.toArray [(0, (Value.int .i64 r1))])) fun v2 h2 =>
 aW (dG (F82 [(Value.int .i64 (Int.ofNat 0)), (Value.int .i64 i1), v2] h2) fun v => some (v, h2)) fun v3 h3 =>
 eZ v3 fun b4 =>
 bZ b4 fun b5 =>
 dJ b5
 (some ((Value.int .i64 (Int.ofNat 7)), h3))
 (some ((Value.int .i64 (Int.ofNat 0)), h3))
noncomputable def T81 (S : Sg) : Sg := dY 0 (uV fun r0 => uI fun r1 => uV fun r2 => uN fun h => aD2 S r0 r1 r2 h) (kT)
noncomputable def F81 (args : List Value) (h : Hp) : aZ := bQ [Kd.v, Kd.i .i64, Kd.v] args fun al => aK T81 1000000 0 al h
def aZN : Nat := 3 + (11 - 3)
theorem aZO (S : Sg) (r0 : Value) (r1 : Int) (r2 : Value) (h : Hp) : aD2 S r0 r1 r2 h = aF (bT env aOT (aZN)) (bU env Try.f81.results.toList) (collect B81 A81 []) 0 S (AL.v r0 (AL.i r1 (AL.v r2 AL.n))) h := by kernel_rfl
theorem t81 (S : Sg) : eH (fun l vs h => aF (bT env aOT aZN) (bU env Try.f81.results.toList) (collect B81 A81 []) l S vs h) (T81 S) := by
 unfold T81
 refine eH.cons 0 (fun gF h q e0 => ?_) ?_
 ·obtain ⟨r0, vs1, rfl, e1⟩ := aD e0
  obtain ⟨r1, vs2, rfl, e2⟩ := aV e1
  obtain ⟨r2, vs3, rfl, e3⟩ := aD e2
  obtain ⟨rfl, ee⟩ := aR e3
  exact (aZO S r0 r1 r2 h).symm.trans ee
 exact eH.nil
theorem r81 : ∀ args h v h', F81 args h = some (v, h') → iE (C1) (.call 81 args.toArray h) (.ret v h') := by
 intro args h v h' e
 exact bL (C := C1) (fn := Try.f81) (body := B81) (np := 3) (A := A81) (T := T81) (kinds := [Kd.v, Kd.i .i64, Kd.v]) (by kernel_rfl) (by kernel_rfl) (by kernel_rfl) (by kernel_rfl) (dP eB) (by kernel_rfl) (fun S => t81 S) e
noncomputable def OO := kS 81 F81 aOT
noncomputable def C2 : dK := cfg OO
theorem ok2 : C2.Ok := dQ (C := C1) ok1 r81
noncomputable def aKV : Code := (Try.f104.body).getD .skip
def aKW : aB := (aB.node (some (0, [(0, Kd.v), (1, Kd.v)])) aB.nil (aB.node none (aB.node none aB.nil (aB.node none (aB.node (some (1, [(0, Kd.v), (1, Kd.v), (9, Kd.v), (10, Kd.i .i64), (11, Kd.i .i64)])) (aB.node none aB.nil (aB.node none (aB.node none aB.nil aB.nil) (aB.node none (aB.node none (aB.node none aB.nil (aB.node none aB.nil (aB.node none aB.nil (aB.node none (aB.node none aB.nil aB.nil) aB.nil)))) aB.nil) aB.nil))) aB.nil) aB.nil)) (aB.node (some (2, [])) aB.nil aB.nil)))
noncomputable def aKX (S : Sg) (h : Hp) : aZ :=
 some (Value.tuple (List.toArray [(Value.int .i64 (Int.ofNat 0)), (Value.int .i64 (Int.ofNat 0))]), h)
noncomputable def H8 (S : Sg) (r0 : Value) (r1 : Value) (r9 : Value) (iF : Int) (iH : Int) (h : Hp) : aZ :=
 dL (oN iH iF) fun b0 =>
 dJ b0
 (eU 1 r9 iH fun v1 =>
 aQ h v1 fun v2 =>
 aY .i64 v2 fun i3 =>
 dG (jZ env h 22 r0 none (some (Value.int .i64 iH)) none) fun v4 =>
 aW (qK OO r1 [v4, (Value.int .i64 i3)] h) fun v5 h5 =>
 aY .i64 v5 fun i6 =>
 bZ (nK i6 (Int.ofNat 0)) fun b7 =>
 dJ b7
 (some (Value.tuple (List.toArray [(Value.int .i64 iH), (Value.int .i64 i6)]), h5))
 (wrap64 (Int.add iH (Int.ofNat 1)) fun i8 =>
 S 1 (AL.v r0 (AL.v r1 (AL.v r9 (AL.i iF (AL.i i8 AL.n))))) h5))
 (S 2 AL.n h)
noncomputable def UJ (S : Sg) (r0 : Value) (r1 : Value) (h : Hp) : aZ :=
 eO r0 fun i0 =>
 S 1 (AL.v r0 (AL.v r1 (AL.v r0 (AL.i i0 (AL.i (Int.ofNat 0) AL.n))))) h
noncomputable def XY (S : Sg) : Sg := dY 0 (uV fun r0 => uV fun r1 => uN fun h => UJ S r0 r1 h) (dY 1 (uV fun r0 => uV fun r1 => uV fun r9 => uI fun iF => uI fun iH => uN fun h => H8 S r0 r1 r9 iF iH h) (dY 2 (uN fun h => aKX S  h) (kT)))
noncomputable def aOL (args : List Value) (h : Hp) : aZ := bQ [Kd.v, Kd.v] args fun al => aK XY 1000000 0 al h
def aED : Nat := 2 + (27 - 2)
theorem aTZ (S : Sg) (h : Hp) : aKX S  h = aF (bT env OO (aED)) (bU env Try.f104.results.toList) (collect aKV aKW []) 2 S AL.n h := by kernel_rfl
theorem aT0 (S : Sg) (r0 : Value) (r1 : Value) (r9 : Value) (iF : Int) (iH : Int) (h : Hp) : H8 S r0 r1 r9 iF iH h = aF (bT env OO (aED)) (bU env Try.f104.results.toList) (collect aKV aKW []) 1 S (AL.v r0 (AL.v r1 (AL.v r9 (AL.i iF (AL.i iH AL.n))))) h := by kernel_rfl
theorem aT1 (S : Sg) (r0 : Value) (r1 : Value) (h : Hp) : UJ S r0 r1 h = aF (bT env OO (aED)) (bU env Try.f104.results.toList) (collect aKV aKW []) 0 S (AL.v r0 (AL.v r1 AL.n)) h := by kernel_rfl
theorem t104 (S : Sg) : eH (fun l vs h => aF (bT env OO aED) (bU env Try.f104.results.toList) (collect aKV aKW []) l S vs h) (XY S) := by
 unfold XY
 refine eH.cons 0 (fun gF h q e0 => ?_) ?_
 ·obtain ⟨r0, vs1, rfl, e1⟩ := aD e0
  obtain ⟨r1, vs2, rfl, e2⟩ := aD e1
  obtain ⟨rfl, ee⟩ := aR e2
  exact (aT1 S r0 r1 h).symm.trans ee
 refine eH.cons 1 (fun gF h q e0 => ?_) ?_
 ·obtain ⟨r0, vs1, rfl, e1⟩ := aD e0
  obtain ⟨r1, vs2, rfl, e2⟩ := aD e1
  obtain ⟨r9, vs3, rfl, e3⟩ := aD e2
  obtain ⟨iF, tY, rfl, e4⟩ := aV e3
  obtain ⟨iH, JU, rfl, e5⟩ := aV e4
  obtain ⟨rfl, ee⟩ := aR e5
  exact (aT0 S r0 r1 r9 iF iH h).symm.trans ee
 refine eH.cons 2 (fun gF h q e0 => ?_) ?_
 ·
  obtain ⟨rfl, ee⟩ := aR e0
  exact (aTZ S  h).symm.trans ee
 exact eH.nil
theorem bCH : ∀ args h v h', aOL args h = some (v, h') → iE (C2) (.call 104 args.toArray h) (.ret v h') := by
 intro args h v h' e
 exact bL (C := C2) (fn := Try.f104) (body := aKV) (np := 2) (A := aKW) (T := XY) (kinds := [Kd.v, Kd.v]) (by kernel_rfl) (by kernel_rfl) (by kernel_rfl) (by kernel_rfl) (dP eB) (by kernel_rfl) (fun S => t104 S) e
noncomputable def aOU := kS 104 aOL OO
noncomputable def C3 : dK := cfg aOU
theorem ok3 : C3.Ok := dQ (C := C2) ok2 bCH
noncomputable def B80 : Code := (Try.f80.body).getD .skip
def A80 : aB := (aB.node (some (0, [(0, Kd.v), (1, Kd.i .i64), (2, Kd.v)])) aB.nil (aB.node none (aB.node none aB.nil (aB.node none (aB.node none aB.nil aB.nil) aB.nil)) (aB.node none aB.nil aB.nil)))
noncomputable def aD0 (S : Sg) (r0 : Value) (r1 : Int) (r2 : Value) (h : Hp) : aZ :=
 eO r0 fun i0 =>
 dL (oN r1 i0) fun b1 =>
 dJ b1
 (some (Value.tuple (List.toArray [(Value.int .i64 (Int.ofNat 0)), (Value.int .i64 (Int.ofNat 3))]), h))
 (aW (dZ aOL [r0, r2] h) fun v2 h2 =>
 gD v2 0 fun v3 =>
 aY .i64 v3 fun i4 =>
 gD v2 1 fun v5 =>
 aY .i64 v5 fun i6 =>
 some (Value.tuple (List.toArray [(Value.int .i64 i4), (Value.int .i64 i6)]), h2))
noncomputable def T80 (S : Sg) : Sg := dY 0 (uV fun r0 => uI fun r1 => uV fun r2 => uN fun h => aD0 S r0 r1 r2 h) (kT)
noncomputable def F80 (args : List Value) (h : Hp) : aZ := bQ [Kd.v, Kd.i .i64, Kd.v] args fun al => aK T80 1000000 0 al h
def aZP : Nat := 3 + (17 - 3)
theorem aZQ (S : Sg) (r0 : Value) (r1 : Int) (r2 : Value) (h : Hp) : aD0 S r0 r1 r2 h = aF (bT env aOU (aZP)) (bU env Try.f80.results.toList) (collect B80 A80 []) 0 S (AL.v r0 (AL.i r1 (AL.v r2 AL.n))) h := by kernel_rfl
theorem t80 (S : Sg) : eH (fun l vs h => aF (bT env aOU aZP) (bU env Try.f80.results.toList) (collect B80 A80 []) l S vs h) (T80 S) := by
 unfold T80
 refine eH.cons 0 (fun gF h q e0 => ?_) ?_
 ·obtain ⟨r0, vs1, rfl, e1⟩ := aD e0
  obtain ⟨r1, vs2, rfl, e2⟩ := aV e1
  obtain ⟨r2, vs3, rfl, e3⟩ := aD e2
  obtain ⟨rfl, ee⟩ := aR e3
  exact (aZQ S r0 r1 r2 h).symm.trans ee
 exact eH.nil
theorem r80 : ∀ args h v h', F80 args h = some (v, h') → iE (C3) (.call 80 args.toArray h) (.ret v h') := by
 intro args h v h' e
 exact bL (C := C3) (fn := Try.f80) (body := B80) (np := 3) (A := A80) (T := T80) (kinds := [Kd.v, Kd.i .i64, Kd.v]) (by kernel_rfl) (by kernel_rfl) (by kernel_rfl) (by kernel_rfl) (dP eB) (by kernel_rfl) (fun S => t80 S) e
noncomputable def aOV := kS 80 F80 aOU
noncomputable def C4 : dK := cfg aOV
theorem ok4 : C4.Ok := dQ (C := C3) ok3 r80
noncomputable def B48 : Code := (Try.f48.body).getD .skip
def A48 : aB := (aB.node (some (0, [(0, Kd.v), (1, Kd.i .i64), (2, Kd.i .i64)])) aB.nil (aB.node none (aB.node none aB.nil (aB.node none (aB.node none aB.nil aB.nil) aB.nil)) (aB.node none aB.nil aB.nil)))
noncomputable def aD3 (S : Sg) (r0 : Value) (r1 : Int) (r2 : Int) (h : Hp) : aZ :=
 bV h 3 [(Value.int .i64 r2)] fun a0 h0 =>
 eO r0 fun i1 =>
 dL (nK i1 (Int.ofNat 0)) fun b2 =>
 dJ b2
 (some (Value.tuple (List.toArray [(Value.int .i64 (Int.ofNat 0)), (Value.int .i64 (Int.ofNat 3))]), h0))
 (aW (dZ F80 [r0, (Value.int .i64 r1), (Value.func (.func 81) (List.toArray []) (List.toArray [a0]))] h0) fun v3 h3 =>
 gD v3 0 fun v4 =>
 aY .i64 v4 fun i5 =>
 gD v3 1 fun v6 =>
 aY .i64 v6 fun i7 =>
 some (Value.tuple (List.toArray [(Value.int .i64 i5), (Value.int .i64 i7)]), h3))
noncomputable def T48 (S : Sg) : Sg := dY 0 (uV fun r0 => uI fun r1 => uI fun r2 => uN fun h => aD3 S r0 r1 r2 h) (kT)
noncomputable def F48 (args : List Value) (h : Hp) : aZ := bQ [Kd.v, Kd.i .i64, Kd.i .i64] args fun al => aK T48 1000000 0 al h
def aZR : Nat := 3 + (17 - 3)
theorem aZS (S : Sg) (r0 : Value) (r1 : Int) (r2 : Int) (h : Hp) : aD3 S r0 r1 r2 h = aF (bT env aOV (aZR)) (bU env Try.f48.results.toList) (collect B48 A48 []) 0 S (AL.v r0 (AL.i r1 (AL.i r2 AL.n))) h := by kernel_rfl
theorem t48 (S : Sg) : eH (fun l vs h => aF (bT env aOV aZR) (bU env Try.f48.results.toList) (collect B48 A48 []) l S vs h) (T48 S) := by
 unfold T48
 refine eH.cons 0 (fun gF h q e0 => ?_) ?_
 ·obtain ⟨r0, vs1, rfl, e1⟩ := aD e0
  obtain ⟨r1, vs2, rfl, e2⟩ := aV e1
  obtain ⟨r2, vs3, rfl, e3⟩ := aV e2
  obtain ⟨rfl, ee⟩ := aR e3
  exact (aZS S r0 r1 r2 h).symm.trans ee
 exact eH.nil
theorem r48 : ∀ args h v h', F48 args h = some (v, h') → iE (C4) (.call 48 args.toArray h) (.ret v h') := by
 intro args h v h' e
 exact bL (C := C4) (fn := Try.f48) (body := B48) (np := 3) (A := A48) (T := T48) (kinds := [Kd.v, Kd.i .i64, Kd.i .i64]) (by kernel_rfl) (by kernel_rfl) (by kernel_rfl) (by kernel_rfl) (dP eB) (by kernel_rfl) (fun S => t48 S) e
noncomputable def aZT := kS 48 F48 aOV
noncomputable def C5 : dK := cfg aZT
theorem ok5 : C5.Ok := dQ (C := C4) ok4 r48
noncomputable def B87 : Code := (Try.f87.body).getD .skip
noncomputable def A87 : G.aB (List KI) := (G.aB.node (some (0, [KI.reg 0 (Kd.v), KI.reg 1 (Kd.v)])) G.aB.nil (G.aB.node none G.aB.nil G.aB.nil))
noncomputable def aDC (h : Hp) (S : Nat → aC → Option Value) (r0 : Value) (r1 : Value) : Option Value :=
 oM (Array.toList (Value.cells r0)) fun c0 =>
 BB c0 0 fun v1 =>
 aX 0 r1 fun v2 =>
 aQ h v2 fun v3 =>
 dG (qG env .eql 9 (Operand.tmp 5) (Operand.tmp 7) v1 v3) fun v4 =>
 eZ v4 fun b5 =>
 some (Value.bool b5)
noncomputable def T87 (h : Hp) (S : Nat → aC → Option Value) : Nat → aC → Option Value := eG 0 (wV fun r0 => wV fun r1 => wN (aDC h S r0 r1)) (l9)
noncomputable def F87 (args : List Value) (h : Hp) : Option Value := plainO (eX [Kd.v, Kd.v] args fun al => G.aK (T87 h) 1000000 0 al)
def aZU : Nat := 2 + (9 - 2)
theorem aZV (h : Hp) (S : Nat → aC → Option Value) (r0 : Value) (r1 : Value) : aDC h S r0 r1 = G.aF bP aP fA (fB env pf1 aZU h) (fG env Try.f87.results.toList) (G.collect B87 A87 []) 0 S (aC.v r0 (aC.v r1 aC.n)) := by kernel_rfl
theorem t87 (h : Hp) (S : Nat → aC → Option Value) : dI (fun l al => G.aF bP aP fA (fB env pf1 aZU h) (fG env Try.f87.results.toList) (G.collect B87 A87 []) l S al) (T87 h S) := by
 unfold T87
 refine dI.cons 0 (fun gF q e0 => ?_) ?_
 ·obtain ⟨r0, vs1, rfl, e1⟩ := bB e0
  obtain ⟨r1, vs2, rfl, e2⟩ := bB e1
  obtain ⟨rfl, ee⟩ := bM e2
  exact (aZV h S r0 r1).symm.trans ee
 exact dI.nil
theorem r87 : PSound Try.prog 87 F87 := dW (C := C0) ok0 (pf := pf1) aQF (fn := Try.f87) (body := B87) (kinds := [Kd.v, Kd.v]) (A := A87) (T := T87) (by kernel_rfl) (by kernel_rfl) (by kernel_rfl) (by kernel_rfl) (fun h S => t87 h S)
noncomputable def pf2 : PF := J9 87 F87 pf1
theorem aQG : fO Try.prog pf2 := jT r87 aQF
noncomputable def aZX := pI 87 F87 aZT
noncomputable def C6 : dK := cfg aZX
theorem ok6 : C6.Ok := iB (C := C5) ok5 r87
noncomputable def aT2 : Code := (Try.f106.body).getD .skip
noncomputable def aT3 : G.aB (List KI) := (G.aB.node (some (0, [KI.reg 0 (Kd.i .u8)])) G.aB.nil (G.aB.node none G.aB.nil G.aB.nil))
noncomputable def TW (h : Hp) (S : Nat → aC → Option Value) (r0 : Int) : Option Value :=
 bZ (oN r0 (Int.ofNat 97)) fun b0 =>
 dJ b0
 (bZ (oN (Int.ofNat 122) r0) fun b1 =>
 some (Value.bool b1))
 (some (Value.bool false))
noncomputable def aJE (h : Hp) (S : Nat → aC → Option Value) : Nat → aC → Option Value := eG 0 (wI fun r0 => wN (TW h S r0)) (l9)
noncomputable def aGE (args : List Value) (h : Hp) : Option Value := plainO (eX [Kd.i .u8] args fun al => G.aK (aJE h) 1000000 0 al)
def aQH : Nat := 1 + (9 - 1)
theorem aT4 (h : Hp) (S : Nat → aC → Option Value) (r0 : Int) : TW h S r0 = G.aF bP aP fA (fB env pf2 aQH h) (fG env Try.f106.results.toList) (G.collect aT2 aT3 []) 0 S (aC.i r0 aC.n) := by kernel_rfl
theorem t106 (h : Hp) (S : Nat → aC → Option Value) : dI (fun l al => G.aF bP aP fA (fB env pf2 aQH h) (fG env Try.f106.results.toList) (G.collect aT2 aT3 []) l S al) (aJE h S) := by
 unfold aJE
 refine dI.cons 0 (fun gF q e0 => ?_) ?_
 ·obtain ⟨r0, vs1, rfl, e1⟩ := aS e0
  obtain ⟨rfl, ee⟩ := bM e1
  exact (aT4 h S r0).symm.trans ee
 exact dI.nil
theorem aZY : PSound Try.prog 106 aGE := dW (C := C0) ok0 (pf := pf2) aQG (fn := Try.f106) (body := aT2) (kinds := [Kd.i .u8]) (A := aT3) (T := aJE) (by kernel_rfl) (by kernel_rfl) (by kernel_rfl) (by kernel_rfl) (fun h S => t106 h S)
noncomputable def pf3 : PF := J9 106 aGE pf2
theorem aQI : fO Try.prog pf3 := jT aZY aQG
noncomputable def aZ0 := pI 106 aGE aZX
noncomputable def C7 : dK := cfg aZ0
theorem ok7 : C7.Ok := iB (C := C6) ok6 aZY
noncomputable def aT5 : Code := (Try.f107.body).getD .skip
noncomputable def aT6 : G.aB (List KI) := (G.aB.node (some (0, [KI.reg 0 (Kd.i .u8)])) G.aB.nil (G.aB.node none G.aB.nil G.aB.nil))
noncomputable def TY (h : Hp) (S : Nat → aC → Option Value) (r0 : Int) : Option Value :=
 bZ (oN r0 (Int.ofNat 48)) fun b0 =>
 dJ b0
 (bZ (oN (Int.ofNat 57) r0) fun b1 =>
 some (Value.bool b1))
 (some (Value.bool false))
noncomputable def aJH (h : Hp) (S : Nat → aC → Option Value) : Nat → aC → Option Value := eG 0 (wI fun r0 => wN (TY h S r0)) (l9)
noncomputable def aJG (args : List Value) (h : Hp) : Option Value := plainO (eX [Kd.i .u8] args fun al => G.aK (aJH h) 1000000 0 al)
def aQJ : Nat := 1 + (9 - 1)
theorem aT7 (h : Hp) (S : Nat → aC → Option Value) (r0 : Int) : TY h S r0 = G.aF bP aP fA (fB env pf3 aQJ h) (fG env Try.f107.results.toList) (G.collect aT5 aT6 []) 0 S (aC.i r0 aC.n) := by kernel_rfl
theorem t107 (h : Hp) (S : Nat → aC → Option Value) : dI (fun l al => G.aF bP aP fA (fB env pf3 aQJ h) (fG env Try.f107.results.toList) (G.collect aT5 aT6 []) l S al) (aJH h S) := by
 unfold aJH
 refine dI.cons 0 (fun gF q e0 => ?_) ?_
 ·obtain ⟨r0, vs1, rfl, e1⟩ := aS e0
  obtain ⟨rfl, ee⟩ := bM e1
  exact (aT7 h S r0).symm.trans ee
 exact dI.nil
theorem aZ1 : PSound Try.prog 107 aJG := dW (C := C0) ok0 (pf := pf3) aQI (fn := Try.f107) (body := aT5) (kinds := [Kd.i .u8]) (A := aT6) (T := aJH) (by kernel_rfl) (by kernel_rfl) (by kernel_rfl) (by kernel_rfl) (fun h S => t107 h S)
noncomputable def pf4 : PF := J9 107 aJG pf3
theorem aQK : fO Try.prog pf4 := jT aZ1 aQI
noncomputable def aG0 := pI 107 aJG aZ0
noncomputable def C8 : dK := cfg aG0
theorem ok8 : C8.Ok := iB (C := C7) ok7 aZ1
noncomputable def B85 : Code := (Try.f85.body).getD .skip
def A85 : aB := (aB.node (some (0, [(0, Kd.v)])) aB.nil (aB.node none (aB.node none aB.nil (aB.node none (aB.node none aB.nil aB.nil) aB.nil)) (aB.node none (aB.node none aB.nil (aB.node none (aB.node (some (1, [(0, Kd.v), (16, Kd.i .i64), (17, Kd.i .i64)])) (aB.node none aB.nil (aB.node none (aB.node none aB.nil aB.nil) (aB.node none (aB.node none (aB.node none aB.nil (aB.node none aB.nil (aB.node none (aB.node none aB.nil aB.nil) aB.nil))) aB.nil) aB.nil))) aB.nil) aB.nil)) (aB.node (some (2, [])) aB.nil aB.nil))))
noncomputable def aCJ (S : Sg) (h : Hp) : aZ :=
 some ((Value.bool true), h)
noncomputable def QJ (S : Sg) (r0 : Value) (r16 : Int) (FJ : Int) (h : Hp) : aZ :=
 dL (oN FJ r16) fun b0 =>
 dJ b0
 (dG (kL env 9 r0 (Value.int .i64 FJ)) fun v1 =>
 aY .u8 v1 fun i2 =>
 aW (dG (aGE [(Value.int .u8 i2)] h) fun v => some (v, h)) fun v3 h3 =>
 eZ v3 fun b4 =>
 bZ b4 fun b5 =>
 dJ b5
 (dG (kL env 9 r0 (Value.int .i64 FJ)) fun v6 =>
 aY .u8 v6 fun i7 =>
 aW (dG (aJG [(Value.int .u8 i7)] h3) fun v => some (v, h3)) fun v8 h8 =>
 eZ v8 fun b9 =>
 bZ b9 fun b10 =>
 dJ b10
 (dG (kL env 9 r0 (Value.int .i64 FJ)) fun v11 =>
 aY .u8 v11 fun i12 =>
 bZ (nK i12 (Int.ofNat 46)) fun b13 =>
 dJ b13
 (some ((Value.bool false), h8))
 (wrap64 (Int.add FJ (Int.ofNat 1)) fun i14 =>
 S 1 (AL.v r0 (AL.i r16 (AL.i i14 AL.n))) h8))
 (wrap64 (Int.add FJ (Int.ofNat 1)) fun i15 =>
 S 1 (AL.v r0 (AL.i r16 (AL.i i15 AL.n))) h8))
 (wrap64 (Int.add FJ (Int.ofNat 1)) fun i16 =>
 S 1 (AL.v r0 (AL.i r16 (AL.i i16 AL.n))) h3))
 (S 2 AL.n h)
noncomputable def aCK (S : Sg) (r0 : Value) (h : Hp) : aZ :=
 IZ r0 fun i0 =>
 aW (bW env h 22 1 (List.toArray [(0, (Value.int .i64 i0))])) fun v1 h1 =>
 aW (dG (F82 [(Value.int .i64 (Int.ofNat 1)), (Value.int .i64 (Int.ofNat 16)), v1] h1) fun v => some (v, h1)) fun v2 h2 =>
 eZ v2 fun b3 =>
 bZ b3 fun b4 =>
 dJ b4
 (some ((Value.bool false), h2))
 (dG (kL env 9 r0 (Value.int .i64 (Int.ofNat 0))) fun v5 =>
 aY .u8 v5 fun i6 =>
 aW (dG (aGE [(Value.int .u8 i6)] h2) fun v => some (v, h2)) fun v7 h7 =>
 eZ v7 fun b8 =>
 bZ b8 fun b9 =>
 dJ b9
 (some ((Value.bool false), h7))
 (IZ r0 fun i10 =>
 S 1 (AL.v r0 (AL.i i10 (AL.i (Int.ofNat 0) AL.n))) h7))
noncomputable def T85 (S : Sg) : Sg := dY 0 (uV fun r0 => uN fun h => aCK S r0 h) (dY 1 (uV fun r0 => uI fun r16 => uI fun FJ => uN fun h => QJ S r0 r16 FJ h) (dY 2 (uN fun h => aCJ S  h) (kT)))
noncomputable def F85 (args : List Value) (h : Hp) : aZ := bQ [Kd.v] args fun al => aK T85 1000000 0 al h
def aOW : Nat := 1 + (39 - 1)
theorem aZ5 (S : Sg) (h : Hp) : aCJ S  h = aF (bT env aG0 (aOW)) (bU env Try.f85.results.toList) (collect B85 A85 []) 2 S AL.n h := by kernel_rfl
theorem aZ6 (S : Sg) (r0 : Value) (r16 : Int) (FJ : Int) (h : Hp) : QJ S r0 r16 FJ h = aF (bT env aG0 (aOW)) (bU env Try.f85.results.toList) (collect B85 A85 []) 1 S (AL.v r0 (AL.i r16 (AL.i FJ AL.n))) h := by kernel_rfl
theorem aZ7 (S : Sg) (r0 : Value) (h : Hp) : aCK S r0 h = aF (bT env aG0 (aOW)) (bU env Try.f85.results.toList) (collect B85 A85 []) 0 S (AL.v r0 AL.n) h := by kernel_rfl
theorem t85 (S : Sg) : eH (fun l vs h => aF (bT env aG0 aOW) (bU env Try.f85.results.toList) (collect B85 A85 []) l S vs h) (T85 S) := by
 unfold T85
 refine eH.cons 0 (fun gF h q e0 => ?_) ?_
 ·obtain ⟨r0, vs1, rfl, e1⟩ := aD e0
  obtain ⟨rfl, ee⟩ := aR e1
  exact (aZ7 S r0 h).symm.trans ee
 refine eH.cons 1 (fun gF h q e0 => ?_) ?_
 ·obtain ⟨r0, vs1, rfl, e1⟩ := aD e0
  obtain ⟨r16, vs2, rfl, e2⟩ := aV e1
  obtain ⟨FJ, vs3, rfl, e3⟩ := aV e2
  obtain ⟨rfl, ee⟩ := aR e3
  exact (aZ6 S r0 r16 FJ h).symm.trans ee
 refine eH.cons 2 (fun gF h q e0 => ?_) ?_
 ·
  obtain ⟨rfl, ee⟩ := aR e0
  exact (aZ5 S  h).symm.trans ee
 exact eH.nil
theorem r85 : ∀ args h v h', F85 args h = some (v, h') → iE (C8) (.call 85 args.toArray h) (.ret v h') := by
 intro args h v h' e
 exact bL (C := C8) (fn := Try.f85) (body := B85) (np := 1) (A := A85) (T := T85) (kinds := [Kd.v]) (by kernel_rfl) (by kernel_rfl) (by kernel_rfl) (by kernel_rfl) (dP eB) (by kernel_rfl) (fun S => t85 S) e
noncomputable def XJ := kS 85 F85 aG0
noncomputable def C9 : dK := cfg XJ
theorem ok9 : C9.Ok := dQ (C := C8) ok8 r85
noncomputable def aKY : Code := (Try.f108.body).getD .skip
def aKZ : aB := (aB.node (some (0, [(0, Kd.v), (1, Kd.v)])) aB.nil (aB.node none (aB.node none aB.nil (aB.node none (aB.node (some (1, [(0, Kd.v), (1, Kd.v), (7, Kd.i .i64), (8, Kd.i .i64)])) (aB.node none aB.nil (aB.node none (aB.node none aB.nil aB.nil) (aB.node none (aB.node none (aB.node none aB.nil (aB.node none aB.nil (aB.node none (aB.node none aB.nil aB.nil) aB.nil))) aB.nil) aB.nil))) aB.nil) aB.nil)) (aB.node (some (2, [])) aB.nil aB.nil)))
noncomputable def aK0 (S : Sg) (h : Hp) : aZ :=
 some ((Value.int .i64 (Int.negSucc 0)), h)
noncomputable def HZ (S : Sg) (r0 : Value) (r1 : Value) (r7 : Int) (r8 : Int) (h : Hp) : aZ :=
 dL (oN r8 r7) fun b0 =>
 dJ b0
 (eU 3 r0 r8 fun v1 =>
 bC 3 h v1 fun v2 =>
 aW (qK XJ r1 [v2] h) fun v3 h3 =>
 eZ v3 fun b4 =>
 dJ b4
 (some ((Value.int .i64 r8), h3))
 (wrap64 (Int.add r8 (Int.ofNat 1)) fun i5 =>
 S 1 (AL.v r0 (AL.v r1 (AL.i r7 (AL.i i5 AL.n)))) h3))
 (S 2 AL.n h)
noncomputable def UD (S : Sg) (r0 : Value) (r1 : Value) (h : Hp) : aZ :=
 eO r0 fun i0 =>
 S 1 (AL.v r0 (AL.v r1 (AL.i i0 (AL.i (Int.ofNat 0) AL.n)))) h
noncomputable def XI (S : Sg) : Sg := dY 0 (uV fun r0 => uV fun r1 => uN fun h => UD S r0 r1 h) (dY 1 (uV fun r0 => uV fun r1 => uI fun r7 => uI fun r8 => uN fun h => HZ S r0 r1 r7 r8 h) (dY 2 (uN fun h => aK0 S  h) (kT)))
noncomputable def aOC (args : List Value) (h : Hp) : aZ := bQ [Kd.v, Kd.v] args fun al => aK XI 1000000 0 al h
def aEE : Nat := 2 + (19 - 2)
theorem aT8 (S : Sg) (h : Hp) : aK0 S  h = aF (bT env XJ (aEE)) (bU env Try.f108.results.toList) (collect aKY aKZ []) 2 S AL.n h := by kernel_rfl
theorem aT9 (S : Sg) (r0 : Value) (r1 : Value) (r7 : Int) (r8 : Int) (h : Hp) : HZ S r0 r1 r7 r8 h = aF (bT env XJ (aEE)) (bU env Try.f108.results.toList) (collect aKY aKZ []) 1 S (AL.v r0 (AL.v r1 (AL.i r7 (AL.i r8 AL.n)))) h := by kernel_rfl
theorem aUA (S : Sg) (r0 : Value) (r1 : Value) (h : Hp) : UD S r0 r1 h = aF (bT env XJ (aEE)) (bU env Try.f108.results.toList) (collect aKY aKZ []) 0 S (AL.v r0 (AL.v r1 AL.n)) h := by kernel_rfl
theorem t108 (S : Sg) : eH (fun l vs h => aF (bT env XJ aEE) (bU env Try.f108.results.toList) (collect aKY aKZ []) l S vs h) (XI S) := by
 unfold XI
 refine eH.cons 0 (fun gF h q e0 => ?_) ?_
 ·obtain ⟨r0, vs1, rfl, e1⟩ := aD e0
  obtain ⟨r1, vs2, rfl, e2⟩ := aD e1
  obtain ⟨rfl, ee⟩ := aR e2
  exact (aUA S r0 r1 h).symm.trans ee
 refine eH.cons 1 (fun gF h q e0 => ?_) ?_
 ·obtain ⟨r0, vs1, rfl, e1⟩ := aD e0
  obtain ⟨r1, vs2, rfl, e2⟩ := aD e1
  obtain ⟨r7, vs3, rfl, e3⟩ := aV e2
  obtain ⟨r8, tY, rfl, e4⟩ := aV e3
  obtain ⟨rfl, ee⟩ := aR e4
  exact (aT9 S r0 r1 r7 r8 h).symm.trans ee
 refine eH.cons 2 (fun gF h q e0 => ?_) ?_
 ·
  obtain ⟨rfl, ee⟩ := aR e0
  exact (aT8 S  h).symm.trans ee
 exact eH.nil
theorem bCO : ∀ args h v h', aOC args h = some (v, h') → iE (C9) (.call 108 args.toArray h) (.ret v h') := by
 intro args h v h' e
 exact bL (C := C9) (fn := Try.f108) (body := aKY) (np := 2) (A := aKZ) (T := XI) (kinds := [Kd.v, Kd.v]) (by kernel_rfl) (by kernel_rfl) (by kernel_rfl) (by kernel_rfl) (dP eB) (by kernel_rfl) (fun S => t108 S) e
noncomputable def aEF := kS 108 aOC XJ
noncomputable def C10 : dK := cfg aEF
theorem bCP : C10.Ok := dQ (C := C9) ok9 bCO
noncomputable def B86 : Code := (Try.f86.body).getD .skip
def A86 : aB := (aB.node (some (0, [(0, Kd.v), (1, Kd.v)])) aB.nil (aB.node none aB.nil aB.nil))
noncomputable def aDD (S : Sg) (r0 : Value) (r1 : Value) (h : Hp) : aZ :=
 aW (dZ aOC [r0, r1] h) fun v0 h0 =>
 aY .i64 v0 fun i1 =>
 bZ (oN i1 (Int.ofNat 0)) fun b2 =>
 some ((Value.bool b2), h0)
noncomputable def T86 (S : Sg) : Sg := dY 0 (uV fun r0 => uV fun r1 => uN fun h => aDD S r0 r1 h) (kT)
noncomputable def F86 (args : List Value) (h : Hp) : aZ := bQ [Kd.v, Kd.v] args fun al => aK T86 1000000 0 al h
def aZ8 : Nat := 2 + (9 - 2)
theorem aZ9 (S : Sg) (r0 : Value) (r1 : Value) (h : Hp) : aDD S r0 r1 h = aF (bT env aEF (aZ8)) (bU env Try.f86.results.toList) (collect B86 A86 []) 0 S (AL.v r0 (AL.v r1 AL.n)) h := by kernel_rfl
theorem t86 (S : Sg) : eH (fun l vs h => aF (bT env aEF aZ8) (bU env Try.f86.results.toList) (collect B86 A86 []) l S vs h) (T86 S) := by
 unfold T86
 refine eH.cons 0 (fun gF h q e0 => ?_) ?_
 ·obtain ⟨r0, vs1, rfl, e1⟩ := aD e0
  obtain ⟨r1, vs2, rfl, e2⟩ := aD e1
  obtain ⟨rfl, ee⟩ := aR e2
  exact (aZ9 S r0 r1 h).symm.trans ee
 exact eH.nil
theorem r86 : ∀ args h v h', F86 args h = some (v, h') → iE (C10) (.call 86 args.toArray h) (.ret v h') := by
 intro args h v h' e
 exact bL (C := C10) (fn := Try.f86) (body := B86) (np := 2) (A := A86) (T := T86) (kinds := [Kd.v, Kd.v]) (by kernel_rfl) (by kernel_rfl) (by kernel_rfl) (by kernel_rfl) (dP eB) (by kernel_rfl) (fun S => t86 S) e
noncomputable def aEG := kS 86 F86 aEF
noncomputable def C11 : dK := cfg aEG
theorem bCS : C11.Ok := dQ (C := C10) bCP r86
noncomputable def B84 : Code := (Try.f84.body).getD .skip
def A84 : aB := (aB.node (some (0, [(0, Kd.v), (1, Kd.v), (2, Kd.v), (3, Kd.v)])) aB.nil (aB.node none (aB.node none (aB.node none aB.nil (aB.node none (aB.node none aB.nil aB.nil) (aB.node none aB.nil (aB.node none (aB.node none aB.nil aB.nil) (aB.node none aB.nil (aB.node none (aB.node none aB.nil aB.nil) (aB.node none aB.nil (aB.node none (aB.node none aB.nil aB.nil) (aB.node none (aB.node none aB.nil (aB.node none aB.nil aB.nil)) (aB.node none (aB.node none aB.nil aB.nil) aB.nil)))))))))) aB.nil) (aB.node none aB.nil aB.nil)))
noncomputable def aD4 (S : Sg) (r0 : Value) (r1 : Value) (r2 : Value) (r3 : Value) (h : Hp) : aZ :=
 bV h 59 (Array.toList (Value.cells r1)) fun a0 h0 =>
 aX 0 a0 fun v1 =>
 aQ h0 v1 fun v2 =>
 aW (dZ F85 [v2] h0) fun v3 h3 =>
 eZ v3 fun b4 =>
 bZ b4 fun b5 =>
 dJ b5
 (some ((Value.int .i64 (Int.ofNat 6)), h3))
 (aW (dZ F86 [r0, (Value.func (.func 87) (List.toArray []) (List.toArray [a0]))] h3) fun v6 h6 =>
 eZ v6 fun b7 =>
 dJ b7
 (some ((Value.int .i64 (Int.ofNat 5)), h6))
 (aX 1 a0 fun v8 =>
 aQ h6 v8 fun v9 =>
 eO v9 fun i10 =>
 aX 0 r2 fun v11 =>
 aQ h6 v11 fun v12 =>
 eO v12 fun i13 =>
 bZ (nK i10 i13) fun b14 =>
 dJ b14
 (some ((Value.int .i64 (Int.ofNat 3)), h6))
 (aQ h6 r3 fun v15 =>
 aY .i64 v15 fun i16 =>
 aX 1 r2 fun v17 =>
 aQ h6 v17 fun v18 =>
 eO v18 fun i19 =>
 wrap64 (Int.sub i19 (Int.ofNat 1)) fun i20 =>
 aX 1 a0 fun v21 =>
 aQ h6 v21 fun v22 =>
 eU 1 v22 (Int.ofNat 0) fun v23 =>
 aQ h6 v23 fun v24 =>
 aY .i64 v24 fun i25 =>
 aW (bW env h6 22 1 (List.toArray [(0, (Value.int .i64 i25))])) fun v26 h26 =>
 aW (dG (F82 [(Value.int .i64 i16), (Value.int .i64 i20), v26] h26) fun v => some (v, h26)) fun v27 h27 =>
 eZ v27 fun b28 =>
 bZ b28 fun b29 =>
 dJ b29
 (some ((Value.int .i64 (Int.ofNat 4)), h27))
 (aQ h27 r3 fun v30 =>
 aY .i64 v30 fun i31 =>
 aX 1 a0 fun v32 =>
 aQ h27 v32 fun v33 =>
 dG (jZ env h27 22 v33 (some (Value.int .i64 (Int.ofNat 1))) none none) fun v34 =>
 aW (dG (F82 [(Value.int .i64 i31), (Value.int .i64 (Int.ofNat 5)), v34] h27) fun v => some (v, h27)) fun v35 h35 =>
 eZ v35 fun b36 =>
 bZ b36 fun b37 =>
 dJ b37
 (dJ b37
 (some ((Value.int .i64 (Int.ofNat 7)), h35))
 (some ((Value.int .i64 (Int.ofNat 0)), h35)))
 (aX 2 a0 fun v38 =>
 aQ h35 v38 fun v39 =>
 aY .i64 v39 fun i40 =>
 aW (bW env h35 22 1 (List.toArray [(0, (Value.int .i64 i40))])) fun v41 h41 =>
 aW (dG (F82 [(Value.int .i64 (Int.ofNat 0)), (Value.int .i64 (Int.ofNat 50)), v41] h41) fun v => some (v, h41)) fun v42 h42 =>
 eZ v42 fun b43 =>
 bZ b43 fun b44 =>
 dJ b44
 (some ((Value.int .i64 (Int.ofNat 7)), h42))
 (some ((Value.int .i64 (Int.ofNat 0)), h42)))))))
noncomputable def T84 (S : Sg) : Sg := dY 0 (uV fun r0 => uV fun r1 => uV fun r2 => uV fun r3 => uN fun h => aD4 S r0 r1 r2 r3 h) (kT)
noncomputable def F84 (args : List Value) (h : Hp) : aZ := bQ [Kd.v, Kd.v, Kd.v, Kd.v] args fun al => aK T84 1000000 0 al h
def a0C : Nat := 4 + (49 - 4)
theorem a0D (S : Sg) (r0 : Value) (r1 : Value) (r2 : Value) (r3 : Value) (h : Hp) : aD4 S r0 r1 r2 r3 h = aF (bT env aEG (a0C)) (bU env Try.f84.results.toList) (collect B84 A84 []) 0 S (AL.v r0 (AL.v r1 (AL.v r2 (AL.v r3 AL.n)))) h := by kernel_rfl
theorem t84 (S : Sg) : eH (fun l vs h => aF (bT env aEG a0C) (bU env Try.f84.results.toList) (collect B84 A84 []) l S vs h) (T84 S) := by
 unfold T84
 refine eH.cons 0 (fun gF h q e0 => ?_) ?_
 ·obtain ⟨r0, vs1, rfl, e1⟩ := aD e0
  obtain ⟨r1, vs2, rfl, e2⟩ := aD e1
  obtain ⟨r2, vs3, rfl, e3⟩ := aD e2
  obtain ⟨r3, tY, rfl, e4⟩ := aD e3
  obtain ⟨rfl, ee⟩ := aR e4
  exact (a0D S r0 r1 r2 r3 h).symm.trans ee
 exact eH.nil
theorem r84 : ∀ args h v h', F84 args h = some (v, h') → iE (C11) (.call 84 args.toArray h) (.ret v h') := by
 intro args h v h' e
 exact bL (C := C11) (fn := Try.f84) (body := B84) (np := 4) (A := A84) (T := T84) (kinds := [Kd.v, Kd.v, Kd.v, Kd.v]) (by kernel_rfl) (by kernel_rfl) (by kernel_rfl) (by kernel_rfl) (dP eB) (by kernel_rfl) (fun S => t84 S) e
noncomputable def BX := kS 84 F84 aEG
noncomputable def C12 : dK := cfg BX
theorem bCW : C12.Ok := dQ (C := C11) bCS r84
noncomputable def aK1 : Code := (Try.f105.body).getD .skip
def aK2 : aB := (aB.node (some (0, [(0, Kd.v), (1, Kd.v)])) aB.nil (aB.node none (aB.node none aB.nil (aB.node none (aB.node (some (1, [(0, Kd.v), (1, Kd.v), (9, Kd.v), (10, Kd.i .i64), (11, Kd.i .i64)])) (aB.node none aB.nil (aB.node none (aB.node none aB.nil aB.nil) (aB.node none (aB.node none (aB.node none aB.nil (aB.node none aB.nil (aB.node none aB.nil (aB.node none (aB.node none aB.nil aB.nil) aB.nil)))) aB.nil) aB.nil))) aB.nil) aB.nil)) (aB.node (some (2, [])) aB.nil aB.nil)))
noncomputable def aK3 (S : Sg) (h : Hp) : aZ :=
 some (Value.tuple (List.toArray [(Value.int .i64 (Int.ofNat 0)), (Value.int .i64 (Int.ofNat 0))]), h)
noncomputable def H9 (S : Sg) (r0 : Value) (r1 : Value) (r9 : Value) (iF : Int) (iH : Int) (h : Hp) : aZ :=
 dL (oN iH iF) fun b0 =>
 dJ b0
 (eU 3 r9 iH fun v1 =>
 bC 3 h v1 fun v2 =>
 bV h 59 [(Value.string (ByteArray.mk #[])), (Value.slice none 0 0), (Value.int .i64 (Int.ofNat 0))] fun a3 h3 =>
 fD 3 h3 a3 v2 fun h4 =>
 dG (jZ env h4 23 r0 none (some (Value.int .i64 iH)) none) fun v5 =>
 bC 3 h4 a3 fun v6 =>
 aW (qK BX r1 [v5, v6] h4) fun v7 h7 =>
 aY .i64 v7 fun i8 =>
 bZ (nK i8 (Int.ofNat 0)) fun b9 =>
 dJ b9
 (some (Value.tuple (List.toArray [(Value.int .i64 iH), (Value.int .i64 i8)]), h7))
 (wrap64 (Int.add iH (Int.ofNat 1)) fun i10 =>
 S 1 (AL.v r0 (AL.v r1 (AL.v r9 (AL.i iF (AL.i i10 AL.n))))) h7))
 (S 2 AL.n h)
noncomputable def UK (S : Sg) (r0 : Value) (r1 : Value) (h : Hp) : aZ :=
 eO r0 fun i0 =>
 S 1 (AL.v r0 (AL.v r1 (AL.v r0 (AL.i i0 (AL.i (Int.ofNat 0) AL.n))))) h
noncomputable def X0 (S : Sg) : Sg := dY 0 (uV fun r0 => uV fun r1 => uN fun h => UK S r0 r1 h) (dY 1 (uV fun r0 => uV fun r1 => uV fun r9 => uI fun iF => uI fun iH => uN fun h => H9 S r0 r1 r9 iF iH h) (dY 2 (uN fun h => aK3 S  h) (kT)))
noncomputable def aOM (args : List Value) (h : Hp) : aZ := bQ [Kd.v, Kd.v] args fun al => aK X0 1000000 0 al h
def aEH : Nat := 2 + (27 - 2)
theorem aUB (S : Sg) (h : Hp) : aK3 S  h = aF (bT env BX (aEH)) (bU env Try.f105.results.toList) (collect aK1 aK2 []) 2 S AL.n h := by kernel_rfl
theorem aUC (S : Sg) (r0 : Value) (r1 : Value) (r9 : Value) (iF : Int) (iH : Int) (h : Hp) : H9 S r0 r1 r9 iF iH h = aF (bT env BX (aEH)) (bU env Try.f105.results.toList) (collect aK1 aK2 []) 1 S (AL.v r0 (AL.v r1 (AL.v r9 (AL.i iF (AL.i iH AL.n))))) h := by kernel_rfl
theorem aUD (S : Sg) (r0 : Value) (r1 : Value) (h : Hp) : UK S r0 r1 h = aF (bT env BX (aEH)) (bU env Try.f105.results.toList) (collect aK1 aK2 []) 0 S (AL.v r0 (AL.v r1 AL.n)) h := by kernel_rfl
theorem t105 (S : Sg) : eH (fun l vs h => aF (bT env BX aEH) (bU env Try.f105.results.toList) (collect aK1 aK2 []) l S vs h) (X0 S) := by
 unfold X0
 refine eH.cons 0 (fun gF h q e0 => ?_) ?_
 ·obtain ⟨r0, vs1, rfl, e1⟩ := aD e0
  obtain ⟨r1, vs2, rfl, e2⟩ := aD e1
  obtain ⟨rfl, ee⟩ := aR e2
  exact (aUD S r0 r1 h).symm.trans ee
 refine eH.cons 1 (fun gF h q e0 => ?_) ?_
 ·obtain ⟨r0, vs1, rfl, e1⟩ := aD e0
  obtain ⟨r1, vs2, rfl, e2⟩ := aD e1
  obtain ⟨r9, vs3, rfl, e3⟩ := aD e2
  obtain ⟨iF, tY, rfl, e4⟩ := aV e3
  obtain ⟨iH, JU, rfl, e5⟩ := aV e4
  obtain ⟨rfl, ee⟩ := aR e5
  exact (aUC S r0 r1 r9 iF iH h).symm.trans ee
 refine eH.cons 2 (fun gF h q e0 => ?_) ?_
 ·
  obtain ⟨rfl, ee⟩ := aR e0
  exact (aUB S  h).symm.trans ee
 exact eH.nil
theorem bCX : ∀ args h v h', aOM args h = some (v, h') → iE (C12) (.call 105 args.toArray h) (.ret v h') := by
 intro args h v h' e
 exact bL (C := C12) (fn := Try.f105) (body := aK1) (np := 2) (A := aK2) (T := X0) (kinds := [Kd.v, Kd.v]) (by kernel_rfl) (by kernel_rfl) (by kernel_rfl) (by kernel_rfl) (dP eB) (by kernel_rfl) (fun S => t105 S) e
noncomputable def aEI := kS 105 aOM BX
noncomputable def C13 : dK := cfg aEI
theorem bCY : C13.Ok := dQ (C := C12) bCW bCX
noncomputable def B83 : Code := (Try.f83.body).getD .skip
def A83 : aB := (aB.node (some (0, [(0, Kd.v), (1, Kd.i .i64), (2, Kd.v)])) aB.nil (aB.node none (aB.node none aB.nil (aB.node none (aB.node none aB.nil aB.nil) aB.nil)) (aB.node none aB.nil aB.nil)))
noncomputable def aD1 (S : Sg) (r0 : Value) (r1 : Int) (r2 : Value) (h : Hp) : aZ :=
 eO r0 fun i0 =>
 dL (oN r1 i0) fun b1 =>
 dJ b1
 (some (Value.tuple (List.toArray [(Value.int .i64 (Int.ofNat 0)), (Value.int .i64 (Int.ofNat 3))]), h))
 (aW (dZ aOM [r0, r2] h) fun v2 h2 =>
 gD v2 0 fun v3 =>
 aY .i64 v3 fun i4 =>
 gD v2 1 fun v5 =>
 aY .i64 v5 fun i6 =>
 some (Value.tuple (List.toArray [(Value.int .i64 i4), (Value.int .i64 i6)]), h2))
noncomputable def T83 (S : Sg) : Sg := dY 0 (uV fun r0 => uI fun r1 => uV fun r2 => uN fun h => aD1 S r0 r1 r2 h) (kT)
noncomputable def F83 (args : List Value) (h : Hp) : aZ := bQ [Kd.v, Kd.i .i64, Kd.v] args fun al => aK T83 1000000 0 al h
def a0E : Nat := 3 + (17 - 3)
theorem a0F (S : Sg) (r0 : Value) (r1 : Int) (r2 : Value) (h : Hp) : aD1 S r0 r1 r2 h = aF (bT env aEI (a0E)) (bU env Try.f83.results.toList) (collect B83 A83 []) 0 S (AL.v r0 (AL.i r1 (AL.v r2 AL.n))) h := by kernel_rfl
theorem t83 (S : Sg) : eH (fun l vs h => aF (bT env aEI a0E) (bU env Try.f83.results.toList) (collect B83 A83 []) l S vs h) (T83 S) := by
 unfold T83
 refine eH.cons 0 (fun gF h q e0 => ?_) ?_
 ·obtain ⟨r0, vs1, rfl, e1⟩ := aD e0
  obtain ⟨r1, vs2, rfl, e2⟩ := aV e1
  obtain ⟨r2, vs3, rfl, e3⟩ := aD e2
  obtain ⟨rfl, ee⟩ := aR e3
  exact (a0F S r0 r1 r2 h).symm.trans ee
 exact eH.nil
theorem r83 : ∀ args h v h', F83 args h = some (v, h') → iE (C13) (.call 83 args.toArray h) (.ret v h') := by
 intro args h v h' e
 exact bL (C := C13) (fn := Try.f83) (body := B83) (np := 3) (A := A83) (T := T83) (kinds := [Kd.v, Kd.i .i64, Kd.v]) (by kernel_rfl) (by kernel_rfl) (by kernel_rfl) (by kernel_rfl) (dP eB) (by kernel_rfl) (fun S => t83 S) e
noncomputable def aEJ := kS 83 F83 aEI
noncomputable def C14 : dK := cfg aEJ
theorem bC1 : C14.Ok := dQ (C := C13) bCY r83
noncomputable def B49 : Code := (Try.f49.body).getD .skip
def A49 : aB := (aB.node (some (0, [(0, Kd.v), (1, Kd.v), (2, Kd.i .i64), (3, Kd.i .i64)])) aB.nil (aB.node none aB.nil aB.nil))
noncomputable def aD5 (S : Sg) (r0 : Value) (r1 : Value) (r2 : Int) (r3 : Int) (h : Hp) : aZ :=
 bV h 25 (Array.toList (Value.cells r0)) fun a0 h0 =>
 bV h0 3 [(Value.int .i64 r3)] fun a1 h1 =>
 aW (dZ F83 [r1, (Value.int .i64 r2), (Value.func (.func 84) (List.toArray []) (List.toArray [a0, a1]))] h1) fun v2 h2 =>
 gD v2 0 fun v3 =>
 aY .i64 v3 fun i4 =>
 gD v2 1 fun v5 =>
 aY .i64 v5 fun i6 =>
 some (Value.tuple (List.toArray [(Value.int .i64 i4), (Value.int .i64 i6)]), h2)
noncomputable def T49 (S : Sg) : Sg := dY 0 (uV fun r0 => uV fun r1 => uI fun r2 => uI fun r3 => uN fun h => aD5 S r0 r1 r2 r3 h) (kT)
noncomputable def F49 (args : List Value) (h : Hp) : aZ := bQ [Kd.v, Kd.v, Kd.i .i64, Kd.i .i64] args fun al => aK T49 1000000 0 al h
def a0G : Nat := 4 + (16 - 4)
theorem a0H (S : Sg) (r0 : Value) (r1 : Value) (r2 : Int) (r3 : Int) (h : Hp) : aD5 S r0 r1 r2 r3 h = aF (bT env aEJ (a0G)) (bU env Try.f49.results.toList) (collect B49 A49 []) 0 S (AL.v r0 (AL.v r1 (AL.i r2 (AL.i r3 AL.n)))) h := by kernel_rfl
theorem t49 (S : Sg) : eH (fun l vs h => aF (bT env aEJ a0G) (bU env Try.f49.results.toList) (collect B49 A49 []) l S vs h) (T49 S) := by
 unfold T49
 refine eH.cons 0 (fun gF h q e0 => ?_) ?_
 ·obtain ⟨r0, vs1, rfl, e1⟩ := aD e0
  obtain ⟨r1, vs2, rfl, e2⟩ := aD e1
  obtain ⟨r2, vs3, rfl, e3⟩ := aV e2
  obtain ⟨r3, tY, rfl, e4⟩ := aV e3
  obtain ⟨rfl, ee⟩ := aR e4
  exact (a0H S r0 r1 r2 r3 h).symm.trans ee
 exact eH.nil
theorem r49 : ∀ args h v h', F49 args h = some (v, h') → iE (C14) (.call 49 args.toArray h) (.ret v h') := by
 intro args h v h' e
 exact bL (C := C14) (fn := Try.f49) (body := B49) (np := 4) (A := A49) (T := T49) (kinds := [Kd.v, Kd.v, Kd.i .i64, Kd.i .i64]) (by kernel_rfl) (by kernel_rfl) (by kernel_rfl) (by kernel_rfl) (dP eB) (by kernel_rfl) (fun S => t49 S) e
noncomputable def aEK := kS 49 F49 aEJ
noncomputable def C15 : dK := cfg aEK
theorem bC4 : C15.Ok := dQ (C := C14) bC1 r49
noncomputable def B16 : Code := (Try.f16.body).getD .skip
def A16 : aB := (aB.node (some (0, [(0, Kd.v)])) aB.nil (aB.node none (aB.node none aB.nil (aB.node none aB.nil (aB.node none (aB.node none aB.nil aB.nil) aB.nil))) (aB.node none (aB.node none aB.nil (aB.node none aB.nil (aB.node none (aB.node none aB.nil aB.nil) aB.nil))) (aB.node none (aB.node none aB.nil (aB.node none aB.nil (aB.node none (aB.node none aB.nil aB.nil) aB.nil))) (aB.node none (aB.node none aB.nil (aB.node none aB.nil (aB.node none (aB.node none aB.nil aB.nil) aB.nil))) (aB.node none aB.nil aB.nil))))))
noncomputable def aD6 (S : Sg) (r0 : Value) (h : Hp) : aZ :=
 bV h 25 (Array.toList (Value.cells r0)) fun a0 h0 =>
 aX 0 a0 fun v1 =>
 aQ h0 v1 fun v2 =>
 aW (dZ F48 [v2, (Value.int .i64 (Int.ofNat 4)), (Value.int .i64 (Int.ofNat 100))] h0) fun v3 h3 =>
 gD v3 0 fun v4 =>
 aY .i64 v4 fun i5 =>
 gD v3 1 fun v6 =>
 aY .i64 v6 fun i7 =>
 bZ (nK i7 (Int.ofNat 0)) fun b8 =>
 dJ b8
 (some (Value.tuple (List.toArray [(Value.int .i64 (Int.ofNat 1)), (Value.int .i64 i5), (Value.int .i64 i7)]), h3))
 (aX 1 a0 fun v9 =>
 aQ h3 v9 fun v10 =>
 aW (dZ F48 [v10, (Value.int .i64 (Int.ofNat 4)), (Value.int .i64 (Int.ofNat 50))] h3) fun v11 h11 =>
 gD v11 0 fun v12 =>
 aY .i64 v12 fun i13 =>
 gD v11 1 fun v14 =>
 aY .i64 v14 fun i15 =>
 bZ (nK i15 (Int.ofNat 0)) fun b16 =>
 dJ b16
 (some (Value.tuple (List.toArray [(Value.int .i64 (Int.ofNat 2)), (Value.int .i64 i13), (Value.int .i64 i15)]), h11))
 (bC 4 h11 a0 fun v17 =>
 aX 2 a0 fun v18 =>
 aQ h11 v18 fun v19 =>
 aW (dZ F49 [v17, v19, (Value.int .i64 (Int.ofNat 6)), (Value.int .i64 (Int.ofNat 0))] h11) fun v20 h20 =>
 gD v20 0 fun v21 =>
 aY .i64 v21 fun i22 =>
 gD v20 1 fun v23 =>
 aY .i64 v23 fun i24 =>
 bZ (nK i24 (Int.ofNat 0)) fun b25 =>
 dJ b25
 (some (Value.tuple (List.toArray [(Value.int .i64 (Int.ofNat 3)), (Value.int .i64 i22), (Value.int .i64 i24)]), h20))
 (bC 4 h20 a0 fun v26 =>
 aX 3 a0 fun v27 =>
 aQ h20 v27 fun v28 =>
 aW (dZ F49 [v26, v28, (Value.int .i64 (Int.ofNat 5)), (Value.int .i64 (Int.negSucc 0))] h20) fun v29 h29 =>
 gD v29 0 fun v30 =>
 aY .i64 v30 fun i31 =>
 gD v29 1 fun v32 =>
 aY .i64 v32 fun i33 =>
 bZ (nK i33 (Int.ofNat 0)) fun b34 =>
 dJ b34
 (some (Value.tuple (List.toArray [(Value.int .i64 (Int.ofNat 4)), (Value.int .i64 i31), (Value.int .i64 i33)]), h29))
 (some (Value.tuple (List.toArray [(Value.int .i64 (Int.ofNat 0)), (Value.int .i64 (Int.ofNat 0)), (Value.int .i64 (Int.ofNat 0))]), h29)))))
noncomputable def T16 (S : Sg) : Sg := dY 0 (uV fun r0 => uN fun h => aD6 S r0 h) (kT)
noncomputable def F16 (args : List Value) (h : Hp) : aZ := bQ [Kd.v] args fun al => aK T16 1000000 0 al h
def a0J : Nat := 1 + (55 - 1)
theorem a0K (S : Sg) (r0 : Value) (h : Hp) : aD6 S r0 h = aF (bT env aEK (a0J)) (bU env Try.f16.results.toList) (collect B16 A16 []) 0 S (AL.v r0 AL.n) h := by kernel_rfl
theorem t16 (S : Sg) : eH (fun l vs h => aF (bT env aEK a0J) (bU env Try.f16.results.toList) (collect B16 A16 []) l S vs h) (T16 S) := by
 unfold T16
 refine eH.cons 0 (fun gF h q e0 => ?_) ?_
 ·obtain ⟨r0, vs1, rfl, e1⟩ := aD e0
  obtain ⟨rfl, ee⟩ := aR e1
  exact (a0K S r0 h).symm.trans ee
 exact eH.nil
theorem r16 : ∀ args h v h', F16 args h = some (v, h') → iE (C15) (.call 16 args.toArray h) (.ret v h') := by
 intro args h v h' e
 exact bL (C := C15) (fn := Try.f16) (body := B16) (np := 1) (A := A16) (T := T16) (kinds := [Kd.v]) (by kernel_rfl) (by kernel_rfl) (by kernel_rfl) (by kernel_rfl) (dP eB) (by kernel_rfl) (fun S => t16 S) e
noncomputable def Q5 := kS 16 F16 aEK
noncomputable def C16 : dK := cfg Q5
theorem ok16 : C16.Ok := dQ (C := C15) bC4 r16
noncomputable def B93 : Code := (Try.f93.body).getD .skip
def A93 : aB := (aB.node (some (0, [(0, Kd.v), (1, Kd.v)])) aB.nil (aB.node none aB.nil (aB.node none (aB.node none aB.nil (aB.node none (aB.node (some (1, [(0, Kd.v), (5, Kd.v), (8, Kd.v), (9, Kd.i .i64), (10, Kd.i .i64)])) (aB.node none aB.nil (aB.node none (aB.node none aB.nil aB.nil) (aB.node none (aB.node none (aB.node none aB.nil (aB.node none aB.nil (aB.node none aB.nil aB.nil))) aB.nil) aB.nil))) aB.nil) aB.nil)) (aB.node (some (2, [(5, Kd.v)])) aB.nil aB.nil))))
noncomputable def aQL (S : Sg) (r5 : Value) (h : Hp) : aZ :=
 some (r5, h)
noncomputable def X6 (S : Sg) (r0 : Value) (r5 : Value) (r8 : Value) (r9 : Int) (iF : Int) (h : Hp) : aZ :=
 dL (oN iF r9) fun b0 =>
 dJ b0
 (eU 1 r8 iF fun v1 =>
 aQ h v1 fun v2 =>
 aY .i64 v2 fun i3 =>
 bZ (nK i3 (Int.negSucc 0)) fun b4 =>
 dJ b4
 (eU 1 r0 iF fun v5 =>
 aQ h v5 fun v6 =>
 aY .i64 v6 fun i7 =>
 bZ (nK i3 i7) fun b8 =>
 dJ b8
 (aW (bW env h 22 1 (List.toArray [(0, (Value.int .i64 iF))])) fun v9 h9 =>
 aW (jF env h9 #[22, 22] (List.toArray [r5, v9])) fun v10 h10 =>
 wrap64 (Int.add iF (Int.ofNat 1)) fun i11 =>
 S 1 (AL.v r0 (AL.v v10 (AL.v r8 (AL.i r9 (AL.i i11 AL.n))))) h10)
 (wrap64 (Int.add iF (Int.ofNat 1)) fun i12 =>
 S 1 (AL.v r0 (AL.v r5 (AL.v r8 (AL.i r9 (AL.i i12 AL.n))))) h))
 (wrap64 (Int.add iF (Int.ofNat 1)) fun i13 =>
 S 1 (AL.v r0 (AL.v r5 (AL.v r8 (AL.i r9 (AL.i i13 AL.n))))) h))
 (S 2 (AL.v r5 AL.n) h)
noncomputable def aD7 (S : Sg) (r0 : Value) (r1 : Value) (h : Hp) : aZ :=
 eO r1 fun i0 =>
 S 1 (AL.v r0 (AL.v (Value.slice none 0 0) (AL.v r1 (AL.i i0 (AL.i (Int.ofNat 0) AL.n))))) h
noncomputable def T93 (S : Sg) : Sg := dY 0 (uV fun r0 => uV fun r1 => uN fun h => aD7 S r0 r1 h) (dY 1 (uV fun r0 => uV fun r5 => uV fun r8 => uI fun r9 => uI fun iF => uN fun h => X6 S r0 r5 r8 r9 iF h) (dY 2 (uV fun r5 => uN fun h => aQL S r5 h) (kT)))
noncomputable def F93 (args : List Value) (h : Hp) : aZ := bQ [Kd.v, Kd.v] args fun al => aK T93 1000000 0 al h
def aOX : Nat := 2 + (31 - 2)
theorem a0N (S : Sg) (r5 : Value) (h : Hp) : aQL S r5 h = aF (bT env Q5 (aOX)) (bU env Try.f93.results.toList) (collect B93 A93 []) 2 S (AL.v r5 AL.n) h := by kernel_rfl
theorem a0O (S : Sg) (r0 : Value) (r5 : Value) (r8 : Value) (r9 : Int) (iF : Int) (h : Hp) : X6 S r0 r5 r8 r9 iF h = aF (bT env Q5 (aOX)) (bU env Try.f93.results.toList) (collect B93 A93 []) 1 S (AL.v r0 (AL.v r5 (AL.v r8 (AL.i r9 (AL.i iF AL.n))))) h := by kernel_rfl
theorem a0P (S : Sg) (r0 : Value) (r1 : Value) (h : Hp) : aD7 S r0 r1 h = aF (bT env Q5 (aOX)) (bU env Try.f93.results.toList) (collect B93 A93 []) 0 S (AL.v r0 (AL.v r1 AL.n)) h := by kernel_rfl
theorem t93 (S : Sg) : eH (fun l vs h => aF (bT env Q5 aOX) (bU env Try.f93.results.toList) (collect B93 A93 []) l S vs h) (T93 S) := by
 unfold T93
 refine eH.cons 0 (fun gF h q e0 => ?_) ?_
 ·obtain ⟨r0, vs1, rfl, e1⟩ := aD e0
  obtain ⟨r1, vs2, rfl, e2⟩ := aD e1
  obtain ⟨rfl, ee⟩ := aR e2
  exact (a0P S r0 r1 h).symm.trans ee
 refine eH.cons 1 (fun gF h q e0 => ?_) ?_
 ·obtain ⟨r0, vs1, rfl, e1⟩ := aD e0
  obtain ⟨r5, vs2, rfl, e2⟩ := aD e1
  obtain ⟨r8, vs3, rfl, e3⟩ := aD e2
  obtain ⟨r9, tY, rfl, e4⟩ := aV e3
  obtain ⟨iF, JU, rfl, e5⟩ := aV e4
  obtain ⟨rfl, ee⟩ := aR e5
  exact (a0O S r0 r5 r8 r9 iF h).symm.trans ee
 refine eH.cons 2 (fun gF h q e0 => ?_) ?_
 ·obtain ⟨r5, vs1, rfl, e1⟩ := aD e0
  obtain ⟨rfl, ee⟩ := aR e1
  exact (a0N S r5 h).symm.trans ee
 exact eH.nil
theorem r93 : ∀ args h v h', F93 args h = some (v, h') → iE (C16) (.call 93 args.toArray h) (.ret v h') := by
 intro args h v h' e
 exact bL (C := C16) (fn := Try.f93) (body := B93) (np := 2) (A := A93) (T := T93) (kinds := [Kd.v, Kd.v]) (by kernel_rfl) (by kernel_rfl) (by kernel_rfl) (by kernel_rfl) (dP eB) (by kernel_rfl) (fun S => t93 S) e
noncomputable def JV := kS 93 F93 Q5
noncomputable def C17 : dK := cfg JV
theorem bC9 : C17.Ok := dQ (C := C16) ok16 r93
noncomputable def B63 : Code := (Try.f63.body).getD .skip
def A63 : aB := (aB.node (some (0, [(0, Kd.v)])) aB.nil (aB.node none (aB.node none aB.nil (aB.node none aB.nil (aB.node none (aB.node none aB.nil aB.nil) aB.nil))) (aB.node none aB.nil (aB.node none (aB.node none aB.nil (aB.node none (aB.node (some (1, [(1, Kd.v), (2, Kd.v), (7, Kd.v), (24, Kd.v), (25, Kd.i .i64), (26, Kd.i .i64)])) (aB.node none aB.nil (aB.node none (aB.node none aB.nil aB.nil) (aB.node none (aB.node none (aB.node none aB.nil (aB.node none aB.nil (aB.node none (aB.node (some (2, [(1, Kd.v), (2, Kd.v), (7, Kd.v), (8, Kd.i .i64), (9, Kd.v), (24, Kd.v), (25, Kd.i .i64), (26, Kd.i .i64), (32, Kd.v), (33, Kd.i .i64), (34, Kd.i .i64)])) (aB.node none aB.nil (aB.node none (aB.node none aB.nil aB.nil) (aB.node none (aB.node none (aB.node none aB.nil aB.nil) aB.nil) aB.nil))) aB.nil) aB.nil))) aB.nil) (aB.node (some (3, [(1, Kd.v), (2, Kd.v), (7, Kd.v), (24, Kd.v), (25, Kd.i .i64), (26, Kd.i .i64)])) aB.nil aB.nil)))) aB.nil) aB.nil)) (aB.node (some (4, [(1, Kd.v), (2, Kd.v), (7, Kd.v)])) aB.nil aB.nil)))))
noncomputable def aD9 (S : Sg) (r1 : Value) (r2 : Value) (r7 : Value) (h : Hp) : aZ :=
 bC 4 h r1 fun v0 =>
 dG (jP env 71 (List.toArray [(0, v0), (1, r7)])) fun v1 =>
 fD 5 h r2 v1 fun h2 =>
 bC 5 h2 r2 fun v3 => some (Value.tuple (List.toArray [v3, (Value.int .i64 (Int.ofNat 0))]), h2)
noncomputable def aD8 (S : Sg) (r1 : Value) (r2 : Value) (r7 : Value) (DR : Value) (DT : Int) (DU : Int) (h : Hp) : aZ :=
 wrap64 (Int.add DU (Int.ofNat 1)) fun i0 =>
 S 1 (AL.v r1 (AL.v r2 (AL.v r7 (AL.v DR (AL.i DT (AL.i i0 AL.n)))))) h
noncomputable def X8 (S : Sg) (r1 : Value) (r2 : Value) (r7 : Value) (r8 : Int) (r9 : Value) (DR : Value) (DT : Int) (DU : Int) (r32 : Value) (r33 : Int) (r34 : Int) (h : Hp) : aZ :=
 dL (oN r34 r33) fun b0 =>
 dJ b0
 (eU 3 r32 r34 fun v1 =>
 bC 3 h v1 fun v2 =>
 bV h 59 [(Value.string (ByteArray.mk #[])), (Value.slice none 0 0), (Value.int .i64 (Int.ofNat 0))] fun a3 h3 =>
 fD 3 h3 a3 v2 fun h4 =>
 dG (jP env 76 (List.toArray [(0, (Value.int .i64 r8)), (1, (Value.int .i64 r34))])) fun v5 =>
 aX 1 r9 fun v6 =>
 aQ h4 v6 fun v7 =>
 aX 1 a3 fun v8 =>
 aQ h4 v8 fun v9 =>
 aW (dZ F93 [v7, v9] h4) fun v10 h10 =>
 dG (lZ env h10 69 r7 v5 v10) fun h11 =>
 wrap64 (Int.add r34 (Int.ofNat 1)) fun i12 =>
 S 2 (AL.v r1 (AL.v r2 (AL.v r7 (AL.i r8 (AL.v r9 (AL.v DR (AL.i DT (AL.i DU (AL.v r32 (AL.i r33 (AL.i i12 AL.n))))))))))) h11)
 (S 3 (AL.v r1 (AL.v r2 (AL.v r7 (AL.v DR (AL.i DT (AL.i DU AL.n)))))) h)
noncomputable def X7 (S : Sg) (r1 : Value) (r2 : Value) (r7 : Value) (DR : Value) (DT : Int) (DU : Int) (h : Hp) : aZ :=
 dL (oN DU DT) fun b0 =>
 dJ b0
 (eU 3 DR DU fun v1 =>
 bC 3 h v1 fun v2 =>
 bV h 59 [(Value.string (ByteArray.mk #[])), (Value.slice none 0 0), (Value.int .i64 (Int.ofNat 0))] fun a3 h3 =>
 fD 3 h3 a3 v2 fun h4 =>
 aX 3 r1 fun v5 =>
 aQ h4 v5 fun v6 =>
 eO v6 fun i7 =>
 S 2 (AL.v r1 (AL.v r2 (AL.v r7 (AL.i DU (AL.v a3 (AL.v DR (AL.i DT (AL.i DU (AL.v v6 (AL.i i7 (AL.i (Int.ofNat 0) AL.n))))))))))) h4)
 (S 4 (AL.v r1 (AL.v r2 (AL.v r7 AL.n))) h)
noncomputable def aEA (S : Sg) (r0 : Value) (h : Hp) : aZ :=
 bV h 25 (Array.toList (Value.cells r0)) fun a0 h0 =>
 bV h0 71 [(Value.slice none 0 0), (Value.slice none 0 0), (Value.slice none 0 0), (Value.slice none 0 0), (Value.map none)] fun a1 h1 =>
 bC 4 h1 a0 fun v2 =>
 aW (dZ F16 [v2] h1) fun v3 h3 =>
 gD v3 0 fun v4 =>
 aY .i64 v4 fun i5 =>
 gD v3 1 fun v6 =>
 aY .i64 v6 fun i7 =>
 gD v3 2 fun v8 =>
 aY .i64 v8 fun i9 =>
 bZ (nK i9 (Int.ofNat 0)) fun b10 =>
 dJ b10
 (dG (jP env 71 (List.toArray [])) fun v11 =>
 fD 5 h3 a1 v11 fun h12 =>
 bC 5 h12 a1 fun v13 => some (Value.tuple (List.toArray [v13, (Value.int .i64 i9)]), h12))
 (let a14 := Value.map (some (Hp.next h3)); let KX := Hp.add h3 (.map []);
 aX 2 a0 fun v15 =>
 aQ KX v15 fun v16 =>
 eO v16 fun i17 =>
 S 1 (AL.v a0 (AL.v a1 (AL.v a14 (AL.v v16 (AL.i i17 (AL.i (Int.ofNat 0) AL.n)))))) KX)
noncomputable def YJ (S : Sg) : Sg := dY 0 (uV fun r0 => uN fun h => aEA S r0 h) (dY 1 (uV fun r1 => uV fun r2 => uV fun r7 => uV fun DR => uI fun DT => uI fun DU => uN fun h => X7 S r1 r2 r7 DR DT DU h) (dY 2 (uV fun r1 => uV fun r2 => uV fun r7 => uI fun r8 => uV fun r9 => uV fun DR => uI fun DT => uI fun DU => uV fun r32 => uI fun r33 => uI fun r34 => uN fun h => X8 S r1 r2 r7 r8 r9 DR DT DU r32 r33 r34 h) (dY 3 (uV fun r1 => uV fun r2 => uV fun r7 => uV fun DR => uI fun DT => uI fun DU => uN fun h => aD8 S r1 r2 r7 DR DT DU h) (dY 4 (uV fun r1 => uV fun r2 => uV fun r7 => uN fun h => aD9 S r1 r2 r7 h) (kT)))))
noncomputable def F63 (args : List Value) (h : Hp) : aZ := bQ [Kd.v] args fun al => aK YJ 1000000 0 al h
def aG1 : Nat := 1 + (53 - 1)
theorem a0Q (S : Sg) (r1 : Value) (r2 : Value) (r7 : Value) (h : Hp) : aD9 S r1 r2 r7 h = aF (bT env JV (aG1)) (bU env Try.f63.results.toList) (collect B63 A63 []) 4 S (AL.v r1 (AL.v r2 (AL.v r7 AL.n))) h := by kernel_rfl
theorem a0R (S : Sg) (r1 : Value) (r2 : Value) (r7 : Value) (DR : Value) (DT : Int) (DU : Int) (h : Hp) : aD8 S r1 r2 r7 DR DT DU h = aF (bT env JV (aG1)) (bU env Try.f63.results.toList) (collect B63 A63 []) 3 S (AL.v r1 (AL.v r2 (AL.v r7 (AL.v DR (AL.i DT (AL.i DU AL.n)))))) h := by kernel_rfl
theorem a0S (S : Sg) (r1 : Value) (r2 : Value) (r7 : Value) (r8 : Int) (r9 : Value) (DR : Value) (DT : Int) (DU : Int) (r32 : Value) (r33 : Int) (r34 : Int) (h : Hp) : X8 S r1 r2 r7 r8 r9 DR DT DU r32 r33 r34 h = aF (bT env JV (aG1)) (bU env Try.f63.results.toList) (collect B63 A63 []) 2 S (AL.v r1 (AL.v r2 (AL.v r7 (AL.i r8 (AL.v r9 (AL.v DR (AL.i DT (AL.i DU (AL.v r32 (AL.i r33 (AL.i r34 AL.n))))))))))) h := by kernel_rfl
theorem a0T (S : Sg) (r1 : Value) (r2 : Value) (r7 : Value) (DR : Value) (DT : Int) (DU : Int) (h : Hp) : X7 S r1 r2 r7 DR DT DU h = aF (bT env JV (aG1)) (bU env Try.f63.results.toList) (collect B63 A63 []) 1 S (AL.v r1 (AL.v r2 (AL.v r7 (AL.v DR (AL.i DT (AL.i DU AL.n)))))) h := by kernel_rfl
theorem a0U (S : Sg) (r0 : Value) (h : Hp) : aEA S r0 h = aF (bT env JV (aG1)) (bU env Try.f63.results.toList) (collect B63 A63 []) 0 S (AL.v r0 AL.n) h := by kernel_rfl
theorem t63 (S : Sg) : eH (fun l vs h => aF (bT env JV aG1) (bU env Try.f63.results.toList) (collect B63 A63 []) l S vs h) (YJ S) := by
 unfold YJ
 refine eH.cons 0 (fun gF h q e0 => ?_) ?_
 ·obtain ⟨r0, vs1, rfl, e1⟩ := aD e0
  obtain ⟨rfl, ee⟩ := aR e1
  exact (a0U S r0 h).symm.trans ee
 refine eH.cons 1 (fun gF h q e0 => ?_) ?_
 ·obtain ⟨r1, vs1, rfl, e1⟩ := aD e0
  obtain ⟨r2, vs2, rfl, e2⟩ := aD e1
  obtain ⟨r7, vs3, rfl, e3⟩ := aD e2
  obtain ⟨DR, tY, rfl, e4⟩ := aD e3
  obtain ⟨DT, JU, rfl, e5⟩ := aV e4
  obtain ⟨DU, vs6, rfl, e6⟩ := aV e5
  obtain ⟨rfl, ee⟩ := aR e6
  exact (a0T S r1 r2 r7 DR DT DU h).symm.trans ee
 refine eH.cons 2 (fun gF h q e0 => ?_) ?_
 ·obtain ⟨r1, vs1, rfl, e1⟩ := aD e0
  obtain ⟨r2, vs2, rfl, e2⟩ := aD e1
  obtain ⟨r7, vs3, rfl, e3⟩ := aD e2
  obtain ⟨r8, tY, rfl, e4⟩ := aV e3
  obtain ⟨r9, JU, rfl, e5⟩ := aD e4
  obtain ⟨DR, vs6, rfl, e6⟩ := aD e5
  obtain ⟨DT, vs7, rfl, e7⟩ := aV e6
  obtain ⟨DU, vs8, rfl, e8⟩ := aV e7
  obtain ⟨r32, vs9, rfl, e9⟩ := aD e8
  obtain ⟨r33, a0V, rfl, e10⟩ := aV e9
  obtain ⟨r34, bJ3, rfl, e11⟩ := aV e10
  obtain ⟨rfl, ee⟩ := aR e11
  exact (a0S S r1 r2 r7 r8 r9 DR DT DU r32 r33 r34 h).symm.trans ee
 refine eH.cons 3 (fun gF h q e0 => ?_) ?_
 ·obtain ⟨r1, vs1, rfl, e1⟩ := aD e0
  obtain ⟨r2, vs2, rfl, e2⟩ := aD e1
  obtain ⟨r7, vs3, rfl, e3⟩ := aD e2
  obtain ⟨DR, tY, rfl, e4⟩ := aD e3
  obtain ⟨DT, JU, rfl, e5⟩ := aV e4
  obtain ⟨DU, vs6, rfl, e6⟩ := aV e5
  obtain ⟨rfl, ee⟩ := aR e6
  exact (a0R S r1 r2 r7 DR DT DU h).symm.trans ee
 refine eH.cons 4 (fun gF h q e0 => ?_) ?_
 ·obtain ⟨r1, vs1, rfl, e1⟩ := aD e0
  obtain ⟨r2, vs2, rfl, e2⟩ := aD e1
  obtain ⟨r7, vs3, rfl, e3⟩ := aD e2
  obtain ⟨rfl, ee⟩ := aR e3
  exact (a0Q S r1 r2 r7 h).symm.trans ee
 exact eH.nil
theorem r63 : ∀ args h v h', F63 args h = some (v, h') → iE (C17) (.call 63 args.toArray h) (.ret v h') := by
 intro args h v h' e
 exact bL (C := C17) (fn := Try.f63) (body := B63) (np := 1) (A := A63) (T := YJ) (kinds := [Kd.v]) (by kernel_rfl) (by kernel_rfl) (by kernel_rfl) (by kernel_rfl) (dP eB) (by kernel_rfl) (fun S => t63 S) e
noncomputable def aQN := kS 63 F63 JV
noncomputable def C18 : dK := cfg aQN
theorem bDB : C18.Ok := dQ (C := C17) bC9 r63
noncomputable def B53 : Code := (Try.f53.body).getD .skip
noncomputable def A53 : G.aB (List KI) := (G.aB.node (some (0, [KI.reg 0 (Kd.i .i64), KI.reg 1 (Kd.v)])) G.aB.nil (G.aB.node none G.aB.nil G.aB.nil))
noncomputable def aC4 (h : Hp) (S : Nat → aC → Option Value) (r0 : Int) (r1 : Value) : Option Value :=
 wrap64 (Int.sub r0 (Int.ofNat 1)) fun i0 =>
 dG (F82 [(Value.int .i64 (Int.ofNat 0)), (Value.int .i64 i0), r1] h) fun v1 =>
 eZ v1 fun b2 =>
 some (Value.bool b2)
noncomputable def T53 (h : Hp) (S : Nat → aC → Option Value) : Nat → aC → Option Value := eG 0 (wI fun r0 => wV fun r1 => wN (aC4 h S r0 r1)) (l9)
noncomputable def F53 (args : List Value) (h : Hp) : Option Value := plainO (eX [Kd.i .i64, Kd.v] args fun al => G.aK (T53 h) 1000000 0 al)
def a0W : Nat := 2 + (9 - 2)
theorem a0X (h : Hp) (S : Nat → aC → Option Value) (r0 : Int) (r1 : Value) : aC4 h S r0 r1 = G.aF bP aP fA (fB env pf4 a0W h) (fG env Try.f53.results.toList) (G.collect B53 A53 []) 0 S (aC.i r0 (aC.v r1 aC.n)) := by kernel_rfl
theorem t53 (h : Hp) (S : Nat → aC → Option Value) : dI (fun l al => G.aF bP aP fA (fB env pf4 a0W h) (fG env Try.f53.results.toList) (G.collect B53 A53 []) l S al) (T53 h S) := by
 unfold T53
 refine dI.cons 0 (fun gF q e0 => ?_) ?_
 ·obtain ⟨r0, vs1, rfl, e1⟩ := aS e0
  obtain ⟨r1, vs2, rfl, e2⟩ := bB e1
  obtain ⟨rfl, ee⟩ := bM e2
  exact (a0X h S r0 r1).symm.trans ee
 exact dI.nil
theorem r53 : PSound Try.prog 53 F53 := dW (C := C0) ok0 (pf := pf4) aQK (fn := Try.f53) (body := B53) (kinds := [Kd.i .i64, Kd.v]) (A := A53) (T := T53) (by kernel_rfl) (by kernel_rfl) (by kernel_rfl) (by kernel_rfl) (fun h S => t53 h S)
noncomputable def pf5 : PF := J9 53 F53 pf4
theorem aQO : fO Try.prog pf5 := jT r53 aQK
noncomputable def aEL := pI 53 F53 aQN
noncomputable def C19 : dK := cfg aEL
theorem bDE : C19.Ok := iB (C := C18) bDB r53
noncomputable def B52 : Code := (Try.f52.body).getD .skip
def A52 : aB := (aB.node (some (0, [(0, Kd.v), (1, Kd.i .i64)])) aB.nil (aB.node none aB.nil (aB.node none (aB.node none aB.nil (aB.node none (aB.node none aB.nil aB.nil) aB.nil)) (aB.node none (aB.node none aB.nil (aB.node none (aB.node none aB.nil aB.nil) aB.nil)) (aB.node none aB.nil aB.nil)))))
noncomputable def aQP (S : Sg) (r0 : Value) (r1 : Int) (h : Hp) : aZ :=
 bV h 25 (Array.toList (Value.cells r0)) fun a0 h0 =>
 bV h0 71 [(Value.slice none 0 0), (Value.slice none 0 0), (Value.slice none 0 0), (Value.slice none 0 0), (Value.map none)] fun a1 h1 =>
 bC 4 h1 a0 fun v2 =>
 aW (dZ F63 [v2] h1) fun v3 h3 =>
 gD v3 0 fun v4 =>
 gD v3 1 fun v5 =>
 aY .i64 v5 fun i6 =>
 bV h3 71 [(Value.slice none 0 0), (Value.slice none 0 0), (Value.slice none 0 0), (Value.slice none 0 0), (Value.map none)] fun a7 h7 =>
 fD 5 h7 a7 v4 fun h8 =>
 bZ (nK i6 (Int.ofNat 0)) fun b9 =>
 dJ b9
 (dG (jP env 71 (List.toArray [])) fun v10 =>
 fD 5 h8 a1 v10 fun h11 =>
 bC 5 h11 a1 fun v12 => some (Value.tuple (List.toArray [v12, (Value.int .i64 i6)]), h11))
 (aX 0 a7 fun v13 =>
 aX 3 v13 fun v14 =>
 aQ h8 v14 fun v15 =>
 eO v15 fun i16 =>
 aW (bW env h8 22 1 (List.toArray [(0, (Value.int .i64 r1))])) fun v17 h17 =>
 aW (dG (F53 [(Value.int .i64 i16), v17] h17) fun v => some (v, h17)) fun v18 h18 =>
 eZ v18 fun b19 =>
 bZ b19 fun b20 =>
 dJ b20
 (dG (jP env 71 (List.toArray [])) fun v21 =>
 fD 5 h18 a1 v21 fun h22 =>
 bC 5 h22 a1 fun v23 => some (Value.tuple (List.toArray [v23, (Value.int .i64 (Int.ofNat 4))]), h22))
 (bC 5 h18 a7 fun v24 =>
 fD 5 h18 a1 v24 fun h25 =>
 bC 5 h25 a1 fun v26 => some (Value.tuple (List.toArray [v26, (Value.int .i64 (Int.ofNat 0))]), h25)))
noncomputable def T52 (S : Sg) : Sg := dY 0 (uV fun r0 => uI fun r1 => uN fun h => aQP S r0 r1 h) (kT)
noncomputable def F52 (args : List Value) (h : Hp) : aZ := bQ [Kd.v, Kd.i .i64] args fun al => aK T52 1000000 0 al h
def a0Z : Nat := 2 + (27 - 2)
theorem a00 (S : Sg) (r0 : Value) (r1 : Int) (h : Hp) : aQP S r0 r1 h = aF (bT env aEL (a0Z)) (bU env Try.f52.results.toList) (collect B52 A52 []) 0 S (AL.v r0 (AL.i r1 AL.n)) h := by kernel_rfl
theorem t52 (S : Sg) : eH (fun l vs h => aF (bT env aEL a0Z) (bU env Try.f52.results.toList) (collect B52 A52 []) l S vs h) (T52 S) := by
 unfold T52
 refine eH.cons 0 (fun gF h q e0 => ?_) ?_
 ·obtain ⟨r0, vs1, rfl, e1⟩ := aD e0
  obtain ⟨r1, vs2, rfl, e2⟩ := aV e1
  obtain ⟨rfl, ee⟩ := aR e2
  exact (a00 S r0 r1 h).symm.trans ee
 exact eH.nil
theorem r52 : ∀ args h v h', F52 args h = some (v, h') → iE (C19) (.call 52 args.toArray h) (.ret v h') := by
 intro args h v h' e
 exact bL (C := C19) (fn := Try.f52) (body := B52) (np := 2) (A := A52) (T := T52) (kinds := [Kd.v, Kd.i .i64]) (by kernel_rfl) (by kernel_rfl) (by kernel_rfl) (by kernel_rfl) (dP eB) (by kernel_rfl) (fun S => t52 S) e
noncomputable def aQQ := kS 52 F52 aEL
noncomputable def C20 : dK := cfg aQQ
theorem bDI : C20.Ok := dQ (C := C19) bDE r52
noncomputable def B54 : Code := (Try.f54.body).getD .skip
noncomputable def A54 : G.aB (List KI) := (G.aB.node (some (0, [KI.reg 0 (Kd.v), KI.reg 1 (Kd.v)])) G.aB.nil (G.aB.node none G.aB.nil (G.aB.node none (G.aB.node none G.aB.nil (G.aB.node none (G.aB.node (some (1, [KI.loc 2 2, KI.reg 5 (Kd.i .i64), KI.reg 10 (Kd.v), KI.reg 11 (Kd.i .i64), KI.reg 12 (Kd.i .i64), KI.list 2])) (G.aB.node none G.aB.nil (G.aB.node none (G.aB.node none G.aB.nil G.aB.nil) (G.aB.node none (G.aB.node none (G.aB.node none G.aB.nil (G.aB.node none G.aB.nil (G.aB.node none (G.aB.node (some (2, [KI.loc 2 2, KI.reg 5 (Kd.i .i64), KI.reg 10 (Kd.v), KI.reg 11 (Kd.i .i64), KI.reg 12 (Kd.i .i64), KI.reg 19 (Kd.v), KI.reg 20 (Kd.i .i64), KI.reg 21 (Kd.i .i64), KI.list 2])) (G.aB.node none G.aB.nil (G.aB.node none (G.aB.node none G.aB.nil G.aB.nil) (G.aB.node none (G.aB.node none (G.aB.node none G.aB.nil G.aB.nil) G.aB.nil) G.aB.nil))) G.aB.nil) G.aB.nil))) G.aB.nil) (G.aB.node (some (3, [KI.loc 2 2, KI.reg 5 (Kd.i .i64), KI.reg 10 (Kd.v), KI.reg 11 (Kd.i .i64), KI.reg 12 (Kd.i .i64), KI.list 2])) G.aB.nil G.aB.nil)))) G.aB.nil) G.aB.nil)) (G.aB.node (some (4, [KI.reg 5 (Kd.i .i64)])) G.aB.nil G.aB.nil))))
noncomputable def aQR (h : Hp) (S : Nat → aC → Option Value) (r5 : Int) : Option Value :=
 some (Value.int .i64 r5)
noncomputable def aCL (h : Hp) (S : Nat → aC → Option Value) (r5 : Int) (iF : Value) (iH : Int) (qM : Int) (c2 : List Value) : Option Value :=
 wrap64 (Int.add qM (Int.ofNat 1)) fun i0 =>
 S 1 (aC.i r5 (aC.v iF (aC.i iH (aC.i i0 (aC.l c2 aC.n)))))
noncomputable def WT (h : Hp) (S : Nat → aC → Option Value) (r5 : Int) (iF : Value) (iH : Int) (qM : Int) (r19 : Value) (r20 : Int) (r21 : Int) (c2 : List Value) : Option Value :=
 dL (oN r21 r20) fun b0 =>
 dJ b0
 (eU 1 r19 r21 fun v1 =>
 aQ h v1 fun v2 =>
 aY .i64 v2 fun i3 =>
 BB c2 0 fun v4 =>
 eU 1 v4 i3 fun v5 =>
 aQ h v5 fun v6 =>
 aY .i64 v6 fun i7 =>
 wrap64 (Int.add r5 i7) fun i8 =>
 wrap64 (Int.add r21 (Int.ofNat 1)) fun i9 =>
 S 2 (aC.i i8 (aC.v iF (aC.i iH (aC.i qM (aC.v r19 (aC.i r20 (aC.i i9 (aC.l c2 aC.n)))))))))
 (S 3 (aC.i r5 (aC.v iF (aC.i iH (aC.i qM (aC.l c2 aC.n))))))
noncomputable def WS (h : Hp) (S : Nat → aC → Option Value) (r5 : Int) (iF : Value) (iH : Int) (qM : Int) (c2 : List Value) : Option Value :=
 dL (oN qM iH) fun b0 =>
 dJ b0
 (eU 2 iF qM fun v1 =>
 bC 2 h v1 fun v2 =>
 aNQ v2 fun l3 => dJ (Nat.beq (OH l3) 2) (TD 0 l3 [(Value.int .i64 (Int.ofNat 0)), (Value.int .i64 (Int.ofNat 0))] fun c3 =>
 BB c2 4 fun v4 =>
 xF c3 0 fun d5 => vD d5 2 fun l5 =>
 dG (kE env h 69 v4 (Value.agg (Array.mk l5)) false) fun v6 =>
 eO v6 fun i7 =>
 S 2 (aC.i r5 (aC.v iF (aC.i iH (aC.i qM (aC.v v6 (aC.i i7 (aC.i (Int.ofNat 0) (aC.l c2 aC.n))))))))) none)
 (S 4 (aC.i r5 aC.n))
noncomputable def aCM (h : Hp) (S : Nat → aC → Option Value) (r0 : Value) (r1 : Value) : Option Value :=
 oM (Array.toList (Value.cells r0)) fun c0 =>
 eO r1 fun i1 =>
 S 1 (aC.i (Int.ofNat 0) (aC.v r1 (aC.i i1 (aC.i (Int.ofNat 0) (aC.l c0 aC.n)))))
noncomputable def T54 (h : Hp) (S : Nat → aC → Option Value) : Nat → aC → Option Value := eG 0 (wV fun r0 => wV fun r1 => wN (aCM h S r0 r1)) (eG 1 (wI fun r5 => wV fun iF => wI fun iH => wI fun qM => wL fun c2 => wN (WS h S r5 iF iH qM c2)) (eG 2 (wI fun r5 => wV fun iF => wI fun iH => wI fun qM => wV fun r19 => wI fun r20 => wI fun r21 => wL fun c2 => wN (WT h S r5 iF iH qM r19 r20 r21 c2)) (eG 3 (wI fun r5 => wV fun iF => wI fun iH => wI fun qM => wL fun c2 => wN (aCL h S r5 iF iH qM c2)) (eG 4 (wI fun r5 => wN (aQR h S r5)) (l9)))))
noncomputable def F54 (args : List Value) (h : Hp) : Option Value := plainO (eX [Kd.v, Kd.v] args fun al => G.aK (T54 h) 1000000 0 al)
def aG2 : Nat := 2 + (36 - 2)
theorem a01 (h : Hp) (S : Nat → aC → Option Value) (r5 : Int) : aQR h S r5 = G.aF bP aP fA (fB env pf5 aG2 h) (fG env Try.f54.results.toList) (G.collect B54 A54 []) 4 S (aC.i r5 aC.n) := by kernel_rfl
theorem a02 (h : Hp) (S : Nat → aC → Option Value) (r5 : Int) (iF : Value) (iH : Int) (qM : Int) (c2 : List Value) : aCL h S r5 iF iH qM c2 = G.aF bP aP fA (fB env pf5 aG2 h) (fG env Try.f54.results.toList) (G.collect B54 A54 []) 3 S (aC.i r5 (aC.v iF (aC.i iH (aC.i qM (aC.l c2 aC.n))))) := by kernel_rfl
theorem a03 (h : Hp) (S : Nat → aC → Option Value) (r5 : Int) (iF : Value) (iH : Int) (qM : Int) (r19 : Value) (r20 : Int) (r21 : Int) (c2 : List Value) : WT h S r5 iF iH qM r19 r20 r21 c2 = G.aF bP aP fA (fB env pf5 aG2 h) (fG env Try.f54.results.toList) (G.collect B54 A54 []) 2 S (aC.i r5 (aC.v iF (aC.i iH (aC.i qM (aC.v r19 (aC.i r20 (aC.i r21 (aC.l c2 aC.n)))))))) := by kernel_rfl
theorem a04 (h : Hp) (S : Nat → aC → Option Value) (r5 : Int) (iF : Value) (iH : Int) (qM : Int) (c2 : List Value) : WS h S r5 iF iH qM c2 = G.aF bP aP fA (fB env pf5 aG2 h) (fG env Try.f54.results.toList) (G.collect B54 A54 []) 1 S (aC.i r5 (aC.v iF (aC.i iH (aC.i qM (aC.l c2 aC.n))))) := by kernel_rfl
theorem a05 (h : Hp) (S : Nat → aC → Option Value) (r0 : Value) (r1 : Value) : aCM h S r0 r1 = G.aF bP aP fA (fB env pf5 aG2 h) (fG env Try.f54.results.toList) (G.collect B54 A54 []) 0 S (aC.v r0 (aC.v r1 aC.n)) := by kernel_rfl
theorem t54 (h : Hp) (S : Nat → aC → Option Value) : dI (fun l al => G.aF bP aP fA (fB env pf5 aG2 h) (fG env Try.f54.results.toList) (G.collect B54 A54 []) l S al) (T54 h S) := by
 unfold T54
 refine dI.cons 0 (fun gF q e0 => ?_) ?_
 ·obtain ⟨r0, vs1, rfl, e1⟩ := bB e0
  obtain ⟨r1, vs2, rfl, e2⟩ := bB e1
  obtain ⟨rfl, ee⟩ := bM e2
  exact (a05 h S r0 r1).symm.trans ee
 refine dI.cons 1 (fun gF q e0 => ?_) ?_
 ·obtain ⟨r5, vs1, rfl, e1⟩ := aS e0
  obtain ⟨iF, vs2, rfl, e2⟩ := bB e1
  obtain ⟨iH, vs3, rfl, e3⟩ := aS e2
  obtain ⟨qM, tY, rfl, e4⟩ := aS e3
  obtain ⟨c2, JU, rfl, e5⟩ := TV e4
  obtain ⟨rfl, ee⟩ := bM e5
  exact (a04 h S r5 iF iH qM c2).symm.trans ee
 refine dI.cons 2 (fun gF q e0 => ?_) ?_
 ·obtain ⟨r5, vs1, rfl, e1⟩ := aS e0
  obtain ⟨iF, vs2, rfl, e2⟩ := bB e1
  obtain ⟨iH, vs3, rfl, e3⟩ := aS e2
  obtain ⟨qM, tY, rfl, e4⟩ := aS e3
  obtain ⟨r19, JU, rfl, e5⟩ := bB e4
  obtain ⟨r20, vs6, rfl, e6⟩ := aS e5
  obtain ⟨r21, vs7, rfl, e7⟩ := aS e6
  obtain ⟨c2, vs8, rfl, e8⟩ := TV e7
  obtain ⟨rfl, ee⟩ := bM e8
  exact (a03 h S r5 iF iH qM r19 r20 r21 c2).symm.trans ee
 refine dI.cons 3 (fun gF q e0 => ?_) ?_
 ·obtain ⟨r5, vs1, rfl, e1⟩ := aS e0
  obtain ⟨iF, vs2, rfl, e2⟩ := bB e1
  obtain ⟨iH, vs3, rfl, e3⟩ := aS e2
  obtain ⟨qM, tY, rfl, e4⟩ := aS e3
  obtain ⟨c2, JU, rfl, e5⟩ := TV e4
  obtain ⟨rfl, ee⟩ := bM e5
  exact (a02 h S r5 iF iH qM c2).symm.trans ee
 refine dI.cons 4 (fun gF q e0 => ?_) ?_
 ·obtain ⟨r5, vs1, rfl, e1⟩ := aS e0
  obtain ⟨rfl, ee⟩ := bM e1
  exact (a01 h S r5).symm.trans ee
 exact dI.nil
theorem r54 : PSound Try.prog 54 F54 := dW (C := C0) ok0 (pf := pf5) aQO (fn := Try.f54) (body := B54) (kinds := [Kd.v, Kd.v]) (A := A54) (T := T54) (by kernel_rfl) (by kernel_rfl) (by kernel_rfl) (by kernel_rfl) (fun h S => t54 h S)
noncomputable def pf6 : PF := J9 54 F54 pf5
theorem aQS : fO Try.prog pf6 := jT r54 aQO
noncomputable def aEM := pI 54 F54 aQQ
noncomputable def C21 : dK := cfg aEM
theorem bDJ : C21.Ok := iB (C := C20) bDI r54
noncomputable def B18 : Code := (Try.f18.body).getD .skip
def A18 : aB := (aB.node (some (0, [(0, Kd.v), (1, Kd.i .i64), (2, Kd.i .i64)])) aB.nil (aB.node none aB.nil (aB.node none (aB.node none aB.nil (aB.node none (aB.node none aB.nil aB.nil) aB.nil)) (aB.node none (aB.node none aB.nil (aB.node none (aB.node none aB.nil aB.nil) aB.nil)) (aB.node none aB.nil (aB.node none aB.nil aB.nil))))))
noncomputable def aQT (S : Sg) (r0 : Value) (r1 : Int) (r2 : Int) (h : Hp) : aZ :=
 bV h 25 (Array.toList (Value.cells r0)) fun a0 h0 =>
 bC 4 h0 a0 fun v1 =>
 aW (dZ F52 [v1, (Value.int .i64 r2)] h0) fun v2 h2 =>
 gD v2 0 fun v3 =>
 gD v2 1 fun v4 =>
 aY .i64 v4 fun i5 =>
 bV h2 71 [(Value.slice none 0 0), (Value.slice none 0 0), (Value.slice none 0 0), (Value.slice none 0 0), (Value.map none)] fun a6 h6 =>
 fD 5 h6 a6 v3 fun h7 =>
 bZ (nK i5 (Int.ofNat 0)) fun b8 =>
 dJ b8
 (some (Value.tuple (List.toArray [(Value.int .i64 (Int.ofNat 0)), (Value.slice none 0 0), (Value.int .i64 i5)]), h7))
 (aX 0 a6 fun v9 =>
 aX 2 v9 fun v10 =>
 aQ h7 v10 fun v11 =>
 eO v11 fun i12 =>
 aW (bW env h7 22 1 (List.toArray [(0, (Value.int .i64 r1))])) fun v13 h13 =>
 aW (dG (F53 [(Value.int .i64 i12), v13] h13) fun v => some (v, h13)) fun v14 KX =>
 eZ v14 fun b15 =>
 bZ b15 fun b16 =>
 dJ b16
 (some (Value.tuple (List.toArray [(Value.int .i64 (Int.ofNat 0)), (Value.slice none 0 0), (Value.int .i64 (Int.ofNat 4))]), KX))
 (dG (jP env 76 (List.toArray [(0, (Value.int .i64 r1)), (1, (Value.int .i64 r2))])) fun v17 =>
 bV KX 76 [(Value.int .i64 (Int.ofNat 0)), (Value.int .i64 (Int.ofNat 0))] fun a18 h18 =>
 fD 2 h18 a18 v17 fun h19 =>
 bC 5 (Hp.mk (Hp.next h19) (Hp.next h19) (Hp.aI h19)) a6 fun v20 =>
 bC 2 (Hp.mk (Hp.next h19) (Hp.next h19) (Hp.aI h19)) a18 fun v21 =>
 aW (bW env (Hp.mk (Hp.next h19) (Hp.next h19) T.nil) 79 1 (List.toArray [(0, v21)])) fun v22 h22 =>
 qJ v22 (Hp.next h19) h22 fun w23 n23 =>
 aW (dG (F54 [v20, v22] (Hp.mk n23 n23 (dF w23 (Hp.aI h19)))) fun v => some (v, (Hp.mk n23 n23 (dF w23 (Hp.aI h19))))) fun v24 h24 =>
 aY .i64 v24 fun i25 =>
 aX 4 a6 fun v26 =>
 aQ (Hp.mk n23 n23 (Hp.aI h19)) v26 fun v27 =>
 bC 2 (Hp.mk n23 n23 (Hp.aI h19)) a18 fun v28 =>
 dG (kE env (Hp.mk n23 n23 (Hp.aI h19)) 69 v27 v28 false) fun v29 =>
 some (Value.tuple (List.toArray [(Value.int .i64 i25), v29, (Value.int .i64 (Int.ofNat 0))]), (Hp.mk n23 (Hp.ro h19) (dF w23 (Hp.aI h19))))))
noncomputable def T18 (S : Sg) : Sg := dY 0 (uV fun r0 => uI fun r1 => uI fun r2 => uN fun h => aQT S r0 r1 r2 h) (kT)
noncomputable def F18 (args : List Value) (h : Hp) : aZ := bQ [Kd.v, Kd.i .i64, Kd.i .i64] args fun al => aK T18 1000000 0 al h
def a06 : Nat := 3 + (39 - 3)
theorem a07 (S : Sg) (r0 : Value) (r1 : Int) (r2 : Int) (h : Hp) : aQT S r0 r1 r2 h = aF (bT env aEM (a06)) (bU env Try.f18.results.toList) (collect B18 A18 []) 0 S (AL.v r0 (AL.i r1 (AL.i r2 AL.n))) h := by kernel_rfl
theorem t18 (S : Sg) : eH (fun l vs h => aF (bT env aEM a06) (bU env Try.f18.results.toList) (collect B18 A18 []) l S vs h) (T18 S) := by
 unfold T18
 refine eH.cons 0 (fun gF h q e0 => ?_) ?_
 ·obtain ⟨r0, vs1, rfl, e1⟩ := aD e0
  obtain ⟨r1, vs2, rfl, e2⟩ := aV e1
  obtain ⟨r2, vs3, rfl, e3⟩ := aV e2
  obtain ⟨rfl, ee⟩ := aR e3
  exact (a07 S r0 r1 r2 h).symm.trans ee
 exact eH.nil
theorem r18 : ∀ args h v h', F18 args h = some (v, h') → iE (C21) (.call 18 args.toArray h) (.ret v h') := by
 intro args h v h' e
 exact bL (C := C21) (fn := Try.f18) (body := B18) (np := 3) (A := A18) (T := T18) (kinds := [Kd.v, Kd.i .i64, Kd.i .i64]) (by kernel_rfl) (by kernel_rfl) (by kernel_rfl) (by kernel_rfl) (dP eB) (by kernel_rfl) (fun S => t18 S) e
noncomputable def aQU := kS 18 F18 aEM
noncomputable def C22 : dK := cfg aQU
theorem bDP : C22.Ok := dQ (C := C21) bDJ r18
noncomputable def aK6 : Code := (Try.f111.body).getD .skip
noncomputable def aK7 : G.aB (List KI) := (G.aB.node (some (0, [KI.reg 0 (Kd.v), KI.reg 1 (Kd.i .i64)])) G.aB.nil (G.aB.node none (G.aB.node none G.aB.nil (G.aB.node none (G.aB.node (some (1, [KI.reg 0 (Kd.v), KI.reg 1 (Kd.i .i64), KI.reg 7 (Kd.i .i64), KI.reg 8 (Kd.i .i64)])) (G.aB.node none G.aB.nil (G.aB.node none (G.aB.node none G.aB.nil G.aB.nil) (G.aB.node none (G.aB.node none (G.aB.node none G.aB.nil (G.aB.node none G.aB.nil (G.aB.node none (G.aB.node none G.aB.nil G.aB.nil) G.aB.nil))) G.aB.nil) G.aB.nil))) G.aB.nil) G.aB.nil)) (G.aB.node (some (2, [])) G.aB.nil G.aB.nil)))
noncomputable def aK8 (h : Hp) (S : Nat → aC → Option Value) : Option Value :=
 some (Value.int .i64 (Int.negSucc 0))
noncomputable def NN (h : Hp) (S : Nat → aC → Option Value) (r0 : Value) (r1 : Int) (r7 : Int) (r8 : Int) : Option Value :=
 dL (oN r8 r7) fun b0 =>
 dJ b0
 (eU 1 r0 r8 fun v1 =>
 aQ h v1 fun v2 =>
 aY .i64 v2 fun i3 =>
 dL (nK r1 i3) fun b4 =>
 dJ b4
 (some (Value.int .i64 r8))
 (wrap64 (Int.add r8 (Int.ofNat 1)) fun i5 =>
 S 1 (aC.v r0 (aC.i r1 (aC.i r7 (aC.i i5 aC.n))))))
 (S 2 aC.n)
noncomputable def UB (h : Hp) (S : Nat → aC → Option Value) (r0 : Value) (r1 : Int) : Option Value :=
 eO r0 fun i0 =>
 S 1 (aC.v r0 (aC.i r1 (aC.i i0 (aC.i (Int.ofNat 0) aC.n))))
noncomputable def UA (h : Hp) (S : Nat → aC → Option Value) : Nat → aC → Option Value := eG 0 (wV fun r0 => wI fun r1 => wN (UB h S r0 r1)) (eG 1 (wV fun r0 => wI fun r1 => wI fun r7 => wI fun r8 => wN (NN h S r0 r1 r7 r8)) (eG 2 (wN (aK8 h S)) (l9)))
noncomputable def aJ3 (args : List Value) (h : Hp) : Option Value := plainO (eX [Kd.v, Kd.i .i64] args fun al => G.aK (UA h) 1000000 0 al)
def aEN : Nat := 2 + (19 - 2)
theorem aUK (h : Hp) (S : Nat → aC → Option Value) : aK8 h S = G.aF bP aP fA (fB env pf6 aEN h) (fG env Try.f111.results.toList) (G.collect aK6 aK7 []) 2 S aC.n := by kernel_rfl
theorem aUL (h : Hp) (S : Nat → aC → Option Value) (r0 : Value) (r1 : Int) (r7 : Int) (r8 : Int) : NN h S r0 r1 r7 r8 = G.aF bP aP fA (fB env pf6 aEN h) (fG env Try.f111.results.toList) (G.collect aK6 aK7 []) 1 S (aC.v r0 (aC.i r1 (aC.i r7 (aC.i r8 aC.n)))) := by kernel_rfl
theorem aUM (h : Hp) (S : Nat → aC → Option Value) (r0 : Value) (r1 : Int) : UB h S r0 r1 = G.aF bP aP fA (fB env pf6 aEN h) (fG env Try.f111.results.toList) (G.collect aK6 aK7 []) 0 S (aC.v r0 (aC.i r1 aC.n)) := by kernel_rfl
theorem t111 (h : Hp) (S : Nat → aC → Option Value) : dI (fun l al => G.aF bP aP fA (fB env pf6 aEN h) (fG env Try.f111.results.toList) (G.collect aK6 aK7 []) l S al) (UA h S) := by
 unfold UA
 refine dI.cons 0 (fun gF q e0 => ?_) ?_
 ·obtain ⟨r0, vs1, rfl, e1⟩ := bB e0
  obtain ⟨r1, vs2, rfl, e2⟩ := aS e1
  obtain ⟨rfl, ee⟩ := bM e2
  exact (aUM h S r0 r1).symm.trans ee
 refine dI.cons 1 (fun gF q e0 => ?_) ?_
 ·obtain ⟨r0, vs1, rfl, e1⟩ := bB e0
  obtain ⟨r1, vs2, rfl, e2⟩ := aS e1
  obtain ⟨r7, vs3, rfl, e3⟩ := aS e2
  obtain ⟨r8, tY, rfl, e4⟩ := aS e3
  obtain ⟨rfl, ee⟩ := bM e4
  exact (aUL h S r0 r1 r7 r8).symm.trans ee
 refine dI.cons 2 (fun gF q e0 => ?_) ?_
 ·
  obtain ⟨rfl, ee⟩ := bM e0
  exact (aUK h S).symm.trans ee
 exact dI.nil
theorem a08 : PSound Try.prog 111 aJ3 := dW (C := C0) ok0 (pf := pf6) aQS (fn := Try.f111) (body := aK6) (kinds := [Kd.v, Kd.i .i64]) (A := aK7) (T := UA) (by kernel_rfl) (by kernel_rfl) (by kernel_rfl) (by kernel_rfl) (fun h S => t111 h S)
noncomputable def pf7 : PF := J9 111 aJ3 pf6
theorem aQV : fO Try.prog pf7 := jT a08 aQS
noncomputable def aQW := pI 111 aJ3 aQU
noncomputable def C23 : dK := cfg aQW
theorem bDQ : C23.Ok := iB (C := C22) bDP a08
noncomputable def B90 : Code := (Try.f90.body).getD .skip
noncomputable def A90 : G.aB (List KI) := (G.aB.node (some (0, [KI.reg 0 (Kd.v), KI.reg 1 (Kd.i .i64)])) G.aB.nil (G.aB.node none G.aB.nil G.aB.nil))
noncomputable def aC6 (h : Hp) (S : Nat → aC → Option Value) (r0 : Value) (r1 : Int) : Option Value :=
 dG (aJ3 [r0, (Value.int .i64 r1)] h) fun v0 =>
 aY .i64 v0 fun i1 =>
 bZ (oN i1 (Int.ofNat 0)) fun b2 =>
 some (Value.bool b2)
noncomputable def T90 (h : Hp) (S : Nat → aC → Option Value) : Nat → aC → Option Value := eG 0 (wV fun r0 => wI fun r1 => wN (aC6 h S r0 r1)) (l9)
noncomputable def F90 (args : List Value) (h : Hp) : Option Value := plainO (eX [Kd.v, Kd.i .i64] args fun al => G.aK (T90 h) 1000000 0 al)
def a1A : Nat := 2 + (9 - 2)
theorem a1B (h : Hp) (S : Nat → aC → Option Value) (r0 : Value) (r1 : Int) : aC6 h S r0 r1 = G.aF bP aP fA (fB env pf7 a1A h) (fG env Try.f90.results.toList) (G.collect B90 A90 []) 0 S (aC.v r0 (aC.i r1 aC.n)) := by kernel_rfl
theorem t90 (h : Hp) (S : Nat → aC → Option Value) : dI (fun l al => G.aF bP aP fA (fB env pf7 a1A h) (fG env Try.f90.results.toList) (G.collect B90 A90 []) l S al) (T90 h S) := by
 unfold T90
 refine dI.cons 0 (fun gF q e0 => ?_) ?_
 ·obtain ⟨r0, vs1, rfl, e1⟩ := bB e0
  obtain ⟨r1, vs2, rfl, e2⟩ := aS e1
  obtain ⟨rfl, ee⟩ := bM e2
  exact (a1B h S r0 r1).symm.trans ee
 exact dI.nil
theorem r90 : PSound Try.prog 90 F90 := dW (C := C0) ok0 (pf := pf7) aQV (fn := Try.f90) (body := B90) (kinds := [Kd.v, Kd.i .i64]) (A := A90) (T := T90) (by kernel_rfl) (by kernel_rfl) (by kernel_rfl) (by kernel_rfl) (fun h S => t90 h S)
noncomputable def pf8 : PF := J9 90 F90 pf7
theorem aQX : fO Try.prog pf8 := jT r90 aQV
noncomputable def aQY := pI 90 F90 aQW
noncomputable def C24 : dK := cfg aQY
theorem bDT : C24.Ok := iB (C := C23) bDQ r90
noncomputable def B92 : Code := (Try.f92.body).getD .skip
noncomputable def A92 : G.aB (List KI) := (G.aB.node (some (0, [KI.reg 0 (Kd.v), KI.reg 1 (Kd.v)])) G.aB.nil (G.aB.node none G.aB.nil G.aB.nil))
noncomputable def aDA (h : Hp) (S : Nat → aC → Option Value) (r0 : Value) (r1 : Value) : Option Value :=
 oM (Array.toList (Value.cells r0)) fun c0 =>
 oM (Array.toList (Value.cells r1)) fun c1 =>
 BB c0 4 fun v2 =>
 xF c1 0 fun d3 => vD d3 2 fun l3 =>
 dG (kE env h 69 v2 (Value.agg (Array.mk l3)) false) fun v4 =>
 dG (F90 [v4, (Value.int .i64 (Int.ofNat 0))] h) fun v5 =>
 eZ v5 fun b6 =>
 some (Value.bool b6)
noncomputable def T92 (h : Hp) (S : Nat → aC → Option Value) : Nat → aC → Option Value := eG 0 (wV fun r0 => wV fun r1 => wN (aDA h S r0 r1)) (l9)
noncomputable def F92 (args : List Value) (h : Hp) : Option Value := plainO (eX [Kd.v, Kd.v] args fun al => G.aK (T92 h) 1000000 0 al)
def a1D : Nat := 2 + (10 - 2)
theorem a1E (h : Hp) (S : Nat → aC → Option Value) (r0 : Value) (r1 : Value) : aDA h S r0 r1 = G.aF bP aP fA (fB env pf8 a1D h) (fG env Try.f92.results.toList) (G.collect B92 A92 []) 0 S (aC.v r0 (aC.v r1 aC.n)) := by kernel_rfl
theorem t92 (h : Hp) (S : Nat → aC → Option Value) : dI (fun l al => G.aF bP aP fA (fB env pf8 a1D h) (fG env Try.f92.results.toList) (G.collect B92 A92 []) l S al) (T92 h S) := by
 unfold T92
 refine dI.cons 0 (fun gF q e0 => ?_) ?_
 ·obtain ⟨r0, vs1, rfl, e1⟩ := bB e0
  obtain ⟨r1, vs2, rfl, e2⟩ := bB e1
  obtain ⟨rfl, ee⟩ := bM e2
  exact (a1E h S r0 r1).symm.trans ee
 exact dI.nil
theorem r92 : PSound Try.prog 92 F92 := dW (C := C0) ok0 (pf := pf8) aQX (fn := Try.f92) (body := B92) (kinds := [Kd.v, Kd.v]) (A := A92) (T := T92) (by kernel_rfl) (by kernel_rfl) (by kernel_rfl) (by kernel_rfl) (fun h S => t92 h S)
noncomputable def pf9 : PF := J9 92 F92 pf8
theorem aQZ : fO Try.prog pf9 := jT r92 aQX
noncomputable def Q6 := pI 92 F92 aQY
noncomputable def C25 : dK := cfg Q6
theorem bDW : C25.Ok := iB (C := C24) bDT r92
noncomputable def B60 : Code := (Try.f60.body).getD .skip
def A60 : aB := (aB.node (some (0, [(0, Kd.v), (1, Kd.v)])) aB.nil (aB.node none aB.nil (aB.node none aB.nil (aB.node none (aB.node none aB.nil (aB.node none (aB.node (some (1, [(2, Kd.v), (4, Kd.v), (5, Kd.v), (15, Kd.v), (16, Kd.i .i64), (17, Kd.i .i64)])) (aB.node none aB.nil (aB.node none (aB.node none aB.nil aB.nil) (aB.node none (aB.node none (aB.node none aB.nil (aB.node none aB.nil (aB.node none (aB.node none aB.nil (aB.node none aB.nil aB.nil)) aB.nil))) aB.nil) aB.nil))) aB.nil) aB.nil)) (aB.node (some (2, [(4, Kd.v), (5, Kd.v)])) aB.nil aB.nil)))))
noncomputable def aDB (S : Sg) (r4 : Value) (r5 : Value) (h : Hp) : aZ :=
 bC 4 h r5 fun v0 =>
 fD 4 h r4 v0 fun h1 =>
 bC 4 h1 r4 fun v2 => some (v2, h1)
noncomputable def XF (S : Sg) (r2 : Value) (r4 : Value) (r5 : Value) (r15 : Value) (r16 : Int) (FJ : Int) (h : Hp) : aZ :=
 dL (oN FJ r16) fun b0 =>
 dJ b0
 (eU 2 r15 FJ fun v1 =>
 bC 2 h v1 fun v2 =>
 bV h 76 [(Value.int .i64 (Int.ofNat 0)), (Value.int .i64 (Int.ofNat 0))] fun a3 h3 =>
 fD 2 h3 a3 v2 fun h4 =>
 bC 5 h4 r2 fun v5 =>
 bC 2 h4 a3 fun v6 =>
 aW (dG (F92 [v5, v6] h4) fun v => some (v, h4)) fun v7 h7 =>
 eZ v7 fun b8 =>
 dJ b8
 (aX 0 r2 fun v9 =>
 aX 2 v9 fun v10 =>
 aQ (Hp.mk (Hp.next h7) (Hp.next h7) (Hp.aI h7)) v10 fun v11 =>
 aX 0 a3 fun v12 =>
 aQ (Hp.mk (Hp.next h7) (Hp.next h7) (Hp.aI h7)) v12 fun v13 =>
 aY .i64 v13 fun i14 =>
 eU 3 v11 i14 fun v15 =>
 bC 3 (Hp.mk (Hp.next h7) (Hp.next h7) (Hp.aI h7)) v15 fun v16 =>
 aX 0 r2 fun v17 =>
 aX 3 v17 fun v18 =>
 aQ (Hp.mk (Hp.next h7) (Hp.next h7) (Hp.aI h7)) v18 fun v19 =>
 aX 1 a3 fun v20 =>
 aQ (Hp.mk (Hp.next h7) (Hp.next h7) (Hp.aI h7)) v20 fun v21 =>
 aY .i64 v21 fun i22 =>
 eU 3 v19 i22 fun v23 =>
 bC 3 (Hp.mk (Hp.next h7) (Hp.next h7) (Hp.aI h7)) v23 fun v24 =>
 bV (Hp.mk (Hp.next h7) (Hp.next h7) T.nil) 59 [(Value.string (ByteArray.mk #[])), (Value.slice none 0 0), (Value.int .i64 (Int.ofNat 0))] fun a25 h25 =>
 qJ a25 (Hp.next h7) h25 fun w26 n26 =>
 bV (Hp.mk n26 n26 T.nil) 59 [(Value.string (ByteArray.mk #[])), (Value.slice none 0 0), (Value.int .i64 (Int.ofNat 0))] fun a27 h27 =>
 qJ a27 n26 h27 fun w28 n28 =>
 yK env 59 a25 v16 n28 (Hp.next h7) (dF w28 (dF w26 (Hp.aI h7))) (fun b => (dN [] b || (dN [] b || (dN [] b || (dN [] b || (dN [] b || (dN [] b || (dN [] b || (dN w26 b || (dN w28 b || false)))))))))) fun w29 =>
 fD 3 (Hp.mk n28 (Hp.ro h7) (dF w29 (dF w28 (dF w26 (Hp.aI h7))))) a27 v24 fun h30 =>
 aX 1 a25 fun v31 =>
 aQ h30 v31 fun v32 =>
 eU 1 v32 (Int.ofNat 0) fun v33 =>
 aQ h30 v33 fun v34 =>
 aY .i64 v34 fun i35 =>
 yT 4 1 r5 i35 fun v36 =>
 aQ h30 v36 fun v37 =>
 aY .i64 v37 fun i38 =>
 aX 2 a25 fun v39 =>
 aQ h30 v39 fun v40 =>
 aY .i64 v40 fun i41 =>
 wrap64 (Int.add i38 i41) fun i42 =>
 yT 4 1 r5 i35 fun v43 =>
 EH h30 v43 (Value.int .i64 i42) fun h44 =>
 aX 1 a27 fun v45 =>
 aQ h44 v45 fun v46 =>
 eU 1 v46 (Int.ofNat 0) fun v47 =>
 aQ h44 v47 fun v48 =>
 aY .i64 v48 fun i49 =>
 yT 4 1 r5 i49 fun v50 =>
 aQ h44 v50 fun v51 =>
 aY .i64 v51 fun i52 =>
 aX 2 a27 fun v53 =>
 aQ h44 v53 fun v54 =>
 aY .i64 v54 fun i55 =>
 wrap64 (Int.sub i52 i55) fun i56 =>
 yT 4 1 r5 i49 fun v57 =>
 EH h44 v57 (Value.int .i64 i56) fun h58 =>
 wrap64 (Int.add FJ (Int.ofNat 1)) fun i59 =>
 S 1 (AL.v r2 (AL.v r4 (AL.v r5 (AL.v r15 (AL.i r16 (AL.i i59 AL.n)))))) h58)
 (wrap64 (Int.add FJ (Int.ofNat 1)) fun i60 =>
 S 1 (AL.v r2 (AL.v r4 (AL.v r5 (AL.v r15 (AL.i r16 (AL.i i60 AL.n)))))) h7))
 (S 2 (AL.v r4 (AL.v r5 AL.n)) h)
noncomputable def aDF (S : Sg) (r0 : Value) (r1 : Value) (h : Hp) : aZ :=
 bV h 71 (Array.toList (Value.cells r0)) fun a0 h0 =>
 bV h0 87 [(Value.int .i64 (Int.ofNat 0)), (Value.int .i64 (Int.ofNat 0)), (Value.int .i64 (Int.ofNat 0)), (Value.int .i64 (Int.ofNat 0))] fun a1 h1 =>
 bV h1 87 [(Value.int .i64 (Int.ofNat 0)), (Value.int .i64 (Int.ofNat 0)), (Value.int .i64 (Int.ofNat 0)), (Value.int .i64 (Int.ofNat 0))] fun a2 h2 =>
 dG (jZ env h2 87 a2 none none none) fun v3 =>
 aX 0 a0 fun v4 =>
 aX 1 v4 fun v5 =>
 aQ h2 v5 fun v6 =>
 aW (copyV env h2 #[22, 22] (List.toArray [v3, v6])) fun v7 h7 =>
 eO r1 fun i8 =>
 S 1 (AL.v a0 (AL.v a1 (AL.v a2 (AL.v r1 (AL.i i8 (AL.i (Int.ofNat 0) AL.n)))))) h7
noncomputable def T60 (S : Sg) : Sg := dY 0 (uV fun r0 => uV fun r1 => uN fun h => aDF S r0 r1 h) (dY 1 (uV fun r2 => uV fun r4 => uV fun r5 => uV fun r15 => uI fun r16 => uI fun FJ => uN fun h => XF S r2 r4 r5 r15 r16 FJ h) (dY 2 (uV fun r4 => uV fun r5 => uN fun h => aDB S r4 r5 h) (kT)))
noncomputable def F60 (args : List Value) (h : Hp) : aZ := bQ [Kd.v, Kd.v] args fun al => aK T60 1000000 0 al h
def aO0 : Nat := 2 + (60 - 2)
theorem a1I (S : Sg) (r4 : Value) (r5 : Value) (h : Hp) : aDB S r4 r5 h = aF (bT env Q6 (aO0)) (bU env Try.f60.results.toList) (collect B60 A60 []) 2 S (AL.v r4 (AL.v r5 AL.n)) h := by kernel_rfl
theorem a1J (S : Sg) (r2 : Value) (r4 : Value) (r5 : Value) (r15 : Value) (r16 : Int) (FJ : Int) (h : Hp) : XF S r2 r4 r5 r15 r16 FJ h = aF (bT env Q6 (aO0)) (bU env Try.f60.results.toList) (collect B60 A60 []) 1 S (AL.v r2 (AL.v r4 (AL.v r5 (AL.v r15 (AL.i r16 (AL.i FJ AL.n)))))) h := by kernel_rfl
theorem a1K (S : Sg) (r0 : Value) (r1 : Value) (h : Hp) : aDF S r0 r1 h = aF (bT env Q6 (aO0)) (bU env Try.f60.results.toList) (collect B60 A60 []) 0 S (AL.v r0 (AL.v r1 AL.n)) h := by kernel_rfl
theorem t60 (S : Sg) : eH (fun l vs h => aF (bT env Q6 aO0) (bU env Try.f60.results.toList) (collect B60 A60 []) l S vs h) (T60 S) := by
 unfold T60
 refine eH.cons 0 (fun gF h q e0 => ?_) ?_
 ·obtain ⟨r0, vs1, rfl, e1⟩ := aD e0
  obtain ⟨r1, vs2, rfl, e2⟩ := aD e1
  obtain ⟨rfl, ee⟩ := aR e2
  exact (a1K S r0 r1 h).symm.trans ee
 refine eH.cons 1 (fun gF h q e0 => ?_) ?_
 ·obtain ⟨r2, vs1, rfl, e1⟩ := aD e0
  obtain ⟨r4, vs2, rfl, e2⟩ := aD e1
  obtain ⟨r5, vs3, rfl, e3⟩ := aD e2
  obtain ⟨r15, tY, rfl, e4⟩ := aD e3
  obtain ⟨r16, JU, rfl, e5⟩ := aV e4
  obtain ⟨FJ, vs6, rfl, e6⟩ := aV e5
  obtain ⟨rfl, ee⟩ := aR e6
  exact (a1J S r2 r4 r5 r15 r16 FJ h).symm.trans ee
 refine eH.cons 2 (fun gF h q e0 => ?_) ?_
 ·obtain ⟨r4, vs1, rfl, e1⟩ := aD e0
  obtain ⟨r5, vs2, rfl, e2⟩ := aD e1
  obtain ⟨rfl, ee⟩ := aR e2
  exact (a1I S r4 r5 h).symm.trans ee
 exact eH.nil
theorem r60 : ∀ args h v h', F60 args h = some (v, h') → iE (C25) (.call 60 args.toArray h) (.ret v h') := by
 intro args h v h' e
 exact bL (C := C25) (fn := Try.f60) (body := B60) (np := 2) (A := A60) (T := T60) (kinds := [Kd.v, Kd.v]) (by kernel_rfl) (by kernel_rfl) (by kernel_rfl) (by kernel_rfl) (dP eB) (by kernel_rfl) (fun S => t60 S) e
noncomputable def aQ0 := kS 60 F60 Q6
noncomputable def C26 : dK := cfg aQ0
theorem bDX : C26.Ok := dQ (C := C25) bDW r60
noncomputable def B77 : Code := (Try.f77.body).getD .skip
noncomputable def A77 : G.aB (List KI) := (G.aB.node (some (0, [KI.reg 0 (Kd.v)])) G.aB.nil (G.aB.node none G.aB.nil (G.aB.node none (G.aB.node none G.aB.nil (G.aB.node none (G.aB.node (some (1, [KI.loc 2 2, KI.loc 3 3, KI.reg 6 (Kd.v), KI.reg 7 (Kd.i .i64), KI.cells 2 [Kd.i .i64, Kd.i .i64, Kd.i .i64, Kd.i .i64], KI.cells 3 [Kd.i .i64, Kd.i .i64, Kd.i .i64, Kd.i .i64]])) (G.aB.node none G.aB.nil (G.aB.node none (G.aB.node none G.aB.nil G.aB.nil) (G.aB.node none (G.aB.node none (G.aB.node none G.aB.nil G.aB.nil) G.aB.nil) G.aB.nil))) G.aB.nil) G.aB.nil)) (G.aB.node (some (2, [KI.loc 2 2, KI.loc 3 3, KI.cells 2 [Kd.i .i64, Kd.i .i64, Kd.i .i64, Kd.i .i64], KI.cells 3 [Kd.i .i64, Kd.i .i64, Kd.i .i64, Kd.i .i64]])) G.aB.nil G.aB.nil))))
noncomputable def aQ1 (h : Hp) (S : Nat → aC → Option Value) (xP : Int) (xQ : Int) (xR : Int) (xS : Int) (jK : Int) (jI : Int) (jL : Int) (jM : Int) : Option Value :=
 aNQ (Value.agg (Array.mk [(Value.int .i64 jK), (Value.int .i64 jI), (Value.int .i64 jL), (Value.int .i64 jM)])) fun l0 => dJ (Nat.beq (OH l0) 4) (TD 0 l0 [(Value.int .i64 xP), (Value.int .i64 xQ), (Value.int .i64 xR), (Value.int .i64 xS)] fun c0 =>
 xF c0 0 fun d1 => vD d1 4 fun l1 => some (Value.agg (Array.mk l1))) none
noncomputable def XL (h : Hp) (S : Nat → aC → Option Value) (r6 : Value) (r7 : Int) (xP : Int) (xQ : Int) (xR : Int) (xS : Int) (jK : Int) (jI : Int) (jL : Int) (jM : Int) : Option Value :=
 dL (oN r7 (Int.ofNat 4)) fun b0 =>
 dJ b0
 (dG (kL env 87 r6 (Value.int .i64 r7)) fun v1 =>
 aY .i64 v1 fun i2 =>
 wrap64 (Int.sub 0 i2) fun i3 =>
 aFP (Int.ofNat 0) i3 fun i4 =>
 S9 r7 (fun n5 => dJ (Nat.ble (Nat.succ n5) 4) (gU (Nat.add 0 (Nat.mul n5 1)) fun o5 =>
 AA [(Value.int .i64 jK), (Value.int .i64 jI), (Value.int .i64 jL), (Value.int .i64 jM)] o5 (Value.int .i64 i4) fun c6 =>
 wrap64 (Int.add r7 (Int.ofNat 1)) fun i7 =>
 kY c6 fun a8 c8 =>
 aY .i64 a8 fun i9 =>
 kY c8 fun a10 c10 =>
 aY .i64 a10 fun i11 =>
 kY c10 fun a12 c12 =>
 aY .i64 a12 fun i13 =>
 kY c12 fun a14 c14 =>
 aY .i64 a14 fun i15 =>
 aI6 c14 (S 1 (aC.v r6 (aC.i i7 (aC.i xP (aC.i xQ (aC.i xR (aC.i xS (aC.i i9 (aC.i i11 (aC.i i13 (aC.i i15 aC.n)))))))))))) none) (fun _ => none))
 (S 2 (aC.i xP (aC.i xQ (aC.i xR (aC.i xS (aC.i jK (aC.i jI (aC.i jL (aC.i jM aC.n)))))))))
noncomputable def aDJ (h : Hp) (S : Nat → aC → Option Value) (r0 : Value) : Option Value :=
 oM (Array.toList (Value.cells r0)) fun c0 =>
 xF c0 0 fun d1 => vD d1 4 fun l1 =>
 S 1 (aC.v (Value.agg (Array.mk l1)) (aC.i (Int.ofNat 0) (aC.i (Int.ofNat 0) (aC.i (Int.ofNat 0) (aC.i (Int.ofNat 0) (aC.i (Int.ofNat 0) (aC.i (Int.ofNat 0) (aC.i (Int.ofNat 0) (aC.i (Int.ofNat 0) (aC.i (Int.ofNat 0) aC.n))))))))))
noncomputable def T77 (h : Hp) (S : Nat → aC → Option Value) : Nat → aC → Option Value := eG 0 (wV fun r0 => wN (aDJ h S r0)) (eG 1 (wV fun r6 => wI fun r7 => wI fun xP => wI fun xQ => wI fun xR => wI fun xS => wI fun jK => wI fun jI => wI fun jL => wI fun jM => wN (XL h S r6 r7 xP xQ xR xS jK jI jL jM)) (eG 2 (wI fun xP => wI fun xQ => wI fun xR => wI fun xS => wI fun jK => wI fun jI => wI fun jL => wI fun jM => wN (aQ1 h S xP xQ xR xS jK jI jL jM)) (l9)))
noncomputable def F77 (args : List Value) (h : Hp) : Option Value := plainO (eX [Kd.v] args fun al => G.aK (T77 h) 1000000 0 al)
def aO1 : Nat := 1 + (18 - 1)
theorem a1N (h : Hp) (S : Nat → aC → Option Value) (xP : Int) (xQ : Int) (xR : Int) (xS : Int) (jK : Int) (jI : Int) (jL : Int) (jM : Int) : aQ1 h S xP xQ xR xS jK jI jL jM = G.aF bP aP fA (fB env pf9 aO1 h) (fG env Try.f77.results.toList) (G.collect B77 A77 []) 2 S (aC.i xP (aC.i xQ (aC.i xR (aC.i xS (aC.i jK (aC.i jI (aC.i jL (aC.i jM aC.n)))))))) := by kernel_rfl
theorem a1O (h : Hp) (S : Nat → aC → Option Value) (r6 : Value) (r7 : Int) (xP : Int) (xQ : Int) (xR : Int) (xS : Int) (jK : Int) (jI : Int) (jL : Int) (jM : Int) : XL h S r6 r7 xP xQ xR xS jK jI jL jM = G.aF bP aP fA (fB env pf9 aO1 h) (fG env Try.f77.results.toList) (G.collect B77 A77 []) 1 S (aC.v r6 (aC.i r7 (aC.i xP (aC.i xQ (aC.i xR (aC.i xS (aC.i jK (aC.i jI (aC.i jL (aC.i jM aC.n)))))))))) := by kernel_rfl
theorem a1P (h : Hp) (S : Nat → aC → Option Value) (r0 : Value) : aDJ h S r0 = G.aF bP aP fA (fB env pf9 aO1 h) (fG env Try.f77.results.toList) (G.collect B77 A77 []) 0 S (aC.v r0 aC.n) := by kernel_rfl
theorem t77 (h : Hp) (S : Nat → aC → Option Value) : dI (fun l al => G.aF bP aP fA (fB env pf9 aO1 h) (fG env Try.f77.results.toList) (G.collect B77 A77 []) l S al) (T77 h S) := by
 unfold T77
 refine dI.cons 0 (fun gF q e0 => ?_) ?_
 ·obtain ⟨r0, vs1, rfl, e1⟩ := bB e0
  obtain ⟨rfl, ee⟩ := bM e1
  exact (a1P h S r0).symm.trans ee
 refine dI.cons 1 (fun gF q e0 => ?_) ?_
 ·obtain ⟨r6, vs1, rfl, e1⟩ := bB e0
  obtain ⟨r7, vs2, rfl, e2⟩ := aS e1
  obtain ⟨xP, vs3, rfl, e3⟩ := aS e2
  obtain ⟨xQ, tY, rfl, e4⟩ := aS e3
  obtain ⟨xR, JU, rfl, e5⟩ := aS e4
  obtain ⟨xS, vs6, rfl, e6⟩ := aS e5
  obtain ⟨jK, vs7, rfl, e7⟩ := aS e6
  obtain ⟨jI, vs8, rfl, e8⟩ := aS e7
  obtain ⟨jL, vs9, rfl, e9⟩ := aS e8
  obtain ⟨jM, a0V, rfl, e10⟩ := aS e9
  obtain ⟨rfl, ee⟩ := bM e10
  exact (a1O h S r6 r7 xP xQ xR xS jK jI jL jM).symm.trans ee
 refine dI.cons 2 (fun gF q e0 => ?_) ?_
 ·obtain ⟨xP, vs1, rfl, e1⟩ := aS e0
  obtain ⟨xQ, vs2, rfl, e2⟩ := aS e1
  obtain ⟨xR, vs3, rfl, e3⟩ := aS e2
  obtain ⟨xS, tY, rfl, e4⟩ := aS e3
  obtain ⟨jK, JU, rfl, e5⟩ := aS e4
  obtain ⟨jI, vs6, rfl, e6⟩ := aS e5
  obtain ⟨jL, vs7, rfl, e7⟩ := aS e6
  obtain ⟨jM, vs8, rfl, e8⟩ := aS e7
  obtain ⟨rfl, ee⟩ := bM e8
  exact (a1N h S xP xQ xR xS jK jI jL jM).symm.trans ee
 exact dI.nil
theorem r77 : PSound Try.prog 77 F77 := dW (C := C0) ok0 (pf := pf9) aQZ (fn := Try.f77) (body := B77) (kinds := [Kd.v]) (A := A77) (T := T77) (by kernel_rfl) (by kernel_rfl) (by kernel_rfl) (by kernel_rfl) (fun h S => t77 h S)
noncomputable def aK9 : PF := J9 77 F77 pf9
theorem aLA : fO Try.prog aK9 := jT r77 aQZ
noncomputable def Q7 := pI 77 F77 aQ0
noncomputable def C27 : dK := cfg Q7
theorem bDZ : C27.Ok := iB (C := C26) bDX r77
noncomputable def aLB : Code := (Try.f102.body).getD .skip
def aLC : aB := (aB.node (some (0, [(0, Kd.v), (1, Kd.v)])) aB.nil (aB.node none aB.nil (aB.node none (aB.node none aB.nil (aB.node none (aB.node (some (1, [(5, Kd.i .i64), (11, Kd.v), (12, Kd.i .i64)])) (aB.node none aB.nil (aB.node none (aB.node none aB.nil aB.nil) (aB.node none (aB.node none (aB.node none aB.nil aB.nil) aB.nil) aB.nil))) aB.nil) aB.nil)) (aB.node (some (2, [(5, Kd.i .i64)])) aB.nil aB.nil))))
noncomputable def aLD (S : Sg) (r5 : Int) (h : Hp) : aZ :=
 some ((Value.int .i64 r5), h)
noncomputable def aLE (S : Sg) (r5 : Int) (iH : Value) (qM : Int) (h : Hp) : aZ :=
 dL (oN qM (Int.ofNat 4)) fun b0 =>
 dJ b0
 (dG (kL env 87 iH (Value.int .i64 qM)) fun v1 =>
 aY .i64 v1 fun i2 =>
 wrap64 (Int.add r5 i2) fun i3 =>
 wrap64 (Int.add qM (Int.ofNat 1)) fun i4 =>
 S 1 (AL.i i3 (AL.v iH (AL.i i4 AL.n))) h)
 (S 2 (AL.i r5 AL.n) h)
noncomputable def aLF (S : Sg) (r0 : Value) (r1 : Value) (h : Hp) : aZ :=
 bV h 71 (Array.toList (Value.cells r0)) fun a0 h0 =>
 bC 5 h0 a0 fun v1 =>
 aW (dZ F60 [v1, r1] h0) fun v2 h2 =>
 aW (dG (F77 [v2] h2) fun v => some (v, h2)) fun v3 h3 =>
 S 1 (AL.i (Int.ofNat 0) (AL.v v3 (AL.i (Int.ofNat 0) AL.n))) h3
noncomputable def aO2 (S : Sg) : Sg := dY 0 (uV fun r0 => uV fun r1 => uN fun h => aLF S r0 r1 h) (dY 1 (uI fun r5 => uV fun iH => uI fun qM => uN fun h => aLE S r5 iH qM h) (dY 2 (uI fun r5 => uN fun h => aLD S r5 h) (kT)))
noncomputable def a1Q (args : List Value) (h : Hp) : aZ := bQ [Kd.v, Kd.v] args fun al => aK aO2 1000000 0 al h
def aEO : Nat := 2 + (20 - 2)
theorem aUO (S : Sg) (r5 : Int) (h : Hp) : aLD S r5 h = aF (bT env Q7 (aEO)) (bU env Try.f102.results.toList) (collect aLB aLC []) 2 S (AL.i r5 AL.n) h := by kernel_rfl
theorem aUP (S : Sg) (r5 : Int) (iH : Value) (qM : Int) (h : Hp) : aLE S r5 iH qM h = aF (bT env Q7 (aEO)) (bU env Try.f102.results.toList) (collect aLB aLC []) 1 S (AL.i r5 (AL.v iH (AL.i qM AL.n))) h := by kernel_rfl
theorem aUQ (S : Sg) (r0 : Value) (r1 : Value) (h : Hp) : aLF S r0 r1 h = aF (bT env Q7 (aEO)) (bU env Try.f102.results.toList) (collect aLB aLC []) 0 S (AL.v r0 (AL.v r1 AL.n)) h := by kernel_rfl
theorem t102 (S : Sg) : eH (fun l vs h => aF (bT env Q7 aEO) (bU env Try.f102.results.toList) (collect aLB aLC []) l S vs h) (aO2 S) := by
 unfold aO2
 refine eH.cons 0 (fun gF h q e0 => ?_) ?_
 ·obtain ⟨r0, vs1, rfl, e1⟩ := aD e0
  obtain ⟨r1, vs2, rfl, e2⟩ := aD e1
  obtain ⟨rfl, ee⟩ := aR e2
  exact (aUQ S r0 r1 h).symm.trans ee
 refine eH.cons 1 (fun gF h q e0 => ?_) ?_
 ·obtain ⟨r5, vs1, rfl, e1⟩ := aV e0
  obtain ⟨iH, vs2, rfl, e2⟩ := aD e1
  obtain ⟨qM, vs3, rfl, e3⟩ := aV e2
  obtain ⟨rfl, ee⟩ := aR e3
  exact (aUP S r5 iH qM h).symm.trans ee
 refine eH.cons 2 (fun gF h q e0 => ?_) ?_
 ·obtain ⟨r5, vs1, rfl, e1⟩ := aV e0
  obtain ⟨rfl, ee⟩ := aR e1
  exact (aUO S r5 h).symm.trans ee
 exact eH.nil
theorem bD0 : ∀ args h v h', a1Q args h = some (v, h') → iE (C27) (.call 102 args.toArray h) (.ret v h') := by
 intro args h v h' e
 exact bL (C := C27) (fn := Try.f102) (body := aLB) (np := 2) (A := aLC) (T := aO2) (kinds := [Kd.v, Kd.v]) (by kernel_rfl) (by kernel_rfl) (by kernel_rfl) (by kernel_rfl) (dP eB) (by kernel_rfl) (fun S => t102 S) e
noncomputable def aQ2 := kS 102 a1Q Q7
noncomputable def C28 : dK := cfg aQ2
theorem bD1 : C28.Ok := dQ (C := C27) bDZ bD0
noncomputable def aUR : Code := (Try.f120.body).getD .skip
noncomputable def aUS : G.aB (List KI) := (G.aB.node (some (0, [KI.reg 0 (Kd.i .i64)])) G.aB.nil (G.aB.node none G.aB.nil G.aB.nil))
noncomputable def aLG (h : Hp) (S : Nat → aC → Option Value) (r0 : Int) : Option Value :=
 bZ (nK r0 r0) fun b0 =>
 some (Value.bool b0)
noncomputable def aO3 (h : Hp) (S : Nat → aC → Option Value) : Nat → aC → Option Value := eG 0 (wI fun r0 => wN (aLG h S r0)) (l9)
noncomputable def aLH (args : List Value) (h : Hp) : Option Value := plainO (eX [Kd.i .i64] args fun al => G.aK (aO3 h) 1000000 0 al)
def aQ3 : Nat := 1 + (6 - 1)
theorem aUT (h : Hp) (S : Nat → aC → Option Value) (r0 : Int) : aLG h S r0 = G.aF bP aP fA (fB env aK9 aQ3 h) (fG env Try.f120.results.toList) (G.collect aUR aUS []) 0 S (aC.i r0 aC.n) := by kernel_rfl
theorem t120 (h : Hp) (S : Nat → aC → Option Value) : dI (fun l al => G.aF bP aP fA (fB env aK9 aQ3 h) (fG env Try.f120.results.toList) (G.collect aUR aUS []) l S al) (aO3 h S) := by
 unfold aO3
 refine dI.cons 0 (fun gF q e0 => ?_) ?_
 ·obtain ⟨r0, vs1, rfl, e1⟩ := aS e0
  obtain ⟨rfl, ee⟩ := bM e1
  exact (aUT h S r0).symm.trans ee
 exact dI.nil
theorem a1R : PSound Try.prog 120 aLH := dW (C := C0) ok0 (pf := aK9) aLA (fn := Try.f120) (body := aUR) (kinds := [Kd.i .i64]) (A := aUS) (T := aO3) (by kernel_rfl) (by kernel_rfl) (by kernel_rfl) (by kernel_rfl) (fun h S => t120 h S)
noncomputable def aLI : PF := J9 120 aLH aK9
theorem aLJ : fO Try.prog aLI := jT a1R aLA
noncomputable def aQ4 := pI 120 aLH aQ2
noncomputable def C29 : dK := cfg aQ4
theorem bD2 : C29.Ok := iB (C := C28) bD1 a1R
noncomputable def aUU : Code := (Try.f116.body).getD .skip
noncomputable def aUV : G.aB (List KI) := (G.aB.node (some (0, [KI.reg 0 (Kd.i .i64), KI.reg 1 (Kd.i .i64)])) G.aB.nil (G.aB.node none G.aB.nil (G.aB.node none G.aB.nil (G.aB.node none (G.aB.node none G.aB.nil (G.aB.node none (G.aB.node none (G.aB.node none G.aB.nil (G.aB.node none (G.aB.node none G.aB.nil G.aB.nil) G.aB.nil)) (G.aB.node none G.aB.nil G.aB.nil)) G.aB.nil)) (G.aB.node none (G.aB.node none G.aB.nil (G.aB.node none (G.aB.node none G.aB.nil G.aB.nil) G.aB.nil)) (G.aB.node none (G.aB.node none G.aB.nil (G.aB.node none (G.aB.node none G.aB.nil G.aB.nil) G.aB.nil)) (G.aB.node none (G.aB.node none G.aB.nil (G.aB.node none (G.aB.node none G.aB.nil G.aB.nil) G.aB.nil)) (G.aB.node none G.aB.nil G.aB.nil))))))))
noncomputable def aLK (h : Hp) (S : Nat → aC → Option Value) (r0 : Int) (r1 : Int) : Option Value :=
 dG (aLH [(Value.int .i64 r0)] h) fun v0 =>
 eZ v0 fun b1 =>
 dG (aLH [(Value.int .i64 r1)] h) fun v2 =>
 eZ v2 fun b3 =>
 dJ b1
 (dJ b3
 (some (Value.int .i64 (Int.ofNat 0)))
 (some (Value.int .i64 (Int.negSucc 0))))
 (dJ b3
 (some (Value.int .i64 (Int.ofNat 1)))
 (dL (oN r0 r1) fun b4 =>
 dJ b4
 (some (Value.int .i64 (Int.negSucc 0)))
 (dL (oN r1 r0) fun b5 =>
 dJ b5
 (some (Value.int .i64 (Int.ofNat 1)))
 (some (Value.int .i64 (Int.ofNat 0))))))
noncomputable def aO4 (h : Hp) (S : Nat → aC → Option Value) : Nat → aC → Option Value := eG 0 (wI fun r0 => wI fun r1 => wN (aLK h S r0 r1)) (l9)
noncomputable def aLL (args : List Value) (h : Hp) : Option Value := plainO (eX [Kd.i .i64, Kd.i .i64] args fun al => G.aK (aO4 h) 1000000 0 al)
def aQ5 : Nat := 2 + (20 - 2)
theorem aUW (h : Hp) (S : Nat → aC → Option Value) (r0 : Int) (r1 : Int) : aLK h S r0 r1 = G.aF bP aP fA (fB env aLI aQ5 h) (fG env Try.f116.results.toList) (G.collect aUU aUV []) 0 S (aC.i r0 (aC.i r1 aC.n)) := by kernel_rfl
theorem t116 (h : Hp) (S : Nat → aC → Option Value) : dI (fun l al => G.aF bP aP fA (fB env aLI aQ5 h) (fG env Try.f116.results.toList) (G.collect aUU aUV []) l S al) (aO4 h S) := by
 unfold aO4
 refine dI.cons 0 (fun gF q e0 => ?_) ?_
 ·obtain ⟨r0, vs1, rfl, e1⟩ := aS e0
  obtain ⟨r1, vs2, rfl, e2⟩ := aS e1
  obtain ⟨rfl, ee⟩ := bM e2
  exact (aUW h S r0 r1).symm.trans ee
 exact dI.nil
theorem a1S : PSound Try.prog 116 aLL := dW (C := C0) ok0 (pf := aLI) aLJ (fn := Try.f116) (body := aUU) (kinds := [Kd.i .i64, Kd.i .i64]) (A := aUV) (T := aO4) (by kernel_rfl) (by kernel_rfl) (by kernel_rfl) (by kernel_rfl) (fun h S => t116 h S)
noncomputable def aBD : PF := J9 116 aLL aLI
theorem aLM : fO Try.prog aBD := jT a1S aLJ
noncomputable def aQ6 := pI 116 aLL aQ4
noncomputable def C30 : dK := cfg aQ6
theorem bD3 : C30.Ok := iB (C := C29) bD2 a1S
noncomputable def aLN : Code := (Try.f115.body).getD .skip
noncomputable def aLO : G.aB (List KI) := (G.aB.node (some (0, [KI.reg 0 (Kd.v)])) G.aB.nil (G.aB.node none G.aB.nil (G.aB.node none (G.aB.node none G.aB.nil (G.aB.node none (G.aB.node (some (1, [KI.reg 3 (Kd.i .i64), KI.reg 6 (Kd.v), KI.reg 7 (Kd.i .i64), KI.reg 8 (Kd.i .i64)])) (G.aB.node none G.aB.nil (G.aB.node none (G.aB.node none G.aB.nil G.aB.nil) (G.aB.node none (G.aB.node none (G.aB.node none G.aB.nil (G.aB.node none G.aB.nil (G.aB.node none (G.aB.node none G.aB.nil G.aB.nil) G.aB.nil))) G.aB.nil) G.aB.nil))) G.aB.nil) G.aB.nil)) (G.aB.node (some (2, [KI.reg 3 (Kd.i .i64)])) G.aB.nil G.aB.nil))))
noncomputable def aLP (h : Hp) (S : Nat → aC → Option Value) (r3 : Int) : Option Value :=
 some (Value.int .i64 r3)
noncomputable def aLQ (h : Hp) (S : Nat → aC → Option Value) (r3 : Int) (r6 : Value) (r7 : Int) (r8 : Int) : Option Value :=
 dL (oN r8 r7) fun b0 =>
 dJ b0
 (eU 1 r6 r8 fun v1 =>
 aQ h v1 fun v2 =>
 aY .i64 v2 fun i3 =>
 bZ (nK i3 r3) fun b4 =>
 dJ b4
 (some (Value.int .i64 i3))
 (wrap64 (Int.add r8 (Int.ofNat 1)) fun i5 =>
 S 1 (aC.i r3 (aC.v r6 (aC.i r7 (aC.i i5 aC.n))))))
 (S 2 (aC.i r3 aC.n))
noncomputable def aLR (h : Hp) (S : Nat → aC → Option Value) (r0 : Value) : Option Value :=
 eO r0 fun i0 =>
 S 1 (aC.i (Int.ofNat 0) (aC.v r0 (aC.i i0 (aC.i (Int.ofNat 0) aC.n))))
noncomputable def aO5 (h : Hp) (S : Nat → aC → Option Value) : Nat → aC → Option Value := eG 0 (wV fun r0 => wN (aLR h S r0)) (eG 1 (wI fun r3 => wV fun r6 => wI fun r7 => wI fun r8 => wN (aLQ h S r3 r6 r7 r8)) (eG 2 (wI fun r3 => wN (aLP h S r3)) (l9)))
noncomputable def aO6 (args : List Value) (h : Hp) : Option Value := plainO (eX [Kd.v] args fun al => G.aK (aO5 h) 1000000 0 al)
def aEP : Nat := 1 + (18 - 1)
theorem aUX (h : Hp) (S : Nat → aC → Option Value) (r3 : Int) : aLP h S r3 = G.aF bP aP fA (fB env aBD aEP h) (fG env Try.f115.results.toList) (G.collect aLN aLO []) 2 S (aC.i r3 aC.n) := by kernel_rfl
theorem aUY (h : Hp) (S : Nat → aC → Option Value) (r3 : Int) (r6 : Value) (r7 : Int) (r8 : Int) : aLQ h S r3 r6 r7 r8 = G.aF bP aP fA (fB env aBD aEP h) (fG env Try.f115.results.toList) (G.collect aLN aLO []) 1 S (aC.i r3 (aC.v r6 (aC.i r7 (aC.i r8 aC.n)))) := by kernel_rfl
theorem aUZ (h : Hp) (S : Nat → aC → Option Value) (r0 : Value) : aLR h S r0 = G.aF bP aP fA (fB env aBD aEP h) (fG env Try.f115.results.toList) (G.collect aLN aLO []) 0 S (aC.v r0 aC.n) := by kernel_rfl
theorem t115 (h : Hp) (S : Nat → aC → Option Value) : dI (fun l al => G.aF bP aP fA (fB env aBD aEP h) (fG env Try.f115.results.toList) (G.collect aLN aLO []) l S al) (aO5 h S) := by
 unfold aO5
 refine dI.cons 0 (fun gF q e0 => ?_) ?_
 ·obtain ⟨r0, vs1, rfl, e1⟩ := bB e0
  obtain ⟨rfl, ee⟩ := bM e1
  exact (aUZ h S r0).symm.trans ee
 refine dI.cons 1 (fun gF q e0 => ?_) ?_
 ·obtain ⟨r3, vs1, rfl, e1⟩ := aS e0
  obtain ⟨r6, vs2, rfl, e2⟩ := bB e1
  obtain ⟨r7, vs3, rfl, e3⟩ := aS e2
  obtain ⟨r8, tY, rfl, e4⟩ := aS e3
  obtain ⟨rfl, ee⟩ := bM e4
  exact (aUY h S r3 r6 r7 r8).symm.trans ee
 refine dI.cons 2 (fun gF q e0 => ?_) ?_
 ·obtain ⟨r3, vs1, rfl, e1⟩ := aS e0
  obtain ⟨rfl, ee⟩ := bM e1
  exact (aUX h S r3).symm.trans ee
 exact dI.nil
theorem a1T : PSound Try.prog 115 aO6 := dW (C := C0) ok0 (pf := aBD) aLM (fn := Try.f115) (body := aLN) (kinds := [Kd.v]) (A := aLO) (T := aO5) (by kernel_rfl) (by kernel_rfl) (by kernel_rfl) (by kernel_rfl) (fun h S => t115 h S)
noncomputable def a1U : PF := J9 115 aO6 aBD
theorem aU0 : fO Try.prog a1U := jT a1T aLM
noncomputable def JW := pI 115 aO6 aQ6
noncomputable def C31 : dK := cfg JW
theorem bD4 : C31.Ok := iB (C := C30) bD3 a1T
noncomputable def aU1 : Code := (Try.f103.body).getD .skip
def aU2 : aB := (aB.node (some (0, [(0, Kd.v), (1, Kd.v), (2, Kd.v)])) aB.nil (aB.node none aB.nil aB.nil))
noncomputable def aLS (S : Sg) (r0 : Value) (r1 : Value) (r2 : Value) (h : Hp) : aZ :=
 bV h 135 (Array.toList (Value.cells r0)) fun a0 h0 =>
 aX 0 a0 fun v1 =>
 aQ (Hp.mk (Hp.next h0) (Hp.next h0) (Hp.aI h0)) v1 fun v2 =>
 aW (qK JW v2 [r1] (Hp.mk (Hp.next h0) (Hp.next h0) (Hp.aI h0))) fun v3 h3 =>
 aY .i64 v3 fun i4 =>
 aX 0 a0 fun v5 =>
 aQ (Hp.mk (Hp.next h0) (Hp.next h0) (Hp.aI h0)) v5 fun v6 =>
 aW (qK JW v6 [r2] (Hp.mk (Hp.next h0) (Hp.next h0) (Hp.aI h0))) fun v7 h7 =>
 aY .i64 v7 fun i8 =>
 aW (dG (aLL [(Value.int .i64 i4), (Value.int .i64 i8)] (Hp.mk (Hp.next h0) (Hp.next h0) (Hp.aI h0))) fun v => some (v, (Hp.mk (Hp.next h0) (Hp.next h0) (Hp.aI h0)))) fun v9 h9 =>
 aY .i64 v9 fun i10 =>
 aX 1 a0 fun v11 =>
 aQ (Hp.mk (Hp.next h0) (Hp.next h0) (Hp.aI h0)) v11 fun v12 =>
 aW (qK JW v12 [r1] (Hp.mk (Hp.next h0) (Hp.next h0) (Hp.aI h0))) fun v13 h13 =>
 aY .i64 v13 fun i14 =>
 aX 1 a0 fun v15 =>
 aQ (Hp.mk (Hp.next h0) (Hp.next h0) (Hp.aI h0)) v15 fun v16 =>
 aW (qK JW v16 [r2] (Hp.mk (Hp.next h0) (Hp.ro h0) (Hp.aI h0))) fun v17 h17 =>
 aY .i64 v17 fun i18 =>
 aW (dG (aLL [(Value.int .i64 i14), (Value.int .i64 i18)] h17) fun v => some (v, h17)) fun v19 h19 =>
 aY .i64 v19 fun i20 =>
 aW (bW env h19 22 2 (List.toArray [(0, (Value.int .i64 i10)), (1, (Value.int .i64 i20))])) fun v21 h21 =>
 aW (dG (aO6 [v21] h21) fun v => some (v, h21)) fun v22 h22 =>
 aY .i64 v22 fun i23 =>
 some ((Value.int .i64 i23), h22)
noncomputable def aO7 (S : Sg) : Sg := dY 0 (uV fun r0 => uV fun r1 => uV fun r2 => uN fun h => aLS S r0 r1 r2 h) (kT)
noncomputable def a1V (args : List Value) (h : Hp) : aZ := bQ [Kd.v, Kd.v, Kd.v] args fun al => aK aO7 1000000 0 al h
def aQ7 : Nat := 3 + (27 - 3)
theorem aU3 (S : Sg) (r0 : Value) (r1 : Value) (r2 : Value) (h : Hp) : aLS S r0 r1 r2 h = aF (bT env JW (aQ7)) (bU env Try.f103.results.toList) (collect aU1 aU2 []) 0 S (AL.v r0 (AL.v r1 (AL.v r2 AL.n))) h := by kernel_rfl
theorem t103 (S : Sg) : eH (fun l vs h => aF (bT env JW aQ7) (bU env Try.f103.results.toList) (collect aU1 aU2 []) l S vs h) (aO7 S) := by
 unfold aO7
 refine eH.cons 0 (fun gF h q e0 => ?_) ?_
 ·obtain ⟨r0, vs1, rfl, e1⟩ := aD e0
  obtain ⟨r1, vs2, rfl, e2⟩ := aD e1
  obtain ⟨r2, vs3, rfl, e3⟩ := aD e2
  obtain ⟨rfl, ee⟩ := aR e3
  exact (aU3 S r0 r1 r2 h).symm.trans ee
 exact eH.nil
theorem bD5 : ∀ args h v h', a1V args h = some (v, h') → iE (C31) (.call 103 args.toArray h) (.ret v h') := by
 intro args h v h' e
 exact bL (C := C31) (fn := Try.f103) (body := aU1) (np := 3) (A := aU2) (T := aO7) (kinds := [Kd.v, Kd.v, Kd.v]) (by kernel_rfl) (by kernel_rfl) (by kernel_rfl) (by kernel_rfl) (dP eB) (by kernel_rfl) (fun S => t103 S) e
noncomputable def Q8 := kS 103 a1V JW
noncomputable def C32 : dK := cfg Q8
theorem ok32 : C32.Ok := dQ (C := C31) bD4 bD5
noncomputable def B58 : Code := (Try.f58.body).getD .skip
def A58 : aB := (aB.node (some (0, [(0, Kd.v), (1, Kd.v)])) aB.nil (aB.node none aB.nil (aB.node none (aB.node none (aB.node none aB.nil (aB.node none (aB.node none aB.nil aB.nil) (aB.node none aB.nil (aB.node none (aB.node none aB.nil aB.nil) (aB.node none aB.nil (aB.node none (aB.node none aB.nil aB.nil) aB.nil)))))) aB.nil) (aB.node none aB.nil (aB.node none (aB.node none aB.nil (aB.node none (aB.node (some (1, [(1, Kd.v), (4, Kd.v), (7, Kd.v), (9, Kd.v), (40, Kd.v), (41, Kd.i .i64), (42, Kd.i .i64)])) (aB.node none aB.nil (aB.node none (aB.node none aB.nil aB.nil) (aB.node none (aB.node none (aB.node none aB.nil (aB.node none (aB.node none aB.nil (aB.node none (aB.node none aB.nil aB.nil) aB.nil)) aB.nil)) aB.nil) aB.nil))) aB.nil) aB.nil)) (aB.node (some (2, [(4, Kd.v), (7, Kd.v), (9, Kd.v)])) aB.nil aB.nil))))))
noncomputable def aC7 (S : Sg) (r4 : Value) (r7 : Value) (r9 : Value) (h : Hp) : aZ :=
 bC 5 h r7 fun v0 =>
 fD 5 h r4 v0 fun h1 =>
 bC 5 h1 r4 fun v2 => some (Value.tuple (List.toArray [v2, r9, (Value.int .i64 (Int.ofNat 0))]), h1)
noncomputable def XD (S : Sg) (r1 : Value) (r4 : Value) (r7 : Value) (r9 : Value) (r40 : Value) (r41 : Int) (r42 : Int) (h : Hp) : aZ :=
 dL (oN r42 r41) fun b0 =>
 dJ b0
 (eU 1 r40 r42 fun v1 =>
 aQ h v1 fun v2 =>
 aY .i64 v2 fun i3 =>
 dG (jZ env h 22 r1 none (some (Value.int .i64 r42)) none) fun v4 =>
 aW (dG (F90 [v4, (Value.int .i64 i3)] h) fun v => some (v, h)) fun v5 h5 =>
 eZ v5 fun b6 =>
 dJ b6
 (dG (jP env 71 (List.toArray [])) fun v7 =>
 fD 5 h5 r4 v7 fun h8 =>
 bC 5 h8 r4 fun v9 => some (Value.tuple (List.toArray [v9, (Value.slice none 0 0), (Value.int .i64 (Int.ofNat 5))]), h8))
 (dG (jP env 76 (List.toArray [(0, (Value.int .i64 i3)), (1, (Value.int .i64 r42))])) fun v10 =>
 aW (bW env h5 79 1 (List.toArray [(0, v10)])) fun v11 h11 =>
 aW (jF env h11 #[79, 79] (List.toArray [r9, v11])) fun v12 h12 =>
 wrap64 (Int.add r42 (Int.ofNat 1)) fun i13 =>
 S 1 (AL.v r1 (AL.v r4 (AL.v r7 (AL.v v12 (AL.v r40 (AL.i r41 (AL.i i13 AL.n))))))) h12))
 (S 2 (AL.v r4 (AL.v r7 (AL.v r9 AL.n))) h)
noncomputable def aC8 (S : Sg) (r0 : Value) (r1 : Value) (h : Hp) : aZ :=
 bV h 25 (Array.toList (Value.cells r0)) fun a0 h0 =>
 bV h0 71 [(Value.slice none 0 0), (Value.slice none 0 0), (Value.slice none 0 0), (Value.slice none 0 0), (Value.map none)] fun a1 h1 =>
 bC 4 h1 a0 fun v2 =>
 aW (dZ F63 [v2] h1) fun v3 h3 =>
 gD v3 0 fun v4 =>
 gD v3 1 fun v5 =>
 aY .i64 v5 fun i6 =>
 bV h3 71 [(Value.slice none 0 0), (Value.slice none 0 0), (Value.slice none 0 0), (Value.slice none 0 0), (Value.map none)] fun a7 h7 =>
 fD 5 h7 a7 v4 fun h8 =>
 bZ (nK i6 (Int.ofNat 0)) fun b9 =>
 dJ b9
 (dG (jP env 71 (List.toArray [])) fun v10 =>
 fD 5 h8 a1 v10 fun h11 =>
 bC 5 h11 a1 fun v12 => some (Value.tuple (List.toArray [v12, (Value.slice none 0 0), (Value.int .i64 i6)]), h11))
 (eO r1 fun i13 =>
 aX 0 a7 fun v14 =>
 aX 3 v14 fun v15 =>
 aQ h8 v15 fun v16 =>
 eO v16 fun i17 =>
 bZ (nK i13 i17) fun b18 =>
 dJ b18
 (dG (jP env 71 (List.toArray [])) fun v19 =>
 fD 5 h8 a1 v19 fun h20 =>
 bC 5 h20 a1 fun v21 => some (Value.tuple (List.toArray [v21, (Value.slice none 0 0), (Value.int .i64 (Int.ofNat 3))]), h20))
 (aX 0 a7 fun v22 =>
 aX 2 v22 fun v23 =>
 aQ h8 v23 fun v24 =>
 eO v24 fun i25 =>
 aW (dG (F53 [(Value.int .i64 i25), r1] h8) fun v => some (v, h8)) fun v26 h26 =>
 eZ v26 fun b27 =>
 bZ b27 fun b28 =>
 dJ b28
 (dG (jP env 71 (List.toArray [])) fun v29 =>
 fD 5 h26 a1 v29 fun h30 =>
 bC 5 h30 a1 fun v31 => some (Value.tuple (List.toArray [v31, (Value.slice none 0 0), (Value.int .i64 (Int.ofNat 4))]), h30))
 (eO r1 fun i32 =>
 S 1 (AL.v r1 (AL.v a1 (AL.v a7 (AL.v (Value.slice none 0 0) (AL.v r1 (AL.i i32 (AL.i (Int.ofNat 0) AL.n))))))) h26)))
noncomputable def T58 (S : Sg) : Sg := dY 0 (uV fun r0 => uV fun r1 => uN fun h => aC8 S r0 r1 h) (dY 1 (uV fun r1 => uV fun r4 => uV fun r7 => uV fun r9 => uV fun r40 => uI fun r41 => uI fun r42 => uN fun h => XD S r1 r4 r7 r9 r40 r41 r42 h) (dY 2 (uV fun r4 => uV fun r7 => uV fun r9 => uN fun h => aC7 S r4 r7 r9 h) (kT)))
noncomputable def F58 (args : List Value) (h : Hp) : aZ := bQ [Kd.v, Kd.v] args fun al => aK T58 1000000 0 al h
def aO8 : Nat := 2 + (62 - 2)
theorem a1Y (S : Sg) (r4 : Value) (r7 : Value) (r9 : Value) (h : Hp) : aC7 S r4 r7 r9 h = aF (bT env Q8 (aO8)) (bU env Try.f58.results.toList) (collect B58 A58 []) 2 S (AL.v r4 (AL.v r7 (AL.v r9 AL.n))) h := by kernel_rfl
theorem a1Z (S : Sg) (r1 : Value) (r4 : Value) (r7 : Value) (r9 : Value) (r40 : Value) (r41 : Int) (r42 : Int) (h : Hp) : XD S r1 r4 r7 r9 r40 r41 r42 h = aF (bT env Q8 (aO8)) (bU env Try.f58.results.toList) (collect B58 A58 []) 1 S (AL.v r1 (AL.v r4 (AL.v r7 (AL.v r9 (AL.v r40 (AL.i r41 (AL.i r42 AL.n))))))) h := by kernel_rfl
theorem a19 (S : Sg) (r0 : Value) (r1 : Value) (h : Hp) : aC8 S r0 r1 h = aF (bT env Q8 (aO8)) (bU env Try.f58.results.toList) (collect B58 A58 []) 0 S (AL.v r0 (AL.v r1 AL.n)) h := by kernel_rfl
theorem t58 (S : Sg) : eH (fun l vs h => aF (bT env Q8 aO8) (bU env Try.f58.results.toList) (collect B58 A58 []) l S vs h) (T58 S) := by
 unfold T58
 refine eH.cons 0 (fun gF h q e0 => ?_) ?_
 ·obtain ⟨r0, vs1, rfl, e1⟩ := aD e0
  obtain ⟨r1, vs2, rfl, e2⟩ := aD e1
  obtain ⟨rfl, ee⟩ := aR e2
  exact (a19 S r0 r1 h).symm.trans ee
 refine eH.cons 1 (fun gF h q e0 => ?_) ?_
 ·obtain ⟨r1, vs1, rfl, e1⟩ := aD e0
  obtain ⟨r4, vs2, rfl, e2⟩ := aD e1
  obtain ⟨r7, vs3, rfl, e3⟩ := aD e2
  obtain ⟨r9, tY, rfl, e4⟩ := aD e3
  obtain ⟨r40, JU, rfl, e5⟩ := aD e4
  obtain ⟨r41, vs6, rfl, e6⟩ := aV e5
  obtain ⟨r42, vs7, rfl, e7⟩ := aV e6
  obtain ⟨rfl, ee⟩ := aR e7
  exact (a1Z S r1 r4 r7 r9 r40 r41 r42 h).symm.trans ee
 refine eH.cons 2 (fun gF h q e0 => ?_) ?_
 ·obtain ⟨r4, vs1, rfl, e1⟩ := aD e0
  obtain ⟨r7, vs2, rfl, e2⟩ := aD e1
  obtain ⟨r9, vs3, rfl, e3⟩ := aD e2
  obtain ⟨rfl, ee⟩ := aR e3
  exact (a1Y S r4 r7 r9 h).symm.trans ee
 exact eH.nil
theorem r58 : ∀ args h v h', F58 args h = some (v, h') → iE (C32) (.call 58 args.toArray h) (.ret v h') := by
 intro args h v h' e
 exact bL (C := C32) (fn := Try.f58) (body := B58) (np := 2) (A := A58) (T := T58) (kinds := [Kd.v, Kd.v]) (by kernel_rfl) (by kernel_rfl) (by kernel_rfl) (by kernel_rfl) (dP eB) (by kernel_rfl) (fun S => t58 S) e
noncomputable def aEQ := kS 58 F58 Q8
noncomputable def C33 : dK := cfg aEQ
theorem bD6 : C33.Ok := dQ (C := C32) ok32 r58
noncomputable def B91 : Code := (Try.f91.body).getD .skip
def A91 : aB := (aB.node (some (0, [(0, Kd.v)])) aB.nil (aB.node none (aB.node none aB.nil (aB.node none (aB.node none aB.nil aB.nil) aB.nil)) (aB.node none aB.nil aB.nil)))
noncomputable def aDG (S : Sg) (r0 : Value) (h : Hp) : aZ :=
 dG (qG env .eql 22 (Operand.tmp 3) (Operand.const (Value.slice none 0 0)) r0 (Value.slice none 0 0)) fun v0 =>
 eZ v0 fun b1 =>
 dJ b1
 (some ((Value.slice none 0 0), h))
 (aW (bW env h 22 0 (List.toArray [])) fun v2 h2 =>
 aW (jF env h2 #[22, 22] (List.toArray [v2, r0])) fun v3 h3 =>
 some (v3, h3))
noncomputable def T91 (S : Sg) : Sg := dY 0 (uV fun r0 => uN fun h => aDG S r0 h) (kT)
noncomputable def F91 (args : List Value) (h : Hp) : aZ := bQ [Kd.v] args fun al => aK T91 1000000 0 al h
def a2A : Nat := 1 + (8 - 1)
theorem a2B (S : Sg) (r0 : Value) (h : Hp) : aDG S r0 h = aF (bT env aEQ (a2A)) (bU env Try.f91.results.toList) (collect B91 A91 []) 0 S (AL.v r0 AL.n) h := by kernel_rfl
theorem t91 (S : Sg) : eH (fun l vs h => aF (bT env aEQ a2A) (bU env Try.f91.results.toList) (collect B91 A91 []) l S vs h) (T91 S) := by
 unfold T91
 refine eH.cons 0 (fun gF h q e0 => ?_) ?_
 ·obtain ⟨r0, vs1, rfl, e1⟩ := aD e0
  obtain ⟨rfl, ee⟩ := aR e1
  exact (a2B S r0 h).symm.trans ee
 exact eH.nil
theorem r91 : ∀ args h v h', F91 args h = some (v, h') → iE (C33) (.call 91 args.toArray h) (.ret v h') := by
 intro args h v h' e
 exact bL (C := C33) (fn := Try.f91) (body := B91) (np := 1) (A := A91) (T := T91) (kinds := [Kd.v]) (by kernel_rfl) (by kernel_rfl) (by kernel_rfl) (by kernel_rfl) (dP eB) (by kernel_rfl) (fun S => t91 S) e
noncomputable def aER := kS 91 F91 aEQ
noncomputable def C34 : dK := cfg aER
theorem bD9 : C34.Ok := dQ (C := C33) bD6 r91
noncomputable def B59 : Code := (Try.f59.body).getD .skip
def A59 : aB := (aB.node (some (0, [(0, Kd.v), (1, Kd.v)])) aB.nil (aB.node none aB.nil aB.nil))
noncomputable def aDI (S : Sg) (r0 : Value) (r1 : Value) (h : Hp) : aZ :=
 bV h 71 (Array.toList (Value.cells r0)) fun a0 h0 =>
 bV h0 87 (Array.toList (Value.cells r1)) fun a1 h1 =>
 aX 0 a0 fun v2 =>
 aX 1 v2 fun v3 =>
 aQ h1 v3 fun v4 =>
 eO v4 fun i5 =>
 dG (jZ env h1 87 a1 none (some (Value.int .i64 i5)) none) fun v6 =>
 aW (dZ F91 [v6] h1) fun v7 h7 =>
 some (v7, h7)
noncomputable def T59 (S : Sg) : Sg := dY 0 (uV fun r0 => uV fun r1 => uN fun h => aDI S r0 r1 h) (kT)
noncomputable def F59 (args : List Value) (h : Hp) : aZ := bQ [Kd.v, Kd.v] args fun al => aK T59 1000000 0 al h
def a2C : Nat := 2 + (11 - 2)
theorem a2D (S : Sg) (r0 : Value) (r1 : Value) (h : Hp) : aDI S r0 r1 h = aF (bT env aER (a2C)) (bU env Try.f59.results.toList) (collect B59 A59 []) 0 S (AL.v r0 (AL.v r1 AL.n)) h := by kernel_rfl
theorem t59 (S : Sg) : eH (fun l vs h => aF (bT env aER a2C) (bU env Try.f59.results.toList) (collect B59 A59 []) l S vs h) (T59 S) := by
 unfold T59
 refine eH.cons 0 (fun gF h q e0 => ?_) ?_
 ·obtain ⟨r0, vs1, rfl, e1⟩ := aD e0
  obtain ⟨r1, vs2, rfl, e2⟩ := aD e1
  obtain ⟨rfl, ee⟩ := aR e2
  exact (a2D S r0 r1 h).symm.trans ee
 exact eH.nil
theorem r59 : ∀ args h v h', F59 args h = some (v, h') → iE (C34) (.call 59 args.toArray h) (.ret v h') := by
 intro args h v h' e
 exact bL (C := C34) (fn := Try.f59) (body := B59) (np := 2) (A := A59) (T := T59) (kinds := [Kd.v, Kd.v]) (by kernel_rfl) (by kernel_rfl) (by kernel_rfl) (by kernel_rfl) (dP eB) (by kernel_rfl) (fun S => t59 S) e
noncomputable def aES := kS 59 F59 aER
noncomputable def C35 : dK := cfg aES
theorem bEC : C35.Ok := dQ (C := C34) bD9 r59
noncomputable def B22 : Code := (Try.f22.body).getD .skip
def A22 : aB := (aB.node (some (0, [(0, Kd.v), (1, Kd.v)])) aB.nil (aB.node none aB.nil (aB.node none (aB.node none aB.nil (aB.node none (aB.node none aB.nil aB.nil) aB.nil)) (aB.node none aB.nil aB.nil))))
noncomputable def aDL (S : Sg) (r0 : Value) (r1 : Value) (h : Hp) : aZ :=
 bV h 25 (Array.toList (Value.cells r0)) fun a0 h0 =>
 bC 4 h0 a0 fun v1 =>
 aW (dZ F58 [v1, r1] h0) fun v2 h2 =>
 gD v2 0 fun v3 =>
 gD v2 1 fun v4 =>
 gD v2 2 fun v5 =>
 aY .i64 v5 fun i6 =>
 bV h2 71 [(Value.slice none 0 0), (Value.slice none 0 0), (Value.slice none 0 0), (Value.slice none 0 0), (Value.map none)] fun a7 h7 =>
 fD 5 h7 a7 v3 fun h8 =>
 bZ (nK i6 (Int.ofNat 0)) fun b9 =>
 dJ b9
 (some (Value.tuple (List.toArray [(Value.slice none 0 0), (Value.int .i64 i6)]), h8))
 (bC 5 h8 a7 fun v10 =>
 bC 5 h8 a7 fun v11 =>
 aW (aW (dZ F60 [v11, v4] (Hp.mk (Hp.next h8) (Hp.next h8) (Hp.aI h8))) fun v _ => dJ (kI v) (some (v, h8)) none) fun v12 h12 =>
 aW (dZ F59 [v10, v12] h12) fun v13 h13 =>
 some (Value.tuple (List.toArray [v13, (Value.int .i64 (Int.ofNat 0))]), h13))
noncomputable def T22 (S : Sg) : Sg := dY 0 (uV fun r0 => uV fun r1 => uN fun h => aDL S r0 r1 h) (kT)
noncomputable def F22 (args : List Value) (h : Hp) : aZ := bQ [Kd.v, Kd.v] args fun al => aK T22 1000000 0 al h
def a2E : Nat := 2 + (24 - 2)
theorem a2F (S : Sg) (r0 : Value) (r1 : Value) (h : Hp) : aDL S r0 r1 h = aF (bT env aES (a2E)) (bU env Try.f22.results.toList) (collect B22 A22 []) 0 S (AL.v r0 (AL.v r1 AL.n)) h := by kernel_rfl
theorem t22 (S : Sg) : eH (fun l vs h => aF (bT env aES a2E) (bU env Try.f22.results.toList) (collect B22 A22 []) l S vs h) (T22 S) := by
 unfold T22
 refine eH.cons 0 (fun gF h q e0 => ?_) ?_
 ·obtain ⟨r0, vs1, rfl, e1⟩ := aD e0
  obtain ⟨r1, vs2, rfl, e2⟩ := aD e1
  obtain ⟨rfl, ee⟩ := aR e2
  exact (a2F S r0 r1 h).symm.trans ee
 exact eH.nil
theorem r22 : ∀ args h v h', F22 args h = some (v, h') → iE (C35) (.call 22 args.toArray h) (.ret v h') := by
 intro args h v h' e
 exact bL (C := C35) (fn := Try.f22) (body := B22) (np := 2) (A := A22) (T := T22) (kinds := [Kd.v, Kd.v]) (by kernel_rfl) (by kernel_rfl) (by kernel_rfl) (by kernel_rfl) (dP eB) (by kernel_rfl) (fun S => t22 S) e
noncomputable def aET := kS 22 F22 aES
noncomputable def C36 : dK := cfg aET
theorem bEF : C36.Ok := dQ (C := C35) bEC r22
noncomputable def B62 : Code := (Try.f62.body).getD .skip
def A62 : aB := (aB.node (some (0, [(0, Kd.v), (1, Kd.v)])) aB.nil (aB.node none aB.nil aB.nil))
noncomputable def aDK (S : Sg) (r0 : Value) (r1 : Value) (h : Hp) : aZ :=
 bV h 71 (Array.toList (Value.cells r0)) fun a0 h0 =>
 bC 5 h0 a0 fun v1 =>
 aW (dZ F60 [v1, r1] h0) fun v2 h2 =>
 aW (dG (F77 [v2] h2) fun v => some (v, h2)) fun v3 h3 =>
 dG (jP env 87 (List.toArray [])) fun v4 =>
 dG (qG env .eql 87 (Operand.tmp 8) (Operand.tmp 9) v3 v4) fun v5 =>
 eZ v5 fun b6 =>
 some ((Value.bool b6), h3)
noncomputable def T62 (S : Sg) : Sg := dY 0 (uV fun r0 => uV fun r1 => uN fun h => aDK S r0 r1 h) (kT)
noncomputable def F62 (args : List Value) (h : Hp) : aZ := bQ [Kd.v, Kd.v] args fun al => aK T62 1000000 0 al h
def a2G : Nat := 2 + (11 - 2)
theorem a2H (S : Sg) (r0 : Value) (r1 : Value) (h : Hp) : aDK S r0 r1 h = aF (bT env aET (a2G)) (bU env Try.f62.results.toList) (collect B62 A62 []) 0 S (AL.v r0 (AL.v r1 AL.n)) h := by kernel_rfl
theorem t62 (S : Sg) : eH (fun l vs h => aF (bT env aET a2G) (bU env Try.f62.results.toList) (collect B62 A62 []) l S vs h) (T62 S) := by
 unfold T62
 refine eH.cons 0 (fun gF h q e0 => ?_) ?_
 ·obtain ⟨r0, vs1, rfl, e1⟩ := aD e0
  obtain ⟨r1, vs2, rfl, e2⟩ := aD e1
  obtain ⟨rfl, ee⟩ := aR e2
  exact (a2H S r0 r1 h).symm.trans ee
 exact eH.nil
theorem r62 : ∀ args h v h', F62 args h = some (v, h') → iE (C36) (.call 62 args.toArray h) (.ret v h') := by
 intro args h v h' e
 exact bL (C := C36) (fn := Try.f62) (body := B62) (np := 2) (A := A62) (T := T62) (kinds := [Kd.v, Kd.v]) (by kernel_rfl) (by kernel_rfl) (by kernel_rfl) (by kernel_rfl) (dP eB) (by kernel_rfl) (fun S => t62 S) e
noncomputable def aEU := kS 62 F62 aET
noncomputable def C37 : dK := cfg aEU
theorem bEI : C37.Ok := dQ (C := C36) bEF r62
noncomputable def B24 : Code := (Try.f24.body).getD .skip
def A24 : aB := (aB.node (some (0, [(0, Kd.v), (1, Kd.v)])) aB.nil (aB.node none aB.nil (aB.node none (aB.node none aB.nil (aB.node none (aB.node none aB.nil aB.nil) aB.nil)) (aB.node none (aB.node none aB.nil (aB.node none (aB.node none aB.nil aB.nil) aB.nil)) (aB.node none aB.nil aB.nil)))))
noncomputable def aDM (S : Sg) (r0 : Value) (r1 : Value) (h : Hp) : aZ :=
 bV h 25 (Array.toList (Value.cells r0)) fun a0 h0 =>
 bC 4 h0 a0 fun v1 =>
 aW (dZ F58 [v1, r1] h0) fun v2 h2 =>
 gD v2 0 fun v3 =>
 gD v2 1 fun v4 =>
 gD v2 2 fun v5 =>
 aY .i64 v5 fun i6 =>
 bV h2 71 [(Value.slice none 0 0), (Value.slice none 0 0), (Value.slice none 0 0), (Value.slice none 0 0), (Value.map none)] fun a7 h7 =>
 fD 5 h7 a7 v3 fun h8 =>
 bZ (nK i6 (Int.ofNat 0)) fun b9 =>
 dJ b9
 (some (Value.tuple (List.toArray [(Value.int .i64 (Int.ofNat 0)), (Value.int .i64 i6)]), h8))
 (bC 5 h8 a7 fun v10 =>
 aW (dZ F62 [v10, v4] h8) fun v11 h11 =>
 eZ v11 fun b12 =>
 bZ b12 fun b13 =>
 dJ b13
 (some (Value.tuple (List.toArray [(Value.int .i64 (Int.ofNat 0)), (Value.int .i64 (Int.ofNat 9))]), h11))
 (bC 5 h11 a7 fun v14 =>
 aW (dG (F54 [v14, v4] h11) fun v => some (v, h11)) fun v15 h15 =>
 aY .i64 v15 fun i16 =>
 some (Value.tuple (List.toArray [(Value.int .i64 i16), (Value.int .i64 (Int.ofNat 0))]), h15)))
noncomputable def T24 (S : Sg) : Sg := dY 0 (uV fun r0 => uV fun r1 => uN fun h => aDM S r0 r1 h) (kT)
noncomputable def F24 (args : List Value) (h : Hp) : aZ := bQ [Kd.v, Kd.v] args fun al => aK T24 1000000 0 al h
def a2I : Nat := 2 + (26 - 2)
theorem a2J (S : Sg) (r0 : Value) (r1 : Value) (h : Hp) : aDM S r0 r1 h = aF (bT env aEU (a2I)) (bU env Try.f24.results.toList) (collect B24 A24 []) 0 S (AL.v r0 (AL.v r1 AL.n)) h := by kernel_rfl
theorem t24 (S : Sg) : eH (fun l vs h => aF (bT env aEU a2I) (bU env Try.f24.results.toList) (collect B24 A24 []) l S vs h) (T24 S) := by
 unfold T24
 refine eH.cons 0 (fun gF h q e0 => ?_) ?_
 ·obtain ⟨r0, vs1, rfl, e1⟩ := aD e0
  obtain ⟨r1, vs2, rfl, e2⟩ := aD e1
  obtain ⟨rfl, ee⟩ := aR e2
  exact (a2J S r0 r1 h).symm.trans ee
 exact eH.nil
theorem DR : ∀ args h v h', F24 args h = some (v, h') → iE (C37) (.call 24 args.toArray h) (.ret v h') := by
 intro args h v h' e
 exact bL (C := C37) (fn := Try.f24) (body := B24) (np := 2) (A := A24) (T := T24) (kinds := [Kd.v, Kd.v]) (by kernel_rfl) (by kernel_rfl) (by kernel_rfl) (by kernel_rfl) (dP eB) (by kernel_rfl) (fun S => t24 S) e
noncomputable def aLV := kS 24 F24 aEU
noncomputable def C38 : dK := cfg aLV
theorem a2K : C38.Ok := dQ (C := C37) bEI DR
noncomputable abbrev a2L := aLV
theorem okE : (cfg a2L).Ok := a2K
end Go.Proofs.Ytepepiajmdpiiaa.K
