/- Functions told for the laws. -/
import Derived.Test.YtepepiajmdpiiaaHaAwake
open Go Go.Eng
set_option maxRecDepth 100000
set_option linter.unusedVariables false
namespace Go.Proofs.Ytepepiajmdpiiaa.K.L
noncomputable def TQ : List Value → Hp → Option Value := K7 (.bool true)
theorem a2C : PSound Try.prog 21 TQ := aU6
noncomputable def aK0 : PF := JF 21 TQ a1J
theorem aK1 : fT Try.prog aK0 := jJ a2C aU2
noncomputable def aQD := o8 21 TQ aKZ
noncomputable def C39 : dM := cfg aQD
theorem bFB : C39.Ok := gP (C := C38) a2A a2C
noncomputable def B55 : Code := (Try.f55.body).getD .skip
noncomputable def A55 : G.aB (List KI) := (G.aB.node (some (0, [KI.reg 0 (Kd.i .i64), KI.reg 1 (Kd.i .i64), KI.reg 2 (Kd.i .i64)])) G.aB.nil (G.aB.node none G.aB.nil G.aB.nil))
noncomputable def aDQ (h : Hp) (S : Nat → aD → Option Value) (r0 : Int) (r1 : Int) (r2 : Int) : Option Value :=
 bU (nG r0 r1) fun b0 =>
 dF b0
 (bU (nG r2 r0) fun b1 =>
 some (Value.bool b1))
 (some (Value.bool false))
noncomputable def T55 (h : Hp) (S : Nat → aD → Option Value) : Nat → aD → Option Value := eP 0 (wI fun r0 => wI fun r1 => wI fun r2 => wN (aDQ h S r0 r1 r2)) (lY)
noncomputable def F55 (args : List Value) (h : Hp) : Option Value := plainO (eT [Kd.i .i64, Kd.i .i64, Kd.i .i64] args fun al => G.aP (T55 h) 1000000 0 al)
def a2D : Nat := 3 + (15 - 3)
theorem a2E (h : Hp) (S : Nat → aD → Option Value) (r0 : Int) (r1 : Int) (r2 : Int) : aDQ h S r0 r1 r2 = G.aF bR aQ fC (fF env aK0 a2D h) (fH env Try.f55.results.toList) (G.collect B55 A55 []) 0 S (aD.i r0 (aD.i r1 (aD.i r2 aD.n))) := by kernel_rfl
theorem t55 (h : Hp) (S : Nat → aD → Option Value) : dG (fun l al => G.aF bR aQ fC (fF env aK0 a2D h) (fH env Try.f55.results.toList) (G.collect B55 A55 []) l S al) (T55 h S) := by
 unfold T55
 refine dG.cons 0 (fun fJ q e0 => ?_) ?_
 ·obtain ⟨r0, vs1, rfl, e1⟩ := aV e0
  obtain ⟨r1, vs2, rfl, e2⟩ := aV e1
  obtain ⟨r2, vs3, rfl, e3⟩ := aV e2
  obtain ⟨rfl, ee⟩ := bQ e3
  exact (a2E h S r0 r1 r2).symm.trans ee
 exact dG.nil
theorem r55 : PSound Try.prog 55 F55 := dY (C := C0) ok0 (pf := aK0) aK1 (fn := Try.f55) (body := B55) (kinds := [Kd.i .i64, Kd.i .i64, Kd.i .i64]) (A := A55) (T := T55) (by kernel_rfl) (by kernel_rfl) (by kernel_rfl) (by kernel_rfl) (fun h S => t55 h S)
noncomputable def aAV : PF := JF 55 F55 aK0
theorem aK2 : fT Try.prog aAV := jJ r55 aK1
noncomputable def aQE := o8 55 F55 aQD
noncomputable def C40 : dM := cfg aQE
theorem bFE : C40.Ok := gP (C := C39) bFB r55
noncomputable def B50 : Code := (Try.f50.body).getD .skip
noncomputable def A50 : G.aB (List KI) := (G.aB.node (some (0, [KI.reg 0 (Kd.v), KI.reg 1 (Kd.i .i64), KI.reg 2 (Kd.i .i64)])) G.aB.nil (G.aB.node none (G.aB.node none G.aB.nil (G.aB.node none (G.aB.node none G.aB.nil G.aB.nil) G.aB.nil)) (G.aB.node none (G.aB.node none G.aB.nil (G.aB.node none (G.aB.node (some (1, [KI.reg 0 (Kd.v), KI.reg 2 (Kd.i .i64), KI.reg 8 (Kd.i .i64)])) (G.aB.node none (G.aB.node none G.aB.nil (G.aB.node none G.aB.nil G.aB.nil)) (G.aB.node none (G.aB.node none (G.aB.node none G.aB.nil (G.aB.node none (G.aB.node none G.aB.nil G.aB.nil) G.aB.nil)) G.aB.nil) G.aB.nil)) G.aB.nil) G.aB.nil)) (G.aB.node (some (2, [])) G.aB.nil G.aB.nil))))
noncomputable def aQF (h : Hp) (S : Nat → aD → Option Value) : Option Value :=
 some (Value.tuple (List.toArray [(Value.int .i64 (Int.ofNat 0)), (Value.int .i64 (Int.ofNat 0))]))
noncomputable def WI (h : Hp) (S : Nat → aD → Option Value) (r0 : Value) (r2 : Int) (r8 : Int) : Option Value :=
 dK r0 fun i0 =>
 bX (nG r8 i0) fun b1 =>
 dF b1
 (dS 1 r0 r8 fun v2 =>
 aK h v2 fun v3 =>
 aX .i64 v3 fun i4 =>
 cO (F55 [(Value.int .i64 i4), (Value.int .i64 (Int.ofNat 0)), (Value.int .i64 r2)] h) fun v5 =>
 eO v5 fun b6 =>
 bU b6 fun b7 =>
 dF b7
 (some (Value.tuple (List.toArray [(Value.int .i64 r8), (Value.int .i64 (Int.ofNat 7))])))
 (wrap64 (Int.add r8 (Int.ofNat 1)) fun i8 =>
 S 1 (aD.v r0 (aD.i r2 (aD.i i8 aD.n)))))
 (S 2 aD.n)
noncomputable def aB8 (h : Hp) (S : Nat → aD → Option Value) (r0 : Value) (r1 : Int) (r2 : Int) : Option Value :=
 dK r0 fun i0 =>
 cO (F55 [(Value.int .i64 i0), (Value.int .i64 (Int.ofNat 1)), (Value.int .i64 r1)] h) fun v1 =>
 eO v1 fun b2 =>
 bU b2 fun b3 =>
 dF b3
 (some (Value.tuple (List.toArray [(Value.int .i64 (Int.ofNat 0)), (Value.int .i64 (Int.ofNat 3))])))
 (S 1 (aD.v r0 (aD.i r2 (aD.i (Int.ofNat 0) aD.n))))
noncomputable def T50 (h : Hp) (S : Nat → aD → Option Value) : Nat → aD → Option Value := eP 0 (wV fun r0 => wI fun r1 => wI fun r2 => wN (aB8 h S r0 r1 r2)) (eP 1 (wV fun r0 => wI fun r2 => wI fun r8 => wN (WI h S r0 r2 r8)) (eP 2 (wN (aQF h S)) (lY)))
noncomputable def F50 (args : List Value) (h : Hp) : Option Value := plainO (eT [Kd.v, Kd.i .i64, Kd.i .i64] args fun al => G.aP (T50 h) 1000000 0 al)
def aN7 : Nat := 3 + (28 - 3)
theorem a2H (h : Hp) (S : Nat → aD → Option Value) : aQF h S = G.aF bR aQ fC (fF env aAV aN7 h) (fH env Try.f50.results.toList) (G.collect B50 A50 []) 2 S aD.n := by kernel_rfl
theorem a2I (h : Hp) (S : Nat → aD → Option Value) (r0 : Value) (r2 : Int) (r8 : Int) : WI h S r0 r2 r8 = G.aF bR aQ fC (fF env aAV aN7 h) (fH env Try.f50.results.toList) (G.collect B50 A50 []) 1 S (aD.v r0 (aD.i r2 (aD.i r8 aD.n))) := by kernel_rfl
theorem a2J (h : Hp) (S : Nat → aD → Option Value) (r0 : Value) (r1 : Int) (r2 : Int) : aB8 h S r0 r1 r2 = G.aF bR aQ fC (fF env aAV aN7 h) (fH env Try.f50.results.toList) (G.collect B50 A50 []) 0 S (aD.v r0 (aD.i r1 (aD.i r2 aD.n))) := by kernel_rfl
theorem t50 (h : Hp) (S : Nat → aD → Option Value) : dG (fun l al => G.aF bR aQ fC (fF env aAV aN7 h) (fH env Try.f50.results.toList) (G.collect B50 A50 []) l S al) (T50 h S) := by
 unfold T50
 refine dG.cons 0 (fun fJ q e0 => ?_) ?_
 ·obtain ⟨r0, vs1, rfl, e1⟩ := bA e0
  obtain ⟨r1, vs2, rfl, e2⟩ := aV e1
  obtain ⟨r2, vs3, rfl, e3⟩ := aV e2
  obtain ⟨rfl, ee⟩ := bQ e3
  exact (a2J h S r0 r1 r2).symm.trans ee
 refine dG.cons 1 (fun fJ q e0 => ?_) ?_
 ·obtain ⟨r0, vs1, rfl, e1⟩ := bA e0
  obtain ⟨r2, vs2, rfl, e2⟩ := aV e1
  obtain ⟨r8, vs3, rfl, e3⟩ := aV e2
  obtain ⟨rfl, ee⟩ := bQ e3
  exact (a2I h S r0 r2 r8).symm.trans ee
 refine dG.cons 2 (fun fJ q e0 => ?_) ?_
 ·
  obtain ⟨rfl, ee⟩ := bQ e0
  exact (a2H h S).symm.trans ee
 exact dG.nil
theorem r50 : PSound Try.prog 50 F50 := dY (C := C0) ok0 (pf := aAV) aK2 (fn := Try.f50) (body := B50) (kinds := [Kd.v, Kd.i .i64, Kd.i .i64]) (A := A50) (T := T50) (by kernel_rfl) (by kernel_rfl) (by kernel_rfl) (by kernel_rfl) (fun h S => t50 h S)
noncomputable def aK3 : PF := JF 50 F50 aAV
theorem aK4 : fT Try.prog aK3 := jJ r50 aK2
noncomputable def aQG := o8 50 F50 aQE
noncomputable def C41 : dM := cfg aQG
theorem bFF : C41.Ok := gP (C := C40) bFE r50
noncomputable def aU7 : Code := (Try.f117.body).getD .skip
noncomputable def aU8 : G.aB (List KI) := (G.aB.node (some (0, [KI.reg 0 (Kd.i .i64), KI.reg 1 (Kd.i .i64), KI.reg 2 (Kd.i .i64)])) G.aB.nil (G.aB.node none G.aB.nil G.aB.nil))
noncomputable def UC (h : Hp) (S : Nat → aD → Option Value) (r0 : Int) (r1 : Int) (r2 : Int) : Option Value :=
 bU (nG r0 r1) fun b0 =>
 dF b0
 (bU (nG r2 r0) fun b1 =>
 some (Value.bool b1))
 (some (Value.bool false))
noncomputable def aJU (h : Hp) (S : Nat → aD → Option Value) : Nat → aD → Option Value := eP 0 (wI fun r0 => wI fun r1 => wI fun r2 => wN (UC h S r0 r1 r2)) (lY)
noncomputable def aGB (args : List Value) (h : Hp) : Option Value := plainO (eT [Kd.i .i64, Kd.i .i64, Kd.i .i64] args fun al => G.aP (aJU h) 1000000 0 al)
def aQH : Nat := 3 + (15 - 3)
theorem aU9 (h : Hp) (S : Nat → aD → Option Value) (r0 : Int) (r1 : Int) (r2 : Int) : UC h S r0 r1 r2 = G.aF bR aQ fC (fF env aK3 aQH h) (fH env Try.f117.results.toList) (G.collect aU7 aU8 []) 0 S (aD.i r0 (aD.i r1 (aD.i r2 aD.n))) := by kernel_rfl
theorem t117 (h : Hp) (S : Nat → aD → Option Value) : dG (fun l al => G.aF bR aQ fC (fF env aK3 aQH h) (fH env Try.f117.results.toList) (G.collect aU7 aU8 []) l S al) (aJU h S) := by
 unfold aJU
 refine dG.cons 0 (fun fJ q e0 => ?_) ?_
 ·obtain ⟨r0, vs1, rfl, e1⟩ := aV e0
  obtain ⟨r1, vs2, rfl, e2⟩ := aV e1
  obtain ⟨r2, vs3, rfl, e3⟩ := aV e2
  obtain ⟨rfl, ee⟩ := bQ e3
  exact (aU9 h S r0 r1 r2).symm.trans ee
 exact dG.nil
theorem a2K : PSound Try.prog 117 aGB := dY (C := C0) ok0 (pf := aK3) aK4 (fn := Try.f117) (body := aU7) (kinds := [Kd.i .i64, Kd.i .i64, Kd.i .i64]) (A := aU8) (T := aJU) (by kernel_rfl) (by kernel_rfl) (by kernel_rfl) (by kernel_rfl) (fun h S => t117 h S)
noncomputable def UH : PF := JF 117 aGB aK3
theorem aK5 : fT Try.prog UH := jJ a2K aK4
noncomputable def aQI := o8 117 aGB aQG
noncomputable def C42 : dM := cfg aQI
theorem bFG : C42.Ok := gP (C := C41) bFF a2K
noncomputable def aAW : Code := (Try.f109.body).getD .skip
noncomputable def aAX : G.aB (List KI) := (G.aB.node (some (0, [KI.reg 0 (Kd.v)])) G.aB.nil (G.aB.node none (G.aB.node none G.aB.nil (G.aB.node none (G.aB.node none G.aB.nil G.aB.nil) G.aB.nil)) (G.aB.node none (G.aB.node none G.aB.nil (G.aB.node none (G.aB.node (some (1, [KI.reg 0 (Kd.v), KI.reg 3 (Kd.i .i64)])) (G.aB.node none (G.aB.node none G.aB.nil (G.aB.node none G.aB.nil G.aB.nil)) (G.aB.node none (G.aB.node none (G.aB.node none G.aB.nil (G.aB.node none G.aB.nil (G.aB.node (some (2, [KI.reg 0 (Kd.v), KI.reg 3 (Kd.i .i64), KI.reg 4 (Kd.b), KI.reg 5 (Kd.b)])) G.aB.nil (G.aB.node none (G.aB.node none G.aB.nil G.aB.nil) G.aB.nil)))) G.aB.nil) (G.aB.node (some (3, [KI.reg 0 (Kd.v), KI.reg 3 (Kd.i .i64)])) G.aB.nil G.aB.nil))) G.aB.nil) G.aB.nil)) (G.aB.node (some (4, [])) G.aB.nil G.aB.nil))))
noncomputable def aK6 (h : Hp) (S : Nat → aD → Option Value) : Option Value :=
 some (Value.bool true)
noncomputable def UD (h : Hp) (S : Nat → aD → Option Value) (r0 : Value) (r3 : Int) : Option Value :=
 wrap64 (Int.add r3 (Int.ofNat 1)) fun i0 =>
 S 1 (aD.v r0 (aD.i i0 aD.n))
noncomputable def NV (h : Hp) (S : Nat → aD → Option Value) (r0 : Value) (r3 : Int) (r4 : Bool) (r5 : Bool) : Option Value :=
 bU r4 fun b0 =>
 dF b0
 (bX (lW r3 (Int.ofNat 0)) fun b1 =>
 dF b1
 (some (Value.bool false))
 (bU r5 fun b2 =>
 dF b2
 (some (Value.bool false))
 (S 3 (aD.v r0 (aD.i r3 aD.n)))))
 (S 3 (aD.v r0 (aD.i r3 aD.n)))
noncomputable def IJ (h : Hp) (S : Nat → aD → Option Value) (r0 : Value) (r3 : Int) : Option Value :=
 I7 r0 fun i0 =>
 bX (nG r3 i0) fun b1 =>
 dF b1
 (cO (mZ env 9 r0 (Value.int .i64 r3)) fun v2 =>
 aX .u8 v2 fun i3 =>
 wrap64 i3 fun i4 =>
 cO (aGB [(Value.int .i64 i4), (Value.int .i64 (Int.ofNat 97)), (Value.int .i64 (Int.ofNat 122))] h) fun v5 =>
 eO v5 fun b6 =>
 cO (mZ env 9 r0 (Value.int .i64 r3)) fun v7 =>
 aX .u8 v7 fun i8 =>
 wrap64 i8 fun i9 =>
 cO (aGB [(Value.int .i64 i9), (Value.int .i64 (Int.ofNat 48)), (Value.int .i64 (Int.ofNat 57))] h) fun v10 =>
 eO v10 fun b11 =>
 dF b11
 (S 2 (aD.v r0 (aD.i r3 (aD.b b6 (aD.b true aD.n)))))
 (cO (mZ env 9 r0 (Value.int .i64 r3)) fun v12 =>
 aX .u8 v12 fun i13 =>
 bX (lW i13 (Int.ofNat 46)) fun b14 =>
 S 2 (aD.v r0 (aD.i r3 (aD.b b6 (aD.b b14 aD.n))))))
 (S 4 aD.n)
noncomputable def UE (h : Hp) (S : Nat → aD → Option Value) (r0 : Value) : Option Value :=
 I7 r0 fun i0 =>
 bX (lW i0 (Int.ofNat 0)) fun b1 =>
 dF b1
 (some (Value.bool false))
 (I7 r0 fun i2 =>
 bX (nG (Int.ofNat 16) i2) fun b3 =>
 dF b3
 (some (Value.bool false))
 (S 1 (aD.v r0 (aD.i (Int.ofNat 0) aD.n))))
noncomputable def xS (h : Hp) (S : Nat → aD → Option Value) : Nat → aD → Option Value := eP 0 (wV fun r0 => wN (UE h S r0)) (eP 1 (wV fun r0 => wI fun r3 => wN (IJ h S r0 r3)) (eP 2 (wV fun r0 => wI fun r3 => wB fun r4 => wB fun r5 => wN (NV h S r0 r3 r4 r5)) (eP 3 (wV fun r0 => wI fun r3 => wN (UD h S r0 r3)) (eP 4 (wN (aK6 h S)) (lY)))))
noncomputable def aJW (args : List Value) (h : Hp) : Option Value := plainO (eT [Kd.v] args fun al => G.aP (xS h) 1000000 0 al)
def QX : Nat := 1 + (46 - 1)
theorem aVA (h : Hp) (S : Nat → aD → Option Value) : aK6 h S = G.aF bR aQ fC (fF env UH QX h) (fH env Try.f109.results.toList) (G.collect aAW aAX []) 4 S aD.n := by kernel_rfl
theorem aVB (h : Hp) (S : Nat → aD → Option Value) (r0 : Value) (r3 : Int) : UD h S r0 r3 = G.aF bR aQ fC (fF env UH QX h) (fH env Try.f109.results.toList) (G.collect aAW aAX []) 3 S (aD.v r0 (aD.i r3 aD.n)) := by kernel_rfl
theorem aVC (h : Hp) (S : Nat → aD → Option Value) (r0 : Value) (r3 : Int) (r4 : Bool) (r5 : Bool) : NV h S r0 r3 r4 r5 = G.aF bR aQ fC (fF env UH QX h) (fH env Try.f109.results.toList) (G.collect aAW aAX []) 2 S (aD.v r0 (aD.i r3 (aD.b r4 (aD.b r5 aD.n)))) := by kernel_rfl
theorem aVD (h : Hp) (S : Nat → aD → Option Value) (r0 : Value) (r3 : Int) : IJ h S r0 r3 = G.aF bR aQ fC (fF env UH QX h) (fH env Try.f109.results.toList) (G.collect aAW aAX []) 1 S (aD.v r0 (aD.i r3 aD.n)) := by kernel_rfl
theorem aVE (h : Hp) (S : Nat → aD → Option Value) (r0 : Value) : UE h S r0 = G.aF bR aQ fC (fF env UH QX h) (fH env Try.f109.results.toList) (G.collect aAW aAX []) 0 S (aD.v r0 aD.n) := by kernel_rfl
theorem t109 (h : Hp) (S : Nat → aD → Option Value) : dG (fun l al => G.aF bR aQ fC (fF env UH QX h) (fH env Try.f109.results.toList) (G.collect aAW aAX []) l S al) (xS h S) := by
 unfold xS
 refine dG.cons 0 (fun fJ q e0 => ?_) ?_
 ·obtain ⟨r0, vs1, rfl, e1⟩ := bA e0
  obtain ⟨rfl, ee⟩ := bQ e1
  exact (aVE h S r0).symm.trans ee
 refine dG.cons 1 (fun fJ q e0 => ?_) ?_
 ·obtain ⟨r0, vs1, rfl, e1⟩ := bA e0
  obtain ⟨r3, vs2, rfl, e2⟩ := aV e1
  obtain ⟨rfl, ee⟩ := bQ e2
  exact (aVD h S r0 r3).symm.trans ee
 refine dG.cons 2 (fun fJ q e0 => ?_) ?_
 ·obtain ⟨r0, vs1, rfl, e1⟩ := bA e0
  obtain ⟨r3, vs2, rfl, e2⟩ := aV e1
  obtain ⟨r4, vs3, rfl, e3⟩ := lX e2
  obtain ⟨r5, pF, rfl, e4⟩ := lX e3
  obtain ⟨rfl, ee⟩ := bQ e4
  exact (aVC h S r0 r3 r4 r5).symm.trans ee
 refine dG.cons 3 (fun fJ q e0 => ?_) ?_
 ·obtain ⟨r0, vs1, rfl, e1⟩ := bA e0
  obtain ⟨r3, vs2, rfl, e2⟩ := aV e1
  obtain ⟨rfl, ee⟩ := bQ e2
  exact (aVB h S r0 r3).symm.trans ee
 refine dG.cons 4 (fun fJ q e0 => ?_) ?_
 ·
  obtain ⟨rfl, ee⟩ := bQ e0
  exact (aVA h S).symm.trans ee
 exact dG.nil
theorem a2L : PSound Try.prog 109 aJW := dY (C := C0) ok0 (pf := UH) aK5 (fn := Try.f109) (body := aAW) (kinds := [Kd.v]) (A := aAX) (T := xS) (by kernel_rfl) (by kernel_rfl) (by kernel_rfl) (by kernel_rfl) (fun h S => t109 h S)
noncomputable def aAY : PF := JF 109 aJW UH
theorem aK7 : fT Try.prog aAY := jJ a2L aK5
noncomputable def aQJ := o8 109 aJW aQI
noncomputable def C43 : dM := cfg aQJ
theorem bFH : C43.Ok := gP (C := C42) bFG a2L
noncomputable def aK8 : Code := (Try.f110.body).getD .skip
noncomputable def aK9 : G.aB (List KI) := (G.aB.node (some (0, [KI.reg 0 (Kd.v), KI.reg 1 (Kd.v)])) G.aB.nil (G.aB.node none (G.aB.node none G.aB.nil (G.aB.node none (G.aB.node (some (1, [KI.reg 0 (Kd.v), KI.reg 1 (Kd.v), KI.reg 5 (Kd.i .i64)])) (G.aB.node none (G.aB.node none G.aB.nil (G.aB.node none G.aB.nil G.aB.nil)) (G.aB.node none (G.aB.node none (G.aB.node none G.aB.nil (G.aB.node none (G.aB.node none G.aB.nil G.aB.nil) G.aB.nil)) G.aB.nil) G.aB.nil)) G.aB.nil) G.aB.nil)) (G.aB.node (some (2, [])) G.aB.nil G.aB.nil)))
noncomputable def aLA (h : Hp) (S : Nat → aD → Option Value) : Option Value :=
 some (Value.int .i64 (Int.negSucc 0))
noncomputable def IK (h : Hp) (S : Nat → aD → Option Value) (r0 : Value) (r1 : Value) (r5 : Int) : Option Value :=
 dK r0 fun i0 =>
 bX (nG r5 i0) fun b1 =>
 dF b1
 (dS 1 r0 r5 fun v2 =>
 aK h v2 fun v3 =>
 cO (qQ env .eql 9 (Operand.tmp 15) (Operand.tmp 16) v3 r1) fun v4 =>
 eO v4 fun b5 =>
 dF b5
 (some (Value.int .i64 r5))
 (wrap64 (Int.add r5 (Int.ofNat 1)) fun i6 =>
 S 1 (aD.v r0 (aD.v r1 (aD.i i6 aD.n)))))
 (S 2 aD.n)
noncomputable def UF (h : Hp) (S : Nat → aD → Option Value) (r0 : Value) (r1 : Value) : Option Value :=
 S 1 (aD.v r0 (aD.v r1 (aD.i (Int.ofNat 0) aD.n)))
noncomputable def OG (h : Hp) (S : Nat → aD → Option Value) : Nat → aD → Option Value := eP 0 (wV fun r0 => wV fun r1 => wN (UF h S r0 r1)) (eP 1 (wV fun r0 => wV fun r1 => wI fun r5 => wN (IK h S r0 r1 r5)) (eP 2 (wN (aLA h S)) (lY)))
noncomputable def aJX (args : List Value) (h : Hp) : Option Value := plainO (eT [Kd.v, Kd.v] args fun al => G.aP (OG h) 1000000 0 al)
def aEA : Nat := 2 + (19 - 2)
theorem aVF (h : Hp) (S : Nat → aD → Option Value) : aLA h S = G.aF bR aQ fC (fF env aAY aEA h) (fH env Try.f110.results.toList) (G.collect aK8 aK9 []) 2 S aD.n := by kernel_rfl
theorem aVG (h : Hp) (S : Nat → aD → Option Value) (r0 : Value) (r1 : Value) (r5 : Int) : IK h S r0 r1 r5 = G.aF bR aQ fC (fF env aAY aEA h) (fH env Try.f110.results.toList) (G.collect aK8 aK9 []) 1 S (aD.v r0 (aD.v r1 (aD.i r5 aD.n))) := by kernel_rfl
theorem aVH (h : Hp) (S : Nat → aD → Option Value) (r0 : Value) (r1 : Value) : UF h S r0 r1 = G.aF bR aQ fC (fF env aAY aEA h) (fH env Try.f110.results.toList) (G.collect aK8 aK9 []) 0 S (aD.v r0 (aD.v r1 aD.n)) := by kernel_rfl
theorem t110 (h : Hp) (S : Nat → aD → Option Value) : dG (fun l al => G.aF bR aQ fC (fF env aAY aEA h) (fH env Try.f110.results.toList) (G.collect aK8 aK9 []) l S al) (OG h S) := by
 unfold OG
 refine dG.cons 0 (fun fJ q e0 => ?_) ?_
 ·obtain ⟨r0, vs1, rfl, e1⟩ := bA e0
  obtain ⟨r1, vs2, rfl, e2⟩ := bA e1
  obtain ⟨rfl, ee⟩ := bQ e2
  exact (aVH h S r0 r1).symm.trans ee
 refine dG.cons 1 (fun fJ q e0 => ?_) ?_
 ·obtain ⟨r0, vs1, rfl, e1⟩ := bA e0
  obtain ⟨r1, vs2, rfl, e2⟩ := bA e1
  obtain ⟨r5, vs3, rfl, e3⟩ := aV e2
  obtain ⟨rfl, ee⟩ := bQ e3
  exact (aVG h S r0 r1 r5).symm.trans ee
 refine dG.cons 2 (fun fJ q e0 => ?_) ?_
 ·
  obtain ⟨rfl, ee⟩ := bQ e0
  exact (aVF h S).symm.trans ee
 exact dG.nil
theorem a2M : PSound Try.prog 110 aJX := dY (C := C0) ok0 (pf := aAY) aK7 (fn := Try.f110) (body := aK8) (kinds := [Kd.v, Kd.v]) (A := aK9) (T := OG) (by kernel_rfl) (by kernel_rfl) (by kernel_rfl) (by kernel_rfl) (fun h S => t110 h S)
noncomputable def aLB : PF := JF 110 aJX aAY
theorem aLC : fT Try.prog aLB := jJ a2M aK7
noncomputable def aQK := o8 110 aJX aQJ
noncomputable def C44 : dM := cfg aQK
theorem bFI : C44.Ok := gP (C := C43) bFH a2M
noncomputable def B88 : Code := (Try.f88.body).getD .skip
noncomputable def A88 : G.aB (List KI) := (G.aB.node (some (0, [KI.reg 0 (Kd.v), KI.reg 1 (Kd.v)])) G.aB.nil (G.aB.node none (G.aB.node none G.aB.nil (G.aB.node none (G.aB.node none G.aB.nil G.aB.nil) G.aB.nil)) (G.aB.node none (G.aB.node none G.aB.nil (G.aB.node none (G.aB.node none G.aB.nil G.aB.nil) G.aB.nil)) (G.aB.node none G.aB.nil G.aB.nil))))
noncomputable def aDR (h : Hp) (S : Nat → aD → Option Value) (r0 : Value) (r1 : Value) : Option Value :=
 cO (aJW [r0] h) fun v0 =>
 eO v0 fun b1 =>
 bU b1 fun b2 =>
 dF b2
 (some (Value.int .i64 (Int.ofNat 6)))
 (cO (aJX [r1, r0] h) fun v3 =>
 aX .i64 v3 fun i4 =>
 bU (nG i4 (Int.ofNat 0)) fun b5 =>
 dF b5
 (some (Value.int .i64 (Int.ofNat 5)))
 (some (Value.int .i64 (Int.ofNat 0))))
noncomputable def T88 (h : Hp) (S : Nat → aD → Option Value) : Nat → aD → Option Value := eP 0 (wV fun r0 => wV fun r1 => wN (aDR h S r0 r1)) (lY)
noncomputable def F88 (args : List Value) (h : Hp) : Option Value := plainO (eT [Kd.v, Kd.v] args fun al => G.aP (T88 h) 1000000 0 al)
def a2N : Nat := 2 + (12 - 2)
theorem a2O (h : Hp) (S : Nat → aD → Option Value) (r0 : Value) (r1 : Value) : aDR h S r0 r1 = G.aF bR aQ fC (fF env aLB a2N h) (fH env Try.f88.results.toList) (G.collect B88 A88 []) 0 S (aD.v r0 (aD.v r1 aD.n)) := by kernel_rfl
theorem t88 (h : Hp) (S : Nat → aD → Option Value) : dG (fun l al => G.aF bR aQ fC (fF env aLB a2N h) (fH env Try.f88.results.toList) (G.collect B88 A88 []) l S al) (T88 h S) := by
 unfold T88
 refine dG.cons 0 (fun fJ q e0 => ?_) ?_
 ·obtain ⟨r0, vs1, rfl, e1⟩ := bA e0
  obtain ⟨r1, vs2, rfl, e2⟩ := bA e1
  obtain ⟨rfl, ee⟩ := bQ e2
  exact (a2O h S r0 r1).symm.trans ee
 exact dG.nil
theorem r88 : PSound Try.prog 88 F88 := dY (C := C0) ok0 (pf := aLB) aLC (fn := Try.f88) (body := B88) (kinds := [Kd.v, Kd.v]) (A := A88) (T := T88) (by kernel_rfl) (by kernel_rfl) (by kernel_rfl) (by kernel_rfl) (fun h S => t88 h S)
noncomputable def IL : PF := JF 88 F88 aLB
theorem aLD : fT Try.prog IL := jJ r88 aLC
noncomputable def aQL := o8 88 F88 aQK
noncomputable def C45 : dM := cfg aQL
theorem bFL : C45.Ok := gP (C := C44) bFI r88
noncomputable def B89 : Code := (Try.f89.body).getD .skip
noncomputable def A89 : G.aB (List KI) := (G.aB.node (some (0, [KI.reg 0 (Kd.v), KI.reg 1 (Kd.v), KI.reg 2 (Kd.b)])) G.aB.nil (G.aB.node none (G.aB.node none G.aB.nil (G.aB.node none (G.aB.node none G.aB.nil G.aB.nil) G.aB.nil)) (G.aB.node none (G.aB.node none G.aB.nil (G.aB.node none (G.aB.node (some (1, [KI.reg 2 (Kd.b), KI.loc 3 3, KI.loc 4 4, KI.reg 7 (Kd.i .i64), KI.cells 3 [Kd.v, Kd.v, Kd.v, Kd.v], KI.cells 4 [Kd.v, Kd.v, Kd.i .i64]])) (G.aB.node none (G.aB.node none G.aB.nil (G.aB.node none G.aB.nil G.aB.nil)) (G.aB.node none (G.aB.node none (G.aB.node none G.aB.nil (G.aB.node (some (2, [KI.reg 2 (Kd.b), KI.loc 3 3, KI.loc 4 4, KI.reg 7 (Kd.i .i64), KI.reg 8 (Kd.b), KI.cells 3 [Kd.v, Kd.v, Kd.v, Kd.v], KI.cells 4 [Kd.v, Kd.v, Kd.i .i64]])) G.aB.nil (G.aB.node none (G.aB.node none G.aB.nil G.aB.nil) G.aB.nil))) G.aB.nil) (G.aB.node (some (3, [KI.reg 2 (Kd.b), KI.loc 3 3, KI.loc 4 4, KI.reg 7 (Kd.i .i64), KI.cells 3 [Kd.v, Kd.v, Kd.v, Kd.v], KI.cells 4 [Kd.v, Kd.v, Kd.i .i64]])) G.aB.nil G.aB.nil))) G.aB.nil) G.aB.nil)) (G.aB.node (some (8, [KI.reg 2 (Kd.b), KI.loc 4 4, KI.cells 4 [Kd.v, Kd.v, Kd.i .i64]])) (G.aB.node none G.aB.nil (G.aB.node none (G.aB.node (some (4, [KI.reg 2 (Kd.b), KI.loc 4 4, KI.reg 9 (Kd.i .i64), KI.cells 4 [Kd.v, Kd.v, Kd.i .i64]])) (G.aB.node none (G.aB.node none G.aB.nil (G.aB.node none G.aB.nil G.aB.nil)) (G.aB.node none (G.aB.node none (G.aB.node none G.aB.nil (G.aB.node (some (5, [KI.reg 2 (Kd.b), KI.loc 4 4, KI.reg 9 (Kd.i .i64), KI.reg 10 (Kd.b), KI.cells 4 [Kd.v, Kd.v, Kd.i .i64]])) G.aB.nil (G.aB.node none (G.aB.node none G.aB.nil G.aB.nil) G.aB.nil))) G.aB.nil) (G.aB.node (some (6, [KI.reg 2 (Kd.b), KI.loc 4 4, KI.reg 9 (Kd.i .i64), KI.cells 4 [Kd.v, Kd.v, Kd.i .i64]])) G.aB.nil G.aB.nil))) G.aB.nil) G.aB.nil)) (G.aB.node (some (7, [KI.loc 4 4, KI.cells 4 [Kd.v, Kd.v, Kd.i .i64]])) (G.aB.node none G.aB.nil (G.aB.node none (G.aB.node none G.aB.nil G.aB.nil) G.aB.nil)) (G.aB.node none G.aB.nil G.aB.nil))))))
noncomputable def aCC (h : Hp) (S : Nat → aD → Option Value) (fQ : Value) (fD : Value) (fM : Int) : Option Value :=
 cO (F55 [(Value.int .i64 fM), (Value.int .i64 (Int.ofNat 0)), (Value.int .i64 (Int.ofNat 50))] h) fun v0 =>
 eO v0 fun b1 =>
 bU b1 fun b2 =>
 dF b2
 (some (Value.int .i64 (Int.ofNat 7)))
 (some (Value.int .i64 (Int.ofNat 0)))
noncomputable def aCB (h : Hp) (S : Nat → aD → Option Value) (r2 : Bool) (r9 : Int) (fQ : Value) (fD : Value) (fM : Int) : Option Value :=
 wrap64 (Int.add r9 (Int.ofNat 1)) fun i0 =>
 S 4 (aD.b r2 (aD.i i0 (aD.v fQ (aD.v fD (aD.i fM aD.n)))))
noncomputable def aCA (h : Hp) (S : Nat → aD → Option Value) (r2 : Bool) (r9 : Int) (dR : Bool) (fQ : Value) (fD : Value) (fM : Int) : Option Value :=
 bU dR fun b0 =>
 dF b0
 (dS 1 fD r9 fun v1 =>
 aK h v1 fun v2 =>
 aX .i64 v2 fun i3 =>
 cO (F55 [(Value.int .i64 i3), (Value.int .i64 (Int.ofNat 0)), (Value.int .i64 (Int.ofNat 5))] h) fun v4 =>
 eO v4 fun b5 =>
 bU b5 fun b6 =>
 dF b6
 (some (Value.int .i64 (Int.ofNat 7)))
 (S 6 (aD.b r2 (aD.i r9 (aD.v fQ (aD.v fD (aD.i fM aD.n)))))))
 (S 6 (aD.b r2 (aD.i r9 (aD.v fQ (aD.v fD (aD.i fM aD.n))))))
noncomputable def WM (h : Hp) (S : Nat → aD → Option Value) (r2 : Bool) (r9 : Int) (fQ : Value) (fD : Value) (fM : Int) : Option Value :=
 dK fD fun i0 =>
 bX (nG r9 i0) fun b1 =>
 dF b1
 (dF r2
 (dS 1 fD r9 fun v2 =>
 aK h v2 fun v3 =>
 aX .i64 v3 fun i4 =>
 bX (lW i4 (Int.negSucc 0)) fun b5 =>
 S 5 (aD.b r2 (aD.i r9 (aD.b b5 (aD.v fQ (aD.v fD (aD.i fM aD.n)))))))
 (S 5 (aD.b r2 (aD.i r9 (aD.b false (aD.v fQ (aD.v fD (aD.i fM aD.n))))))))
 (S 7 (aD.v fQ (aD.v fD (aD.i fM aD.n))))
noncomputable def aB9 (h : Hp) (S : Nat → aD → Option Value) (r2 : Bool) (fQ : Value) (fD : Value) (fM : Int) : Option Value :=
 S 4 (aD.b r2 (aD.i (Int.ofNat 1) (aD.v fQ (aD.v fD (aD.i fM aD.n)))))
noncomputable def WL (h : Hp) (S : Nat → aD → Option Value) (r2 : Bool) (r7 : Int) (jM : Value) (jK : Value) (jN : Value) (jO : Value) (fQ : Value) (fD : Value) (fM : Int) : Option Value :=
 wrap64 (Int.add r7 (Int.ofNat 1)) fun i0 =>
 S 1 (aD.b r2 (aD.i i0 (aD.v jM (aD.v jK (aD.v jN (aD.v jO (aD.v fQ (aD.v fD (aD.i fM aD.n)))))))))
noncomputable def WK (h : Hp) (S : Nat → aD → Option Value) (r2 : Bool) (r7 : Int) (r8 : Bool) (jM : Value) (jK : Value) (jN : Value) (jO : Value) (fQ : Value) (fD : Value) (fM : Int) : Option Value :=
 bX (lW r7 (Int.ofNat 0)) fun b0 =>
 dF b0
 (bU r8 fun b1 =>
 dF b1
 (dS 1 fD r7 fun v2 =>
 aK h v2 fun v3 =>
 aX .i64 v3 fun i4 =>
 dK jK fun i5 =>
 wrap64 (Int.sub i5 (Int.ofNat 1)) fun i6 =>
 cO (F55 [(Value.int .i64 i4), (Value.int .i64 (Int.ofNat 0)), (Value.int .i64 i6)] h) fun v7 =>
 eO v7 fun b8 =>
 bU b8 fun b9 =>
 dF b9
 (some (Value.int .i64 (Int.ofNat 4)))
 (S 3 (aD.b r2 (aD.i r7 (aD.v jM (aD.v jK (aD.v jN (aD.v jO (aD.v fQ (aD.v fD (aD.i fM aD.n)))))))))))
 (S 3 (aD.b r2 (aD.i r7 (aD.v jM (aD.v jK (aD.v jN (aD.v jO (aD.v fQ (aD.v fD (aD.i fM aD.n)))))))))))
 (S 3 (aD.b r2 (aD.i r7 (aD.v jM (aD.v jK (aD.v jN (aD.v jO (aD.v fQ (aD.v fD (aD.i fM aD.n))))))))))
noncomputable def WJ (h : Hp) (S : Nat → aD → Option Value) (r2 : Bool) (r7 : Int) (jM : Value) (jK : Value) (jN : Value) (jO : Value) (fQ : Value) (fD : Value) (fM : Int) : Option Value :=
 dK fD fun i0 =>
 bX (nG r7 i0) fun b1 =>
 dF b1
 (dF r2
 (dS 1 fD r7 fun v2 =>
 aK h v2 fun v3 =>
 aX .i64 v3 fun i4 =>
 bX (lW i4 (Int.negSucc 0)) fun b5 =>
 S 2 (aD.b r2 (aD.i r7 (aD.b b5 (aD.v jM (aD.v jK (aD.v jN (aD.v jO (aD.v fQ (aD.v fD (aD.i fM aD.n)))))))))))
 (S 2 (aD.b r2 (aD.i r7 (aD.b false (aD.v jM (aD.v jK (aD.v jN (aD.v jO (aD.v fQ (aD.v fD (aD.i fM aD.n))))))))))))
 (S 8 (aD.b r2 (aD.v fQ (aD.v fD (aD.i fM aD.n)))))
noncomputable def aCE (h : Hp) (S : Nat → aD → Option Value) (r0 : Value) (r1 : Value) (r2 : Bool) : Option Value :=
 oP (Array.toList (Value.cells r0)) fun c0 =>
 oP (Array.toList (Value.cells r1)) fun c1 =>
 BG c1 1 fun v2 =>
 dK v2 fun i3 =>
 BG c0 0 fun v4 =>
 dK v4 fun i5 =>
 bU (lW i3 i5) fun b6 =>
 dF b6
 (some (Value.int .i64 (Int.ofNat 3)))
 (lG c0 fun a7 c7 =>
 lG c7 fun a8 c8 =>
 lG c8 fun a9 c9 =>
 lG c9 fun a10 c10 =>
 aII c10 (lG c1 fun a11 c11 =>
 lG c11 fun a12 c12 =>
 lG c12 fun a13 c13 =>
 aX .i64 a13 fun i14 =>
 aII c13 (S 1 (aD.b r2 (aD.i (Int.ofNat 0) (aD.v a7 (aD.v a8 (aD.v a9 (aD.v a10 (aD.v a11 (aD.v a12 (aD.i i14 aD.n))))))))))))
noncomputable def BS (h : Hp) (S : Nat → aD → Option Value) : Nat → aD → Option Value := eP 0 (wV fun r0 => wV fun r1 => wB fun r2 => wN (aCE h S r0 r1 r2)) (eP 1 (wB fun r2 => wI fun r7 => wV fun jM => wV fun jK => wV fun jN => wV fun jO => wV fun fQ => wV fun fD => wI fun fM => wN (WJ h S r2 r7 jM jK jN jO fQ fD fM)) (eP 2 (wB fun r2 => wI fun r7 => wB fun r8 => wV fun jM => wV fun jK => wV fun jN => wV fun jO => wV fun fQ => wV fun fD => wI fun fM => wN (WK h S r2 r7 r8 jM jK jN jO fQ fD fM)) (eP 3 (wB fun r2 => wI fun r7 => wV fun jM => wV fun jK => wV fun jN => wV fun jO => wV fun fQ => wV fun fD => wI fun fM => wN (WL h S r2 r7 jM jK jN jO fQ fD fM)) (eP 8 (wB fun r2 => wV fun fQ => wV fun fD => wI fun fM => wN (aB9 h S r2 fQ fD fM)) (eP 4 (wB fun r2 => wI fun r9 => wV fun fQ => wV fun fD => wI fun fM => wN (WM h S r2 r9 fQ fD fM)) (eP 5 (wB fun r2 => wI fun r9 => wB fun dR => wV fun fQ => wV fun fD => wI fun fM => wN (aCA h S r2 r9 dR fQ fD fM)) (eP 6 (wB fun r2 => wI fun r9 => wV fun fQ => wV fun fD => wI fun fM => wN (aCB h S r2 r9 fQ fD fM)) (eP 7 (wV fun fQ => wV fun fD => wI fun fM => wN (aCC h S fQ fD fM)) (lY)))))))))
noncomputable def F89 (args : List Value) (h : Hp) : Option Value := plainO (eT [Kd.v, Kd.v, Kd.b] args fun al => G.aP (BS h) 1000000 0 al)
def OJ : Nat := 3 + (84 - 3)
theorem a2P (h : Hp) (S : Nat → aD → Option Value) (fQ : Value) (fD : Value) (fM : Int) : aCC h S fQ fD fM = G.aF bR aQ fC (fF env IL OJ h) (fH env Try.f89.results.toList) (G.collect B89 A89 []) 7 S (aD.v fQ (aD.v fD (aD.i fM aD.n))) := by kernel_rfl
theorem a2Q (h : Hp) (S : Nat → aD → Option Value) (r2 : Bool) (r9 : Int) (fQ : Value) (fD : Value) (fM : Int) : aCB h S r2 r9 fQ fD fM = G.aF bR aQ fC (fF env IL OJ h) (fH env Try.f89.results.toList) (G.collect B89 A89 []) 6 S (aD.b r2 (aD.i r9 (aD.v fQ (aD.v fD (aD.i fM aD.n))))) := by kernel_rfl
theorem a2R (h : Hp) (S : Nat → aD → Option Value) (r2 : Bool) (r9 : Int) (dR : Bool) (fQ : Value) (fD : Value) (fM : Int) : aCA h S r2 r9 dR fQ fD fM = G.aF bR aQ fC (fF env IL OJ h) (fH env Try.f89.results.toList) (G.collect B89 A89 []) 5 S (aD.b r2 (aD.i r9 (aD.b dR (aD.v fQ (aD.v fD (aD.i fM aD.n)))))) := by kernel_rfl
theorem a2S (h : Hp) (S : Nat → aD → Option Value) (r2 : Bool) (r9 : Int) (fQ : Value) (fD : Value) (fM : Int) : WM h S r2 r9 fQ fD fM = G.aF bR aQ fC (fF env IL OJ h) (fH env Try.f89.results.toList) (G.collect B89 A89 []) 4 S (aD.b r2 (aD.i r9 (aD.v fQ (aD.v fD (aD.i fM aD.n))))) := by kernel_rfl
theorem a2T (h : Hp) (S : Nat → aD → Option Value) (r2 : Bool) (fQ : Value) (fD : Value) (fM : Int) : aB9 h S r2 fQ fD fM = G.aF bR aQ fC (fF env IL OJ h) (fH env Try.f89.results.toList) (G.collect B89 A89 []) 8 S (aD.b r2 (aD.v fQ (aD.v fD (aD.i fM aD.n)))) := by kernel_rfl
theorem a2U (h : Hp) (S : Nat → aD → Option Value) (r2 : Bool) (r7 : Int) (jM : Value) (jK : Value) (jN : Value) (jO : Value) (fQ : Value) (fD : Value) (fM : Int) : WL h S r2 r7 jM jK jN jO fQ fD fM = G.aF bR aQ fC (fF env IL OJ h) (fH env Try.f89.results.toList) (G.collect B89 A89 []) 3 S (aD.b r2 (aD.i r7 (aD.v jM (aD.v jK (aD.v jN (aD.v jO (aD.v fQ (aD.v fD (aD.i fM aD.n))))))))) := by kernel_rfl
theorem a2V (h : Hp) (S : Nat → aD → Option Value) (r2 : Bool) (r7 : Int) (r8 : Bool) (jM : Value) (jK : Value) (jN : Value) (jO : Value) (fQ : Value) (fD : Value) (fM : Int) : WK h S r2 r7 r8 jM jK jN jO fQ fD fM = G.aF bR aQ fC (fF env IL OJ h) (fH env Try.f89.results.toList) (G.collect B89 A89 []) 2 S (aD.b r2 (aD.i r7 (aD.b r8 (aD.v jM (aD.v jK (aD.v jN (aD.v jO (aD.v fQ (aD.v fD (aD.i fM aD.n)))))))))) := by kernel_rfl
theorem a2W (h : Hp) (S : Nat → aD → Option Value) (r2 : Bool) (r7 : Int) (jM : Value) (jK : Value) (jN : Value) (jO : Value) (fQ : Value) (fD : Value) (fM : Int) : WJ h S r2 r7 jM jK jN jO fQ fD fM = G.aF bR aQ fC (fF env IL OJ h) (fH env Try.f89.results.toList) (G.collect B89 A89 []) 1 S (aD.b r2 (aD.i r7 (aD.v jM (aD.v jK (aD.v jN (aD.v jO (aD.v fQ (aD.v fD (aD.i fM aD.n))))))))) := by kernel_rfl
theorem a2X (h : Hp) (S : Nat → aD → Option Value) (r0 : Value) (r1 : Value) (r2 : Bool) : aCE h S r0 r1 r2 = G.aF bR aQ fC (fF env IL OJ h) (fH env Try.f89.results.toList) (G.collect B89 A89 []) 0 S (aD.v r0 (aD.v r1 (aD.b r2 aD.n))) := by kernel_rfl
theorem t89 (h : Hp) (S : Nat → aD → Option Value) : dG (fun l al => G.aF bR aQ fC (fF env IL OJ h) (fH env Try.f89.results.toList) (G.collect B89 A89 []) l S al) (BS h S) := by
 unfold BS
 refine dG.cons 0 (fun fJ q e0 => ?_) ?_
 ·obtain ⟨r0, vs1, rfl, e1⟩ := bA e0
  obtain ⟨r1, vs2, rfl, e2⟩ := bA e1
  obtain ⟨r2, vs3, rfl, e3⟩ := lX e2
  obtain ⟨rfl, ee⟩ := bQ e3
  exact (a2X h S r0 r1 r2).symm.trans ee
 refine dG.cons 1 (fun fJ q e0 => ?_) ?_
 ·obtain ⟨r2, vs1, rfl, e1⟩ := lX e0
  obtain ⟨r7, vs2, rfl, e2⟩ := aV e1
  obtain ⟨jM, vs3, rfl, e3⟩ := bA e2
  obtain ⟨jK, pF, rfl, e4⟩ := bA e3
  obtain ⟨jN, zS, rfl, e5⟩ := bA e4
  obtain ⟨jO, UG, rfl, e6⟩ := bA e5
  obtain ⟨fQ, vs7, rfl, e7⟩ := bA e6
  obtain ⟨fD, vs8, rfl, e8⟩ := bA e7
  obtain ⟨fM, vs9, rfl, e9⟩ := aV e8
  obtain ⟨rfl, ee⟩ := bQ e9
  exact (a2W h S r2 r7 jM jK jN jO fQ fD fM).symm.trans ee
 refine dG.cons 2 (fun fJ q e0 => ?_) ?_
 ·obtain ⟨r2, vs1, rfl, e1⟩ := lX e0
  obtain ⟨r7, vs2, rfl, e2⟩ := aV e1
  obtain ⟨r8, vs3, rfl, e3⟩ := lX e2
  obtain ⟨jM, pF, rfl, e4⟩ := bA e3
  obtain ⟨jK, zS, rfl, e5⟩ := bA e4
  obtain ⟨jN, UG, rfl, e6⟩ := bA e5
  obtain ⟨jO, vs7, rfl, e7⟩ := bA e6
  obtain ⟨fQ, vs8, rfl, e8⟩ := bA e7
  obtain ⟨fD, vs9, rfl, e9⟩ := bA e8
  obtain ⟨fM, a0I, rfl, e10⟩ := aV e9
  obtain ⟨rfl, ee⟩ := bQ e10
  exact (a2V h S r2 r7 r8 jM jK jN jO fQ fD fM).symm.trans ee
 refine dG.cons 3 (fun fJ q e0 => ?_) ?_
 ·obtain ⟨r2, vs1, rfl, e1⟩ := lX e0
  obtain ⟨r7, vs2, rfl, e2⟩ := aV e1
  obtain ⟨jM, vs3, rfl, e3⟩ := bA e2
  obtain ⟨jK, pF, rfl, e4⟩ := bA e3
  obtain ⟨jN, zS, rfl, e5⟩ := bA e4
  obtain ⟨jO, UG, rfl, e6⟩ := bA e5
  obtain ⟨fQ, vs7, rfl, e7⟩ := bA e6
  obtain ⟨fD, vs8, rfl, e8⟩ := bA e7
  obtain ⟨fM, vs9, rfl, e9⟩ := aV e8
  obtain ⟨rfl, ee⟩ := bQ e9
  exact (a2U h S r2 r7 jM jK jN jO fQ fD fM).symm.trans ee
 refine dG.cons 8 (fun fJ q e0 => ?_) ?_
 ·obtain ⟨r2, vs1, rfl, e1⟩ := lX e0
  obtain ⟨fQ, vs2, rfl, e2⟩ := bA e1
  obtain ⟨fD, vs3, rfl, e3⟩ := bA e2
  obtain ⟨fM, pF, rfl, e4⟩ := aV e3
  obtain ⟨rfl, ee⟩ := bQ e4
  exact (a2T h S r2 fQ fD fM).symm.trans ee
 refine dG.cons 4 (fun fJ q e0 => ?_) ?_
 ·obtain ⟨r2, vs1, rfl, e1⟩ := lX e0
  obtain ⟨r9, vs2, rfl, e2⟩ := aV e1
  obtain ⟨fQ, vs3, rfl, e3⟩ := bA e2
  obtain ⟨fD, pF, rfl, e4⟩ := bA e3
  obtain ⟨fM, zS, rfl, e5⟩ := aV e4
  obtain ⟨rfl, ee⟩ := bQ e5
  exact (a2S h S r2 r9 fQ fD fM).symm.trans ee
 refine dG.cons 5 (fun fJ q e0 => ?_) ?_
 ·obtain ⟨r2, vs1, rfl, e1⟩ := lX e0
  obtain ⟨r9, vs2, rfl, e2⟩ := aV e1
  obtain ⟨dR, vs3, rfl, e3⟩ := lX e2
  obtain ⟨fQ, pF, rfl, e4⟩ := bA e3
  obtain ⟨fD, zS, rfl, e5⟩ := bA e4
  obtain ⟨fM, UG, rfl, e6⟩ := aV e5
  obtain ⟨rfl, ee⟩ := bQ e6
  exact (a2R h S r2 r9 dR fQ fD fM).symm.trans ee
 refine dG.cons 6 (fun fJ q e0 => ?_) ?_
 ·obtain ⟨r2, vs1, rfl, e1⟩ := lX e0
  obtain ⟨r9, vs2, rfl, e2⟩ := aV e1
  obtain ⟨fQ, vs3, rfl, e3⟩ := bA e2
  obtain ⟨fD, pF, rfl, e4⟩ := bA e3
  obtain ⟨fM, zS, rfl, e5⟩ := aV e4
  obtain ⟨rfl, ee⟩ := bQ e5
  exact (a2Q h S r2 r9 fQ fD fM).symm.trans ee
 refine dG.cons 7 (fun fJ q e0 => ?_) ?_
 ·obtain ⟨fQ, vs1, rfl, e1⟩ := bA e0
  obtain ⟨fD, vs2, rfl, e2⟩ := bA e1
  obtain ⟨fM, vs3, rfl, e3⟩ := aV e2
  obtain ⟨rfl, ee⟩ := bQ e3
  exact (a2P h S fQ fD fM).symm.trans ee
 exact dG.nil
theorem r89 : PSound Try.prog 89 F89 := dY (C := C0) ok0 (pf := IL) aLD (fn := Try.f89) (body := B89) (kinds := [Kd.v, Kd.v, Kd.b]) (A := A89) (T := BS) (by kernel_rfl) (by kernel_rfl) (by kernel_rfl) (by kernel_rfl) (fun h S => t89 h S)
noncomputable def XW : PF := JF 89 F89 IL
theorem aLG : fT Try.prog XW := jJ r89 aLD
noncomputable def JY := o8 89 F89 aQL
noncomputable def C46 : dM := cfg JY
theorem bFM : C46.Ok := gP (C := C45) bFL r89
noncomputable def B51 : Code := (Try.f51.body).getD .skip
def A51 : aB := (aB.node (some (0, [(0, Kd.v), (1, Kd.v), (2, Kd.i .i64), (3, Kd.b)])) aB.nil (aB.node none (aB.node none aB.nil (aB.node none (aB.node none aB.nil aB.nil) aB.nil)) (aB.node none aB.nil (aB.node none (aB.node none aB.nil (aB.node none (aB.node (some (1, [(1, Kd.v), (3, Kd.b), (4, Kd.v), (10, Kd.v), (11, Kd.i .i64)])) (aB.node none (aB.node none aB.nil (aB.node none aB.nil aB.nil)) (aB.node none (aB.node none (aB.node none aB.nil (aB.node none (aB.node none aB.nil (aB.node none aB.nil aB.nil)) (aB.node (some (2, [(1, Kd.v), (3, Kd.b), (4, Kd.v), (10, Kd.v), (11, Kd.i .i64), (12, Kd.i .i64)])) (aB.node none aB.nil (aB.node none (aB.node none aB.nil aB.nil) aB.nil)) aB.nil))) aB.nil) (aB.node (some (3, [(1, Kd.v), (3, Kd.b), (4, Kd.v), (10, Kd.v), (11, Kd.i .i64)])) aB.nil aB.nil))) aB.nil) aB.nil)) (aB.node (some (4, [])) aB.nil aB.nil)))))
noncomputable def aQM (S : Sg) (h : Hp) : aW :=
 some (Value.tuple (List.toArray [(Value.int .i64 (Int.ofNat 0)), (Value.int .i64 (Int.ofNat 0))]), h)
noncomputable def aCH (S : Sg) (r1 : Value) (r3 : Bool) (r4 : Value) (dR : Value) (gQ : Int) (h : Hp) : aW :=
 wrap64 (Int.add gQ (Int.ofNat 1)) fun i0 =>
 S 1 (AL.v r1 (AL.b r3 (AL.v r4 (AL.v dR (AL.i i0 AL.n))))) h
noncomputable def aCG (S : Sg) (r1 : Value) (r3 : Bool) (r4 : Value) (dR : Value) (gQ : Int) (kT : Int) (h : Hp) : aW :=
 bU (lW kT (Int.ofNat 0)) fun b0 =>
 dF b0
 (some (Value.tuple (List.toArray [(Value.int .i64 gQ), (Value.int .i64 kT)]), h))
 (dS 3 r1 gQ fun v1 =>
 aT 0 v1 fun v2 =>
 aK h v2 fun v3 =>
 aS (bO env h 120 1 (List.toArray [(0, v3)])) fun v4 h4 =>
 aS (eX env h4 #[120, 120] (List.toArray [dR, v4])) fun v5 h5 =>
 S 3 (AL.v r1 (AL.b r3 (AL.v r4 (AL.v v5 (AL.i gQ AL.n))))) h5)
noncomputable def WN (S : Sg) (r1 : Value) (r3 : Bool) (r4 : Value) (dR : Value) (gQ : Int) (h : Hp) : aW :=
 dK r1 fun i0 =>
 bX (nG gQ i0) fun b1 =>
 dF b1
 (dS 3 r1 gQ fun v2 =>
 aT 0 v2 fun v3 =>
 aK h v3 fun v4 =>
 aS (cO (F88 [v4, dR] h) fun v => some (v, h)) fun v5 h5 =>
 aX .i64 v5 fun i6 =>
 bX (lW i6 (Int.ofNat 0)) fun b7 =>
 dF b7
 (aY 4 h5 r4 fun v8 =>
 dS 3 r1 gQ fun v9 =>
 aY 3 h5 v9 fun v10 =>
 aS (cO (F89 [v8, v10, (Value.bool r3)] h5) fun v => some (v, h5)) fun v11 h11 =>
 aX .i64 v11 fun i12 =>
 S 2 (AL.v r1 (AL.b r3 (AL.v r4 (AL.v dR (AL.i gQ (AL.i i12 AL.n)))))) h11)
 (S 2 (AL.v r1 (AL.b r3 (AL.v r4 (AL.v dR (AL.i gQ (AL.i i6 AL.n)))))) h5))
 (S 4 AL.n h)
noncomputable def aCI (S : Sg) (r0 : Value) (r1 : Value) (r2 : Int) (r3 : Bool) (h : Hp) : aW :=
 bS h 25 (Array.toList (Value.cells r0)) fun a0 h0 =>
 dK r1 fun i1 =>
 bX (nG r2 i1) fun b2 =>
 dF b2
 (some (Value.tuple (List.toArray [(Value.int .i64 (Int.ofNat 0)), (Value.int .i64 (Int.ofNat 3))]), h0))
 (S 1 (AL.v r1 (AL.b r3 (AL.v a0 (AL.v (Value.slice none 0 0) (AL.i (Int.ofNat 0) AL.n))))) h0)
noncomputable def T51 (S : Sg) : Sg := dJ 0 (uV fun r0 => uV fun r1 => uI fun r2 => uB fun r3 => uN fun h => aCI S r0 r1 r2 r3 h) (dJ 1 (uV fun r1 => uB fun r3 => uV fun r4 => uV fun dR => uI fun gQ => uN fun h => WN S r1 r3 r4 dR gQ h) (dJ 2 (uV fun r1 => uB fun r3 => uV fun r4 => uV fun dR => uI fun gQ => uI fun kT => uN fun h => aCG S r1 r3 r4 dR gQ kT h) (dJ 3 (uV fun r1 => uB fun r3 => uV fun r4 => uV fun dR => uI fun gQ => uN fun h => aCH S r1 r3 r4 dR gQ h) (dJ 4 (uN fun h => aQM S  h) (kP)))))
noncomputable def F51 (args : List Value) (h : Hp) : aW := bP [Kd.v, Kd.v, Kd.i .i64, Kd.b] args fun al => aP T51 1000000 0 al h
def aGH : Nat := 4 + (51 - 4)
theorem a2Y (S : Sg) (h : Hp) : aQM S  h = aF (bK env JY (aGH)) (bM env Try.f51.results.toList) (collect B51 A51 []) 4 S AL.n h := by kernel_rfl
theorem a2Z (S : Sg) (r1 : Value) (r3 : Bool) (r4 : Value) (dR : Value) (gQ : Int) (h : Hp) : aCH S r1 r3 r4 dR gQ h = aF (bK env JY (aGH)) (bM env Try.f51.results.toList) (collect B51 A51 []) 3 S (AL.v r1 (AL.b r3 (AL.v r4 (AL.v dR (AL.i gQ AL.n))))) h := by kernel_rfl
theorem a3A (S : Sg) (r1 : Value) (r3 : Bool) (r4 : Value) (dR : Value) (gQ : Int) (kT : Int) (h : Hp) : aCG S r1 r3 r4 dR gQ kT h = aF (bK env JY (aGH)) (bM env Try.f51.results.toList) (collect B51 A51 []) 2 S (AL.v r1 (AL.b r3 (AL.v r4 (AL.v dR (AL.i gQ (AL.i kT AL.n)))))) h := by kernel_rfl
theorem a3B (S : Sg) (r1 : Value) (r3 : Bool) (r4 : Value) (dR : Value) (gQ : Int) (h : Hp) : WN S r1 r3 r4 dR gQ h = aF (bK env JY (aGH)) (bM env Try.f51.results.toList) (collect B51 A51 []) 1 S (AL.v r1 (AL.b r3 (AL.v r4 (AL.v dR (AL.i gQ AL.n))))) h := by kernel_rfl
theorem a3C (S : Sg) (r0 : Value) (r1 : Value) (r2 : Int) (r3 : Bool) (h : Hp) : aCI S r0 r1 r2 r3 h = aF (bK env JY (aGH)) (bM env Try.f51.results.toList) (collect B51 A51 []) 0 S (AL.v r0 (AL.v r1 (AL.i r2 (AL.b r3 AL.n)))) h := by kernel_rfl
theorem t51 (S : Sg) : dW (fun l vs h => aF (bK env JY aGH) (bM env Try.f51.results.toList) (collect B51 A51 []) l S vs h) (T51 S) := by
 unfold T51
 refine dW.cons 0 (fun fJ h q e0 => ?_) ?_
 ·obtain ⟨r0, vs1, rfl, e1⟩ := aC e0
  obtain ⟨r1, vs2, rfl, e2⟩ := aC e1
  obtain ⟨r2, vs3, rfl, e3⟩ := aM e2
  obtain ⟨r3, pF, rfl, e4⟩ := FE e3
  obtain ⟨rfl, ee⟩ := aN e4
  exact (a3C S r0 r1 r2 r3 h).symm.trans ee
 refine dW.cons 1 (fun fJ h q e0 => ?_) ?_
 ·obtain ⟨r1, vs1, rfl, e1⟩ := aC e0
  obtain ⟨r3, vs2, rfl, e2⟩ := FE e1
  obtain ⟨r4, vs3, rfl, e3⟩ := aC e2
  obtain ⟨dR, pF, rfl, e4⟩ := aC e3
  obtain ⟨gQ, zS, rfl, e5⟩ := aM e4
  obtain ⟨rfl, ee⟩ := aN e5
  exact (a3B S r1 r3 r4 dR gQ h).symm.trans ee
 refine dW.cons 2 (fun fJ h q e0 => ?_) ?_
 ·obtain ⟨r1, vs1, rfl, e1⟩ := aC e0
  obtain ⟨r3, vs2, rfl, e2⟩ := FE e1
  obtain ⟨r4, vs3, rfl, e3⟩ := aC e2
  obtain ⟨dR, pF, rfl, e4⟩ := aC e3
  obtain ⟨gQ, zS, rfl, e5⟩ := aM e4
  obtain ⟨kT, UG, rfl, e6⟩ := aM e5
  obtain ⟨rfl, ee⟩ := aN e6
  exact (a3A S r1 r3 r4 dR gQ kT h).symm.trans ee
 refine dW.cons 3 (fun fJ h q e0 => ?_) ?_
 ·obtain ⟨r1, vs1, rfl, e1⟩ := aC e0
  obtain ⟨r3, vs2, rfl, e2⟩ := FE e1
  obtain ⟨r4, vs3, rfl, e3⟩ := aC e2
  obtain ⟨dR, pF, rfl, e4⟩ := aC e3
  obtain ⟨gQ, zS, rfl, e5⟩ := aM e4
  obtain ⟨rfl, ee⟩ := aN e5
  exact (a2Z S r1 r3 r4 dR gQ h).symm.trans ee
 refine dW.cons 4 (fun fJ h q e0 => ?_) ?_
 ·
  obtain ⟨rfl, ee⟩ := aN e0
  exact (a2Y S  h).symm.trans ee
 exact dW.nil
theorem r51 : ∀ args h v h', F51 args h = some (v, h') → gW (C46) (.call 51 args.toArray h) (.ret v h') := by
 intro args h v h' e
 exact bJ (C := C46) (fn := Try.f51) (body := B51) (np := 4) (A := A51) (T := T51) (kinds := [Kd.v, Kd.v, Kd.i .i64, Kd.b]) (by kernel_rfl) (by kernel_rfl) (by kernel_rfl) (by kernel_rfl) (dH eF) (by kernel_rfl) (fun S => t51 S) e
noncomputable def aEB := kH 51 F51 JY
noncomputable def C47 : dM := cfg aEB
theorem bFN : C47.Ok := dI (C := C46) bFM r51
noncomputable def B17 : Code := (Try.f17.body).getD .skip
def A17 : aB := (aB.node (some (0, [(0, Kd.v)])) aB.nil (aB.node none aB.nil (aB.node none (aB.node none aB.nil (aB.node none (aB.node none aB.nil aB.nil) aB.nil)) (aB.node none aB.nil (aB.node none (aB.node none aB.nil (aB.node none (aB.node none aB.nil aB.nil) aB.nil)) (aB.node none aB.nil (aB.node none (aB.node none aB.nil (aB.node none (aB.node none aB.nil aB.nil) aB.nil)) (aB.node none aB.nil (aB.node none (aB.node none aB.nil (aB.node none (aB.node none aB.nil aB.nil) aB.nil)) (aB.node none aB.nil aB.nil))))))))))
noncomputable def aCJ (S : Sg) (r0 : Value) (h : Hp) : aW :=
 bS h 25 (Array.toList (Value.cells r0)) fun a0 h0 =>
 aT 0 a0 fun v1 =>
 aK h0 v1 fun v2 =>
 aS (cO (F50 [v2, (Value.int .i64 (Int.ofNat 4)), (Value.int .i64 (Int.ofNat 100))] h0) fun v => some (v, h0)) fun v3 h3 =>
 fK v3 0 fun v4 =>
 aX .i64 v4 fun i5 =>
 fK v3 1 fun v6 =>
 aX .i64 v6 fun i7 =>
 bU (lW i7 (Int.ofNat 0)) fun b8 =>
 dF b8
 (some (Value.tuple (List.toArray [(Value.int .i64 (Int.ofNat 1)), (Value.int .i64 i5), (Value.int .i64 i7)]), h3))
 (aT 1 a0 fun v9 =>
 aK h3 v9 fun v10 =>
 aS (cO (F50 [v10, (Value.int .i64 (Int.ofNat 4)), (Value.int .i64 (Int.ofNat 50))] h3) fun v => some (v, h3)) fun v11 h11 =>
 fK v11 0 fun v12 =>
 aX .i64 v12 fun i13 =>
 fK v11 1 fun v14 =>
 aX .i64 v14 fun i15 =>
 bU (lW i15 (Int.ofNat 0)) fun b16 =>
 dF b16
 (some (Value.tuple (List.toArray [(Value.int .i64 (Int.ofNat 2)), (Value.int .i64 i13), (Value.int .i64 i15)]), h11))
 (aY 4 h11 a0 fun v17 =>
 aT 2 a0 fun v18 =>
 aK h11 v18 fun v19 =>
 aS (dV F51 [v17, v19, (Value.int .i64 (Int.ofNat 6)), (Value.bool false)] h11) fun v20 h20 =>
 fK v20 0 fun v21 =>
 aX .i64 v21 fun i22 =>
 fK v20 1 fun v23 =>
 aX .i64 v23 fun i24 =>
 bU (lW i24 (Int.ofNat 0)) fun b25 =>
 dF b25
 (some (Value.tuple (List.toArray [(Value.int .i64 (Int.ofNat 3)), (Value.int .i64 i22), (Value.int .i64 i24)]), h20))
 (aY 4 h20 a0 fun v26 =>
 aT 3 a0 fun v27 =>
 aK h20 v27 fun v28 =>
 aS (dV F51 [v26, v28, (Value.int .i64 (Int.ofNat 5)), (Value.bool true)] h20) fun v29 h29 =>
 fK v29 0 fun v30 =>
 aX .i64 v30 fun i31 =>
 fK v29 1 fun v32 =>
 aX .i64 v32 fun i33 =>
 bU (lW i33 (Int.ofNat 0)) fun b34 =>
 dF b34
 (some (Value.tuple (List.toArray [(Value.int .i64 (Int.ofNat 4)), (Value.int .i64 i31), (Value.int .i64 i33)]), h29))
 (some (Value.tuple (List.toArray [(Value.int .i64 (Int.ofNat 0)), (Value.int .i64 (Int.ofNat 0)), (Value.int .i64 (Int.ofNat 0))]), h29)))))
noncomputable def T17 (S : Sg) : Sg := dJ 0 (uV fun r0 => uN fun h => aCJ S r0 h) (kP)
noncomputable def F17 (args : List Value) (h : Hp) : aW := bP [Kd.v] args fun al => aP T17 1000000 0 al h
def a3D : Nat := 1 + (49 - 1)
theorem a3E (S : Sg) (r0 : Value) (h : Hp) : aCJ S r0 h = aF (bK env aEB (a3D)) (bM env Try.f17.results.toList) (collect B17 A17 []) 0 S (AL.v r0 AL.n) h := by kernel_rfl
theorem t17 (S : Sg) : dW (fun l vs h => aF (bK env aEB a3D) (bM env Try.f17.results.toList) (collect B17 A17 []) l S vs h) (T17 S) := by
 unfold T17
 refine dW.cons 0 (fun fJ h q e0 => ?_) ?_
 ·obtain ⟨r0, vs1, rfl, e1⟩ := aC e0
  obtain ⟨rfl, ee⟩ := aN e1
  exact (a3E S r0 h).symm.trans ee
 exact dW.nil
theorem FR : ∀ args h v h', F17 args h = some (v, h') → gW (C47) (.call 17 args.toArray h) (.ret v h') := by
 intro args h v h' e
 exact bJ (C := C47) (fn := Try.f17) (body := B17) (np := 1) (A := A17) (T := T17) (kinds := [Kd.v]) (by kernel_rfl) (by kernel_rfl) (by kernel_rfl) (by kernel_rfl) (dH eF) (by kernel_rfl) (fun S => t17 S) e
noncomputable def QY := kH 17 F17 aEB
noncomputable def C48 : dM := cfg QY
theorem bFQ : C48.Ok := dI (C := C47) bFN FR
noncomputable def B57 : Code := (Try.f57.body).getD .skip
def A57 : aB := (aB.node (some (0, [(0, Kd.v), (1, Kd.v)])) aB.nil (aB.node none aB.nil (aB.node none (aB.node none aB.nil (aB.node none (aB.node (some (1, [(2, Kd.v), (3, Kd.v), (5, Kd.v), (6, Kd.i .i64)])) (aB.node none (aB.node none aB.nil (aB.node none aB.nil aB.nil)) (aB.node none (aB.node none (aB.node none aB.nil (aB.node none aB.nil aB.nil)) aB.nil) aB.nil)) aB.nil) aB.nil)) (aB.node (some (2, [(5, Kd.v)])) aB.nil aB.nil))))
noncomputable def aQN (S : Sg) (r5 : Value) (h : Hp) : aW :=
 some (r5, h)
noncomputable def aQO (S : Sg) (r2 : Value) (r3 : Value) (r5 : Value) (r6 : Int) (h : Hp) : aW :=
 aT 1 r2 fun v0 =>
 aK h v0 fun v1 =>
 dK v1 fun i2 =>
 bX (nG r6 i2) fun b3 =>
 dF b3
 (aT 1 r3 fun v4 =>
 aK h v4 fun v5 =>
 dS 1 v5 r6 fun v6 =>
 aK h v6 fun v7 =>
 aX .i64 v7 fun i8 =>
 bU (lW i8 (Int.negSucc 0)) fun b9 =>
 dF b9
 (aT 1 r3 fun v10 =>
 aK h v10 fun v11 =>
 dS 1 v11 r6 fun v12 =>
 aK h v12 fun v13 =>
 aX .i64 v13 fun i14 =>
 aT 1 r2 fun v15 =>
 aK h v15 fun v16 =>
 dS 1 v16 r6 fun v17 =>
 aK h v17 fun v18 =>
 aX .i64 v18 fun i19 =>
 bU (lW i14 i19) fun b20 =>
 dF b20
 (aS (bO env h 22 1 (List.toArray [(0, (Value.int .i64 r6))])) fun v21 h21 =>
 aS (eX env h21 #[22, 22] (List.toArray [r5, v21])) fun v22 h22 =>
 wrap64 (Int.add r6 (Int.ofNat 1)) fun i23 =>
 S 1 (AL.v r2 (AL.v r3 (AL.v v22 (AL.i i23 AL.n)))) h22)
 (wrap64 (Int.add r6 (Int.ofNat 1)) fun i24 =>
 S 1 (AL.v r2 (AL.v r3 (AL.v r5 (AL.i i24 AL.n)))) h))
 (wrap64 (Int.add r6 (Int.ofNat 1)) fun i25 =>
 S 1 (AL.v r2 (AL.v r3 (AL.v r5 (AL.i i25 AL.n)))) h))
 (S 2 (AL.v r5 AL.n) h)
noncomputable def aQP (S : Sg) (r0 : Value) (r1 : Value) (h : Hp) : aW :=
 bS h 59 (Array.toList (Value.cells r0)) fun a0 h0 =>
 bS h0 59 (Array.toList (Value.cells r1)) fun a1 h1 =>
 S 1 (AL.v a0 (AL.v a1 (AL.v (Value.slice none 0 0) (AL.i (Int.ofNat 0) AL.n)))) h1
noncomputable def T57 (S : Sg) : Sg := dJ 0 (uV fun r0 => uV fun r1 => uN fun h => aQP S r0 r1 h) (dJ 1 (uV fun r2 => uV fun r3 => uV fun r5 => uI fun r6 => uN fun h => aQO S r2 r3 r5 r6 h) (dJ 2 (uV fun r5 => uN fun h => aQN S r5 h) (kP)))
noncomputable def F57 (args : List Value) (h : Hp) : aW := bP [Kd.v, Kd.v] args fun al => aP T57 1000000 0 al h
def aN8 : Nat := 2 + (38 - 2)
theorem a3I (S : Sg) (r5 : Value) (h : Hp) : aQN S r5 h = aF (bK env QY (aN8)) (bM env Try.f57.results.toList) (collect B57 A57 []) 2 S (AL.v r5 AL.n) h := by kernel_rfl
theorem a3J (S : Sg) (r2 : Value) (r3 : Value) (r5 : Value) (r6 : Int) (h : Hp) : aQO S r2 r3 r5 r6 h = aF (bK env QY (aN8)) (bM env Try.f57.results.toList) (collect B57 A57 []) 1 S (AL.v r2 (AL.v r3 (AL.v r5 (AL.i r6 AL.n)))) h := by kernel_rfl
theorem a3K (S : Sg) (r0 : Value) (r1 : Value) (h : Hp) : aQP S r0 r1 h = aF (bK env QY (aN8)) (bM env Try.f57.results.toList) (collect B57 A57 []) 0 S (AL.v r0 (AL.v r1 AL.n)) h := by kernel_rfl
theorem t57 (S : Sg) : dW (fun l vs h => aF (bK env QY aN8) (bM env Try.f57.results.toList) (collect B57 A57 []) l S vs h) (T57 S) := by
 unfold T57
 refine dW.cons 0 (fun fJ h q e0 => ?_) ?_
 ·obtain ⟨r0, vs1, rfl, e1⟩ := aC e0
  obtain ⟨r1, vs2, rfl, e2⟩ := aC e1
  obtain ⟨rfl, ee⟩ := aN e2
  exact (a3K S r0 r1 h).symm.trans ee
 refine dW.cons 1 (fun fJ h q e0 => ?_) ?_
 ·obtain ⟨r2, vs1, rfl, e1⟩ := aC e0
  obtain ⟨r3, vs2, rfl, e2⟩ := aC e1
  obtain ⟨r5, vs3, rfl, e3⟩ := aC e2
  obtain ⟨r6, pF, rfl, e4⟩ := aM e3
  obtain ⟨rfl, ee⟩ := aN e4
  exact (a3J S r2 r3 r5 r6 h).symm.trans ee
 refine dW.cons 2 (fun fJ h q e0 => ?_) ?_
 ·obtain ⟨r5, vs1, rfl, e1⟩ := aC e0
  obtain ⟨rfl, ee⟩ := aN e1
  exact (a3I S r5 h).symm.trans ee
 exact dW.nil
theorem r57 : ∀ args h v h', F57 args h = some (v, h') → gW (C48) (.call 57 args.toArray h) (.ret v h') := by
 intro args h v h' e
 exact bJ (C := C48) (fn := Try.f57) (body := B57) (np := 2) (A := A57) (T := T57) (kinds := [Kd.v, Kd.v]) (by kernel_rfl) (by kernel_rfl) (by kernel_rfl) (by kernel_rfl) (dH eF) (by kernel_rfl) (fun S => t57 S) e
noncomputable def QZ := kH 57 F57 QY
noncomputable def C49 : dM := cfg QZ
theorem bFR : C49.Ok := dI (C := C48) bFQ r57
noncomputable def B56 : Code := (Try.f56.body).getD .skip
def A56 : aB := (aB.node (some (0, [(0, Kd.v), (1, Kd.v), (2, Kd.v)])) aB.nil (aB.node none aB.nil (aB.node none aB.nil (aB.node none (aB.node none aB.nil (aB.node none (aB.node (some (1, [(3, Kd.v), (7, Kd.i .i64), (8, Kd.v), (9, Kd.i .i64)])) (aB.node none (aB.node none aB.nil (aB.node none aB.nil aB.nil)) (aB.node none (aB.node none aB.nil aB.nil) aB.nil)) aB.nil) aB.nil)) (aB.node (some (2, [(7, Kd.i .i64)])) aB.nil aB.nil)))))
noncomputable def aQQ (S : Sg) (r7 : Int) (h : Hp) : aW :=
 some ((Value.int .i64 r7), h)
noncomputable def aQR (S : Sg) (r3 : Value) (r7 : Int) (r8 : Value) (r9 : Int) (h : Hp) : aW :=
 dK r8 fun i0 =>
 bX (nG r9 i0) fun b1 =>
 dF b1
 (aT 0 r3 fun v2 =>
 aK h v2 fun v3 =>
 dS 1 r8 r9 fun v4 =>
 aK h v4 fun v5 =>
 aX .i64 v5 fun i6 =>
 dS 1 v3 i6 fun v7 =>
 aK h v7 fun v8 =>
 aX .i64 v8 fun i9 =>
 wrap64 (Int.add r7 i9) fun i10 =>
 wrap64 (Int.add r9 (Int.ofNat 1)) fun i11 =>
 S 1 (AL.v r3 (AL.i i10 (AL.v r8 (AL.i i11 AL.n)))) h)
 (S 2 (AL.i r7 AL.n) h)
noncomputable def aQS (S : Sg) (r0 : Value) (r1 : Value) (r2 : Value) (h : Hp) : aW :=
 bS h 25 (Array.toList (Value.cells r0)) fun a0 h0 =>
 bS h0 59 (Array.toList (Value.cells r1)) fun a1 h1 =>
 bS h1 59 (Array.toList (Value.cells r2)) fun a2 h2 =>
 aY 3 h2 a1 fun v3 =>
 aY 3 h2 a2 fun v4 =>
 aS (dV F57 [v3, v4] h2) fun v5 h5 =>
 S 1 (AL.v a0 (AL.i (Int.ofNat 0) (AL.v v5 (AL.i (Int.ofNat 0) AL.n)))) h5
noncomputable def T56 (S : Sg) : Sg := dJ 0 (uV fun r0 => uV fun r1 => uV fun r2 => uN fun h => aQS S r0 r1 r2 h) (dJ 1 (uV fun r3 => uI fun r7 => uV fun r8 => uI fun r9 => uN fun h => aQR S r3 r7 r8 r9 h) (dJ 2 (uI fun r7 => uN fun h => aQQ S r7 h) (kP)))
noncomputable def F56 (args : List Value) (h : Hp) : aW := bP [Kd.v, Kd.v, Kd.v] args fun al => aP T56 1000000 0 al h
def aN9 : Nat := 3 + (30 - 3)
theorem a3N (S : Sg) (r7 : Int) (h : Hp) : aQQ S r7 h = aF (bK env QZ (aN9)) (bM env Try.f56.results.toList) (collect B56 A56 []) 2 S (AL.i r7 AL.n) h := by kernel_rfl
theorem a3O (S : Sg) (r3 : Value) (r7 : Int) (r8 : Value) (r9 : Int) (h : Hp) : aQR S r3 r7 r8 r9 h = aF (bK env QZ (aN9)) (bM env Try.f56.results.toList) (collect B56 A56 []) 1 S (AL.v r3 (AL.i r7 (AL.v r8 (AL.i r9 AL.n)))) h := by kernel_rfl
theorem a3P (S : Sg) (r0 : Value) (r1 : Value) (r2 : Value) (h : Hp) : aQS S r0 r1 r2 h = aF (bK env QZ (aN9)) (bM env Try.f56.results.toList) (collect B56 A56 []) 0 S (AL.v r0 (AL.v r1 (AL.v r2 AL.n))) h := by kernel_rfl
theorem t56 (S : Sg) : dW (fun l vs h => aF (bK env QZ aN9) (bM env Try.f56.results.toList) (collect B56 A56 []) l S vs h) (T56 S) := by
 unfold T56
 refine dW.cons 0 (fun fJ h q e0 => ?_) ?_
 ·obtain ⟨r0, vs1, rfl, e1⟩ := aC e0
  obtain ⟨r1, vs2, rfl, e2⟩ := aC e1
  obtain ⟨r2, vs3, rfl, e3⟩ := aC e2
  obtain ⟨rfl, ee⟩ := aN e3
  exact (a3P S r0 r1 r2 h).symm.trans ee
 refine dW.cons 1 (fun fJ h q e0 => ?_) ?_
 ·obtain ⟨r3, vs1, rfl, e1⟩ := aC e0
  obtain ⟨r7, vs2, rfl, e2⟩ := aM e1
  obtain ⟨r8, vs3, rfl, e3⟩ := aC e2
  obtain ⟨r9, pF, rfl, e4⟩ := aM e3
  obtain ⟨rfl, ee⟩ := aN e4
  exact (a3O S r3 r7 r8 r9 h).symm.trans ee
 refine dW.cons 2 (fun fJ h q e0 => ?_) ?_
 ·obtain ⟨r7, vs1, rfl, e1⟩ := aM e0
  obtain ⟨rfl, ee⟩ := aN e1
  exact (a3N S r7 h).symm.trans ee
 exact dW.nil
theorem r56 : ∀ args h v h', F56 args h = some (v, h') → gW (C49) (.call 56 args.toArray h) (.ret v h') := by
 intro args h v h' e
 exact bJ (C := C49) (fn := Try.f56) (body := B56) (np := 3) (A := A56) (T := T56) (kinds := [Kd.v, Kd.v, Kd.v]) (by kernel_rfl) (by kernel_rfl) (by kernel_rfl) (by kernel_rfl) (dH eF) (by kernel_rfl) (fun S => t56 S) e
noncomputable def XX := kH 56 F56 QZ
noncomputable def C50 : dM := cfg XX
theorem bFS : C50.Ok := dI (C := C49) bFR r56
noncomputable def B19 : Code := (Try.f19.body).getD .skip
def A19 : aB := (aB.node (some (0, [(0, Kd.v), (1, Kd.i .i64), (2, Kd.i .i64)])) aB.nil (aB.node none aB.nil (aB.node none (aB.node none aB.nil (aB.node none aB.nil aB.nil)) (aB.node (some (1, [(1, Kd.i .i64), (2, Kd.i .i64), (3, Kd.v), (11, Kd.i .i64)])) (aB.node none aB.nil (aB.node none (aB.node none aB.nil aB.nil) aB.nil)) (aB.node none aB.nil (aB.node none aB.nil aB.nil))))))
noncomputable def aQT (S : Sg) (r1 : Int) (r2 : Int) (r3 : Value) (gQ : Int) (h : Hp) : aW :=
 bU (lW gQ (Int.ofNat 0)) fun b0 =>
 dF b0
 (some (Value.tuple (List.toArray [(Value.int .i64 (Int.ofNat 0)), (Value.slice none 0 0), (Value.int .i64 gQ)]), h))
 (aT 2 r3 fun v1 =>
 aK (Hp.mk (Hp.next h) (Hp.next h) (Hp.aG h)) v1 fun v2 =>
 dS 3 v2 r1 fun v3 =>
 aY 3 (Hp.mk (Hp.next h) (Hp.next h) (Hp.aG h)) v3 fun v4 =>
 aT 3 r3 fun v5 =>
 aK (Hp.mk (Hp.next h) (Hp.next h) (Hp.aG h)) v5 fun v6 =>
 dS 3 v6 r2 fun v7 =>
 aY 3 (Hp.mk (Hp.next h) (Hp.next h) (Hp.aG h)) v7 fun v8 =>
 bS (Hp.mk (Hp.next h) (Hp.next h) T.nil) 59 [(Value.string (ByteArray.mk #[])), (Value.slice none 0 0), (Value.int .i64 (Int.ofNat 0))] fun a9 h9 =>
 kX a9 (Hp.next h) h9 fun w10 n10 =>
 bS (Hp.mk n10 n10 T.nil) 59 [(Value.string (ByteArray.mk #[])), (Value.slice none 0 0), (Value.int .i64 (Int.ofNat 0))] fun a11 h11 =>
 kX a11 n10 h11 fun w12 n12 =>
 wR env 59 a9 v4 n12 (Hp.next h) (bN w12 (bN w10 (Hp.aG h))) (fun b => (bY [] b || (bY [] b || (bY [] b || (bY [] b || (bY [] b || (bY w10 b || (bY w12 b || false)))))))) fun w13 =>
 fG 3 (Hp.mk n12 (Hp.ro h) (bN w13 (bN w12 (bN w10 (Hp.aG h))))) a11 v8 fun IA =>
 aY 4 IA r3 fun v15 =>
 aY 3 IA a9 fun v16 =>
 aY 3 IA a11 fun v17 =>
 aS (aS (dV F56 [v15, v16, v17] (Hp.mk (Hp.next IA) (Hp.next IA) (Hp.aG IA))) fun v _ => dF (kL v) (some (v, IA)) none) fun v18 h18 =>
 aX .i64 v18 fun i19 =>
 aY 3 h18 a9 fun v20 =>
 aY 3 h18 a11 fun v21 =>
 aS (dV F57 [v20, v21] h18) fun v22 h22 =>
 some (Value.tuple (List.toArray [(Value.int .i64 i19), v22, (Value.int .i64 (Int.ofNat 0))]), h22))
noncomputable def aQU (S : Sg) (r0 : Value) (r1 : Int) (r2 : Int) (h : Hp) : aW :=
 bS h 25 (Array.toList (Value.cells r0)) fun a0 h0 =>
 aY 4 h0 a0 fun v1 =>
 aS (dV F17 [v1] h0) fun v2 h2 =>
 fK v2 0 fun v3 =>
 aX .i64 v3 fun i4 =>
 fK v2 1 fun v5 =>
 aX .i64 v5 fun i6 =>
 fK v2 2 fun v7 =>
 aX .i64 v7 fun i8 =>
 bX (lW i8 (Int.ofNat 0)) fun b9 =>
 dF b9
 (aT 2 a0 fun v10 =>
 aK h2 v10 fun v11 =>
 dK v11 fun i12 =>
 wrap64 (Int.sub i12 (Int.ofNat 1)) fun i13 =>
 aS (cO (F55 [(Value.int .i64 r1), (Value.int .i64 (Int.ofNat 0)), (Value.int .i64 i13)] h2) fun v => some (v, h2)) fun v14 IA =>
 eO v14 fun b15 =>
 bU b15 fun b16 =>
 dF b16
 (S 1 (AL.i r1 (AL.i r2 (AL.v a0 (AL.i (Int.ofNat 4) AL.n)))) IA)
 (aT 3 a0 fun v17 =>
 aK IA v17 fun v18 =>
 dK v18 fun i19 =>
 wrap64 (Int.sub i19 (Int.ofNat 1)) fun i20 =>
 aS (cO (F55 [(Value.int .i64 r2), (Value.int .i64 (Int.ofNat 0)), (Value.int .i64 i20)] IA) fun v => some (v, IA)) fun v21 h21 =>
 eO v21 fun b22 =>
 bU b22 fun b23 =>
 dF b23
 (S 1 (AL.i r1 (AL.i r2 (AL.v a0 (AL.i (Int.ofNat 4) AL.n)))) h21)
 (S 1 (AL.i r1 (AL.i r2 (AL.v a0 (AL.i i8 AL.n)))) h21)))
 (S 1 (AL.i r1 (AL.i r2 (AL.v a0 (AL.i i8 AL.n)))) h2)
noncomputable def T19 (S : Sg) : Sg := dJ 0 (uV fun r0 => uI fun r1 => uI fun r2 => uN fun h => aQU S r0 r1 r2 h) (dJ 1 (uI fun r1 => uI fun r2 => uV fun r3 => uI fun gQ => uN fun h => aQT S r1 r2 r3 gQ h) (kP))
noncomputable def F19 (args : List Value) (h : Hp) : aW := bP [Kd.v, Kd.i .i64, Kd.i .i64] args fun al => aP T19 1000000 0 al h
def aVK : Nat := 3 + (60 - 3)
theorem a3Q (S : Sg) (r1 : Int) (r2 : Int) (r3 : Value) (gQ : Int) (h : Hp) : aQT S r1 r2 r3 gQ h = aF (bK env XX (aVK)) (bM env Try.f19.results.toList) (collect B19 A19 []) 1 S (AL.i r1 (AL.i r2 (AL.v r3 (AL.i gQ AL.n)))) h := by kernel_rfl
theorem a3R (S : Sg) (r0 : Value) (r1 : Int) (r2 : Int) (h : Hp) : aQU S r0 r1 r2 h = aF (bK env XX (aVK)) (bM env Try.f19.results.toList) (collect B19 A19 []) 0 S (AL.v r0 (AL.i r1 (AL.i r2 AL.n))) h := by kernel_rfl
theorem t19 (S : Sg) : dW (fun l vs h => aF (bK env XX aVK) (bM env Try.f19.results.toList) (collect B19 A19 []) l S vs h) (T19 S) := by
 unfold T19
 refine dW.cons 0 (fun fJ h q e0 => ?_) ?_
 ·obtain ⟨r0, vs1, rfl, e1⟩ := aC e0
  obtain ⟨r1, vs2, rfl, e2⟩ := aM e1
  obtain ⟨r2, vs3, rfl, e3⟩ := aM e2
  obtain ⟨rfl, ee⟩ := aN e3
  exact (a3R S r0 r1 r2 h).symm.trans ee
 refine dW.cons 1 (fun fJ h q e0 => ?_) ?_
 ·obtain ⟨r1, vs1, rfl, e1⟩ := aM e0
  obtain ⟨r2, vs2, rfl, e2⟩ := aM e1
  obtain ⟨r3, vs3, rfl, e3⟩ := aC e2
  obtain ⟨gQ, pF, rfl, e4⟩ := aM e3
  obtain ⟨rfl, ee⟩ := aN e4
  exact (a3Q S r1 r2 r3 gQ h).symm.trans ee
 exact dW.nil
theorem r19 : ∀ args h v h', F19 args h = some (v, h') → gW (C50) (.call 19 args.toArray h) (.ret v h') := by
 intro args h v h' e
 exact bJ (C := C50) (fn := Try.f19) (body := B19) (np := 3) (A := A19) (T := T19) (kinds := [Kd.v, Kd.i .i64, Kd.i .i64]) (by kernel_rfl) (by kernel_rfl) (by kernel_rfl) (by kernel_rfl) (dH eF) (by kernel_rfl) (fun S => t19 S) e
noncomputable def aQV := kH 19 F19 XX
noncomputable def C51 : dM := cfg aQV
theorem bFV : C51.Ok := dI (C := C50) bFS r19
noncomputable def B20 : Code := (Try.f20.body).getD .skip
noncomputable def A20 : G.aB (List KI) := (G.aB.node (some (0, [KI.reg 0 (Kd.v), KI.reg 1 (Kd.v)])) G.aB.nil (G.aB.node none G.aB.nil (G.aB.node none (G.aB.node none G.aB.nil (G.aB.node none (G.aB.node (some (1, [KI.reg 0 (Kd.v), KI.reg 1 (Kd.v), KI.reg 5 (Kd.b), KI.reg 6 (Kd.i .i64)])) (G.aB.node none (G.aB.node none G.aB.nil (G.aB.node none G.aB.nil G.aB.nil)) (G.aB.node (some (2, [KI.reg 0 (Kd.v), KI.reg 1 (Kd.v), KI.reg 6 (Kd.i .i64)])) (G.aB.node none G.aB.nil G.aB.nil) G.aB.nil)) G.aB.nil) G.aB.nil)) (G.aB.node (some (3, [KI.reg 5 (Kd.b)])) G.aB.nil G.aB.nil))))
noncomputable def aQW (h : Hp) (S : Nat → aD → Option Value) (r5 : Bool) : Option Value :=
 some (Value.bool r5)
noncomputable def aQX (h : Hp) (S : Nat → aD → Option Value) (r0 : Value) (r1 : Value) (r6 : Int) : Option Value :=
 dS 1 r0 r6 fun v0 =>
 aK h v0 fun v1 =>
 aX .i64 v1 fun i2 =>
 dS 1 r1 r6 fun v3 =>
 aK h v3 fun v4 =>
 aX .i64 v4 fun i5 =>
 bX (lW i2 i5) fun b6 =>
 wrap64 (Int.add r6 (Int.ofNat 1)) fun i7 =>
 S 1 (aD.v r0 (aD.v r1 (aD.b b6 (aD.i i7 aD.n))))
noncomputable def aQY (h : Hp) (S : Nat → aD → Option Value) (r0 : Value) (r1 : Value) (r5 : Bool) (r6 : Int) : Option Value :=
 dF r5
 (dK r0 fun i0 =>
 bX (nG r6 i0) fun b1 =>
 dF b1
 (S 2 (aD.v r0 (aD.v r1 (aD.i r6 aD.n))))
 (S 3 (aD.b r5 aD.n)))
 (S 3 (aD.b r5 aD.n))
noncomputable def aQZ (h : Hp) (S : Nat → aD → Option Value) (r0 : Value) (r1 : Value) : Option Value :=
 dK r0 fun i0 =>
 dK r1 fun i1 =>
 bX (lW i0 i1) fun b2 =>
 S 1 (aD.v r0 (aD.v r1 (aD.b b2 (aD.i (Int.ofNat 0) aD.n))))
noncomputable def T20 (h : Hp) (S : Nat → aD → Option Value) : Nat → aD → Option Value := eP 0 (wV fun r0 => wV fun r1 => wN (aQZ h S r0 r1)) (eP 1 (wV fun r0 => wV fun r1 => wB fun r5 => wI fun r6 => wN (aQY h S r0 r1 r5 r6)) (eP 2 (wV fun r0 => wV fun r1 => wI fun r6 => wN (aQX h S r0 r1 r6)) (eP 3 (wB fun r5 => wN (aQW h S r5)) (lY))))
noncomputable def F20 (args : List Value) (h : Hp) : Option Value := plainO (eT [Kd.v, Kd.v] args fun al => G.aP (T20 h) 1000000 0 al)
def aLH : Nat := 2 + (31 - 2)
theorem a3S (h : Hp) (S : Nat → aD → Option Value) (r5 : Bool) : aQW h S r5 = G.aF bR aQ fC (fF env XW aLH h) (fH env Try.f20.results.toList) (G.collect B20 A20 []) 3 S (aD.b r5 aD.n) := by kernel_rfl
theorem a3T (h : Hp) (S : Nat → aD → Option Value) (r0 : Value) (r1 : Value) (r6 : Int) : aQX h S r0 r1 r6 = G.aF bR aQ fC (fF env XW aLH h) (fH env Try.f20.results.toList) (G.collect B20 A20 []) 2 S (aD.v r0 (aD.v r1 (aD.i r6 aD.n))) := by kernel_rfl
theorem a3U (h : Hp) (S : Nat → aD → Option Value) (r0 : Value) (r1 : Value) (r5 : Bool) (r6 : Int) : aQY h S r0 r1 r5 r6 = G.aF bR aQ fC (fF env XW aLH h) (fH env Try.f20.results.toList) (G.collect B20 A20 []) 1 S (aD.v r0 (aD.v r1 (aD.b r5 (aD.i r6 aD.n)))) := by kernel_rfl
theorem a3V (h : Hp) (S : Nat → aD → Option Value) (r0 : Value) (r1 : Value) : aQZ h S r0 r1 = G.aF bR aQ fC (fF env XW aLH h) (fH env Try.f20.results.toList) (G.collect B20 A20 []) 0 S (aD.v r0 (aD.v r1 aD.n)) := by kernel_rfl
theorem t20 (h : Hp) (S : Nat → aD → Option Value) : dG (fun l al => G.aF bR aQ fC (fF env XW aLH h) (fH env Try.f20.results.toList) (G.collect B20 A20 []) l S al) (T20 h S) := by
 unfold T20
 refine dG.cons 0 (fun fJ q e0 => ?_) ?_
 ·obtain ⟨r0, vs1, rfl, e1⟩ := bA e0
  obtain ⟨r1, vs2, rfl, e2⟩ := bA e1
  obtain ⟨rfl, ee⟩ := bQ e2
  exact (a3V h S r0 r1).symm.trans ee
 refine dG.cons 1 (fun fJ q e0 => ?_) ?_
 ·obtain ⟨r0, vs1, rfl, e1⟩ := bA e0
  obtain ⟨r1, vs2, rfl, e2⟩ := bA e1
  obtain ⟨r5, vs3, rfl, e3⟩ := lX e2
  obtain ⟨r6, pF, rfl, e4⟩ := aV e3
  obtain ⟨rfl, ee⟩ := bQ e4
  exact (a3U h S r0 r1 r5 r6).symm.trans ee
 refine dG.cons 2 (fun fJ q e0 => ?_) ?_
 ·obtain ⟨r0, vs1, rfl, e1⟩ := bA e0
  obtain ⟨r1, vs2, rfl, e2⟩ := bA e1
  obtain ⟨r6, vs3, rfl, e3⟩ := aV e2
  obtain ⟨rfl, ee⟩ := bQ e3
  exact (a3T h S r0 r1 r6).symm.trans ee
 refine dG.cons 3 (fun fJ q e0 => ?_) ?_
 ·obtain ⟨r5, vs1, rfl, e1⟩ := lX e0
  obtain ⟨rfl, ee⟩ := bQ e1
  exact (a3S h S r5).symm.trans ee
 exact dG.nil
theorem r20 : PSound Try.prog 20 F20 := dY (C := C0) ok0 (pf := XW) aLG (fn := Try.f20) (body := B20) (kinds := [Kd.v, Kd.v]) (A := A20) (T := T20) (by kernel_rfl) (by kernel_rfl) (by kernel_rfl) (by kernel_rfl) (fun h S => t20 h S)
noncomputable def aAZ : PF := JF 20 F20 XW
theorem aLI : fT Try.prog aAZ := jJ r20 aLG
noncomputable def XY := o8 20 F20 aQV
noncomputable def C52 : dM := cfg XY
theorem bFW : C52.Ok := gP (C := C51) bFV r20
noncomputable def B3 : Code := (Try.f3.body).getD .skip
def A3 : aB := (aB.node (some (0, [(0, Kd.v), (1, Kd.v)])) aB.nil (aB.node none aB.nil (aB.node none aB.nil (aB.node none (aB.node none aB.nil (aB.node none (aB.node none aB.nil aB.nil) aB.nil)) (aB.node (some (1, [(2, Kd.v), (3, Kd.v)])) aB.nil (aB.node none aB.nil (aB.node none aB.nil aB.nil)))))))
noncomputable def a3W (S : Sg) (r2 : Value) (r3 : Value) (h : Hp) : aW :=
 aY 4 h r2 fun v0 =>
 yY 2 1 r3 (Int.ofNat 0) fun v1 =>
 aK h v1 fun v2 =>
 aX .i64 v2 fun i3 =>
 yY 2 1 r3 (Int.ofNat 1) fun v4 =>
 aK h v4 fun v5 =>
 aX .i64 v5 fun i6 =>
 aS (dV F18 [v0, (Value.int .i64 i3), (Value.int .i64 i6)] h) fun v7 h7 =>
 fK v7 0 fun v8 =>
 aX .i64 v8 fun i9 =>
 fK v7 1 fun v10 =>
 fK v7 2 fun v11 =>
 aX .i64 v11 fun i12 =>
 aY 4 h7 r2 fun v13 =>
 yY 2 1 r3 (Int.ofNat 0) fun v14 =>
 aK h7 v14 fun v15 =>
 aX .i64 v15 fun i16 =>
 yY 2 1 r3 (Int.ofNat 1) fun v17 =>
 aK h7 v17 fun v18 =>
 aX .i64 v18 fun i19 =>
 aS (dV F19 [v13, (Value.int .i64 i16), (Value.int .i64 i19)] h7) fun v20 h20 =>
 fK v20 0 fun v21 =>
 aX .i64 v21 fun i22 =>
 fK v20 1 fun v23 =>
 fK v20 2 fun v24 =>
 aX .i64 v24 fun i25 =>
 bX (lW i9 i22) fun b26 =>
 dF b26
 (aS (cO (F20 [v10, v23] h20) fun v => some (v, h20)) fun v27 h27 =>
 eO v27 fun b28 =>
 dF b28
 (bX (lW i12 i25) fun b29 =>
 dF b29
 (aS (cO (TQ [] h27) fun v => some (v, h27)) fun v30 h30 =>
 eO v30 fun b31 =>
 some ((Value.bool b31), h30))
 (some ((Value.bool false), h27)))
 (some ((Value.bool false), h27)))
 (some ((Value.bool false), h20))
noncomputable def a3X (S : Sg) (r0 : Value) (r1 : Value) (h : Hp) : aW :=
 bS h 25 (Array.toList (Value.cells r0)) fun a0 h0 =>
 bS h0 26 (Array.toList (Value.cells r1)) fun a1 h1 =>
 aY 4 h1 a0 fun v2 =>
 aS (dV F16 [v2] h1) fun v3 h3 =>
 fK v3 0 fun v4 =>
 aX .i64 v4 fun i5 =>
 fK v3 1 fun v6 =>
 aX .i64 v6 fun i7 =>
 fK v3 2 fun v8 =>
 aX .i64 v8 fun i9 =>
 aY 4 h3 a0 fun v10 =>
 aS (dV F17 [v10] h3) fun v11 h11 =>
 fK v11 0 fun v12 =>
 aX .i64 v12 fun i13 =>
 fK v11 1 fun v14 =>
 aX .i64 v14 fun i15 =>
 fK v11 2 fun v16 =>
 aX .i64 v16 fun i17 =>
 bU (lW i5 i13) fun b18 =>
 dF b18
 (some ((Value.bool false), h11))
 (bU (lW i7 i15) fun b19 =>
 dF b19
 (some ((Value.bool false), h11))
 (bU (lW i9 i17) fun b20 =>
 dF b20
 (some ((Value.bool false), h11))
 (S 1 (AL.v a0 (AL.v a1 AL.n)) h11)))
noncomputable def T3 (S : Sg) : Sg := dJ 0 (uV fun r0 => uV fun r1 => uN fun h => a3X S r0 r1 h) (dJ 1 (uV fun r2 => uV fun r3 => uN fun h => a3W S r2 r3 h) (kP))
noncomputable def F3 (args : List Value) (h : Hp) : aW := bP [Kd.v, Kd.v] args fun al => aP T3 1000000 0 al h
def nt3 : Nat := 2 + (74 - 2)
theorem bFY (S : Sg) (r2 : Value) (r3 : Value) (h : Hp) : a3W S r2 r3 h = aF (bK env XY (nt3)) (bM env Try.f3.results.toList) (collect B3 A3 []) 1 S (AL.v r2 (AL.v r3 AL.n)) h := by kernel_rfl
theorem bFZ (S : Sg) (r0 : Value) (r1 : Value) (h : Hp) : a3X S r0 r1 h = aF (bK env XY (nt3)) (bM env Try.f3.results.toList) (collect B3 A3 []) 0 S (AL.v r0 (AL.v r1 AL.n)) h := by kernel_rfl
theorem t3 (S : Sg) : dW (fun l vs h => aF (bK env XY nt3) (bM env Try.f3.results.toList) (collect B3 A3 []) l S vs h) (T3 S) := by
 unfold T3
 refine dW.cons 0 (fun fJ h q e0 => ?_) ?_
 ·obtain ⟨r0, vs1, rfl, e1⟩ := aC e0
  obtain ⟨r1, vs2, rfl, e2⟩ := aC e1
  obtain ⟨rfl, ee⟩ := aN e2
  exact (bFZ S r0 r1 h).symm.trans ee
 refine dW.cons 1 (fun fJ h q e0 => ?_) ?_
 ·obtain ⟨r2, vs1, rfl, e1⟩ := aC e0
  obtain ⟨r3, vs2, rfl, e2⟩ := aC e1
  obtain ⟨rfl, ee⟩ := aN e2
  exact (bFY S r2 r3 h).symm.trans ee
 exact dW.nil
theorem r3 : ∀ args h v h', F3 args h = some (v, h') → gW (C52) (.call 3 args.toArray h) (.ret v h') := by
 intro args h v h' e
 exact bJ (C := C52) (fn := Try.f3) (body := B3) (np := 2) (A := A3) (T := T3) (kinds := [Kd.v, Kd.v]) (by kernel_rfl) (by kernel_rfl) (by kernel_rfl) (by kernel_rfl) (dH eF) (by kernel_rfl) (fun S => t3 S) e
noncomputable def aQ0 := kH 3 F3 XY
noncomputable def C53 : dM := cfg aQ0
theorem bF0 : C53.Ok := dI (C := C52) bFW r3
noncomputable def B43 : Code := (Try.f43.body).getD .skip
noncomputable def A43 : G.aB (List KI) := (G.aB.node (some (0, [KI.reg 0 (Kd.v), KI.reg 1 (Kd.i .i64)])) G.aB.nil (G.aB.node none (G.aB.node none G.aB.nil (G.aB.node none (G.aB.node (some (1, [KI.reg 0 (Kd.v), KI.reg 1 (Kd.i .i64), KI.reg 5 (Kd.i .i64)])) (G.aB.node none (G.aB.node none G.aB.nil (G.aB.node none G.aB.nil G.aB.nil)) (G.aB.node none (G.aB.node none (G.aB.node none G.aB.nil (G.aB.node none (G.aB.node none G.aB.nil G.aB.nil) G.aB.nil)) G.aB.nil) G.aB.nil)) G.aB.nil) G.aB.nil)) (G.aB.node (some (2, [])) G.aB.nil G.aB.nil)))
noncomputable def aQ1 (h : Hp) (S : Nat → aD → Option Value) : Option Value :=
 some (Value.bool false)
noncomputable def aQ2 (h : Hp) (S : Nat → aD → Option Value) (r0 : Value) (r1 : Int) (r5 : Int) : Option Value :=
 dK r0 fun i0 =>
 bX (nG r5 i0) fun b1 =>
 dF b1
 (dS 1 r0 r5 fun v2 =>
 aK h v2 fun v3 =>
 aX .i64 v3 fun i4 =>
 bX (lW i4 r1) fun b5 =>
 dF b5
 (some (Value.bool true))
 (wrap64 (Int.add r5 (Int.ofNat 1)) fun i6 =>
 S 1 (aD.v r0 (aD.i r1 (aD.i i6 aD.n)))))
 (S 2 aD.n)
noncomputable def aQ3 (h : Hp) (S : Nat → aD → Option Value) (r0 : Value) (r1 : Int) : Option Value :=
 S 1 (aD.v r0 (aD.i r1 (aD.i (Int.ofNat 0) aD.n)))
noncomputable def T43 (h : Hp) (S : Nat → aD → Option Value) : Nat → aD → Option Value := eP 0 (wV fun r0 => wI fun r1 => wN (aQ3 h S r0 r1)) (eP 1 (wV fun r0 => wI fun r1 => wI fun r5 => wN (aQ2 h S r0 r1 r5)) (eP 2 (wN (aQ1 h S)) (lY)))
noncomputable def F43 (args : List Value) (h : Hp) : Option Value := plainO (eT [Kd.v, Kd.i .i64] args fun al => G.aP (T43 h) 1000000 0 al)
def aOA : Nat := 2 + (18 - 2)
theorem a4B (h : Hp) (S : Nat → aD → Option Value) : aQ1 h S = G.aF bR aQ fC (fF env aAZ aOA h) (fH env Try.f43.results.toList) (G.collect B43 A43 []) 2 S aD.n := by kernel_rfl
theorem a4C (h : Hp) (S : Nat → aD → Option Value) (r0 : Value) (r1 : Int) (r5 : Int) : aQ2 h S r0 r1 r5 = G.aF bR aQ fC (fF env aAZ aOA h) (fH env Try.f43.results.toList) (G.collect B43 A43 []) 1 S (aD.v r0 (aD.i r1 (aD.i r5 aD.n))) := by kernel_rfl
theorem a4D (h : Hp) (S : Nat → aD → Option Value) (r0 : Value) (r1 : Int) : aQ3 h S r0 r1 = G.aF bR aQ fC (fF env aAZ aOA h) (fH env Try.f43.results.toList) (G.collect B43 A43 []) 0 S (aD.v r0 (aD.i r1 aD.n)) := by kernel_rfl
theorem t43 (h : Hp) (S : Nat → aD → Option Value) : dG (fun l al => G.aF bR aQ fC (fF env aAZ aOA h) (fH env Try.f43.results.toList) (G.collect B43 A43 []) l S al) (T43 h S) := by
 unfold T43
 refine dG.cons 0 (fun fJ q e0 => ?_) ?_
 ·obtain ⟨r0, vs1, rfl, e1⟩ := bA e0
  obtain ⟨r1, vs2, rfl, e2⟩ := aV e1
  obtain ⟨rfl, ee⟩ := bQ e2
  exact (a4D h S r0 r1).symm.trans ee
 refine dG.cons 1 (fun fJ q e0 => ?_) ?_
 ·obtain ⟨r0, vs1, rfl, e1⟩ := bA e0
  obtain ⟨r1, vs2, rfl, e2⟩ := aV e1
  obtain ⟨r5, vs3, rfl, e3⟩ := aV e2
  obtain ⟨rfl, ee⟩ := bQ e3
  exact (a4C h S r0 r1 r5).symm.trans ee
 refine dG.cons 2 (fun fJ q e0 => ?_) ?_
 ·
  obtain ⟨rfl, ee⟩ := bQ e0
  exact (a4B h S).symm.trans ee
 exact dG.nil
theorem r43 : PSound Try.prog 43 F43 := dY (C := C0) ok0 (pf := aAZ) aLI (fn := Try.f43) (body := B43) (kinds := [Kd.v, Kd.i .i64]) (A := A43) (T := T43) (by kernel_rfl) (by kernel_rfl) (by kernel_rfl) (by kernel_rfl) (fun h S => t43 h S)
noncomputable def aLJ : PF := JF 43 F43 aAZ
theorem aLK : fT Try.prog aLJ := jJ r43 aLI
noncomputable def CO := o8 43 F43 aQ0
noncomputable def C54 : dM := cfg CO
theorem bF1 : C54.Ok := gP (C := C53) bF0 r43
noncomputable def B40 : Code := (Try.f40.body).getD .skip
def A40 : aB := (aB.node (some (0, [(0, Kd.v), (1, Kd.v)])) aB.nil (aB.node none aB.nil (aB.node none (aB.node none aB.nil (aB.node none aB.nil aB.nil)) (aB.node none (aB.node none aB.nil (aB.node none (aB.node (some (1, [(1, Kd.v), (2, Kd.v), (7, Kd.i .i64), (8, Kd.i .i64)])) (aB.node none (aB.node none aB.nil (aB.node none aB.nil aB.nil)) (aB.node (some (2, [(1, Kd.v), (2, Kd.v), (7, Kd.i .i64), (8, Kd.i .i64)])) (aB.node none (aB.node none aB.nil (aB.node none aB.nil aB.nil)) aB.nil) aB.nil)) aB.nil) aB.nil)) (aB.node (some (6, [(1, Kd.v), (7, Kd.i .i64)])) (aB.node none aB.nil (aB.node none (aB.node (some (3, [(1, Kd.v), (7, Kd.i .i64), (9, Kd.i .i64)])) (aB.node none (aB.node none aB.nil (aB.node none aB.nil aB.nil)) (aB.node (some (4, [(1, Kd.v), (7, Kd.i .i64), (9, Kd.i .i64)])) (aB.node none (aB.node none aB.nil (aB.node none aB.nil aB.nil)) aB.nil) aB.nil)) aB.nil) aB.nil)) (aB.node (some (5, [(7, Kd.i .i64)])) aB.nil aB.nil))))))
noncomputable def aQ4 (S : Sg) (r7 : Int) (h : Hp) : aW :=
 some ((Value.int .i64 r7), h)
noncomputable def aQ5 (S : Sg) (r1 : Value) (r7 : Int) (r9 : Int) (h : Hp) : aW :=
 cO (gB env h 22 r1 none (some (Value.int .i64 r9)) none) fun v0 =>
 dS 1 r1 r9 fun v1 =>
 aK h v1 fun v2 =>
 aX .i64 v2 fun i3 =>
 aS (cO (F43 [v0, (Value.int .i64 i3)] h) fun v => some (v, h)) fun v4 h4 =>
 eO v4 fun b5 =>
 dF b5
 (wrap64 (Int.add r9 (Int.ofNat 1)) fun i6 =>
 S 3 (AL.v r1 (AL.i (Int.ofNat 5) (AL.i i6 AL.n))) h4)
 (wrap64 (Int.add r9 (Int.ofNat 1)) fun i7 =>
 S 3 (AL.v r1 (AL.i r7 (AL.i i7 AL.n))) h4)
noncomputable def aQ6 (S : Sg) (r1 : Value) (r7 : Int) (r9 : Int) (h : Hp) : aW :=
 dK r1 fun i0 =>
 bX (nG r9 i0) fun b1 =>
 dF b1
 (bX (lW r7 (Int.ofNat 0)) fun b2 =>
 dF b2
 (S 4 (AL.v r1 (AL.i r7 (AL.i r9 AL.n))) h)
 (S 5 (AL.i r7 AL.n) h))
 (S 5 (AL.i r7 AL.n) h)
noncomputable def aQ7 (S : Sg) (r1 : Value) (r7 : Int) (h : Hp) : aW :=
 S 3 (AL.v r1 (AL.i r7 (AL.i (Int.ofNat 0) AL.n))) h
noncomputable def aQ8 (S : Sg) (r1 : Value) (r2 : Value) (r7 : Int) (r8 : Int) (h : Hp) : aW :=
 dS 1 r1 r8 fun v0 =>
 aK h v0 fun v1 =>
 aX .i64 v1 fun i2 =>
 aT 2 r2 fun v3 =>
 aK h v3 fun v4 =>
 dK v4 fun i5 =>
 wrap64 (Int.sub i5 (Int.ofNat 1)) fun i6 =>
 aS (cO (F55 [(Value.int .i64 i2), (Value.int .i64 (Int.ofNat 0)), (Value.int .i64 i6)] h) fun v => some (v, h)) fun v7 h7 =>
 eO v7 fun b8 =>
 bU b8 fun b9 =>
 dF b9
 (wrap64 (Int.add r8 (Int.ofNat 1)) fun i10 =>
 S 1 (AL.v r1 (AL.v r2 (AL.i (Int.ofNat 4) (AL.i i10 AL.n)))) h7)
 (wrap64 (Int.add r8 (Int.ofNat 1)) fun i11 =>
 S 1 (AL.v r1 (AL.v r2 (AL.i r7 (AL.i i11 AL.n)))) h7)
noncomputable def aQ9 (S : Sg) (r1 : Value) (r2 : Value) (r7 : Int) (r8 : Int) (h : Hp) : aW :=
 dK r1 fun i0 =>
 bX (nG r8 i0) fun b1 =>
 dF b1
 (bX (lW r7 (Int.ofNat 0)) fun b2 =>
 dF b2
 (S 2 (AL.v r1 (AL.v r2 (AL.i r7 (AL.i r8 AL.n)))) h)
 (S 6 (AL.v r1 (AL.i r7 AL.n)) h))
 (S 6 (AL.v r1 (AL.i r7 AL.n)) h)
noncomputable def aRA (S : Sg) (r0 : Value) (r1 : Value) (h : Hp) : aW :=
 bS h 25 (Array.toList (Value.cells r0)) fun a0 h0 =>
 aY 4 h0 a0 fun v1 =>
 aS (dV F17 [v1] h0) fun v2 h2 =>
 fK v2 0 fun v3 =>
 aX .i64 v3 fun i4 =>
 fK v2 1 fun v5 =>
 aX .i64 v5 fun i6 =>
 fK v2 2 fun v7 =>
 aX .i64 v7 fun i8 =>
 bX (lW i8 (Int.ofNat 0)) fun b9 =>
 dF b9
 (dK r1 fun i10 =>
 aT 3 a0 fun v11 =>
 aK h2 v11 fun v12 =>
 dK v12 fun i13 =>
 bU (lW i10 i13) fun b14 =>
 dF b14
 (S 1 (AL.v r1 (AL.v a0 (AL.i (Int.ofNat 3) (AL.i (Int.ofNat 0) AL.n)))) h2)
 (S 1 (AL.v r1 (AL.v a0 (AL.i i8 (AL.i (Int.ofNat 0) AL.n)))) h2))
 (S 1 (AL.v r1 (AL.v a0 (AL.i i8 (AL.i (Int.ofNat 0) AL.n)))) h2)
noncomputable def T40 (S : Sg) : Sg := dJ 0 (uV fun r0 => uV fun r1 => uN fun h => aRA S r0 r1 h) (dJ 1 (uV fun r1 => uV fun r2 => uI fun r7 => uI fun r8 => uN fun h => aQ9 S r1 r2 r7 r8 h) (dJ 2 (uV fun r1 => uV fun r2 => uI fun r7 => uI fun r8 => uN fun h => aQ8 S r1 r2 r7 r8 h) (dJ 6 (uV fun r1 => uI fun r7 => uN fun h => aQ7 S r1 r7 h) (dJ 3 (uV fun r1 => uI fun r7 => uI fun r9 => uN fun h => aQ6 S r1 r7 r9 h) (dJ 4 (uV fun r1 => uI fun r7 => uI fun r9 => uN fun h => aQ5 S r1 r7 r9 h) (dJ 5 (uI fun r7 => uN fun h => aQ4 S r7 h) (kP)))))))
noncomputable def F40 (args : List Value) (h : Hp) : aW := bP [Kd.v, Kd.v] args fun al => aP T40 1000000 0 al h
def XZ : Nat := 2 + (65 - 2)
theorem a4E (S : Sg) (r7 : Int) (h : Hp) : aQ4 S r7 h = aF (bK env CO (XZ)) (bM env Try.f40.results.toList) (collect B40 A40 []) 5 S (AL.i r7 AL.n) h := by kernel_rfl
theorem a4F (S : Sg) (r1 : Value) (r7 : Int) (r9 : Int) (h : Hp) : aQ5 S r1 r7 r9 h = aF (bK env CO (XZ)) (bM env Try.f40.results.toList) (collect B40 A40 []) 4 S (AL.v r1 (AL.i r7 (AL.i r9 AL.n))) h := by kernel_rfl
theorem a4G (S : Sg) (r1 : Value) (r7 : Int) (r9 : Int) (h : Hp) : aQ6 S r1 r7 r9 h = aF (bK env CO (XZ)) (bM env Try.f40.results.toList) (collect B40 A40 []) 3 S (AL.v r1 (AL.i r7 (AL.i r9 AL.n))) h := by kernel_rfl
theorem a4H (S : Sg) (r1 : Value) (r7 : Int) (h : Hp) : aQ7 S r1 r7 h = aF (bK env CO (XZ)) (bM env Try.f40.results.toList) (collect B40 A40 []) 6 S (AL.v r1 (AL.i r7 AL.n)) h := by kernel_rfl
theorem a4I (S : Sg) (r1 : Value) (r2 : Value) (r7 : Int) (r8 : Int) (h : Hp) : aQ8 S r1 r2 r7 r8 h = aF (bK env CO (XZ)) (bM env Try.f40.results.toList) (collect B40 A40 []) 2 S (AL.v r1 (AL.v r2 (AL.i r7 (AL.i r8 AL.n)))) h := by kernel_rfl
theorem a4J (S : Sg) (r1 : Value) (r2 : Value) (r7 : Int) (r8 : Int) (h : Hp) : aQ9 S r1 r2 r7 r8 h = aF (bK env CO (XZ)) (bM env Try.f40.results.toList) (collect B40 A40 []) 1 S (AL.v r1 (AL.v r2 (AL.i r7 (AL.i r8 AL.n)))) h := by kernel_rfl
theorem a4K (S : Sg) (r0 : Value) (r1 : Value) (h : Hp) : aRA S r0 r1 h = aF (bK env CO (XZ)) (bM env Try.f40.results.toList) (collect B40 A40 []) 0 S (AL.v r0 (AL.v r1 AL.n)) h := by kernel_rfl
theorem t40 (S : Sg) : dW (fun l vs h => aF (bK env CO XZ) (bM env Try.f40.results.toList) (collect B40 A40 []) l S vs h) (T40 S) := by
 unfold T40
 refine dW.cons 0 (fun fJ h q e0 => ?_) ?_
 ·obtain ⟨r0, vs1, rfl, e1⟩ := aC e0
  obtain ⟨r1, vs2, rfl, e2⟩ := aC e1
  obtain ⟨rfl, ee⟩ := aN e2
  exact (a4K S r0 r1 h).symm.trans ee
 refine dW.cons 1 (fun fJ h q e0 => ?_) ?_
 ·obtain ⟨r1, vs1, rfl, e1⟩ := aC e0
  obtain ⟨r2, vs2, rfl, e2⟩ := aC e1
  obtain ⟨r7, vs3, rfl, e3⟩ := aM e2
  obtain ⟨r8, pF, rfl, e4⟩ := aM e3
  obtain ⟨rfl, ee⟩ := aN e4
  exact (a4J S r1 r2 r7 r8 h).symm.trans ee
 refine dW.cons 2 (fun fJ h q e0 => ?_) ?_
 ·obtain ⟨r1, vs1, rfl, e1⟩ := aC e0
  obtain ⟨r2, vs2, rfl, e2⟩ := aC e1
  obtain ⟨r7, vs3, rfl, e3⟩ := aM e2
  obtain ⟨r8, pF, rfl, e4⟩ := aM e3
  obtain ⟨rfl, ee⟩ := aN e4
  exact (a4I S r1 r2 r7 r8 h).symm.trans ee
 refine dW.cons 6 (fun fJ h q e0 => ?_) ?_
 ·obtain ⟨r1, vs1, rfl, e1⟩ := aC e0
  obtain ⟨r7, vs2, rfl, e2⟩ := aM e1
  obtain ⟨rfl, ee⟩ := aN e2
  exact (a4H S r1 r7 h).symm.trans ee
 refine dW.cons 3 (fun fJ h q e0 => ?_) ?_
 ·obtain ⟨r1, vs1, rfl, e1⟩ := aC e0
  obtain ⟨r7, vs2, rfl, e2⟩ := aM e1
  obtain ⟨r9, vs3, rfl, e3⟩ := aM e2
  obtain ⟨rfl, ee⟩ := aN e3
  exact (a4G S r1 r7 r9 h).symm.trans ee
 refine dW.cons 4 (fun fJ h q e0 => ?_) ?_
 ·obtain ⟨r1, vs1, rfl, e1⟩ := aC e0
  obtain ⟨r7, vs2, rfl, e2⟩ := aM e1
  obtain ⟨r9, vs3, rfl, e3⟩ := aM e2
  obtain ⟨rfl, ee⟩ := aN e3
  exact (a4F S r1 r7 r9 h).symm.trans ee
 refine dW.cons 5 (fun fJ h q e0 => ?_) ?_
 ·obtain ⟨r7, vs1, rfl, e1⟩ := aM e0
  obtain ⟨rfl, ee⟩ := aN e1
  exact (a4E S r7 h).symm.trans ee
 exact dW.nil
theorem r40 : ∀ args h v h', F40 args h = some (v, h') → gW (C54) (.call 40 args.toArray h) (.ret v h') := by
 intro args h v h' e
 exact bJ (C := C54) (fn := Try.f40) (body := B40) (np := 2) (A := A40) (T := T40) (kinds := [Kd.v, Kd.v]) (by kernel_rfl) (by kernel_rfl) (by kernel_rfl) (by kernel_rfl) (dH eF) (by kernel_rfl) (fun S => t40 S) e
noncomputable def zT := kH 40 F40 CO
noncomputable def C55 : dM := cfg zT
theorem bF2 : C55.Ok := dI (C := C54) bF1 r40
noncomputable def B61 : Code := (Try.f61.body).getD .skip
def A61 : aB := (aB.node (some (0, [(0, Kd.v), (1, Kd.v)])) aB.nil (aB.node none aB.nil (aB.node none (aB.node none aB.nil (aB.node none (aB.node (some (1, [(1, Kd.v), (2, Kd.v), (5, Kd.v), (6, Kd.i .i64)])) (aB.node none (aB.node none aB.nil (aB.node none aB.nil aB.nil)) (aB.node none (aB.node none (aB.node none aB.nil (aB.node none (aB.node none aB.nil (aB.node none (aB.node (some (2, [(1, Kd.v), (2, Kd.v), (5, Kd.v), (6, Kd.i .i64), (7, Kd.i .i64), (8, Kd.i .i64)])) (aB.node none (aB.node none aB.nil (aB.node none aB.nil aB.nil)) (aB.node none (aB.node none (aB.node none aB.nil (aB.node none (aB.node none aB.nil (aB.node none aB.nil aB.nil)) (aB.node none (aB.node none aB.nil (aB.node none aB.nil aB.nil)) (aB.node (some (3, [(1, Kd.v), (2, Kd.v), (5, Kd.v), (6, Kd.i .i64), (7, Kd.i .i64), (8, Kd.i .i64), (10, Kd.v)])) aB.nil (aB.node none aB.nil aB.nil))))) aB.nil) (aB.node (some (4, [(1, Kd.v), (2, Kd.v), (5, Kd.v), (6, Kd.i .i64), (7, Kd.i .i64), (8, Kd.i .i64)])) aB.nil aB.nil))) aB.nil) aB.nil)) (aB.node (some (5, [(1, Kd.v), (2, Kd.v), (5, Kd.v), (6, Kd.i .i64), (7, Kd.i .i64)])) aB.nil aB.nil))) aB.nil) (aB.node (some (6, [(1, Kd.v), (2, Kd.v), (5, Kd.v), (6, Kd.i .i64)])) aB.nil aB.nil))) aB.nil) aB.nil)) (aB.node (some (7, [(5, Kd.v)])) aB.nil aB.nil))))
noncomputable def aRB (S : Sg) (r5 : Value) (h : Hp) : aW :=
 some (r5, h)
noncomputable def aRC (S : Sg) (r1 : Value) (r2 : Value) (r5 : Value) (r6 : Int) (h : Hp) : aW :=
 wrap64 (Int.add r6 (Int.ofNat 1)) fun i0 =>
 S 1 (AL.v r1 (AL.v r2 (AL.v r5 (AL.i i0 AL.n)))) h
noncomputable def aRD (S : Sg) (r1 : Value) (r2 : Value) (r5 : Value) (r6 : Int) (r7 : Int) (h : Hp) : aW :=
 aS (bO env h 22 1 (List.toArray [(0, (Value.int .i64 r7))])) fun v0 h0 =>
 aS (eX env h0 #[22, 22] (List.toArray [r5, v0])) fun v1 h1 =>
 S 6 (AL.v r1 (AL.v r2 (AL.v v1 (AL.i r6 AL.n)))) h1
noncomputable def aRE (S : Sg) (r1 : Value) (r2 : Value) (r5 : Value) (r6 : Int) (r7 : Int) (r8 : Int) (h : Hp) : aW :=
 wrap64 (Int.add r8 (Int.ofNat 1)) fun i0 =>
 S 2 (AL.v r1 (AL.v r2 (AL.v r5 (AL.i r6 (AL.i r7 (AL.i i0 AL.n)))))) h
noncomputable def aRF (S : Sg) (r1 : Value) (r2 : Value) (r5 : Value) (r6 : Int) (r7 : Int) (r8 : Int) (dR : Value) (h : Hp) : aW :=
 aT 1 dR fun v0 =>
 aK h v0 fun v1 =>
 dS 1 v1 (Int.ofNat 0) fun v2 =>
 aK h v2 fun v3 =>
 aX .i64 v3 fun i4 =>
 bX (lW i4 r6) fun b5 =>
 dF b5
 (aT 2 dR fun v6 =>
 aK h v6 fun v7 =>
 aX .i64 v7 fun i8 =>
 wrap64 (Int.sub r7 i8) fun i9 =>
 S 4 (AL.v r1 (AL.v r2 (AL.v r5 (AL.i r6 (AL.i i9 (AL.i r8 AL.n)))))) h)
 (S 4 (AL.v r1 (AL.v r2 (AL.v r5 (AL.i r6 (AL.i r7 (AL.i r8 AL.n)))))) h)
noncomputable def aRG (S : Sg) (r1 : Value) (r2 : Value) (r5 : Value) (r6 : Int) (r7 : Int) (r8 : Int) (h : Hp) : aW :=
 dK r1 fun i0 =>
 bX (nG r8 i0) fun b1 =>
 dF b1
 (aT 2 r2 fun v2 =>
 aK (Hp.mk (Hp.next h) (Hp.next h) (Hp.aG h)) v2 fun v3 =>
 dS 1 r1 r8 fun v4 =>
 aK (Hp.mk (Hp.next h) (Hp.next h) (Hp.aG h)) v4 fun v5 =>
 aX .i64 v5 fun i6 =>
 dS 3 v3 i6 fun v7 =>
 aY 3 (Hp.mk (Hp.next h) (Hp.next h) (Hp.aG h)) v7 fun v8 =>
 aT 3 r2 fun v9 =>
 aK (Hp.mk (Hp.next h) (Hp.next h) (Hp.aG h)) v9 fun v10 =>
 dS 3 v10 r8 fun v11 =>
 aY 3 (Hp.mk (Hp.next h) (Hp.next h) (Hp.aG h)) v11 fun v12 =>
 bS (Hp.mk (Hp.next h) (Hp.next h) T.nil) 59 [(Value.string (ByteArray.mk #[])), (Value.slice none 0 0), (Value.int .i64 (Int.ofNat 0))] fun a13 h13 =>
 kX a13 (Hp.next h) h13 fun w14 n14 =>
 bS (Hp.mk n14 n14 T.nil) 59 [(Value.string (ByteArray.mk #[])), (Value.slice none 0 0), (Value.int .i64 (Int.ofNat 0))] fun a15 h15 =>
 kX a15 n14 h15 fun w16 n16 =>
 wR env 59 a13 v8 n16 (Hp.next h) (bN w16 (bN w14 (Hp.aG h))) (fun b => (bY [] b || (bY [] b || (bY [] b || (bY [] b || (bY [] b || (bY [] b || (bY [] b || (bY [] b || (bY w14 b || (bY w16 b || false))))))))))) fun w17 =>
 fG 3 (Hp.mk n16 (Hp.ro h) (bN w17 (bN w16 (bN w14 (Hp.aG h))))) a15 v12 fun h18 =>
 aY 3 h18 a13 fun v19 =>
 aY 3 h18 a15 fun v20 =>
 aS (dV F57 [v19, v20] h18) fun v21 h21 =>
 aS (cO (F43 [v21, (Value.int .i64 (Int.ofNat 0))] h21) fun v => some (v, h21)) fun v22 h22 =>
 eO v22 fun b23 =>
 bU b23 fun b24 =>
 dF b24
 (S 4 (AL.v r1 (AL.v r2 (AL.v r5 (AL.i r6 (AL.i r7 (AL.i r8 AL.n)))))) h22)
 (aT 1 a13 fun v25 =>
 aK h22 v25 fun v26 =>
 dS 1 v26 (Int.ofNat 0) fun v27 =>
 aK h22 v27 fun v28 =>
 aX .i64 v28 fun i29 =>
 bX (lW i29 r6) fun b30 =>
 dF b30
 (aT 2 a13 fun v31 =>
 aK h22 v31 fun v32 =>
 aX .i64 v32 fun i33 =>
 wrap64 (Int.add r7 i33) fun i34 =>
 S 3 (AL.v r1 (AL.v r2 (AL.v r5 (AL.i r6 (AL.i i34 (AL.i r8 (AL.v a15 AL.n))))))) h22)
 (S 3 (AL.v r1 (AL.v r2 (AL.v r5 (AL.i r6 (AL.i r7 (AL.i r8 (AL.v a15 AL.n))))))) h22)))
 (S 5 (AL.v r1 (AL.v r2 (AL.v r5 (AL.i r6 (AL.i r7 AL.n))))) h)
noncomputable def aRH (S : Sg) (r1 : Value) (r2 : Value) (r5 : Value) (r6 : Int) (h : Hp) : aW :=
 aT 1 r2 fun v0 =>
 aK h v0 fun v1 =>
 dK v1 fun i2 =>
 bX (nG r6 i2) fun b3 =>
 dF b3
 (aT 1 r2 fun v4 =>
 aK h v4 fun v5 =>
 dS 1 v5 r6 fun v6 =>
 aK h v6 fun v7 =>
 aX .i64 v7 fun i8 =>
 S 2 (AL.v r1 (AL.v r2 (AL.v r5 (AL.i r6 (AL.i i8 (AL.i (Int.ofNat 0) AL.n)))))) h)
 (S 7 (AL.v r5 AL.n) h)
noncomputable def aRI (S : Sg) (r0 : Value) (r1 : Value) (h : Hp) : aW :=
 bS h 25 (Array.toList (Value.cells r0)) fun a0 h0 =>
 S 1 (AL.v r1 (AL.v a0 (AL.v (Value.slice none 0 0) (AL.i (Int.ofNat 0) AL.n)))) h0
noncomputable def T61 (S : Sg) : Sg := dJ 0 (uV fun r0 => uV fun r1 => uN fun h => aRI S r0 r1 h) (dJ 1 (uV fun r1 => uV fun r2 => uV fun r5 => uI fun r6 => uN fun h => aRH S r1 r2 r5 r6 h) (dJ 2 (uV fun r1 => uV fun r2 => uV fun r5 => uI fun r6 => uI fun r7 => uI fun r8 => uN fun h => aRG S r1 r2 r5 r6 r7 r8 h) (dJ 3 (uV fun r1 => uV fun r2 => uV fun r5 => uI fun r6 => uI fun r7 => uI fun r8 => uV fun dR => uN fun h => aRF S r1 r2 r5 r6 r7 r8 dR h) (dJ 4 (uV fun r1 => uV fun r2 => uV fun r5 => uI fun r6 => uI fun r7 => uI fun r8 => uN fun h => aRE S r1 r2 r5 r6 r7 r8 h) (dJ 5 (uV fun r1 => uV fun r2 => uV fun r5 => uI fun r6 => uI fun r7 => uN fun h => aRD S r1 r2 r5 r6 r7 h) (dJ 6 (uV fun r1 => uV fun r2 => uV fun r5 => uI fun r6 => uN fun h => aRC S r1 r2 r5 r6 h) (dJ 7 (uV fun r5 => uN fun h => aRB S r5 h) (kP))))))))
noncomputable def F61 (args : List Value) (h : Hp) : aW := bP [Kd.v, Kd.v] args fun al => aP T61 1000000 0 al h
def UI : Nat := 2 + (72 - 2)
theorem a4M (S : Sg) (r5 : Value) (h : Hp) : aRB S r5 h = aF (bK env zT (UI)) (bM env Try.f61.results.toList) (collect B61 A61 []) 7 S (AL.v r5 AL.n) h := by kernel_rfl
theorem a4N (S : Sg) (r1 : Value) (r2 : Value) (r5 : Value) (r6 : Int) (h : Hp) : aRC S r1 r2 r5 r6 h = aF (bK env zT (UI)) (bM env Try.f61.results.toList) (collect B61 A61 []) 6 S (AL.v r1 (AL.v r2 (AL.v r5 (AL.i r6 AL.n)))) h := by kernel_rfl
theorem a4O (S : Sg) (r1 : Value) (r2 : Value) (r5 : Value) (r6 : Int) (r7 : Int) (h : Hp) : aRD S r1 r2 r5 r6 r7 h = aF (bK env zT (UI)) (bM env Try.f61.results.toList) (collect B61 A61 []) 5 S (AL.v r1 (AL.v r2 (AL.v r5 (AL.i r6 (AL.i r7 AL.n))))) h := by kernel_rfl
theorem a4P (S : Sg) (r1 : Value) (r2 : Value) (r5 : Value) (r6 : Int) (r7 : Int) (r8 : Int) (h : Hp) : aRE S r1 r2 r5 r6 r7 r8 h = aF (bK env zT (UI)) (bM env Try.f61.results.toList) (collect B61 A61 []) 4 S (AL.v r1 (AL.v r2 (AL.v r5 (AL.i r6 (AL.i r7 (AL.i r8 AL.n)))))) h := by kernel_rfl
theorem a4Q (S : Sg) (r1 : Value) (r2 : Value) (r5 : Value) (r6 : Int) (r7 : Int) (r8 : Int) (dR : Value) (h : Hp) : aRF S r1 r2 r5 r6 r7 r8 dR h = aF (bK env zT (UI)) (bM env Try.f61.results.toList) (collect B61 A61 []) 3 S (AL.v r1 (AL.v r2 (AL.v r5 (AL.i r6 (AL.i r7 (AL.i r8 (AL.v dR AL.n))))))) h := by kernel_rfl
theorem a4R (S : Sg) (r1 : Value) (r2 : Value) (r5 : Value) (r6 : Int) (r7 : Int) (r8 : Int) (h : Hp) : aRG S r1 r2 r5 r6 r7 r8 h = aF (bK env zT (UI)) (bM env Try.f61.results.toList) (collect B61 A61 []) 2 S (AL.v r1 (AL.v r2 (AL.v r5 (AL.i r6 (AL.i r7 (AL.i r8 AL.n)))))) h := by kernel_rfl
theorem a4S (S : Sg) (r1 : Value) (r2 : Value) (r5 : Value) (r6 : Int) (h : Hp) : aRH S r1 r2 r5 r6 h = aF (bK env zT (UI)) (bM env Try.f61.results.toList) (collect B61 A61 []) 1 S (AL.v r1 (AL.v r2 (AL.v r5 (AL.i r6 AL.n)))) h := by kernel_rfl
theorem a4T (S : Sg) (r0 : Value) (r1 : Value) (h : Hp) : aRI S r0 r1 h = aF (bK env zT (UI)) (bM env Try.f61.results.toList) (collect B61 A61 []) 0 S (AL.v r0 (AL.v r1 AL.n)) h := by kernel_rfl
theorem t61 (S : Sg) : dW (fun l vs h => aF (bK env zT UI) (bM env Try.f61.results.toList) (collect B61 A61 []) l S vs h) (T61 S) := by
 unfold T61
 refine dW.cons 0 (fun fJ h q e0 => ?_) ?_
 ·obtain ⟨r0, vs1, rfl, e1⟩ := aC e0
  obtain ⟨r1, vs2, rfl, e2⟩ := aC e1
  obtain ⟨rfl, ee⟩ := aN e2
  exact (a4T S r0 r1 h).symm.trans ee
 refine dW.cons 1 (fun fJ h q e0 => ?_) ?_
 ·obtain ⟨r1, vs1, rfl, e1⟩ := aC e0
  obtain ⟨r2, vs2, rfl, e2⟩ := aC e1
  obtain ⟨r5, vs3, rfl, e3⟩ := aC e2
  obtain ⟨r6, pF, rfl, e4⟩ := aM e3
  obtain ⟨rfl, ee⟩ := aN e4
  exact (a4S S r1 r2 r5 r6 h).symm.trans ee
 refine dW.cons 2 (fun fJ h q e0 => ?_) ?_
 ·obtain ⟨r1, vs1, rfl, e1⟩ := aC e0
  obtain ⟨r2, vs2, rfl, e2⟩ := aC e1
  obtain ⟨r5, vs3, rfl, e3⟩ := aC e2
  obtain ⟨r6, pF, rfl, e4⟩ := aM e3
  obtain ⟨r7, zS, rfl, e5⟩ := aM e4
  obtain ⟨r8, UG, rfl, e6⟩ := aM e5
  obtain ⟨rfl, ee⟩ := aN e6
  exact (a4R S r1 r2 r5 r6 r7 r8 h).symm.trans ee
 refine dW.cons 3 (fun fJ h q e0 => ?_) ?_
 ·obtain ⟨r1, vs1, rfl, e1⟩ := aC e0
  obtain ⟨r2, vs2, rfl, e2⟩ := aC e1
  obtain ⟨r5, vs3, rfl, e3⟩ := aC e2
  obtain ⟨r6, pF, rfl, e4⟩ := aM e3
  obtain ⟨r7, zS, rfl, e5⟩ := aM e4
  obtain ⟨r8, UG, rfl, e6⟩ := aM e5
  obtain ⟨dR, vs7, rfl, e7⟩ := aC e6
  obtain ⟨rfl, ee⟩ := aN e7
  exact (a4Q S r1 r2 r5 r6 r7 r8 dR h).symm.trans ee
 refine dW.cons 4 (fun fJ h q e0 => ?_) ?_
 ·obtain ⟨r1, vs1, rfl, e1⟩ := aC e0
  obtain ⟨r2, vs2, rfl, e2⟩ := aC e1
  obtain ⟨r5, vs3, rfl, e3⟩ := aC e2
  obtain ⟨r6, pF, rfl, e4⟩ := aM e3
  obtain ⟨r7, zS, rfl, e5⟩ := aM e4
  obtain ⟨r8, UG, rfl, e6⟩ := aM e5
  obtain ⟨rfl, ee⟩ := aN e6
  exact (a4P S r1 r2 r5 r6 r7 r8 h).symm.trans ee
 refine dW.cons 5 (fun fJ h q e0 => ?_) ?_
 ·obtain ⟨r1, vs1, rfl, e1⟩ := aC e0
  obtain ⟨r2, vs2, rfl, e2⟩ := aC e1
  obtain ⟨r5, vs3, rfl, e3⟩ := aC e2
  obtain ⟨r6, pF, rfl, e4⟩ := aM e3
  obtain ⟨r7, zS, rfl, e5⟩ := aM e4
  obtain ⟨rfl, ee⟩ := aN e5
  exact (a4O S r1 r2 r5 r6 r7 h).symm.trans ee
 refine dW.cons 6 (fun fJ h q e0 => ?_) ?_
 ·obtain ⟨r1, vs1, rfl, e1⟩ := aC e0
  obtain ⟨r2, vs2, rfl, e2⟩ := aC e1
  obtain ⟨r5, vs3, rfl, e3⟩ := aC e2
  obtain ⟨r6, pF, rfl, e4⟩ := aM e3
  obtain ⟨rfl, ee⟩ := aN e4
  exact (a4N S r1 r2 r5 r6 h).symm.trans ee
 refine dW.cons 7 (fun fJ h q e0 => ?_) ?_
 ·obtain ⟨r5, vs1, rfl, e1⟩ := aC e0
  obtain ⟨rfl, ee⟩ := aN e1
  exact (a4M S r5 h).symm.trans ee
 exact dW.nil
theorem r61 : ∀ args h v h', F61 args h = some (v, h') → gW (C55) (.call 61 args.toArray h) (.ret v h') := by
 intro args h v h' e
 exact bJ (C := C55) (fn := Try.f61) (body := B61) (np := 2) (A := A61) (T := T61) (kinds := [Kd.v, Kd.v]) (by kernel_rfl) (by kernel_rfl) (by kernel_rfl) (by kernel_rfl) (dH eF) (by kernel_rfl) (fun S => t61 S) e
noncomputable def aEC := kH 61 F61 zT
noncomputable def C56 : dM := cfg aEC
theorem bF4 : C56.Ok := dI (C := C55) bF2 r61
noncomputable def B23 : Code := (Try.f23.body).getD .skip
def A23 : aB := (aB.node (some (0, [(0, Kd.v), (1, Kd.v)])) aB.nil (aB.node none aB.nil (aB.node none (aB.node none aB.nil (aB.node none (aB.node none aB.nil aB.nil) aB.nil)) (aB.node none aB.nil aB.nil))))
noncomputable def aRJ (S : Sg) (r0 : Value) (r1 : Value) (h : Hp) : aW :=
 bS h 25 (Array.toList (Value.cells r0)) fun a0 h0 =>
 aY 4 h0 a0 fun v1 =>
 aS (dV F40 [v1, r1] h0) fun v2 h2 =>
 aX .i64 v2 fun i3 =>
 bU (lW i3 (Int.ofNat 0)) fun b4 =>
 dF b4
 (some (Value.tuple (List.toArray [(Value.slice none 0 0), (Value.int .i64 i3)]), h2))
 (aY 4 h2 a0 fun v5 =>
 aS (dV F61 [v5, r1] h2) fun v6 h6 =>
 some (Value.tuple (List.toArray [v6, (Value.int .i64 (Int.ofNat 0))]), h6))
noncomputable def T23 (S : Sg) : Sg := dJ 0 (uV fun r0 => uV fun r1 => uN fun h => aRJ S r0 r1 h) (kP)
noncomputable def F23 (args : List Value) (h : Hp) : aW := bP [Kd.v, Kd.v] args fun al => aP T23 1000000 0 al h
def a4U : Nat := 2 + (16 - 2)
theorem a4V (S : Sg) (r0 : Value) (r1 : Value) (h : Hp) : aRJ S r0 r1 h = aF (bK env aEC (a4U)) (bM env Try.f23.results.toList) (collect B23 A23 []) 0 S (AL.v r0 (AL.v r1 AL.n)) h := by kernel_rfl
theorem t23 (S : Sg) : dW (fun l vs h => aF (bK env aEC a4U) (bM env Try.f23.results.toList) (collect B23 A23 []) l S vs h) (T23 S) := by
 unfold T23
 refine dW.cons 0 (fun fJ h q e0 => ?_) ?_
 ·obtain ⟨r0, vs1, rfl, e1⟩ := aC e0
  obtain ⟨r1, vs2, rfl, e2⟩ := aC e1
  obtain ⟨rfl, ee⟩ := aN e2
  exact (a4V S r0 r1 h).symm.trans ee
 exact dW.nil
theorem r23 : ∀ args h v h', F23 args h = some (v, h') → gW (C56) (.call 23 args.toArray h) (.ret v h') := by
 intro args h v h' e
 exact bJ (C := C56) (fn := Try.f23) (body := B23) (np := 2) (A := A23) (T := T23) (kinds := [Kd.v, Kd.v]) (by kernel_rfl) (by kernel_rfl) (by kernel_rfl) (by kernel_rfl) (dH eF) (by kernel_rfl) (fun S => t23 S) e
noncomputable def Q0 := kH 23 F23 aEC
noncomputable def C57 : dM := cfg Q0
theorem bF8 : C57.Ok := dI (C := C56) bF4 r23
noncomputable def B78 : Code := (Try.f78.body).getD .skip
def A78 : aB := (aB.node (some (0, [(0, Kd.v)])) aB.nil (aB.node none aB.nil (aB.node none aB.nil (aB.node none (aB.node none aB.nil (aB.node none (aB.node (some (1, [(0, Kd.v), (4, Kd.v), (5, Kd.i .i64), (6, Kd.i .i64)])) (aB.node none (aB.node none aB.nil (aB.node none aB.nil aB.nil)) (aB.node none (aB.node none (aB.node none aB.nil (aB.node none aB.nil aB.nil)) aB.nil) aB.nil)) aB.nil) aB.nil)) (aB.node (some (2, [(4, Kd.v), (5, Kd.i .i64)])) aB.nil aB.nil)))))
noncomputable def aRK (S : Sg) (r4 : Value) (r5 : Int) (h : Hp) : aW :=
 some (Value.tuple (List.toArray [r4, (Value.int .i64 r5)]), h)
noncomputable def aRL (S : Sg) (r0 : Value) (r4 : Value) (r5 : Int) (r6 : Int) (h : Hp) : aW :=
 dK r0 fun i0 =>
 bX (nG r6 i0) fun b1 =>
 dF b1
 (dS 1 r0 r6 fun v2 =>
 aK h v2 fun v3 =>
 aX .i64 v3 fun i4 =>
 wrap64 (Int.sub (Int.ofNat 0) i4) fun i5 =>
 aMF (Int.ofNat 0) i5 fun i6 =>
 aS (bO env h 22 1 (List.toArray [(0, (Value.int .i64 i6))])) fun v7 h7 =>
 aS (eX env h7 #[22, 22] (List.toArray [r4, v7])) fun v8 h8 =>
 wrap64 (Int.add r5 i6) fun i9 =>
 wrap64 (Int.add r6 (Int.ofNat 1)) fun i10 =>
 S 1 (AL.v r0 (AL.v v8 (AL.i i9 (AL.i i10 AL.n)))) h8)
 (S 2 (AL.v r4 (AL.i r5 AL.n)) h)
noncomputable def aRM (S : Sg) (r0 : Value) (h : Hp) : aW :=
 S 1 (AL.v r0 (AL.v (Value.slice none 0 0) (AL.i (Int.ofNat 0) (AL.i (Int.ofNat 0) AL.n)))) h
noncomputable def T78 (S : Sg) : Sg := dJ 0 (uV fun r0 => uN fun h => aRM S r0 h) (dJ 1 (uV fun r0 => uV fun r4 => uI fun r5 => uI fun r6 => uN fun h => aRL S r0 r4 r5 r6 h) (dJ 2 (uV fun r4 => uI fun r5 => uN fun h => aRK S r4 r5 h) (kP)))
noncomputable def F78 (args : List Value) (h : Hp) : aW := bP [Kd.v] args fun al => aP T78 1000000 0 al h
def aOD : Nat := 1 + (29 - 1)
theorem a4Y (S : Sg) (r4 : Value) (r5 : Int) (h : Hp) : aRK S r4 r5 h = aF (bK env Q0 (aOD)) (bM env Try.f78.results.toList) (collect B78 A78 []) 2 S (AL.v r4 (AL.i r5 AL.n)) h := by kernel_rfl
theorem a4Z (S : Sg) (r0 : Value) (r4 : Value) (r5 : Int) (r6 : Int) (h : Hp) : aRL S r0 r4 r5 r6 h = aF (bK env Q0 (aOD)) (bM env Try.f78.results.toList) (collect B78 A78 []) 1 S (AL.v r0 (AL.v r4 (AL.i r5 (AL.i r6 AL.n)))) h := by kernel_rfl
theorem a5A (S : Sg) (r0 : Value) (h : Hp) : aRM S r0 h = aF (bK env Q0 (aOD)) (bM env Try.f78.results.toList) (collect B78 A78 []) 0 S (AL.v r0 AL.n) h := by kernel_rfl
theorem t78 (S : Sg) : dW (fun l vs h => aF (bK env Q0 aOD) (bM env Try.f78.results.toList) (collect B78 A78 []) l S vs h) (T78 S) := by
 unfold T78
 refine dW.cons 0 (fun fJ h q e0 => ?_) ?_
 ·obtain ⟨r0, vs1, rfl, e1⟩ := aC e0
  obtain ⟨rfl, ee⟩ := aN e1
  exact (a5A S r0 h).symm.trans ee
 refine dW.cons 1 (fun fJ h q e0 => ?_) ?_
 ·obtain ⟨r0, vs1, rfl, e1⟩ := aC e0
  obtain ⟨r4, vs2, rfl, e2⟩ := aC e1
  obtain ⟨r5, vs3, rfl, e3⟩ := aM e2
  obtain ⟨r6, pF, rfl, e4⟩ := aM e3
  obtain ⟨rfl, ee⟩ := aN e4
  exact (a4Z S r0 r4 r5 r6 h).symm.trans ee
 refine dW.cons 2 (fun fJ h q e0 => ?_) ?_
 ·obtain ⟨r4, vs1, rfl, e1⟩ := aC e0
  obtain ⟨r5, vs2, rfl, e2⟩ := aM e1
  obtain ⟨rfl, ee⟩ := aN e2
  exact (a4Y S r4 r5 h).symm.trans ee
 exact dW.nil
theorem r78 : ∀ args h v h', F78 args h = some (v, h') → gW (C57) (.call 78 args.toArray h) (.ret v h') := by
 intro args h v h' e
 exact bJ (C := C57) (fn := Try.f78) (body := B78) (np := 1) (A := A78) (T := T78) (kinds := [Kd.v]) (by kernel_rfl) (by kernel_rfl) (by kernel_rfl) (by kernel_rfl) (dH eF) (by kernel_rfl) (fun S => t78 S) e
noncomputable def aED := kH 78 F78 Q0
noncomputable def C58 : dM := cfg aED
theorem bGA : C58.Ok := dI (C := C57) bF8 r78
noncomputable def B39 : Code := (Try.f39.body).getD .skip
def A39 : aB := (aB.node (some (0, [(0, Kd.v), (1, Kd.v)])) aB.nil (aB.node none aB.nil (aB.node none aB.nil aB.nil)))
noncomputable def aRN (S : Sg) (r0 : Value) (r1 : Value) (h : Hp) : aW :=
 bS h 25 (Array.toList (Value.cells r0)) fun a0 h0 =>
 aY 4 h0 a0 fun v1 =>
 aS (dV F61 [v1, r1] h0) fun v2 h2 =>
 aS (dV F78 [v2] h2) fun v3 h3 =>
 fK v3 0 fun v4 =>
 fK v3 1 fun v5 =>
 aX .i64 v5 fun i6 =>
 bX (lW i6 (Int.ofNat 0)) fun b7 =>
 some ((Value.bool b7), h3)
noncomputable def T39 (S : Sg) : Sg := dJ 0 (uV fun r0 => uV fun r1 => uN fun h => aRN S r0 r1 h) (kP)
noncomputable def F39 (args : List Value) (h : Hp) : aW := bP [Kd.v, Kd.v] args fun al => aP T39 1000000 0 al h
def a5B : Nat := 2 + (16 - 2)
theorem a5C (S : Sg) (r0 : Value) (r1 : Value) (h : Hp) : aRN S r0 r1 h = aF (bK env aED (a5B)) (bM env Try.f39.results.toList) (collect B39 A39 []) 0 S (AL.v r0 (AL.v r1 AL.n)) h := by kernel_rfl
theorem t39 (S : Sg) : dW (fun l vs h => aF (bK env aED a5B) (bM env Try.f39.results.toList) (collect B39 A39 []) l S vs h) (T39 S) := by
 unfold T39
 refine dW.cons 0 (fun fJ h q e0 => ?_) ?_
 ·obtain ⟨r0, vs1, rfl, e1⟩ := aC e0
  obtain ⟨r1, vs2, rfl, e2⟩ := aC e1
  obtain ⟨rfl, ee⟩ := aN e2
  exact (a5C S r0 r1 h).symm.trans ee
 exact dW.nil
theorem r39 : ∀ args h v h', F39 args h = some (v, h') → gW (C58) (.call 39 args.toArray h) (.ret v h') := by
 intro args h v h' e
 exact bJ (C := C58) (fn := Try.f39) (body := B39) (np := 2) (A := A39) (T := T39) (kinds := [Kd.v, Kd.v]) (by kernel_rfl) (by kernel_rfl) (by kernel_rfl) (by kernel_rfl) (dH eF) (by kernel_rfl) (fun S => t39 S) e
noncomputable def Q3 := kH 39 F39 aED
noncomputable def C59 : dM := cfg Q3
theorem bGE : C59.Ok := dI (C := C58) bGA r39
noncomputable def B41 : Code := (Try.f41.body).getD .skip
def A41 : aB := (aB.node (some (0, [(0, Kd.v), (1, Kd.v)])) aB.nil (aB.node none aB.nil (aB.node none (aB.node none aB.nil (aB.node none (aB.node (some (1, [(1, Kd.v), (2, Kd.v), (5, Kd.i .i64), (6, Kd.i .i64)])) (aB.node none (aB.node none aB.nil (aB.node none aB.nil aB.nil)) (aB.node none (aB.node none aB.nil aB.nil) aB.nil)) aB.nil) aB.nil)) (aB.node (some (2, [(5, Kd.i .i64)])) aB.nil aB.nil))))
noncomputable def aRO (S : Sg) (r5 : Int) (h : Hp) : aW :=
 some ((Value.int .i64 r5), h)
noncomputable def aRP (S : Sg) (r1 : Value) (r2 : Value) (r5 : Int) (r6 : Int) (h : Hp) : aW :=
 dK r1 fun i0 =>
 bX (nG r6 i0) fun b1 =>
 dF b1
 (aY 4 h r2 fun v2 =>
 aT 2 r2 fun v3 =>
 aK h v3 fun v4 =>
 dS 1 r1 r6 fun v5 =>
 aK h v5 fun v6 =>
 aX .i64 v6 fun i7 =>
 dS 3 v4 i7 fun v8 =>
 aY 3 h v8 fun v9 =>
 aT 3 r2 fun v10 =>
 aK h v10 fun v11 =>
 dS 3 v11 r6 fun v12 =>
 aY 3 h v12 fun v13 =>
 aS (dV F56 [v2, v9, v13] h) fun v14 IA =>
 aX .i64 v14 fun i15 =>
 wrap64 (Int.add r5 i15) fun i16 =>
 wrap64 (Int.add r6 (Int.ofNat 1)) fun i17 =>
 S 1 (AL.v r1 (AL.v r2 (AL.i i16 (AL.i i17 AL.n)))) IA)
 (S 2 (AL.i r5 AL.n) h)
noncomputable def aRQ (S : Sg) (r0 : Value) (r1 : Value) (h : Hp) : aW :=
 bS h 25 (Array.toList (Value.cells r0)) fun a0 h0 =>
 S 1 (AL.v r1 (AL.v a0 (AL.i (Int.ofNat 0) (AL.i (Int.ofNat 0) AL.n)))) h0
noncomputable def T41 (S : Sg) : Sg := dJ 0 (uV fun r0 => uV fun r1 => uN fun h => aRQ S r0 r1 h) (dJ 1 (uV fun r1 => uV fun r2 => uI fun r5 => uI fun r6 => uN fun h => aRP S r1 r2 r5 r6 h) (dJ 2 (uI fun r5 => uN fun h => aRO S r5 h) (kP)))
noncomputable def F41 (args : List Value) (h : Hp) : aW := bP [Kd.v, Kd.v] args fun al => aP T41 1000000 0 al h
def aOE : Nat := 2 + (31 - 2)
theorem a5F (S : Sg) (r5 : Int) (h : Hp) : aRO S r5 h = aF (bK env Q3 (aOE)) (bM env Try.f41.results.toList) (collect B41 A41 []) 2 S (AL.i r5 AL.n) h := by kernel_rfl
theorem a5G (S : Sg) (r1 : Value) (r2 : Value) (r5 : Int) (r6 : Int) (h : Hp) : aRP S r1 r2 r5 r6 h = aF (bK env Q3 (aOE)) (bM env Try.f41.results.toList) (collect B41 A41 []) 1 S (AL.v r1 (AL.v r2 (AL.i r5 (AL.i r6 AL.n)))) h := by kernel_rfl
theorem a5H (S : Sg) (r0 : Value) (r1 : Value) (h : Hp) : aRQ S r0 r1 h = aF (bK env Q3 (aOE)) (bM env Try.f41.results.toList) (collect B41 A41 []) 0 S (AL.v r0 (AL.v r1 AL.n)) h := by kernel_rfl
theorem t41 (S : Sg) : dW (fun l vs h => aF (bK env Q3 aOE) (bM env Try.f41.results.toList) (collect B41 A41 []) l S vs h) (T41 S) := by
 unfold T41
 refine dW.cons 0 (fun fJ h q e0 => ?_) ?_
 ·obtain ⟨r0, vs1, rfl, e1⟩ := aC e0
  obtain ⟨r1, vs2, rfl, e2⟩ := aC e1
  obtain ⟨rfl, ee⟩ := aN e2
  exact (a5H S r0 r1 h).symm.trans ee
 refine dW.cons 1 (fun fJ h q e0 => ?_) ?_
 ·obtain ⟨r1, vs1, rfl, e1⟩ := aC e0
  obtain ⟨r2, vs2, rfl, e2⟩ := aC e1
  obtain ⟨r5, vs3, rfl, e3⟩ := aM e2
  obtain ⟨r6, pF, rfl, e4⟩ := aM e3
  obtain ⟨rfl, ee⟩ := aN e4
  exact (a5G S r1 r2 r5 r6 h).symm.trans ee
 refine dW.cons 2 (fun fJ h q e0 => ?_) ?_
 ·obtain ⟨r5, vs1, rfl, e1⟩ := aM e0
  obtain ⟨rfl, ee⟩ := aN e1
  exact (a5F S r5 h).symm.trans ee
 exact dW.nil
theorem r41 : ∀ args h v h', F41 args h = some (v, h') → gW (C59) (.call 41 args.toArray h) (.ret v h') := by
 intro args h v h' e
 exact bJ (C := C59) (fn := Try.f41) (body := B41) (np := 2) (A := A41) (T := T41) (kinds := [Kd.v, Kd.v]) (by kernel_rfl) (by kernel_rfl) (by kernel_rfl) (by kernel_rfl) (dH eF) (by kernel_rfl) (fun S => t41 S) e
noncomputable def X0 := kH 41 F41 Q3
noncomputable def C60 : dM := cfg X0
theorem bGG : C60.Ok := dI (C := C59) bGE r41
noncomputable def B25 : Code := (Try.f25.body).getD .skip
def A25 : aB := (aB.node (some (0, [(0, Kd.v), (1, Kd.v)])) aB.nil (aB.node none aB.nil (aB.node none (aB.node none aB.nil (aB.node none aB.nil aB.nil)) (aB.node (some (1, [(1, Kd.v), (2, Kd.v), (6, Kd.i .i64)])) (aB.node none aB.nil (aB.node none (aB.node none aB.nil aB.nil) aB.nil)) (aB.node none aB.nil aB.nil)))))
noncomputable def aRR (S : Sg) (r1 : Value) (r2 : Value) (r6 : Int) (h : Hp) : aW :=
 bU (lW r6 (Int.ofNat 0)) fun b0 =>
 dF b0
 (some (Value.tuple (List.toArray [(Value.int .i64 (Int.ofNat 0)), (Value.int .i64 r6)]), h))
 (aY 4 h r2 fun v1 =>
 aS (dV F41 [v1, r1] h) fun v2 h2 =>
 aX .i64 v2 fun i3 =>
 some (Value.tuple (List.toArray [(Value.int .i64 i3), (Value.int .i64 (Int.ofNat 0))]), h2))
noncomputable def aRS (S : Sg) (r0 : Value) (r1 : Value) (h : Hp) : aW :=
 bS h 25 (Array.toList (Value.cells r0)) fun a0 h0 =>
 aY 4 h0 a0 fun v1 =>
 aS (dV F40 [v1, r1] h0) fun v2 h2 =>
 aX .i64 v2 fun i3 =>
 bX (lW i3 (Int.ofNat 0)) fun b4 =>
 dF b4
 (aY 4 h2 a0 fun v5 =>
 aS (dV F39 [v5, r1] h2) fun v6 h6 =>
 eO v6 fun b7 =>
 bU b7 fun b8 =>
 dF b8
 (S 1 (AL.v r1 (AL.v a0 (AL.i (Int.ofNat 9) AL.n))) h6)
 (S 1 (AL.v r1 (AL.v a0 (AL.i i3 AL.n))) h6))
 (S 1 (AL.v r1 (AL.v a0 (AL.i i3 AL.n))) h2)
noncomputable def T25 (S : Sg) : Sg := dJ 0 (uV fun r0 => uV fun r1 => uN fun h => aRS S r0 r1 h) (dJ 1 (uV fun r1 => uV fun r2 => uI fun r6 => uN fun h => aRR S r1 r2 r6 h) (kP))
noncomputable def F25 (args : List Value) (h : Hp) : aW := bP [Kd.v, Kd.v] args fun al => aP T25 1000000 0 al h
def aVL : Nat := 2 + (24 - 2)
theorem a5I (S : Sg) (r1 : Value) (r2 : Value) (r6 : Int) (h : Hp) : aRR S r1 r2 r6 h = aF (bK env X0 (aVL)) (bM env Try.f25.results.toList) (collect B25 A25 []) 1 S (AL.v r1 (AL.v r2 (AL.i r6 AL.n))) h := by kernel_rfl
theorem a5J (S : Sg) (r0 : Value) (r1 : Value) (h : Hp) : aRS S r0 r1 h = aF (bK env X0 (aVL)) (bM env Try.f25.results.toList) (collect B25 A25 []) 0 S (AL.v r0 (AL.v r1 AL.n)) h := by kernel_rfl
theorem t25 (S : Sg) : dW (fun l vs h => aF (bK env X0 aVL) (bM env Try.f25.results.toList) (collect B25 A25 []) l S vs h) (T25 S) := by
 unfold T25
 refine dW.cons 0 (fun fJ h q e0 => ?_) ?_
 ·obtain ⟨r0, vs1, rfl, e1⟩ := aC e0
  obtain ⟨r1, vs2, rfl, e2⟩ := aC e1
  obtain ⟨rfl, ee⟩ := aN e2
  exact (a5J S r0 r1 h).symm.trans ee
 refine dW.cons 1 (fun fJ h q e0 => ?_) ?_
 ·obtain ⟨r1, vs1, rfl, e1⟩ := aC e0
  obtain ⟨r2, vs2, rfl, e2⟩ := aC e1
  obtain ⟨r6, vs3, rfl, e3⟩ := aM e2
  obtain ⟨rfl, ee⟩ := aN e3
  exact (a5I S r1 r2 r6 h).symm.trans ee
 exact dW.nil
theorem D5 : ∀ args h v h', F25 args h = some (v, h') → gW (C60) (.call 25 args.toArray h) (.ret v h') := by
 intro args h v h' e
 exact bJ (C := C60) (fn := Try.f25) (body := B25) (np := 2) (A := A25) (T := T25) (kinds := [Kd.v, Kd.v]) (by kernel_rfl) (by kernel_rfl) (by kernel_rfl) (by kernel_rfl) (dH eF) (by kernel_rfl) (fun S => t25 S) e
noncomputable def X3 := kH 25 F25 X0
noncomputable def C61 : dM := cfg X3
theorem bGI : C61.Ok := dI (C := C60) bGG D5
noncomputable def B4 : Code := (Try.f4.body).getD .skip
def A4 : aB := (aB.node (some (0, [(0, Kd.v), (1, Kd.v)])) aB.nil (aB.node none aB.nil (aB.node none aB.nil (aB.node none (aB.node none aB.nil (aB.node none (aB.node none aB.nil aB.nil) aB.nil)) (aB.node (some (1, [(1, Kd.v), (2, Kd.v)])) aB.nil (aB.node none aB.nil (aB.node none aB.nil aB.nil)))))))
noncomputable def a5K (S : Sg) (r1 : Value) (r2 : Value) (h : Hp) : aW :=
 aY 4 h r2 fun v0 =>
 aS (dV F24 [v0, r1] h) fun v1 h1 =>
 fK v1 0 fun v2 =>
 aX .i64 v2 fun i3 =>
 fK v1 1 fun v4 =>
 aX .i64 v4 fun i5 =>
 aY 4 h1 r2 fun v6 =>
 aS (dV F25 [v6, r1] h1) fun v7 h7 =>
 fK v7 0 fun v8 =>
 aX .i64 v8 fun i9 =>
 fK v7 1 fun v10 =>
 aX .i64 v10 fun i11 =>
 bX (lW i3 i9) fun b12 =>
 dF b12
 (bX (lW i5 i11) fun b13 =>
 dF b13
 (aS (cO (TQ [] h7) fun v => some (v, h7)) fun v14 IA =>
 eO v14 fun b15 =>
 some ((Value.bool b15), IA))
 (some ((Value.bool false), h7)))
 (some ((Value.bool false), h7))
noncomputable def a5L (S : Sg) (r0 : Value) (r1 : Value) (h : Hp) : aW :=
 bS h 25 (Array.toList (Value.cells r0)) fun a0 h0 =>
 aY 4 h0 a0 fun v1 =>
 aS (dV F22 [v1, r1] h0) fun v2 h2 =>
 fK v2 0 fun v3 =>
 fK v2 1 fun v4 =>
 aX .i64 v4 fun i5 =>
 aY 4 h2 a0 fun v6 =>
 aS (dV F23 [v6, r1] h2) fun v7 h7 =>
 fK v7 0 fun v8 =>
 fK v7 1 fun v9 =>
 aX .i64 v9 fun i10 =>
 aS (cO (F20 [v3, v8] h7) fun v => some (v, h7)) fun v11 h11 =>
 eO v11 fun b12 =>
 bU b12 fun b13 =>
 dF b13
 (some ((Value.bool false), h11))
 (bU (lW i5 i10) fun b14 =>
 dF b14
 (some ((Value.bool false), h11))
 (S 1 (AL.v r1 (AL.v a0 AL.n)) h11))
noncomputable def T4 (S : Sg) : Sg := dJ 0 (uV fun r0 => uV fun r1 => uN fun h => a5L S r0 r1 h) (dJ 1 (uV fun r1 => uV fun r2 => uN fun h => a5K S r1 r2 h) (kP))
noncomputable def F4 (args : List Value) (h : Hp) : aW := bP [Kd.v, Kd.v] args fun al => aP T4 1000000 0 al h
def nt4 : Nat := 2 + (55 - 2)
theorem bGK (S : Sg) (r1 : Value) (r2 : Value) (h : Hp) : a5K S r1 r2 h = aF (bK env X3 (nt4)) (bM env Try.f4.results.toList) (collect B4 A4 []) 1 S (AL.v r1 (AL.v r2 AL.n)) h := by kernel_rfl
theorem bGL (S : Sg) (r0 : Value) (r1 : Value) (h : Hp) : a5L S r0 r1 h = aF (bK env X3 (nt4)) (bM env Try.f4.results.toList) (collect B4 A4 []) 0 S (AL.v r0 (AL.v r1 AL.n)) h := by kernel_rfl
theorem t4 (S : Sg) : dW (fun l vs h => aF (bK env X3 nt4) (bM env Try.f4.results.toList) (collect B4 A4 []) l S vs h) (T4 S) := by
 unfold T4
 refine dW.cons 0 (fun fJ h q e0 => ?_) ?_
 ·obtain ⟨r0, vs1, rfl, e1⟩ := aC e0
  obtain ⟨r1, vs2, rfl, e2⟩ := aC e1
  obtain ⟨rfl, ee⟩ := aN e2
  exact (bGL S r0 r1 h).symm.trans ee
 refine dW.cons 1 (fun fJ h q e0 => ?_) ?_
 ·obtain ⟨r1, vs1, rfl, e1⟩ := aC e0
  obtain ⟨r2, vs2, rfl, e2⟩ := aC e1
  obtain ⟨rfl, ee⟩ := aN e2
  exact (bGK S r1 r2 h).symm.trans ee
 exact dW.nil
theorem r4 : ∀ args h v h', F4 args h = some (v, h') → gW (C61) (.call 4 args.toArray h) (.ret v h') := by
 intro args h v h' e
 exact bJ (C := C61) (fn := Try.f4) (body := B4) (np := 2) (A := A4) (T := T4) (kinds := [Kd.v, Kd.v]) (by kernel_rfl) (by kernel_rfl) (by kernel_rfl) (by kernel_rfl) (dH eF) (by kernel_rfl) (fun S => t4 S) e
noncomputable def aEE := kH 4 F4 X3
noncomputable def C62 : dM := cfg aEE
theorem bGM : C62.Ok := dI (C := C61) bGI r4
noncomputable def B37 : Code := (Try.f37.body).getD .skip
def A37 : aB := (aB.node (some (0, [(0, Kd.v)])) aB.nil (aB.node none aB.nil (aB.node none aB.nil aB.nil)))
noncomputable def aC2 (S : Sg) (r0 : Value) (h : Hp) : aW :=
 bS h 25 (Array.toList (Value.cells r0)) fun a0 h0 =>
 aY 4 h0 a0 fun v1 =>
 aS (dV F17 [v1] h0) fun v2 h2 =>
 fK v2 0 fun v3 =>
 aX .i64 v3 fun i4 =>
 fK v2 1 fun v5 =>
 aX .i64 v5 fun i6 =>
 fK v2 2 fun v7 =>
 aX .i64 v7 fun i8 =>
 bX (lW i8 (Int.ofNat 0)) fun b9 =>
 some ((Value.bool b9), h2)
noncomputable def T37 (S : Sg) : Sg := dJ 0 (uV fun r0 => uN fun h => aC2 S r0 h) (kP)
noncomputable def F37 (args : List Value) (h : Hp) : aW := bP [Kd.v] args fun al => aP T37 1000000 0 al h
def a5M : Nat := 1 + (14 - 1)
theorem a5N (S : Sg) (r0 : Value) (h : Hp) : aC2 S r0 h = aF (bK env aEE (a5M)) (bM env Try.f37.results.toList) (collect B37 A37 []) 0 S (AL.v r0 AL.n) h := by kernel_rfl
theorem t37 (S : Sg) : dW (fun l vs h => aF (bK env aEE a5M) (bM env Try.f37.results.toList) (collect B37 A37 []) l S vs h) (T37 S) := by
 unfold T37
 refine dW.cons 0 (fun fJ h q e0 => ?_) ?_
 ·obtain ⟨r0, vs1, rfl, e1⟩ := aC e0
  obtain ⟨rfl, ee⟩ := aN e1
  exact (a5N S r0 h).symm.trans ee
 exact dW.nil
theorem r37 : ∀ args h v h', F37 args h = some (v, h') → gW (C62) (.call 37 args.toArray h) (.ret v h') := by
 intro args h v h' e
 exact bJ (C := C62) (fn := Try.f37) (body := B37) (np := 1) (A := A37) (T := T37) (kinds := [Kd.v]) (by kernel_rfl) (by kernel_rfl) (by kernel_rfl) (by kernel_rfl) (dH eF) (by kernel_rfl) (fun S => t37 S) e
noncomputable def aRT := kH 37 F37 aEE
noncomputable def C63 : dM := cfg aRT
theorem bGP : C63.Ok := dI (C := C62) bGM r37
noncomputable def B46 : Code := (Try.f46.body).getD .skip
noncomputable def A46 : G.aB (List KI) := (G.aB.node (some (0, [KI.reg 0 (Kd.v), KI.reg 1 (Kd.i .i64)])) G.aB.nil (G.aB.node none (G.aB.node none G.aB.nil (G.aB.node none (G.aB.node none G.aB.nil G.aB.nil) G.aB.nil)) (G.aB.node none G.aB.nil G.aB.nil)))
noncomputable def aC3 (h : Hp) (S : Nat → aD → Option Value) (r0 : Value) (r1 : Int) : Option Value :=
 dK r0 fun i0 =>
 bX (lW i0 (Int.ofNat 0)) fun b1 =>
 dF b1
 (some (Value.int .i64 (Int.ofNat 0)))
 (dK r0 fun i2 =>
 rV .i64 (pJ env .rem 3 (Value.int .i64 r1) (Value.int .i64 i2)) fun i3 =>
 dS 1 r0 i3 fun v4 =>
 aK h v4 fun v5 =>
 aX .u8 v5 fun i6 =>
 wrap64 i6 fun i7 =>
 some (Value.int .i64 i7))
noncomputable def T46 (h : Hp) (S : Nat → aD → Option Value) : Nat → aD → Option Value := eP 0 (wV fun r0 => wI fun r1 => wN (aC3 h S r0 r1)) (lY)
noncomputable def F46 (args : List Value) (h : Hp) : Option Value := plainO (eT [Kd.v, Kd.i .i64] args fun al => G.aP (T46 h) 1000000 0 al)
def a5O : Nat := 2 + (16 - 2)
theorem a5P (h : Hp) (S : Nat → aD → Option Value) (r0 : Value) (r1 : Int) : aC3 h S r0 r1 = G.aF bR aQ fC (fF env aLJ a5O h) (fH env Try.f46.results.toList) (G.collect B46 A46 []) 0 S (aD.v r0 (aD.i r1 aD.n)) := by kernel_rfl
theorem t46 (h : Hp) (S : Nat → aD → Option Value) : dG (fun l al => G.aF bR aQ fC (fF env aLJ a5O h) (fH env Try.f46.results.toList) (G.collect B46 A46 []) l S al) (T46 h S) := by
 unfold T46
 refine dG.cons 0 (fun fJ q e0 => ?_) ?_
 ·obtain ⟨r0, vs1, rfl, e1⟩ := bA e0
  obtain ⟨r1, vs2, rfl, e2⟩ := aV e1
  obtain ⟨rfl, ee⟩ := bQ e2
  exact (a5P h S r0 r1).symm.trans ee
 exact dG.nil
theorem r46 : PSound Try.prog 46 F46 := dY (C := C0) ok0 (pf := aLJ) aLK (fn := Try.f46) (body := B46) (kinds := [Kd.v, Kd.i .i64]) (A := A46) (T := T46) (by kernel_rfl) (by kernel_rfl) (by kernel_rfl) (by kernel_rfl) (fun h S => t46 h S)
noncomputable def bGS : PF := JF 46 F46 aLJ
theorem bGT : fT Try.prog bGS := jJ r46 aLK
noncomputable def FQ := o8 46 F46 aRT
noncomputable def C64 : dM := cfg FQ
theorem bGU : C64.Ok := gP (C := C63) bGP r46
noncomputable def B38 : Code := (Try.f38.body).getD .skip
def A38 : aB := (aB.node (some (0, [(0, Kd.v), (1, Kd.v)])) aB.nil (aB.node none aB.nil (aB.node none (aB.node none aB.nil (aB.node none (aB.node (some (1, [(1, Kd.v), (2, Kd.v), (5, Kd.v), (6, Kd.v), (7, Kd.i .i64)])) (aB.node none (aB.node none aB.nil (aB.node none aB.nil aB.nil)) (aB.node none (aB.node none aB.nil aB.nil) aB.nil)) aB.nil) aB.nil)) (aB.node (some (5, [(1, Kd.v), (2, Kd.v), (5, Kd.v), (6, Kd.v)])) (aB.node none aB.nil (aB.node none (aB.node (some (2, [(1, Kd.v), (2, Kd.v), (5, Kd.v), (6, Kd.v), (8, Kd.i .i64)])) (aB.node none (aB.node none aB.nil (aB.node none aB.nil aB.nil)) (aB.node (some (3, [(1, Kd.v), (2, Kd.v), (5, Kd.v), (6, Kd.v), (8, Kd.i .i64)])) (aB.node none (aB.node none aB.nil (aB.node none aB.nil aB.nil)) aB.nil) aB.nil)) aB.nil) aB.nil)) (aB.node (some (4, [(6, Kd.v)])) aB.nil aB.nil)))))
noncomputable def aRW (S : Sg) (r6 : Value) (h : Hp) : aW :=
 some (r6, h)
noncomputable def aC5 (S : Sg) (r1 : Value) (r2 : Value) (r5 : Value) (r6 : Value) (r8 : Int) (h : Hp) : aW :=
 aS (cO (F46 [r1, (Value.int .i64 r8)] h) fun v => some (v, h)) fun v0 h0 =>
 aX .i64 v0 fun i1 =>
 dK r5 fun i2 =>
 rV .i64 (pJ env .rem 3 (Value.int .i64 i1) (Value.int .i64 i2)) fun i3 =>
 dS 1 r5 i3 fun v4 =>
 aK h0 v4 fun v5 =>
 aX .i64 v5 fun i6 =>
 aS (bO env h0 22 1 (List.toArray [(0, (Value.int .i64 i6))])) fun v7 h7 =>
 aS (eX env h7 #[22, 22] (List.toArray [r6, v7])) fun v8 h8 =>
 aS (bO env (Hp.mk (Hp.next h8) (Hp.next h8) T.nil) 22 0 (List.toArray [])) fun v9 h9 =>
 kX v9 (Hp.next h8) h9 fun w10 n10 =>
 cO (gB env (Hp.mk n10 n10 (Hp.aG h8)) 22 r5 none (some (Value.int .i64 i3)) none) fun v11 =>
 aS (eX env (Hp.mk n10 n10 (bN w10 (Hp.aG h8))) #[22, 22] (List.toArray [v9, v11])) fun v12 h12 =>
 kX v12 n10 h12 fun w13 n13 =>
 wrap64 (Int.add i3 (Int.ofNat 1)) fun i14 =>
 cO (gB env (Hp.mk n13 n13 (Hp.aG h8)) 22 r5 (some (Value.int .i64 i14)) none none) fun v15 =>
 aS (eX env (Hp.mk n13 (Hp.ro h8) (bN w13 (bN w10 (Hp.aG h8)))) #[22, 22] (List.toArray [v12, v15])) fun v16 h16 =>
 wrap64 (Int.add r8 (Int.ofNat 1)) fun i17 =>
 S 2 (AL.v r1 (AL.v r2 (AL.v v16 (AL.v v8 (AL.i i17 AL.n))))) h16
noncomputable def XF (S : Sg) (r1 : Value) (r2 : Value) (r5 : Value) (r6 : Value) (r8 : Int) (h : Hp) : aW :=
 aT 3 r2 fun v0 =>
 aK h v0 fun v1 =>
 dK v1 fun i2 =>
 bX (nG r8 i2) fun b3 =>
 dF b3
 (dK r5 fun i4 =>
 bX (nG (Int.ofNat 0) i4) fun b5 =>
 dF b5
 (S 3 (AL.v r1 (AL.v r2 (AL.v r5 (AL.v r6 (AL.i r8 AL.n))))) h)
 (S 4 (AL.v r6 AL.n) h))
 (S 4 (AL.v r6 AL.n) h)
noncomputable def aRX (S : Sg) (r1 : Value) (r2 : Value) (r5 : Value) (r6 : Value) (h : Hp) : aW :=
 S 2 (AL.v r1 (AL.v r2 (AL.v r5 (AL.v r6 (AL.i (Int.ofNat 0) AL.n))))) h
noncomputable def XE (S : Sg) (r1 : Value) (r2 : Value) (r5 : Value) (r6 : Value) (r7 : Int) (h : Hp) : aW :=
 aT 2 r2 fun v0 =>
 aK h v0 fun v1 =>
 dK v1 fun i2 =>
 bX (nG r7 i2) fun b3 =>
 dF b3
 (aS (bO env h 22 1 (List.toArray [(0, (Value.int .i64 r7))])) fun v4 h4 =>
 aS (eX env h4 #[22, 22] (List.toArray [r5, v4])) fun v5 h5 =>
 wrap64 (Int.add r7 (Int.ofNat 1)) fun i6 =>
 S 1 (AL.v r1 (AL.v r2 (AL.v v5 (AL.v r6 (AL.i i6 AL.n))))) h5)
 (S 5 (AL.v r1 (AL.v r2 (AL.v r5 (AL.v r6 AL.n)))) h)
noncomputable def aC6 (S : Sg) (r0 : Value) (r1 : Value) (h : Hp) : aW :=
 bS h 25 (Array.toList (Value.cells r0)) fun a0 h0 =>
 S 1 (AL.v r1 (AL.v a0 (AL.v (Value.slice none 0 0) (AL.v (Value.slice none 0 0) (AL.i (Int.ofNat 0) AL.n))))) h0
noncomputable def XD (S : Sg) : Sg := dJ 0 (uV fun r0 => uV fun r1 => uN fun h => aC6 S r0 r1 h) (dJ 1 (uV fun r1 => uV fun r2 => uV fun r5 => uV fun r6 => uI fun r7 => uN fun h => XE S r1 r2 r5 r6 r7 h) (dJ 5 (uV fun r1 => uV fun r2 => uV fun r5 => uV fun r6 => uN fun h => aRX S r1 r2 r5 r6 h) (dJ 2 (uV fun r1 => uV fun r2 => uV fun r5 => uV fun r6 => uI fun r8 => uN fun h => XF S r1 r2 r5 r6 r8 h) (dJ 3 (uV fun r1 => uV fun r2 => uV fun r5 => uV fun r6 => uI fun r8 => uN fun h => aC5 S r1 r2 r5 r6 r8 h) (dJ 4 (uV fun r6 => uN fun h => aRW S r6 h) (kP))))))
noncomputable def F38 (args : List Value) (h : Hp) : aW := bP [Kd.v, Kd.v] args fun al => aP XD 1000000 0 al h
def aA6 : Nat := 2 + (57 - 2)
theorem a5Q (S : Sg) (r6 : Value) (h : Hp) : aRW S r6 h = aF (bK env FQ (aA6)) (bM env Try.f38.results.toList) (collect B38 A38 []) 4 S (AL.v r6 AL.n) h := by kernel_rfl
theorem a5R (S : Sg) (r1 : Value) (r2 : Value) (r5 : Value) (r6 : Value) (r8 : Int) (h : Hp) : aC5 S r1 r2 r5 r6 r8 h = aF (bK env FQ (aA6)) (bM env Try.f38.results.toList) (collect B38 A38 []) 3 S (AL.v r1 (AL.v r2 (AL.v r5 (AL.v r6 (AL.i r8 AL.n))))) h := by kernel_rfl
theorem a5S (S : Sg) (r1 : Value) (r2 : Value) (r5 : Value) (r6 : Value) (r8 : Int) (h : Hp) : XF S r1 r2 r5 r6 r8 h = aF (bK env FQ (aA6)) (bM env Try.f38.results.toList) (collect B38 A38 []) 2 S (AL.v r1 (AL.v r2 (AL.v r5 (AL.v r6 (AL.i r8 AL.n))))) h := by kernel_rfl
theorem a5T (S : Sg) (r1 : Value) (r2 : Value) (r5 : Value) (r6 : Value) (h : Hp) : aRX S r1 r2 r5 r6 h = aF (bK env FQ (aA6)) (bM env Try.f38.results.toList) (collect B38 A38 []) 5 S (AL.v r1 (AL.v r2 (AL.v r5 (AL.v r6 AL.n)))) h := by kernel_rfl
theorem a5U (S : Sg) (r1 : Value) (r2 : Value) (r5 : Value) (r6 : Value) (r7 : Int) (h : Hp) : XE S r1 r2 r5 r6 r7 h = aF (bK env FQ (aA6)) (bM env Try.f38.results.toList) (collect B38 A38 []) 1 S (AL.v r1 (AL.v r2 (AL.v r5 (AL.v r6 (AL.i r7 AL.n))))) h := by kernel_rfl
theorem a5V (S : Sg) (r0 : Value) (r1 : Value) (h : Hp) : aC6 S r0 r1 h = aF (bK env FQ (aA6)) (bM env Try.f38.results.toList) (collect B38 A38 []) 0 S (AL.v r0 (AL.v r1 AL.n)) h := by kernel_rfl
theorem t38 (S : Sg) : dW (fun l vs h => aF (bK env FQ aA6) (bM env Try.f38.results.toList) (collect B38 A38 []) l S vs h) (XD S) := by
 unfold XD
 refine dW.cons 0 (fun fJ h q e0 => ?_) ?_
 ·obtain ⟨r0, vs1, rfl, e1⟩ := aC e0
  obtain ⟨r1, vs2, rfl, e2⟩ := aC e1
  obtain ⟨rfl, ee⟩ := aN e2
  exact (a5V S r0 r1 h).symm.trans ee
 refine dW.cons 1 (fun fJ h q e0 => ?_) ?_
 ·obtain ⟨r1, vs1, rfl, e1⟩ := aC e0
  obtain ⟨r2, vs2, rfl, e2⟩ := aC e1
  obtain ⟨r5, vs3, rfl, e3⟩ := aC e2
  obtain ⟨r6, pF, rfl, e4⟩ := aC e3
  obtain ⟨r7, zS, rfl, e5⟩ := aM e4
  obtain ⟨rfl, ee⟩ := aN e5
  exact (a5U S r1 r2 r5 r6 r7 h).symm.trans ee
 refine dW.cons 5 (fun fJ h q e0 => ?_) ?_
 ·obtain ⟨r1, vs1, rfl, e1⟩ := aC e0
  obtain ⟨r2, vs2, rfl, e2⟩ := aC e1
  obtain ⟨r5, vs3, rfl, e3⟩ := aC e2
  obtain ⟨r6, pF, rfl, e4⟩ := aC e3
  obtain ⟨rfl, ee⟩ := aN e4
  exact (a5T S r1 r2 r5 r6 h).symm.trans ee
 refine dW.cons 2 (fun fJ h q e0 => ?_) ?_
 ·obtain ⟨r1, vs1, rfl, e1⟩ := aC e0
  obtain ⟨r2, vs2, rfl, e2⟩ := aC e1
  obtain ⟨r5, vs3, rfl, e3⟩ := aC e2
  obtain ⟨r6, pF, rfl, e4⟩ := aC e3
  obtain ⟨r8, zS, rfl, e5⟩ := aM e4
  obtain ⟨rfl, ee⟩ := aN e5
  exact (a5S S r1 r2 r5 r6 r8 h).symm.trans ee
 refine dW.cons 3 (fun fJ h q e0 => ?_) ?_
 ·obtain ⟨r1, vs1, rfl, e1⟩ := aC e0
  obtain ⟨r2, vs2, rfl, e2⟩ := aC e1
  obtain ⟨r5, vs3, rfl, e3⟩ := aC e2
  obtain ⟨r6, pF, rfl, e4⟩ := aC e3
  obtain ⟨r8, zS, rfl, e5⟩ := aM e4
  obtain ⟨rfl, ee⟩ := aN e5
  exact (a5R S r1 r2 r5 r6 r8 h).symm.trans ee
 refine dW.cons 4 (fun fJ h q e0 => ?_) ?_
 ·obtain ⟨r6, vs1, rfl, e1⟩ := aC e0
  obtain ⟨rfl, ee⟩ := aN e1
  exact (a5Q S r6 h).symm.trans ee
 exact dW.nil
theorem r38 : ∀ args h v h', F38 args h = some (v, h') → gW (C64) (.call 38 args.toArray h) (.ret v h') := by
 intro args h v h' e
 exact bJ (C := C64) (fn := Try.f38) (body := B38) (np := 2) (A := A38) (T := XD) (kinds := [Kd.v, Kd.v]) (by kernel_rfl) (by kernel_rfl) (by kernel_rfl) (by kernel_rfl) (dH eF) (by kernel_rfl) (fun S => t38 S) e
noncomputable def xQ := kH 38 F38 FQ
noncomputable def C65 : dM := cfg xQ
theorem aYU : C65.Ok := dI (C := C64) bGU r38
noncomputable def B12 : Code := (Try.f12.body).getD .skip
def A12 : aB := (aB.node (some (0, [(0, Kd.v), (1, Kd.v)])) aB.nil (aB.node none (aB.node none aB.nil (aB.node none (aB.node none aB.nil (aB.node none aB.nil aB.nil)) aB.nil)) (aB.node none aB.nil (aB.node none aB.nil (aB.node none (aB.node none aB.nil (aB.node none (aB.node none aB.nil aB.nil) aB.nil)) (aB.node none aB.nil (aB.node none (aB.node none aB.nil (aB.node none (aB.node (some (1, [(2, Kd.v), (7, Kd.v), (8, Kd.v), (9, Kd.i .i64), (10, Kd.i .i64), (11, Kd.i .i64)])) (aB.node none (aB.node none aB.nil (aB.node none aB.nil aB.nil)) (aB.node none (aB.node none aB.nil aB.nil) aB.nil)) aB.nil) aB.nil)) (aB.node (some (8, [(2, Kd.v), (7, Kd.v), (8, Kd.v), (9, Kd.i .i64), (10, Kd.i .i64)])) (aB.node none aB.nil (aB.node none (aB.node (some (2, [(2, Kd.v), (7, Kd.v), (8, Kd.v), (9, Kd.i .i64), (10, Kd.i .i64), (12, Kd.i .i64)])) (aB.node none (aB.node none aB.nil (aB.node none aB.nil aB.nil)) (aB.node none (aB.node none (aB.node none aB.nil (aB.node none aB.nil (aB.node (some (3, [(2, Kd.v), (7, Kd.v), (8, Kd.v), (9, Kd.i .i64), (10, Kd.i .i64), (12, Kd.i .i64), (13, Kd.v), (14, Kd.v), (102, Kd.b)])) aB.nil aB.nil))) aB.nil) (aB.node (some (4, [(2, Kd.v), (7, Kd.v), (8, Kd.v), (9, Kd.i .i64), (10, Kd.i .i64), (12, Kd.i .i64)])) aB.nil aB.nil))) aB.nil) aB.nil)) (aB.node (some (7, [(2, Kd.v), (8, Kd.v), (9, Kd.i .i64), (10, Kd.i .i64)])) (aB.node none aB.nil (aB.node none (aB.node (some (5, [(2, Kd.v), (8, Kd.v), (9, Kd.i .i64), (10, Kd.i .i64), (15, Kd.i .i64)])) (aB.node none (aB.node none aB.nil (aB.node none aB.nil aB.nil)) (aB.node none (aB.node none aB.nil aB.nil) aB.nil)) aB.nil) aB.nil)) (aB.node (some (6, [(2, Kd.v), (8, Kd.v), (9, Kd.i .i64), (10, Kd.i .i64)])) aB.nil aB.nil))))))))))
noncomputable def aDB (S : Sg) (r2 : Value) (r8 : Value) (r9 : Int) (dR : Int) (h : Hp) : aW :=
 bX (lW r9 (Int.ofNat 0)) fun b0 =>
 dF b0
 (dK r8 fun i1 =>
 aT 1 r2 fun v2 =>
 aK h v2 fun v3 =>
 dK v3 fun i4 =>
 bX (lW i1 i4) fun b5 =>
 dF b5
 (bX (lW dR (Int.ofNat 0)) fun b6 =>
 dF b6
 (aS (cO (TQ [] h) fun v => some (v, h)) fun v7 h7 =>
 eO v7 fun b8 =>
 some ((Value.bool b8), h7))
 (some ((Value.bool false), h)))
 (some ((Value.bool false), h)))
 (some ((Value.bool false), h))
noncomputable def XN (S : Sg) (r2 : Value) (r8 : Value) (r9 : Int) (dR : Int) (OH : Int) (h : Hp) : aW :=
 dK r8 fun i0 =>
 bX (nG OH i0) fun b1 =>
 dF b1
 (dS 1 r8 OH fun v2 =>
 aK h v2 fun v3 =>
 aX .i64 v3 fun i4 =>
 wrap64 (Int.sub dR i4) fun i5 =>
 wrap64 (Int.add OH (Int.ofNat 1)) fun i6 =>
 S 5 (AL.v r2 (AL.v r8 (AL.i r9 (AL.i i5 (AL.i i6 AL.n))))) h)
 (S 6 (AL.v r2 (AL.v r8 (AL.i r9 (AL.i dR AL.n)))) h)
noncomputable def aRY (S : Sg) (r2 : Value) (r8 : Value) (r9 : Int) (dR : Int) (h : Hp) : aW :=
 S 5 (AL.v r2 (AL.v r8 (AL.i r9 (AL.i dR (AL.i (Int.ofNat 0) AL.n))))) h
noncomputable def aDA (S : Sg) (r2 : Value) (r7 : Value) (r8 : Value) (r9 : Int) (dR : Int) (kT : Int) (h : Hp) : aW :=
 wrap64 (Int.add kT (Int.ofNat 1)) fun i0 =>
 S 2 (AL.v r2 (AL.v r7 (AL.v r8 (AL.i r9 (AL.i dR (AL.i i0 AL.n)))))) h
noncomputable def aC9 (S : Sg) (r2 : Value) (r7 : Value) (r8 : Value) (r9 : Int) (dR : Int) (kT : Int) (r13 : Value) (r14 : Value) (OI : Bool) (h : Hp) : aW :=
 dF OI
 (aT 2 r13 fun v0 =>
 aK h v0 fun v1 =>
 aX .i64 v1 fun i2 =>
 wrap64 (Int.add dR i2) fun i3 =>
 aT 2 r14 fun v4 =>
 aK h v4 fun v5 =>
 aX .i64 v5 fun i6 =>
 wrap64 (Int.sub i3 i6) fun i7 =>
 S 4 (AL.v r2 (AL.v r7 (AL.v r8 (AL.i r9 (AL.i i7 (AL.i kT AL.n)))))) h)
 (S 4 (AL.v r2 (AL.v r7 (AL.v r8 (AL.i r9 (AL.i dR (AL.i kT AL.n)))))) h)
noncomputable def XM (S : Sg) (r2 : Value) (r7 : Value) (r8 : Value) (r9 : Int) (dR : Int) (kT : Int) (h : Hp) : aW :=
 dK r7 fun i0 =>
 bX (nG kT i0) fun b1 =>
 dF b1
 (aT 2 r2 fun v2 =>
 aK (Hp.mk (Hp.next h) (Hp.next h) (Hp.aG h)) v2 fun v3 =>
 dS 1 r7 kT fun v4 =>
 aK (Hp.mk (Hp.next h) (Hp.next h) (Hp.aG h)) v4 fun v5 =>
 aX .i64 v5 fun i6 =>
 dS 3 v3 i6 fun v7 =>
 aY 3 (Hp.mk (Hp.next h) (Hp.next h) (Hp.aG h)) v7 fun v8 =>
 aT 3 r2 fun v9 =>
 aK (Hp.mk (Hp.next h) (Hp.next h) (Hp.aG h)) v9 fun v10 =>
 dS 3 v10 kT fun v11 =>
 aY 3 (Hp.mk (Hp.next h) (Hp.next h) (Hp.aG h)) v11 fun v12 =>
 bS (Hp.mk (Hp.next h) (Hp.next h) T.nil) 59 [(Value.string (ByteArray.mk #[])), (Value.slice none 0 0), (Value.int .i64 (Int.ofNat 0))] fun a13 h13 =>
 kX a13 (Hp.next h) h13 fun w14 n14 =>
 bS (Hp.mk n14 n14 T.nil) 59 [(Value.string (ByteArray.mk #[])), (Value.slice none 0 0), (Value.int .i64 (Int.ofNat 0))] fun a15 h15 =>
 kX a15 n14 h15 fun w16 n16 =>
 wR env 59 a13 v8 n16 (Hp.next h) (bN w16 (bN w14 (Hp.aG h))) (fun b => (bY [] b || (bY [] b || (bY [] b || (bY [] b || (bY [] b || (bY [] b || (bY [] b || (bY [] b || (bY w14 b || (bY w16 b || false))))))))))) fun w17 =>
 fG 3 (Hp.mk n16 (Hp.ro h) (bN w17 (bN w16 (bN w14 (Hp.aG h))))) a15 v12 fun h18 =>
 aT 1 a15 fun v19 =>
 aK h18 v19 fun v20 =>
 dS 1 v20 (Int.ofNat 0) fun v21 =>
 aK h18 v21 fun v22 =>
 aX .i64 v22 fun i23 =>
 bU (lW i23 (Int.negSucc 0)) fun b24 =>
 dF b24
 (aT 1 a15 fun v25 =>
 aK h18 v25 fun v26 =>
 dS 1 v26 (Int.ofNat 0) fun v27 =>
 aK h18 v27 fun v28 =>
 aX .i64 v28 fun i29 =>
 aT 1 a13 fun v30 =>
 aK h18 v30 fun v31 =>
 dS 1 v31 (Int.ofNat 0) fun v32 =>
 aK h18 v32 fun v33 =>
 aX .i64 v33 fun i34 =>
 bU (lW i29 i34) fun b35 =>
 S 3 (AL.v r2 (AL.v r7 (AL.v r8 (AL.i r9 (AL.i dR (AL.i kT (AL.v a13 (AL.v a15 (AL.b b35 AL.n))))))))) h18)
 (S 3 (AL.v r2 (AL.v r7 (AL.v r8 (AL.i r9 (AL.i dR (AL.i kT (AL.v a13 (AL.v a15 (AL.b false AL.n))))))))) h18))
 (S 7 (AL.v r2 (AL.v r8 (AL.i r9 (AL.i dR AL.n)))) h)
noncomputable def aR1 (S : Sg) (r2 : Value) (r7 : Value) (r8 : Value) (r9 : Int) (dR : Int) (h : Hp) : aW :=
 S 2 (AL.v r2 (AL.v r7 (AL.v r8 (AL.i r9 (AL.i dR (AL.i (Int.ofNat 0) AL.n)))))) h
noncomputable def XL (S : Sg) (r2 : Value) (r7 : Value) (r8 : Value) (r9 : Int) (dR : Int) (gQ : Int) (h : Hp) : aW :=
 aT 1 r2 fun v0 =>
 aK h v0 fun v1 =>
 dK v1 fun i2 =>
 bX (nG gQ i2) fun b3 =>
 dF b3
 (aT 1 r2 fun v4 =>
 aK h v4 fun v5 =>
 dS 1 v5 gQ fun v6 =>
 aK h v6 fun v7 =>
 aX .i64 v7 fun i8 =>
 wrap64 (Int.add dR i8) fun i9 =>
 wrap64 (Int.add gQ (Int.ofNat 1)) fun i10 =>
 S 1 (AL.v r2 (AL.v r7 (AL.v r8 (AL.i r9 (AL.i i9 (AL.i i10 AL.n)))))) h)
 (S 8 (AL.v r2 (AL.v r7 (AL.v r8 (AL.i r9 (AL.i dR AL.n))))) h)
noncomputable def aDG (S : Sg) (r0 : Value) (r1 : Value) (h : Hp) : aW :=
 bS h 25 (Array.toList (Value.cells r0)) fun a0 h0 =>
 aY 4 h0 a0 fun v1 =>
 aS (dV F37 [v1] h0) fun v2 h2 =>
 eO v2 fun b3 =>
 bU b3 fun b4 =>
 dF b4
 (aY 4 h2 a0 fun v5 =>
 aS (dV F22 [v5, (Value.slice none 0 0)] h2) fun v6 h6 =>
 fK v6 0 fun v7 =>
 fK v6 1 fun v8 =>
 aX .i64 v8 fun i9 =>
 bU (lW i9 (Int.ofNat 0)) fun b10 =>
 dF b10
 (aS (cO (TQ [] h6) fun v => some (v, h6)) fun v11 h11 =>
 eO v11 fun b12 =>
 some ((Value.bool b12), h11))
 (some ((Value.bool false), h6)))
 (aY 4 h2 a0 fun v13 =>
 aS (dV F38 [v13, r1] h2) fun v14 IA =>
 aY 4 IA a0 fun v15 =>
 aS (dV F22 [v15, v14] IA) fun v16 h16 =>
 fK v16 0 fun v17 =>
 fK v16 1 fun v18 =>
 aX .i64 v18 fun i19 =>
 dK v14 fun i20 =>
 aT 3 a0 fun v21 =>
 aK h16 v21 fun v22 =>
 dK v22 fun i23 =>
 bU (lW i20 i23) fun b24 =>
 dF b24
 (bX (lW i19 (Int.ofNat 3)) fun b25 =>
 dF b25
 (dK v17 fun i26 =>
 bX (lW i26 (Int.ofNat 0)) fun b27 =>
 dF b27
 (aS (cO (TQ [] h16) fun v => some (v, h16)) fun v28 h28 =>
 eO v28 fun b29 =>
 some ((Value.bool b29), h28))
 (some ((Value.bool false), h16)))
 (some ((Value.bool false), h16)))
 (S 1 (AL.v a0 (AL.v v14 (AL.v v17 (AL.i i19 (AL.i (Int.ofNat 0) (AL.i (Int.ofNat 0) AL.n)))))) h16))
noncomputable def JV (S : Sg) : Sg := dJ 0 (uV fun r0 => uV fun r1 => uN fun h => aDG S r0 r1 h) (dJ 1 (uV fun r2 => uV fun r7 => uV fun r8 => uI fun r9 => uI fun dR => uI fun gQ => uN fun h => XL S r2 r7 r8 r9 dR gQ h) (dJ 8 (uV fun r2 => uV fun r7 => uV fun r8 => uI fun r9 => uI fun dR => uN fun h => aR1 S r2 r7 r8 r9 dR h) (dJ 2 (uV fun r2 => uV fun r7 => uV fun r8 => uI fun r9 => uI fun dR => uI fun kT => uN fun h => XM S r2 r7 r8 r9 dR kT h) (dJ 3 (uV fun r2 => uV fun r7 => uV fun r8 => uI fun r9 => uI fun dR => uI fun kT => uV fun r13 => uV fun r14 => uB fun OI => uN fun h => aC9 S r2 r7 r8 r9 dR kT r13 r14 OI h) (dJ 4 (uV fun r2 => uV fun r7 => uV fun r8 => uI fun r9 => uI fun dR => uI fun kT => uN fun h => aDA S r2 r7 r8 r9 dR kT h) (dJ 7 (uV fun r2 => uV fun r8 => uI fun r9 => uI fun dR => uN fun h => aRY S r2 r8 r9 dR h) (dJ 5 (uV fun r2 => uV fun r8 => uI fun r9 => uI fun dR => uI fun OH => uN fun h => XN S r2 r8 r9 dR OH h) (dJ 6 (uV fun r2 => uV fun r8 => uI fun r9 => uI fun dR => uN fun h => aDB S r2 r8 r9 dR h) (kP)))))))))
noncomputable def F12 (args : List Value) (h : Hp) : aW := bP [Kd.v, Kd.v] args fun al => aP JV 1000000 0 al h
def OL : Nat := 2 + (139 - 2)
theorem a5W (S : Sg) (r2 : Value) (r8 : Value) (r9 : Int) (dR : Int) (h : Hp) : aDB S r2 r8 r9 dR h = aF (bK env xQ (OL)) (bM env Try.f12.results.toList) (collect B12 A12 []) 6 S (AL.v r2 (AL.v r8 (AL.i r9 (AL.i dR AL.n)))) h := by kernel_rfl
theorem a5X (S : Sg) (r2 : Value) (r8 : Value) (r9 : Int) (dR : Int) (OH : Int) (h : Hp) : XN S r2 r8 r9 dR OH h = aF (bK env xQ (OL)) (bM env Try.f12.results.toList) (collect B12 A12 []) 5 S (AL.v r2 (AL.v r8 (AL.i r9 (AL.i dR (AL.i OH AL.n))))) h := by kernel_rfl
theorem a5Y (S : Sg) (r2 : Value) (r8 : Value) (r9 : Int) (dR : Int) (h : Hp) : aRY S r2 r8 r9 dR h = aF (bK env xQ (OL)) (bM env Try.f12.results.toList) (collect B12 A12 []) 7 S (AL.v r2 (AL.v r8 (AL.i r9 (AL.i dR AL.n)))) h := by kernel_rfl
theorem a5Z (S : Sg) (r2 : Value) (r7 : Value) (r8 : Value) (r9 : Int) (dR : Int) (kT : Int) (h : Hp) : aDA S r2 r7 r8 r9 dR kT h = aF (bK env xQ (OL)) (bM env Try.f12.results.toList) (collect B12 A12 []) 4 S (AL.v r2 (AL.v r7 (AL.v r8 (AL.i r9 (AL.i dR (AL.i kT AL.n)))))) h := by kernel_rfl
theorem a6A (S : Sg) (r2 : Value) (r7 : Value) (r8 : Value) (r9 : Int) (dR : Int) (kT : Int) (r13 : Value) (r14 : Value) (OI : Bool) (h : Hp) : aC9 S r2 r7 r8 r9 dR kT r13 r14 OI h = aF (bK env xQ (OL)) (bM env Try.f12.results.toList) (collect B12 A12 []) 3 S (AL.v r2 (AL.v r7 (AL.v r8 (AL.i r9 (AL.i dR (AL.i kT (AL.v r13 (AL.v r14 (AL.b OI AL.n))))))))) h := by kernel_rfl
theorem a6B (S : Sg) (r2 : Value) (r7 : Value) (r8 : Value) (r9 : Int) (dR : Int) (kT : Int) (h : Hp) : XM S r2 r7 r8 r9 dR kT h = aF (bK env xQ (OL)) (bM env Try.f12.results.toList) (collect B12 A12 []) 2 S (AL.v r2 (AL.v r7 (AL.v r8 (AL.i r9 (AL.i dR (AL.i kT AL.n)))))) h := by kernel_rfl
theorem a6C (S : Sg) (r2 : Value) (r7 : Value) (r8 : Value) (r9 : Int) (dR : Int) (h : Hp) : aR1 S r2 r7 r8 r9 dR h = aF (bK env xQ (OL)) (bM env Try.f12.results.toList) (collect B12 A12 []) 8 S (AL.v r2 (AL.v r7 (AL.v r8 (AL.i r9 (AL.i dR AL.n))))) h := by kernel_rfl
theorem a6D (S : Sg) (r2 : Value) (r7 : Value) (r8 : Value) (r9 : Int) (dR : Int) (gQ : Int) (h : Hp) : XL S r2 r7 r8 r9 dR gQ h = aF (bK env xQ (OL)) (bM env Try.f12.results.toList) (collect B12 A12 []) 1 S (AL.v r2 (AL.v r7 (AL.v r8 (AL.i r9 (AL.i dR (AL.i gQ AL.n)))))) h := by kernel_rfl
theorem a6E (S : Sg) (r0 : Value) (r1 : Value) (h : Hp) : aDG S r0 r1 h = aF (bK env xQ (OL)) (bM env Try.f12.results.toList) (collect B12 A12 []) 0 S (AL.v r0 (AL.v r1 AL.n)) h := by kernel_rfl
theorem t12 (S : Sg) : dW (fun l vs h => aF (bK env xQ OL) (bM env Try.f12.results.toList) (collect B12 A12 []) l S vs h) (JV S) := by
 unfold JV
 refine dW.cons 0 (fun fJ h q e0 => ?_) ?_
 ·obtain ⟨r0, vs1, rfl, e1⟩ := aC e0
  obtain ⟨r1, vs2, rfl, e2⟩ := aC e1
  obtain ⟨rfl, ee⟩ := aN e2
  exact (a6E S r0 r1 h).symm.trans ee
 refine dW.cons 1 (fun fJ h q e0 => ?_) ?_
 ·obtain ⟨r2, vs1, rfl, e1⟩ := aC e0
  obtain ⟨r7, vs2, rfl, e2⟩ := aC e1
  obtain ⟨r8, vs3, rfl, e3⟩ := aC e2
  obtain ⟨r9, pF, rfl, e4⟩ := aM e3
  obtain ⟨dR, zS, rfl, e5⟩ := aM e4
  obtain ⟨gQ, UG, rfl, e6⟩ := aM e5
  obtain ⟨rfl, ee⟩ := aN e6
  exact (a6D S r2 r7 r8 r9 dR gQ h).symm.trans ee
 refine dW.cons 8 (fun fJ h q e0 => ?_) ?_
 ·obtain ⟨r2, vs1, rfl, e1⟩ := aC e0
  obtain ⟨r7, vs2, rfl, e2⟩ := aC e1
  obtain ⟨r8, vs3, rfl, e3⟩ := aC e2
  obtain ⟨r9, pF, rfl, e4⟩ := aM e3
  obtain ⟨dR, zS, rfl, e5⟩ := aM e4
  obtain ⟨rfl, ee⟩ := aN e5
  exact (a6C S r2 r7 r8 r9 dR h).symm.trans ee
 refine dW.cons 2 (fun fJ h q e0 => ?_) ?_
 ·obtain ⟨r2, vs1, rfl, e1⟩ := aC e0
  obtain ⟨r7, vs2, rfl, e2⟩ := aC e1
  obtain ⟨r8, vs3, rfl, e3⟩ := aC e2
  obtain ⟨r9, pF, rfl, e4⟩ := aM e3
  obtain ⟨dR, zS, rfl, e5⟩ := aM e4
  obtain ⟨kT, UG, rfl, e6⟩ := aM e5
  obtain ⟨rfl, ee⟩ := aN e6
  exact (a6B S r2 r7 r8 r9 dR kT h).symm.trans ee
 refine dW.cons 3 (fun fJ h q e0 => ?_) ?_
 ·obtain ⟨r2, vs1, rfl, e1⟩ := aC e0
  obtain ⟨r7, vs2, rfl, e2⟩ := aC e1
  obtain ⟨r8, vs3, rfl, e3⟩ := aC e2
  obtain ⟨r9, pF, rfl, e4⟩ := aM e3
  obtain ⟨dR, zS, rfl, e5⟩ := aM e4
  obtain ⟨kT, UG, rfl, e6⟩ := aM e5
  obtain ⟨r13, vs7, rfl, e7⟩ := aC e6
  obtain ⟨r14, vs8, rfl, e8⟩ := aC e7
  obtain ⟨OI, vs9, rfl, e9⟩ := FE e8
  obtain ⟨rfl, ee⟩ := aN e9
  exact (a6A S r2 r7 r8 r9 dR kT r13 r14 OI h).symm.trans ee
 refine dW.cons 4 (fun fJ h q e0 => ?_) ?_
 ·obtain ⟨r2, vs1, rfl, e1⟩ := aC e0
  obtain ⟨r7, vs2, rfl, e2⟩ := aC e1
  obtain ⟨r8, vs3, rfl, e3⟩ := aC e2
  obtain ⟨r9, pF, rfl, e4⟩ := aM e3
  obtain ⟨dR, zS, rfl, e5⟩ := aM e4
  obtain ⟨kT, UG, rfl, e6⟩ := aM e5
  obtain ⟨rfl, ee⟩ := aN e6
  exact (a5Z S r2 r7 r8 r9 dR kT h).symm.trans ee
 refine dW.cons 7 (fun fJ h q e0 => ?_) ?_
 ·obtain ⟨r2, vs1, rfl, e1⟩ := aC e0
  obtain ⟨r8, vs2, rfl, e2⟩ := aC e1
  obtain ⟨r9, vs3, rfl, e3⟩ := aM e2
  obtain ⟨dR, pF, rfl, e4⟩ := aM e3
  obtain ⟨rfl, ee⟩ := aN e4
  exact (a5Y S r2 r8 r9 dR h).symm.trans ee
 refine dW.cons 5 (fun fJ h q e0 => ?_) ?_
 ·obtain ⟨r2, vs1, rfl, e1⟩ := aC e0
  obtain ⟨r8, vs2, rfl, e2⟩ := aC e1
  obtain ⟨r9, vs3, rfl, e3⟩ := aM e2
  obtain ⟨dR, pF, rfl, e4⟩ := aM e3
  obtain ⟨OH, zS, rfl, e5⟩ := aM e4
  obtain ⟨rfl, ee⟩ := aN e5
  exact (a5X S r2 r8 r9 dR OH h).symm.trans ee
 refine dW.cons 6 (fun fJ h q e0 => ?_) ?_
 ·obtain ⟨r2, vs1, rfl, e1⟩ := aC e0
  obtain ⟨r8, vs2, rfl, e2⟩ := aC e1
  obtain ⟨r9, vs3, rfl, e3⟩ := aM e2
  obtain ⟨dR, pF, rfl, e4⟩ := aM e3
  obtain ⟨rfl, ee⟩ := aN e4
  exact (a5W S r2 r8 r9 dR h).symm.trans ee
 exact dW.nil
theorem kT : ∀ args h v h', F12 args h = some (v, h') → gW (C65) (.call 12 args.toArray h) (.ret v h') := by
 intro args h v h' e
 exact bJ (C := C65) (fn := Try.f12) (body := B12) (np := 2) (A := A12) (T := JV) (kinds := [Kd.v, Kd.v]) (by kernel_rfl) (by kernel_rfl) (by kernel_rfl) (by kernel_rfl) (dH eF) (by kernel_rfl) (fun S => t12 S) e
noncomputable def aR2 := kH 12 F12 xQ
noncomputable def C66 : dM := cfg aR2
theorem bGV : C66.Ok := dI (C := C65) aYU kT
noncomputable abbrev aVM := aR2
theorem bIW : (cfg aVM).Ok := bGV
end Go.Proofs.Ytepepiajmdpiiaa.K.L
