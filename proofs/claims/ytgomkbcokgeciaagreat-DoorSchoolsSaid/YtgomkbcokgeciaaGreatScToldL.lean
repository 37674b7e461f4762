/- Functions told for the laws. -/
import Derived.Test.YtgomkbcokgeciaaGreatScAwake
open Go Go.bR
set_option maxRecDepth 100000
set_option linter.unusedVariables false
namespace Go.Proofs.YtgomkbcokgeciaaGreat.K.L
noncomputable def aHB : List Value → Hp → Option Value := OQ (.bool true)
theorem bHK : bO Tryz.prog 21 aHB := a96
noncomputable def aS9 : PF := JI 21 aHB bHF
theorem aTA : dZ Tryz.prog aS9 := jF bHK a95
noncomputable def a3F := o9 21 aHB aS8
noncomputable def C43 : bP := cfg a3F
theorem bR4 : C43.Ok := fJ (C := C42) bHI bHK
noncomputable def B59 : Code := (Tryz.f59.body).getD .skip
noncomputable def A59 : G.aB (List KI) := (G.aB.node (some (0, [KI.reg 0 (Kd.i .i64), KI.reg 1 (Kd.i .i64), KI.reg 2 (Kd.i .i64)])) G.aB.nil (G.aB.node none G.aB.nil G.aB.nil))
noncomputable def aJ2 (h : Hp) (S : Nat → aH → Option Value) (r0 : Int) (r1 : Int) (r2 : Int) : Option Value :=
 dB (qH r0 r1) fun b0 =>
 dL b0
 (dB (qH r2 r0) fun b1 =>
 some (Value.bool b1))
 (some (Value.bool false))
noncomputable def T59 (h : Hp) (S : Nat → aH → Option Value) : Nat → aH → Option Value := fI 0 (wI fun r0 => wI fun r1 => wI fun r2 => wN (aJ2 h S r0 r1 r2)) (lG)
noncomputable def F59 (args : List Value) (h : Hp) : Option Value := plainO (dK [Kd.i .i64, Kd.i .i64, Kd.i .i64] args fun al => G.aQ (T59 h) 1000000 0 al)
def bHL : Nat := 3 + (15 - 3)
theorem bHM (h : Hp) (S : Nat → aH → Option Value) (r0 : Int) (r1 : Int) (r2 : Int) : aJ2 h S r0 r1 r2 = G.aF bL aN eY (fA env aS9 bHL h) (fF env Tryz.f59.results.toList) (G.collect B59 A59 []) 0 S (aH.i r0 (aH.i r1 (aH.i r2 aH.n))) := by kernel_rfl
theorem t59 (h : Hp) (S : Nat → aH → Option Value) : dD (fun l al => G.aF bL aN eY (fA env aS9 bHL h) (fF env Tryz.f59.results.toList) (G.collect B59 A59 []) l S al) (T59 h S) := by
 unfold T59
 refine dD.cons 0 (fun jT q e0 => ?_) ?_
 ·obtain ⟨r0, vs1, rfl, e1⟩ := bA e0
  obtain ⟨r1, vs2, rfl, e2⟩ := bA e1
  obtain ⟨r2, vs3, rfl, e3⟩ := bA e2
  obtain ⟨rfl, ee⟩ := bT e3
  exact (bHM h S r0 r1 r2).symm.trans ee
 exact dD.nil
theorem r59 : bO Tryz.prog 59 F59 := dA (C := C0) ok0 (pf := aS9) aTA (fn := Tryz.f59) (body := B59) (kinds := [Kd.i .i64, Kd.i .i64, Kd.i .i64]) (A := A59) (T := T59) (by kernel_rfl) (by kernel_rfl) (by kernel_rfl) (by kernel_rfl) (fun h S => t59 h S)
noncomputable def aTB : PF := JI 59 F59 aS9
theorem aTC : dZ Tryz.prog aTB := jF r59 aTA
noncomputable def a3G := o9 59 F59 a3F
noncomputable def C44 : bP := cfg a3G
theorem bR7 : C44.Ok := fJ (C := C43) bR4 r59
noncomputable def B97 : Code := (Tryz.f97.body).getD .skip
noncomputable def A97 : G.aB (List KI) := (G.aB.node (some (0, [KI.reg 0 (Kd.i .i64), KI.reg 1 (Kd.i .i64), KI.reg 2 (Kd.i .i64)])) G.aB.nil (G.aB.node none G.aB.nil G.aB.nil))
noncomputable def aJ1 (h : Hp) (S : Nat → aH → Option Value) (r0 : Int) (r1 : Int) (r2 : Int) : Option Value :=
 dB (qH r0 r1) fun b0 =>
 dL b0
 (dB (qH r2 r0) fun b1 =>
 some (Value.bool b1))
 (some (Value.bool false))
noncomputable def T97 (h : Hp) (S : Nat → aH → Option Value) : Nat → aH → Option Value := fI 0 (wI fun r0 => wI fun r1 => wI fun r2 => wN (aJ1 h S r0 r1 r2)) (lG)
noncomputable def F97 (args : List Value) (h : Hp) : Option Value := plainO (dK [Kd.i .i64, Kd.i .i64, Kd.i .i64] args fun al => G.aQ (T97 h) 1000000 0 al)
def bHN : Nat := 3 + (15 - 3)
theorem bHO (h : Hp) (S : Nat → aH → Option Value) (r0 : Int) (r1 : Int) (r2 : Int) : aJ1 h S r0 r1 r2 = G.aF bL aN eY (fA env aTB bHN h) (fF env Tryz.f97.results.toList) (G.collect B97 A97 []) 0 S (aH.i r0 (aH.i r1 (aH.i r2 aH.n))) := by kernel_rfl
theorem t97 (h : Hp) (S : Nat → aH → Option Value) : dD (fun l al => G.aF bL aN eY (fA env aTB bHN h) (fF env Tryz.f97.results.toList) (G.collect B97 A97 []) l S al) (T97 h S) := by
 unfold T97
 refine dD.cons 0 (fun jT q e0 => ?_) ?_
 ·obtain ⟨r0, vs1, rfl, e1⟩ := bA e0
  obtain ⟨r1, vs2, rfl, e2⟩ := bA e1
  obtain ⟨r2, vs3, rfl, e3⟩ := bA e2
  obtain ⟨rfl, ee⟩ := bT e3
  exact (bHO h S r0 r1 r2).symm.trans ee
 exact dD.nil
theorem r97 : bO Tryz.prog 97 F97 := dA (C := C0) ok0 (pf := aTB) aTC (fn := Tryz.f97) (body := B97) (kinds := [Kd.i .i64, Kd.i .i64, Kd.i .i64]) (A := A97) (T := T97) (by kernel_rfl) (by kernel_rfl) (by kernel_rfl) (by kernel_rfl) (fun h S => t97 h S)
noncomputable def Y6 : PF := JI 97 F97 aTB
theorem aTD : dZ Tryz.prog Y6 := jF r97 aTC
noncomputable def a3H := o9 97 F97 a3G
noncomputable def C45 : bP := cfg a3H
theorem bSA : C45.Ok := fJ (C := C44) bR7 r97
noncomputable def aHG : Code := (Tryz.f136.body).getD .skip
noncomputable def aHH : G.aB (List KI) := (G.aB.node (some (0, [KI.reg 0 (Kd.v)])) G.aB.nil (G.aB.node none (G.aB.node none G.aB.nil (G.aB.node none (G.aB.node none G.aB.nil G.aB.nil) G.aB.nil)) (G.aB.node none (G.aB.node none G.aB.nil (G.aB.node none (G.aB.node (some (1, [KI.reg 0 (Kd.v), KI.reg 3 (Kd.i .i64)])) (G.aB.node none (G.aB.node none G.aB.nil (G.aB.node none G.aB.nil G.aB.nil)) (G.aB.node none (G.aB.node none (G.aB.node none G.aB.nil (G.aB.node none G.aB.nil (G.aB.node (some (2, [KI.reg 0 (Kd.v), KI.reg 3 (Kd.i .i64), KI.reg 4 (Kd.b), KI.reg 5 (Kd.b)])) G.aB.nil (G.aB.node none (G.aB.node none G.aB.nil G.aB.nil) G.aB.nil)))) G.aB.nil) (G.aB.node (some (3, [KI.reg 0 (Kd.v), KI.reg 3 (Kd.i .i64)])) G.aB.nil G.aB.nil))) G.aB.nil) G.aB.nil)) (G.aB.node (some (4, [])) G.aB.nil G.aB.nil))))
noncomputable def aTE (h : Hp) (S : Nat → aH → Option Value) : Option Value :=
 some (Value.bool true)
noncomputable def Y2 (h : Hp) (S : Nat → aH → Option Value) (r0 : Value) (r3 : Int) : Option Value :=
 wrap64 (Int.add r3 (Int.ofNat 1)) fun i0 =>
 S 1 (aH.v r0 (aH.i i0 aH.n))
noncomputable def RG (h : Hp) (S : Nat → aH → Option Value) (r0 : Value) (r3 : Int) (r4 : Bool) (r5 : Bool) : Option Value :=
 dB r4 fun b0 =>
 dL b0
 (eO (zJ r3 (Int.ofNat 0)) fun b1 =>
 dL b1
 (some (Value.bool false))
 (dB r5 fun b2 =>
 dL b2
 (some (Value.bool false))
 (S 3 (aH.v r0 (aH.i r3 aH.n)))))
 (S 3 (aH.v r0 (aH.i r3 aH.n)))
noncomputable def K6 (h : Hp) (S : Nat → aH → Option Value) (r0 : Value) (r3 : Int) : Option Value :=
 LY r0 fun i0 =>
 eO (qH r3 i0) fun b1 =>
 dL b1
 (dG (oD env 9 r0 (Value.int .i64 r3)) fun v2 =>
 aT .u8 v2 fun i3 =>
 wrap64 i3 fun i4 =>
 dG (F97 [(Value.int .i64 i4), (Value.int .i64 (Int.ofNat 97)), (Value.int .i64 (Int.ofNat 122))] h) fun v5 =>
 eB v5 fun b6 =>
 dG (oD env 9 r0 (Value.int .i64 r3)) fun v7 =>
 aT .u8 v7 fun i8 =>
 wrap64 i8 fun i9 =>
 dG (F97 [(Value.int .i64 i9), (Value.int .i64 (Int.ofNat 48)), (Value.int .i64 (Int.ofNat 57))] h) fun v10 =>
 eB v10 fun b11 =>
 dL b11
 (S 2 (aH.v r0 (aH.i r3 (aH.b b6 (aH.b true aH.n)))))
 (dG (oD env 9 r0 (Value.int .i64 r3)) fun v12 =>
 aT .u8 v12 fun i13 =>
 eO (zJ i13 (Int.ofNat 46)) fun b14 =>
 S 2 (aH.v r0 (aH.i r3 (aH.b b6 (aH.b b14 aH.n))))))
 (S 4 aH.n)
noncomputable def Y3 (h : Hp) (S : Nat → aH → Option Value) (r0 : Value) : Option Value :=
 LY r0 fun i0 =>
 eO (zJ i0 (Int.ofNat 0)) fun b1 =>
 dL b1
 (some (Value.bool false))
 (LY r0 fun i2 =>
 eO (qH (Int.ofNat 16) i2) fun b3 =>
 dL b3
 (some (Value.bool false))
 (S 1 (aH.v r0 (aH.i (Int.ofNat 0) aH.n))))
noncomputable def zQ (h : Hp) (S : Nat → aH → Option Value) : Nat → aH → Option Value := fI 0 (wV fun r0 => wN (Y3 h S r0)) (fI 1 (wV fun r0 => wI fun r3 => wN (K6 h S r0 r3)) (fI 2 (wV fun r0 => wI fun r3 => wB fun r4 => wB fun r5 => wN (RG h S r0 r3 r4 r5)) (fI 3 (wV fun r0 => wI fun r3 => wN (Y2 h S r0 r3)) (fI 4 (wN (aTE h S)) (lG)))))
noncomputable def aRL (args : List Value) (h : Hp) : Option Value := plainO (dK [Kd.v] args fun al => G.aQ (zQ h) 1000000 0 al)
def VR : Nat := 1 + (46 - 1)
theorem a97 (h : Hp) (S : Nat → aH → Option Value) : aTE h S = G.aF bL aN eY (fA env Y6 VR h) (fF env Tryz.f136.results.toList) (G.collect aHG aHH []) 4 S aH.n := by kernel_rfl
theorem a98 (h : Hp) (S : Nat → aH → Option Value) (r0 : Value) (r3 : Int) : Y2 h S r0 r3 = G.aF bL aN eY (fA env Y6 VR h) (fF env Tryz.f136.results.toList) (G.collect aHG aHH []) 3 S (aH.v r0 (aH.i r3 aH.n)) := by kernel_rfl
theorem a99 (h : Hp) (S : Nat → aH → Option Value) (r0 : Value) (r3 : Int) (r4 : Bool) (r5 : Bool) : RG h S r0 r3 r4 r5 = G.aF bL aN eY (fA env Y6 VR h) (fF env Tryz.f136.results.toList) (G.collect aHG aHH []) 2 S (aH.v r0 (aH.i r3 (aH.b r4 (aH.b r5 aH.n)))) := by kernel_rfl
theorem bAA (h : Hp) (S : Nat → aH → Option Value) (r0 : Value) (r3 : Int) : K6 h S r0 r3 = G.aF bL aN eY (fA env Y6 VR h) (fF env Tryz.f136.results.toList) (G.collect aHG aHH []) 1 S (aH.v r0 (aH.i r3 aH.n)) := by kernel_rfl
theorem bAB (h : Hp) (S : Nat → aH → Option Value) (r0 : Value) : Y3 h S r0 = G.aF bL aN eY (fA env Y6 VR h) (fF env Tryz.f136.results.toList) (G.collect aHG aHH []) 0 S (aH.v r0 aH.n) := by kernel_rfl
theorem t136 (h : Hp) (S : Nat → aH → Option Value) : dD (fun l al => G.aF bL aN eY (fA env Y6 VR h) (fF env Tryz.f136.results.toList) (G.collect aHG aHH []) l S al) (zQ h S) := by
 unfold zQ
 refine dD.cons 0 (fun jT q e0 => ?_) ?_
 ·obtain ⟨r0, vs1, rfl, e1⟩ := bY e0
  obtain ⟨rfl, ee⟩ := bT e1
  exact (bAB h S r0).symm.trans ee
 refine dD.cons 1 (fun jT q e0 => ?_) ?_
 ·obtain ⟨r0, vs1, rfl, e1⟩ := bY e0
  obtain ⟨r3, vs2, rfl, e2⟩ := bA e1
  obtain ⟨rfl, ee⟩ := bT e2
  exact (bAA h S r0 r3).symm.trans ee
 refine dD.cons 2 (fun jT q e0 => ?_) ?_
 ·obtain ⟨r0, vs1, rfl, e1⟩ := bY e0
  obtain ⟨r3, vs2, rfl, e2⟩ := bA e1
  obtain ⟨r4, vs3, rfl, e3⟩ := aI5 e2
  obtain ⟨r5, vs4, rfl, e4⟩ := aI5 e3
  obtain ⟨rfl, ee⟩ := bT e4
  exact (a99 h S r0 r3 r4 r5).symm.trans ee
 refine dD.cons 3 (fun jT q e0 => ?_) ?_
 ·obtain ⟨r0, vs1, rfl, e1⟩ := bY e0
  obtain ⟨r3, vs2, rfl, e2⟩ := bA e1
  obtain ⟨rfl, ee⟩ := bT e2
  exact (a98 h S r0 r3).symm.trans ee
 refine dD.cons 4 (fun jT q e0 => ?_) ?_
 ·
  obtain ⟨rfl, ee⟩ := bT e0
  exact (a97 h S).symm.trans ee
 exact dD.nil
theorem bHP : bO Tryz.prog 136 aRL := dA (C := C0) ok0 (pf := Y6) aTD (fn := Tryz.f136) (body := aHG) (kinds := [Kd.v]) (A := aHH) (T := zQ) (by kernel_rfl) (by kernel_rfl) (by kernel_rfl) (by kernel_rfl) (fun h S => t136 h S)
noncomputable def aHI : PF := JI 136 aRL Y6
theorem aTF : dZ Tryz.prog aHI := jF bHP aTD
noncomputable def a3I := o9 136 aRL a3H
noncomputable def C46 : bP := cfg a3I
theorem bSB : C46.Ok := fJ (C := C45) bSA bHP
noncomputable def aTG : Code := (Tryz.f137.body).getD .skip
noncomputable def aTH : G.aB (List KI) := (G.aB.node (some (0, [KI.reg 0 (Kd.v), KI.reg 1 (Kd.v)])) G.aB.nil (G.aB.node none (G.aB.node none G.aB.nil (G.aB.node none (G.aB.node (some (1, [KI.reg 0 (Kd.v), KI.reg 1 (Kd.v), KI.reg 5 (Kd.i .i64)])) (G.aB.node none (G.aB.node none G.aB.nil (G.aB.node none G.aB.nil G.aB.nil)) (G.aB.node none (G.aB.node none (G.aB.node none G.aB.nil (G.aB.node none (G.aB.node none G.aB.nil G.aB.nil) G.aB.nil)) G.aB.nil) G.aB.nil)) G.aB.nil) G.aB.nil)) (G.aB.node (some (2, [])) G.aB.nil G.aB.nil)))
noncomputable def aTI (h : Hp) (S : Nat → aH → Option Value) : Option Value :=
 some (Value.int .i64 (Int.negSucc 0))
noncomputable def K7 (h : Hp) (S : Nat → aH → Option Value) (r0 : Value) (r1 : Value) (r5 : Int) : Option Value :=
 jN r0 fun i0 =>
 eO (qH r5 i0) fun b1 =>
 dL b1
 (kK 1 r0 r5 fun v2 =>
 bJ h v2 fun v3 =>
 dG (rY env .eql 9 (Operand.tmp 15) (Operand.tmp 16) v3 r1) fun v4 =>
 eB v4 fun b5 =>
 dL b5
 (some (Value.int .i64 r5))
 (wrap64 (Int.add r5 (Int.ofNat 1)) fun i6 =>
 S 1 (aH.v r0 (aH.v r1 (aH.i i6 aH.n)))))
 (S 2 aH.n)
noncomputable def Y4 (h : Hp) (S : Nat → aH → Option Value) (r0 : Value) (r1 : Value) : Option Value :=
 S 1 (aH.v r0 (aH.v r1 (aH.i (Int.ofNat 0) aH.n)))
noncomputable def TJ (h : Hp) (S : Nat → aH → Option Value) : Nat → aH → Option Value := fI 0 (wV fun r0 => wV fun r1 => wN (Y4 h S r0 r1)) (fI 1 (wV fun r0 => wV fun r1 => wI fun r5 => wN (K7 h S r0 r1 r5)) (fI 2 (wN (aTI h S)) (lG)))
noncomputable def aRM (args : List Value) (h : Hp) : Option Value := plainO (dK [Kd.v, Kd.v] args fun al => G.aQ (TJ h) 1000000 0 al)
def aKR : Nat := 2 + (19 - 2)
theorem bAC (h : Hp) (S : Nat → aH → Option Value) : aTI h S = G.aF bL aN eY (fA env aHI aKR h) (fF env Tryz.f137.results.toList) (G.collect aTG aTH []) 2 S aH.n := by kernel_rfl
theorem bAD (h : Hp) (S : Nat → aH → Option Value) (r0 : Value) (r1 : Value) (r5 : Int) : K7 h S r0 r1 r5 = G.aF bL aN eY (fA env aHI aKR h) (fF env Tryz.f137.results.toList) (G.collect aTG aTH []) 1 S (aH.v r0 (aH.v r1 (aH.i r5 aH.n))) := by kernel_rfl
theorem bAE (h : Hp) (S : Nat → aH → Option Value) (r0 : Value) (r1 : Value) : Y4 h S r0 r1 = G.aF bL aN eY (fA env aHI aKR h) (fF env Tryz.f137.results.toList) (G.collect aTG aTH []) 0 S (aH.v r0 (aH.v r1 aH.n)) := by kernel_rfl
theorem t137 (h : Hp) (S : Nat → aH → Option Value) : dD (fun l al => G.aF bL aN eY (fA env aHI aKR h) (fF env Tryz.f137.results.toList) (G.collect aTG aTH []) l S al) (TJ h S) := by
 unfold TJ
 refine dD.cons 0 (fun jT q e0 => ?_) ?_
 ·obtain ⟨r0, vs1, rfl, e1⟩ := bY e0
  obtain ⟨r1, vs2, rfl, e2⟩ := bY e1
  obtain ⟨rfl, ee⟩ := bT e2
  exact (bAE h S r0 r1).symm.trans ee
 refine dD.cons 1 (fun jT q e0 => ?_) ?_
 ·obtain ⟨r0, vs1, rfl, e1⟩ := bY e0
  obtain ⟨r1, vs2, rfl, e2⟩ := bY e1
  obtain ⟨r5, vs3, rfl, e3⟩ := bA e2
  obtain ⟨rfl, ee⟩ := bT e3
  exact (bAD h S r0 r1 r5).symm.trans ee
 refine dD.cons 2 (fun jT q e0 => ?_) ?_
 ·
  obtain ⟨rfl, ee⟩ := bT e0
  exact (bAC h S).symm.trans ee
 exact dD.nil
theorem bHQ : bO Tryz.prog 137 aRM := dA (C := C0) ok0 (pf := aHI) aTF (fn := Tryz.f137) (body := aTG) (kinds := [Kd.v, Kd.v]) (A := aTH) (T := TJ) (by kernel_rfl) (by kernel_rfl) (by kernel_rfl) (by kernel_rfl) (fun h S => t137 h S)
noncomputable def aTJ : PF := JI 137 aRM aHI
theorem aTK : dZ Tryz.prog aTJ := jF bHQ aTF
noncomputable def a3J := o9 137 aRM a3I
noncomputable def C47 : bP := cfg a3J
theorem bSC : C47.Ok := fJ (C := C46) bSB bHQ
noncomputable def bAF : Code := (Tryz.f108.body).getD .skip
noncomputable def bAG : G.aB (List KI) := (G.aB.node (some (0, [KI.reg 0 (Kd.v), KI.reg 1 (Kd.v)])) G.aB.nil (G.aB.node none (G.aB.node none G.aB.nil (G.aB.node none (G.aB.node none G.aB.nil G.aB.nil) G.aB.nil)) (G.aB.node none (G.aB.node none G.aB.nil (G.aB.node none (G.aB.node none G.aB.nil G.aB.nil) G.aB.nil)) (G.aB.node none G.aB.nil G.aB.nil))))
noncomputable def Y5 (h : Hp) (S : Nat → aH → Option Value) (r0 : Value) (r1 : Value) : Option Value :=
 dG (aRL [r0] h) fun v0 =>
 eB v0 fun b1 =>
 dB b1 fun b2 =>
 dL b2
 (some (Value.int .i64 (Int.ofNat 6)))
 (dG (aRM [r1, r0] h) fun v3 =>
 aT .i64 v3 fun i4 =>
 dB (qH i4 (Int.ofNat 0)) fun b5 =>
 dL b5
 (some (Value.int .i64 (Int.ofNat 5)))
 (some (Value.int .i64 (Int.ofNat 0))))
noncomputable def aRN (h : Hp) (S : Nat → aH → Option Value) : Nat → aH → Option Value := fI 0 (wV fun r0 => wV fun r1 => wN (Y5 h S r0 r1)) (lG)
noncomputable def aN9 (args : List Value) (h : Hp) : Option Value := plainO (dK [Kd.v, Kd.v] args fun al => G.aQ (aRN h) 1000000 0 al)
def a3K : Nat := 2 + (12 - 2)
theorem bAH (h : Hp) (S : Nat → aH → Option Value) (r0 : Value) (r1 : Value) : Y5 h S r0 r1 = G.aF bL aN eY (fA env aTJ a3K h) (fF env Tryz.f108.results.toList) (G.collect bAF bAG []) 0 S (aH.v r0 (aH.v r1 aH.n)) := by kernel_rfl
theorem t108 (h : Hp) (S : Nat → aH → Option Value) : dD (fun l al => G.aF bL aN eY (fA env aTJ a3K h) (fF env Tryz.f108.results.toList) (G.collect bAF bAG []) l S al) (aRN h S) := by
 unfold aRN
 refine dD.cons 0 (fun jT q e0 => ?_) ?_
 ·obtain ⟨r0, vs1, rfl, e1⟩ := bY e0
  obtain ⟨r1, vs2, rfl, e2⟩ := bY e1
  obtain ⟨rfl, ee⟩ := bT e2
  exact (bAH h S r0 r1).symm.trans ee
 exact dD.nil
theorem bHR : bO Tryz.prog 108 aN9 := dA (C := C0) ok0 (pf := aTJ) aTK (fn := Tryz.f108) (body := bAF) (kinds := [Kd.v, Kd.v]) (A := bAG) (T := aRN) (by kernel_rfl) (by kernel_rfl) (by kernel_rfl) (by kernel_rfl) (fun h S => t108 h S)
noncomputable def aTL : PF := JI 108 aN9 aTJ
theorem aTM : dZ Tryz.prog aTL := jF bHR aTK
noncomputable def MR := o9 108 aN9 a3J
noncomputable def C48 : bP := cfg MR
theorem bSD : C48.Ok := fJ (C := C47) bSC bHR
noncomputable def B60 : Code := (Tryz.f60.body).getD .skip
def A60 : aB := (aB.node (some (0, [(0, Kd.v)])) aB.nil (aB.node none (aB.node none aB.nil (aB.node none (aB.node none aB.nil aB.nil) aB.nil)) (aB.node none aB.nil (aB.node none (aB.node none aB.nil (aB.node none (aB.node (some (1, [(0, Kd.v), (4, Kd.v), (5, Kd.i .i64)])) (aB.node none (aB.node none aB.nil (aB.node none aB.nil aB.nil)) (aB.node none (aB.node none (aB.node none aB.nil (aB.node none aB.nil (aB.node none (aB.node none aB.nil (aB.node none aB.nil aB.nil)) (aB.node (some (2, [(0, Kd.v), (4, Kd.v), (5, Kd.i .i64), (6, Kd.i .i64)])) aB.nil (aB.node none (aB.node none aB.nil aB.nil) aB.nil))))) aB.nil) (aB.node (some (3, [(0, Kd.v), (4, Kd.v), (5, Kd.i .i64)])) aB.nil aB.nil))) aB.nil) aB.nil)) (aB.node (some (4, [])) aB.nil aB.nil)))))
noncomputable def a3L (S : Sg) (h : Hp) : bE :=
 some (Value.tuple (List.toArray [(Value.int .i64 (Int.ofNat 0)), (Value.int .i64 (Int.ofNat 0))]), h)
noncomputable def aJT (S : Sg) (r0 : Value) (r4 : Value) (r5 : Int) (h : Hp) : bE :=
 wrap64 (Int.add r5 (Int.ofNat 1)) fun i0 =>
 S 1 (AL.v r0 (AL.v r4 (AL.i i0 AL.n))) h
noncomputable def aJS (S : Sg) (r0 : Value) (r4 : Value) (r5 : Int) (r6 : Int) (h : Hp) : bE :=
 dB (zJ r6 (Int.ofNat 0)) fun b0 =>
 dL b0
 (some (Value.tuple (List.toArray [(Value.int .i64 r5), (Value.int .i64 r6)]), h))
 (S 3 (AL.v r0 (AL.v r4 (AL.i r5 AL.n))) h)
noncomputable def aDE (S : Sg) (r0 : Value) (r4 : Value) (r5 : Int) (h : Hp) : bE :=
 jN r0 fun i0 =>
 eO (qH r5 i0) fun b1 =>
 dL b1
 (kK 3 r0 r5 fun v2 =>
 aR 0 v2 fun v3 =>
 bJ h v3 fun v4 =>
 bB (dG (aN9 [v4, r4] h) fun v => some (v, h)) fun v5 h5 =>
 aT .i64 v5 fun i6 =>
 kK 3 r0 r5 fun v7 =>
 aR 0 v7 fun v8 =>
 bJ h5 v8 fun v9 =>
 bB (bQ env h5 162 1 (List.toArray [(0, v9)])) fun v10 h10 =>
 bB (u7 env h10 #[162, 162] (List.toArray [r4, v10])) fun v11 h11 =>
 eO (zJ i6 (Int.ofNat 0)) fun b12 =>
 dL b12
 (kK 3 r0 r5 fun v13 =>
 aR 1 v13 fun v14 =>
 bJ h11 v14 fun v15 =>
 aT .i64 v15 fun i16 =>
 bB (dG (F59 [(Value.int .i64 i16), (Value.int .i64 (Int.ofNat 0)), (Value.int .i64 (Int.ofNat 20))] h11) fun v => some (v, h11)) fun v17 h17 =>
 eB v17 fun b18 =>
 dB b18 fun b19 =>
 dL b19
 (S 2 (AL.v r0 (AL.v v11 (AL.i r5 (AL.i (Int.ofNat 7) AL.n)))) h17)
 (kK 3 r0 r5 fun v20 =>
 aR 2 v20 fun v21 =>
 bJ h17 v21 fun v22 =>
 aT .i64 v22 fun i23 =>
 bB (dG (F59 [(Value.int .i64 i23), (Value.int .i64 (Int.ofNat 0)), (Value.int .i64 (Int.ofNat 60))] h17) fun v => some (v, h17)) fun v24 h24 =>
 eB v24 fun b25 =>
 dB b25 fun b26 =>
 dL b26
 (S 2 (AL.v r0 (AL.v v11 (AL.i r5 (AL.i (Int.ofNat 7) AL.n)))) h24)
 (S 2 (AL.v r0 (AL.v v11 (AL.i r5 (AL.i i6 AL.n)))) h24)))
 (S 2 (AL.v r0 (AL.v v11 (AL.i r5 (AL.i i6 AL.n)))) h11))
 (S 4 AL.n h)
noncomputable def aJU (S : Sg) (r0 : Value) (h : Hp) : bE :=
 jN r0 fun i0 =>
 eO (qH (Int.ofNat 3) i0) fun b1 =>
 dL b1
 (some (Value.tuple (List.toArray [(Value.int .i64 (Int.ofNat 0)), (Value.int .i64 (Int.ofNat 3))]), h))
 (S 1 (AL.v r0 (AL.v (Value.slice none 0 0) (AL.i (Int.ofNat 0) AL.n))) h)
noncomputable def T60 (S : Sg) : Sg := gZ 0 (uV fun r0 => uN fun h => aJU S r0 h) (gZ 1 (uV fun r0 => uV fun r4 => uI fun r5 => uN fun h => aDE S r0 r4 r5 h) (gZ 2 (uV fun r0 => uV fun r4 => uI fun r5 => uI fun r6 => uN fun h => aJS S r0 r4 r5 r6 h) (gZ 3 (uV fun r0 => uV fun r4 => uI fun r5 => uN fun h => aJT S r0 r4 r5 h) (gZ 4 (uN fun h => a3L S  h) (pF)))))
noncomputable def F60 (args : List Value) (h : Hp) : bE := cB [Kd.v] args fun al => aQ T60 1000000 0 al h
def aOC : Nat := 1 + (55 - 1)
theorem bHS (S : Sg) (h : Hp) : a3L S  h = aF (dO env MR (aOC)) (dP env Tryz.f60.results.toList) (collect B60 A60 []) 4 S AL.n h := by kernel_rfl
theorem bHT (S : Sg) (r0 : Value) (r4 : Value) (r5 : Int) (h : Hp) : aJT S r0 r4 r5 h = aF (dO env MR (aOC)) (dP env Tryz.f60.results.toList) (collect B60 A60 []) 3 S (AL.v r0 (AL.v r4 (AL.i r5 AL.n))) h := by kernel_rfl
theorem bHU (S : Sg) (r0 : Value) (r4 : Value) (r5 : Int) (r6 : Int) (h : Hp) : aJS S r0 r4 r5 r6 h = aF (dO env MR (aOC)) (dP env Tryz.f60.results.toList) (collect B60 A60 []) 2 S (AL.v r0 (AL.v r4 (AL.i r5 (AL.i r6 AL.n)))) h := by kernel_rfl
theorem bHV (S : Sg) (r0 : Value) (r4 : Value) (r5 : Int) (h : Hp) : aDE S r0 r4 r5 h = aF (dO env MR (aOC)) (dP env Tryz.f60.results.toList) (collect B60 A60 []) 1 S (AL.v r0 (AL.v r4 (AL.i r5 AL.n))) h := by kernel_rfl
theorem bHW (S : Sg) (r0 : Value) (h : Hp) : aJU S r0 h = aF (dO env MR (aOC)) (dP env Tryz.f60.results.toList) (collect B60 A60 []) 0 S (AL.v r0 AL.n) h := by kernel_rfl
theorem t60 (S : Sg) : iA (fun l vs h => aF (dO env MR aOC) (dP env Tryz.f60.results.toList) (collect B60 A60 []) l S vs h) (T60 S) := by
 unfold T60
 refine iA.cons 0 (fun jT h q e0 => ?_) ?_
 ·obtain ⟨r0, vs1, rfl, e1⟩ := aP e0
  obtain ⟨rfl, ee⟩ := bC e1
  exact (bHW S r0 h).symm.trans ee
 refine iA.cons 1 (fun jT h q e0 => ?_) ?_
 ·obtain ⟨r0, vs1, rfl, e1⟩ := aP e0
  obtain ⟨r4, vs2, rfl, e2⟩ := aP e1
  obtain ⟨r5, vs3, rfl, e3⟩ := cO e2
  obtain ⟨rfl, ee⟩ := bC e3
  exact (bHV S r0 r4 r5 h).symm.trans ee
 refine iA.cons 2 (fun jT h q e0 => ?_) ?_
 ·obtain ⟨r0, vs1, rfl, e1⟩ := aP e0
  obtain ⟨r4, vs2, rfl, e2⟩ := aP e1
  obtain ⟨r5, vs3, rfl, e3⟩ := cO e2
  obtain ⟨r6, vs4, rfl, e4⟩ := cO e3
  obtain ⟨rfl, ee⟩ := bC e4
  exact (bHU S r0 r4 r5 r6 h).symm.trans ee
 refine iA.cons 3 (fun jT h q e0 => ?_) ?_
 ·obtain ⟨r0, vs1, rfl, e1⟩ := aP e0
  obtain ⟨r4, vs2, rfl, e2⟩ := aP e1
  obtain ⟨r5, vs3, rfl, e3⟩ := cO e2
  obtain ⟨rfl, ee⟩ := bC e3
  exact (bHT S r0 r4 r5 h).symm.trans ee
 refine iA.cons 4 (fun jT h q e0 => ?_) ?_
 ·
  obtain ⟨rfl, ee⟩ := bC e0
  exact (bHS S  h).symm.trans ee
 exact iA.nil
theorem r60 : ∀ args h v h', F60 args h = some (v, h') → jU (C48) (.call 60 args.toArray h) (.ret v h') := by
 intro args h v h' e
 exact bZ (C := C48) (fn := Tryz.f60) (body := B60) (np := 1) (A := A60) (T := T60) (kinds := [Kd.v]) (by kernel_rfl) (by kernel_rfl) (by kernel_rfl) (by kernel_rfl) (eU fU) (by kernel_rfl) (fun S => t60 S) e
noncomputable def MS := oI 60 F60 MR
noncomputable def C49 : bP := cfg MS
theorem bSG : C49.Ok := eX (C := C48) bSD r60
noncomputable def aHJ : Code := (Tryz.f109.body).getD .skip
def aHK : aB := (aB.node (some (0, [(0, Kd.v)])) aB.nil (aB.node none (aB.node none aB.nil (aB.node none (aB.node none aB.nil aB.nil) aB.nil)) (aB.node none aB.nil (aB.node none aB.nil (aB.node none (aB.node none aB.nil (aB.node none (aB.node (some (1, [(0, Kd.v), (3, Kd.v), (4, Kd.i .i64), (5, Kd.i .i64)])) (aB.node none (aB.node none aB.nil (aB.node none aB.nil aB.nil)) (aB.node none (aB.node none (aB.node none aB.nil (aB.node none aB.nil (aB.node none (aB.node none aB.nil (aB.node none aB.nil aB.nil)) (aB.node (some (2, [(0, Kd.v), (3, Kd.v), (4, Kd.i .i64), (5, Kd.i .i64), (6, Kd.i .i64)])) (aB.node none aB.nil (aB.node none (aB.node none aB.nil aB.nil) aB.nil)) aB.nil)))) aB.nil) (aB.node (some (3, [(0, Kd.v), (3, Kd.v), (4, Kd.i .i64), (5, Kd.i .i64)])) aB.nil aB.nil))) aB.nil) aB.nil)) (aB.node (some (4, [(4, Kd.i .i64)])) (aB.node none aB.nil (aB.node none (aB.node none aB.nil aB.nil) aB.nil)) (aB.node none aB.nil aB.nil)))))))
noncomputable def YZ (S : Sg) (r4 : Int) (h : Hp) : bE :=
 eO (qH (Int.ofNat 60) r4) fun b0 =>
 dL b0
 (some ((Value.int .i64 (Int.ofNat 9)), h))
 (some ((Value.int .i64 (Int.ofNat 0)), h))
noncomputable def YY (S : Sg) (r0 : Value) (r3 : Value) (r4 : Int) (r5 : Int) (h : Hp) : bE :=
 wrap64 (Int.add r5 (Int.ofNat 1)) fun i0 =>
 S 1 (AL.v r0 (AL.v r3 (AL.i r4 (AL.i i0 AL.n)))) h
noncomputable def YX (S : Sg) (r0 : Value) (r3 : Value) (r4 : Int) (r5 : Int) (r6 : Int) (h : Hp) : bE :=
 dB (zJ r6 (Int.ofNat 0)) fun b0 =>
 dL b0
 (some ((Value.int .i64 r6), h))
 (kK 2 r0 r5 fun v1 =>
 aR 1 v1 fun v2 =>
 bJ h v2 fun v3 =>
 aT .i64 v3 fun i4 =>
 wrap64 (Int.add r4 i4) fun i5 =>
 S 3 (AL.v r0 (AL.v r3 (AL.i i5 (AL.i r5 AL.n)))) h)
noncomputable def RD (S : Sg) (r0 : Value) (r3 : Value) (r4 : Int) (r5 : Int) (h : Hp) : bE :=
 jN r0 fun i0 =>
 eO (qH r5 i0) fun b1 =>
 dL b1
 (kK 2 r0 r5 fun v2 =>
 aR 0 v2 fun v3 =>
 bJ h v3 fun v4 =>
 bB (dG (aN9 [v4, r3] h) fun v => some (v, h)) fun v5 h5 =>
 aT .i64 v5 fun i6 =>
 kK 2 r0 r5 fun v7 =>
 aR 0 v7 fun v8 =>
 bJ h5 v8 fun v9 =>
 bB (bQ env h5 162 1 (List.toArray [(0, v9)])) fun v10 h10 =>
 bB (u7 env h10 #[162, 162] (List.toArray [r3, v10])) fun v11 h11 =>
 eO (zJ i6 (Int.ofNat 0)) fun b12 =>
 dL b12
 (kK 2 r0 r5 fun v13 =>
 aR 1 v13 fun v14 =>
 bJ h11 v14 fun v15 =>
 aT .i64 v15 fun i16 =>
 bB (dG (F59 [(Value.int .i64 i16), (Value.int .i64 (Int.ofNat 1)), (Value.int .i64 (Int.ofNat 60))] h11) fun v => some (v, h11)) fun v17 h17 =>
 eB v17 fun b18 =>
 dB b18 fun b19 =>
 dL b19
 (S 2 (AL.v r0 (AL.v v11 (AL.i r4 (AL.i r5 (AL.i (Int.ofNat 7) AL.n))))) h17)
 (S 2 (AL.v r0 (AL.v v11 (AL.i r4 (AL.i r5 (AL.i i6 AL.n))))) h17))
 (S 2 (AL.v r0 (AL.v v11 (AL.i r4 (AL.i r5 (AL.i i6 AL.n))))) h11))
 (S 4 (AL.i r4 AL.n) h)
noncomputable def Y0 (S : Sg) (r0 : Value) (h : Hp) : bE :=
 jN r0 fun i0 =>
 eO (qH (Int.ofNat 3) i0) fun b1 =>
 dL b1
 (some ((Value.int .i64 (Int.ofNat 3)), h))
 (S 1 (AL.v r0 (AL.v (Value.slice none 0 0) (AL.i (Int.ofNat 0) (AL.i (Int.ofNat 0) AL.n)))) h)
noncomputable def GI (S : Sg) : Sg := gZ 0 (uV fun r0 => uN fun h => Y0 S r0 h) (gZ 1 (uV fun r0 => uV fun r3 => uI fun r4 => uI fun r5 => uN fun h => RD S r0 r3 r4 r5 h) (gZ 2 (uV fun r0 => uV fun r3 => uI fun r4 => uI fun r5 => uI fun r6 => uN fun h => YX S r0 r3 r4 r5 r6 h) (gZ 3 (uV fun r0 => uV fun r3 => uI fun r4 => uI fun r5 => uN fun h => YY S r0 r3 r4 r5 h) (gZ 4 (uI fun r4 => uN fun h => YZ S r4 h) (pF)))))
noncomputable def aRA (args : List Value) (h : Hp) : bE := cB [Kd.v] args fun al => aQ GI 1000000 0 al h
def VS : Nat := 1 + (54 - 1)
theorem bAK (S : Sg) (r4 : Int) (h : Hp) : YZ S r4 h = aF (dO env MS (VS)) (dP env Tryz.f109.results.toList) (collect aHJ aHK []) 4 S (AL.i r4 AL.n) h := by kernel_rfl
theorem bAL (S : Sg) (r0 : Value) (r3 : Value) (r4 : Int) (r5 : Int) (h : Hp) : YY S r0 r3 r4 r5 h = aF (dO env MS (VS)) (dP env Tryz.f109.results.toList) (collect aHJ aHK []) 3 S (AL.v r0 (AL.v r3 (AL.i r4 (AL.i r5 AL.n)))) h := by kernel_rfl
theorem bAM (S : Sg) (r0 : Value) (r3 : Value) (r4 : Int) (r5 : Int) (r6 : Int) (h : Hp) : YX S r0 r3 r4 r5 r6 h = aF (dO env MS (VS)) (dP env Tryz.f109.results.toList) (collect aHJ aHK []) 2 S (AL.v r0 (AL.v r3 (AL.i r4 (AL.i r5 (AL.i r6 AL.n))))) h := by kernel_rfl
theorem bAN (S : Sg) (r0 : Value) (r3 : Value) (r4 : Int) (r5 : Int) (h : Hp) : RD S r0 r3 r4 r5 h = aF (dO env MS (VS)) (dP env Tryz.f109.results.toList) (collect aHJ aHK []) 1 S (AL.v r0 (AL.v r3 (AL.i r4 (AL.i r5 AL.n)))) h := by kernel_rfl
theorem bAO (S : Sg) (r0 : Value) (h : Hp) : Y0 S r0 h = aF (dO env MS (VS)) (dP env Tryz.f109.results.toList) (collect aHJ aHK []) 0 S (AL.v r0 AL.n) h := by kernel_rfl
theorem t109 (S : Sg) : iA (fun l vs h => aF (dO env MS VS) (dP env Tryz.f109.results.toList) (collect aHJ aHK []) l S vs h) (GI S) := by
 unfold GI
 refine iA.cons 0 (fun jT h q e0 => ?_) ?_
 ·obtain ⟨r0, vs1, rfl, e1⟩ := aP e0
  obtain ⟨rfl, ee⟩ := bC e1
  exact (bAO S r0 h).symm.trans ee
 refine iA.cons 1 (fun jT h q e0 => ?_) ?_
 ·obtain ⟨r0, vs1, rfl, e1⟩ := aP e0
  obtain ⟨r3, vs2, rfl, e2⟩ := aP e1
  obtain ⟨r4, vs3, rfl, e3⟩ := cO e2
  obtain ⟨r5, vs4, rfl, e4⟩ := cO e3
  obtain ⟨rfl, ee⟩ := bC e4
  exact (bAN S r0 r3 r4 r5 h).symm.trans ee
 refine iA.cons 2 (fun jT h q e0 => ?_) ?_
 ·obtain ⟨r0, vs1, rfl, e1⟩ := aP e0
  obtain ⟨r3, vs2, rfl, e2⟩ := aP e1
  obtain ⟨r4, vs3, rfl, e3⟩ := cO e2
  obtain ⟨r5, vs4, rfl, e4⟩ := cO e3
  obtain ⟨r6, vs5, rfl, e5⟩ := cO e4
  obtain ⟨rfl, ee⟩ := bC e5
  exact (bAM S r0 r3 r4 r5 r6 h).symm.trans ee
 refine iA.cons 3 (fun jT h q e0 => ?_) ?_
 ·obtain ⟨r0, vs1, rfl, e1⟩ := aP e0
  obtain ⟨r3, vs2, rfl, e2⟩ := aP e1
  obtain ⟨r4, vs3, rfl, e3⟩ := cO e2
  obtain ⟨r5, vs4, rfl, e4⟩ := cO e3
  obtain ⟨rfl, ee⟩ := bC e4
  exact (bAL S r0 r3 r4 r5 h).symm.trans ee
 refine iA.cons 4 (fun jT h q e0 => ?_) ?_
 ·obtain ⟨r4, vs1, rfl, e1⟩ := cO e0
  obtain ⟨rfl, ee⟩ := bC e1
  exact (bAK S r4 h).symm.trans ee
 exact iA.nil
theorem bSH : ∀ args h v h', aRA args h = some (v, h') → jU (C49) (.call 109 args.toArray h) (.ret v h') := by
 intro args h v h' e
 exact bZ (C := C49) (fn := Tryz.f109) (body := aHJ) (np := 1) (A := aHK) (T := GI) (kinds := [Kd.v]) (by kernel_rfl) (by kernel_rfl) (by kernel_rfl) (by kernel_rfl) (eU fU) (by kernel_rfl) (fun S => t109 S) e
noncomputable def a3M := oI 109 aRA MS
noncomputable def C50 : bP := cfg a3M
theorem bSI : C50.Ok := eX (C := C49) bSG bSH
noncomputable def bAP : Code := (Tryz.f110.body).getD .skip
noncomputable def bAQ : G.aB (List KI) := (G.aB.node (some (0, [KI.reg 0 (Kd.v)])) G.aB.nil (G.aB.node none G.aB.nil G.aB.nil))
noncomputable def Y1 (h : Hp) (S : Nat → aH → Option Value) (r0 : Value) : Option Value :=
 jC (Array.toList (Value.cells r0)) fun c0 =>
 qD c0 0 fun v1 =>
 aT .i64 v1 fun i2 =>
 dG (F59 [(Value.int .i64 i2), (Value.int .i64 (Int.ofNat 0)), (Value.int .i64 (Int.ofNat 60))] h) fun v3 =>
 eB v3 fun b4 =>
 dL b4
 (qD c0 1 fun v5 =>
 aT .i64 v5 fun i6 =>
 dG (F59 [(Value.int .i64 i6), (Value.int .i64 (Int.ofNat 0)), (Value.int .i64 (Int.ofNat 5))] h) fun v7 =>
 eB v7 fun b8 =>
 some (Value.bool b8))
 (some (Value.bool false))
noncomputable def aRB (h : Hp) (S : Nat → aH → Option Value) : Nat → aH → Option Value := fI 0 (wV fun r0 => wN (Y1 h S r0)) (lG)
noncomputable def aN6 (args : List Value) (h : Hp) : Option Value := plainO (dK [Kd.v] args fun al => G.aQ (aRB h) 1000000 0 al)
def a3N : Nat := 1 + (11 - 1)
theorem bAR (h : Hp) (S : Nat → aH → Option Value) (r0 : Value) : Y1 h S r0 = G.aF bL aN eY (fA env aTL a3N h) (fF env Tryz.f110.results.toList) (G.collect bAP bAQ []) 0 S (aH.v r0 aH.n) := by kernel_rfl
theorem t110 (h : Hp) (S : Nat → aH → Option Value) : dD (fun l al => G.aF bL aN eY (fA env aTL a3N h) (fF env Tryz.f110.results.toList) (G.collect bAP bAQ []) l S al) (aRB h S) := by
 unfold aRB
 refine dD.cons 0 (fun jT q e0 => ?_) ?_
 ·obtain ⟨r0, vs1, rfl, e1⟩ := bY e0
  obtain ⟨rfl, ee⟩ := bT e1
  exact (bAR h S r0).symm.trans ee
 exact dD.nil
theorem bHX : bO Tryz.prog 110 aN6 := dA (C := C0) ok0 (pf := aTL) aTM (fn := Tryz.f110) (body := bAP) (kinds := [Kd.v]) (A := bAQ) (T := aRB) (by kernel_rfl) (by kernel_rfl) (by kernel_rfl) (by kernel_rfl) (fun h S => t110 h S)
noncomputable def bSJ : PF := JI 110 aN6 aTL
theorem bSK : dZ Tryz.prog bSJ := jF bHX aTM
noncomputable def RI := o9 110 aN6 a3M
noncomputable def C51 : bP := cfg RI
theorem bSL : C51.Ok := fJ (C := C50) bSI bHX
noncomputable def B61 : Code := (Tryz.f61.body).getD .skip
def A61 : aB := (aB.node (some (0, [(0, Kd.v), (1, Kd.v)])) aB.nil (aB.node none aB.nil (aB.node none (aB.node none aB.nil (aB.node none aB.nil aB.nil)) (aB.node (some (3, [(3, Kd.v), (5, Kd.i .i64)])) (aB.node none aB.nil (aB.node none (aB.node none aB.nil aB.nil) aB.nil)) (aB.node none aB.nil (aB.node none (aB.node none aB.nil (aB.node none (aB.node (some (1, [(3, Kd.v), (6, Kd.b), (7, Kd.i .i64)])) (aB.node none (aB.node none aB.nil (aB.node none aB.nil aB.nil)) (aB.node none (aB.node none aB.nil aB.nil) aB.nil)) aB.nil) aB.nil)) (aB.node (some (2, [(6, Kd.b)])) (aB.node none aB.nil (aB.node none (aB.node none aB.nil aB.nil) aB.nil)) (aB.node none aB.nil aB.nil))))))))
noncomputable def aJW (S : Sg) (r6 : Bool) (h : Hp) : bE :=
 dB r6 fun b0 =>
 dL b0
 (some ((Value.int .i64 (Int.ofNat 7)), h))
 (some ((Value.int .i64 (Int.ofNat 0)), h))
noncomputable def aDF (S : Sg) (r3 : Value) (r6 : Bool) (r7 : Int) (h : Hp) : bE :=
 aR 3 r3 fun v0 =>
 bJ h v0 fun v1 =>
 jN v1 fun i2 =>
 eO (qH r7 i2) fun b3 =>
 dL b3
 (dL r6
 (aR 3 r3 fun v4 =>
 bJ h v4 fun v5 =>
 kK 2 v5 r7 fun v6 =>
 cZ 2 h v6 fun v7 =>
 bB (dG (aN6 [v7] h) fun v => some (v, h)) fun v8 h8 =>
 eB v8 fun b9 =>
 wrap64 (Int.add r7 (Int.ofNat 1)) fun i10 =>
 S 1 (AL.v r3 (AL.b b9 (AL.i i10 AL.n))) h8)
 (wrap64 (Int.add r7 (Int.ofNat 1)) fun i11 =>
 S 1 (AL.v r3 (AL.b false (AL.i i11 AL.n))) h))
 (S 2 (AL.b r6 AL.n) h)
noncomputable def VP (S : Sg) (r3 : Value) (r5 : Int) (h : Hp) : bE :=
 dB (zJ r5 (Int.ofNat 0)) fun b0 =>
 dL b0
 (some ((Value.int .i64 r5), h))
 (aR 1 r3 fun v1 =>
 cZ 2 h v1 fun v2 =>
 bB (dG (aN6 [v2] h) fun v => some (v, h)) fun v3 h3 =>
 eB v3 fun b4 =>
 dL b4
 (aR 4 r3 fun v5 =>
 bJ h3 v5 fun v6 =>
 aT .i64 v6 fun i7 =>
 bB (dG (F59 [(Value.int .i64 i7), (Value.int .i64 (Int.ofNat 0)), (Value.int .i64 (Int.ofNat 10000))] h3) fun v => some (v, h3)) fun v8 h8 =>
 eB v8 fun b9 =>
 S 1 (AL.v r3 (AL.b b9 (AL.i (Int.ofNat 0) AL.n))) h8)
 (S 1 (AL.v r3 (AL.b false (AL.i (Int.ofNat 0) AL.n))) h3))
noncomputable def aJX (S : Sg) (r0 : Value) (r1 : Value) (h : Hp) : bE :=
 fH h 25 (Array.toList (Value.cells r0)) fun a0 h0 =>
 fH h0 67 (Array.toList (Value.cells r1)) fun a1 h1 =>
 aR 0 a1 fun v2 =>
 bJ h1 v2 fun v3 =>
 bB (iN aRA [v3] h1) fun v4 h4 =>
 aT .i64 v4 fun i5 =>
 eO (zJ i5 (Int.ofNat 0)) fun b6 =>
 dL b6
 (aR 3 a1 fun v7 =>
 bJ h4 v7 fun v8 =>
 jN v8 fun i9 =>
 aR 1 a0 fun v10 =>
 bJ h4 v10 fun v11 =>
 jN v11 fun i12 =>
 dB (zJ i9 i12) fun b13 =>
 dL b13
 (S 3 (AL.v a1 (AL.i (Int.ofNat 3) AL.n)) h4)
 (S 3 (AL.v a1 (AL.i i5 AL.n)) h4))
 (S 3 (AL.v a1 (AL.i i5 AL.n)) h4)
noncomputable def T61 (S : Sg) : Sg := gZ 0 (uV fun r0 => uV fun r1 => uN fun h => aJX S r0 r1 h) (gZ 3 (uV fun r3 => uI fun r5 => uN fun h => VP S r3 r5 h) (gZ 1 (uV fun r3 => uB fun r6 => uI fun r7 => uN fun h => aDF S r3 r6 r7 h) (gZ 2 (uB fun r6 => uN fun h => aJW S r6 h) (pF))))
noncomputable def F61 (args : List Value) (h : Hp) : bE := cB [Kd.v, Kd.v] args fun al => aQ T61 1000000 0 al h
def aTN : Nat := 2 + (51 - 2)
theorem bHY (S : Sg) (r6 : Bool) (h : Hp) : aJW S r6 h = aF (dO env RI (aTN)) (dP env Tryz.f61.results.toList) (collect B61 A61 []) 2 S (AL.b r6 AL.n) h := by kernel_rfl
theorem bHZ (S : Sg) (r3 : Value) (r6 : Bool) (r7 : Int) (h : Hp) : aDF S r3 r6 r7 h = aF (dO env RI (aTN)) (dP env Tryz.f61.results.toList) (collect B61 A61 []) 1 S (AL.v r3 (AL.b r6 (AL.i r7 AL.n))) h := by kernel_rfl
theorem bH0 (S : Sg) (r3 : Value) (r5 : Int) (h : Hp) : VP S r3 r5 h = aF (dO env RI (aTN)) (dP env Tryz.f61.results.toList) (collect B61 A61 []) 3 S (AL.v r3 (AL.i r5 AL.n)) h := by kernel_rfl
theorem bH1 (S : Sg) (r0 : Value) (r1 : Value) (h : Hp) : aJX S r0 r1 h = aF (dO env RI (aTN)) (dP env Tryz.f61.results.toList) (collect B61 A61 []) 0 S (AL.v r0 (AL.v r1 AL.n)) h := by kernel_rfl
theorem t61 (S : Sg) : iA (fun l vs h => aF (dO env RI aTN) (dP env Tryz.f61.results.toList) (collect B61 A61 []) l S vs h) (T61 S) := by
 unfold T61
 refine iA.cons 0 (fun jT h q e0 => ?_) ?_
 ·obtain ⟨r0, vs1, rfl, e1⟩ := aP e0
  obtain ⟨r1, vs2, rfl, e2⟩ := aP e1
  obtain ⟨rfl, ee⟩ := bC e2
  exact (bH1 S r0 r1 h).symm.trans ee
 refine iA.cons 3 (fun jT h q e0 => ?_) ?_
 ·obtain ⟨r3, vs1, rfl, e1⟩ := aP e0
  obtain ⟨r5, vs2, rfl, e2⟩ := cO e1
  obtain ⟨rfl, ee⟩ := bC e2
  exact (bH0 S r3 r5 h).symm.trans ee
 refine iA.cons 1 (fun jT h q e0 => ?_) ?_
 ·obtain ⟨r3, vs1, rfl, e1⟩ := aP e0
  obtain ⟨r6, vs2, rfl, e2⟩ := X5 e1
  obtain ⟨r7, vs3, rfl, e3⟩ := cO e2
  obtain ⟨rfl, ee⟩ := bC e3
  exact (bHZ S r3 r6 r7 h).symm.trans ee
 refine iA.cons 2 (fun jT h q e0 => ?_) ?_
 ·obtain ⟨r6, vs1, rfl, e1⟩ := X5 e0
  obtain ⟨rfl, ee⟩ := bC e1
  exact (bHY S r6 h).symm.trans ee
 exact iA.nil
theorem r61 : ∀ args h v h', F61 args h = some (v, h') → jU (C51) (.call 61 args.toArray h) (.ret v h') := by
 intro args h v h' e
 exact bZ (C := C51) (fn := Tryz.f61) (body := B61) (np := 2) (A := A61) (T := T61) (kinds := [Kd.v, Kd.v]) (by kernel_rfl) (by kernel_rfl) (by kernel_rfl) (by kernel_rfl) (eU fU) (by kernel_rfl) (fun S => t61 S) e
noncomputable def VT := oI 61 F61 RI
noncomputable def C52 : bP := cfg VT
theorem bSM : C52.Ok := eX (C := C51) bSL r61
noncomputable def B14 : Code := (Tryz.f14.body).getD .skip
def A14 : aB := (aB.node (some (0, [(0, Kd.v)])) aB.nil (aB.node none (aB.node none aB.nil (aB.node none (aB.node none aB.nil aB.nil) aB.nil)) (aB.node none (aB.node none aB.nil (aB.node none (aB.node none aB.nil aB.nil) aB.nil)) (aB.node none aB.nil (aB.node none (aB.node none aB.nil (aB.node none (aB.node none aB.nil aB.nil) aB.nil)) (aB.node none (aB.node none aB.nil (aB.node none (aB.node none aB.nil aB.nil) aB.nil)) (aB.node none (aB.node none aB.nil (aB.node none (aB.node (some (1, [(1, Kd.v), (7, Kd.i .i64)])) (aB.node none (aB.node none aB.nil (aB.node none aB.nil aB.nil)) (aB.node none (aB.node none (aB.node none aB.nil (aB.node none aB.nil (aB.node none (aB.node none aB.nil aB.nil) aB.nil))) aB.nil) aB.nil)) aB.nil) aB.nil)) (aB.node (some (2, [])) aB.nil aB.nil))))))))
noncomputable def a3O (S : Sg) (h : Hp) : bE :=
 some (Value.tuple (List.toArray [(Value.int .i64 (Int.ofNat 0)), (Value.int .i64 (Int.ofNat 0)), (Value.int .i64 (Int.ofNat 0))]), h)
noncomputable def aDG (S : Sg) (r1 : Value) (r7 : Int) (h : Hp) : bE :=
 aR 2 r1 fun v0 =>
 bJ h v0 fun v1 =>
 jN v1 fun i2 =>
 eO (qH r7 i2) fun b3 =>
 dL b3
 (cZ 3 h r1 fun v4 =>
 aR 2 r1 fun v5 =>
 bJ h v5 fun v6 =>
 kK 5 v6 r7 fun v7 =>
 cZ 5 h v7 fun v8 =>
 bB (iN F61 [v4, v8] h) fun v9 h9 =>
 aT .i64 v9 fun i10 =>
 dB (zJ i10 (Int.ofNat 0)) fun b11 =>
 dL b11
 (some (Value.tuple (List.toArray [(Value.int .i64 (Int.ofNat 3)), (Value.int .i64 r7), (Value.int .i64 i10)]), h9))
 (wrap64 (Int.add r7 (Int.ofNat 1)) fun i12 =>
 S 1 (AL.v r1 (AL.i i12 AL.n)) h9))
 (S 2 AL.n h)
noncomputable def aJY (S : Sg) (r0 : Value) (h : Hp) : bE :=
 fH h 25 (Array.toList (Value.cells r0)) fun a0 h0 =>
 aR 0 a0 fun v1 =>
 bJ h0 v1 fun v2 =>
 aT .i64 v2 fun i3 =>
 bB (dG (F59 [(Value.int .i64 i3), (Value.int .i64 (Int.ofNat 2)), (Value.int .i64 (Int.ofNat 60))] h0) fun v => some (v, h0)) fun v4 h4 =>
 eB v4 fun b5 =>
 dB b5 fun b6 =>
 dL b6
 (some (Value.tuple (List.toArray [(Value.int .i64 (Int.ofNat 1)), (Value.int .i64 (Int.ofNat 0)), (Value.int .i64 (Int.ofNat 7))]), h4))
 (aR 0 a0 fun v7 =>
 bJ h4 v7 fun v8 =>
 aT .i64 v8 fun i9 =>
 mH .i64 (lD env .rem 3 (Value.int .i64 i9) (Value.int .i64 (Int.ofNat 2))) fun i10 =>
 eO (zJ i10 (Int.ofNat 1)) fun b11 =>
 dL b11
 (some (Value.tuple (List.toArray [(Value.int .i64 (Int.ofNat 1)), (Value.int .i64 (Int.ofNat 0)), (Value.int .i64 (Int.ofNat 2))]), h4))
 (aR 1 a0 fun v12 =>
 bJ h4 v12 fun v13 =>
 bB (iN F60 [v13] h4) fun v14 h14 =>
 lM v14 0 fun v15 =>
 aT .i64 v15 fun i16 =>
 lM v14 1 fun v17 =>
 aT .i64 v17 fun i18 =>
 dB (zJ i18 (Int.ofNat 0)) fun b19 =>
 dL b19
 (some (Value.tuple (List.toArray [(Value.int .i64 (Int.ofNat 2)), (Value.int .i64 i16), (Value.int .i64 i18)]), h14))
 (aR 2 a0 fun v20 =>
 bJ h14 v20 fun v21 =>
 jN v21 fun i22 =>
 eO (qH (Int.ofNat 4) i22) fun b23 =>
 dL b23
 (some (Value.tuple (List.toArray [(Value.int .i64 (Int.ofNat 3)), (Value.int .i64 (Int.ofNat 0)), (Value.int .i64 (Int.ofNat 3))]), h14))
 (S 1 (AL.v a0 (AL.i (Int.ofNat 0) AL.n)) h14))))
noncomputable def T14 (S : Sg) : Sg := gZ 0 (uV fun r0 => uN fun h => aJY S r0 h) (gZ 1 (uV fun r1 => uI fun r7 => uN fun h => aDG S r1 r7 h) (gZ 2 (uN fun h => a3O S  h) (pF)))
noncomputable def F14 (args : List Value) (h : Hp) : bE := cB [Kd.v] args fun al => aQ T14 1000000 0 al h
def aY8 : Nat := 1 + (48 - 1)
theorem bH4 (S : Sg) (h : Hp) : a3O S  h = aF (dO env VT (aY8)) (dP env Tryz.f14.results.toList) (collect B14 A14 []) 2 S AL.n h := by kernel_rfl
theorem bH5 (S : Sg) (r1 : Value) (r7 : Int) (h : Hp) : aDG S r1 r7 h = aF (dO env VT (aY8)) (dP env Tryz.f14.results.toList) (collect B14 A14 []) 1 S (AL.v r1 (AL.i r7 AL.n)) h := by kernel_rfl
theorem bH6 (S : Sg) (r0 : Value) (h : Hp) : aJY S r0 h = aF (dO env VT (aY8)) (dP env Tryz.f14.results.toList) (collect B14 A14 []) 0 S (AL.v r0 AL.n) h := by kernel_rfl
theorem t14 (S : Sg) : iA (fun l vs h => aF (dO env VT aY8) (dP env Tryz.f14.results.toList) (collect B14 A14 []) l S vs h) (T14 S) := by
 unfold T14
 refine iA.cons 0 (fun jT h q e0 => ?_) ?_
 ·obtain ⟨r0, vs1, rfl, e1⟩ := aP e0
  obtain ⟨rfl, ee⟩ := bC e1
  exact (bH6 S r0 h).symm.trans ee
 refine iA.cons 1 (fun jT h q e0 => ?_) ?_
 ·obtain ⟨r1, vs1, rfl, e1⟩ := aP e0
  obtain ⟨r7, vs2, rfl, e2⟩ := cO e1
  obtain ⟨rfl, ee⟩ := bC e2
  exact (bH5 S r1 r7 h).symm.trans ee
 refine iA.cons 2 (fun jT h q e0 => ?_) ?_
 ·
  obtain ⟨rfl, ee⟩ := bC e0
  exact (bH4 S  h).symm.trans ee
 exact iA.nil
theorem r14 : ∀ args h v h', F14 args h = some (v, h') → jU (C52) (.call 14 args.toArray h) (.ret v h') := by
 intro args h v h' e
 exact bZ (C := C52) (fn := Tryz.f14) (body := B14) (np := 1) (A := A14) (T := T14) (kinds := [Kd.v]) (by kernel_rfl) (by kernel_rfl) (by kernel_rfl) (by kernel_rfl) (eU fU) (by kernel_rfl) (fun S => t14 S) e
noncomputable def aKS := oI 14 F14 VT
noncomputable def C53 : bP := cfg aKS
theorem bSN : C53.Ok := eX (C := C52) bSM r14
noncomputable def B36 : Code := (Tryz.f36.body).getD .skip
def A36 : aB := (aB.node (some (0, [(0, Kd.v)])) aB.nil (aB.node none aB.nil (aB.node none aB.nil aB.nil)))
noncomputable def aJZ (S : Sg) (r0 : Value) (h : Hp) : bE :=
 fH h 25 (Array.toList (Value.cells r0)) fun a0 h0 =>
 cZ 3 h0 a0 fun v1 =>
 bB (iN F14 [v1] h0) fun v2 h2 =>
 lM v2 0 fun v3 =>
 aT .i64 v3 fun i4 =>
 lM v2 1 fun v5 =>
 aT .i64 v5 fun i6 =>
 lM v2 2 fun v7 =>
 aT .i64 v7 fun i8 =>
 eO (zJ i8 (Int.ofNat 0)) fun b9 =>
 some ((Value.bool b9), h2)
noncomputable def T36 (S : Sg) : Sg := gZ 0 (uV fun r0 => uN fun h => aJZ S r0 h) (pF)
noncomputable def F36 (args : List Value) (h : Hp) : bE := cB [Kd.v] args fun al => aQ T36 1000000 0 al h
def bH7 : Nat := 1 + (14 - 1)
theorem bH8 (S : Sg) (r0 : Value) (h : Hp) : aJZ S r0 h = aF (dO env aKS (bH7)) (dP env Tryz.f36.results.toList) (collect B36 A36 []) 0 S (AL.v r0 AL.n) h := by kernel_rfl
theorem t36 (S : Sg) : iA (fun l vs h => aF (dO env aKS bH7) (dP env Tryz.f36.results.toList) (collect B36 A36 []) l S vs h) (T36 S) := by
 unfold T36
 refine iA.cons 0 (fun jT h q e0 => ?_) ?_
 ·obtain ⟨r0, vs1, rfl, e1⟩ := aP e0
  obtain ⟨rfl, ee⟩ := bC e1
  exact (bH8 S r0 h).symm.trans ee
 exact iA.nil
theorem r36 : ∀ args h v h', F36 args h = some (v, h') → jU (C53) (.call 36 args.toArray h) (.ret v h') := by
 intro args h v h' e
 exact bZ (C := C53) (fn := Tryz.f36) (body := B36) (np := 1) (A := A36) (T := T36) (kinds := [Kd.v]) (by kernel_rfl) (by kernel_rfl) (by kernel_rfl) (by kernel_rfl) (eU fU) (by kernel_rfl) (fun S => t36 S) e
noncomputable def VU := oI 36 F36 aKS
noncomputable def C54 : bP := cfg VU
theorem bFC : C54.Ok := eX (C := C53) bSN r36
noncomputable def B9 : Code := (Tryz.f9.body).getD .skip
def A9 : aB := (aB.node (some (0, [(0, Kd.v), (1, Kd.i .u8), (2, Kd.v)])) aB.nil (aB.node none (aB.node none aB.nil (aB.node none (aB.node none aB.nil (aB.node none aB.nil aB.nil)) aB.nil)) (aB.node none aB.nil (aB.node none aB.nil (aB.node none aB.nil (aB.node none (aB.node none aB.nil (aB.node (some (1, [(1, Kd.i .u8), (3, Kd.v), (82, Kd.b)])) (aB.node none aB.nil aB.nil) aB.nil)) (aB.node (some (2, [(1, Kd.i .u8), (3, Kd.v)])) (aB.node none aB.nil (aB.node none (aB.node none aB.nil aB.nil) aB.nil)) (aB.node none aB.nil (aB.node none aB.nil (aB.node none aB.nil (aB.node none aB.nil aB.nil)))))))))))
noncomputable def aRH (S : Sg) (r1 : Int) (r3 : Value) (h : Hp) : bE :=
 aR 2 r3 fun v0 =>
 bJ h v0 fun v1 =>
 jN v1 fun i2 =>
 eO (zJ i2 (Int.ofNat 0)) fun b3 =>
 dL b3
 (bB (dG (aHB [] h) fun v => some (v, h)) fun v4 h4 =>
 eB v4 fun b5 =>
 some ((Value.bool b5), h4))
 (wrap64 r1 fun i6 =>
 aR 2 r3 fun v7 =>
 bJ h v7 fun v8 =>
 jN v8 fun i9 =>
 mH .i64 (lD env .rem 3 (Value.int .i64 i6) (Value.int .i64 i9)) fun i10 =>
 cZ 3 h r3 fun v11 =>
 bB (iN F17 [v11, (Value.int .i64 i10)] h) fun v12 h12 =>
 lM v12 0 fun v13 =>
 aT .i64 v13 fun i14 =>
 lM v12 1 fun v15 =>
 aT .i64 v15 fun i16 =>
 lM v12 2 fun v17 =>
 aT .i64 v17 fun i18 =>
 aR 2 r3 fun v19 =>
 bJ h12 v19 fun v20 =>
 kK 5 v20 i10 fun v21 =>
 aR 0 v21 fun v22 =>
 bJ h12 v22 fun v23 =>
 jN v23 fun i24 =>
 eO (zJ i18 (Int.ofNat 0)) fun b25 =>
 dL b25
 (dB (qH i14 i16) fun b26 =>
 dL b26
 (wrap64 (Int.sub i14 i16) fun i27 =>
 aR 0 r3 fun v28 =>
 bJ h12 v28 fun v29 =>
 aT .i64 v29 fun i30 =>
 mH .i64 (lD env .quo 3 (Value.int .i64 i30) (Value.int .i64 (Int.ofNat 2))) fun i31 =>
 wrap64 (Int.sub i24 (Int.ofNat 1)) fun i32 =>
 aBQ (Int.ofNat 0) i32 fun i33 =>
 wrap64 (Int.mul i31 i33) fun i34 =>
 dB (qH i34 i27) fun b35 =>
 dL b35
 (bB (dG (aHB [] h12) fun v => some (v, h12)) fun v36 h36 =>
 eB v36 fun b37 =>
 some ((Value.bool b37), h36))
 (some ((Value.bool false), h12)))
 (some ((Value.bool false), h12)))
 (some ((Value.bool false), h12)))
noncomputable def aYP (S : Sg) (r1 : Int) (r3 : Value) (r82 : Bool) (h : Hp) : bE :=
 dL r82
 (some ((Value.bool false), h))
 (S 2 (AL.i r1 (AL.v r3 AL.n)) h)
noncomputable def aYR (S : Sg) (r0 : Value) (r1 : Int) (r2 : Value) (h : Hp) : bE :=
 fH h 25 (Array.toList (Value.cells r0)) fun a0 h0 =>
 fH h0 80 (Array.toList (Value.cells r2)) fun a1 h1 =>
 cZ 3 h1 a0 fun v2 =>
 bB (iN F36 [v2] h1) fun v3 h3 =>
 eB v3 fun b4 =>
 dB b4 fun b5 =>
 dL b5
 (cZ 3 h3 a0 fun v6 =>
 bB (iN F15 [v6, (Value.int .i64 (Int.ofNat 0))] h3) fun v7 h7 =>
 lM v7 0 fun v8 =>
 aT .i64 v8 fun i9 =>
 lM v7 1 fun v10 =>
 aT .i64 v10 fun i11 =>
 dB (zJ i11 (Int.ofNat 0)) fun b12 =>
 dL b12
 (bB (dG (aHB [] h7) fun v => some (v, h7)) fun v13 h13 =>
 eB v13 fun b14 =>
 some ((Value.bool b14), h13))
 (some ((Value.bool false), h7)))
 (LX 2 1 a1 (Int.ofNat 0) fun v15 =>
 bJ (Hp.mk (Hp.next h3) (Hp.next h3) (Hp.aK h3)) v15 fun v16 =>
 aT .u8 v16 fun i17 =>
 wrap64 i17 fun i18 =>
 mH .i64 (lD env .rem 3 (Value.int .i64 i18) (Value.int .i64 (Int.ofNat 61))) fun i19 =>
 LX 2 1 a1 (Int.ofNat 1) fun v20 =>
 bJ (Hp.mk (Hp.next h3) (Hp.next h3) (Hp.aK h3)) v20 fun v21 =>
 aT .u8 v21 fun i22 =>
 wrap64 i22 fun i23 =>
 mH .i64 (lD env .rem 3 (Value.int .i64 i23) (Value.int .i64 (Int.ofNat 61))) fun i24 =>
 cZ 3 (Hp.mk (Hp.next h3) (Hp.ro h3) (Hp.aK h3)) a0 fun v25 =>
 aFV i19 i24 fun i26 =>
 bB (iN F15 [v25, (Value.int .i64 i26)] (Hp.mk (Hp.next h3) (Hp.ro h3) (Hp.aK h3))) fun v27 h27 =>
 lM v27 0 fun v28 =>
 aT .i64 v28 fun i29 =>
 lM v27 1 fun v30 =>
 aT .i64 v30 fun i31 =>
 cZ 3 h27 a0 fun v32 =>
 aBQ i19 i24 fun i33 =>
 bB (iN F15 [v32, (Value.int .i64 i33)] h27) fun v34 h34 =>
 lM v34 0 fun v35 =>
 aT .i64 v35 fun i36 =>
 lM v34 1 fun v37 =>
 aT .i64 v37 fun i38 =>
 dB (zJ i31 (Int.ofNat 0)) fun b39 =>
 dL b39
 (S 1 (AL.i r1 (AL.v a0 (AL.b true AL.n))) h34)
 (dB (zJ i38 (Int.ofNat 0)) fun b40 =>
 dL b40
 (S 1 (AL.i r1 (AL.v a0 (AL.b true AL.n))) h34)
 (eO (qH i36 i29) fun b41 =>
 dL b41
 (S 1 (AL.i r1 (AL.v a0 (AL.b true AL.n))) h34)
 (eO (qH i29 (Int.ofNat 0)) fun b42 =>
 dL b42
 (S 1 (AL.i r1 (AL.v a0 (AL.b true AL.n))) h34)
 (aR 0 a0 fun v43 =>
 bJ h34 v43 fun v44 =>
 aT .i64 v44 fun i45 =>
 mH .i64 (lD env .quo 3 (Value.int .i64 i45) (Value.int .i64 (Int.ofNat 2))) fun i46 =>
 aBQ i19 i24 fun i47 =>
 wrap64 (Int.mul i46 i47) fun i48 =>
 eO (qH i48 i36) fun b49 =>
 S 1 (AL.i r1 (AL.v a0 (AL.b b49 AL.n))) h34)))))
noncomputable def T9 (S : Sg) : Sg := gZ 0 (uV fun r0 => uI fun r1 => uV fun r2 => uN fun h => aYR S r0 r1 r2 h) (gZ 1 (uI fun r1 => uV fun r3 => uB fun r82 => uN fun h => aYP S r1 r3 r82 h) (gZ 2 (uI fun r1 => uV fun r3 => uN fun h => aRH S r1 r3 h) (pF)))
noncomputable def F9 (args : List Value) (h : Hp) : bE := cB [Kd.v, Kd.i .u8, Kd.v] args fun al => aQ T9 1000000 0 al h
def nt9 : Nat := 3 + (131 - 3)
theorem bSQ (S : Sg) (r1 : Int) (r3 : Value) (h : Hp) : aRH S r1 r3 h = aF (dO env VU (nt9)) (dP env Tryz.f9.results.toList) (collect B9 A9 []) 2 S (AL.i r1 (AL.v r3 AL.n)) h := by kernel_rfl
theorem bSR (S : Sg) (r1 : Int) (r3 : Value) (r82 : Bool) (h : Hp) : aYP S r1 r3 r82 h = aF (dO env VU (nt9)) (dP env Tryz.f9.results.toList) (collect B9 A9 []) 1 S (AL.i r1 (AL.v r3 (AL.b r82 AL.n))) h := by kernel_rfl
theorem bSS (S : Sg) (r0 : Value) (r1 : Int) (r2 : Value) (h : Hp) : aYR S r0 r1 r2 h = aF (dO env VU (nt9)) (dP env Tryz.f9.results.toList) (collect B9 A9 []) 0 S (AL.v r0 (AL.i r1 (AL.v r2 AL.n))) h := by kernel_rfl
theorem t9 (S : Sg) : iA (fun l vs h => aF (dO env VU nt9) (dP env Tryz.f9.results.toList) (collect B9 A9 []) l S vs h) (T9 S) := by
 unfold T9
 refine iA.cons 0 (fun jT h q e0 => ?_) ?_
 ·obtain ⟨r0, vs1, rfl, e1⟩ := aP e0
  obtain ⟨r1, vs2, rfl, e2⟩ := cO e1
  obtain ⟨r2, vs3, rfl, e3⟩ := aP e2
  obtain ⟨rfl, ee⟩ := bC e3
  exact (bSS S r0 r1 r2 h).symm.trans ee
 refine iA.cons 1 (fun jT h q e0 => ?_) ?_
 ·obtain ⟨r1, vs1, rfl, e1⟩ := cO e0
  obtain ⟨r3, vs2, rfl, e2⟩ := aP e1
  obtain ⟨r82, vs3, rfl, e3⟩ := X5 e2
  obtain ⟨rfl, ee⟩ := bC e3
  exact (bSR S r1 r3 r82 h).symm.trans ee
 refine iA.cons 2 (fun jT h q e0 => ?_) ?_
 ·obtain ⟨r1, vs1, rfl, e1⟩ := cO e0
  obtain ⟨r3, vs2, rfl, e2⟩ := aP e1
  obtain ⟨rfl, ee⟩ := bC e2
  exact (bSQ S r1 r3 h).symm.trans ee
 exact iA.nil
theorem r9 : ∀ args h v h', F9 args h = some (v, h') → jU (C54) (.call 9 args.toArray h) (.ret v h') := by
 intro args h v h' e
 exact bZ (C := C54) (fn := Tryz.f9) (body := B9) (np := 3) (A := A9) (T := T9) (kinds := [Kd.v, Kd.i .u8, Kd.v]) (by kernel_rfl) (by kernel_rfl) (by kernel_rfl) (by kernel_rfl) (eU fU) (by kernel_rfl) (fun S => t9 S) e
noncomputable def a3Q := oI 9 F9 VU
noncomputable def C55 : bP := cfg a3Q
theorem bST : C55.Ok := eX (C := C54) bFC r9
noncomputable abbrev bAS := a3Q
theorem bWQ : (cfg bAS).Ok := bST
end Go.Proofs.YtgomkbcokgeciaaGreat.K.L
