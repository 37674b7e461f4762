/- Functions told. -/
import Derived.Test.YtgjdokjoejhepaaGreatDoorTrTab
open Go Go.bP
set_option maxRecDepth 100000
set_option linter.unusedVariables false
namespace Go.Proofs.YtgjdokjoejhepaaGreatDoor.K
noncomputable def aYT : Code := (Tryz.f137.body).getD .skip
noncomputable def aYU : G.aC (List KI) := (G.aC.node (some (0, [KI.reg 0 (Kd.i .i64), KI.reg 1 (Kd.i .i64)])) G.aC.nil (G.aC.node none G.aC.nil G.aC.nil))
noncomputable def XZ (h : Hp) (S : Nat → aR → Option Value) (r0 : Int) (r1 : Int) : Option Value :=
 aDY .i64 r0 r1 (MZ (lH env .shr 3 (Value.int .i64 r0) (Value.int .i64 r1)) (Value.int .i64 r0) (Value.int .i64 r1)) fun i0 =>
 aDX .i64 i0 (Int.ofNat 1) (OY (lH env .and 3 (Value.int .i64 i0) (Value.int .i64 (Int.ofNat 1))) (Value.int .i64 i0) (Value.int .i64 (Int.ofNat 1))) fun i1 =>
 dF (tJ i1 (Int.ofNat 1)) fun b2 =>
 some (Value.bool b2)
noncomputable def aOH (h : Hp) (S : Nat → aR → Option Value) : Nat → aR → Option Value := gM 0 (wI fun r0 => wI fun r1 => wN (XZ h S r0 r1)) (mG)
noncomputable def aKS (args : List Value) (h : Hp) : Option Value := plainO (fG [Kd.i .i64, Kd.i .i64] args fun al => G.aP (aOH h) 1000000 0 al)
def aVF : Nat := 2 + (10 - 2)
theorem aYV (h : Hp) (S : Nat → aR → Option Value) (r0 : Int) (r1 : Int) : XZ h S r0 r1 = G.aG cK aZ gJ (gQ env pf0 aVF h) (gW env Tryz.f137.results.toList) (G.collect aYT aYU []) 0 S (aR.i r0 (aR.i r1 aR.n)) := by kernel_rfl
theorem t137 (h : Hp) (S : Nat → aR → Option Value) : dY (fun l al => G.aG cK aZ gJ (gQ env pf0 aVF h) (gW env Tryz.f137.results.toList) (G.collect aYT aYU []) l S al) (aOH h S) := by
 unfold aOH
 refine dY.cons 0 (fun iF q e0 => ?_) ?_
 ·obtain ⟨r0, vs1, rfl, e1⟩ := bZ e0
  obtain ⟨r1, vs2, rfl, e2⟩ := bZ e1
  obtain ⟨rfl, ee⟩ := dG e2
  exact (aYV h S r0 r1).symm.trans ee
 exact dY.nil
theorem a4L : dS Tryz.prog 137 aKS := eD (C := C0) ok0 (pf := pf0) aVG (fn := Tryz.f137) (body := aYT) (kinds := [Kd.i .i64, Kd.i .i64]) (A := aYU) (T := aOH) (by kernel_rfl) (by kernel_rfl) (by kernel_rfl) (by kernel_rfl) (fun h S => t137 h S)
noncomputable def pf1 : PF := M5 137 aKS pf0
theorem aVH : gF Tryz.prog pf1 := jX a4L aVG
noncomputable def a4N := pI 137 aKS a4O
noncomputable def C1 : cB := cfg a4N
theorem ok1 : C1.Ok := gZ (C := C0) ok0 a4L
noncomputable def aYW : Code := (Tryz.f136.body).getD .skip
noncomputable def aYX : G.aC (List KI) := (G.aC.node (some (0, [KI.reg 0 (Kd.i .i64), KI.reg 1 (Kd.v)])) G.aC.nil (G.aC.node none G.aC.nil G.aC.nil))
noncomputable def X0 (h : Hp) (S : Nat → aR → Option Value) (r0 : Int) (r1 : Value) : Option Value :=
 bC h r1 fun v0 =>
 bI .i64 v0 fun i1 =>
 dD (aKS [(Value.int .i64 r0), (Value.int .i64 i1)] h) fun v2 =>
 bW v2 fun b3 =>
 some (Value.bool b3)
noncomputable def aOI (h : Hp) (S : Nat → aR → Option Value) : Nat → aR → Option Value := gM 0 (wI fun r0 => wV fun r1 => wN (X0 h S r0 r1)) (mG)
noncomputable def aOJ (args : List Value) (h : Hp) : Option Value := plainO (fG [Kd.i .i64, Kd.v] args fun al => G.aP (aOI h) 1000000 0 al)
def aVI : Nat := 2 + (7 - 2)
theorem aYY (h : Hp) (S : Nat → aR → Option Value) (r0 : Int) (r1 : Value) : X0 h S r0 r1 = G.aG cK aZ gJ (gQ env pf1 aVI h) (gW env Tryz.f136.results.toList) (G.collect aYW aYX []) 0 S (aR.i r0 (aR.v r1 aR.n)) := by kernel_rfl
theorem t136 (h : Hp) (S : Nat → aR → Option Value) : dY (fun l al => G.aG cK aZ gJ (gQ env pf1 aVI h) (gW env Tryz.f136.results.toList) (G.collect aYW aYX []) l S al) (aOI h S) := by
 unfold aOI
 refine dY.cons 0 (fun iF q e0 => ?_) ?_
 ·obtain ⟨r0, vs1, rfl, e1⟩ := bZ e0
  obtain ⟨r1, vs2, rfl, e2⟩ := dX e1
  obtain ⟨rfl, ee⟩ := dG e2
  exact (aYY h S r0 r1).symm.trans ee
 exact dY.nil
theorem a4P : dS Tryz.prog 136 aOJ := eD (C := C0) ok0 (pf := pf1) aVH (fn := Tryz.f136) (body := aYW) (kinds := [Kd.i .i64, Kd.v]) (A := aYX) (T := aOI) (by kernel_rfl) (by kernel_rfl) (by kernel_rfl) (by kernel_rfl) (fun h S => t136 h S)
noncomputable def pf2 : PF := M5 136 aOJ pf1
theorem aVJ : gF Tryz.prog pf2 := jX a4P aVH
noncomputable def a4R := pI 136 aOJ a4N
noncomputable def C2 : cB := cfg a4R
theorem ok2 : C2.Ok := gZ (C := C1) ok1 a4P
noncomputable def B96 : Code := (Tryz.f96.body).getD .skip
noncomputable def A96 : G.aC (List KI) := (G.aC.node (some (0, [KI.reg 0 (Kd.v), KI.reg 1 (Kd.v)])) G.aC.nil (G.aC.node none G.aC.nil G.aC.nil))
noncomputable def aGP (h : Hp) (S : Nat → aR → Option Value) (r0 : Value) (r1 : Value) : Option Value :=
 tF (Array.toList (Value.cells r0)) fun c0 =>
 O4 c0 0 fun v1 =>
 aV 0 r1 fun v2 =>
 bC h v2 fun v3 =>
 dD (nG env .eql 9 (Operand.tmp 5) (Operand.tmp 7) v1 v3) fun v4 =>
 bW v4 fun b5 =>
 some (Value.bool b5)
noncomputable def T96 (h : Hp) (S : Nat → aR → Option Value) : Nat → aR → Option Value := gM 0 (wV fun r0 => wV fun r1 => wN (aGP h S r0 r1)) (mG)
noncomputable def F96 (args : List Value) (h : Hp) : Option Value := plainO (fG [Kd.v, Kd.v] args fun al => G.aP (T96 h) 1000000 0 al)
def a4U : Nat := 2 + (9 - 2)
theorem a4V (h : Hp) (S : Nat → aR → Option Value) (r0 : Value) (r1 : Value) : aGP h S r0 r1 = G.aG cK aZ gJ (gQ env pf2 a4U h) (gW env Tryz.f96.results.toList) (G.collect B96 A96 []) 0 S (aR.v r0 (aR.v r1 aR.n)) := by kernel_rfl
theorem t96 (h : Hp) (S : Nat → aR → Option Value) : dY (fun l al => G.aG cK aZ gJ (gQ env pf2 a4U h) (gW env Tryz.f96.results.toList) (G.collect B96 A96 []) l S al) (T96 h S) := by
 unfold T96
 refine dY.cons 0 (fun iF q e0 => ?_) ?_
 ·obtain ⟨r0, vs1, rfl, e1⟩ := dX e0
  obtain ⟨r1, vs2, rfl, e2⟩ := dX e1
  obtain ⟨rfl, ee⟩ := dG e2
  exact (a4V h S r0 r1).symm.trans ee
 exact dY.nil
theorem r96 : dS Tryz.prog 96 F96 := eD (C := C0) ok0 (pf := pf2) aVJ (fn := Tryz.f96) (body := B96) (kinds := [Kd.v, Kd.v]) (A := A96) (T := T96) (by kernel_rfl) (by kernel_rfl) (by kernel_rfl) (by kernel_rfl) (fun h S => t96 h S)
noncomputable def pf3 : PF := M5 96 F96 pf2
theorem aVK : gF Tryz.prog pf3 := jX r96 aVJ
noncomputable def a4W := pI 96 F96 a4R
noncomputable def C3 : cB := cfg a4W
theorem ok3 : C3.Ok := gZ (C := C2) ok2 r96
noncomputable def B54 : Code := (Tryz.f54.body).getD .skip
noncomputable def A54 : G.aC (List KI) := (G.aC.node (some (0, [KI.reg 0 (Kd.i .i64), KI.reg 1 (Kd.i .i64), KI.reg 2 (Kd.v)])) G.aC.nil (G.aC.node none (G.aC.node none G.aC.nil (G.aC.node none (G.aC.node (some (1, [KI.reg 0 (Kd.i .i64), KI.reg 1 (Kd.i .i64), KI.reg 9 (Kd.v), KI.reg 10 (Kd.i .i64), KI.reg 11 (Kd.i .i64)])) (G.aC.node none G.aC.nil (G.aC.node none (G.aC.node none G.aC.nil G.aC.nil) (G.aC.node none (G.aC.node none (G.aC.node none G.aC.nil (G.aC.node none G.aC.nil (G.aC.node none (G.aC.node none G.aC.nil G.aC.nil) G.aC.nil))) G.aC.nil) G.aC.nil))) G.aC.nil) G.aC.nil)) (G.aC.node (some (2, [])) G.aC.nil G.aC.nil)))
noncomputable def aGQ (h : Hp) (S : Nat → aR → Option Value) : Option Value :=
 some (Value.bool true)
noncomputable def UZ (h : Hp) (S : Nat → aR → Option Value) (r0 : Int) (r1 : Int) (r9 : Value) (kW : Int) (zR : Int) : Option Value :=
 dF (nM zR kW) fun b0 =>
 dI b0
 (jF 1 r9 zR fun v1 =>
 bC h v1 fun v2 =>
 bI .i64 v2 fun i3 =>
 dF (nM i3 r0) fun b4 =>
 dI b4
 (some (Value.bool false))
 (dF (nM r1 i3) fun b5 =>
 dI b5
 (some (Value.bool false))
 (wrap64 (Int.add zR (Int.ofNat 1)) fun i6 =>
 S 1 (aR.i r0 (aR.i r1 (aR.v r9 (aR.i kW (aR.i i6 aR.n))))))))
 (S 2 aR.n)
noncomputable def aGR (h : Hp) (S : Nat → aR → Option Value) (r0 : Int) (r1 : Int) (r2 : Value) : Option Value :=
 gY r2 fun i0 =>
 S 1 (aR.i r0 (aR.i r1 (aR.v r2 (aR.i i0 (aR.i (Int.ofNat 0) aR.n)))))
noncomputable def T54 (h : Hp) (S : Nat → aR → Option Value) : Nat → aR → Option Value := gM 0 (wI fun r0 => wI fun r1 => wV fun r2 => wN (aGR h S r0 r1 r2)) (gM 1 (wI fun r0 => wI fun r1 => wV fun r9 => wI fun kW => wI fun zR => wN (UZ h S r0 r1 r9 kW zR)) (gM 2 (wN (aGQ h S)) (mG)))
noncomputable def F54 (args : List Value) (h : Hp) : Option Value := plainO (fG [Kd.i .i64, Kd.i .i64, Kd.v] args fun al => G.aP (T54 h) 1000000 0 al)
def aSY : Nat := 3 + (24 - 3)
theorem a4Z (h : Hp) (S : Nat → aR → Option Value) : aGQ h S = G.aG cK aZ gJ (gQ env pf3 aSY h) (gW env Tryz.f54.results.toList) (G.collect B54 A54 []) 2 S aR.n := by kernel_rfl
theorem a5A (h : Hp) (S : Nat → aR → Option Value) (r0 : Int) (r1 : Int) (r9 : Value) (kW : Int) (zR : Int) : UZ h S r0 r1 r9 kW zR = G.aG cK aZ gJ (gQ env pf3 aSY h) (gW env Tryz.f54.results.toList) (G.collect B54 A54 []) 1 S (aR.i r0 (aR.i r1 (aR.v r9 (aR.i kW (aR.i zR aR.n))))) := by kernel_rfl
theorem a5B (h : Hp) (S : Nat → aR → Option Value) (r0 : Int) (r1 : Int) (r2 : Value) : aGR h S r0 r1 r2 = G.aG cK aZ gJ (gQ env pf3 aSY h) (gW env Tryz.f54.results.toList) (G.collect B54 A54 []) 0 S (aR.i r0 (aR.i r1 (aR.v r2 aR.n))) := by kernel_rfl
theorem t54 (h : Hp) (S : Nat → aR → Option Value) : dY (fun l al => G.aG cK aZ gJ (gQ env pf3 aSY h) (gW env Tryz.f54.results.toList) (G.collect B54 A54 []) l S al) (T54 h S) := by
 unfold T54
 refine dY.cons 0 (fun iF q e0 => ?_) ?_
 ·obtain ⟨r0, vs1, rfl, e1⟩ := bZ e0
  obtain ⟨r1, vs2, rfl, e2⟩ := bZ e1
  obtain ⟨r2, vs3, rfl, e3⟩ := dX e2
  obtain ⟨rfl, ee⟩ := dG e3
  exact (a5B h S r0 r1 r2).symm.trans ee
 refine dY.cons 1 (fun iF q e0 => ?_) ?_
 ·obtain ⟨r0, vs1, rfl, e1⟩ := bZ e0
  obtain ⟨r1, vs2, rfl, e2⟩ := bZ e1
  obtain ⟨r9, vs3, rfl, e3⟩ := dX e2
  obtain ⟨kW, SA, rfl, e4⟩ := bZ e3
  obtain ⟨zR, vs5, rfl, e5⟩ := bZ e4
  obtain ⟨rfl, ee⟩ := dG e5
  exact (a5A h S r0 r1 r9 kW zR).symm.trans ee
 refine dY.cons 2 (fun iF q e0 => ?_) ?_
 ·
  obtain ⟨rfl, ee⟩ := dG e0
  exact (a4Z h S).symm.trans ee
 exact dY.nil
theorem r54 : dS Tryz.prog 54 F54 := eD (C := C0) ok0 (pf := pf3) aVK (fn := Tryz.f54) (body := B54) (kinds := [Kd.i .i64, Kd.i .i64, Kd.v]) (A := A54) (T := T54) (by kernel_rfl) (by kernel_rfl) (by kernel_rfl) (by kernel_rfl) (fun h S => t54 h S)
noncomputable def pf4 : PF := M5 54 F54 pf3
theorem aVL : gF Tryz.prog pf4 := jX r54 aVK
noncomputable def a5D := pI 54 F54 a4W
noncomputable def C4 : cB := cfg a5D
theorem ok4 : C4.Ok := gZ (C := C3) ok3 r54
noncomputable def aY0 : Code := (Tryz.f140.body).getD .skip
noncomputable def aY1 : G.aC (List KI) := (G.aC.node (some (0, [KI.reg 0 (Kd.i .u8)])) G.aC.nil (G.aC.node none G.aC.nil G.aC.nil))
noncomputable def X3 (h : Hp) (S : Nat → aR → Option Value) (r0 : Int) : Option Value :=
 dK (nM r0 (Int.ofNat 97)) fun b0 =>
 dI b0
 (dK (nM (Int.ofNat 122) r0) fun b1 =>
 some (Value.bool b1))
 (some (Value.bool false))
noncomputable def aOK (h : Hp) (S : Nat → aR → Option Value) : Nat → aR → Option Value := gM 0 (wI fun r0 => wN (X3 h S r0)) (mG)
noncomputable def aKT (args : List Value) (h : Hp) : Option Value := plainO (fG [Kd.i .u8] args fun al => G.aP (aOK h) 1000000 0 al)
def aVM : Nat := 1 + (9 - 1)
theorem aY2 (h : Hp) (S : Nat → aR → Option Value) (r0 : Int) : X3 h S r0 = G.aG cK aZ gJ (gQ env pf4 aVM h) (gW env Tryz.f140.results.toList) (G.collect aY0 aY1 []) 0 S (aR.i r0 aR.n) := by kernel_rfl
theorem t140 (h : Hp) (S : Nat → aR → Option Value) : dY (fun l al => G.aG cK aZ gJ (gQ env pf4 aVM h) (gW env Tryz.f140.results.toList) (G.collect aY0 aY1 []) l S al) (aOK h S) := by
 unfold aOK
 refine dY.cons 0 (fun iF q e0 => ?_) ?_
 ·obtain ⟨r0, vs1, rfl, e1⟩ := bZ e0
  obtain ⟨rfl, ee⟩ := dG e1
  exact (aY2 h S r0).symm.trans ee
 exact dY.nil
theorem a5E : dS Tryz.prog 140 aKT := eD (C := C0) ok0 (pf := pf4) aVL (fn := Tryz.f140) (body := aY0) (kinds := [Kd.i .u8]) (A := aY1) (T := aOK) (by kernel_rfl) (by kernel_rfl) (by kernel_rfl) (by kernel_rfl) (fun h S => t140 h S)
noncomputable def pf5 : PF := M5 140 aKT pf4
theorem aVN : gF Tryz.prog pf5 := jX a5E aVL
noncomputable def a5G := pI 140 aKT a5D
noncomputable def C5 : cB := cfg a5G
theorem ok5 : C5.Ok := gZ (C := C4) ok4 a5E
noncomputable def aY3 : Code := (Tryz.f141.body).getD .skip
noncomputable def aY4 : G.aC (List KI) := (G.aC.node (some (0, [KI.reg 0 (Kd.i .u8)])) G.aC.nil (G.aC.node none G.aC.nil G.aC.nil))
noncomputable def X4 (h : Hp) (S : Nat → aR → Option Value) (r0 : Int) : Option Value :=
 dK (nM r0 (Int.ofNat 48)) fun b0 =>
 dI b0
 (dK (nM (Int.ofNat 57) r0) fun b1 =>
 some (Value.bool b1))
 (some (Value.bool false))
noncomputable def aOL (h : Hp) (S : Nat → aR → Option Value) : Nat → aR → Option Value := gM 0 (wI fun r0 => wN (X4 h S r0)) (mG)
noncomputable def aOM (args : List Value) (h : Hp) : Option Value := plainO (fG [Kd.i .u8] args fun al => G.aP (aOL h) 1000000 0 al)
def aVO : Nat := 1 + (9 - 1)
theorem aY5 (h : Hp) (S : Nat → aR → Option Value) (r0 : Int) : X4 h S r0 = G.aG cK aZ gJ (gQ env pf5 aVO h) (gW env Tryz.f141.results.toList) (G.collect aY3 aY4 []) 0 S (aR.i r0 aR.n) := by kernel_rfl
theorem t141 (h : Hp) (S : Nat → aR → Option Value) : dY (fun l al => G.aG cK aZ gJ (gQ env pf5 aVO h) (gW env Tryz.f141.results.toList) (G.collect aY3 aY4 []) l S al) (aOL h S) := by
 unfold aOL
 refine dY.cons 0 (fun iF q e0 => ?_) ?_
 ·obtain ⟨r0, vs1, rfl, e1⟩ := bZ e0
  obtain ⟨rfl, ee⟩ := dG e1
  exact (aY5 h S r0).symm.trans ee
 exact dY.nil
theorem a5H : dS Tryz.prog 141 aOM := eD (C := C0) ok0 (pf := pf5) aVN (fn := Tryz.f141) (body := aY3) (kinds := [Kd.i .u8]) (A := aY4) (T := aOL) (by kernel_rfl) (by kernel_rfl) (by kernel_rfl) (by kernel_rfl) (fun h S => t141 h S)
noncomputable def pf6 : PF := M5 141 aOM pf5
theorem aVP : gF Tryz.prog pf6 := jX a5H aVN
noncomputable def aKU := pI 141 aOM a5G
noncomputable def C6 : cB := cfg aKU
theorem ok6 : C6.Ok := gZ (C := C5) ok5 a5H
noncomputable def B94 : Code := (Tryz.f94.body).getD .skip
def A94 : aC := (aC.node (some (0, [(0, Kd.v)])) aC.nil (aC.node none (aC.node none aC.nil (aC.node none (aC.node none aC.nil aC.nil) aC.nil)) (aC.node none (aC.node none aC.nil (aC.node none (aC.node (some (1, [(0, Kd.v), (16, Kd.i .i64), (17, Kd.i .i64)])) (aC.node none aC.nil (aC.node none (aC.node none aC.nil aC.nil) (aC.node none (aC.node none (aC.node none aC.nil (aC.node none aC.nil (aC.node none (aC.node none aC.nil aC.nil) aC.nil))) aC.nil) aC.nil))) aC.nil) aC.nil)) (aC.node (some (2, [])) aC.nil aC.nil))))
noncomputable def aGS (S : Sg) (h : Hp) : aT :=
 some ((Value.bool true), h)
noncomputable def U0 (S : Sg) (r0 : Value) (r16 : Int) (xH : Int) (h : Hp) : aT :=
 dF (nM xH r16) fun b0 =>
 dI b0
 (dD (mX env 9 r0 (Value.int .i64 xH)) fun v1 =>
 bI .u8 v1 fun i2 =>
 aY (dD (aKT [(Value.int .u8 i2)] h) fun v => some (v, h)) fun v3 h3 =>
 bW v3 fun b4 =>
 dK b4 fun b5 =>
 dI b5
 (dD (mX env 9 r0 (Value.int .i64 xH)) fun v6 =>
 bI .u8 v6 fun i7 =>
 aY (dD (aOM [(Value.int .u8 i7)] h3) fun v => some (v, h3)) fun v8 h8 =>
 bW v8 fun b9 =>
 dK b9 fun b10 =>
 dI b10
 (dD (mX env 9 r0 (Value.int .i64 xH)) fun v11 =>
 bI .u8 v11 fun i12 =>
 dK (tJ i12 (Int.ofNat 46)) fun b13 =>
 dI b13
 (some ((Value.bool false), h8))
 (wrap64 (Int.add xH (Int.ofNat 1)) fun i14 =>
 S 1 (AL.v r0 (AL.i r16 (AL.i i14 AL.n))) h8))
 (wrap64 (Int.add xH (Int.ofNat 1)) fun i15 =>
 S 1 (AL.v r0 (AL.i r16 (AL.i i15 AL.n))) h8))
 (wrap64 (Int.add xH (Int.ofNat 1)) fun i16 =>
 S 1 (AL.v r0 (AL.i r16 (AL.i i16 AL.n))) h3))
 (S 2 AL.n h)
noncomputable def aGT (S : Sg) (r0 : Value) (h : Hp) : aT :=
 LH r0 fun i0 =>
 aY (bJ env h 23 1 (List.toArray [(0, (Value.int .i64 i0))])) fun v1 h1 =>
 aY (dD (F54 [(Value.int .i64 (Int.ofNat 1)), (Value.int .i64 (Int.ofNat 16)), v1] h1) fun v => some (v, h1)) fun v2 h2 =>
 bW v2 fun b3 =>
 dK b3 fun b4 =>
 dI b4
 (some ((Value.bool false), h2))
 (dD (mX env 9 r0 (Value.int .i64 (Int.ofNat 0))) fun v5 =>
 bI .u8 v5 fun i6 =>
 aY (dD (aKT [(Value.int .u8 i6)] h2) fun v => some (v, h2)) fun v7 h7 =>
 bW v7 fun b8 =>
 dK b8 fun b9 =>
 dI b9
 (some ((Value.bool false), h7))
 (LH r0 fun i10 =>
 S 1 (AL.v r0 (AL.i i10 (AL.i (Int.ofNat 0) AL.n))) h7))
noncomputable def T94 (S : Sg) : Sg := eF 0 (uV fun r0 => uN fun h => aGT S r0 h) (eF 1 (uV fun r0 => uI fun r16 => uI fun xH => uN fun h => U0 S r0 r16 xH h) (eF 2 (uN fun h => aGS S  h) (kU)))
noncomputable def F94 (args : List Value) (h : Hp) : aT := bV [Kd.v] args fun al => aP T94 1000000 0 al h
def aS0 : Nat := 1 + (39 - 1)
theorem a5L (S : Sg) (h : Hp) : aGS S  h = aG (cO env aKU (aS0)) (dA env Tryz.f94.results.toList) (collect B94 A94 []) 2 S AL.n h := by kernel_rfl
theorem a5M (S : Sg) (r0 : Value) (r16 : Int) (xH : Int) (h : Hp) : U0 S r0 r16 xH h = aG (cO env aKU (aS0)) (dA env Tryz.f94.results.toList) (collect B94 A94 []) 1 S (AL.v r0 (AL.i r16 (AL.i xH AL.n))) h := by kernel_rfl
theorem a5N (S : Sg) (r0 : Value) (h : Hp) : aGT S r0 h = aG (cO env aKU (aS0)) (dA env Tryz.f94.results.toList) (collect B94 A94 []) 0 S (AL.v r0 AL.n) h := by kernel_rfl
theorem t94 (S : Sg) : eZ (fun l vs h => aG (cO env aKU aS0) (dA env Tryz.f94.results.toList) (collect B94 A94 []) l S vs h) (T94 S) := by
 unfold T94
 refine eZ.cons 0 (fun iF h q e0 => ?_) ?_
 ·obtain ⟨r0, vs1, rfl, e1⟩ := aH e0
  obtain ⟨rfl, ee⟩ := bB e1
  exact (a5N S r0 h).symm.trans ee
 refine eZ.cons 1 (fun iF h q e0 => ?_) ?_
 ·obtain ⟨r0, vs1, rfl, e1⟩ := aH e0
  obtain ⟨r16, vs2, rfl, e2⟩ := bH e1
  obtain ⟨xH, vs3, rfl, e3⟩ := bH e2
  obtain ⟨rfl, ee⟩ := bB e3
  exact (a5M S r0 r16 xH h).symm.trans ee
 refine eZ.cons 2 (fun iF h q e0 => ?_) ?_
 ·
  obtain ⟨rfl, ee⟩ := bB e0
  exact (a5L S  h).symm.trans ee
 exact eZ.nil
theorem r94 : ∀ args h v h', F94 args h = some (v, h') → gG (C6) (.call 94 args.toArray h) (.ret v h') := by
 intro args h v h' e
 exact bY (C := C6) (fn := Tryz.f94) (body := B94) (np := 1) (A := A94) (T := T94) (kinds := [Kd.v]) (by kernel_rfl) (by kernel_rfl) (by kernel_rfl) (by kernel_rfl) (dZ eX) (by kernel_rfl) (fun S => t94 S) e
noncomputable def aBG := kM 94 F94 aKU
noncomputable def C7 : cB := cfg aBG
theorem ok7 : C7.Ok := eB (C := C6) ok6 r94
noncomputable def aON : Code := (Tryz.f142.body).getD .skip
def aOO : aC := (aC.node (some (0, [(0, Kd.v), (1, Kd.v)])) aC.nil (aC.node none (aC.node none aC.nil (aC.node none (aC.node (some (1, [(0, Kd.v), (1, Kd.v), (7, Kd.i .i64), (8, Kd.i .i64)])) (aC.node none aC.nil (aC.node none (aC.node none aC.nil aC.nil) (aC.node none (aC.node none (aC.node none aC.nil (aC.node none aC.nil (aC.node none (aC.node none aC.nil aC.nil) aC.nil))) aC.nil) aC.nil))) aC.nil) aC.nil)) (aC.node (some (2, [])) aC.nil aC.nil)))
noncomputable def aOP (S : Sg) (h : Hp) : aT :=
 some ((Value.int .i64 (Int.negSucc 0)), h)
noncomputable def J7 (S : Sg) (r0 : Value) (r1 : Value) (r7 : Int) (r8 : Int) (h : Hp) : aT :=
 dF (nM r8 r7) fun b0 =>
 dI b0
 (jF 4 r0 r8 fun v1 =>
 bQ 4 h v1 fun v2 =>
 aY (oO aBG r1 [v2] h) fun v3 h3 =>
 bW v3 fun b4 =>
 dI b4
 (some ((Value.int .i64 r8), h3))
 (wrap64 (Int.add r8 (Int.ofNat 1)) fun i5 =>
 S 1 (AL.v r0 (AL.v r1 (AL.i r7 (AL.i i5 AL.n)))) h3))
 (S 2 AL.n h)
noncomputable def X5 (S : Sg) (r0 : Value) (r1 : Value) (h : Hp) : aT :=
 gY r0 fun i0 =>
 S 1 (AL.v r0 (AL.v r1 (AL.i i0 (AL.i (Int.ofNat 0) AL.n)))) h
noncomputable def aBH (S : Sg) : Sg := eF 0 (uV fun r0 => uV fun r1 => uN fun h => X5 S r0 r1 h) (eF 1 (uV fun r0 => uV fun r1 => uI fun r7 => uI fun r8 => uN fun h => J7 S r0 r1 r7 r8 h) (eF 2 (uN fun h => aOP S  h) (kU)))
noncomputable def aS1 (args : List Value) (h : Hp) : aT := bV [Kd.v, Kd.v] args fun al => aP aBH 1000000 0 al h
def aGU : Nat := 2 + (19 - 2)
theorem aY6 (S : Sg) (h : Hp) : aOP S  h = aG (cO env aBG (aGU)) (dA env Tryz.f142.results.toList) (collect aON aOO []) 2 S AL.n h := by kernel_rfl
theorem aY7 (S : Sg) (r0 : Value) (r1 : Value) (r7 : Int) (r8 : Int) (h : Hp) : J7 S r0 r1 r7 r8 h = aG (cO env aBG (aGU)) (dA env Tryz.f142.results.toList) (collect aON aOO []) 1 S (AL.v r0 (AL.v r1 (AL.i r7 (AL.i r8 AL.n)))) h := by kernel_rfl
theorem aY8 (S : Sg) (r0 : Value) (r1 : Value) (h : Hp) : X5 S r0 r1 h = aG (cO env aBG (aGU)) (dA env Tryz.f142.results.toList) (collect aON aOO []) 0 S (AL.v r0 (AL.v r1 AL.n)) h := by kernel_rfl
theorem t142 (S : Sg) : eZ (fun l vs h => aG (cO env aBG aGU) (dA env Tryz.f142.results.toList) (collect aON aOO []) l S vs h) (aBH S) := by
 unfold aBH
 refine eZ.cons 0 (fun iF h q e0 => ?_) ?_
 ·obtain ⟨r0, vs1, rfl, e1⟩ := aH e0
  obtain ⟨r1, vs2, rfl, e2⟩ := aH e1
  obtain ⟨rfl, ee⟩ := bB e2
  exact (aY8 S r0 r1 h).symm.trans ee
 refine eZ.cons 1 (fun iF h q e0 => ?_) ?_
 ·obtain ⟨r0, vs1, rfl, e1⟩ := aH e0
  obtain ⟨r1, vs2, rfl, e2⟩ := aH e1
  obtain ⟨r7, vs3, rfl, e3⟩ := bH e2
  obtain ⟨r8, SA, rfl, e4⟩ := bH e3
  obtain ⟨rfl, ee⟩ := bB e4
  exact (aY7 S r0 r1 r7 r8 h).symm.trans ee
 refine eZ.cons 2 (fun iF h q e0 => ?_) ?_
 ·
  obtain ⟨rfl, ee⟩ := bB e0
  exact (aY6 S  h).symm.trans ee
 exact eZ.nil
theorem bHS : ∀ args h v h', aS1 args h = some (v, h') → gG (C7) (.call 142 args.toArray h) (.ret v h') := by
 intro args h v h' e
 exact bY (C := C7) (fn := Tryz.f142) (body := aON) (np := 2) (A := aOO) (T := aBH) (kinds := [Kd.v, Kd.v]) (by kernel_rfl) (by kernel_rfl) (by kernel_rfl) (by kernel_rfl) (dZ eX) (by kernel_rfl) (fun S => t142 S) e
noncomputable def aS2 := kM 142 aS1 aBG
noncomputable def C8 : cB := cfg aS2
theorem ok8 : C8.Ok := eB (C := C7) ok7 bHS
noncomputable def B95 : Code := (Tryz.f95.body).getD .skip
def A95 : aC := (aC.node (some (0, [(0, Kd.v), (1, Kd.v)])) aC.nil (aC.node none aC.nil aC.nil))
noncomputable def aGV (S : Sg) (r0 : Value) (r1 : Value) (h : Hp) : aT :=
 aY (dR aS1 [r0, r1] h) fun v0 h0 =>
 bI .i64 v0 fun i1 =>
 dK (nM i1 (Int.ofNat 0)) fun b2 =>
 some ((Value.bool b2), h0)
noncomputable def T95 (S : Sg) : Sg := eF 0 (uV fun r0 => uV fun r1 => uN fun h => aGV S r0 r1 h) (kU)
noncomputable def F95 (args : List Value) (h : Hp) : aT := bV [Kd.v, Kd.v] args fun al => aP T95 1000000 0 al h
def a5P : Nat := 2 + (9 - 2)
theorem a5Q (S : Sg) (r0 : Value) (r1 : Value) (h : Hp) : aGV S r0 r1 h = aG (cO env aS2 (a5P)) (dA env Tryz.f95.results.toList) (collect B95 A95 []) 0 S (AL.v r0 (AL.v r1 AL.n)) h := by kernel_rfl
theorem t95 (S : Sg) : eZ (fun l vs h => aG (cO env aS2 a5P) (dA env Tryz.f95.results.toList) (collect B95 A95 []) l S vs h) (T95 S) := by
 unfold T95
 refine eZ.cons 0 (fun iF h q e0 => ?_) ?_
 ·obtain ⟨r0, vs1, rfl, e1⟩ := aH e0
  obtain ⟨r1, vs2, rfl, e2⟩ := aH e1
  obtain ⟨rfl, ee⟩ := bB e2
  exact (a5Q S r0 r1 h).symm.trans ee
 exact eZ.nil
theorem r95 : ∀ args h v h', F95 args h = some (v, h') → gG (C8) (.call 95 args.toArray h) (.ret v h') := by
 intro args h v h' e
 exact bY (C := C8) (fn := Tryz.f95) (body := B95) (np := 2) (A := A95) (T := T95) (kinds := [Kd.v, Kd.v]) (by kernel_rfl) (by kernel_rfl) (by kernel_rfl) (by kernel_rfl) (dZ eX) (by kernel_rfl) (fun S => t95 S) e
noncomputable def aKV := kM 95 F95 aS2
noncomputable def C9 : cB := cfg aKV
theorem ok9 : C9.Ok := eB (C := C8) ok8 r95
noncomputable def B56 : Code := (Tryz.f56.body).getD .skip
def A56 : aC := (aC.node (some (0, [(0, Kd.v), (1, Kd.v)])) aC.nil (aC.node none (aC.node none (aC.node none aC.nil (aC.node none (aC.node none aC.nil aC.nil) (aC.node none aC.nil (aC.node none (aC.node none aC.nil aC.nil) (aC.node none aC.nil (aC.node none (aC.node none aC.nil aC.nil) (aC.node none (aC.node none aC.nil (aC.node none aC.nil aC.nil)) (aC.node (some (1, [(0, Kd.v), (3, Kd.v), (19, Kd.b)])) (aC.node none aC.nil aC.nil) (aC.node none aC.nil (aC.node none (aC.node none aC.nil aC.nil) aC.nil)))))))))) aC.nil) (aC.node (some (2, [])) aC.nil aC.nil)))
noncomputable def aVQ (S : Sg) (h : Hp) : aT :=
 some ((Value.int .i64 (Int.ofNat 0)), h)
noncomputable def aBI (S : Sg) (r0 : Value) (r3 : Value) (X6 : Bool) (h : Hp) : aT :=
 dI X6
 (some ((Value.int .i64 (Int.ofNat 7)), h))
 (gY r0 fun i0 =>
 dF (nM (Int.ofNat 0) i0) fun b1 =>
 dI b1
 (aV 2 r3 fun v2 =>
 bC h v2 fun v3 =>
 bI .i64 v3 fun i4 =>
 gY r0 fun i5 =>
 wrap64 (Int.sub i5 (Int.ofNat 1)) fun i6 =>
 jF 4 r0 i6 fun v7 =>
 aV 2 v7 fun v8 =>
 bC h v8 fun v9 =>
 bI .i64 v9 fun i10 =>
 dF (nM i4 i10) fun b11 =>
 dI b11
 (some ((Value.int .i64 (Int.ofNat 2)), h))
 (S 2 AL.n h))
 (S 2 AL.n h))
noncomputable def aGW (S : Sg) (r0 : Value) (r1 : Value) (h : Hp) : aT :=
 dP h 76 (Array.toList (Value.cells r1)) fun a0 h0 =>
 aV 0 a0 fun v1 =>
 bC h0 v1 fun v2 =>
 aY (dR F94 [v2] h0) fun v3 h3 =>
 bW v3 fun b4 =>
 dK b4 fun b5 =>
 dI b5
 (some ((Value.int .i64 (Int.ofNat 6)), h3))
 (aY (dR F95 [r0, (Value.func (.func 96) (List.toArray []) (List.toArray [a0]))] h3) fun v6 h6 =>
 bW v6 fun b7 =>
 dI b7
 (some ((Value.int .i64 (Int.ofNat 5)), h6))
 (aV 1 a0 fun v8 =>
 bC h6 v8 fun v9 =>
 aY (dR F94 [v9] h6) fun v10 h10 =>
 bW v10 fun b11 =>
 dK b11 fun b12 =>
 dI b12
 (some ((Value.int .i64 (Int.ofNat 6)), h10))
 (aV 2 a0 fun v13 =>
 bC h10 v13 fun v14 =>
 bI .i64 v14 fun i15 =>
 aY (bJ env h10 23 1 (List.toArray [(0, (Value.int .i64 i15))])) fun v16 h16 =>
 aY (dD (F54 [(Value.int .i64 (Int.ofNat 0)), (Value.int .i64 (Int.ofNat 9)), v16] h16) fun v => some (v, h16)) fun v17 h17 =>
 bW v17 fun b18 =>
 dK b18 fun b19 =>
 dI b19
 (S 1 (AL.v r0 (AL.v a0 (AL.b b19 AL.n))) h17)
 (aV 3 a0 fun v20 =>
 bC h17 v20 fun v21 =>
 bI .i64 v21 fun i22 =>
 aY (bJ env h17 23 1 (List.toArray [(0, (Value.int .i64 i22))])) fun v23 h23 =>
 aY (dD (F54 [(Value.int .i64 (Int.ofNat 1)), (Value.int .i64 (Int.ofNat 6)), v23] h23) fun v => some (v, h23)) fun v24 h24 =>
 bW v24 fun b25 =>
 dK b25 fun b26 =>
 S 1 (AL.v r0 (AL.v a0 (AL.b b26 AL.n))) h24))))
noncomputable def T56 (S : Sg) : Sg := eF 0 (uV fun r0 => uV fun r1 => uN fun h => aGW S r0 r1 h) (eF 1 (uV fun r0 => uV fun r3 => uB fun X6 => uN fun h => aBI S r0 r3 X6 h) (eF 2 (uN fun h => aVQ S  h) (kU)))
noncomputable def F56 (args : List Value) (h : Hp) : aT := bV [Kd.v, Kd.v] args fun al => aP T56 1000000 0 al h
def aS4 : Nat := 2 + (46 - 2)
theorem a5U (S : Sg) (h : Hp) : aVQ S  h = aG (cO env aKV (aS4)) (dA env Tryz.f56.results.toList) (collect B56 A56 []) 2 S AL.n h := by kernel_rfl
theorem a5V (S : Sg) (r0 : Value) (r3 : Value) (X6 : Bool) (h : Hp) : aBI S r0 r3 X6 h = aG (cO env aKV (aS4)) (dA env Tryz.f56.results.toList) (collect B56 A56 []) 1 S (AL.v r0 (AL.v r3 (AL.b X6 AL.n))) h := by kernel_rfl
theorem a5W (S : Sg) (r0 : Value) (r1 : Value) (h : Hp) : aGW S r0 r1 h = aG (cO env aKV (aS4)) (dA env Tryz.f56.results.toList) (collect B56 A56 []) 0 S (AL.v r0 (AL.v r1 AL.n)) h := by kernel_rfl
theorem t56 (S : Sg) : eZ (fun l vs h => aG (cO env aKV aS4) (dA env Tryz.f56.results.toList) (collect B56 A56 []) l S vs h) (T56 S) := by
 unfold T56
 refine eZ.cons 0 (fun iF h q e0 => ?_) ?_
 ·obtain ⟨r0, vs1, rfl, e1⟩ := aH e0
  obtain ⟨r1, vs2, rfl, e2⟩ := aH e1
  obtain ⟨rfl, ee⟩ := bB e2
  exact (a5W S r0 r1 h).symm.trans ee
 refine eZ.cons 1 (fun iF h q e0 => ?_) ?_
 ·obtain ⟨r0, vs1, rfl, e1⟩ := aH e0
  obtain ⟨r3, vs2, rfl, e2⟩ := aH e1
  obtain ⟨X6, vs3, rfl, e3⟩ := aGJ e2
  obtain ⟨rfl, ee⟩ := bB e3
  exact (a5V S r0 r3 X6 h).symm.trans ee
 refine eZ.cons 2 (fun iF h q e0 => ?_) ?_
 ·
  obtain ⟨rfl, ee⟩ := bB e0
  exact (a5U S  h).symm.trans ee
 exact eZ.nil
theorem r56 : ∀ args h v h', F56 args h = some (v, h') → gG (C9) (.call 56 args.toArray h) (.ret v h') := by
 intro args h v h' e
 exact bY (C := C9) (fn := Tryz.f56) (body := B56) (np := 2) (A := A56) (T := T56) (kinds := [Kd.v, Kd.v]) (by kernel_rfl) (by kernel_rfl) (by kernel_rfl) (by kernel_rfl) (dZ eX) (by kernel_rfl) (fun S => t56 S) e
noncomputable def aVS := kM 56 F56 aKV
noncomputable def C10 : cB := cfg aVS
theorem bHX : C10.Ok := eB (C := C9) ok9 r56
noncomputable def B64 : Code := (Tryz.f64.body).getD .skip
noncomputable def A64 : G.aC (List KI) := (G.aC.node (some (0, [KI.reg 0 (Kd.i .i64), KI.reg 1 (Kd.v)])) G.aC.nil (G.aC.node none G.aC.nil G.aC.nil))
noncomputable def aGX (h : Hp) (S : Nat → aR → Option Value) (r0 : Int) (r1 : Value) : Option Value :=
 wrap64 (Int.sub r0 (Int.ofNat 1)) fun i0 =>
 dD (F54 [(Value.int .i64 (Int.ofNat 0)), (Value.int .i64 i0), r1] h) fun v1 =>
 bW v1 fun b2 =>
 some (Value.bool b2)
noncomputable def T64 (h : Hp) (S : Nat → aR → Option Value) : Nat → aR → Option Value := gM 0 (wI fun r0 => wV fun r1 => wN (aGX h S r0 r1)) (mG)
noncomputable def F64 (args : List Value) (h : Hp) : Option Value := plainO (fG [Kd.i .i64, Kd.v] args fun al => G.aP (T64 h) 1000000 0 al)
def a5Y : Nat := 2 + (9 - 2)
theorem a5Z (h : Hp) (S : Nat → aR → Option Value) (r0 : Int) (r1 : Value) : aGX h S r0 r1 = G.aG cK aZ gJ (gQ env pf6 a5Y h) (gW env Tryz.f64.results.toList) (G.collect B64 A64 []) 0 S (aR.i r0 (aR.v r1 aR.n)) := by kernel_rfl
theorem t64 (h : Hp) (S : Nat → aR → Option Value) : dY (fun l al => G.aG cK aZ gJ (gQ env pf6 a5Y h) (gW env Tryz.f64.results.toList) (G.collect B64 A64 []) l S al) (T64 h S) := by
 unfold T64
 refine dY.cons 0 (fun iF q e0 => ?_) ?_
 ·obtain ⟨r0, vs1, rfl, e1⟩ := bZ e0
  obtain ⟨r1, vs2, rfl, e2⟩ := dX e1
  obtain ⟨rfl, ee⟩ := dG e2
  exact (a5Z h S r0 r1).symm.trans ee
 exact dY.nil
theorem r64 : dS Tryz.prog 64 F64 := eD (C := C0) ok0 (pf := pf6) aVP (fn := Tryz.f64) (body := B64) (kinds := [Kd.i .i64, Kd.v]) (A := A64) (T := T64) (by kernel_rfl) (by kernel_rfl) (by kernel_rfl) (by kernel_rfl) (fun h S => t64 h S)
noncomputable def pf7 : PF := M5 64 F64 pf6
theorem aVU : gF Tryz.prog pf7 := jX r64 aVP
noncomputable def aVV := pI 64 F64 aVS
noncomputable def C11 : cB := cfg aVV
theorem bH0 : C11.Ok := gZ (C := C10) bHX r64
noncomputable def aOQ : Code := (Tryz.f143.body).getD .skip
noncomputable def aOR : G.aC (List KI) := (G.aC.node (some (0, [KI.reg 0 (Kd.v), KI.reg 1 (Kd.i .i64)])) G.aC.nil (G.aC.node none (G.aC.node none G.aC.nil (G.aC.node none (G.aC.node (some (1, [KI.reg 0 (Kd.v), KI.reg 1 (Kd.i .i64), KI.reg 7 (Kd.i .i64), KI.reg 8 (Kd.i .i64)])) (G.aC.node none G.aC.nil (G.aC.node none (G.aC.node none G.aC.nil G.aC.nil) (G.aC.node none (G.aC.node none (G.aC.node none G.aC.nil (G.aC.node none G.aC.nil (G.aC.node none (G.aC.node none G.aC.nil G.aC.nil) G.aC.nil))) G.aC.nil) G.aC.nil))) G.aC.nil) G.aC.nil)) (G.aC.node (some (2, [])) G.aC.nil G.aC.nil)))
noncomputable def aOS (h : Hp) (S : Nat → aR → Option Value) : Option Value :=
 some (Value.int .i64 (Int.negSucc 0))
noncomputable def J8 (h : Hp) (S : Nat → aR → Option Value) (r0 : Value) (r1 : Int) (r7 : Int) (r8 : Int) : Option Value :=
 dF (nM r8 r7) fun b0 =>
 dI b0
 (jF 1 r0 r8 fun v1 =>
 bC h v1 fun v2 =>
 bI .i64 v2 fun i3 =>
 dF (tJ r1 i3) fun b4 =>
 dI b4
 (some (Value.int .i64 r8))
 (wrap64 (Int.add r8 (Int.ofNat 1)) fun i5 =>
 S 1 (aR.v r0 (aR.i r1 (aR.i r7 (aR.i i5 aR.n))))))
 (S 2 aR.n)
noncomputable def X7 (h : Hp) (S : Nat → aR → Option Value) (r0 : Value) (r1 : Int) : Option Value :=
 gY r0 fun i0 =>
 S 1 (aR.v r0 (aR.i r1 (aR.i i0 (aR.i (Int.ofNat 0) aR.n))))
noncomputable def aBJ (h : Hp) (S : Nat → aR → Option Value) : Nat → aR → Option Value := gM 0 (wV fun r0 => wI fun r1 => wN (X7 h S r0 r1)) (gM 1 (wV fun r0 => wI fun r1 => wI fun r7 => wI fun r8 => wN (J8 h S r0 r1 r7 r8)) (gM 2 (wN (aOS h S)) (mG)))
noncomputable def aOT (args : List Value) (h : Hp) : Option Value := plainO (fG [Kd.v, Kd.i .i64] args fun al => G.aP (aBJ h) 1000000 0 al)
def aGY : Nat := 2 + (19 - 2)
theorem aZA (h : Hp) (S : Nat → aR → Option Value) : aOS h S = G.aG cK aZ gJ (gQ env pf7 aGY h) (gW env Tryz.f143.results.toList) (G.collect aOQ aOR []) 2 S aR.n := by kernel_rfl
theorem aZB (h : Hp) (S : Nat → aR → Option Value) (r0 : Value) (r1 : Int) (r7 : Int) (r8 : Int) : J8 h S r0 r1 r7 r8 = G.aG cK aZ gJ (gQ env pf7 aGY h) (gW env Tryz.f143.results.toList) (G.collect aOQ aOR []) 1 S (aR.v r0 (aR.i r1 (aR.i r7 (aR.i r8 aR.n)))) := by kernel_rfl
theorem aZC (h : Hp) (S : Nat → aR → Option Value) (r0 : Value) (r1 : Int) : X7 h S r0 r1 = G.aG cK aZ gJ (gQ env pf7 aGY h) (gW env Tryz.f143.results.toList) (G.collect aOQ aOR []) 0 S (aR.v r0 (aR.i r1 aR.n)) := by kernel_rfl
theorem t143 (h : Hp) (S : Nat → aR → Option Value) : dY (fun l al => G.aG cK aZ gJ (gQ env pf7 aGY h) (gW env Tryz.f143.results.toList) (G.collect aOQ aOR []) l S al) (aBJ h S) := by
 unfold aBJ
 refine dY.cons 0 (fun iF q e0 => ?_) ?_
 ·obtain ⟨r0, vs1, rfl, e1⟩ := dX e0
  obtain ⟨r1, vs2, rfl, e2⟩ := bZ e1
  obtain ⟨rfl, ee⟩ := dG e2
  exact (aZC h S r0 r1).symm.trans ee
 refine dY.cons 1 (fun iF q e0 => ?_) ?_
 ·obtain ⟨r0, vs1, rfl, e1⟩ := dX e0
  obtain ⟨r1, vs2, rfl, e2⟩ := bZ e1
  obtain ⟨r7, vs3, rfl, e3⟩ := bZ e2
  obtain ⟨r8, SA, rfl, e4⟩ := bZ e3
  obtain ⟨rfl, ee⟩ := dG e4
  exact (aZB h S r0 r1 r7 r8).symm.trans ee
 refine dY.cons 2 (fun iF q e0 => ?_) ?_
 ·
  obtain ⟨rfl, ee⟩ := dG e0
  exact (aZA h S).symm.trans ee
 exact dY.nil
theorem a6A : dS Tryz.prog 143 aOT := eD (C := C0) ok0 (pf := pf7) aVU (fn := Tryz.f143) (body := aOQ) (kinds := [Kd.v, Kd.i .i64]) (A := aOR) (T := aBJ) (by kernel_rfl) (by kernel_rfl) (by kernel_rfl) (by kernel_rfl) (fun h S => t143 h S)
noncomputable def pf8 : PF := M5 143 aOT pf7
theorem aVW : gF Tryz.prog pf8 := jX a6A aVU
noncomputable def aVX := pI 143 aOT aVV
noncomputable def C12 : cB := cfg aVX
theorem bH1 : C12.Ok := gZ (C := C11) bH0 a6A
noncomputable def B98 : Code := (Tryz.f98.body).getD .skip
noncomputable def A98 : G.aC (List KI) := (G.aC.node (some (0, [KI.reg 0 (Kd.v), KI.reg 1 (Kd.i .i64)])) G.aC.nil (G.aC.node none G.aC.nil G.aC.nil))
noncomputable def aGZ (h : Hp) (S : Nat → aR → Option Value) (r0 : Value) (r1 : Int) : Option Value :=
 dD (aOT [r0, (Value.int .i64 r1)] h) fun v0 =>
 bI .i64 v0 fun i1 =>
 dK (nM i1 (Int.ofNat 0)) fun b2 =>
 some (Value.bool b2)
noncomputable def T98 (h : Hp) (S : Nat → aR → Option Value) : Nat → aR → Option Value := gM 0 (wV fun r0 => wI fun r1 => wN (aGZ h S r0 r1)) (mG)
noncomputable def F98 (args : List Value) (h : Hp) : Option Value := plainO (fG [Kd.v, Kd.i .i64] args fun al => G.aP (T98 h) 1000000 0 al)
def a6E : Nat := 2 + (9 - 2)
theorem a6F (h : Hp) (S : Nat → aR → Option Value) (r0 : Value) (r1 : Int) : aGZ h S r0 r1 = G.aG cK aZ gJ (gQ env pf8 a6E h) (gW env Tryz.f98.results.toList) (G.collect B98 A98 []) 0 S (aR.v r0 (aR.i r1 aR.n)) := by kernel_rfl
theorem t98 (h : Hp) (S : Nat → aR → Option Value) : dY (fun l al => G.aG cK aZ gJ (gQ env pf8 a6E h) (gW env Tryz.f98.results.toList) (G.collect B98 A98 []) l S al) (T98 h S) := by
 unfold T98
 refine dY.cons 0 (fun iF q e0 => ?_) ?_
 ·obtain ⟨r0, vs1, rfl, e1⟩ := dX e0
  obtain ⟨r1, vs2, rfl, e2⟩ := bZ e1
  obtain ⟨rfl, ee⟩ := dG e2
  exact (a6F h S r0 r1).symm.trans ee
 exact dY.nil
theorem r98 : dS Tryz.prog 98 F98 := eD (C := C0) ok0 (pf := pf8) aVW (fn := Tryz.f98) (body := B98) (kinds := [Kd.v, Kd.i .i64]) (A := A98) (T := T98) (by kernel_rfl) (by kernel_rfl) (by kernel_rfl) (by kernel_rfl) (fun h S => t98 h S)
noncomputable def pf9 : PF := M5 98 F98 pf8
theorem aVY : gF Tryz.prog pf9 := jX r98 aVW
noncomputable def aG0 := pI 98 F98 aVX
noncomputable def C13 : cB := cfg aG0
theorem bH4 : C13.Ok := gZ (C := C12) bH1 r98
noncomputable def B59 : Code := (Tryz.f59.body).getD .skip
def A59 : aC := (aC.node (some (0, [(0, Kd.i .i64), (1, Kd.v), (2, Kd.i .i64)])) aC.nil (aC.node none (aC.node none (aC.node none aC.nil (aC.node none (aC.node none aC.nil aC.nil) (aC.node none aC.nil (aC.node none (aC.node none aC.nil aC.nil) aC.nil)))) aC.nil) (aC.node none aC.nil aC.nil)))
noncomputable def aG1 (S : Sg) (r0 : Int) (r1 : Value) (r2 : Int) (h : Hp) : aT :=
 nN .i64 (RQ (lH env .shl 3 (Value.int .i64 (Int.ofNat 1)) (Value.int .i64 r0)) (Value.int .i64 (Int.ofNat 1)) (Value.int .i64 r0)) fun i0 =>
 aY (bJ env h 23 1 (List.toArray [(0, (Value.int .i64 r2))])) fun v1 h1 =>
 aY (dD (F64 [(Value.int .i64 i0), v1] h1) fun v => some (v, h1)) fun v2 h2 =>
 bW v2 fun b3 =>
 dK b3 fun b4 =>
 dI b4
 (some ((Value.int .i64 (Int.ofNat 4)), h2))
 (aY (dD (F98 [r1, (Value.int .i64 r2)] h2) fun v => some (v, h2)) fun v5 h5 =>
 bW v5 fun b6 =>
 dI b6
 (some ((Value.int .i64 (Int.ofNat 5)), h5))
 (some ((Value.int .i64 (Int.ofNat 0)), h5)))
noncomputable def T59 (S : Sg) : Sg := eF 0 (uI fun r0 => uV fun r1 => uI fun r2 => uN fun h => aG1 S r0 r1 r2 h) (kU)
noncomputable def F59 (args : List Value) (h : Hp) : aT := bV [Kd.i .i64, Kd.v, Kd.i .i64] args fun al => aP T59 1000000 0 al h
def a6J : Nat := 3 + (18 - 3)
theorem a6K (S : Sg) (r0 : Int) (r1 : Value) (r2 : Int) (h : Hp) : aG1 S r0 r1 r2 h = aG (cO env aG0 (a6J)) (dA env Tryz.f59.results.toList) (collect B59 A59 []) 0 S (AL.i r0 (AL.v r1 (AL.i r2 AL.n))) h := by kernel_rfl
theorem t59 (S : Sg) : eZ (fun l vs h => aG (cO env aG0 a6J) (dA env Tryz.f59.results.toList) (collect B59 A59 []) l S vs h) (T59 S) := by
 unfold T59
 refine eZ.cons 0 (fun iF h q e0 => ?_) ?_
 ·obtain ⟨r0, vs1, rfl, e1⟩ := bH e0
  obtain ⟨r1, vs2, rfl, e2⟩ := aH e1
  obtain ⟨r2, vs3, rfl, e3⟩ := bH e2
  obtain ⟨rfl, ee⟩ := bB e3
  exact (a6K S r0 r1 r2 h).symm.trans ee
 exact eZ.nil
theorem r59 : ∀ args h v h', F59 args h = some (v, h') → gG (C13) (.call 59 args.toArray h) (.ret v h') := by
 intro args h v h' e
 exact bY (C := C13) (fn := Tryz.f59) (body := B59) (np := 3) (A := A59) (T := T59) (kinds := [Kd.i .i64, Kd.v, Kd.i .i64]) (by kernel_rfl) (by kernel_rfl) (by kernel_rfl) (by kernel_rfl) (dZ eX) (by kernel_rfl) (fun S => t59 S) e
noncomputable def aG2 := kM 59 F59 aG0
noncomputable def C14 : cB := cfg aG2
theorem bH7 : C14.Ok := eB (C := C13) bH4 r59
noncomputable def B58 : Code := (Tryz.f58.body).getD .skip
def A58 : aC := (aC.node (some (0, [(0, Kd.v), (1, Kd.i .i64), (2, Kd.v)])) aC.nil (aC.node none aC.nil aC.nil))
noncomputable def aG3 (S : Sg) (r0 : Value) (r1 : Int) (r2 : Value) (h : Hp) : aT :=
 aV 1 r2 fun v0 =>
 bC h v0 fun v1 =>
 gY v1 fun i2 =>
 aY (dR F59 [(Value.int .i64 i2), r0, (Value.int .i64 r1)] h) fun v3 h3 =>
 bI .i64 v3 fun i4 =>
 some ((Value.int .i64 i4), h3)
noncomputable def T58 (S : Sg) : Sg := eF 0 (uV fun r0 => uI fun r1 => uV fun r2 => uN fun h => aG3 S r0 r1 r2 h) (kU)
noncomputable def F58 (args : List Value) (h : Hp) : aT := bV [Kd.v, Kd.i .i64, Kd.v] args fun al => aP T58 1000000 0 al h
def a6N : Nat := 3 + (12 - 3)
theorem a6O (S : Sg) (r0 : Value) (r1 : Int) (r2 : Value) (h : Hp) : aG3 S r0 r1 r2 h = aG (cO env aG2 (a6N)) (dA env Tryz.f58.results.toList) (collect B58 A58 []) 0 S (AL.v r0 (AL.i r1 (AL.v r2 AL.n))) h := by kernel_rfl
theorem t58 (S : Sg) : eZ (fun l vs h => aG (cO env aG2 a6N) (dA env Tryz.f58.results.toList) (collect B58 A58 []) l S vs h) (T58 S) := by
 unfold T58
 refine eZ.cons 0 (fun iF h q e0 => ?_) ?_
 ·obtain ⟨r0, vs1, rfl, e1⟩ := aH e0
  obtain ⟨r1, vs2, rfl, e2⟩ := bH e1
  obtain ⟨r2, vs3, rfl, e3⟩ := aH e2
  obtain ⟨rfl, ee⟩ := bB e3
  exact (a6O S r0 r1 r2 h).symm.trans ee
 exact eZ.nil
theorem r58 : ∀ args h v h', F58 args h = some (v, h') → gG (C14) (.call 58 args.toArray h) (.ret v h') := by
 intro args h v h' e
 exact bY (C := C14) (fn := Tryz.f58) (body := B58) (np := 3) (A := A58) (T := T58) (kinds := [Kd.v, Kd.i .i64, Kd.v]) (by kernel_rfl) (by kernel_rfl) (by kernel_rfl) (by kernel_rfl) (dZ eX) (by kernel_rfl) (fun S => t58 S) e
noncomputable def BQ := kM 58 F58 aG2
noncomputable def C15 : cB := cfg BQ
theorem bIA : C15.Ok := eB (C := C14) bH7 r58
noncomputable def B93 : Code := (Tryz.f93.body).getD .skip
def A93 : aC := (aC.node (some (0, [(0, Kd.v), (1, Kd.v)])) aC.nil (aC.node none (aC.node none aC.nil (aC.node none (aC.node (some (1, [(0, Kd.v), (1, Kd.v), (9, Kd.v), (10, Kd.i .i64), (11, Kd.i .i64)])) (aC.node none aC.nil (aC.node none (aC.node none aC.nil aC.nil) (aC.node none (aC.node none (aC.node none aC.nil (aC.node none aC.nil (aC.node none aC.nil (aC.node none (aC.node none aC.nil aC.nil) aC.nil)))) aC.nil) aC.nil))) aC.nil) aC.nil)) (aC.node (some (2, [])) aC.nil aC.nil)))
noncomputable def aVZ (S : Sg) (h : Hp) : aT :=
 some (Value.tuple (List.toArray [(Value.int .i64 (Int.ofNat 0)), (Value.int .i64 (Int.ofNat 0))]), h)
noncomputable def U1 (S : Sg) (r0 : Value) (r1 : Value) (r9 : Value) (kW : Int) (zR : Int) (h : Hp) : aT :=
 dF (nM zR kW) fun b0 =>
 dI b0
 (jF 4 r9 zR fun v1 =>
 bQ 4 h v1 fun v2 =>
 dP h 76 [(Value.string (ByteArray.mk #[])), (Value.string (ByteArray.mk #[])), (Value.int .i64 (Int.ofNat 0)), (Value.int .i64 (Int.ofNat 0))] fun a3 h3 =>
 iY 4 h3 a3 v2 fun h4 =>
 dD (o5 env h4 22 r0 none (some (Value.int .i64 zR)) none) fun v5 =>
 bQ 4 h4 a3 fun v6 =>
 aY (oO BQ r1 [v5, v6] h4) fun v7 h7 =>
 bI .i64 v7 fun i8 =>
 dK (tJ i8 (Int.ofNat 0)) fun b9 =>
 dI b9
 (some (Value.tuple (List.toArray [(Value.int .i64 zR), (Value.int .i64 i8)]), h7))
 (wrap64 (Int.add zR (Int.ofNat 1)) fun i10 =>
 S 1 (AL.v r0 (AL.v r1 (AL.v r9 (AL.i kW (AL.i i10 AL.n))))) h7))
 (S 2 AL.n h)
noncomputable def aG4 (S : Sg) (r0 : Value) (r1 : Value) (h : Hp) : aT :=
 gY r0 fun i0 =>
 S 1 (AL.v r0 (AL.v r1 (AL.v r0 (AL.i i0 (AL.i (Int.ofNat 0) AL.n))))) h
noncomputable def T93 (S : Sg) : Sg := eF 0 (uV fun r0 => uV fun r1 => uN fun h => aG4 S r0 r1 h) (eF 1 (uV fun r0 => uV fun r1 => uV fun r9 => uI fun kW => uI fun zR => uN fun h => U1 S r0 r1 r9 kW zR h) (eF 2 (uN fun h => aVZ S  h) (kU)))
noncomputable def F93 (args : List Value) (h : Hp) : aT := bV [Kd.v, Kd.v] args fun al => aP T93 1000000 0 al h
def aS5 : Nat := 2 + (27 - 2)
theorem a6R (S : Sg) (h : Hp) : aVZ S  h = aG (cO env BQ (aS5)) (dA env Tryz.f93.results.toList) (collect B93 A93 []) 2 S AL.n h := by kernel_rfl
theorem a6S (S : Sg) (r0 : Value) (r1 : Value) (r9 : Value) (kW : Int) (zR : Int) (h : Hp) : U1 S r0 r1 r9 kW zR h = aG (cO env BQ (aS5)) (dA env Tryz.f93.results.toList) (collect B93 A93 []) 1 S (AL.v r0 (AL.v r1 (AL.v r9 (AL.i kW (AL.i zR AL.n))))) h := by kernel_rfl
theorem a6T (S : Sg) (r0 : Value) (r1 : Value) (h : Hp) : aG4 S r0 r1 h = aG (cO env BQ (aS5)) (dA env Tryz.f93.results.toList) (collect B93 A93 []) 0 S (AL.v r0 (AL.v r1 AL.n)) h := by kernel_rfl
theorem t93 (S : Sg) : eZ (fun l vs h => aG (cO env BQ aS5) (dA env Tryz.f93.results.toList) (collect B93 A93 []) l S vs h) (T93 S) := by
 unfold T93
 refine eZ.cons 0 (fun iF h q e0 => ?_) ?_
 ·obtain ⟨r0, vs1, rfl, e1⟩ := aH e0
  obtain ⟨r1, vs2, rfl, e2⟩ := aH e1
  obtain ⟨rfl, ee⟩ := bB e2
  exact (a6T S r0 r1 h).symm.trans ee
 refine eZ.cons 1 (fun iF h q e0 => ?_) ?_
 ·obtain ⟨r0, vs1, rfl, e1⟩ := aH e0
  obtain ⟨r1, vs2, rfl, e2⟩ := aH e1
  obtain ⟨r9, vs3, rfl, e3⟩ := aH e2
  obtain ⟨kW, SA, rfl, e4⟩ := bH e3
  obtain ⟨zR, vs5, rfl, e5⟩ := bH e4
  obtain ⟨rfl, ee⟩ := bB e5
  exact (a6S S r0 r1 r9 kW zR h).symm.trans ee
 refine eZ.cons 2 (fun iF h q e0 => ?_) ?_
 ·
  obtain ⟨rfl, ee⟩ := bB e0
  exact (a6R S  h).symm.trans ee
 exact eZ.nil
theorem r93 : ∀ args h v h', F93 args h = some (v, h') → gG (C15) (.call 93 args.toArray h) (.ret v h') := by
 intro args h v h' e
 exact bY (C := C15) (fn := Tryz.f93) (body := B93) (np := 2) (A := A93) (T := T93) (kinds := [Kd.v, Kd.v]) (by kernel_rfl) (by kernel_rfl) (by kernel_rfl) (by kernel_rfl) (dZ eX) (by kernel_rfl) (fun S => t93 S) e
noncomputable def aG5 := kM 93 F93 BQ
noncomputable def C16 : cB := cfg aG5
theorem ok16 : C16.Ok := eB (C := C15) bIA r93
noncomputable def B55 : Code := (Tryz.f55.body).getD .skip
def A55 : aC := (aC.node (some (0, [(0, Kd.v), (1, Kd.i .i64), (2, Kd.v)])) aC.nil (aC.node none (aC.node none aC.nil (aC.node none (aC.node none aC.nil aC.nil) aC.nil)) (aC.node none aC.nil aC.nil)))
noncomputable def aG6 (S : Sg) (r0 : Value) (r1 : Int) (r2 : Value) (h : Hp) : aT :=
 gY r0 fun i0 =>
 dF (nM r1 i0) fun b1 =>
 dI b1
 (some (Value.tuple (List.toArray [(Value.int .i64 (Int.ofNat 0)), (Value.int .i64 (Int.ofNat 3))]), h))
 (aY (dR F93 [r0, r2] h) fun v2 h2 =>
 kZ v2 0 fun v3 =>
 bI .i64 v3 fun i4 =>
 kZ v2 1 fun v5 =>
 bI .i64 v5 fun i6 =>
 some (Value.tuple (List.toArray [(Value.int .i64 i4), (Value.int .i64 i6)]), h2))
noncomputable def T55 (S : Sg) : Sg := eF 0 (uV fun r0 => uI fun r1 => uV fun r2 => uN fun h => aG6 S r0 r1 r2 h) (kU)
noncomputable def F55 (args : List Value) (h : Hp) : aT := bV [Kd.v, Kd.i .i64, Kd.v] args fun al => aP T55 1000000 0 al h
def a6W : Nat := 3 + (17 - 3)
theorem a6X (S : Sg) (r0 : Value) (r1 : Int) (r2 : Value) (h : Hp) : aG6 S r0 r1 r2 h = aG (cO env aG5 (a6W)) (dA env Tryz.f55.results.toList) (collect B55 A55 []) 0 S (AL.v r0 (AL.i r1 (AL.v r2 AL.n))) h := by kernel_rfl
theorem t55 (S : Sg) : eZ (fun l vs h => aG (cO env aG5 a6W) (dA env Tryz.f55.results.toList) (collect B55 A55 []) l S vs h) (T55 S) := by
 unfold T55
 refine eZ.cons 0 (fun iF h q e0 => ?_) ?_
 ·obtain ⟨r0, vs1, rfl, e1⟩ := aH e0
  obtain ⟨r1, vs2, rfl, e2⟩ := bH e1
  obtain ⟨r2, vs3, rfl, e3⟩ := aH e2
  obtain ⟨rfl, ee⟩ := bB e3
  exact (a6X S r0 r1 r2 h).symm.trans ee
 exact eZ.nil
theorem r55 : ∀ args h v h', F55 args h = some (v, h') → gG (C16) (.call 55 args.toArray h) (.ret v h') := by
 intro args h v h' e
 exact bY (C := C16) (fn := Tryz.f55) (body := B55) (np := 3) (A := A55) (T := T55) (kinds := [Kd.v, Kd.i .i64, Kd.v]) (by kernel_rfl) (by kernel_rfl) (by kernel_rfl) (by kernel_rfl) (dZ eX) (by kernel_rfl) (fun S => t55 S) e
noncomputable def BR := kM 55 F55 aG5
noncomputable def C17 : cB := cfg BR
theorem bID : C17.Ok := eB (C := C16) ok16 r55
noncomputable def B97 : Code := (Tryz.f97.body).getD .skip
def A97 : aC := (aC.node (some (0, [(0, Kd.v), (1, Kd.v)])) aC.nil (aC.node none (aC.node none aC.nil (aC.node none (aC.node (some (1, [(0, Kd.v), (1, Kd.v), (9, Kd.v), (10, Kd.i .i64), (11, Kd.i .i64)])) (aC.node none aC.nil (aC.node none (aC.node none aC.nil aC.nil) (aC.node none (aC.node none (aC.node none aC.nil (aC.node none aC.nil (aC.node none aC.nil (aC.node none (aC.node none aC.nil aC.nil) aC.nil)))) aC.nil) aC.nil))) aC.nil) aC.nil)) (aC.node (some (2, [])) aC.nil aC.nil)))
noncomputable def aV1 (S : Sg) (h : Hp) : aT :=
 some (Value.tuple (List.toArray [(Value.int .i64 (Int.ofNat 0)), (Value.int .i64 (Int.ofNat 0))]), h)
noncomputable def U2 (S : Sg) (r0 : Value) (r1 : Value) (r9 : Value) (kW : Int) (zR : Int) (h : Hp) : aT :=
 dF (nM zR kW) fun b0 =>
 dI b0
 (jF 1 r9 zR fun v1 =>
 bC h v1 fun v2 =>
 bI .i64 v2 fun i3 =>
 dD (o5 env h 23 r0 none (some (Value.int .i64 zR)) none) fun v4 =>
 aY (oO BR r1 [v4, (Value.int .i64 i3)] h) fun v5 h5 =>
 bI .i64 v5 fun i6 =>
 dK (tJ i6 (Int.ofNat 0)) fun b7 =>
 dI b7
 (some (Value.tuple (List.toArray [(Value.int .i64 zR), (Value.int .i64 i6)]), h5))
 (wrap64 (Int.add zR (Int.ofNat 1)) fun i8 =>
 S 1 (AL.v r0 (AL.v r1 (AL.v r9 (AL.i kW (AL.i i8 AL.n))))) h5))
 (S 2 AL.n h)
noncomputable def aG7 (S : Sg) (r0 : Value) (r1 : Value) (h : Hp) : aT :=
 gY r0 fun i0 =>
 S 1 (AL.v r0 (AL.v r1 (AL.v r0 (AL.i i0 (AL.i (Int.ofNat 0) AL.n))))) h
noncomputable def T97 (S : Sg) : Sg := eF 0 (uV fun r0 => uV fun r1 => uN fun h => aG7 S r0 r1 h) (eF 1 (uV fun r0 => uV fun r1 => uV fun r9 => uI fun kW => uI fun zR => uN fun h => U2 S r0 r1 r9 kW zR h) (eF 2 (uN fun h => aV1 S  h) (kU)))
noncomputable def F97 (args : List Value) (h : Hp) : aT := bV [Kd.v, Kd.v] args fun al => aP T97 1000000 0 al h
def aS6 : Nat := 2 + (27 - 2)
theorem a7A (S : Sg) (h : Hp) : aV1 S  h = aG (cO env BR (aS6)) (dA env Tryz.f97.results.toList) (collect B97 A97 []) 2 S AL.n h := by kernel_rfl
theorem a7B (S : Sg) (r0 : Value) (r1 : Value) (r9 : Value) (kW : Int) (zR : Int) (h : Hp) : U2 S r0 r1 r9 kW zR h = aG (cO env BR (aS6)) (dA env Tryz.f97.results.toList) (collect B97 A97 []) 1 S (AL.v r0 (AL.v r1 (AL.v r9 (AL.i kW (AL.i zR AL.n))))) h := by kernel_rfl
theorem a7C (S : Sg) (r0 : Value) (r1 : Value) (h : Hp) : aG7 S r0 r1 h = aG (cO env BR (aS6)) (dA env Tryz.f97.results.toList) (collect B97 A97 []) 0 S (AL.v r0 (AL.v r1 AL.n)) h := by kernel_rfl
theorem t97 (S : Sg) : eZ (fun l vs h => aG (cO env BR aS6) (dA env Tryz.f97.results.toList) (collect B97 A97 []) l S vs h) (T97 S) := by
 unfold T97
 refine eZ.cons 0 (fun iF h q e0 => ?_) ?_
 ·obtain ⟨r0, vs1, rfl, e1⟩ := aH e0
  obtain ⟨r1, vs2, rfl, e2⟩ := aH e1
  obtain ⟨rfl, ee⟩ := bB e2
  exact (a7C S r0 r1 h).symm.trans ee
 refine eZ.cons 1 (fun iF h q e0 => ?_) ?_
 ·obtain ⟨r0, vs1, rfl, e1⟩ := aH e0
  obtain ⟨r1, vs2, rfl, e2⟩ := aH e1
  obtain ⟨r9, vs3, rfl, e3⟩ := aH e2
  obtain ⟨kW, SA, rfl, e4⟩ := bH e3
  obtain ⟨zR, vs5, rfl, e5⟩ := bH e4
  obtain ⟨rfl, ee⟩ := bB e5
  exact (a7B S r0 r1 r9 kW zR h).symm.trans ee
 refine eZ.cons 2 (fun iF h q e0 => ?_) ?_
 ·
  obtain ⟨rfl, ee⟩ := bB e0
  exact (a7A S  h).symm.trans ee
 exact eZ.nil
theorem r97 : ∀ args h v h', F97 args h = some (v, h') → gG (C17) (.call 97 args.toArray h) (.ret v h') := by
 intro args h v h' e
 exact bY (C := C17) (fn := Tryz.f97) (body := B97) (np := 2) (A := A97) (T := T97) (kinds := [Kd.v, Kd.v]) (by kernel_rfl) (by kernel_rfl) (by kernel_rfl) (by kernel_rfl) (dZ eX) (by kernel_rfl) (fun S => t97 S) e
noncomputable def aG8 := kM 97 F97 BR
noncomputable def C18 : cB := cfg aG8
theorem bIE : C18.Ok := eB (C := C17) bID r97
noncomputable def B57 : Code := (Tryz.f57.body).getD .skip
def A57 : aC := (aC.node (some (0, [(0, Kd.v), (1, Kd.i .i64), (2, Kd.v)])) aC.nil (aC.node none (aC.node none aC.nil (aC.node none (aC.node none aC.nil aC.nil) aC.nil)) (aC.node none aC.nil aC.nil)))
noncomputable def aG9 (S : Sg) (r0 : Value) (r1 : Int) (r2 : Value) (h : Hp) : aT :=
 gY r0 fun i0 =>
 dF (nM r1 i0) fun b1 =>
 dI b1
 (some (Value.tuple (List.toArray [(Value.int .i64 (Int.ofNat 0)), (Value.int .i64 (Int.ofNat 3))]), h))
 (aY (dR F97 [r0, r2] h) fun v2 h2 =>
 kZ v2 0 fun v3 =>
 bI .i64 v3 fun i4 =>
 kZ v2 1 fun v5 =>
 bI .i64 v5 fun i6 =>
 some (Value.tuple (List.toArray [(Value.int .i64 i4), (Value.int .i64 i6)]), h2))
noncomputable def T57 (S : Sg) : Sg := eF 0 (uV fun r0 => uI fun r1 => uV fun r2 => uN fun h => aG9 S r0 r1 r2 h) (kU)
noncomputable def F57 (args : List Value) (h : Hp) : aT := bV [Kd.v, Kd.i .i64, Kd.v] args fun al => aP T57 1000000 0 al h
def a7F : Nat := 3 + (17 - 3)
theorem a7G (S : Sg) (r0 : Value) (r1 : Int) (r2 : Value) (h : Hp) : aG9 S r0 r1 r2 h = aG (cO env aG8 (a7F)) (dA env Tryz.f57.results.toList) (collect B57 A57 []) 0 S (AL.v r0 (AL.i r1 (AL.v r2 AL.n))) h := by kernel_rfl
theorem t57 (S : Sg) : eZ (fun l vs h => aG (cO env aG8 a7F) (dA env Tryz.f57.results.toList) (collect B57 A57 []) l S vs h) (T57 S) := by
 unfold T57
 refine eZ.cons 0 (fun iF h q e0 => ?_) ?_
 ·obtain ⟨r0, vs1, rfl, e1⟩ := aH e0
  obtain ⟨r1, vs2, rfl, e2⟩ := bH e1
  obtain ⟨r2, vs3, rfl, e3⟩ := aH e2
  obtain ⟨rfl, ee⟩ := bB e3
  exact (a7G S r0 r1 r2 h).symm.trans ee
 exact eZ.nil
theorem r57 : ∀ args h v h', F57 args h = some (v, h') → gG (C18) (.call 57 args.toArray h) (.ret v h') := by
 intro args h v h' e
 exact bY (C := C18) (fn := Tryz.f57) (body := B57) (np := 3) (A := A57) (T := T57) (kinds := [Kd.v, Kd.i .i64, Kd.v]) (by kernel_rfl) (by kernel_rfl) (by kernel_rfl) (by kernel_rfl) (dZ eX) (by kernel_rfl) (fun S => t57 S) e
noncomputable def aHA := kM 57 F57 aG8
noncomputable def C19 : cB := cfg aHA
theorem bIH : C19.Ok := eB (C := C18) bIE r57
noncomputable def B16 : Code := (Tryz.f16.body).getD .skip
def A16 : aC := (aC.node (some (0, [(0, Kd.v)])) aC.nil (aC.node none (aC.node none aC.nil (aC.node none (aC.node none aC.nil aC.nil) aC.nil)) (aC.node none (aC.node none aC.nil (aC.node none aC.nil (aC.node none (aC.node none aC.nil aC.nil) aC.nil))) (aC.node none (aC.node none aC.nil (aC.node none (aC.node none aC.nil aC.nil) aC.nil)) (aC.node none aC.nil (aC.node none (aC.node none aC.nil (aC.node none (aC.node none aC.nil aC.nil) aC.nil)) (aC.node none aC.nil aC.nil)))))))
noncomputable def aHB (S : Sg) (r0 : Value) (h : Hp) : aT :=
 dP h 25 (Array.toList (Value.cells r0)) fun a0 h0 =>
 aV 0 a0 fun v1 =>
 bC h0 v1 fun v2 =>
 bI .i64 v2 fun i3 =>
 aY (bJ env h0 23 1 (List.toArray [(0, (Value.int .i64 i3))])) fun v4 h4 =>
 aY (dD (F54 [(Value.int .i64 (Int.ofNat 14)), (Value.int .i64 (Int.ofNat 30)), v4] h4) fun v => some (v, h4)) fun v5 h5 =>
 bW v5 fun b6 =>
 dK b6 fun b7 =>
 dI b7
 (some (Value.tuple (List.toArray [(Value.int .i64 (Int.ofNat 1)), (Value.int .i64 (Int.ofNat 0)), (Value.int .i64 (Int.ofNat 7))]), h5))
 (aV 1 a0 fun v8 =>
 bC h5 v8 fun v9 =>
 aY (dR F55 [v9, (Value.int .i64 (Int.ofNat 6)), (Value.func (.func 56) #[] #[])] h5) fun v10 h10 =>
 kZ v10 0 fun v11 =>
 bI .i64 v11 fun i12 =>
 kZ v10 1 fun v13 =>
 bI .i64 v13 fun i14 =>
 dK (tJ i14 (Int.ofNat 0)) fun b15 =>
 dI b15
 (some (Value.tuple (List.toArray [(Value.int .i64 (Int.ofNat 2)), (Value.int .i64 i12), (Value.int .i64 i14)]), h10))
 (aV 2 a0 fun v16 =>
 bC h10 v16 fun v17 =>
 gY v17 fun i18 =>
 dF (tJ i18 (Int.ofNat 0)) fun b19 =>
 dI b19
 (some (Value.tuple (List.toArray [(Value.int .i64 (Int.ofNat 3)), (Value.int .i64 (Int.ofNat 0)), (Value.int .i64 (Int.ofNat 3))]), h10))
 (aV 2 a0 fun v20 =>
 bC h10 v20 fun v21 =>
 aY (dR F57 [v21, (Value.int .i64 (Int.ofNat 6)), (Value.func (.func 58) (List.toArray []) (List.toArray [a0]))] h10) fun v22 h22 =>
 kZ v22 0 fun v23 =>
 bI .i64 v23 fun i24 =>
 kZ v22 1 fun v25 =>
 bI .i64 v25 fun i26 =>
 dK (tJ i26 (Int.ofNat 0)) fun b27 =>
 dI b27
 (some (Value.tuple (List.toArray [(Value.int .i64 (Int.ofNat 3)), (Value.int .i64 i24), (Value.int .i64 i26)]), h22))
 (some (Value.tuple (List.toArray [(Value.int .i64 (Int.ofNat 0)), (Value.int .i64 (Int.ofNat 0)), (Value.int .i64 (Int.ofNat 0))]), h22)))))
noncomputable def T16 (S : Sg) : Sg := eF 0 (uV fun r0 => uN fun h => aHB S r0 h) (kU)
noncomputable def F16 (args : List Value) (h : Hp) : aT := bV [Kd.v] args fun al => aP T16 1000000 0 al h
def a7I : Nat := 1 + (37 - 1)
theorem a7J (S : Sg) (r0 : Value) (h : Hp) : aHB S r0 h = aG (cO env aHA (a7I)) (dA env Tryz.f16.results.toList) (collect B16 A16 []) 0 S (AL.v r0 AL.n) h := by kernel_rfl
theorem t16 (S : Sg) : eZ (fun l vs h => aG (cO env aHA a7I) (dA env Tryz.f16.results.toList) (collect B16 A16 []) l S vs h) (T16 S) := by
 unfold T16
 refine eZ.cons 0 (fun iF h q e0 => ?_) ?_
 ·obtain ⟨r0, vs1, rfl, e1⟩ := aH e0
  obtain ⟨rfl, ee⟩ := bB e1
  exact (a7J S r0 h).symm.trans ee
 exact eZ.nil
theorem r16 : ∀ args h v h', F16 args h = some (v, h') → gG (C19) (.call 16 args.toArray h) (.ret v h') := by
 intro args h v h' e
 exact bY (C := C19) (fn := Tryz.f16) (body := B16) (np := 1) (A := A16) (T := T16) (kinds := [Kd.v]) (by kernel_rfl) (by kernel_rfl) (by kernel_rfl) (by kernel_rfl) (dZ eX) (by kernel_rfl) (fun S => t16 S) e
noncomputable def aHC := kM 16 F16 aHA
noncomputable def C20 : cB := cfg aHC
theorem bIL : C20.Ok := eB (C := C19) bIH r16
noncomputable def B63 : Code := (Tryz.f63.body).getD .skip
def A63 : aC := (aC.node (some (0, [(0, Kd.v)])) aC.nil (aC.node none (aC.node none aC.nil (aC.node none aC.nil (aC.node none (aC.node none aC.nil aC.nil) aC.nil))) (aC.node none aC.nil aC.nil)))
noncomputable def aHD (S : Sg) (r0 : Value) (h : Hp) : aT :=
 dP h 25 (Array.toList (Value.cells r0)) fun a0 h0 =>
 dP h0 88 [(Value.int .i64 (Int.ofNat 0)), (Value.slice none 0 0), (Value.slice none 0 0)] fun a1 h1 =>
 bQ 3 h1 a0 fun v2 =>
 aY (dR F16 [v2] h1) fun v3 h3 =>
 kZ v3 0 fun v4 =>
 bI .i64 v4 fun i5 =>
 kZ v3 1 fun v6 =>
 bI .i64 v6 fun i7 =>
 kZ v3 2 fun v8 =>
 bI .i64 v8 fun i9 =>
 dK (tJ i9 (Int.ofNat 0)) fun b10 =>
 dI b10
 (dD (lN env 88 (List.toArray [])) fun v11 =>
 iY 3 h3 a1 v11 fun h12 =>
 bQ 3 h12 a1 fun v13 => some (Value.tuple (List.toArray [v13, (Value.int .i64 i9)]), h12))
 (bQ 3 h3 a0 fun v14 =>
 dD (lN env 88 (List.toArray [(0, v14)])) fun v15 =>
 iY 3 h3 a1 v15 fun h16 =>
 bQ 3 h16 a1 fun v17 => some (Value.tuple (List.toArray [v17, (Value.int .i64 (Int.ofNat 0))]), h16))
noncomputable def T63 (S : Sg) : Sg := eF 0 (uV fun r0 => uN fun h => aHD S r0 h) (kU)
noncomputable def F63 (args : List Value) (h : Hp) : aT := bV [Kd.v] args fun al => aP T63 1000000 0 al h
def a7L : Nat := 1 + (19 - 1)
theorem a7M (S : Sg) (r0 : Value) (h : Hp) : aHD S r0 h = aG (cO env aHC (a7L)) (dA env Tryz.f63.results.toList) (collect B63 A63 []) 0 S (AL.v r0 AL.n) h := by kernel_rfl
theorem t63 (S : Sg) : eZ (fun l vs h => aG (cO env aHC a7L) (dA env Tryz.f63.results.toList) (collect B63 A63 []) l S vs h) (T63 S) := by
 unfold T63
 refine eZ.cons 0 (fun iF h q e0 => ?_) ?_
 ·obtain ⟨r0, vs1, rfl, e1⟩ := aH e0
  obtain ⟨rfl, ee⟩ := bB e1
  exact (a7M S r0 h).symm.trans ee
 exact eZ.nil
theorem r63 : ∀ args h v h', F63 args h = some (v, h') → gG (C20) (.call 63 args.toArray h) (.ret v h') := by
 intro args h v h' e
 exact bY (C := C20) (fn := Tryz.f63) (body := B63) (np := 1) (A := A63) (T := T63) (kinds := [Kd.v]) (by kernel_rfl) (by kernel_rfl) (by kernel_rfl) (by kernel_rfl) (dZ eX) (by kernel_rfl) (fun S => t63 S) e
noncomputable def aV3 := kM 63 F63 aHC
noncomputable def C21 : cB := cfg aV3
theorem bIO : C21.Ok := eB (C := C20) bIL r63
noncomputable def aZD : Code := (Tryz.f102.body).getD .skip
noncomputable def aZE : G.aC (List KI) := (G.aC.node (some (0, [KI.reg 0 (Kd.i .i64), KI.reg 1 (Kd.v)])) G.aC.nil (G.aC.node none G.aC.nil G.aC.nil))
noncomputable def X8 (h : Hp) (S : Nat → aR → Option Value) (r0 : Int) (r1 : Value) : Option Value :=
 bC h r1 fun v0 =>
 bI .i64 v0 fun i1 =>
 aDX .i64 r0 i1 (OY (lH env .and 3 (Value.int .i64 r0) (Value.int .i64 i1)) (Value.int .i64 r0) (Value.int .i64 i1)) fun i2 =>
 dF (tJ i2 (Int.ofNat 0)) fun b3 =>
 some (Value.bool b3)
noncomputable def aOU (h : Hp) (S : Nat → aR → Option Value) : Nat → aR → Option Value := gM 0 (wI fun r0 => wV fun r1 => wN (X8 h S r0 r1)) (mG)
noncomputable def aOV (args : List Value) (h : Hp) : Option Value := plainO (fG [Kd.i .i64, Kd.v] args fun al => G.aP (aOU h) 1000000 0 al)
def aV4 : Nat := 2 + (8 - 2)
theorem aZF (h : Hp) (S : Nat → aR → Option Value) (r0 : Int) (r1 : Value) : X8 h S r0 r1 = G.aG cK aZ gJ (gQ env pf9 aV4 h) (gW env Tryz.f102.results.toList) (G.collect aZD aZE []) 0 S (aR.i r0 (aR.v r1 aR.n)) := by kernel_rfl
theorem t102 (h : Hp) (S : Nat → aR → Option Value) : dY (fun l al => G.aG cK aZ gJ (gQ env pf9 aV4 h) (gW env Tryz.f102.results.toList) (G.collect aZD aZE []) l S al) (aOU h S) := by
 unfold aOU
 refine dY.cons 0 (fun iF q e0 => ?_) ?_
 ·obtain ⟨r0, vs1, rfl, e1⟩ := bZ e0
  obtain ⟨r1, vs2, rfl, e2⟩ := dX e1
  obtain ⟨rfl, ee⟩ := dG e2
  exact (aZF h S r0 r1).symm.trans ee
 exact dY.nil
theorem a7N : dS Tryz.prog 102 aOV := eD (C := C0) ok0 (pf := pf9) aVY (fn := Tryz.f102) (body := aZD) (kinds := [Kd.i .i64, Kd.v]) (A := aZE) (T := aOU) (by kernel_rfl) (by kernel_rfl) (by kernel_rfl) (by kernel_rfl) (fun h S => t102 h S)
noncomputable def a7O : PF := M5 102 aOV pf9
theorem aZG : gF Tryz.prog a7O := jX a7N aVY
noncomputable def zI := pI 102 aOV aV3
noncomputable def C22 : cB := cfg zI
theorem bIP : C22.Ok := gZ (C := C21) bIO a7N
noncomputable def aOW : Code := (Tryz.f144.body).getD .skip
def aOX : aC := (aC.node (some (0, [(0, Kd.v), (1, Kd.v)])) aC.nil (aC.node none (aC.node none aC.nil (aC.node none (aC.node (some (1, [(0, Kd.v), (1, Kd.v), (7, Kd.i .i64), (8, Kd.i .i64)])) (aC.node none aC.nil (aC.node none (aC.node none aC.nil aC.nil) (aC.node none (aC.node none (aC.node none aC.nil (aC.node none aC.nil (aC.node none (aC.node none aC.nil aC.nil) aC.nil))) aC.nil) aC.nil))) aC.nil) aC.nil)) (aC.node (some (2, [])) aC.nil aC.nil)))
noncomputable def aOY (S : Sg) (h : Hp) : aT :=
 some ((Value.int .i64 (Int.negSucc 0)), h)
noncomputable def vQ (S : Sg) (r0 : Value) (r1 : Value) (r7 : Int) (r8 : Int) (h : Hp) : aT :=
 dF (nM r8 r7) fun b0 =>
 dI b0
 (jF 1 r0 r8 fun v1 =>
 bC h v1 fun v2 =>
 bI .i64 v2 fun i3 =>
 aY (oO zI r1 [(Value.int .i64 i3)] h) fun v4 h4 =>
 bW v4 fun b5 =>
 dI b5
 (some ((Value.int .i64 r8), h4))
 (wrap64 (Int.add r8 (Int.ofNat 1)) fun i6 =>
 S 1 (AL.v r0 (AL.v r1 (AL.i r7 (AL.i i6 AL.n)))) h4))
 (S 2 AL.n h)
noncomputable def J9 (S : Sg) (r0 : Value) (r1 : Value) (h : Hp) : aT :=
 gY r0 fun i0 =>
 S 1 (AL.v r0 (AL.v r1 (AL.i i0 (AL.i (Int.ofNat 0) AL.n)))) h
noncomputable def M6 (S : Sg) : Sg := eF 0 (uV fun r0 => uV fun r1 => uN fun h => J9 S r0 r1 h) (eF 1 (uV fun r0 => uV fun r1 => uI fun r7 => uI fun r8 => uN fun h => vQ S r0 r1 r7 r8 h) (eF 2 (uN fun h => aOY S  h) (kU)))
noncomputable def aOZ (args : List Value) (h : Hp) : aT := bV [Kd.v, Kd.v] args fun al => aP M6 1000000 0 al h
def aHE : Nat := 2 + (19 - 2)
theorem aZH (S : Sg) (h : Hp) : aOY S  h = aG (cO env zI (aHE)) (dA env Tryz.f144.results.toList) (collect aOW aOX []) 2 S AL.n h := by kernel_rfl
theorem aZI (S : Sg) (r0 : Value) (r1 : Value) (r7 : Int) (r8 : Int) (h : Hp) : vQ S r0 r1 r7 r8 h = aG (cO env zI (aHE)) (dA env Tryz.f144.results.toList) (collect aOW aOX []) 1 S (AL.v r0 (AL.v r1 (AL.i r7 (AL.i r8 AL.n)))) h := by kernel_rfl
theorem aZJ (S : Sg) (r0 : Value) (r1 : Value) (h : Hp) : J9 S r0 r1 h = aG (cO env zI (aHE)) (dA env Tryz.f144.results.toList) (collect aOW aOX []) 0 S (AL.v r0 (AL.v r1 AL.n)) h := by kernel_rfl
theorem t144 (S : Sg) : eZ (fun l vs h => aG (cO env zI aHE) (dA env Tryz.f144.results.toList) (collect aOW aOX []) l S vs h) (M6 S) := by
 unfold M6
 refine eZ.cons 0 (fun iF h q e0 => ?_) ?_
 ·obtain ⟨r0, vs1, rfl, e1⟩ := aH e0
  obtain ⟨r1, vs2, rfl, e2⟩ := aH e1
  obtain ⟨rfl, ee⟩ := bB e2
  exact (aZJ S r0 r1 h).symm.trans ee
 refine eZ.cons 1 (fun iF h q e0 => ?_) ?_
 ·obtain ⟨r0, vs1, rfl, e1⟩ := aH e0
  obtain ⟨r1, vs2, rfl, e2⟩ := aH e1
  obtain ⟨r7, vs3, rfl, e3⟩ := bH e2
  obtain ⟨r8, SA, rfl, e4⟩ := bH e3
  obtain ⟨rfl, ee⟩ := bB e4
  exact (aZI S r0 r1 r7 r8 h).symm.trans ee
 refine eZ.cons 2 (fun iF h q e0 => ?_) ?_
 ·
  obtain ⟨rfl, ee⟩ := bB e0
  exact (aZH S  h).symm.trans ee
 exact eZ.nil
theorem bIQ : ∀ args h v h', aOZ args h = some (v, h') → gG (C22) (.call 144 args.toArray h) (.ret v h') := by
 intro args h v h' e
 exact bY (C := C22) (fn := Tryz.f144) (body := aOW) (np := 2) (A := aOX) (T := M6) (kinds := [Kd.v, Kd.v]) (by kernel_rfl) (by kernel_rfl) (by kernel_rfl) (by kernel_rfl) (dZ eX) (by kernel_rfl) (fun S => t144 S) e
noncomputable def aHF := kM 144 aOZ zI
noncomputable def C23 : cB := cfg aHF
theorem bIR : C23.Ok := eB (C := C22) bIP bIQ
noncomputable def aZK : Code := (Tryz.f101.body).getD .skip
def aZL : aC := (aC.node (some (0, [(0, Kd.v), (1, Kd.v)])) aC.nil (aC.node none aC.nil aC.nil))
noncomputable def KA (S : Sg) (r0 : Value) (r1 : Value) (h : Hp) : aT :=
 aY (dR aOZ [r0, r1] h) fun v0 h0 =>
 bI .i64 v0 fun i1 =>
 dK (nM i1 (Int.ofNat 0)) fun b2 =>
 some ((Value.bool b2), h0)
noncomputable def aKW (S : Sg) : Sg := eF 0 (uV fun r0 => uV fun r1 => uN fun h => KA S r0 r1 h) (kU)
noncomputable def aKX (args : List Value) (h : Hp) : aT := bV [Kd.v, Kd.v] args fun al => aP aKW 1000000 0 al h
def aV5 : Nat := 2 + (9 - 2)
theorem aZM (S : Sg) (r0 : Value) (r1 : Value) (h : Hp) : KA S r0 r1 h = aG (cO env aHF (aV5)) (dA env Tryz.f101.results.toList) (collect aZK aZL []) 0 S (AL.v r0 (AL.v r1 AL.n)) h := by kernel_rfl
theorem t101 (S : Sg) : eZ (fun l vs h => aG (cO env aHF aV5) (dA env Tryz.f101.results.toList) (collect aZK aZL []) l S vs h) (aKW S) := by
 unfold aKW
 refine eZ.cons 0 (fun iF h q e0 => ?_) ?_
 ·obtain ⟨r0, vs1, rfl, e1⟩ := aH e0
  obtain ⟨r1, vs2, rfl, e2⟩ := aH e1
  obtain ⟨rfl, ee⟩ := bB e2
  exact (aZM S r0 r1 h).symm.trans ee
 exact eZ.nil
theorem bIS : ∀ args h v h', aKX args h = some (v, h') → gG (C23) (.call 101 args.toArray h) (.ret v h') := by
 intro args h v h' e
 exact bY (C := C23) (fn := Tryz.f101) (body := aZK) (np := 2) (A := aZL) (T := aKW) (kinds := [Kd.v, Kd.v]) (by kernel_rfl) (by kernel_rfl) (by kernel_rfl) (by kernel_rfl) (dZ eX) (by kernel_rfl) (fun S => t101 S) e
noncomputable def aHG := kM 101 aKX aHF
noncomputable def C24 : cB := cfg aHG
theorem bIT : C24.Ok := eB (C := C23) bIR bIS
noncomputable def B65 : Code := (Tryz.f65.body).getD .skip
def A65 : aC := (aC.node (some (0, [(0, Kd.v), (1, Kd.i .i64)])) aC.nil (aC.node none aC.nil aC.nil))
noncomputable def aHH (S : Sg) (r0 : Value) (r1 : Int) (h : Hp) : aT :=
 dP h 88 (Array.toList (Value.cells r0)) fun a0 h0 =>
 dP h0 3 [(Value.int .i64 r1)] fun a1 h1 =>
 aV 0 a0 fun v2 =>
 aV 2 v2 fun v3 =>
 bC h1 v3 fun v4 =>
 aY (dR aKX [v4, (Value.func (.func 102) (List.toArray []) (List.toArray [a1]))] h1) fun v5 h5 =>
 bW v5 fun b6 =>
 dK b6 fun b7 =>
 some ((Value.bool b7), h5)
noncomputable def T65 (S : Sg) : Sg := eF 0 (uV fun r0 => uI fun r1 => uN fun h => aHH S r0 r1 h) (kU)
noncomputable def F65 (args : List Value) (h : Hp) : aT := bV [Kd.v, Kd.i .i64] args fun al => aP T65 1000000 0 al h
def a7Q : Nat := 2 + (11 - 2)
theorem a7R (S : Sg) (r0 : Value) (r1 : Int) (h : Hp) : aHH S r0 r1 h = aG (cO env aHG (a7Q)) (dA env Tryz.f65.results.toList) (collect B65 A65 []) 0 S (AL.v r0 (AL.i r1 AL.n)) h := by kernel_rfl
theorem t65 (S : Sg) : eZ (fun l vs h => aG (cO env aHG a7Q) (dA env Tryz.f65.results.toList) (collect B65 A65 []) l S vs h) (T65 S) := by
 unfold T65
 refine eZ.cons 0 (fun iF h q e0 => ?_) ?_
 ·obtain ⟨r0, vs1, rfl, e1⟩ := aH e0
  obtain ⟨r1, vs2, rfl, e2⟩ := bH e1
  obtain ⟨rfl, ee⟩ := bB e2
  exact (a7R S r0 r1 h).symm.trans ee
 exact eZ.nil
theorem r65 : ∀ args h v h', F65 args h = some (v, h') → gG (C24) (.call 65 args.toArray h) (.ret v h') := by
 intro args h v h' e
 exact bY (C := C24) (fn := Tryz.f65) (body := B65) (np := 2) (A := A65) (T := T65) (kinds := [Kd.v, Kd.i .i64]) (by kernel_rfl) (by kernel_rfl) (by kernel_rfl) (by kernel_rfl) (dZ eX) (by kernel_rfl) (fun S => t65 S) e
noncomputable def aHI := kM 65 F65 aHG
noncomputable def C25 : cB := cfg aHI
theorem bIW : C25.Ok := eB (C := C24) bIT r65
noncomputable def B18 : Code := (Tryz.f18.body).getD .skip
def A18 : aC := (aC.node (some (0, [(0, Kd.v), (1, Kd.i .i64)])) aC.nil (aC.node none aC.nil (aC.node none (aC.node none aC.nil (aC.node none (aC.node none aC.nil aC.nil) aC.nil)) (aC.node none (aC.node none aC.nil (aC.node none (aC.node none aC.nil aC.nil) aC.nil)) (aC.node none aC.nil aC.nil)))))
noncomputable def aHJ (S : Sg) (r0 : Value) (r1 : Int) (h : Hp) : aT :=
 dP h 25 (Array.toList (Value.cells r0)) fun a0 h0 =>
 bQ 3 h0 a0 fun v1 =>
 aY (dR F63 [v1] h0) fun v2 h2 =>
 kZ v2 0 fun v3 =>
 kZ v2 1 fun v4 =>
 bI .i64 v4 fun i5 =>
 dP h2 88 [(Value.int .i64 (Int.ofNat 0)), (Value.slice none 0 0), (Value.slice none 0 0)] fun a6 h6 =>
 iY 3 h6 a6 v3 fun h7 =>
 dK (tJ i5 (Int.ofNat 0)) fun b8 =>
 dI b8
 (some (Value.tuple (List.toArray [(Value.bool false), (Value.int .i64 i5)]), h7))
 (aV 0 a6 fun v9 =>
 aV 1 v9 fun v10 =>
 bC h7 v10 fun v11 =>
 gY v11 fun i12 =>
 nN .i64 (RQ (lH env .shl 3 (Value.int .i64 (Int.ofNat 1)) (Value.int .i64 i12)) (Value.int .i64 (Int.ofNat 1)) (Value.int .i64 i12)) fun i13 =>
 aY (bJ env h7 23 1 (List.toArray [(0, (Value.int .i64 r1))])) fun v14 h14 =>
 aY (dD (F64 [(Value.int .i64 i13), v14] h14) fun v => some (v, h14)) fun v15 SB =>
 bW v15 fun b16 =>
 dK b16 fun b17 =>
 dI b17
 (some (Value.tuple (List.toArray [(Value.bool false), (Value.int .i64 (Int.ofNat 4))]), SB))
 (bQ 3 SB a6 fun v18 =>
 aY (dR F65 [v18, (Value.int .i64 r1)] SB) fun v19 h19 =>
 bW v19 fun b20 =>
 some (Value.tuple (List.toArray [(Value.bool b20), (Value.int .i64 (Int.ofNat 0))]), h19)))
noncomputable def T18 (S : Sg) : Sg := eF 0 (uV fun r0 => uI fun r1 => uN fun h => aHJ S r0 r1 h) (kU)
noncomputable def F18 (args : List Value) (h : Hp) : aT := bV [Kd.v, Kd.i .i64] args fun al => aP T18 1000000 0 al h
def a7U : Nat := 2 + (28 - 2)
theorem a7V (S : Sg) (r0 : Value) (r1 : Int) (h : Hp) : aHJ S r0 r1 h = aG (cO env aHI (a7U)) (dA env Tryz.f18.results.toList) (collect B18 A18 []) 0 S (AL.v r0 (AL.i r1 AL.n)) h := by kernel_rfl
theorem t18 (S : Sg) : eZ (fun l vs h => aG (cO env aHI a7U) (dA env Tryz.f18.results.toList) (collect B18 A18 []) l S vs h) (T18 S) := by
 unfold T18
 refine eZ.cons 0 (fun iF h q e0 => ?_) ?_
 ·obtain ⟨r0, vs1, rfl, e1⟩ := aH e0
  obtain ⟨r1, vs2, rfl, e2⟩ := bH e1
  obtain ⟨rfl, ee⟩ := bB e2
  exact (a7V S r0 r1 h).symm.trans ee
 exact eZ.nil
theorem r18 : ∀ args h v h', F18 args h = some (v, h') → gG (C25) (.call 18 args.toArray h) (.ret v h') := by
 intro args h v h' e
 exact bY (C := C25) (fn := Tryz.f18) (body := B18) (np := 2) (A := A18) (T := T18) (kinds := [Kd.v, Kd.i .i64]) (by kernel_rfl) (by kernel_rfl) (by kernel_rfl) (by kernel_rfl) (dZ eX) (by kernel_rfl) (fun S => t18 S) e
noncomputable def aO0 := kM 18 F18 aHI
noncomputable def C26 : cB := cfg aO0
theorem a7W : C26.Ok := eB (C := C25) bIW r18
noncomputable abbrev a7X := aO0
theorem okE : (cfg a7X).Ok := a7W
end Go.Proofs.YtgjdokjoejhepaaGreatDoor.K
