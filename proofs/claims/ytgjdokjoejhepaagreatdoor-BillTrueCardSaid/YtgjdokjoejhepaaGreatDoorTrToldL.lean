/- Functions told for the laws. -/
import Derived.Test.YtgjdokjoejhepaaGreatDoorTrAwake
import Derived.Test.YtgjdokjoejhepaaGreatDoorTrEngD
open Go Go.bP Go.bP.Y
set_option maxRecDepth 100000
set_option linter.unusedVariables false
namespace Go.Proofs.YtgjdokjoejhepaaGreatDoor.K.L
noncomputable def aO1 : List Value → Hp → Option Value := N9 (.bool true)
theorem a7Y : dS Tryz.prog 22 aO1 := aZN
noncomputable def aO2 : PF := M5 22 aO1 a7O
theorem aO3 : gF Tryz.prog aO2 := jX a7Y aZG
noncomputable def aV6 := pI 22 aO1 aO0
noncomputable def C27 : cB := cfg aV6
theorem bIZ : C27.Ok := gZ (C := C26) a7W a7Y
noncomputable def B60 : Code := (Tryz.f60.body).getD .skip
noncomputable def A60 : G.aC (List KI) := (G.aC.node (some (0, [KI.reg 0 (Kd.i .i64), KI.reg 1 (Kd.i .i64), KI.reg 2 (Kd.i .i64)])) G.aC.nil (G.aC.node none G.aC.nil G.aC.nil))
noncomputable def aHK (h : Hp) (S : Nat → aR → Option Value) (r0 : Int) (r1 : Int) (r2 : Int) : Option Value :=
 dK (nM r0 r1) fun b0 =>
 dI b0
 (dK (nM r2 r0) fun b1 =>
 some (Value.bool b1))
 (some (Value.bool false))
noncomputable def T60 (h : Hp) (S : Nat → aR → Option Value) : Nat → aR → Option Value := gM 0 (wI fun r0 => wI fun r1 => wI fun r2 => wN (aHK h S r0 r1 r2)) (mG)
noncomputable def F60 (args : List Value) (h : Hp) : Option Value := plainO (fG [Kd.i .i64, Kd.i .i64, Kd.i .i64] args fun al => G.aP (T60 h) 1000000 0 al)
def a8A : Nat := 3 + (15 - 3)
theorem a8B (h : Hp) (S : Nat → aR → Option Value) (r0 : Int) (r1 : Int) (r2 : Int) : aHK h S r0 r1 r2 = G.aG cK aZ gJ (gQ env aO2 a8A h) (gW env Tryz.f60.results.toList) (G.collect B60 A60 []) 0 S (aR.i r0 (aR.i r1 (aR.i r2 aR.n))) := by kernel_rfl
theorem t60 (h : Hp) (S : Nat → aR → Option Value) : dY (fun l al => G.aG cK aZ gJ (gQ env aO2 a8A h) (gW env Tryz.f60.results.toList) (G.collect B60 A60 []) l S al) (T60 h S) := by
 unfold T60
 refine dY.cons 0 (fun iF q e0 => ?_) ?_
 ·obtain ⟨r0, vs1, rfl, e1⟩ := bZ e0
  obtain ⟨r1, vs2, rfl, e2⟩ := bZ e1
  obtain ⟨r2, vs3, rfl, e3⟩ := bZ e2
  obtain ⟨rfl, ee⟩ := dG e3
  exact (a8B h S r0 r1 r2).symm.trans ee
 exact dY.nil
theorem r60 : dS Tryz.prog 60 F60 := eD (C := C0) ok0 (pf := aO2) aO3 (fn := Tryz.f60) (body := B60) (kinds := [Kd.i .i64, Kd.i .i64, Kd.i .i64]) (A := A60) (T := T60) (by kernel_rfl) (by kernel_rfl) (by kernel_rfl) (by kernel_rfl) (fun h S => t60 h S)
noncomputable def aO4 : PF := M5 60 F60 aO2
theorem aO5 : gF Tryz.prog aO4 := jX r60 aO3
noncomputable def aV7 := pI 60 F60 aV6
noncomputable def C28 : cB := cfg aV7
theorem bI2 : C28.Ok := gZ (C := C27) bIZ r60
noncomputable def aZO : Code := (Tryz.f100.body).getD .skip
noncomputable def aZP : G.aC (List KI) := (G.aC.node (some (0, [KI.reg 0 (Kd.i .i64), KI.reg 1 (Kd.i .i64), KI.reg 2 (Kd.i .i64)])) G.aC.nil (G.aC.node none G.aC.nil G.aC.nil))
noncomputable def X9 (h : Hp) (S : Nat → aR → Option Value) (r0 : Int) (r1 : Int) (r2 : Int) : Option Value :=
 dK (nM r0 r1) fun b0 =>
 dI b0
 (dK (nM r2 r0) fun b1 =>
 some (Value.bool b1))
 (some (Value.bool false))
noncomputable def aO6 (h : Hp) (S : Nat → aR → Option Value) : Nat → aR → Option Value := gM 0 (wI fun r0 => wI fun r1 => wI fun r2 => wN (X9 h S r0 r1 r2)) (mG)
noncomputable def aKY (args : List Value) (h : Hp) : Option Value := plainO (fG [Kd.i .i64, Kd.i .i64, Kd.i .i64] args fun al => G.aP (aO6 h) 1000000 0 al)
def aV8 : Nat := 3 + (15 - 3)
theorem aZQ (h : Hp) (S : Nat → aR → Option Value) (r0 : Int) (r1 : Int) (r2 : Int) : X9 h S r0 r1 r2 = G.aG cK aZ gJ (gQ env aO4 aV8 h) (gW env Tryz.f100.results.toList) (G.collect aZO aZP []) 0 S (aR.i r0 (aR.i r1 (aR.i r2 aR.n))) := by kernel_rfl
theorem t100 (h : Hp) (S : Nat → aR → Option Value) : dY (fun l al => G.aG cK aZ gJ (gQ env aO4 aV8 h) (gW env Tryz.f100.results.toList) (G.collect aZO aZP []) l S al) (aO6 h S) := by
 unfold aO6
 refine dY.cons 0 (fun iF q e0 => ?_) ?_
 ·obtain ⟨r0, vs1, rfl, e1⟩ := bZ e0
  obtain ⟨r1, vs2, rfl, e2⟩ := bZ e1
  obtain ⟨r2, vs3, rfl, e3⟩ := bZ e2
  obtain ⟨rfl, ee⟩ := dG e3
  exact (aZQ h S r0 r1 r2).symm.trans ee
 exact dY.nil
theorem a8C : dS Tryz.prog 100 aKY := eD (C := C0) ok0 (pf := aO4) aO5 (fn := Tryz.f100) (body := aZO) (kinds := [Kd.i .i64, Kd.i .i64, Kd.i .i64]) (A := aZP) (T := aO6) (by kernel_rfl) (by kernel_rfl) (by kernel_rfl) (by kernel_rfl) (fun h S => t100 h S)
noncomputable def YA : PF := M5 100 aKY aO4
theorem aO7 : gF Tryz.prog YA := jX a8C aO5
noncomputable def aV9 := pI 100 aKY aV7
noncomputable def C29 : cB := cfg aV9
theorem bI3 : C29.Ok := gZ (C := C28) bI2 a8C
noncomputable def B62 : Code := (Tryz.f62.body).getD .skip
noncomputable def A62 : G.aC (List KI) := (G.aC.node (some (0, [KI.reg 0 (Kd.v)])) G.aC.nil (G.aC.node none (G.aC.node none G.aC.nil (G.aC.node none (G.aC.node none G.aC.nil G.aC.nil) G.aC.nil)) (G.aC.node none (G.aC.node none G.aC.nil (G.aC.node none (G.aC.node (some (1, [KI.reg 0 (Kd.v), KI.reg 3 (Kd.i .i64)])) (G.aC.node none (G.aC.node none G.aC.nil (G.aC.node none G.aC.nil G.aC.nil)) (G.aC.node none (G.aC.node none (G.aC.node none G.aC.nil (G.aC.node none G.aC.nil (G.aC.node (some (2, [KI.reg 0 (Kd.v), KI.reg 3 (Kd.i .i64), KI.reg 4 (Kd.b), KI.reg 5 (Kd.b)])) G.aC.nil (G.aC.node none (G.aC.node none G.aC.nil G.aC.nil) G.aC.nil)))) G.aC.nil) (G.aC.node (some (3, [KI.reg 0 (Kd.v), KI.reg 3 (Kd.i .i64)])) G.aC.nil G.aC.nil))) G.aC.nil) G.aC.nil)) (G.aC.node (some (4, [])) G.aC.nil G.aC.nil))))
noncomputable def aWA (h : Hp) (S : Nat → aR → Option Value) : Option Value :=
 some (Value.bool true)
noncomputable def aHL (h : Hp) (S : Nat → aR → Option Value) (r0 : Value) (r3 : Int) : Option Value :=
 wrap64 (Int.add r3 (Int.ofNat 1)) fun i0 =>
 S 1 (aR.v r0 (aR.i i0 aR.n))
noncomputable def aBK (h : Hp) (S : Nat → aR → Option Value) (r0 : Value) (r3 : Int) (r4 : Bool) (r5 : Bool) : Option Value :=
 dK r4 fun b0 =>
 dI b0
 (dF (tJ r3 (Int.ofNat 0)) fun b1 =>
 dI b1
 (some (Value.bool false))
 (dK r5 fun b2 =>
 dI b2
 (some (Value.bool false))
 (S 3 (aR.v r0 (aR.i r3 aR.n)))))
 (S 3 (aR.v r0 (aR.i r3 aR.n)))
noncomputable def U3 (h : Hp) (S : Nat → aR → Option Value) (r0 : Value) (r3 : Int) : Option Value :=
 LH r0 fun i0 =>
 dF (nM r3 i0) fun b1 =>
 dI b1
 (dD (mX env 9 r0 (Value.int .i64 r3)) fun v2 =>
 bI .u8 v2 fun i3 =>
 wrap64 i3 fun i4 =>
 dD (aKY [(Value.int .i64 i4), (Value.int .i64 (Int.ofNat 97)), (Value.int .i64 (Int.ofNat 122))] h) fun v5 =>
 bW v5 fun b6 =>
 dD (mX env 9 r0 (Value.int .i64 r3)) fun v7 =>
 bI .u8 v7 fun i8 =>
 wrap64 i8 fun i9 =>
 dD (aKY [(Value.int .i64 i9), (Value.int .i64 (Int.ofNat 48)), (Value.int .i64 (Int.ofNat 57))] h) fun v10 =>
 bW v10 fun b11 =>
 dI b11
 (S 2 (aR.v r0 (aR.i r3 (aR.b b6 (aR.b true aR.n)))))
 (dD (mX env 9 r0 (Value.int .i64 r3)) fun v12 =>
 bI .u8 v12 fun i13 =>
 dF (tJ i13 (Int.ofNat 46)) fun b14 =>
 S 2 (aR.v r0 (aR.i r3 (aR.b b6 (aR.b b14 aR.n))))))
 (S 4 aR.n)
noncomputable def aHM (h : Hp) (S : Nat → aR → Option Value) (r0 : Value) : Option Value :=
 LH r0 fun i0 =>
 dF (tJ i0 (Int.ofNat 0)) fun b1 =>
 dI b1
 (some (Value.bool false))
 (LH r0 fun i2 =>
 dF (nM (Int.ofNat 16) i2) fun b3 =>
 dI b3
 (some (Value.bool false))
 (S 1 (aR.v r0 (aR.i (Int.ofNat 0) aR.n))))
noncomputable def Y9 (h : Hp) (S : Nat → aR → Option Value) : Nat → aR → Option Value := gM 0 (wV fun r0 => wN (aHM h S r0)) (gM 1 (wV fun r0 => wI fun r3 => wN (U3 h S r0 r3)) (gM 2 (wV fun r0 => wI fun r3 => wB fun r4 => wB fun r5 => wN (aBK h S r0 r3 r4 r5)) (gM 3 (wV fun r0 => wI fun r3 => wN (aHL h S r0 r3)) (gM 4 (wN (aWA h S)) (mG)))))
noncomputable def F62 (args : List Value) (h : Hp) : Option Value := plainO (fG [Kd.v] args fun al => G.aP (Y9 h) 1000000 0 al)
def aKZ : Nat := 1 + (46 - 1)
theorem a8D (h : Hp) (S : Nat → aR → Option Value) : aWA h S = G.aG cK aZ gJ (gQ env YA aKZ h) (gW env Tryz.f62.results.toList) (G.collect B62 A62 []) 4 S aR.n := by kernel_rfl
theorem a8E (h : Hp) (S : Nat → aR → Option Value) (r0 : Value) (r3 : Int) : aHL h S r0 r3 = G.aG cK aZ gJ (gQ env YA aKZ h) (gW env Tryz.f62.results.toList) (G.collect B62 A62 []) 3 S (aR.v r0 (aR.i r3 aR.n)) := by kernel_rfl
theorem a8F (h : Hp) (S : Nat → aR → Option Value) (r0 : Value) (r3 : Int) (r4 : Bool) (r5 : Bool) : aBK h S r0 r3 r4 r5 = G.aG cK aZ gJ (gQ env YA aKZ h) (gW env Tryz.f62.results.toList) (G.collect B62 A62 []) 2 S (aR.v r0 (aR.i r3 (aR.b r4 (aR.b r5 aR.n)))) := by kernel_rfl
theorem a8G (h : Hp) (S : Nat → aR → Option Value) (r0 : Value) (r3 : Int) : U3 h S r0 r3 = G.aG cK aZ gJ (gQ env YA aKZ h) (gW env Tryz.f62.results.toList) (G.collect B62 A62 []) 1 S (aR.v r0 (aR.i r3 aR.n)) := by kernel_rfl
theorem a8H (h : Hp) (S : Nat → aR → Option Value) (r0 : Value) : aHM h S r0 = G.aG cK aZ gJ (gQ env YA aKZ h) (gW env Tryz.f62.results.toList) (G.collect B62 A62 []) 0 S (aR.v r0 aR.n) := by kernel_rfl
theorem t62 (h : Hp) (S : Nat → aR → Option Value) : dY (fun l al => G.aG cK aZ gJ (gQ env YA aKZ h) (gW env Tryz.f62.results.toList) (G.collect B62 A62 []) l S al) (Y9 h S) := by
 unfold Y9
 refine dY.cons 0 (fun iF q e0 => ?_) ?_
 ·obtain ⟨r0, vs1, rfl, e1⟩ := dX e0
  obtain ⟨rfl, ee⟩ := dG e1
  exact (a8H h S r0).symm.trans ee
 refine dY.cons 1 (fun iF q e0 => ?_) ?_
 ·obtain ⟨r0, vs1, rfl, e1⟩ := dX e0
  obtain ⟨r3, vs2, rfl, e2⟩ := bZ e1
  obtain ⟨rfl, ee⟩ := dG e2
  exact (a8G h S r0 r3).symm.trans ee
 refine dY.cons 2 (fun iF q e0 => ?_) ?_
 ·obtain ⟨r0, vs1, rfl, e1⟩ := dX e0
  obtain ⟨r3, vs2, rfl, e2⟩ := bZ e1
  obtain ⟨r4, vs3, rfl, e3⟩ := aGK e2
  obtain ⟨r5, SA, rfl, e4⟩ := aGK e3
  obtain ⟨rfl, ee⟩ := dG e4
  exact (a8F h S r0 r3 r4 r5).symm.trans ee
 refine dY.cons 3 (fun iF q e0 => ?_) ?_
 ·obtain ⟨r0, vs1, rfl, e1⟩ := dX e0
  obtain ⟨r3, vs2, rfl, e2⟩ := bZ e1
  obtain ⟨rfl, ee⟩ := dG e2
  exact (a8E h S r0 r3).symm.trans ee
 refine dY.cons 4 (fun iF q e0 => ?_) ?_
 ·
  obtain ⟨rfl, ee⟩ := dG e0
  exact (a8D h S).symm.trans ee
 exact dY.nil
theorem r62 : dS Tryz.prog 62 F62 := eD (C := C0) ok0 (pf := YA) aO7 (fn := Tryz.f62) (body := B62) (kinds := [Kd.v]) (A := A62) (T := Y9) (by kernel_rfl) (by kernel_rfl) (by kernel_rfl) (by kernel_rfl) (fun h S => t62 h S)
noncomputable def aEY : PF := M5 62 F62 YA
theorem aO8 : gF Tryz.prog aEY := jX r62 aO7
noncomputable def aWB := pI 62 F62 aV9
noncomputable def C30 : cB := cfg aWB
theorem bI4 : C30.Ok := gZ (C := C29) bI3 r62
noncomputable def B99 : Code := (Tryz.f99.body).getD .skip
noncomputable def A99 : G.aC (List KI) := (G.aC.node (some (0, [KI.reg 0 (Kd.v), KI.reg 1 (Kd.v)])) G.aC.nil (G.aC.node none (G.aC.node none G.aC.nil (G.aC.node none (G.aC.node (some (1, [KI.reg 0 (Kd.v), KI.reg 1 (Kd.v), KI.reg 5 (Kd.i .i64)])) (G.aC.node none (G.aC.node none G.aC.nil (G.aC.node none G.aC.nil G.aC.nil)) (G.aC.node none (G.aC.node none (G.aC.node none G.aC.nil (G.aC.node none (G.aC.node none G.aC.nil G.aC.nil) G.aC.nil)) G.aC.nil) G.aC.nil)) G.aC.nil) G.aC.nil)) (G.aC.node (some (2, [])) G.aC.nil G.aC.nil)))
noncomputable def aWC (h : Hp) (S : Nat → aR → Option Value) : Option Value :=
 some (Value.int .i64 (Int.negSucc 0))
noncomputable def U4 (h : Hp) (S : Nat → aR → Option Value) (r0 : Value) (r1 : Value) (r5 : Int) : Option Value :=
 gY r0 fun i0 =>
 dF (nM r5 i0) fun b1 =>
 dI b1
 (jF 1 r0 r5 fun v2 =>
 bC h v2 fun v3 =>
 dD (nG env .eql 9 (Operand.tmp 15) (Operand.tmp 16) v3 r1) fun v4 =>
 bW v4 fun b5 =>
 dI b5
 (some (Value.int .i64 r5))
 (wrap64 (Int.add r5 (Int.ofNat 1)) fun i6 =>
 S 1 (aR.v r0 (aR.v r1 (aR.i i6 aR.n)))))
 (S 2 aR.n)
noncomputable def aHN (h : Hp) (S : Nat → aR → Option Value) (r0 : Value) (r1 : Value) : Option Value :=
 S 1 (aR.v r0 (aR.v r1 (aR.i (Int.ofNat 0) aR.n)))
noncomputable def T99 (h : Hp) (S : Nat → aR → Option Value) : Nat → aR → Option Value := gM 0 (wV fun r0 => wV fun r1 => wN (aHN h S r0 r1)) (gM 1 (wV fun r0 => wV fun r1 => wI fun r5 => wN (U4 h S r0 r1 r5)) (gM 2 (wN (aWC h S)) (mG)))
noncomputable def F99 (args : List Value) (h : Hp) : Option Value := plainO (fG [Kd.v, Kd.v] args fun al => G.aP (T99 h) 1000000 0 al)
def aS7 : Nat := 2 + (19 - 2)
theorem a8L (h : Hp) (S : Nat → aR → Option Value) : aWC h S = G.aG cK aZ gJ (gQ env aEY aS7 h) (gW env Tryz.f99.results.toList) (G.collect B99 A99 []) 2 S aR.n := by kernel_rfl
theorem a8M (h : Hp) (S : Nat → aR → Option Value) (r0 : Value) (r1 : Value) (r5 : Int) : U4 h S r0 r1 r5 = G.aG cK aZ gJ (gQ env aEY aS7 h) (gW env Tryz.f99.results.toList) (G.collect B99 A99 []) 1 S (aR.v r0 (aR.v r1 (aR.i r5 aR.n))) := by kernel_rfl
theorem a8N (h : Hp) (S : Nat → aR → Option Value) (r0 : Value) (r1 : Value) : aHN h S r0 r1 = G.aG cK aZ gJ (gQ env aEY aS7 h) (gW env Tryz.f99.results.toList) (G.collect B99 A99 []) 0 S (aR.v r0 (aR.v r1 aR.n)) := by kernel_rfl
theorem t99 (h : Hp) (S : Nat → aR → Option Value) : dY (fun l al => G.aG cK aZ gJ (gQ env aEY aS7 h) (gW env Tryz.f99.results.toList) (G.collect B99 A99 []) l S al) (T99 h S) := by
 unfold T99
 refine dY.cons 0 (fun iF q e0 => ?_) ?_
 ·obtain ⟨r0, vs1, rfl, e1⟩ := dX e0
  obtain ⟨r1, vs2, rfl, e2⟩ := dX e1
  obtain ⟨rfl, ee⟩ := dG e2
  exact (a8N h S r0 r1).symm.trans ee
 refine dY.cons 1 (fun iF q e0 => ?_) ?_
 ·obtain ⟨r0, vs1, rfl, e1⟩ := dX e0
  obtain ⟨r1, vs2, rfl, e2⟩ := dX e1
  obtain ⟨r5, vs3, rfl, e3⟩ := bZ e2
  obtain ⟨rfl, ee⟩ := dG e3
  exact (a8M h S r0 r1 r5).symm.trans ee
 refine dY.cons 2 (fun iF q e0 => ?_) ?_
 ·
  obtain ⟨rfl, ee⟩ := dG e0
  exact (a8L h S).symm.trans ee
 exact dY.nil
theorem r99 : dS Tryz.prog 99 F99 := eD (C := C0) ok0 (pf := aEY) aO8 (fn := Tryz.f99) (body := B99) (kinds := [Kd.v, Kd.v]) (A := A99) (T := T99) (by kernel_rfl) (by kernel_rfl) (by kernel_rfl) (by kernel_rfl) (fun h S => t99 h S)
noncomputable def aO9 : PF := M5 99 F99 aEY
theorem aPA : gF Tryz.prog aO9 := jX r99 aO8
noncomputable def aWD := pI 99 F99 aWB
noncomputable def C31 : cB := cfg aWD
theorem bI5 : C31.Ok := gZ (C := C30) bI4 r99
noncomputable def B61 : Code := (Tryz.f61.body).getD .skip
noncomputable def A61 : G.aC (List KI) := (G.aC.node (some (0, [KI.reg 0 (Kd.v), KI.reg 1 (Kd.v)])) G.aC.nil (G.aC.node none (G.aC.node none G.aC.nil (G.aC.node none (G.aC.node none G.aC.nil G.aC.nil) G.aC.nil)) (G.aC.node none (G.aC.node none G.aC.nil (G.aC.node none (G.aC.node none G.aC.nil G.aC.nil) G.aC.nil)) (G.aC.node none G.aC.nil G.aC.nil))))
noncomputable def aHO (h : Hp) (S : Nat → aR → Option Value) (r0 : Value) (r1 : Value) : Option Value :=
 dD (F62 [r0] h) fun v0 =>
 bW v0 fun b1 =>
 dK b1 fun b2 =>
 dI b2
 (some (Value.int .i64 (Int.ofNat 6)))
 (dD (F99 [r1, r0] h) fun v3 =>
 bI .i64 v3 fun i4 =>
 dK (nM i4 (Int.ofNat 0)) fun b5 =>
 dI b5
 (some (Value.int .i64 (Int.ofNat 5)))
 (some (Value.int .i64 (Int.ofNat 0))))
noncomputable def T61 (h : Hp) (S : Nat → aR → Option Value) : Nat → aR → Option Value := gM 0 (wV fun r0 => wV fun r1 => wN (aHO h S r0 r1)) (mG)
noncomputable def F61 (args : List Value) (h : Hp) : Option Value := plainO (fG [Kd.v, Kd.v] args fun al => G.aP (T61 h) 1000000 0 al)
def a8Q : Nat := 2 + (12 - 2)
theorem a8R (h : Hp) (S : Nat → aR → Option Value) (r0 : Value) (r1 : Value) : aHO h S r0 r1 = G.aG cK aZ gJ (gQ env aO9 a8Q h) (gW env Tryz.f61.results.toList) (G.collect B61 A61 []) 0 S (aR.v r0 (aR.v r1 aR.n)) := by kernel_rfl
theorem t61 (h : Hp) (S : Nat → aR → Option Value) : dY (fun l al => G.aG cK aZ gJ (gQ env aO9 a8Q h) (gW env Tryz.f61.results.toList) (G.collect B61 A61 []) l S al) (T61 h S) := by
 unfold T61
 refine dY.cons 0 (fun iF q e0 => ?_) ?_
 ·obtain ⟨r0, vs1, rfl, e1⟩ := dX e0
  obtain ⟨r1, vs2, rfl, e2⟩ := dX e1
  obtain ⟨rfl, ee⟩ := dG e2
  exact (a8R h S r0 r1).symm.trans ee
 exact dY.nil
theorem r61 : dS Tryz.prog 61 F61 := eD (C := C0) ok0 (pf := aO9) aPA (fn := Tryz.f61) (body := B61) (kinds := [Kd.v, Kd.v]) (A := A61) (T := T61) (by kernel_rfl) (by kernel_rfl) (by kernel_rfl) (by kernel_rfl) (fun h S => t61 h S)
noncomputable def aEZ : PF := M5 61 F61 aO9
theorem aPB : gF Tryz.prog aEZ := jX r61 aPA
noncomputable def aWE := pI 61 F61 aWD
noncomputable def C32 : cB := cfg aWE
theorem ok32 : C32.Ok := gZ (C := C31) bI5 r61
noncomputable def B50 : Code := (Tryz.f50.body).getD .skip
noncomputable def A50 : G.aC (List KI) := (G.aC.node (some (0, [KI.reg 0 (Kd.i .i64)])) G.aC.nil (G.aC.node none G.aC.nil (G.aC.node none (G.aC.node none G.aC.nil (G.aC.node none (G.aC.node (some (1, [KI.reg 0 (Kd.i .i64), KI.reg 3 (Kd.i .i64), KI.reg 4 (Kd.i .i64)])) (G.aC.node none (G.aC.node none G.aC.nil (G.aC.node none G.aC.nil G.aC.nil)) (G.aC.node none (G.aC.node none G.aC.nil G.aC.nil) G.aC.nil)) G.aC.nil) G.aC.nil)) (G.aC.node (some (2, [KI.reg 3 (Kd.i .i64)])) G.aC.nil G.aC.nil))))
noncomputable def aWF (h : Hp) (S : Nat → aR → Option Value) (r3 : Int) : Option Value :=
 some (Value.int .i64 r3)
noncomputable def aWG (h : Hp) (S : Nat → aR → Option Value) (r0 : Int) (r3 : Int) (r4 : Int) : Option Value :=
 dF (nM r4 r0) fun b0 =>
 dI b0
 (wrap64 (Int.mul (Int.ofNat 2) r3) fun i1 =>
 wrap64 (Int.add r4 (Int.ofNat 1)) fun i2 =>
 S 1 (aR.i r0 (aR.i i1 (aR.i i2 aR.n))))
 (S 2 (aR.i r3 aR.n))
noncomputable def aWH (h : Hp) (S : Nat → aR → Option Value) (r0 : Int) : Option Value :=
 S 1 (aR.i r0 (aR.i (Int.ofNat 1) (aR.i (Int.ofNat 0) aR.n)))
noncomputable def T50 (h : Hp) (S : Nat → aR → Option Value) : Nat → aR → Option Value := gM 0 (wI fun r0 => wN (aWH h S r0)) (gM 1 (wI fun r0 => wI fun r3 => wI fun r4 => wN (aWG h S r0 r3 r4)) (gM 2 (wI fun r3 => wN (aWF h S r3)) (mG)))
noncomputable def F50 (args : List Value) (h : Hp) : Option Value := plainO (fG [Kd.i .i64] args fun al => G.aP (T50 h) 1000000 0 al)
def aS8 : Nat := 1 + (13 - 1)
theorem a8U (h : Hp) (S : Nat → aR → Option Value) (r3 : Int) : aWF h S r3 = G.aG cK aZ gJ (gQ env aEZ aS8 h) (gW env Tryz.f50.results.toList) (G.collect B50 A50 []) 2 S (aR.i r3 aR.n) := by kernel_rfl
theorem a8V (h : Hp) (S : Nat → aR → Option Value) (r0 : Int) (r3 : Int) (r4 : Int) : aWG h S r0 r3 r4 = G.aG cK aZ gJ (gQ env aEZ aS8 h) (gW env Tryz.f50.results.toList) (G.collect B50 A50 []) 1 S (aR.i r0 (aR.i r3 (aR.i r4 aR.n))) := by kernel_rfl
theorem a8W (h : Hp) (S : Nat → aR → Option Value) (r0 : Int) : aWH h S r0 = G.aG cK aZ gJ (gQ env aEZ aS8 h) (gW env Tryz.f50.results.toList) (G.collect B50 A50 []) 0 S (aR.i r0 aR.n) := by kernel_rfl
theorem t50 (h : Hp) (S : Nat → aR → Option Value) : dY (fun l al => G.aG cK aZ gJ (gQ env aEZ aS8 h) (gW env Tryz.f50.results.toList) (G.collect B50 A50 []) l S al) (T50 h S) := by
 unfold T50
 refine dY.cons 0 (fun iF q e0 => ?_) ?_
 ·obtain ⟨r0, vs1, rfl, e1⟩ := bZ e0
  obtain ⟨rfl, ee⟩ := dG e1
  exact (a8W h S r0).symm.trans ee
 refine dY.cons 1 (fun iF q e0 => ?_) ?_
 ·obtain ⟨r0, vs1, rfl, e1⟩ := bZ e0
  obtain ⟨r3, vs2, rfl, e2⟩ := bZ e1
  obtain ⟨r4, vs3, rfl, e3⟩ := bZ e2
  obtain ⟨rfl, ee⟩ := dG e3
  exact (a8V h S r0 r3 r4).symm.trans ee
 refine dY.cons 2 (fun iF q e0 => ?_) ?_
 ·obtain ⟨r3, vs1, rfl, e1⟩ := bZ e0
  obtain ⟨rfl, ee⟩ := dG e1
  exact (a8U h S r3).symm.trans ee
 exact dY.nil
theorem r50 : dS Tryz.prog 50 F50 := eD (C := C0) ok0 (pf := aEZ) aPB (fn := Tryz.f50) (body := B50) (kinds := [Kd.i .i64]) (A := A50) (T := T50) (by kernel_rfl) (by kernel_rfl) (by kernel_rfl) (by kernel_rfl) (fun h S => t50 h S)
noncomputable def aE0 : PF := M5 50 F50 aEZ
theorem aPC : gF Tryz.prog aE0 := jX r50 aPB
noncomputable def aWI := pI 50 F50 aWE
noncomputable def C33 : cB := cfg aWI
theorem bI8 : C33.Ok := gZ (C := C32) ok32 r50
noncomputable def B44 : Code := (Tryz.f44.body).getD .skip
noncomputable def A44 : G.aC (List KI) := (G.aC.node (some (0, [KI.reg 0 (Kd.v), KI.reg 1 (Kd.i .i64)])) G.aC.nil (G.aC.node none (G.aC.node none G.aC.nil (G.aC.node none (G.aC.node (some (1, [KI.reg 0 (Kd.v), KI.reg 1 (Kd.i .i64), KI.reg 5 (Kd.i .i64)])) (G.aC.node none (G.aC.node none G.aC.nil (G.aC.node none G.aC.nil G.aC.nil)) (G.aC.node none (G.aC.node none (G.aC.node none G.aC.nil (G.aC.node none (G.aC.node none G.aC.nil G.aC.nil) G.aC.nil)) G.aC.nil) G.aC.nil)) G.aC.nil) G.aC.nil)) (G.aC.node (some (2, [])) G.aC.nil G.aC.nil)))
noncomputable def aWJ (h : Hp) (S : Nat → aR → Option Value) : Option Value :=
 some (Value.bool false)
noncomputable def U5 (h : Hp) (S : Nat → aR → Option Value) (r0 : Value) (r1 : Int) (r5 : Int) : Option Value :=
 gY r0 fun i0 =>
 dF (nM r5 i0) fun b1 =>
 dI b1
 (jF 1 r0 r5 fun v2 =>
 bC h v2 fun v3 =>
 bI .i64 v3 fun i4 =>
 dF (tJ i4 r1) fun b5 =>
 dI b5
 (some (Value.bool true))
 (wrap64 (Int.add r5 (Int.ofNat 1)) fun i6 =>
 S 1 (aR.v r0 (aR.i r1 (aR.i i6 aR.n)))))
 (S 2 aR.n)
noncomputable def aHP (h : Hp) (S : Nat → aR → Option Value) (r0 : Value) (r1 : Int) : Option Value :=
 S 1 (aR.v r0 (aR.i r1 (aR.i (Int.ofNat 0) aR.n)))
noncomputable def T44 (h : Hp) (S : Nat → aR → Option Value) : Nat → aR → Option Value := gM 0 (wV fun r0 => wI fun r1 => wN (aHP h S r0 r1)) (gM 1 (wV fun r0 => wI fun r1 => wI fun r5 => wN (U5 h S r0 r1 r5)) (gM 2 (wN (aWJ h S)) (mG)))
noncomputable def F44 (args : List Value) (h : Hp) : Option Value := plainO (fG [Kd.v, Kd.i .i64] args fun al => G.aP (T44 h) 1000000 0 al)
def aS9 : Nat := 2 + (18 - 2)
theorem a8Z (h : Hp) (S : Nat → aR → Option Value) : aWJ h S = G.aG cK aZ gJ (gQ env aE0 aS9 h) (gW env Tryz.f44.results.toList) (G.collect B44 A44 []) 2 S aR.n := by kernel_rfl
theorem a81 (h : Hp) (S : Nat → aR → Option Value) (r0 : Value) (r1 : Int) (r5 : Int) : U5 h S r0 r1 r5 = G.aG cK aZ gJ (gQ env aE0 aS9 h) (gW env Tryz.f44.results.toList) (G.collect B44 A44 []) 1 S (aR.v r0 (aR.i r1 (aR.i r5 aR.n))) := by kernel_rfl
theorem a88 (h : Hp) (S : Nat → aR → Option Value) (r0 : Value) (r1 : Int) : aHP h S r0 r1 = G.aG cK aZ gJ (gQ env aE0 aS9 h) (gW env Tryz.f44.results.toList) (G.collect B44 A44 []) 0 S (aR.v r0 (aR.i r1 aR.n)) := by kernel_rfl
theorem t44 (h : Hp) (S : Nat → aR → Option Value) : dY (fun l al => G.aG cK aZ gJ (gQ env aE0 aS9 h) (gW env Tryz.f44.results.toList) (G.collect B44 A44 []) l S al) (T44 h S) := by
 unfold T44
 refine dY.cons 0 (fun iF q e0 => ?_) ?_
 ·obtain ⟨r0, vs1, rfl, e1⟩ := dX e0
  obtain ⟨r1, vs2, rfl, e2⟩ := bZ e1
  obtain ⟨rfl, ee⟩ := dG e2
  exact (a88 h S r0 r1).symm.trans ee
 refine dY.cons 1 (fun iF q e0 => ?_) ?_
 ·obtain ⟨r0, vs1, rfl, e1⟩ := dX e0
  obtain ⟨r1, vs2, rfl, e2⟩ := bZ e1
  obtain ⟨r5, vs3, rfl, e3⟩ := bZ e2
  obtain ⟨rfl, ee⟩ := dG e3
  exact (a81 h S r0 r1 r5).symm.trans ee
 refine dY.cons 2 (fun iF q e0 => ?_) ?_
 ·
  obtain ⟨rfl, ee⟩ := dG e0
  exact (a8Z h S).symm.trans ee
 exact dY.nil
theorem r44 : dS Tryz.prog 44 F44 := eD (C := C0) ok0 (pf := aE0) aPC (fn := Tryz.f44) (body := B44) (kinds := [Kd.v, Kd.i .i64]) (A := A44) (T := T44) (by kernel_rfl) (by kernel_rfl) (by kernel_rfl) (by kernel_rfl) (fun h S => t44 h S)
noncomputable def aPD : PF := M5 44 F44 aE0
theorem aPE : gF Tryz.prog aPD := jX r44 aPC
noncomputable def zJ := pI 44 F44 aWI
noncomputable def C34 : cB := cfg zJ
theorem bI9 : C34.Ok := gZ (C := C33) bI8 r44
noncomputable def B17 : Code := (Tryz.f17.body).getD .skip
def A17 : aC := (aC.node (some (0, [(0, Kd.v)])) aC.nil (aC.node none (aC.node none aC.nil (aC.node none (aC.node none aC.nil aC.nil) aC.nil)) (aC.node none (aC.node none aC.nil (aC.node none (aC.node none aC.nil aC.nil) aC.nil)) (aC.node none aC.nil (aC.node none (aC.node none aC.nil (aC.node none (aC.node (some (1, [(1, Kd.v), (5, Kd.v), (6, Kd.i .i64)])) (aC.node none (aC.node none aC.nil (aC.node none aC.nil aC.nil)) (aC.node none (aC.node none (aC.node none aC.nil (aC.node none aC.nil (aC.node none (aC.node none aC.nil (aC.node none aC.nil aC.nil)) (aC.node (some (4, [(1, Kd.v), (5, Kd.v), (6, Kd.i .i64), (7, Kd.v), (8, Kd.i .i64)])) (aC.node none aC.nil (aC.node none aC.nil aC.nil)) (aC.node (some (3, [(1, Kd.v), (5, Kd.v), (6, Kd.i .i64), (7, Kd.v), (8, Kd.i .i64)])) (aC.node none aC.nil (aC.node none aC.nil aC.nil)) (aC.node (some (2, [(1, Kd.v), (5, Kd.v), (6, Kd.i .i64), (7, Kd.v), (8, Kd.i .i64)])) (aC.node none aC.nil (aC.node none (aC.node none aC.nil aC.nil) aC.nil)) aC.nil)))))) aC.nil) (aC.node (some (5, [(1, Kd.v), (5, Kd.v), (6, Kd.i .i64)])) aC.nil aC.nil))) aC.nil) aC.nil)) (aC.node (some (8, [(1, Kd.v)])) (aC.node none aC.nil (aC.node none (aC.node none aC.nil aC.nil) aC.nil)) (aC.node none (aC.node none aC.nil (aC.node none (aC.node (some (6, [(1, Kd.v), (9, Kd.i .i64)])) (aC.node none (aC.node none aC.nil (aC.node none aC.nil aC.nil)) (aC.node none (aC.node none (aC.node none (aC.node none aC.nil (aC.node none (aC.node none aC.nil aC.nil) aC.nil)) (aC.node none aC.nil (aC.node none (aC.node none aC.nil aC.nil) aC.nil))) aC.nil) aC.nil)) aC.nil) aC.nil)) (aC.node (some (7, [])) aC.nil aC.nil))))))))
noncomputable def aWK (S : Sg) (h : Hp) : aT :=
 some (Value.tuple (List.toArray [(Value.int .i64 (Int.ofNat 0)), (Value.int .i64 (Int.ofNat 0)), (Value.int .i64 (Int.ofNat 0))]), h)
noncomputable def U6 (S : Sg) (r1 : Value) (r9 : Int) (h : Hp) : aT :=
 aV 2 r1 fun v0 =>
 bC h v0 fun v1 =>
 gY v1 fun i2 =>
 dF (nM r9 i2) fun b3 =>
 dI b3
 (aV 2 r1 fun v4 =>
 bC h v4 fun v5 =>
 jF 1 v5 r9 fun v6 =>
 bC h v6 fun v7 =>
 bI .i64 v7 fun i8 =>
 aV 1 r1 fun v9 =>
 bC h v9 fun v10 =>
 gY v10 fun i11 =>
 aY (aY (dD (F50 [(Value.int .i64 i11)] (Hp.mk (Hp.next h) (Hp.next h) (Hp.aJ h))) fun v => some (v, (Hp.mk (Hp.next h) (Hp.next h) (Hp.aJ h)))) fun v _ => dI (jS v) (some (v, h)) none) fun v12 h12 =>
 bI .i64 v12 fun i13 =>
 wrap64 (Int.sub i13 (Int.ofNat 1)) fun i14 =>
 aY (dD (F60 [(Value.int .i64 i8), (Value.int .i64 (Int.ofNat 0)), (Value.int .i64 i14)] h12) fun v => some (v, h12)) fun v15 SB =>
 bW v15 fun b16 =>
 dK b16 fun b17 =>
 dI b17
 (some (Value.tuple (List.toArray [(Value.int .i64 (Int.ofNat 3)), (Value.int .i64 r9), (Value.int .i64 (Int.ofNat 4))]), SB))
 (aV 2 r1 fun v18 =>
 bC SB v18 fun v19 =>
 dD (o5 env SB 23 v19 none (some (Value.int .i64 r9)) none) fun v20 =>
 aV 2 r1 fun v21 =>
 bC SB v21 fun v22 =>
 jF 1 v22 r9 fun v23 =>
 bC SB v23 fun v24 =>
 bI .i64 v24 fun i25 =>
 aY (dD (F44 [v20, (Value.int .i64 i25)] SB) fun v => some (v, SB)) fun v26 h26 =>
 bW v26 fun b27 =>
 dI b27
 (some (Value.tuple (List.toArray [(Value.int .i64 (Int.ofNat 3)), (Value.int .i64 r9), (Value.int .i64 (Int.ofNat 5))]), h26))
 (wrap64 (Int.add r9 (Int.ofNat 1)) fun i28 =>
 S 6 (AL.v r1 (AL.i i28 AL.n)) h26)))
 (S 7 AL.n h)
noncomputable def aHQ (S : Sg) (r1 : Value) (h : Hp) : aT :=
 aV 2 r1 fun v0 =>
 bC h v0 fun v1 =>
 gY v1 fun i2 =>
 aY (dD (F60 [(Value.int .i64 i2), (Value.int .i64 (Int.ofNat 1)), (Value.int .i64 (Int.ofNat 6))] h) fun v => some (v, h)) fun v3 h3 =>
 bW v3 fun b4 =>
 dK b4 fun b5 =>
 dI b5
 (some (Value.tuple (List.toArray [(Value.int .i64 (Int.ofNat 3)), (Value.int .i64 (Int.ofNat 0)), (Value.int .i64 (Int.ofNat 3))]), h3))
 (S 6 (AL.v r1 (AL.i (Int.ofNat 0) AL.n)) h3)
noncomputable def aHR (S : Sg) (r1 : Value) (r5 : Value) (r6 : Int) (h : Hp) : aT :=
 wrap64 (Int.add r6 (Int.ofNat 1)) fun i0 =>
 S 1 (AL.v r1 (AL.v r5 (AL.i i0 AL.n))) h
noncomputable def U7 (S : Sg) (r1 : Value) (r5 : Value) (r6 : Int) (r7 : Value) (r8 : Int) (h : Hp) : aT :=
 dK (tJ r8 (Int.ofNat 0)) fun b0 =>
 dI b0
 (some (Value.tuple (List.toArray [(Value.int .i64 (Int.ofNat 2)), (Value.int .i64 r6), (Value.int .i64 r8)]), h))
 (aV 0 r7 fun v1 =>
 bC h v1 fun v2 =>
 aY (bJ env h 84 1 (List.toArray [(0, v2)])) fun v3 h3 =>
 aY (nR env h3 #[84, 84] (List.toArray [r5, v3])) fun v4 h4 =>
 S 5 (AL.v r1 (AL.v v4 (AL.i r6 AL.n))) h4)
noncomputable def U8 (S : Sg) (r1 : Value) (r5 : Value) (r6 : Int) (r7 : Value) (r8 : Int) (h : Hp) : aT :=
 dF (tJ r8 (Int.ofNat 0)) fun b0 =>
 dI b0
 (dF (nM (Int.ofNat 0) r6) fun b1 =>
 dI b1
 (aV 2 r7 fun v2 =>
 bC h v2 fun v3 =>
 bI .i64 v3 fun i4 =>
 aV 1 r1 fun v5 =>
 bC h v5 fun v6 =>
 wrap64 (Int.sub r6 (Int.ofNat 1)) fun i7 =>
 jF 4 v6 i7 fun v8 =>
 aV 2 v8 fun v9 =>
 bC h v9 fun v10 =>
 bI .i64 v10 fun i11 =>
 dF (nM i4 i11) fun b12 =>
 dI b12
 (S 2 (AL.v r1 (AL.v r5 (AL.i r6 (AL.v r7 (AL.i (Int.ofNat 2) AL.n))))) h)
 (S 2 (AL.v r1 (AL.v r5 (AL.i r6 (AL.v r7 (AL.i r8 AL.n))))) h))
 (S 2 (AL.v r1 (AL.v r5 (AL.i r6 (AL.v r7 (AL.i r8 AL.n))))) h))
 (S 2 (AL.v r1 (AL.v r5 (AL.i r6 (AL.v r7 (AL.i r8 AL.n))))) h)
noncomputable def QS (S : Sg) (r1 : Value) (r5 : Value) (r6 : Int) (r7 : Value) (r8 : Int) (h : Hp) : aT :=
 dF (tJ r8 (Int.ofNat 0)) fun b0 =>
 dI b0
 (aV 2 r7 fun v1 =>
 bC h v1 fun v2 =>
 bI .i64 v2 fun i3 =>
 aY (dD (F60 [(Value.int .i64 i3), (Value.int .i64 (Int.ofNat 0)), (Value.int .i64 (Int.ofNat 9))] h) fun v => some (v, h)) fun v4 h4 =>
 bW v4 fun b5 =>
 dK b5 fun b6 =>
 dI b6
 (S 3 (AL.v r1 (AL.v r5 (AL.i r6 (AL.v r7 (AL.i (Int.ofNat 7) AL.n))))) h4)
 (aV 3 r7 fun v7 =>
 bC h4 v7 fun v8 =>
 bI .i64 v8 fun i9 =>
 aY (dD (F60 [(Value.int .i64 i9), (Value.int .i64 (Int.ofNat 1)), (Value.int .i64 (Int.ofNat 6))] h4) fun v => some (v, h4)) fun v10 h10 =>
 bW v10 fun b11 =>
 dK b11 fun b12 =>
 dI b12
 (S 3 (AL.v r1 (AL.v r5 (AL.i r6 (AL.v r7 (AL.i (Int.ofNat 7) AL.n))))) h10)
 (S 3 (AL.v r1 (AL.v r5 (AL.i r6 (AL.v r7 (AL.i r8 AL.n))))) h10)))
 (S 3 (AL.v r1 (AL.v r5 (AL.i r6 (AL.v r7 (AL.i r8 AL.n))))) h)
noncomputable def U9 (S : Sg) (r1 : Value) (r5 : Value) (r6 : Int) (h : Hp) : aT :=
 aV 1 r1 fun v0 =>
 bC h v0 fun v1 =>
 gY v1 fun i2 =>
 dF (nM r6 i2) fun b3 =>
 dI b3
 (aV 1 r1 fun v4 =>
 bC h v4 fun v5 =>
 jF 4 v5 r6 fun v6 =>
 bQ 4 h v6 fun v7 =>
 dP h 76 [(Value.string (ByteArray.mk #[])), (Value.string (ByteArray.mk #[])), (Value.int .i64 (Int.ofNat 0)), (Value.int .i64 (Int.ofNat 0))] fun a8 h8 =>
 iY 4 h8 a8 v7 fun h9 =>
 aV 0 a8 fun v10 =>
 bC h9 v10 fun v11 =>
 aY (dD (F61 [v11, r5] h9) fun v => some (v, h9)) fun v12 h12 =>
 bI .i64 v12 fun i13 =>
 dF (tJ i13 (Int.ofNat 0)) fun b14 =>
 dI b14
 (aV 1 a8 fun v15 =>
 bC h12 v15 fun v16 =>
 aY (dD (F62 [v16] h12) fun v => some (v, h12)) fun v17 h17 =>
 bW v17 fun b18 =>
 dK b18 fun b19 =>
 dI b19
 (S 4 (AL.v r1 (AL.v r5 (AL.i r6 (AL.v a8 (AL.i (Int.ofNat 6) AL.n))))) h17)
 (S 4 (AL.v r1 (AL.v r5 (AL.i r6 (AL.v a8 (AL.i i13 AL.n))))) h17))
 (S 4 (AL.v r1 (AL.v r5 (AL.i r6 (AL.v a8 (AL.i i13 AL.n))))) h12))
 (S 8 (AL.v r1 AL.n) h)
noncomputable def aHS (S : Sg) (r0 : Value) (h : Hp) : aT :=
 dP h 25 (Array.toList (Value.cells r0)) fun a0 h0 =>
 aV 0 a0 fun v1 =>
 bC h0 v1 fun v2 =>
 bI .i64 v2 fun i3 =>
 aY (dD (F60 [(Value.int .i64 i3), (Value.int .i64 (Int.ofNat 14)), (Value.int .i64 (Int.ofNat 30))] h0) fun v => some (v, h0)) fun v4 h4 =>
 bW v4 fun b5 =>
 dK b5 fun b6 =>
 dI b6
 (some (Value.tuple (List.toArray [(Value.int .i64 (Int.ofNat 1)), (Value.int .i64 (Int.ofNat 0)), (Value.int .i64 (Int.ofNat 7))]), h4))
 (aV 1 a0 fun v7 =>
 bC h4 v7 fun v8 =>
 gY v8 fun i9 =>
 dF (nM (Int.ofNat 6) i9) fun b10 =>
 dI b10
 (some (Value.tuple (List.toArray [(Value.int .i64 (Int.ofNat 2)), (Value.int .i64 (Int.ofNat 0)), (Value.int .i64 (Int.ofNat 3))]), h4))
 (S 1 (AL.v a0 (AL.v (Value.slice none 0 0) (AL.i (Int.ofNat 0) AL.n))) h4))
noncomputable def BS (S : Sg) : Sg := eF 0 (uV fun r0 => uN fun h => aHS S r0 h) (eF 1 (uV fun r1 => uV fun r5 => uI fun r6 => uN fun h => U9 S r1 r5 r6 h) (eF 4 (uV fun r1 => uV fun r5 => uI fun r6 => uV fun r7 => uI fun r8 => uN fun h => QS S r1 r5 r6 r7 r8 h) (eF 3 (uV fun r1 => uV fun r5 => uI fun r6 => uV fun r7 => uI fun r8 => uN fun h => U8 S r1 r5 r6 r7 r8 h) (eF 2 (uV fun r1 => uV fun r5 => uI fun r6 => uV fun r7 => uI fun r8 => uN fun h => U7 S r1 r5 r6 r7 r8 h) (eF 5 (uV fun r1 => uV fun r5 => uI fun r6 => uN fun h => aHR S r1 r5 r6 h) (eF 8 (uV fun r1 => uN fun h => aHQ S r1 h) (eF 6 (uV fun r1 => uI fun r9 => uN fun h => U6 S r1 r9 h) (eF 7 (uN fun h => aWK S  h) (kU)))))))))
noncomputable def F17 (args : List Value) (h : Hp) : aT := bV [Kd.v] args fun al => aP BS 1000000 0 al h
def SC : Nat := 1 + (119 - 1)
theorem a9A (S : Sg) (h : Hp) : aWK S  h = aG (cO env zJ (SC)) (dA env Tryz.f17.results.toList) (collect B17 A17 []) 7 S AL.n h := by kernel_rfl
theorem a9B (S : Sg) (r1 : Value) (r9 : Int) (h : Hp) : U6 S r1 r9 h = aG (cO env zJ (SC)) (dA env Tryz.f17.results.toList) (collect B17 A17 []) 6 S (AL.v r1 (AL.i r9 AL.n)) h := by kernel_rfl
theorem a9C (S : Sg) (r1 : Value) (h : Hp) : aHQ S r1 h = aG (cO env zJ (SC)) (dA env Tryz.f17.results.toList) (collect B17 A17 []) 8 S (AL.v r1 AL.n) h := by kernel_rfl
theorem a9D (S : Sg) (r1 : Value) (r5 : Value) (r6 : Int) (h : Hp) : aHR S r1 r5 r6 h = aG (cO env zJ (SC)) (dA env Tryz.f17.results.toList) (collect B17 A17 []) 5 S (AL.v r1 (AL.v r5 (AL.i r6 AL.n))) h := by kernel_rfl
theorem a9E (S : Sg) (r1 : Value) (r5 : Value) (r6 : Int) (r7 : Value) (r8 : Int) (h : Hp) : U7 S r1 r5 r6 r7 r8 h = aG (cO env zJ (SC)) (dA env Tryz.f17.results.toList) (collect B17 A17 []) 2 S (AL.v r1 (AL.v r5 (AL.i r6 (AL.v r7 (AL.i r8 AL.n))))) h := by kernel_rfl
theorem a9F (S : Sg) (r1 : Value) (r5 : Value) (r6 : Int) (r7 : Value) (r8 : Int) (h : Hp) : U8 S r1 r5 r6 r7 r8 h = aG (cO env zJ (SC)) (dA env Tryz.f17.results.toList) (collect B17 A17 []) 3 S (AL.v r1 (AL.v r5 (AL.i r6 (AL.v r7 (AL.i r8 AL.n))))) h := by kernel_rfl
theorem a9G (S : Sg) (r1 : Value) (r5 : Value) (r6 : Int) (r7 : Value) (r8 : Int) (h : Hp) : QS S r1 r5 r6 r7 r8 h = aG (cO env zJ (SC)) (dA env Tryz.f17.results.toList) (collect B17 A17 []) 4 S (AL.v r1 (AL.v r5 (AL.i r6 (AL.v r7 (AL.i r8 AL.n))))) h := by kernel_rfl
theorem a9H (S : Sg) (r1 : Value) (r5 : Value) (r6 : Int) (h : Hp) : U9 S r1 r5 r6 h = aG (cO env zJ (SC)) (dA env Tryz.f17.results.toList) (collect B17 A17 []) 1 S (AL.v r1 (AL.v r5 (AL.i r6 AL.n))) h := by kernel_rfl
theorem a9I (S : Sg) (r0 : Value) (h : Hp) : aHS S r0 h = aG (cO env zJ (SC)) (dA env Tryz.f17.results.toList) (collect B17 A17 []) 0 S (AL.v r0 AL.n) h := by kernel_rfl
theorem t17 (S : Sg) : eZ (fun l vs h => aG (cO env zJ SC) (dA env Tryz.f17.results.toList) (collect B17 A17 []) l S vs h) (BS S) := by
 unfold BS
 refine eZ.cons 0 (fun iF h q e0 => ?_) ?_
 ·obtain ⟨r0, vs1, rfl, e1⟩ := aH e0
  obtain ⟨rfl, ee⟩ := bB e1
  exact (a9I S r0 h).symm.trans ee
 refine eZ.cons 1 (fun iF h q e0 => ?_) ?_
 ·obtain ⟨r1, vs1, rfl, e1⟩ := aH e0
  obtain ⟨r5, vs2, rfl, e2⟩ := aH e1
  obtain ⟨r6, vs3, rfl, e3⟩ := bH e2
  obtain ⟨rfl, ee⟩ := bB e3
  exact (a9H S r1 r5 r6 h).symm.trans ee
 refine eZ.cons 4 (fun iF h q e0 => ?_) ?_
 ·obtain ⟨r1, vs1, rfl, e1⟩ := aH e0
  obtain ⟨r5, vs2, rfl, e2⟩ := aH e1
  obtain ⟨r6, vs3, rfl, e3⟩ := bH e2
  obtain ⟨r7, SA, rfl, e4⟩ := aH e3
  obtain ⟨r8, vs5, rfl, e5⟩ := bH e4
  obtain ⟨rfl, ee⟩ := bB e5
  exact (a9G S r1 r5 r6 r7 r8 h).symm.trans ee
 refine eZ.cons 3 (fun iF h q e0 => ?_) ?_
 ·obtain ⟨r1, vs1, rfl, e1⟩ := aH e0
  obtain ⟨r5, vs2, rfl, e2⟩ := aH e1
  obtain ⟨r6, vs3, rfl, e3⟩ := bH e2
  obtain ⟨r7, SA, rfl, e4⟩ := aH e3
  obtain ⟨r8, vs5, rfl, e5⟩ := bH e4
  obtain ⟨rfl, ee⟩ := bB e5
  exact (a9F S r1 r5 r6 r7 r8 h).symm.trans ee
 refine eZ.cons 2 (fun iF h q e0 => ?_) ?_
 ·obtain ⟨r1, vs1, rfl, e1⟩ := aH e0
  obtain ⟨r5, vs2, rfl, e2⟩ := aH e1
  obtain ⟨r6, vs3, rfl, e3⟩ := bH e2
  obtain ⟨r7, SA, rfl, e4⟩ := aH e3
  obtain ⟨r8, vs5, rfl, e5⟩ := bH e4
  obtain ⟨rfl, ee⟩ := bB e5
  exact (a9E S r1 r5 r6 r7 r8 h).symm.trans ee
 refine eZ.cons 5 (fun iF h q e0 => ?_) ?_
 ·obtain ⟨r1, vs1, rfl, e1⟩ := aH e0
  obtain ⟨r5, vs2, rfl, e2⟩ := aH e1
  obtain ⟨r6, vs3, rfl, e3⟩ := bH e2
  obtain ⟨rfl, ee⟩ := bB e3
  exact (a9D S r1 r5 r6 h).symm.trans ee
 refine eZ.cons 8 (fun iF h q e0 => ?_) ?_
 ·obtain ⟨r1, vs1, rfl, e1⟩ := aH e0
  obtain ⟨rfl, ee⟩ := bB e1
  exact (a9C S r1 h).symm.trans ee
 refine eZ.cons 6 (fun iF h q e0 => ?_) ?_
 ·obtain ⟨r1, vs1, rfl, e1⟩ := aH e0
  obtain ⟨r9, vs2, rfl, e2⟩ := bH e1
  obtain ⟨rfl, ee⟩ := bB e2
  exact (a9B S r1 r9 h).symm.trans ee
 refine eZ.cons 7 (fun iF h q e0 => ?_) ?_
 ·
  obtain ⟨rfl, ee⟩ := bB e0
  exact (a9A S  h).symm.trans ee
 exact eZ.nil
theorem xH : ∀ args h v h', F17 args h = some (v, h') → gG (C34) (.call 17 args.toArray h) (.ret v h') := by
 intro args h v h' e
 exact bY (C := C34) (fn := Tryz.f17) (body := B17) (np := 1) (A := A17) (T := BS) (kinds := [Kd.v]) (by kernel_rfl) (by kernel_rfl) (by kernel_rfl) (by kernel_rfl) (dZ eX) (by kernel_rfl) (fun S => t17 S) e
noncomputable def aWL := kM 17 F17 zJ
noncomputable def C35 : cB := cfg aWL
theorem bJA : C35.Ok := eB (C := C34) bI9 xH
noncomputable def B42 : Code := (Tryz.f42.body).getD .skip
noncomputable def A42 : G.aC (List KI) := (G.aC.node (some (0, [KI.reg 0 (Kd.i .i64), KI.reg 1 (Kd.i .i64)])) G.aC.nil (G.aC.node none G.aC.nil G.aC.nil))
noncomputable def aHT (h : Hp) (S : Nat → aR → Option Value) (r0 : Int) (r1 : Int) : Option Value :=
 aDY .i64 r0 r1 (MZ (lH env .shr 3 (Value.int .i64 r0) (Value.int .i64 r1)) (Value.int .i64 r0) (Value.int .i64 r1)) fun i0 =>
 nN .i64 (lH env .rem 3 (Value.int .i64 i0) (Value.int .i64 (Int.ofNat 2))) fun i1 =>
 dF (tJ i1 (Int.ofNat 1)) fun b2 =>
 some (Value.bool b2)
noncomputable def T42 (h : Hp) (S : Nat → aR → Option Value) : Nat → aR → Option Value := gM 0 (wI fun r0 => wI fun r1 => wN (aHT h S r0 r1)) (mG)
noncomputable def F42 (args : List Value) (h : Hp) : Option Value := plainO (fG [Kd.i .i64, Kd.i .i64] args fun al => G.aP (T42 h) 1000000 0 al)
def a9J : Nat := 2 + (10 - 2)
theorem a9K (h : Hp) (S : Nat → aR → Option Value) (r0 : Int) (r1 : Int) : aHT h S r0 r1 = G.aG cK aZ gJ (gQ env aPD a9J h) (gW env Tryz.f42.results.toList) (G.collect B42 A42 []) 0 S (aR.i r0 (aR.i r1 aR.n)) := by kernel_rfl
theorem t42 (h : Hp) (S : Nat → aR → Option Value) : dY (fun l al => G.aG cK aZ gJ (gQ env aPD a9J h) (gW env Tryz.f42.results.toList) (G.collect B42 A42 []) l S al) (T42 h S) := by
 unfold T42
 refine dY.cons 0 (fun iF q e0 => ?_) ?_
 ·obtain ⟨r0, vs1, rfl, e1⟩ := bZ e0
  obtain ⟨r1, vs2, rfl, e2⟩ := bZ e1
  obtain ⟨rfl, ee⟩ := dG e2
  exact (a9K h S r0 r1).symm.trans ee
 exact dY.nil
theorem r42 : dS Tryz.prog 42 F42 := eD (C := C0) ok0 (pf := aPD) aPE (fn := Tryz.f42) (body := B42) (kinds := [Kd.i .i64, Kd.i .i64]) (A := A42) (T := T42) (by kernel_rfl) (by kernel_rfl) (by kernel_rfl) (by kernel_rfl) (fun h S => t42 h S)
noncomputable def aE1 : PF := M5 42 F42 aPD
theorem aPH : gF Tryz.prog aE1 := jX r42 aPE
noncomputable def aWM := pI 42 F42 aWL
noncomputable def C36 : cB := cfg aWM
theorem bJD : C36.Ok := gZ (C := C35) bJA r42
noncomputable def B92 : Code := (Tryz.f92.body).getD .skip
noncomputable def A92 : G.aC (List KI) := (G.aC.node (some (0, [KI.reg 0 (Kd.v), KI.reg 1 (Kd.i .i64), KI.reg 2 (Kd.v)])) G.aC.nil (G.aC.node none (G.aC.node none G.aC.nil (G.aC.node none (G.aC.node (some (1, [KI.reg 1 (Kd.i .i64), KI.reg 2 (Kd.v), KI.reg 7 (Kd.i .i64)])) (G.aC.node none (G.aC.node none G.aC.nil (G.aC.node none G.aC.nil G.aC.nil)) (G.aC.node none (G.aC.node none (G.aC.node none G.aC.nil (G.aC.node none (G.aC.node none G.aC.nil G.aC.nil) G.aC.nil)) G.aC.nil) G.aC.nil)) G.aC.nil) G.aC.nil)) (G.aC.node (some (2, [])) G.aC.nil G.aC.nil)))
noncomputable def aWN (h : Hp) (S : Nat → aR → Option Value) : Option Value :=
 some (Value.bool false)
noncomputable def VA (h : Hp) (S : Nat → aR → Option Value) (r1 : Int) (r2 : Value) (r7 : Int) : Option Value :=
 gY r2 fun i0 =>
 dF (nM r7 i0) fun b1 =>
 dI b1
 (jF 1 r2 r7 fun v2 =>
 bC h v2 fun v3 =>
 bI .i64 v3 fun i4 =>
 dD (F42 [(Value.int .i64 r1), (Value.int .i64 i4)] h) fun v5 =>
 bW v5 fun b6 =>
 dI b6
 (some (Value.bool true))
 (wrap64 (Int.add r7 (Int.ofNat 1)) fun i7 =>
 S 1 (aR.i r1 (aR.v r2 (aR.i i7 aR.n)))))
 (S 2 aR.n)
noncomputable def aHU (h : Hp) (S : Nat → aR → Option Value) (r0 : Value) (r1 : Int) (r2 : Value) : Option Value :=
 tF (Array.toList (Value.cells r0)) fun c0 =>
 S 1 (aR.i r1 (aR.v r2 (aR.i (Int.ofNat 0) aR.n)))
noncomputable def T92 (h : Hp) (S : Nat → aR → Option Value) : Nat → aR → Option Value := gM 0 (wV fun r0 => wI fun r1 => wV fun r2 => wN (aHU h S r0 r1 r2)) (gM 1 (wI fun r1 => wV fun r2 => wI fun r7 => wN (VA h S r1 r2 r7)) (gM 2 (wN (aWN h S)) (mG)))
noncomputable def F92 (args : List Value) (h : Hp) : Option Value := plainO (fG [Kd.v, Kd.i .i64, Kd.v] args fun al => G.aP (T92 h) 1000000 0 al)
def aTA : Nat := 3 + (20 - 3)
theorem a9N (h : Hp) (S : Nat → aR → Option Value) : aWN h S = G.aG cK aZ gJ (gQ env aE1 aTA h) (gW env Tryz.f92.results.toList) (G.collect B92 A92 []) 2 S aR.n := by kernel_rfl
theorem a9O (h : Hp) (S : Nat → aR → Option Value) (r1 : Int) (r2 : Value) (r7 : Int) : VA h S r1 r2 r7 = G.aG cK aZ gJ (gQ env aE1 aTA h) (gW env Tryz.f92.results.toList) (G.collect B92 A92 []) 1 S (aR.i r1 (aR.v r2 (aR.i r7 aR.n))) := by kernel_rfl
theorem a9P (h : Hp) (S : Nat → aR → Option Value) (r0 : Value) (r1 : Int) (r2 : Value) : aHU h S r0 r1 r2 = G.aG cK aZ gJ (gQ env aE1 aTA h) (gW env Tryz.f92.results.toList) (G.collect B92 A92 []) 0 S (aR.v r0 (aR.i r1 (aR.v r2 aR.n))) := by kernel_rfl
theorem t92 (h : Hp) (S : Nat → aR → Option Value) : dY (fun l al => G.aG cK aZ gJ (gQ env aE1 aTA h) (gW env Tryz.f92.results.toList) (G.collect B92 A92 []) l S al) (T92 h S) := by
 unfold T92
 refine dY.cons 0 (fun iF q e0 => ?_) ?_
 ·obtain ⟨r0, vs1, rfl, e1⟩ := dX e0
  obtain ⟨r1, vs2, rfl, e2⟩ := bZ e1
  obtain ⟨r2, vs3, rfl, e3⟩ := dX e2
  obtain ⟨rfl, ee⟩ := dG e3
  exact (a9P h S r0 r1 r2).symm.trans ee
 refine dY.cons 1 (fun iF q e0 => ?_) ?_
 ·obtain ⟨r1, vs1, rfl, e1⟩ := bZ e0
  obtain ⟨r2, vs2, rfl, e2⟩ := dX e1
  obtain ⟨r7, vs3, rfl, e3⟩ := bZ e2
  obtain ⟨rfl, ee⟩ := dG e3
  exact (a9O h S r1 r2 r7).symm.trans ee
 refine dY.cons 2 (fun iF q e0 => ?_) ?_
 ·
  obtain ⟨rfl, ee⟩ := dG e0
  exact (a9N h S).symm.trans ee
 exact dY.nil
theorem r92 : dS Tryz.prog 92 F92 := eD (C := C0) ok0 (pf := aE1) aPH (fn := Tryz.f92) (body := B92) (kinds := [Kd.v, Kd.i .i64, Kd.v]) (A := A92) (T := T92) (by kernel_rfl) (by kernel_rfl) (by kernel_rfl) (by kernel_rfl) (fun h S => t92 h S)
noncomputable def aE2 : PF := M5 92 F92 aE1
theorem aPI : gF Tryz.prog aE2 := jX r92 aPH
noncomputable def aWO := pI 92 F92 aWM
noncomputable def C37 : cB := cfg aWO
theorem bJE : C37.Ok := gZ (C := C36) bJD r92
noncomputable def B53 : Code := (Tryz.f53.body).getD .skip
noncomputable def A53 : G.aC (List KI) := (G.aC.node (some (0, [KI.reg 0 (Kd.v), KI.reg 1 (Kd.v)])) G.aC.nil (G.aC.node none (G.aC.node none G.aC.nil (G.aC.node none (G.aC.node (some (1, [KI.reg 1 (Kd.v), KI.loc 2 2, KI.reg 5 (Kd.i .i64), KI.cells 2 [Kd.i .i64, Kd.v, Kd.v]])) (G.aC.node none (G.aC.node none G.aC.nil (G.aC.node none G.aC.nil G.aC.nil)) (G.aC.node none (G.aC.node none (G.aC.node none G.aC.nil (G.aC.node none (G.aC.node none G.aC.nil G.aC.nil) G.aC.nil)) G.aC.nil) G.aC.nil)) G.aC.nil) G.aC.nil)) (G.aC.node (some (2, [])) G.aC.nil G.aC.nil)))
noncomputable def aWP (h : Hp) (S : Nat → aR → Option Value) : Option Value :=
 some (Value.bool true)
noncomputable def VB (h : Hp) (S : Nat → aR → Option Value) (r1 : Value) (r5 : Int) (yS : Int) (yT : Value) (uA : Value) : Option Value :=
 gY uA fun i0 =>
 dF (nM r5 i0) fun b1 =>
 dI b1
 (jF 1 uA r5 fun v2 =>
 bC h v2 fun v3 =>
 bI .i64 v3 fun i4 =>
 dD (F92 [(Value.agg (Array.mk [(Value.int .i64 yS), yT, uA])), (Value.int .i64 i4), r1] h) fun v5 =>
 bW v5 fun b6 =>
 dK b6 fun b7 =>
 dI b7
 (some (Value.bool false))
 (wrap64 (Int.add r5 (Int.ofNat 1)) fun i8 =>
 S 1 (aR.v r1 (aR.i i8 (aR.i yS (aR.v yT (aR.v uA aR.n)))))))
 (S 2 aR.n)
noncomputable def aHV (h : Hp) (S : Nat → aR → Option Value) (r0 : Value) (r1 : Value) : Option Value :=
 tF (Array.toList (Value.cells r0)) fun c0 =>
 qF c0 fun a1 c1 =>
 bI .i64 a1 fun i2 =>
 qF c1 fun a3 c3 =>
 qF c3 fun a4 c4 =>
 aSK c4 (S 1 (aR.v r1 (aR.i (Int.ofNat 0) (aR.i i2 (aR.v a3 (aR.v a4 aR.n))))))
noncomputable def T53 (h : Hp) (S : Nat → aR → Option Value) : Nat → aR → Option Value := gM 0 (wV fun r0 => wV fun r1 => wN (aHV h S r0 r1)) (gM 1 (wV fun r1 => wI fun r5 => wI fun yS => wV fun yT => wV fun uA => wN (VB h S r1 r5 yS yT uA)) (gM 2 (wN (aWP h S)) (mG)))
noncomputable def VC (args : List Value) (h : Hp) : Option Value := plainO (fG [Kd.v, Kd.v] args fun al => G.aP (T53 h) 1000000 0 al)
def aTB : Nat := 2 + (22 - 2)
theorem a9S (h : Hp) (S : Nat → aR → Option Value) : aWP h S = G.aG cK aZ gJ (gQ env aE2 aTB h) (gW env Tryz.f53.results.toList) (G.collect B53 A53 []) 2 S aR.n := by kernel_rfl
theorem a9T (h : Hp) (S : Nat → aR → Option Value) (r1 : Value) (r5 : Int) (yS : Int) (yT : Value) (uA : Value) : VB h S r1 r5 yS yT uA = G.aG cK aZ gJ (gQ env aE2 aTB h) (gW env Tryz.f53.results.toList) (G.collect B53 A53 []) 1 S (aR.v r1 (aR.i r5 (aR.i yS (aR.v yT (aR.v uA aR.n))))) := by kernel_rfl
theorem a9U (h : Hp) (S : Nat → aR → Option Value) (r0 : Value) (r1 : Value) : aHV h S r0 r1 = G.aG cK aZ gJ (gQ env aE2 aTB h) (gW env Tryz.f53.results.toList) (G.collect B53 A53 []) 0 S (aR.v r0 (aR.v r1 aR.n)) := by kernel_rfl
theorem t53 (h : Hp) (S : Nat → aR → Option Value) : dY (fun l al => G.aG cK aZ gJ (gQ env aE2 aTB h) (gW env Tryz.f53.results.toList) (G.collect B53 A53 []) l S al) (T53 h S) := by
 unfold T53
 refine dY.cons 0 (fun iF q e0 => ?_) ?_
 ·obtain ⟨r0, vs1, rfl, e1⟩ := dX e0
  obtain ⟨r1, vs2, rfl, e2⟩ := dX e1
  obtain ⟨rfl, ee⟩ := dG e2
  exact (a9U h S r0 r1).symm.trans ee
 refine dY.cons 1 (fun iF q e0 => ?_) ?_
 ·obtain ⟨r1, vs1, rfl, e1⟩ := dX e0
  obtain ⟨r5, vs2, rfl, e2⟩ := bZ e1
  obtain ⟨yS, vs3, rfl, e3⟩ := bZ e2
  obtain ⟨yT, SA, rfl, e4⟩ := dX e3
  obtain ⟨uA, vs5, rfl, e5⟩ := dX e4
  obtain ⟨rfl, ee⟩ := dG e5
  exact (a9T h S r1 r5 yS yT uA).symm.trans ee
 refine dY.cons 2 (fun iF q e0 => ?_) ?_
 ·
  obtain ⟨rfl, ee⟩ := dG e0
  exact (a9S h S).symm.trans ee
 exact dY.nil
theorem r53 : dS Tryz.prog 53 VC := eD (C := C0) ok0 (pf := aE2) aPI (fn := Tryz.f53) (body := B53) (kinds := [Kd.v, Kd.v]) (A := A53) (T := T53) (by kernel_rfl) (by kernel_rfl) (by kernel_rfl) (by kernel_rfl) (fun h S => t53 h S)
noncomputable def aE3 : PF := M5 53 VC aE2
theorem aPJ : gF Tryz.prog aE3 := jX r53 aPI
noncomputable def QT := pI 53 VC aWO
noncomputable def C38 : cB := cfg QT
theorem bJF : C38.Ok := gZ (C := C37) bJE r53
noncomputable def B19 : Code := (Tryz.f19.body).getD .skip
def A19 : aC := (aC.node (some (0, [(0, Kd.v), (1, Kd.i .i64)])) aC.nil (aC.node none aC.nil (aC.node none (aC.node none aC.nil (aC.node none aC.nil aC.nil)) (aC.node (some (3, [(1, Kd.i .i64), (2, Kd.v), (8, Kd.i .i64)])) (aC.node none aC.nil (aC.node none (aC.node none aC.nil aC.nil) aC.nil)) (aC.node none aC.nil (aC.node none (aC.node none aC.nil (aC.node none (aC.node (some (1, [(1, Kd.i .i64), (2, Kd.v), (9, Kd.v), (10, Kd.i .i64)])) (aC.node none (aC.node none aC.nil (aC.node none aC.nil aC.nil)) (aC.node none (aC.node none (aC.node none aC.nil (aC.node none aC.nil aC.nil)) aC.nil) aC.nil)) aC.nil) aC.nil)) (aC.node (some (2, [(2, Kd.v), (9, Kd.v)])) aC.nil aC.nil)))))))
noncomputable def aHW (S : Sg) (r2 : Value) (r9 : Value) (h : Hp) : aT :=
 bQ 3 h r2 fun v0 =>
 aY (dD (VC [v0, r9] h) fun v => some (v, h)) fun v1 h1 =>
 bW v1 fun b2 =>
 some (Value.tuple (List.toArray [(Value.bool b2), (Value.int .i64 (Int.ofNat 0))]), h1)
noncomputable def VD (S : Sg) (r1 : Int) (r2 : Value) (r9 : Value) (kW : Int) (h : Hp) : aT :=
 aV 1 r2 fun v0 =>
 bC h v0 fun v1 =>
 gY v1 fun i2 =>
 dF (nM kW i2) fun b3 =>
 dI b3
 (aY (dD (F42 [(Value.int .i64 r1), (Value.int .i64 kW)] h) fun v => some (v, h)) fun v4 h4 =>
 bW v4 fun b5 =>
 dI b5
 (aY (bJ env h4 23 1 (List.toArray [(0, (Value.int .i64 kW))])) fun v6 h6 =>
 aY (nR env h6 #[23, 23] (List.toArray [r9, v6])) fun v7 h7 =>
 wrap64 (Int.add kW (Int.ofNat 1)) fun i8 =>
 S 1 (AL.i r1 (AL.v r2 (AL.v v7 (AL.i i8 AL.n)))) h7)
 (wrap64 (Int.add kW (Int.ofNat 1)) fun i9 =>
 S 1 (AL.i r1 (AL.v r2 (AL.v r9 (AL.i i9 AL.n)))) h4))
 (S 2 (AL.v r2 (AL.v r9 AL.n)) h)
noncomputable def VE (S : Sg) (r1 : Int) (r2 : Value) (r8 : Int) (h : Hp) : aT :=
 dK (tJ r8 (Int.ofNat 0)) fun b0 =>
 dI b0
 (some (Value.tuple (List.toArray [(Value.bool false), (Value.int .i64 r8)]), h))
 (S 1 (AL.i r1 (AL.v r2 (AL.v (Value.slice none 0 0) (AL.i (Int.ofNat 0) AL.n)))) h)
noncomputable def aHX (S : Sg) (r0 : Value) (r1 : Int) (h : Hp) : aT :=
 dP h 25 (Array.toList (Value.cells r0)) fun a0 h0 =>
 bQ 3 h0 a0 fun v1 =>
 aY (dR F17 [v1] h0) fun v2 h2 =>
 kZ v2 0 fun v3 =>
 bI .i64 v3 fun i4 =>
 kZ v2 1 fun v5 =>
 bI .i64 v5 fun i6 =>
 kZ v2 2 fun v7 =>
 bI .i64 v7 fun i8 =>
 dF (tJ i8 (Int.ofNat 0)) fun b9 =>
 dI b9
 (aV 1 a0 fun v10 =>
 bC h2 v10 fun v11 =>
 gY v11 fun i12 =>
 aY (dD (F50 [(Value.int .i64 i12)] h2) fun v => some (v, h2)) fun v13 h13 =>
 bI .i64 v13 fun i14 =>
 wrap64 (Int.sub i14 (Int.ofNat 1)) fun i15 =>
 aY (dD (F60 [(Value.int .i64 r1), (Value.int .i64 (Int.ofNat 0)), (Value.int .i64 i15)] h13) fun v => some (v, h13)) fun v16 h16 =>
 bW v16 fun b17 =>
 dK b17 fun b18 =>
 dI b18
 (S 3 (AL.i r1 (AL.v a0 (AL.i (Int.ofNat 4) AL.n))) h16)
 (S 3 (AL.i r1 (AL.v a0 (AL.i i8 AL.n))) h16))
 (S 3 (AL.i r1 (AL.v a0 (AL.i i8 AL.n))) h2)
noncomputable def T19 (S : Sg) : Sg := eF 0 (uV fun r0 => uI fun r1 => uN fun h => aHX S r0 r1 h) (eF 3 (uI fun r1 => uV fun r2 => uI fun r8 => uN fun h => VE S r1 r2 r8 h) (eF 1 (uI fun r1 => uV fun r2 => uV fun r9 => uI fun kW => uN fun h => VD S r1 r2 r9 kW h) (eF 2 (uV fun r2 => uV fun r9 => uN fun h => aHW S r2 r9 h) (kU))))
noncomputable def F19 (args : List Value) (h : Hp) : aT := bV [Kd.v, Kd.i .i64] args fun al => aP T19 1000000 0 al h
def aPK : Nat := 2 + (49 - 2)
theorem a9W (S : Sg) (r2 : Value) (r9 : Value) (h : Hp) : aHW S r2 r9 h = aG (cO env QT (aPK)) (dA env Tryz.f19.results.toList) (collect B19 A19 []) 2 S (AL.v r2 (AL.v r9 AL.n)) h := by kernel_rfl
theorem a9X (S : Sg) (r1 : Int) (r2 : Value) (r9 : Value) (kW : Int) (h : Hp) : VD S r1 r2 r9 kW h = aG (cO env QT (aPK)) (dA env Tryz.f19.results.toList) (collect B19 A19 []) 1 S (AL.i r1 (AL.v r2 (AL.v r9 (AL.i kW AL.n)))) h := by kernel_rfl
theorem a9Y (S : Sg) (r1 : Int) (r2 : Value) (r8 : Int) (h : Hp) : VE S r1 r2 r8 h = aG (cO env QT (aPK)) (dA env Tryz.f19.results.toList) (collect B19 A19 []) 3 S (AL.i r1 (AL.v r2 (AL.i r8 AL.n))) h := by kernel_rfl
theorem a9Z (S : Sg) (r0 : Value) (r1 : Int) (h : Hp) : aHX S r0 r1 h = aG (cO env QT (aPK)) (dA env Tryz.f19.results.toList) (collect B19 A19 []) 0 S (AL.v r0 (AL.i r1 AL.n)) h := by kernel_rfl
theorem t19 (S : Sg) : eZ (fun l vs h => aG (cO env QT aPK) (dA env Tryz.f19.results.toList) (collect B19 A19 []) l S vs h) (T19 S) := by
 unfold T19
 refine eZ.cons 0 (fun iF h q e0 => ?_) ?_
 ·obtain ⟨r0, vs1, rfl, e1⟩ := aH e0
  obtain ⟨r1, vs2, rfl, e2⟩ := bH e1
  obtain ⟨rfl, ee⟩ := bB e2
  exact (a9Z S r0 r1 h).symm.trans ee
 refine eZ.cons 3 (fun iF h q e0 => ?_) ?_
 ·obtain ⟨r1, vs1, rfl, e1⟩ := bH e0
  obtain ⟨r2, vs2, rfl, e2⟩ := aH e1
  obtain ⟨r8, vs3, rfl, e3⟩ := bH e2
  obtain ⟨rfl, ee⟩ := bB e3
  exact (a9Y S r1 r2 r8 h).symm.trans ee
 refine eZ.cons 1 (fun iF h q e0 => ?_) ?_
 ·obtain ⟨r1, vs1, rfl, e1⟩ := bH e0
  obtain ⟨r2, vs2, rfl, e2⟩ := aH e1
  obtain ⟨r9, vs3, rfl, e3⟩ := aH e2
  obtain ⟨kW, SA, rfl, e4⟩ := bH e3
  obtain ⟨rfl, ee⟩ := bB e4
  exact (a9X S r1 r2 r9 kW h).symm.trans ee
 refine eZ.cons 2 (fun iF h q e0 => ?_) ?_
 ·obtain ⟨r2, vs1, rfl, e1⟩ := aH e0
  obtain ⟨r9, vs2, rfl, e2⟩ := aH e1
  obtain ⟨rfl, ee⟩ := bB e2
  exact (a9W S r2 r9 h).symm.trans ee
 exact eZ.nil
theorem X6 : ∀ args h v h', F19 args h = some (v, h') → gG (C38) (.call 19 args.toArray h) (.ret v h') := by
 intro args h v h' e
 exact bY (C := C38) (fn := Tryz.f19) (body := B19) (np := 2) (A := A19) (T := T19) (kinds := [Kd.v, Kd.i .i64]) (by kernel_rfl) (by kernel_rfl) (by kernel_rfl) (by kernel_rfl) (dZ eX) (by kernel_rfl) (fun S => t19 S) e
noncomputable def aWR := kM 19 F19 QT
noncomputable def C39 : cB := cfg aWR
theorem bJG : C39.Ok := eB (C := C38) bJF X6
noncomputable def aPL : Code := (Tryz.f138.body).getD .skip
noncomputable def aPM : G.aC (List KI) := (G.aC.node (some (0, [KI.reg 0 (Kd.v)])) G.aC.nil (G.aC.node none G.aC.nil (G.aC.node none (G.aC.node none G.aC.nil (G.aC.node none (G.aC.node (some (1, [KI.reg 3 (Kd.i .i64), KI.reg 6 (Kd.v), KI.reg 7 (Kd.i .i64), KI.reg 8 (Kd.i .i64)])) (G.aC.node none G.aC.nil (G.aC.node none (G.aC.node none G.aC.nil G.aC.nil) (G.aC.node none (G.aC.node none (G.aC.node none G.aC.nil G.aC.nil) G.aC.nil) G.aC.nil))) G.aC.nil) G.aC.nil)) (G.aC.node (some (2, [KI.reg 3 (Kd.i .i64)])) G.aC.nil G.aC.nil))))
noncomputable def aPN (h : Hp) (S : Nat → aR → Option Value) (r3 : Int) : Option Value :=
 some (Value.int .i64 r3)
noncomputable def KC (h : Hp) (S : Nat → aR → Option Value) (r3 : Int) (r6 : Value) (r7 : Int) (r8 : Int) : Option Value :=
 dF (nM r8 r7) fun b0 =>
 dI b0
 (jF 1 r6 r8 fun v1 =>
 bC h v1 fun v2 =>
 bI .i64 v2 fun i3 =>
 nN .i64 (RQ (lH env .shl 3 (Value.int .i64 (Int.ofNat 1)) (Value.int .i64 i3)) (Value.int .i64 (Int.ofNat 1)) (Value.int .i64 i3)) fun i4 =>
 nN .i64 (orI (lH env .or 3 (Value.int .i64 r3) (Value.int .i64 i4)) (Value.int .i64 r3) (Value.int .i64 i4)) fun i5 =>
 wrap64 (Int.add r8 (Int.ofNat 1)) fun i6 =>
 S 1 (aR.i i5 (aR.v r6 (aR.i r7 (aR.i i6 aR.n)))))
 (S 2 (aR.i r3 aR.n))
noncomputable def YB (h : Hp) (S : Nat → aR → Option Value) (r0 : Value) : Option Value :=
 gY r0 fun i0 =>
 S 1 (aR.i (Int.ofNat 0) (aR.v r0 (aR.i i0 (aR.i (Int.ofNat 0) aR.n))))
noncomputable def SE (h : Hp) (S : Nat → aR → Option Value) : Nat → aR → Option Value := gM 0 (wV fun r0 => wN (YB h S r0)) (gM 1 (wI fun r3 => wV fun r6 => wI fun r7 => wI fun r8 => wN (KC h S r3 r6 r7 r8)) (gM 2 (wI fun r3 => wN (aPN h S r3)) (mG)))
noncomputable def vR (args : List Value) (h : Hp) : Option Value := plainO (fG [Kd.v] args fun al => G.aP (SE h) 1000000 0 al)
def aHY : Nat := 1 + (18 - 1)
theorem aZW (h : Hp) (S : Nat → aR → Option Value) (r3 : Int) : aPN h S r3 = G.aG cK aZ gJ (gQ env aE3 aHY h) (gW env Tryz.f138.results.toList) (G.collect aPL aPM []) 2 S (aR.i r3 aR.n) := by kernel_rfl
theorem aZX (h : Hp) (S : Nat → aR → Option Value) (r3 : Int) (r6 : Value) (r7 : Int) (r8 : Int) : KC h S r3 r6 r7 r8 = G.aG cK aZ gJ (gQ env aE3 aHY h) (gW env Tryz.f138.results.toList) (G.collect aPL aPM []) 1 S (aR.i r3 (aR.v r6 (aR.i r7 (aR.i r8 aR.n)))) := by kernel_rfl
theorem aZY (h : Hp) (S : Nat → aR → Option Value) (r0 : Value) : YB h S r0 = G.aG cK aZ gJ (gQ env aE3 aHY h) (gW env Tryz.f138.results.toList) (G.collect aPL aPM []) 0 S (aR.v r0 aR.n) := by kernel_rfl
theorem t138 (h : Hp) (S : Nat → aR → Option Value) : dY (fun l al => G.aG cK aZ gJ (gQ env aE3 aHY h) (gW env Tryz.f138.results.toList) (G.collect aPL aPM []) l S al) (SE h S) := by
 unfold SE
 refine dY.cons 0 (fun iF q e0 => ?_) ?_
 ·obtain ⟨r0, vs1, rfl, e1⟩ := dX e0
  obtain ⟨rfl, ee⟩ := dG e1
  exact (aZY h S r0).symm.trans ee
 refine dY.cons 1 (fun iF q e0 => ?_) ?_
 ·obtain ⟨r3, vs1, rfl, e1⟩ := bZ e0
  obtain ⟨r6, vs2, rfl, e2⟩ := dX e1
  obtain ⟨r7, vs3, rfl, e3⟩ := bZ e2
  obtain ⟨r8, SA, rfl, e4⟩ := bZ e3
  obtain ⟨rfl, ee⟩ := dG e4
  exact (aZX h S r3 r6 r7 r8).symm.trans ee
 refine dY.cons 2 (fun iF q e0 => ?_) ?_
 ·obtain ⟨r3, vs1, rfl, e1⟩ := bZ e0
  obtain ⟨rfl, ee⟩ := dG e1
  exact (aZW h S r3).symm.trans ee
 exact dY.nil
theorem a90 : dS Tryz.prog 138 vR := eD (C := C0) ok0 (pf := aE3) aPJ (fn := Tryz.f138) (body := aPL) (kinds := [Kd.v]) (A := aPM) (T := SE) (by kernel_rfl) (by kernel_rfl) (by kernel_rfl) (by kernel_rfl) (fun h S => t138 h S)
noncomputable def aE4 : PF := M5 138 vR aE3
theorem aPO : gF Tryz.prog aE4 := jX a90 aPJ
noncomputable def aHZ := pI 138 vR aWR
noncomputable def C40 : cB := cfg aHZ
theorem bJH : C40.Ok := gZ (C := C39) bJG a90
noncomputable def aZZ : Code := (Tryz.f161.body).getD .skip
def aZ0 : aC := (aC.node (some (0, [(0, Kd.v), (1, Kd.i .i64), (2, Kd.i .i64)])) aC.nil (aC.node none aC.nil aC.nil))
noncomputable def YC (S : Sg) (r0 : Value) (r1 : Int) (r2 : Int) (h : Hp) : aT :=
 dP h 88 (Array.toList (Value.cells r0)) fun a0 h0 =>
 dF (tJ r2 (Int.ofNat 0)) fun b1 =>
 dI b1
 (bQ 3 (Hp.mk (Hp.next h0) (Hp.next h0) (Hp.aJ h0)) a0 fun v2 =>
 aY (bJ env (Hp.mk (Hp.next h0) (Hp.next h0) T.nil) 23 1 (List.toArray [(0, (Value.int .i64 r1))])) fun v3 h3 =>
 eG v3 (Hp.next h0) h3 fun w4 n4 =>
 aY (dD (vR [v3] (Hp.mk n4 n4 (aF w4 (Hp.aJ h0)))) fun v => some (v, (Hp.mk n4 n4 (aF w4 (Hp.aJ h0))))) fun v5 h5 =>
 bI .i64 v5 fun i6 =>
 aY (dR F65 [v2, (Value.int .i64 i6)] (Hp.mk n4 (Hp.ro h0) (aF w4 (Hp.aJ h0)))) fun v7 h7 =>
 bW v7 fun b8 =>
 some ((Value.bool b8), h7))
 (eG undef (Hp.next h0) (Hp.mk (Hp.next h0) (Hp.next h0) T.nil) fun w9 n9 =>
 eG undef n9 (Hp.mk n9 n9 (aF w9 (Hp.aJ h0))) fun w10 n10 =>
 some ((Value.bool false), (Hp.mk n10 (Hp.ro h0) (aF w10 (aF w9 (Hp.aJ h0))))))
noncomputable def aPP (S : Sg) : Sg := eF 0 (uV fun r0 => uI fun r1 => uI fun r2 => uN fun h => YC S r0 r1 r2 h) (kU)
noncomputable def aPQ (args : List Value) (h : Hp) : aT := bV [Kd.v, Kd.i .i64, Kd.i .i64] args fun al => aP aPP 1000000 0 al h
def aWS : Nat := 3 + (16 - 3)
theorem aZ1 (S : Sg) (r0 : Value) (r1 : Int) (r2 : Int) (h : Hp) : YC S r0 r1 r2 h = aG (cO env aHZ (aWS)) (dA env Tryz.f161.results.toList) (collect aZZ aZ0 []) 0 S (AL.v r0 (AL.i r1 (AL.i r2 AL.n))) h := by kernel_rfl
theorem t161 (S : Sg) : eZ (fun l vs h => aG (cO env aHZ aWS) (dA env Tryz.f161.results.toList) (collect aZZ aZ0 []) l S vs h) (aPP S) := by
 unfold aPP
 refine eZ.cons 0 (fun iF h q e0 => ?_) ?_
 ·obtain ⟨r0, vs1, rfl, e1⟩ := aH e0
  obtain ⟨r1, vs2, rfl, e2⟩ := bH e1
  obtain ⟨r2, vs3, rfl, e3⟩ := bH e2
  obtain ⟨rfl, ee⟩ := bB e3
  exact (aZ1 S r0 r1 r2 h).symm.trans ee
 exact eZ.nil
theorem bJI : ∀ args h v h', aPQ args h = some (v, h') → gG (C40) (.call 161 args.toArray h) (.ret v h') := by
 intro args h v h' e
 exact bY (C := C40) (fn := Tryz.f161) (body := aZZ) (np := 3) (A := aZ0) (T := aPP) (kinds := [Kd.v, Kd.i .i64, Kd.i .i64]) (by kernel_rfl) (by kernel_rfl) (by kernel_rfl) (by kernel_rfl) (dZ eX) (by kernel_rfl) (fun S => t161 S) e
noncomputable def aH0 := kM 161 aPQ aHZ
noncomputable def C41 : cB := cfg aH0
theorem bJJ : C41.Ok := eB (C := C40) bJH bJI
noncomputable def aZ2 : Code := (Tryz.f163.body).getD .skip
def aZ3 : aC := (aC.node (some (0, [(0, Kd.v), (1, Kd.i .i64), (2, Kd.i .i64)])) aC.nil (aC.node none aC.nil aC.nil))
noncomputable def YD (S : Sg) (r0 : Value) (r1 : Int) (r2 : Int) (h : Hp) : aT :=
 dP h 88 (Array.toList (Value.cells r0)) fun a0 h0 =>
 dF (nM r1 r2) fun b1 =>
 dI b1
 (aV 0 a0 fun v2 =>
 aV 1 v2 fun v3 =>
 bC (Hp.mk (Hp.next h0) (Hp.next h0) (Hp.aJ h0)) v3 fun v4 =>
 jF 4 v4 r1 fun v5 =>
 aV 2 v5 fun v6 =>
 bC (Hp.mk (Hp.next h0) (Hp.next h0) (Hp.aJ h0)) v6 fun v7 =>
 bI .i64 v7 fun i8 =>
 aV 0 a0 fun v9 =>
 aV 1 v9 fun v10 =>
 bC (Hp.mk (Hp.next h0) (Hp.next h0) (Hp.aJ h0)) v10 fun v11 =>
 jF 4 v11 r2 fun v12 =>
 aV 2 v12 fun v13 =>
 bC (Hp.mk (Hp.next h0) (Hp.next h0) (Hp.aJ h0)) v13 fun v14 =>
 bI .i64 v14 fun i15 =>
 dF (tJ i8 i15) fun b16 =>
 dI b16
 (bQ 3 (Hp.mk (Hp.next h0) (Hp.next h0) (Hp.aJ h0)) a0 fun v17 =>
 aY (bJ env (Hp.mk (Hp.next h0) (Hp.next h0) T.nil) 23 1 (List.toArray [(0, (Value.int .i64 r1))])) fun v18 h18 =>
 eG v18 (Hp.next h0) h18 fun w19 n19 =>
 aY (dD (vR [v18] (Hp.mk n19 n19 (aF w19 (Hp.aJ h0)))) fun v => some (v, (Hp.mk n19 n19 (aF w19 (Hp.aJ h0))))) fun v20 h20 =>
 bI .i64 v20 fun i21 =>
 aY (dR F65 [v17, (Value.int .i64 i21)] (Hp.mk n19 n19 (aF w19 (Hp.aJ h0)))) fun v22 h22 =>
 bW v22 fun b23 =>
 dK b23 fun b24 =>
 dI b24
 (bQ 3 (Hp.mk n19 n19 (aF w19 (Hp.aJ h0))) a0 fun v25 =>
 aY (bJ env (Hp.mk n19 n19 T.nil) 23 1 (List.toArray [(0, (Value.int .i64 r2))])) fun v26 h26 =>
 eG v26 n19 h26 fun w27 n27 =>
 aY (dD (vR [v26] (Hp.mk n27 n27 (aF w27 (aF w19 (Hp.aJ h0))))) fun v => some (v, (Hp.mk n27 n27 (aF w27 (aF w19 (Hp.aJ h0)))))) fun v28 h28 =>
 bI .i64 v28 fun i29 =>
 aY (dR F65 [v25, (Value.int .i64 i29)] (Hp.mk n27 n27 (aF w27 (aF w19 (Hp.aJ h0))))) fun v30 h30 =>
 bW v30 fun b31 =>
 dK b31 fun b32 =>
 dI b32
 (bQ 3 (Hp.mk n27 n27 (aF w27 (aF w19 (Hp.aJ h0)))) a0 fun v33 =>
 aY (bJ env (Hp.mk n27 n27 T.nil) 23 2 (List.toArray [(0, (Value.int .i64 r1)), (1, (Value.int .i64 r2))])) fun v34 h34 =>
 eG v34 n27 h34 fun w35 n35 =>
 aY (dD (vR [v34] (Hp.mk n35 n35 (aF w35 (aF w27 (aF w19 (Hp.aJ h0)))))) fun v => some (v, (Hp.mk n35 n35 (aF w35 (aF w27 (aF w19 (Hp.aJ h0))))))) fun v36 h36 =>
 bI .i64 v36 fun i37 =>
 aY (dR F65 [v33, (Value.int .i64 i37)] (Hp.mk n35 (Hp.ro h0) (aF w35 (aF w27 (aF w19 (Hp.aJ h0)))))) fun v38 h38 =>
 bW v38 fun b39 =>
 some ((Value.bool b39), h38))
 (eG undef n27 (Hp.mk n27 n27 T.nil) fun w40 n40 =>
 eG undef n40 (Hp.mk n40 n40 (aF w40 (aF w27 (aF w19 (Hp.aJ h0))))) fun w41 n41 =>
 some ((Value.bool false), (Hp.mk n41 (Hp.ro h0) (aF w41 (aF w40 (aF w27 (aF w19 (Hp.aJ h0)))))))))
 (eG undef n19 (Hp.mk n19 n19 T.nil) fun w42 n42 =>
 eG undef n42 (Hp.mk n42 n42 (aF w42 (aF w19 (Hp.aJ h0)))) fun w43 n43 =>
 eG undef n43 (Hp.mk n43 n43 (aF w43 (aF w42 (aF w19 (Hp.aJ h0))))) fun w44 n44 =>
 eG undef n44 (Hp.mk n44 n44 T.nil) fun w45 n45 =>
 eG undef n45 (Hp.mk n45 n45 (aF w45 (aF w44 (aF w43 (aF w42 (aF w19 (Hp.aJ h0))))))) fun w46 n46 =>
 some ((Value.bool false), (Hp.mk n46 (Hp.ro h0) (aF w46 (aF w45 (aF w44 (aF w43 (aF w42 (aF w19 (Hp.aJ h0)))))))))))
 (eG undef (Hp.next h0) (Hp.mk (Hp.next h0) (Hp.next h0) T.nil) fun w47 n47 =>
 eG undef n47 (Hp.mk n47 n47 (aF w47 (Hp.aJ h0))) fun w48 n48 =>
 eG undef n48 (Hp.mk n48 n48 (aF w48 (aF w47 (Hp.aJ h0)))) fun w49 n49 =>
 eG undef n49 (Hp.mk n49 n49 T.nil) fun w50 n50 =>
 eG undef n50 (Hp.mk n50 n50 (aF w50 (aF w49 (aF w48 (aF w47 (Hp.aJ h0)))))) fun w51 n51 =>
 eG undef n51 (Hp.mk n51 n51 (aF w51 (aF w50 (aF w49 (aF w48 (aF w47 (Hp.aJ h0))))))) fun w52 n52 =>
 eG undef n52 (Hp.mk n52 n52 T.nil) fun w53 n53 =>
 eG undef n53 (Hp.mk n53 n53 (aF w53 (aF w52 (aF w51 (aF w50 (aF w49 (aF w48 (aF w47 (Hp.aJ h0))))))))) fun w54 n54 =>
 some ((Value.bool false), (Hp.mk n54 (Hp.ro h0) (aF w54 (aF w53 (aF w52 (aF w51 (aF w50 (aF w49 (aF w48 (aF w47 (Hp.aJ h0)))))))))))))
 (eG undef (Hp.next h0) (Hp.mk (Hp.next h0) (Hp.next h0) T.nil) fun w55 n55 =>
 eG undef n55 (Hp.mk n55 n55 (aF w55 (Hp.aJ h0))) fun w56 n56 =>
 eG undef n56 (Hp.mk n56 n56 (aF w56 (aF w55 (Hp.aJ h0)))) fun w57 n57 =>
 eG undef n57 (Hp.mk n57 n57 T.nil) fun w58 n58 =>
 eG undef n58 (Hp.mk n58 n58 (aF w58 (aF w57 (aF w56 (aF w55 (Hp.aJ h0)))))) fun w59 n59 =>
 eG undef n59 (Hp.mk n59 n59 (aF w59 (aF w58 (aF w57 (aF w56 (aF w55 (Hp.aJ h0))))))) fun w60 n60 =>
 eG undef n60 (Hp.mk n60 n60 T.nil) fun w61 n61 =>
 eG undef n61 (Hp.mk n61 n61 (aF w61 (aF w60 (aF w59 (aF w58 (aF w57 (aF w56 (aF w55 (Hp.aJ h0))))))))) fun w62 n62 =>
 some ((Value.bool false), (Hp.mk n62 (Hp.ro h0) (aF w62 (aF w61 (aF w60 (aF w59 (aF w58 (aF w57 (aF w56 (aF w55 (Hp.aJ h0))))))))))))
noncomputable def aPR (S : Sg) : Sg := eF 0 (uV fun r0 => uI fun r1 => uI fun r2 => uN fun h => YD S r0 r1 r2 h) (kU)
noncomputable def aPS (args : List Value) (h : Hp) : aT := bV [Kd.v, Kd.i .i64, Kd.i .i64] args fun al => aP aPR 1000000 0 al h
def aWT : Nat := 3 + (51 - 3)
theorem aZ5 (S : Sg) (r0 : Value) (r1 : Int) (r2 : Int) (h : Hp) : YD S r0 r1 r2 h = aG (cO env aH0 (aWT)) (dA env Tryz.f163.results.toList) (collect aZ2 aZ3 []) 0 S (AL.v r0 (AL.i r1 (AL.i r2 AL.n))) h := by kernel_rfl
theorem t163 (S : Sg) : eZ (fun l vs h => aG (cO env aH0 aWT) (dA env Tryz.f163.results.toList) (collect aZ2 aZ3 []) l S vs h) (aPR S) := by
 unfold aPR
 refine eZ.cons 0 (fun iF h q e0 => ?_) ?_
 ·obtain ⟨r0, vs1, rfl, e1⟩ := aH e0
  obtain ⟨r1, vs2, rfl, e2⟩ := bH e1
  obtain ⟨r2, vs3, rfl, e3⟩ := bH e2
  obtain ⟨rfl, ee⟩ := bB e3
  exact (aZ5 S r0 r1 r2 h).symm.trans ee
 exact eZ.nil
theorem bJM : ∀ args h v h', aPS args h = some (v, h') → gG (C41) (.call 163 args.toArray h) (.ret v h') := by
 intro args h v h' e
 exact bY (C := C41) (fn := Tryz.f163) (body := aZ2) (np := 3) (A := aZ3) (T := aPR) (kinds := [Kd.v, Kd.i .i64, Kd.i .i64]) (by kernel_rfl) (by kernel_rfl) (by kernel_rfl) (by kernel_rfl) (dZ eX) (by kernel_rfl) (fun S => t163 S) e
noncomputable def aH1 := kM 163 aPS aH0
noncomputable def C42 : cB := cfg aH1
theorem bJN : C42.Ok := eB (C := C41) bJJ bJM
noncomputable def B86 : Code := (Tryz.f86.body).getD .skip
def A86 : aC := (aC.node (some (0, [(0, Kd.v), (1, Kd.i .i64)])) aC.nil (aC.node none aC.nil aC.nil))
noncomputable def aH2 (S : Sg) (r0 : Value) (r1 : Int) (h : Hp) : aT :=
 dP h 88 (Array.toList (Value.cells r0)) fun a0 h0 =>
 dP h0 3 [(Value.int .i64 r1)] fun a1 h1 =>
 aV 0 a0 fun v2 =>
 aV 2 v2 fun v3 =>
 bC h1 v3 fun v4 =>
 aY (dR aKX [v4, (Value.func (.func 136) (List.toArray []) (List.toArray [a1]))] h1) fun v5 h5 =>
 bW v5 fun b6 =>
 some ((Value.bool b6), h5)
noncomputable def T86 (S : Sg) : Sg := eF 0 (uV fun r0 => uI fun r1 => uN fun h => aH2 S r0 r1 h) (kU)
noncomputable def F86 (args : List Value) (h : Hp) : aT := bV [Kd.v, Kd.i .i64] args fun al => aP T86 1000000 0 al h
def a99 : Nat := 2 + (10 - 2)
theorem bAA (S : Sg) (r0 : Value) (r1 : Int) (h : Hp) : aH2 S r0 r1 h = aG (cO env aH1 (a99)) (dA env Tryz.f86.results.toList) (collect B86 A86 []) 0 S (AL.v r0 (AL.i r1 AL.n)) h := by kernel_rfl
theorem t86 (S : Sg) : eZ (fun l vs h => aG (cO env aH1 a99) (dA env Tryz.f86.results.toList) (collect B86 A86 []) l S vs h) (T86 S) := by
 unfold T86
 refine eZ.cons 0 (fun iF h q e0 => ?_) ?_
 ·obtain ⟨r0, vs1, rfl, e1⟩ := aH e0
  obtain ⟨r1, vs2, rfl, e2⟩ := bH e1
  obtain ⟨rfl, ee⟩ := bB e2
  exact (bAA S r0 r1 h).symm.trans ee
 exact eZ.nil
theorem r86 : ∀ args h v h', F86 args h = some (v, h') → gG (C42) (.call 86 args.toArray h) (.ret v h') := by
 intro args h v h' e
 exact bY (C := C42) (fn := Tryz.f86) (body := B86) (np := 2) (A := A86) (T := T86) (kinds := [Kd.v, Kd.i .i64]) (by kernel_rfl) (by kernel_rfl) (by kernel_rfl) (by kernel_rfl) (dZ eX) (by kernel_rfl) (fun S => t86 S) e
noncomputable def aH3 := kM 86 F86 aH1
noncomputable def C43 : cB := cfg aH3
theorem bJQ : C43.Ok := eB (C := C42) bJN r86
noncomputable def aZ6 : Code := (Tryz.f165.body).getD .skip
def aZ7 : aC := (aC.node (some (0, [(0, Kd.v), (1, Kd.i .i64), (2, Kd.i .i64)])) aC.nil (aC.node none aC.nil aC.nil))
noncomputable def YE (S : Sg) (r0 : Value) (r1 : Int) (r2 : Int) (h : Hp) : aT :=
 dP h 88 (Array.toList (Value.cells r0)) fun a0 h0 =>
 dF (tJ r2 (Int.ofNat 0)) fun b1 =>
 dI b1
 (bQ 3 (Hp.mk (Hp.next h0) (Hp.next h0) (Hp.aJ h0)) a0 fun v2 =>
 aY (dR F86 [v2, (Value.int .i64 r1)] (Hp.mk (Hp.next h0) (Hp.next h0) (Hp.aJ h0))) fun v3 h3 =>
 bW v3 fun b4 =>
 dI b4
 (bQ 3 (Hp.mk (Hp.next h0) (Hp.next h0) (Hp.aJ h0)) a0 fun v5 =>
 aY (bJ env (Hp.mk (Hp.next h0) (Hp.next h0) T.nil) 23 1 (List.toArray [(0, (Value.int .i64 r1))])) fun v6 h6 =>
 eG v6 (Hp.next h0) h6 fun w7 n7 =>
 aY (dD (vR [v6] (Hp.mk n7 n7 (aF w7 (Hp.aJ h0)))) fun v => some (v, (Hp.mk n7 n7 (aF w7 (Hp.aJ h0))))) fun v8 h8 =>
 bI .i64 v8 fun i9 =>
 aY (dR F65 [v5, (Value.int .i64 i9)] (Hp.mk n7 (Hp.ro h0) (aF w7 (Hp.aJ h0)))) fun v10 h10 =>
 bW v10 fun b11 =>
 dK b11 fun b12 =>
 some ((Value.bool b12), h10))
 (eG undef (Hp.next h0) (Hp.mk (Hp.next h0) (Hp.next h0) T.nil) fun w13 n13 =>
 eG undef n13 (Hp.mk n13 n13 (aF w13 (Hp.aJ h0))) fun w14 n14 =>
 some ((Value.bool false), (Hp.mk n14 (Hp.ro h0) (aF w14 (aF w13 (Hp.aJ h0)))))))
 (eG undef (Hp.next h0) (Hp.mk (Hp.next h0) (Hp.next h0) (Hp.aJ h0)) fun w15 n15 =>
 eG undef n15 (Hp.mk n15 n15 T.nil) fun w16 n16 =>
 eG undef n16 (Hp.mk n16 n16 (aF w16 (aF w15 (Hp.aJ h0)))) fun w17 n17 =>
 some ((Value.bool false), (Hp.mk n17 (Hp.ro h0) (aF w17 (aF w16 (aF w15 (Hp.aJ h0)))))))
noncomputable def aPT (S : Sg) : Sg := eF 0 (uV fun r0 => uI fun r1 => uI fun r2 => uN fun h => YE S r0 r1 r2 h) (kU)
noncomputable def aPU (args : List Value) (h : Hp) : aT := bV [Kd.v, Kd.i .i64, Kd.i .i64] args fun al => aP aPT 1000000 0 al h
def aWU : Nat := 3 + (22 - 3)
theorem aZ8 (S : Sg) (r0 : Value) (r1 : Int) (r2 : Int) (h : Hp) : YE S r0 r1 r2 h = aG (cO env aH3 (aWU)) (dA env Tryz.f165.results.toList) (collect aZ6 aZ7 []) 0 S (AL.v r0 (AL.i r1 (AL.i r2 AL.n))) h := by kernel_rfl
theorem t165 (S : Sg) : eZ (fun l vs h => aG (cO env aH3 aWU) (dA env Tryz.f165.results.toList) (collect aZ6 aZ7 []) l S vs h) (aPT S) := by
 unfold aPT
 refine eZ.cons 0 (fun iF h q e0 => ?_) ?_
 ·obtain ⟨r0, vs1, rfl, e1⟩ := aH e0
  obtain ⟨r1, vs2, rfl, e2⟩ := bH e1
  obtain ⟨r2, vs3, rfl, e3⟩ := bH e2
  obtain ⟨rfl, ee⟩ := bB e3
  exact (aZ8 S r0 r1 r2 h).symm.trans ee
 exact eZ.nil
theorem bJR : ∀ args h v h', aPU args h = some (v, h') → gG (C43) (.call 165 args.toArray h) (.ret v h') := by
 intro args h v h' e
 exact bY (C := C43) (fn := Tryz.f165) (body := aZ6) (np := 3) (A := aZ7) (T := aPT) (kinds := [Kd.v, Kd.i .i64, Kd.i .i64]) (by kernel_rfl) (by kernel_rfl) (by kernel_rfl) (by kernel_rfl) (dZ eX) (by kernel_rfl) (fun S => t165 S) e
noncomputable def aH4 := kM 165 aPU aH3
noncomputable def C44 : cB := cfg aH4
theorem bJS : C44.Ok := eB (C := C43) bJQ bJR
noncomputable def aZ9 : Code := (Tryz.f147.body).getD .skip
def a0A : aC := (aC.node (some (0, [(0, Kd.v)])) aC.nil (aC.node none aC.nil aC.nil))
noncomputable def YG (S : Sg) (r0 : Value) (h : Hp) : aT :=
 dP h 88 (Array.toList (Value.cells r0)) fun a0 h0 =>
 dP h0 181 [Value.nilFunc, Value.nilFunc, Value.nilFunc, Value.nilFunc, Value.nilFunc, Value.nilFunc] fun a1 h1 =>
 bQ 3 h1 a0 fun v2 =>
 bQ 3 h1 a0 fun v3 =>
 dD (lN env 180 (List.toArray [(0, (Value.func (.func 161) (List.toArray [v2]) (List.toArray []))), (1, (Value.func (.func 162) (List.toArray [v3]) (List.toArray [])))])) fun v4 =>
 bQ 3 h1 a0 fun v5 =>
 bQ 3 h1 a0 fun v6 =>
 dD (lN env 180 (List.toArray [(0, (Value.func (.func 163) (List.toArray [v5]) (List.toArray []))), (1, (Value.func (.func 164) (List.toArray [v6]) (List.toArray [])))])) fun v7 =>
 bQ 3 h1 a0 fun v8 =>
 bQ 3 h1 a0 fun v9 =>
 dD (lN env 180 (List.toArray [(0, (Value.func (.func 165) (List.toArray [v8]) (List.toArray []))), (1, (Value.func (.func 166) (List.toArray [v9]) (List.toArray [])))])) fun v10 =>
 dD (lN env 181 (List.toArray [(0, v4), (1, v7), (2, v10)])) fun v11 =>
 iY 6 h1 a1 v11 fun h12 =>
 bQ 6 h12 a1 fun v13 => some (v13, h12)
noncomputable def aPV (S : Sg) : Sg := eF 0 (uV fun r0 => uN fun h => YG S r0 h) (kU)
noncomputable def aPW (args : List Value) (h : Hp) : aT := bV [Kd.v] args fun al => aP aPV 1000000 0 al h
def aWV : Nat := 1 + (19 - 1)
theorem a0B (S : Sg) (r0 : Value) (h : Hp) : YG S r0 h = aG (cO env aH4 (aWV)) (dA env Tryz.f147.results.toList) (collect aZ9 a0A []) 0 S (AL.v r0 AL.n) h := by kernel_rfl
theorem t147 (S : Sg) : eZ (fun l vs h => aG (cO env aH4 aWV) (dA env Tryz.f147.results.toList) (collect aZ9 a0A []) l S vs h) (aPV S) := by
 unfold aPV
 refine eZ.cons 0 (fun iF h q e0 => ?_) ?_
 ·obtain ⟨r0, vs1, rfl, e1⟩ := aH e0
  obtain ⟨rfl, ee⟩ := bB e1
  exact (a0B S r0 h).symm.trans ee
 exact eZ.nil
theorem bJT : ∀ args h v h', aPW args h = some (v, h') → gG (C44) (.call 147 args.toArray h) (.ret v h') := by
 intro args h v h' e
 exact bY (C := C44) (fn := Tryz.f147) (body := aZ9) (np := 1) (A := a0A) (T := aPV) (kinds := [Kd.v]) (by kernel_rfl) (by kernel_rfl) (by kernel_rfl) (by kernel_rfl) (dZ eX) (by kernel_rfl) (fun S => t147 S) e
noncomputable def aH5 := kM 147 aPW aH4
noncomputable def C45 : cB := cfg aH5
theorem bJU : C45.Ok := eB (C := C44) bJS bJT
noncomputable def a0C : Code := (Tryz.f109.body).getD .skip
def a0D : aC := (aC.node (some (0, [(0, Kd.v), (1, Kd.i .i64)])) aC.nil (aC.node none aC.nil aC.nil))
noncomputable def YH (S : Sg) (r0 : Value) (r1 : Int) (h : Hp) : aT :=
 dP h 88 (Array.toList (Value.cells r0)) fun a0 h0 =>
 dP h0 3 [(Value.int .i64 r1)] fun a1 h1 =>
 some ((Value.func (.func 146) (List.toArray []) (List.toArray [a0, a1])), h1)
noncomputable def aPX (S : Sg) : Sg := eF 0 (uV fun r0 => uI fun r1 => uN fun h => YH S r0 r1 h) (kU)
noncomputable def aK2 (args : List Value) (h : Hp) : aT := bV [Kd.v, Kd.i .i64] args fun al => aP aPX 1000000 0 al h
def aWW : Nat := 2 + (6 - 2)
theorem a0E (S : Sg) (r0 : Value) (r1 : Int) (h : Hp) : YH S r0 r1 h = aG (cO env aH5 (aWW)) (dA env Tryz.f109.results.toList) (collect a0C a0D []) 0 S (AL.v r0 (AL.i r1 AL.n)) h := by kernel_rfl
theorem t109 (S : Sg) : eZ (fun l vs h => aG (cO env aH5 aWW) (dA env Tryz.f109.results.toList) (collect a0C a0D []) l S vs h) (aPX S) := by
 unfold aPX
 refine eZ.cons 0 (fun iF h q e0 => ?_) ?_
 ·obtain ⟨r0, vs1, rfl, e1⟩ := aH e0
  obtain ⟨r1, vs2, rfl, e2⟩ := bH e1
  obtain ⟨rfl, ee⟩ := bB e2
  exact (a0E S r0 r1 h).symm.trans ee
 exact eZ.nil
theorem bJV : ∀ args h v h', aK2 args h = some (v, h') → gG (C45) (.call 109 args.toArray h) (.ret v h') := by
 intro args h v h' e
 exact bY (C := C45) (fn := Tryz.f109) (body := a0C) (np := 2) (A := a0D) (T := aPX) (kinds := [Kd.v, Kd.i .i64]) (by kernel_rfl) (by kernel_rfl) (by kernel_rfl) (by kernel_rfl) (dZ eX) (by kernel_rfl) (fun S => t109 S) e
noncomputable def aPY := kM 109 aK2 aH5
noncomputable def C46 : cB := cfg aPY
theorem bAB : C46.Ok := eB (C := C45) bJU bJV
noncomputable def qX := hide [146] aPY
noncomputable def RI : cB := a4J C46 [146]
theorem bJX : RI.Ok := aSV bAB _
noncomputable def aE5 : FY := fyN
theorem aH6 : RY RI aE5 := aYQ _
noncomputable def aBM : Code := (Tryz.f146.body).getD .skip
def aBN : aC := (aC.node (some (0, [(0, Kd.v), (1, Kd.v), (2, Kd.v)])) aC.nil (aC.node none (aC.node (some (1, [(0, Kd.v), (1, Kd.v), (2, Kd.v), (8, Kd.v), (9, Kd.i .i64)])) (aC.node none aC.nil (aC.node none (aC.node none aC.nil aC.nil) (aC.node none (aC.node none (aC.node none aC.nil (aC.node none aC.nil (aC.node none (aC.node (some (2, [(0, Kd.v), (1, Kd.v), (2, Kd.v), (4, Kd.i .i64), (5, Kd.v), (8, Kd.v), (9, Kd.i .i64), (16, Kd.i .i64), (17, Kd.i .i64)])) (aC.node none aC.nil (aC.node none (aC.node none aC.nil aC.nil) (aC.node none (aC.node none (aC.node none aC.nil (aC.node none aC.nil (aC.node none aC.nil aC.nil))) aC.nil) aC.nil))) aC.nil) aC.nil))) aC.nil) (aC.node (some (3, [(0, Kd.v), (1, Kd.v), (2, Kd.v), (8, Kd.v), (9, Kd.i .i64)])) aC.nil aC.nil)))) aC.nil) aC.nil))
def BU : Nat := 3 + (36 - 3)
noncomputable def VF (yf : YF) : RG := rgN
theorem bJY (yf : YF) (hY : UR RI yf) : FF RI BU (VF yf) (pQ aBM aBN) := by
 rw [show pQ aBM aBN = [] from by kernel_rfl]
 intro x hx
 exact absurd hx (by simp)
noncomputable def YI (yf : YF) (S : qW) (r0 : Value) (r1 : Value) (r2 : Value) (r8 : Value) (r9 : Int) (z : Z) (h : Hp) : aT :=
 wrap64 (Int.add r9 (Int.ofNat 1)) fun i0 =>
 S 1 (AL.v r0 (AL.v r1 (AL.v r2 (AL.v r8 (AL.i i0 AL.n))))) (Z.lose z) h
noncomputable def KD (yf : YF) (S : qW) (r0 : Value) (r1 : Value) (r2 : Value) (r4 : Int) (r5 : Value) (r8 : Value) (r9 : Int) (r16 : Int) (xH : Int) (z : Z) (h : Hp) : aT :=
 dF (nM xH r16) fun b0 =>
 dI b0
 (aV 0 r5 fun v1 =>
 bC h v1 fun v2 =>
 bC h r2 fun v3 =>
 bI .i64 v3 fun i4 =>
 aY (IJ qX yf v2 [(Value.int .i64 i4), (Value.int .i64 xH)] h) fun v5 h5 =>
 bW v5 fun b6 =>
 dI b6
 (bC h5 r2 fun v7 =>
 bI .i64 v7 fun i8 =>
 dD (lN env 57 (List.toArray [(0, (Value.int .i64 r4)), (1, (Value.int .i64 i8)), (2, (Value.int .i64 xH))])) fun v9 =>
 aY (IJ qX yf r0 [v9] h5) fun v10 h10 =>
 bW v10 fun b11 =>
 dK b11 fun b12 =>
 dI b12
 (dD (vD (Z.ds (Z.lose z)) h10) fun h13 =>
 some (Value.tuple (List.toArray []), h13))
 (wrap64 (Int.add xH (Int.ofNat 1)) fun i14 =>
 S 2 (AL.v r0 (AL.v r1 (AL.v r2 (AL.i r4 (AL.v r5 (AL.v r8 (AL.i r9 (AL.i r16 (AL.i i14 AL.n))))))))) (Z.lose z) h10))
 (wrap64 (Int.add xH (Int.ofNat 1)) fun i15 =>
 S 2 (AL.v r0 (AL.v r1 (AL.v r2 (AL.i r4 (AL.v r5 (AL.v r8 (AL.i r9 (AL.i r16 (AL.i i15 AL.n))))))))) (Z.lose z) h5))
 (S 3 (AL.v r0 (AL.v r1 (AL.v r2 (AL.v r8 (AL.i r9 AL.n))))) (Z.lose z) h)
noncomputable def KF (yf : YF) (S : qW) (r0 : Value) (r1 : Value) (r2 : Value) (r8 : Value) (r9 : Int) (z : Z) (h : Hp) : aT :=
 dF (nM r9 (Int.ofNat 3)) fun b0 =>
 dI b0
 (dD (mX env 181 r8 (Value.int .i64 r9)) fun v1 =>
 dP h 180 [Value.nilFunc, Value.nilFunc] fun a2 h2 =>
 iY 2 h2 a2 v1 fun h3 =>
 aV 0 r1 fun v4 =>
 aV 1 v4 fun v5 =>
 bC h3 v5 fun v6 =>
 gY v6 fun i7 =>
 S 2 (AL.v r0 (AL.v r1 (AL.v r2 (AL.i r9 (AL.v a2 (AL.v r8 (AL.i r9 (AL.i i7 (AL.i (Int.ofNat 0) AL.n))))))))) (Z.lose z) h3)
 (dD (vD (Z.ds (Z.lose z)) h) fun h8 =>
 some (Value.tuple (List.toArray []), h8))
noncomputable def YJ (yf : YF) (S : qW) (r0 : Value) (r1 : Value) (r2 : Value) (z : Z) (h : Hp) : aT :=
 bQ 3 h r1 fun v0 =>
 aY (dR aPW [v0] h) fun v1 h1 =>
 S 1 (AL.v r0 (AL.v r1 (AL.v r2 (AL.v v1 (AL.i (Int.ofNat 0) AL.n))))) (Z.lose z) h1
noncomputable def uH (yf : YF) (S : qW) : qW := Y.eF 0 (Y.uV fun r0 => Y.uV fun r1 => Y.uV fun r2 => Y.uN fun z h => YJ yf S r0 r1 r2 z h) (Y.eF 1 (Y.uV fun r0 => Y.uV fun r1 => Y.uV fun r2 => Y.uV fun r8 => Y.uI fun r9 => Y.uN fun z h => KF yf S r0 r1 r2 r8 r9 z h) (Y.eF 2 (Y.uV fun r0 => Y.uV fun r1 => Y.uV fun r2 => Y.uI fun r4 => Y.uV fun r5 => Y.uV fun r8 => Y.uI fun r9 => Y.uI fun r16 => Y.uI fun xH => Y.uN fun z h => KD yf S r0 r1 r2 r4 r5 r8 r9 r16 xH z h) (Y.eF 3 (Y.uV fun r0 => Y.uV fun r1 => Y.uV fun r2 => Y.uV fun r8 => Y.uI fun r9 => Y.uN fun z h => YI yf S r0 r1 r2 r8 r9 z h) (Y.kU))))
theorem a0F (yf : YF) (S : qW) (r0 : Value) (r1 : Value) (r2 : Value) (r8 : Value) (r9 : Int) (z : Z) (h : Hp) : YI yf S r0 r1 r2 r8 r9 z h = Y.aG (VF yf) aE5 yf none BU 0 (IL env qX BU yf) (vP env Tryz.f146.results.toList) (vP env Tryz.f146.results.toList) EC (Y.collect aBM aBN []) 3 S (AL.v r0 (AL.v r1 (AL.v r2 (AL.v r8 (AL.i r9 AL.n))))) z h := by kernel_rfl
theorem a0G (yf : YF) (S : qW) (r0 : Value) (r1 : Value) (r2 : Value) (r4 : Int) (r5 : Value) (r8 : Value) (r9 : Int) (r16 : Int) (xH : Int) (z : Z) (h : Hp) : KD yf S r0 r1 r2 r4 r5 r8 r9 r16 xH z h = Y.aG (VF yf) aE5 yf none BU 0 (IL env qX BU yf) (vP env Tryz.f146.results.toList) (vP env Tryz.f146.results.toList) EC (Y.collect aBM aBN []) 2 S (AL.v r0 (AL.v r1 (AL.v r2 (AL.i r4 (AL.v r5 (AL.v r8 (AL.i r9 (AL.i r16 (AL.i xH AL.n))))))))) z h := by kernel_rfl
theorem a0H (yf : YF) (S : qW) (r0 : Value) (r1 : Value) (r2 : Value) (r8 : Value) (r9 : Int) (z : Z) (h : Hp) : KF yf S r0 r1 r2 r8 r9 z h = Y.aG (VF yf) aE5 yf none BU 0 (IL env qX BU yf) (vP env Tryz.f146.results.toList) (vP env Tryz.f146.results.toList) EC (Y.collect aBM aBN []) 1 S (AL.v r0 (AL.v r1 (AL.v r2 (AL.v r8 (AL.i r9 AL.n))))) z h := by kernel_rfl
theorem a0I (yf : YF) (S : qW) (r0 : Value) (r1 : Value) (r2 : Value) (z : Z) (h : Hp) : YJ yf S r0 r1 r2 z h = Y.aG (VF yf) aE5 yf none BU 0 (IL env qX BU yf) (vP env Tryz.f146.results.toList) (vP env Tryz.f146.results.toList) EC (Y.collect aBM aBN []) 0 S (AL.v r0 (AL.v r1 (AL.v r2 AL.n))) z h := by kernel_rfl
theorem t146 (yf : YF) (S : qW) : Y.eZ (fun l vs z h => Y.aG (VF yf) aE5 yf none BU 0 (IL env qX BU yf) (vP env Tryz.f146.results.toList) (vP env Tryz.f146.results.toList) EC (Y.collect aBM aBN []) l S vs z h) (uH yf S) := by
 unfold uH
 refine Y.eZ.cons 0 (fun iF z h q e0 => ?_) ?_
 ·obtain ⟨r0, vs1, rfl, e1⟩ := Y.aH e0
  obtain ⟨r1, vs2, rfl, e2⟩ := Y.aH e1
  obtain ⟨r2, vs3, rfl, e3⟩ := Y.aH e2
  obtain ⟨rfl, ee⟩ := Y.bB e3
  exact (a0I yf S r0 r1 r2 z h).symm.trans ee
 refine Y.eZ.cons 1 (fun iF z h q e0 => ?_) ?_
 ·obtain ⟨r0, vs1, rfl, e1⟩ := Y.aH e0
  obtain ⟨r1, vs2, rfl, e2⟩ := Y.aH e1
  obtain ⟨r2, vs3, rfl, e3⟩ := Y.aH e2
  obtain ⟨r8, SA, rfl, e4⟩ := Y.aH e3
  obtain ⟨r9, vs5, rfl, e5⟩ := Y.bH e4
  obtain ⟨rfl, ee⟩ := Y.bB e5
  exact (a0H yf S r0 r1 r2 r8 r9 z h).symm.trans ee
 refine Y.eZ.cons 2 (fun iF z h q e0 => ?_) ?_
 ·obtain ⟨r0, vs1, rfl, e1⟩ := Y.aH e0
  obtain ⟨r1, vs2, rfl, e2⟩ := Y.aH e1
  obtain ⟨r2, vs3, rfl, e3⟩ := Y.aH e2
  obtain ⟨r4, SA, rfl, e4⟩ := Y.bH e3
  obtain ⟨r5, vs5, rfl, e5⟩ := Y.aH e4
  obtain ⟨r8, vs6, rfl, e6⟩ := Y.aH e5
  obtain ⟨r9, vs7, rfl, e7⟩ := Y.bH e6
  obtain ⟨r16, vs8, rfl, e8⟩ := Y.bH e7
  obtain ⟨xH, vs9, rfl, e9⟩ := Y.bH e8
  obtain ⟨rfl, ee⟩ := Y.bB e9
  exact (a0G yf S r0 r1 r2 r4 r5 r8 r9 r16 xH z h).symm.trans ee
 refine Y.eZ.cons 3 (fun iF z h q e0 => ?_) ?_
 ·obtain ⟨r0, vs1, rfl, e1⟩ := Y.aH e0
  obtain ⟨r1, vs2, rfl, e2⟩ := Y.aH e1
  obtain ⟨r2, vs3, rfl, e3⟩ := Y.aH e2
  obtain ⟨r8, SA, rfl, e4⟩ := Y.aH e3
  obtain ⟨r9, vs5, rfl, e5⟩ := Y.bH e4
  obtain ⟨rfl, ee⟩ := Y.bB e5
  exact (a0F yf S r0 r1 r2 r8 r9 z h).symm.trans ee
 exact Y.eZ.nil
noncomputable def VG (yf : YF) (args : List Value) (h : Hp) : aT := bV [Kd.v, Kd.v, Kd.v] args fun al => nO (uH yf) 1000000 0 al ⟨some (jQ args 0 bP.T.nil), []⟩ h
theorem bAC (yf : YF) (hY : UR RI yf) : ∀ args h v h', VG yf args h = some (v, h') → gG RI (.call 146 args.toArray h) (.ret v h') := by
 intro args h v h' e
 exact QN (C := RI) (fn := Tryz.f146) (body := aBM) (np := 3) (A := aBN) (T := uH yf) (kinds := [Kd.v, Kd.v, Kd.v]) (aBD (C := RI) eX hY) hY aH6 (by kernel_rfl) (by kernel_rfl) (by kernel_rfl) (by kernel_rfl) (bJY yf hY) (by kernel_rfl) (fun S => t146 yf S) e
noncomputable def vS : FY := fyC 146 VG aE5
theorem VI : RY RI vS := aYR (fun a h => by kernel_rfl) (by kernel_rfl) (fun yf hY => bAC yf hY) aH6
noncomputable def aE6 : Code := (Tryz.f103.body).getD .skip
def aE7 : aC := (aC.node (some (0, [(0, Kd.v), (1, Kd.v)])) aC.nil (aC.node none (aC.node none aC.nil (aC.node none (aC.node none aC.nil aC.nil) aC.nil)) (aC.node none (aC.node none aC.nil (aC.node none (aC.node none (aC.node (some (1, [(3, Kd.v), (4, Kd.v)])) aC.nil aC.nil) aC.nil) aC.nil)) (aC.node (some (2, [(4, Kd.v)])) aC.nil aC.nil))))
def pW : Nat := 2 + (23 - 2)
noncomputable def iO : FE := (pQ aE6 aE7).getD 0 ⟨0, [], #[], .skip, .skip⟩
noncomputable def DK : aC := (aC.node (some (0, [(19, Kd.v), (3, Kd.v), (4, Kd.v)])) aC.nil aC.nil)
noncomputable def rT : aC := (aC.node (some (1, [(3, Kd.v), (4, Kd.v), (5, Kd.v)])) (aC.node none aC.nil (aC.node none (aC.node none aC.nil aC.nil) aC.nil)) aC.nil)
noncomputable def NL (yf : YF) : RG := rgN
theorem a0J (yf : YF) (hY : UR RI yf) : FF RI pW (NL yf) (pQ (FE.a iO) DK ++ pQ (FE.b iO) rT) := by
 rw [show pQ (FE.a iO) DK ++ pQ (FE.b iO) rT = [] from by kernel_rfl]
 intro x hx
 exact absurd hx (by simp)
noncomputable def IM (yf : YF) (l0 : Nat) (S : qW) (r3 : Value) (r4 : Value) (r5 : Value) (z : Z) (h : Hp) : aT :=
 bQ 3 h r5 fun v0 =>
 bQ 3 h r3 fun v1 =>
 dD (nG env .eql 57 (Operand.tmp 20) (Operand.tmp 21) v0 v1) fun v2 =>
 bW v2 fun b3 =>
 dI b3
 (uX h r4 (Value.bool true) fun h4 =>
 some (Value.bool false, h4))
 (some (Value.bool true, h))
noncomputable def IP (yf : YF) (l0 : Nat) (S : qW) (X6 : Value) (r3 : Value) (r4 : Value) (z : Z) (h : Hp) : aT :=
 dP h 57 [(Value.int .i64 (Int.ofNat 0)), (Value.int .i64 (Int.ofNat 0)), (Value.int .i64 (Int.ofNat 0))] fun a0 h0 =>
 iY 3 h0 a0 X6 fun h1 =>
 II l0 h1 fun h2 =>
 S 1 (AL.v r3 (AL.v r4 (AL.v a0 AL.n))) (Z.lose z) h2
noncomputable def FI (yf : YF) (l0 : Nat) (S : qW) : qW := Y.eF 0 (Y.uV fun X6 => Y.uV fun r3 => Y.uV fun r4 => Y.uN fun z h => IP yf l0 S X6 r3 r4 z h) (Y.eF 1 (Y.uV fun r3 => Y.uV fun r4 => Y.uV fun r5 => Y.uN fun z h => IM yf l0 S r3 r4 r5 z h) (Y.kU))
theorem aPZ (yf : YF) (l0 : Nat) (S : qW) (r3 : Value) (r4 : Value) (r5 : Value) (z : Z) (h : Hp) : IM yf l0 S r3 r4 r5 z h = Y.aG (NL yf) vS yf (some l0) pW l0 (IL env qX pW yf) Y.aOA Y.aOB Y.aOC (Y.collect (FE.a iO) DK [Y.Frame.gate (FE.b iO) rT] ++ Y.collect (FE.b iO) rT []) 1 S (AL.v r3 (AL.v r4 (AL.v r5 AL.n))) z h := by kernel_rfl
theorem aP0 (yf : YF) (l0 : Nat) (S : qW) (X6 : Value) (r3 : Value) (r4 : Value) (z : Z) (h : Hp) : IP yf l0 S X6 r3 r4 z h = Y.aG (NL yf) vS yf (some l0) pW l0 (IL env qX pW yf) Y.aOA Y.aOB Y.aOC (Y.collect (FE.a iO) DK [Y.Frame.gate (FE.b iO) rT] ++ Y.collect (FE.b iO) rT []) 0 S (AL.v X6 (AL.v r3 (AL.v r4 AL.n))) z h := by kernel_rfl
theorem a0K (yf : YF) (l0 : Nat) (S : qW) : Y.eZ (fun l vs z h => Y.aG (NL yf) vS yf (some l0) pW l0 (IL env qX pW yf) Y.aOA Y.aOB Y.aOC (Y.collect (FE.a iO) DK [Y.Frame.gate (FE.b iO) rT] ++ Y.collect (FE.b iO) rT []) l S vs z h) (FI yf l0 S) := by
 unfold FI
 refine Y.eZ.cons 0 (fun iF z h q e0 => ?_) ?_
 ·obtain ⟨X6, vs1, rfl, e1⟩ := Y.aH e0
  obtain ⟨r3, vs2, rfl, e2⟩ := Y.aH e1
  obtain ⟨r4, vs3, rfl, e3⟩ := Y.aH e2
  obtain ⟨rfl, ee⟩ := Y.bB e3
  exact (aP0 yf l0 S X6 r3 r4 z h).symm.trans ee
 refine Y.eZ.cons 1 (fun iF z h q e0 => ?_) ?_
 ·obtain ⟨r3, vs1, rfl, e1⟩ := Y.aH e0
  obtain ⟨r4, vs2, rfl, e2⟩ := Y.aH e1
  obtain ⟨r5, vs3, rfl, e3⟩ := Y.aH e2
  obtain ⟨rfl, ee⟩ := Y.bB e3
  exact (aPZ yf l0 S r3 r4 r5 z h).symm.trans ee
 exact Y.eZ.nil
noncomputable def aH7 (yf : YF) (l : Nat) (al : AL) (z : Z) (args : List Value) (h : Hp) : aT := FH [(19, Kd.v)] args al ⟨z.tm, []⟩ fun al z => nO (FI yf l) 1000000 0 al z h
theorem aTD (yf : YF) (hY : UR RI yf) (ρ : RG) (hρ : ∀ l al z args h, ρ (FE.j iO) l al z args h = aH7 yf l al z args h) : UT RI pW ρ (FE.j iO) (FE.keep iO) (FE.ps iO) (FE.a iO) (FE.b iO) :=
 aBE (C := RI) (kinds := [Kd.v]) (Aa := DK) (Ab := rT) (T := FI yf) (fun _ => aBD (C := RI) eX hY) hY VI (by kernel_rfl) (of_decide_eq_true (by kernel_rfl)) (by kernel_rfl) (a0J yf hY) (by kernel_rfl) (fun gl S => a0K yf gl S) hρ
noncomputable def IQ (yf : YF) : RG := rgC 1 (aH7 yf) (rgN)
theorem bJZ (yf : YF) (hY : UR RI yf) : FF RI pW (IQ yf) (pQ aE6 aE7) := by
 rw [show pQ aE6 aE7 = [iO] from by kernel_rfl]
 intro x hx
 rcases List.mem_cons.1 hx with rfl | hx
 ·exact aTD yf hY _ (fun l al z args h => by kernel_rfl)
 exact absurd hx (by simp)
noncomputable def YK (yf : YF) (S : qW) (r4 : Value) (z : Z) (h : Hp) : aT :=
 uX h r4 (Value.bool false) fun h0 =>
 dD (vD (Z.ds z) h0) fun h1 =>
 bC h1 r4 fun v2 => some (v2, h1)
noncomputable def YM (yf : YF) (S : qW) (r0 : Value) (r1 : Value) (z : Z) (h : Hp) : aT :=
 dP h 88 (Array.toList (Value.cells r0)) fun a0 h0 =>
 dP h0 57 (Array.toList (Value.cells r1)) fun a1 h1 =>
 dP h1 4 [(Value.bool false)] fun a2 h2 =>
 aV 0 a0 fun v3 =>
 aV 1 v3 fun v4 =>
 bC h2 v4 fun v5 =>
 gY v5 fun i6 =>
 aV 1 a1 fun v7 =>
 bC h2 v7 fun v8 =>
 bI .i64 v8 fun i9 =>
 aY (bJ env h2 23 1 (List.toArray [(0, (Value.int .i64 i9))])) fun v10 h10 =>
 aY (dD (F64 [(Value.int .i64 i6), v10] h10) fun v => some (v, h10)) fun v11 h11 =>
 bW v11 fun b12 =>
 dK b12 fun b13 =>
 dI b13
 (uX h11 a2 (Value.bool false) fun h14 =>
 dD (vD (Z.ds (Z.put (Z.put (Z.put (Z.put (Z.put (Z.put (Z.put (Z.put (Z.put (Z.put (Z.put (Z.put z 2 a0) 3 a1) 4 a2) 6 v3) 7 v4) 8 v5) 9 (Value.int .i64 i6)) 10 v7) 11 (Value.int .i64 i9)) 12 v10) 13 (Value.bool b12)) 14 (Value.bool b13))) h14) fun SB =>
 bC SB a2 fun v16 => some (v16, SB))
 (bQ 3 h11 a0 fun v17 =>
 aV 1 a1 fun v18 =>
 bC h11 v18 fun v19 =>
 bI .i64 v19 fun i20 =>
 aY (dR aK2 [v17, (Value.int .i64 i20)] h11) fun v21 h21 =>
 dD (Z.tm (Z.put (Z.put (Z.put (Z.put (Z.put (Z.put (Z.put (Z.put (Z.put (Z.put (Z.put (Z.put (Z.put (Z.put (Z.put (Z.put z 2 a0) 3 a1) 4 a2) 6 v3) 7 v4) 8 v5) 9 (Value.int .i64 i6)) 10 v7) 11 (Value.int .i64 i9)) 12 v10) 13 (Value.bool b12)) 14 (Value.bool b13)) 15 v17) 16 v18) 17 (Value.int .i64 i20)) 18 v21)) fun a0L =>
 aKO vS yf none (fun d => LX.mk a0L pW (FE.ps iO) (FE.a iO) (FE.b iO) d) v21 h21 (fun l args h => IQ yf 1 l (AL.v a1 (AL.v a2 AL.n)) (Z.put (Z.put (Z.put (Z.put (Z.put (Z.put (Z.put (Z.put (Z.put (Z.put (Z.put (Z.put (Z.put (Z.put (Z.put (Z.put z 2 a0) 3 a1) 4 a2) 6 v3) 7 v4) 8 v5) 9 (Value.int .i64 i6)) 10 v7) 11 (Value.int .i64 i9)) 12 v10) 13 (Value.bool b12)) 14 (Value.bool b13)) 15 v17) 16 v18) 17 (Value.int .i64 i20)) 18 v21) args h) fun e22 aP1 h22 =>
 exK e22
 (S 2 (AL.v a2 AL.n) (Z.mark (Z.put (Z.put (Z.put (Z.put (Z.put (Z.put (Z.put (Z.put (Z.put (Z.put (Z.put (Z.put (Z.put (Z.put (Z.put (Z.put z 2 a0) 3 a1) 4 a2) 6 v3) 7 v4) 8 v5) 9 (Value.int .i64 i6)) 10 v7) 11 (Value.int .i64 i9)) 12 v10) 13 (Value.bool b12)) 14 (Value.bool b13)) 15 v17) 16 v18) 17 (Value.int .i64 i20)) 18 v21) aP1) h22)
 (dD (vD (Z.ds (Z.mark (Z.put (Z.put (Z.put (Z.put (Z.put (Z.put (Z.put (Z.put (Z.put (Z.put (Z.put (Z.put (Z.put (Z.put (Z.put (Z.put z 2 a0) 3 a1) 4 a2) 6 v3) 7 v4) 8 v5) 9 (Value.int .i64 i6)) 10 v7) 11 (Value.int .i64 i9)) 12 v10) 13 (Value.bool b12)) 14 (Value.bool b13)) 15 v17) 16 v18) 17 (Value.int .i64 i20)) 18 v21) aP1)) h22) fun h23 =>
 bC h23 a2 fun v24 => some (v24, h23))
 fun i22 => none)
noncomputable def aBO (yf : YF) (S : qW) : qW := Y.eF 0 (Y.uV fun r0 => Y.uV fun r1 => Y.uN fun z h => YM yf S r0 r1 z h) (Y.eF 2 (Y.uV fun r4 => Y.uN fun z h => YK yf S r4 z h) (Y.kU))
theorem a0M (yf : YF) (S : qW) (r4 : Value) (z : Z) (h : Hp) : YK yf S r4 z h = Y.aG (IQ yf) vS yf none pW 0 (aN3 env qX pW yf) (vP env Tryz.f103.results.toList) (vP env Tryz.f103.results.toList) EC (Y.collect aE6 aE7 []) 2 S (AL.v r4 AL.n) z h := by kernel_rfl
theorem a0N (yf : YF) (S : qW) (r0 : Value) (r1 : Value) (z : Z) (h : Hp) : YM yf S r0 r1 z h = Y.aG (IQ yf) vS yf none pW 0 (aN3 env qX pW yf) (vP env Tryz.f103.results.toList) (vP env Tryz.f103.results.toList) EC (Y.collect aE6 aE7 []) 0 S (AL.v r0 (AL.v r1 AL.n)) z h := by kernel_rfl
theorem t103 (yf : YF) (S : qW) : Y.eZ (fun l vs z h => Y.aG (IQ yf) vS yf none pW 0 (aN3 env qX pW yf) (vP env Tryz.f103.results.toList) (vP env Tryz.f103.results.toList) EC (Y.collect aE6 aE7 []) l S vs z h) (aBO yf S) := by
 unfold aBO
 refine Y.eZ.cons 0 (fun iF z h q e0 => ?_) ?_
 ·obtain ⟨r0, vs1, rfl, e1⟩ := Y.aH e0
  obtain ⟨r1, vs2, rfl, e2⟩ := Y.aH e1
  obtain ⟨rfl, ee⟩ := Y.bB e2
  exact (a0N yf S r0 r1 z h).symm.trans ee
 refine Y.eZ.cons 2 (fun iF z h q e0 => ?_) ?_
 ·obtain ⟨r4, vs1, rfl, e1⟩ := Y.aH e0
  obtain ⟨rfl, ee⟩ := Y.bB e1
  exact (a0M yf S r4 z h).symm.trans ee
 exact Y.eZ.nil
noncomputable def aWX (yf : YF) (args : List Value) (h : Hp) : aT := bV [Kd.v, Kd.v] args fun al => nO (aBO yf) 1000000 0 al ⟨some (jQ args 0 bP.T.nil), []⟩ h
theorem bAD (yf : YF) (hY : UR RI yf) : ∀ args h v h', aWX yf args h = some (v, h') → gG RI (.call 103 args.toArray h) (.ret v h') := by
 intro args h v h' e
 exact QN (C := RI) (fn := Tryz.f103) (body := aE6) (np := 2) (A := aE7) (T := aBO yf) (kinds := [Kd.v, Kd.v]) (aGO (C := RI) eX hY) hY VI (by kernel_rfl) (by kernel_rfl) (by kernel_rfl) (by kernel_rfl) (bJZ yf hY) (by kernel_rfl) (fun S => t103 yf S) e
noncomputable def aP2 (args : List Value) (h : Hp) : aT := aWX yN args h
theorem bJ0 : ∀ args h v h', aP2 args h = some (v, h') → gG RI (.call 103 args.toArray h) (.ret v h') := bAD yN (a4I _)
noncomputable def aH8 := kM 103 aP2 aPY
noncomputable def C47 : cB := cfg aH8
theorem bJ1 : C47.Ok := aOD (C := C46) bAB bJX rfl bJ0
noncomputable def a0O : Code := (Tryz.f111.body).getD .skip
def a0P : aC := (aC.node (some (0, [(0, Kd.v)])) aC.nil (aC.node none (aC.node none aC.nil (aC.node none (aC.node none aC.nil aC.nil) aC.nil)) (aC.node none aC.nil aC.nil)))
noncomputable def YN (S : Sg) (r0 : Value) (h : Hp) : aT :=
 dP h 57 (Array.toList (Value.cells r0)) fun a0 h0 =>
 aV 0 a0 fun v1 =>
 bC h0 v1 fun v2 =>
 bI .i64 v2 fun i3 =>
 dF (tJ i3 (Int.ofNat 1)) fun b4 =>
 dI b4
 (aV 1 a0 fun v5 =>
 bC h0 v5 fun v6 =>
 bI .i64 v6 fun i7 =>
 aV 2 a0 fun v8 =>
 bC h0 v8 fun v9 =>
 bI .i64 v9 fun i10 =>
 aY (bJ env h0 23 2 (List.toArray [(0, (Value.int .i64 i7)), (1, (Value.int .i64 i10))])) fun v11 h11 =>
 some (v11, h11))
 (aV 1 a0 fun v12 =>
 bC h0 v12 fun v13 =>
 bI .i64 v13 fun i14 =>
 aY (bJ env h0 23 1 (List.toArray [(0, (Value.int .i64 i14))])) fun v15 SB =>
 some (v15, SB))
noncomputable def aP3 (S : Sg) : Sg := eF 0 (uV fun r0 => uN fun h => YN S r0 h) (kU)
noncomputable def aE8 (args : List Value) (h : Hp) : aT := bV [Kd.v] args fun al => aP aP3 1000000 0 al h
def aWY : Nat := 1 + (14 - 1)
theorem a0Q (S : Sg) (r0 : Value) (h : Hp) : YN S r0 h = aG (cO env aH8 (aWY)) (dA env Tryz.f111.results.toList) (collect a0O a0P []) 0 S (AL.v r0 AL.n) h := by kernel_rfl
theorem t111 (S : Sg) : eZ (fun l vs h => aG (cO env aH8 aWY) (dA env Tryz.f111.results.toList) (collect a0O a0P []) l S vs h) (aP3 S) := by
 unfold aP3
 refine eZ.cons 0 (fun iF h q e0 => ?_) ?_
 ·obtain ⟨r0, vs1, rfl, e1⟩ := aH e0
  obtain ⟨rfl, ee⟩ := bB e1
  exact (a0Q S r0 h).symm.trans ee
 exact eZ.nil
theorem bJ2 : ∀ args h v h', aE8 args h = some (v, h') → gG (C47) (.call 111 args.toArray h) (.ret v h') := by
 intro args h v h' e
 exact bY (C := C47) (fn := Tryz.f111) (body := a0O) (np := 1) (A := a0P) (T := aP3) (kinds := [Kd.v]) (by kernel_rfl) (by kernel_rfl) (by kernel_rfl) (by kernel_rfl) (dZ eX) (by kernel_rfl) (fun S => t111 S) e
noncomputable def MC := kM 111 aE8 aH8
noncomputable def C48 : cB := cfg MC
theorem bJ3 : C48.Ok := eB (C := C47) bJ1 bJ2
noncomputable def aE9 : Code := (Tryz.f104.body).getD .skip
def aFA : aC := (aC.node (some (0, [(0, Kd.v)])) aC.nil (aC.node none aC.nil (aC.node none (aC.node none aC.nil (aC.node none (aC.node (some (1, [(2, Kd.v), (3, Kd.v), (8, Kd.v), (9, Kd.i .i64), (10, Kd.i .i64)])) (aC.node none aC.nil (aC.node none (aC.node none aC.nil aC.nil) (aC.node none (aC.node none (aC.node none aC.nil (aC.node none aC.nil (aC.node none (aC.node (some (2, [(2, Kd.v), (3, Kd.v), (8, Kd.v), (9, Kd.i .i64), (10, Kd.i .i64), (15, Kd.v), (16, Kd.i .i64), (17, Kd.i .i64)])) (aC.node none aC.nil (aC.node none (aC.node none aC.nil aC.nil) (aC.node none (aC.node none (aC.node none aC.nil aC.nil) aC.nil) aC.nil))) aC.nil) aC.nil))) aC.nil) (aC.node (some (3, [(2, Kd.v), (3, Kd.v), (8, Kd.v), (9, Kd.i .i64), (10, Kd.i .i64)])) aC.nil aC.nil)))) aC.nil) aC.nil)) (aC.node (some (4, [(2, Kd.v), (3, Kd.v)])) aC.nil aC.nil))))
noncomputable def YO (S : Sg) (r2 : Value) (r3 : Value) (h : Hp) : aT :=
 bQ 6 h r3 fun v0 =>
 iY 6 h r2 v0 fun h1 =>
 bQ 6 h1 r2 fun v2 => some (v2, h1)
noncomputable def YP (S : Sg) (r2 : Value) (r3 : Value) (r8 : Value) (r9 : Int) (kW : Int) (h : Hp) : aT :=
 wrap64 (Int.add kW (Int.ofNat 1)) fun i0 =>
 S 1 (AL.v r2 (AL.v r3 (AL.v r8 (AL.i r9 (AL.i i0 AL.n))))) h
noncomputable def KG (S : Sg) (r2 : Value) (r3 : Value) (r8 : Value) (r9 : Int) (kW : Int) (r15 : Value) (r16 : Int) (xH : Int) (h : Hp) : aT :=
 dF (nM xH r16) fun b0 =>
 dI b0
 (jF 1 r15 xH fun v1 =>
 bC h v1 fun v2 =>
 bI .i64 v2 fun i3 =>
 GU 6 1 r3 i3 fun v4 =>
 bC h v4 fun v5 =>
 bI .i64 v5 fun i6 =>
 wrap64 (Int.add i6 (Int.ofNat 1)) fun i7 =>
 GU 6 1 r3 i3 fun v8 =>
 uX h v8 (Value.int .i64 i7) fun h9 =>
 wrap64 (Int.add xH (Int.ofNat 1)) fun i10 =>
 S 2 (AL.v r2 (AL.v r3 (AL.v r8 (AL.i r9 (AL.i kW (AL.v r15 (AL.i r16 (AL.i i10 AL.n)))))))) h9)
 (S 3 (AL.v r2 (AL.v r3 (AL.v r8 (AL.i r9 (AL.i kW AL.n))))) h)
noncomputable def KH (S : Sg) (r2 : Value) (r3 : Value) (r8 : Value) (r9 : Int) (kW : Int) (h : Hp) : aT :=
 dF (nM kW r9) fun b0 =>
 dI b0
 (jF 3 r8 kW fun v1 =>
 bQ 3 h v1 fun v2 =>
 dP h 57 [(Value.int .i64 (Int.ofNat 0)), (Value.int .i64 (Int.ofNat 0)), (Value.int .i64 (Int.ofNat 0))] fun a3 h3 =>
 iY 3 h3 a3 v2 fun h4 =>
 bQ 3 h4 a3 fun v5 =>
 aY (dR aE8 [v5] h4) fun v6 h6 =>
 gY v6 fun i7 =>
 S 2 (AL.v r2 (AL.v r3 (AL.v r8 (AL.i r9 (AL.i kW (AL.v v6 (AL.i i7 (AL.i (Int.ofNat 0) AL.n)))))))) h6)
 (S 4 (AL.v r2 (AL.v r3 AL.n)) h)
noncomputable def YQ (S : Sg) (r0 : Value) (h : Hp) : aT :=
 dP h 136 [(Value.int .i64 (Int.ofNat 0)), (Value.int .i64 (Int.ofNat 0)), (Value.int .i64 (Int.ofNat 0)), (Value.int .i64 (Int.ofNat 0)), (Value.int .i64 (Int.ofNat 0)), (Value.int .i64 (Int.ofNat 0))] fun a0 h0 =>
 dP h0 136 [(Value.int .i64 (Int.ofNat 0)), (Value.int .i64 (Int.ofNat 0)), (Value.int .i64 (Int.ofNat 0)), (Value.int .i64 (Int.ofNat 0)), (Value.int .i64 (Int.ofNat 0)), (Value.int .i64 (Int.ofNat 0))] fun a1 h1 =>
 gY r0 fun i2 =>
 S 1 (AL.v a0 (AL.v a1 (AL.v r0 (AL.i i2 (AL.i (Int.ofNat 0) AL.n))))) h1
noncomputable def xC (S : Sg) : Sg := eF 0 (uV fun r0 => uN fun h => YQ S r0 h) (eF 1 (uV fun r2 => uV fun r3 => uV fun r8 => uI fun r9 => uI fun kW => uN fun h => KH S r2 r3 r8 r9 kW h) (eF 2 (uV fun r2 => uV fun r3 => uV fun r8 => uI fun r9 => uI fun kW => uV fun r15 => uI fun r16 => uI fun xH => uN fun h => KG S r2 r3 r8 r9 kW r15 r16 xH h) (eF 3 (uV fun r2 => uV fun r3 => uV fun r8 => uI fun r9 => uI fun kW => uN fun h => YP S r2 r3 r8 r9 kW h) (eF 4 (uV fun r2 => uV fun r3 => uN fun h => YO S r2 r3 h) (kU)))))
noncomputable def aP4 (args : List Value) (h : Hp) : aT := bV [Kd.v] args fun al => aP xC 1000000 0 al h
def VJ : Nat := 1 + (29 - 1)
theorem a0R (S : Sg) (r2 : Value) (r3 : Value) (h : Hp) : YO S r2 r3 h = aG (cO env MC (VJ)) (dA env Tryz.f104.results.toList) (collect aE9 aFA []) 4 S (AL.v r2 (AL.v r3 AL.n)) h := by kernel_rfl
theorem a0S (S : Sg) (r2 : Value) (r3 : Value) (r8 : Value) (r9 : Int) (kW : Int) (h : Hp) : YP S r2 r3 r8 r9 kW h = aG (cO env MC (VJ)) (dA env Tryz.f104.results.toList) (collect aE9 aFA []) 3 S (AL.v r2 (AL.v r3 (AL.v r8 (AL.i r9 (AL.i kW AL.n))))) h := by kernel_rfl
theorem a0T (S : Sg) (r2 : Value) (r3 : Value) (r8 : Value) (r9 : Int) (kW : Int) (r15 : Value) (r16 : Int) (xH : Int) (h : Hp) : KG S r2 r3 r8 r9 kW r15 r16 xH h = aG (cO env MC (VJ)) (dA env Tryz.f104.results.toList) (collect aE9 aFA []) 2 S (AL.v r2 (AL.v r3 (AL.v r8 (AL.i r9 (AL.i kW (AL.v r15 (AL.i r16 (AL.i xH AL.n)))))))) h := by kernel_rfl
theorem a0U (S : Sg) (r2 : Value) (r3 : Value) (r8 : Value) (r9 : Int) (kW : Int) (h : Hp) : KH S r2 r3 r8 r9 kW h = aG (cO env MC (VJ)) (dA env Tryz.f104.results.toList) (collect aE9 aFA []) 1 S (AL.v r2 (AL.v r3 (AL.v r8 (AL.i r9 (AL.i kW AL.n))))) h := by kernel_rfl
theorem a0V (S : Sg) (r0 : Value) (h : Hp) : YQ S r0 h = aG (cO env MC (VJ)) (dA env Tryz.f104.results.toList) (collect aE9 aFA []) 0 S (AL.v r0 AL.n) h := by kernel_rfl
theorem t104 (S : Sg) : eZ (fun l vs h => aG (cO env MC VJ) (dA env Tryz.f104.results.toList) (collect aE9 aFA []) l S vs h) (xC S) := by
 unfold xC
 refine eZ.cons 0 (fun iF h q e0 => ?_) ?_
 ·obtain ⟨r0, vs1, rfl, e1⟩ := aH e0
  obtain ⟨rfl, ee⟩ := bB e1
  exact (a0V S r0 h).symm.trans ee
 refine eZ.cons 1 (fun iF h q e0 => ?_) ?_
 ·obtain ⟨r2, vs1, rfl, e1⟩ := aH e0
  obtain ⟨r3, vs2, rfl, e2⟩ := aH e1
  obtain ⟨r8, vs3, rfl, e3⟩ := aH e2
  obtain ⟨r9, SA, rfl, e4⟩ := bH e3
  obtain ⟨kW, vs5, rfl, e5⟩ := bH e4
  obtain ⟨rfl, ee⟩ := bB e5
  exact (a0U S r2 r3 r8 r9 kW h).symm.trans ee
 refine eZ.cons 2 (fun iF h q e0 => ?_) ?_
 ·obtain ⟨r2, vs1, rfl, e1⟩ := aH e0
  obtain ⟨r3, vs2, rfl, e2⟩ := aH e1
  obtain ⟨r8, vs3, rfl, e3⟩ := aH e2
  obtain ⟨r9, SA, rfl, e4⟩ := bH e3
  obtain ⟨kW, vs5, rfl, e5⟩ := bH e4
  obtain ⟨r15, vs6, rfl, e6⟩ := aH e5
  obtain ⟨r16, vs7, rfl, e7⟩ := bH e6
  obtain ⟨xH, vs8, rfl, e8⟩ := bH e7
  obtain ⟨rfl, ee⟩ := bB e8
  exact (a0T S r2 r3 r8 r9 kW r15 r16 xH h).symm.trans ee
 refine eZ.cons 3 (fun iF h q e0 => ?_) ?_
 ·obtain ⟨r2, vs1, rfl, e1⟩ := aH e0
  obtain ⟨r3, vs2, rfl, e2⟩ := aH e1
  obtain ⟨r8, vs3, rfl, e3⟩ := aH e2
  obtain ⟨r9, SA, rfl, e4⟩ := bH e3
  obtain ⟨kW, vs5, rfl, e5⟩ := bH e4
  obtain ⟨rfl, ee⟩ := bB e5
  exact (a0S S r2 r3 r8 r9 kW h).symm.trans ee
 refine eZ.cons 4 (fun iF h q e0 => ?_) ?_
 ·obtain ⟨r2, vs1, rfl, e1⟩ := aH e0
  obtain ⟨r3, vs2, rfl, e2⟩ := aH e1
  obtain ⟨rfl, ee⟩ := bB e2
  exact (a0R S r2 r3 h).symm.trans ee
 exact eZ.nil
theorem bJ4 : ∀ args h v h', aP4 args h = some (v, h') → gG (C48) (.call 104 args.toArray h) (.ret v h') := by
 intro args h v h' e
 exact bY (C := C48) (fn := Tryz.f104) (body := aE9) (np := 1) (A := aFA) (T := xC) (kinds := [Kd.v]) (by kernel_rfl) (by kernel_rfl) (by kernel_rfl) (by kernel_rfl) (dZ eX) (by kernel_rfl) (fun S => t104 S) e
noncomputable def VK := kM 104 aP4 MC
noncomputable def C49 : cB := cfg VK
theorem bJ5 : C49.Ok := eB (C := C48) bJ3 bJ4
noncomputable def aP5 : Code := (Tryz.f105.body).getD .skip
def aP6 : aC := (aC.node (some (0, [(0, Kd.v)])) aC.nil (aC.node none aC.nil (aC.node none (aC.node none aC.nil (aC.node none (aC.node (some (1, [(1, Kd.v), (2, Kd.v), (3, Kd.v), (8, Kd.i .i64), (9, Kd.i .i64)])) (aC.node none aC.nil (aC.node none (aC.node none aC.nil aC.nil) (aC.node none (aC.node none (aC.node none aC.nil (aC.node none aC.nil (aC.node none aC.nil aC.nil))) aC.nil) aC.nil))) aC.nil) aC.nil)) (aC.node (some (2, [(2, Kd.v), (3, Kd.v)])) aC.nil aC.nil))))
noncomputable def YR (S : Sg) (r2 : Value) (r3 : Value) (h : Hp) : aT :=
 bQ 6 h r3 fun v0 =>
 iY 6 h r2 v0 fun h1 =>
 bQ 6 h1 r2 fun v2 => some (v2, h1)
noncomputable def KJ (S : Sg) (r1 : Value) (r2 : Value) (r3 : Value) (r8 : Int) (r9 : Int) (h : Hp) : aT :=
 dF (nM r9 r8) fun b0 =>
 dI b0
 (bQ 3 h r1 fun v1 =>
 aY (dR F86 [v1, (Value.int .i64 r9)] h) fun v2 h2 =>
 bW v2 fun b3 =>
 dI b3
 (GU 6 1 r3 r9 fun v4 =>
 uX h2 v4 (Value.int .i64 (Int.ofNat 1)) fun h5 =>
 wrap64 (Int.add r9 (Int.ofNat 1)) fun i6 =>
 S 1 (AL.v r1 (AL.v r2 (AL.v r3 (AL.i r8 (AL.i i6 AL.n))))) h5)
 (wrap64 (Int.add r9 (Int.ofNat 1)) fun i7 =>
 S 1 (AL.v r1 (AL.v r2 (AL.v r3 (AL.i r8 (AL.i i7 AL.n))))) h2))
 (S 2 (AL.v r2 (AL.v r3 AL.n)) h)
noncomputable def YS (S : Sg) (r0 : Value) (h : Hp) : aT :=
 dP h 88 (Array.toList (Value.cells r0)) fun a0 h0 =>
 dP h0 136 [(Value.int .i64 (Int.ofNat 0)), (Value.int .i64 (Int.ofNat 0)), (Value.int .i64 (Int.ofNat 0)), (Value.int .i64 (Int.ofNat 0)), (Value.int .i64 (Int.ofNat 0)), (Value.int .i64 (Int.ofNat 0))] fun a1 h1 =>
 dP h1 136 [(Value.int .i64 (Int.ofNat 0)), (Value.int .i64 (Int.ofNat 0)), (Value.int .i64 (Int.ofNat 0)), (Value.int .i64 (Int.ofNat 0)), (Value.int .i64 (Int.ofNat 0)), (Value.int .i64 (Int.ofNat 0))] fun a2 h2 =>
 aV 0 a0 fun v3 =>
 aV 1 v3 fun v4 =>
 bC h2 v4 fun v5 =>
 gY v5 fun i6 =>
 S 1 (AL.v a0 (AL.v a1 (AL.v a2 (AL.i i6 (AL.i (Int.ofNat 0) AL.n))))) h2
noncomputable def IR (S : Sg) : Sg := eF 0 (uV fun r0 => uN fun h => YS S r0 h) (eF 1 (uV fun r1 => uV fun r2 => uV fun r3 => uI fun r8 => uI fun r9 => uN fun h => KJ S r1 r2 r3 r8 r9 h) (eF 2 (uV fun r2 => uV fun r3 => uN fun h => YR S r2 r3 h) (kU)))
noncomputable def aP7 (args : List Value) (h : Hp) : aT := bV [Kd.v] args fun al => aP IR 1000000 0 al h
def aH9 : Nat := 1 + (19 - 1)
theorem a0W (S : Sg) (r2 : Value) (r3 : Value) (h : Hp) : YR S r2 r3 h = aG (cO env VK (aH9)) (dA env Tryz.f105.results.toList) (collect aP5 aP6 []) 2 S (AL.v r2 (AL.v r3 AL.n)) h := by kernel_rfl
theorem a0X (S : Sg) (r1 : Value) (r2 : Value) (r3 : Value) (r8 : Int) (r9 : Int) (h : Hp) : KJ S r1 r2 r3 r8 r9 h = aG (cO env VK (aH9)) (dA env Tryz.f105.results.toList) (collect aP5 aP6 []) 1 S (AL.v r1 (AL.v r2 (AL.v r3 (AL.i r8 (AL.i r9 AL.n))))) h := by kernel_rfl
theorem a0Y (S : Sg) (r0 : Value) (h : Hp) : YS S r0 h = aG (cO env VK (aH9)) (dA env Tryz.f105.results.toList) (collect aP5 aP6 []) 0 S (AL.v r0 AL.n) h := by kernel_rfl
theorem t105 (S : Sg) : eZ (fun l vs h => aG (cO env VK aH9) (dA env Tryz.f105.results.toList) (collect aP5 aP6 []) l S vs h) (IR S) := by
 unfold IR
 refine eZ.cons 0 (fun iF h q e0 => ?_) ?_
 ·obtain ⟨r0, vs1, rfl, e1⟩ := aH e0
  obtain ⟨rfl, ee⟩ := bB e1
  exact (a0Y S r0 h).symm.trans ee
 refine eZ.cons 1 (fun iF h q e0 => ?_) ?_
 ·obtain ⟨r1, vs1, rfl, e1⟩ := aH e0
  obtain ⟨r2, vs2, rfl, e2⟩ := aH e1
  obtain ⟨r3, vs3, rfl, e3⟩ := aH e2
  obtain ⟨r8, SA, rfl, e4⟩ := bH e3
  obtain ⟨r9, vs5, rfl, e5⟩ := bH e4
  obtain ⟨rfl, ee⟩ := bB e5
  exact (a0X S r1 r2 r3 r8 r9 h).symm.trans ee
 refine eZ.cons 2 (fun iF h q e0 => ?_) ?_
 ·obtain ⟨r2, vs1, rfl, e1⟩ := aH e0
  obtain ⟨r3, vs2, rfl, e2⟩ := aH e1
  obtain ⟨rfl, ee⟩ := bB e2
  exact (a0W S r2 r3 h).symm.trans ee
 exact eZ.nil
theorem bJ6 : ∀ args h v h', aP7 args h = some (v, h') → gG (C49) (.call 105 args.toArray h) (.ret v h') := by
 intro args h v h' e
 exact bY (C := C49) (fn := Tryz.f105) (body := aP5) (np := 1) (A := aP6) (T := IR) (kinds := [Kd.v]) (by kernel_rfl) (by kernel_rfl) (by kernel_rfl) (by kernel_rfl) (dZ eX) (by kernel_rfl) (fun S => t105 S) e
noncomputable def VL := kM 105 aP7 VK
noncomputable def C50 : cB := cfg VL
theorem bJ7 : C50.Ok := eB (C := C49) bJ5 bJ6
noncomputable def B66 : Code := (Tryz.f66.body).getD .skip
def A66 : aC := (aC.node (some (0, [(0, Kd.v), (1, Kd.v)])) aC.nil (aC.node none (aC.node none aC.nil (aC.node none (aC.node (some (1, [(1, Kd.v), (2, Kd.v), (7, Kd.v), (8, Kd.i .i64), (9, Kd.i .i64)])) (aC.node none aC.nil (aC.node none (aC.node none aC.nil aC.nil) (aC.node none (aC.node none (aC.node none aC.nil (aC.node none aC.nil (aC.node none (aC.node none aC.nil aC.nil) aC.nil))) aC.nil) aC.nil))) aC.nil) aC.nil)) (aC.node (some (2, [(1, Kd.v), (2, Kd.v)])) aC.nil aC.nil)))
noncomputable def aBP (S : Sg) (r1 : Value) (r2 : Value) (h : Hp) : aT :=
 aY (aY (dR aP4 [r1] (Hp.mk (Hp.next h) (Hp.next h) (Hp.aJ h))) fun v _ => dI (jS v) (some (v, h)) none) fun v0 h0 =>
 bQ 3 h0 r2 fun v1 =>
 aY (dR aP7 [v1] h0) fun v2 h2 =>
 dD (nG env .eql 136 (Operand.tmp 35) (Operand.tmp 37) v0 v2) fun v3 =>
 bW v3 fun b4 =>
 some ((Value.bool b4), h2)
noncomputable def aIA (S : Sg) (r1 : Value) (r2 : Value) (r7 : Value) (r8 : Int) (r9 : Int) (h : Hp) : aT :=
 dF (nM r9 r8) fun b0 =>
 dI b0
 (jF 3 r7 r9 fun v1 =>
 bQ 3 h v1 fun v2 =>
 dP h 57 [(Value.int .i64 (Int.ofNat 0)), (Value.int .i64 (Int.ofNat 0)), (Value.int .i64 (Int.ofNat 0))] fun a3 h3 =>
 iY 3 h3 a3 v2 fun h4 =>
 bQ 3 h4 r2 fun v5 =>
 bQ 3 h4 a3 fun v6 =>
 aY (aY (dR aP2 [v5, v6] (Hp.mk (Hp.next h4) (Hp.next h4) (Hp.aJ h4))) fun v _ => dI (jS v) (some (v, h4)) none) fun v7 h7 =>
 bW v7 fun b8 =>
 dK b8 fun b9 =>
 dI b9
 (some ((Value.bool false), h7))
 (dF (nM (Int.ofNat 0) r9) fun b10 =>
 dI b10
 (aV 1 a3 fun v11 =>
 bC h7 v11 fun v12 =>
 bI .i64 v12 fun i13 =>
 wrap64 (Int.sub r9 (Int.ofNat 1)) fun i14 =>
 jF 3 r1 i14 fun v15 =>
 aV 1 v15 fun v16 =>
 bC h7 v16 fun v17 =>
 bI .i64 v17 fun i18 =>
 dK (nM i18 i13) fun b19 =>
 dI b19
 (some ((Value.bool false), h7))
 (wrap64 (Int.add r9 (Int.ofNat 1)) fun i20 =>
 S 1 (AL.v r1 (AL.v r2 (AL.v r7 (AL.i r8 (AL.i i20 AL.n))))) h7))
 (wrap64 (Int.add r9 (Int.ofNat 1)) fun i21 =>
 S 1 (AL.v r1 (AL.v r2 (AL.v r7 (AL.i r8 (AL.i i21 AL.n))))) h7)))
 (S 2 (AL.v r1 (AL.v r2 AL.n)) h)
noncomputable def aIB (S : Sg) (r0 : Value) (r1 : Value) (h : Hp) : aT :=
 dP h 88 (Array.toList (Value.cells r0)) fun a0 h0 =>
 gY r1 fun i1 =>
 S 1 (AL.v r1 (AL.v a0 (AL.v r1 (AL.i i1 (AL.i (Int.ofNat 0) AL.n))))) h0
noncomputable def T66 (S : Sg) : Sg := eF 0 (uV fun r0 => uV fun r1 => uN fun h => aIB S r0 r1 h) (eF 1 (uV fun r1 => uV fun r2 => uV fun r7 => uI fun r8 => uI fun r9 => uN fun h => aIA S r1 r2 r7 r8 r9 h) (eF 2 (uV fun r1 => uV fun r2 => uN fun h => aBP S r1 r2 h) (kU)))
noncomputable def F66 (args : List Value) (h : Hp) : aT := bV [Kd.v, Kd.v] args fun al => aP T66 1000000 0 al h
def aTF : Nat := 2 + (39 - 2)
theorem bAH (S : Sg) (r1 : Value) (r2 : Value) (h : Hp) : aBP S r1 r2 h = aG (cO env VL (aTF)) (dA env Tryz.f66.results.toList) (collect B66 A66 []) 2 S (AL.v r1 (AL.v r2 AL.n)) h := by kernel_rfl
theorem bAI (S : Sg) (r1 : Value) (r2 : Value) (r7 : Value) (r8 : Int) (r9 : Int) (h : Hp) : aIA S r1 r2 r7 r8 r9 h = aG (cO env VL (aTF)) (dA env Tryz.f66.results.toList) (collect B66 A66 []) 1 S (AL.v r1 (AL.v r2 (AL.v r7 (AL.i r8 (AL.i r9 AL.n))))) h := by kernel_rfl
theorem bAJ (S : Sg) (r0 : Value) (r1 : Value) (h : Hp) : aIB S r0 r1 h = aG (cO env VL (aTF)) (dA env Tryz.f66.results.toList) (collect B66 A66 []) 0 S (AL.v r0 (AL.v r1 AL.n)) h := by kernel_rfl
theorem t66 (S : Sg) : eZ (fun l vs h => aG (cO env VL aTF) (dA env Tryz.f66.results.toList) (collect B66 A66 []) l S vs h) (T66 S) := by
 unfold T66
 refine eZ.cons 0 (fun iF h q e0 => ?_) ?_
 ·obtain ⟨r0, vs1, rfl, e1⟩ := aH e0
  obtain ⟨r1, vs2, rfl, e2⟩ := aH e1
  obtain ⟨rfl, ee⟩ := bB e2
  exact (bAJ S r0 r1 h).symm.trans ee
 refine eZ.cons 1 (fun iF h q e0 => ?_) ?_
 ·obtain ⟨r1, vs1, rfl, e1⟩ := aH e0
  obtain ⟨r2, vs2, rfl, e2⟩ := aH e1
  obtain ⟨r7, vs3, rfl, e3⟩ := aH e2
  obtain ⟨r8, SA, rfl, e4⟩ := bH e3
  obtain ⟨r9, vs5, rfl, e5⟩ := bH e4
  obtain ⟨rfl, ee⟩ := bB e5
  exact (bAI S r1 r2 r7 r8 r9 h).symm.trans ee
 refine eZ.cons 2 (fun iF h q e0 => ?_) ?_
 ·obtain ⟨r1, vs1, rfl, e1⟩ := aH e0
  obtain ⟨r2, vs2, rfl, e2⟩ := aH e1
  obtain ⟨rfl, ee⟩ := bB e2
  exact (bAH S r1 r2 h).symm.trans ee
 exact eZ.nil
theorem r66 : ∀ args h v h', F66 args h = some (v, h') → gG (C50) (.call 66 args.toArray h) (.ret v h') := by
 intro args h v h' e
 exact bY (C := C50) (fn := Tryz.f66) (body := B66) (np := 2) (A := A66) (T := T66) (kinds := [Kd.v, Kd.v]) (by kernel_rfl) (by kernel_rfl) (by kernel_rfl) (by kernel_rfl) (dZ eX) (by kernel_rfl) (fun S => t66 S) e
noncomputable def aIC := kM 66 F66 VL
noncomputable def C51 : cB := cfg aIC
theorem bJ8 : C51.Ok := eB (C := C50) bJ7 r66
noncomputable def B20 : Code := (Tryz.f20.body).getD .skip
def A20 : aC := (aC.node (some (0, [(0, Kd.v), (1, Kd.v)])) aC.nil (aC.node none aC.nil (aC.node none (aC.node none aC.nil (aC.node none (aC.node none aC.nil aC.nil) aC.nil)) (aC.node none aC.nil aC.nil))))
noncomputable def aID (S : Sg) (r0 : Value) (r1 : Value) (h : Hp) : aT :=
 dP h 25 (Array.toList (Value.cells r0)) fun a0 h0 =>
 bQ 3 h0 a0 fun v1 =>
 aY (dR F63 [v1] h0) fun v2 h2 =>
 kZ v2 0 fun v3 =>
 kZ v2 1 fun v4 =>
 bI .i64 v4 fun i5 =>
 dP h2 88 [(Value.int .i64 (Int.ofNat 0)), (Value.slice none 0 0), (Value.slice none 0 0)] fun a6 h6 =>
 iY 3 h6 a6 v3 fun h7 =>
 dK (tJ i5 (Int.ofNat 0)) fun b8 =>
 dI b8
 (some (Value.tuple (List.toArray [(Value.bool false), (Value.int .i64 i5)]), h7))
 (bQ 3 h7 a6 fun v9 =>
 aY (dR F66 [v9, r1] h7) fun v10 h10 =>
 bW v10 fun b11 =>
 some (Value.tuple (List.toArray [(Value.bool b11), (Value.int .i64 (Int.ofNat 0))]), h10))
noncomputable def T20 (S : Sg) : Sg := eF 0 (uV fun r0 => uV fun r1 => uN fun h => aID S r0 r1 h) (kU)
noncomputable def F20 (args : List Value) (h : Hp) : aT := bV [Kd.v, Kd.v] args fun al => aP T20 1000000 0 al h
def bAL : Nat := 2 + (19 - 2)
theorem bAM (S : Sg) (r0 : Value) (r1 : Value) (h : Hp) : aID S r0 r1 h = aG (cO env aIC (bAL)) (dA env Tryz.f20.results.toList) (collect B20 A20 []) 0 S (AL.v r0 (AL.v r1 AL.n)) h := by kernel_rfl
theorem t20 (S : Sg) : eZ (fun l vs h => aG (cO env aIC bAL) (dA env Tryz.f20.results.toList) (collect B20 A20 []) l S vs h) (T20 S) := by
 unfold T20
 refine eZ.cons 0 (fun iF h q e0 => ?_) ?_
 ·obtain ⟨r0, vs1, rfl, e1⟩ := aH e0
  obtain ⟨r1, vs2, rfl, e2⟩ := aH e1
  obtain ⟨rfl, ee⟩ := bB e2
  exact (bAM S r0 r1 h).symm.trans ee
 exact eZ.nil
theorem r20 : ∀ args h v h', F20 args h = some (v, h') → gG (C51) (.call 20 args.toArray h) (.ret v h') := by
 intro args h v h' e
 exact bY (C := C51) (fn := Tryz.f20) (body := B20) (np := 2) (A := A20) (T := T20) (kinds := [Kd.v, Kd.v]) (by kernel_rfl) (by kernel_rfl) (by kernel_rfl) (by kernel_rfl) (dZ eX) (by kernel_rfl) (fun S => t20 S) e
noncomputable def aIE := kM 20 F20 aIC
noncomputable def C52 : cB := cfg aIE
theorem bKB : C52.Ok := eB (C := C51) bJ8 r20
noncomputable def a0Z : Code := (Tryz.f145.body).getD .skip
def a00 : aC := (aC.node (some (0, [(0, Kd.v), (1, Kd.i .i64), (2, Kd.i .i64)])) aC.nil (aC.node none aC.nil aC.nil))
noncomputable def YT (S : Sg) (r0 : Value) (r1 : Int) (r2 : Int) (h : Hp) : aT :=
 dP h 25 (Array.toList (Value.cells r0)) fun a0 h0 =>
 dK (tJ r1 r2) fun b1 =>
 dI b1
 (aV 1 a0 fun v2 =>
 bC (Hp.mk (Hp.next h0) (Hp.next h0) (Hp.aJ h0)) v2 fun v3 =>
 jF 4 v3 r1 fun v4 =>
 aV 2 v4 fun v5 =>
 bC (Hp.mk (Hp.next h0) (Hp.next h0) (Hp.aJ h0)) v5 fun v6 =>
 bI .i64 v6 fun i7 =>
 aV 1 a0 fun v8 =>
 bC (Hp.mk (Hp.next h0) (Hp.next h0) (Hp.aJ h0)) v8 fun v9 =>
 jF 4 v9 r2 fun v10 =>
 aV 2 v10 fun v11 =>
 bC (Hp.mk (Hp.next h0) (Hp.next h0) (Hp.aJ h0)) v11 fun v12 =>
 bI .i64 v12 fun i13 =>
 dF (tJ i7 i13) fun b14 =>
 dI b14
 (bQ 3 (Hp.mk (Hp.next h0) (Hp.next h0) (Hp.aJ h0)) a0 fun v15 =>
 aY (bJ env (Hp.mk (Hp.next h0) (Hp.next h0) T.nil) 23 1 (List.toArray [(0, (Value.int .i64 r1))])) fun v16 h16 =>
 eG v16 (Hp.next h0) h16 fun w17 n17 =>
 aY (dD (VC [v15, v16] (Hp.mk n17 n17 (aF w17 (Hp.aJ h0)))) fun v => some (v, (Hp.mk n17 n17 (aF w17 (Hp.aJ h0))))) fun v18 h18 =>
 bW v18 fun b19 =>
 dK b19 fun b20 =>
 dI b20
 (bQ 3 (Hp.mk n17 n17 (aF w17 (Hp.aJ h0))) a0 fun v21 =>
 aY (bJ env (Hp.mk n17 n17 T.nil) 23 1 (List.toArray [(0, (Value.int .i64 r2))])) fun v22 h22 =>
 eG v22 n17 h22 fun w23 n23 =>
 aY (dD (VC [v21, v22] (Hp.mk n23 n23 (aF w23 (aF w17 (Hp.aJ h0))))) fun v => some (v, (Hp.mk n23 n23 (aF w23 (aF w17 (Hp.aJ h0)))))) fun v24 h24 =>
 bW v24 fun b25 =>
 dK b25 fun b26 =>
 dI b26
 (bQ 3 (Hp.mk n23 n23 (aF w23 (aF w17 (Hp.aJ h0)))) a0 fun v27 =>
 aY (bJ env (Hp.mk n23 n23 T.nil) 23 2 (List.toArray [(0, (Value.int .i64 r1)), (1, (Value.int .i64 r2))])) fun v28 h28 =>
 eG v28 n23 h28 fun w29 n29 =>
 aY (dD (VC [v27, v28] (Hp.mk n29 (Hp.ro h0) (aF w29 (aF w23 (aF w17 (Hp.aJ h0)))))) fun v => some (v, (Hp.mk n29 (Hp.ro h0) (aF w29 (aF w23 (aF w17 (Hp.aJ h0))))))) fun v30 h30 =>
 bW v30 fun b31 =>
 some ((Value.bool b31), h30))
 (eG undef n23 (Hp.mk n23 n23 T.nil) fun w32 n32 =>
 some ((Value.bool false), (Hp.mk n32 (Hp.ro h0) (aF w32 (aF w23 (aF w17 (Hp.aJ h0))))))))
 (eG undef n17 (Hp.mk n17 n17 T.nil) fun w33 n33 =>
 eG undef n33 (Hp.mk n33 n33 (aF w33 (aF w17 (Hp.aJ h0)))) fun w34 n34 =>
 eG undef n34 (Hp.mk n34 n34 T.nil) fun w35 n35 =>
 some ((Value.bool false), (Hp.mk n35 (Hp.ro h0) (aF w35 (aF w34 (aF w33 (aF w17 (Hp.aJ h0)))))))))
 (eG undef (Hp.next h0) (Hp.mk (Hp.next h0) (Hp.next h0) T.nil) fun w36 n36 =>
 eG undef n36 (Hp.mk n36 n36 (aF w36 (Hp.aJ h0))) fun w37 n37 =>
 eG undef n37 (Hp.mk n37 n37 T.nil) fun w38 n38 =>
 eG undef n38 (Hp.mk n38 n38 (aF w38 (aF w37 (aF w36 (Hp.aJ h0))))) fun w39 n39 =>
 eG undef n39 (Hp.mk n39 n39 T.nil) fun w40 n40 =>
 some ((Value.bool false), (Hp.mk n40 (Hp.ro h0) (aF w40 (aF w39 (aF w38 (aF w37 (aF w36 (Hp.aJ h0))))))))))
 (eG undef (Hp.next h0) (Hp.mk (Hp.next h0) (Hp.next h0) T.nil) fun w41 n41 =>
 eG undef n41 (Hp.mk n41 n41 (aF w41 (Hp.aJ h0))) fun w42 n42 =>
 eG undef n42 (Hp.mk n42 n42 T.nil) fun w43 n43 =>
 eG undef n43 (Hp.mk n43 n43 (aF w43 (aF w42 (aF w41 (Hp.aJ h0))))) fun w44 n44 =>
 eG undef n44 (Hp.mk n44 n44 T.nil) fun w45 n45 =>
 some ((Value.bool false), (Hp.mk n45 (Hp.ro h0) (aF w45 (aF w44 (aF w43 (aF w42 (aF w41 (Hp.aJ h0)))))))))
noncomputable def aP9 (S : Sg) : Sg := eF 0 (uV fun r0 => uI fun r1 => uI fun r2 => uN fun h => YT S r0 r1 r2 h) (kU)
noncomputable def aQA (args : List Value) (h : Hp) : aT := bV [Kd.v, Kd.i .i64, Kd.i .i64] args fun al => aP aP9 1000000 0 al h
def aWZ : Nat := 3 + (46 - 3)
theorem a01 (S : Sg) (r0 : Value) (r1 : Int) (r2 : Int) (h : Hp) : YT S r0 r1 r2 h = aG (cO env aIE (aWZ)) (dA env Tryz.f145.results.toList) (collect a0Z a00 []) 0 S (AL.v r0 (AL.i r1 (AL.i r2 AL.n))) h := by kernel_rfl
theorem t145 (S : Sg) : eZ (fun l vs h => aG (cO env aIE aWZ) (dA env Tryz.f145.results.toList) (collect a0Z a00 []) l S vs h) (aP9 S) := by
 unfold aP9
 refine eZ.cons 0 (fun iF h q e0 => ?_) ?_
 ·obtain ⟨r0, vs1, rfl, e1⟩ := aH e0
  obtain ⟨r1, vs2, rfl, e2⟩ := bH e1
  obtain ⟨r2, vs3, rfl, e3⟩ := bH e2
  obtain ⟨rfl, ee⟩ := bB e3
  exact (a01 S r0 r1 r2 h).symm.trans ee
 exact eZ.nil
theorem bKD : ∀ args h v h', aQA args h = some (v, h') → gG (C52) (.call 145 args.toArray h) (.ret v h') := by
 intro args h v h' e
 exact bY (C := C52) (fn := Tryz.f145) (body := a0Z) (np := 3) (A := a00) (T := aP9) (kinds := [Kd.v, Kd.i .i64, Kd.i .i64]) (by kernel_rfl) (by kernel_rfl) (by kernel_rfl) (by kernel_rfl) (dZ eX) (by kernel_rfl) (fun S => t145 S) e
noncomputable def aW0 := kM 145 aQA aIE
noncomputable def C53 : cB := cfg aW0
theorem bKE : C53.Ok := eB (C := C52) bKB bKD
noncomputable def B52 : Code := (Tryz.f52.body).getD .skip
noncomputable def A52 : G.aC (List KI) := (G.aC.node (some (0, [KI.reg 0 (Kd.v), KI.reg 1 (Kd.v)])) G.aC.nil (G.aC.node none (G.aC.node none G.aC.nil (G.aC.node none (G.aC.node (some (1, [KI.reg 1 (Kd.v), KI.loc 2 2, KI.reg 5 (Kd.i .i64), KI.cells 2 [Kd.i .i64, Kd.v, Kd.v]])) (G.aC.node none (G.aC.node none G.aC.nil (G.aC.node none G.aC.nil G.aC.nil)) (G.aC.node none (G.aC.node none (G.aC.node none G.aC.nil (G.aC.node none (G.aC.node none G.aC.nil G.aC.nil) G.aC.nil)) G.aC.nil) G.aC.nil)) G.aC.nil) G.aC.nil)) (G.aC.node (some (2, [])) G.aC.nil G.aC.nil)))
noncomputable def aW1 (h : Hp) (S : Nat → aR → Option Value) : Option Value :=
 some (Value.bool false)
noncomputable def VM (h : Hp) (S : Nat → aR → Option Value) (r1 : Value) (r5 : Int) (yS : Int) (yT : Value) (uA : Value) : Option Value :=
 gY uA fun i0 =>
 dF (nM r5 i0) fun b1 =>
 dI b1
 (jF 1 uA r5 fun v2 =>
 bC h v2 fun v3 =>
 bI .i64 v3 fun i4 =>
 dD (F92 [(Value.agg (Array.mk [(Value.int .i64 yS), yT, uA])), (Value.int .i64 i4), r1] h) fun v5 =>
 bW v5 fun b6 =>
 dI b6
 (some (Value.bool true))
 (wrap64 (Int.add r5 (Int.ofNat 1)) fun i7 =>
 S 1 (aR.v r1 (aR.i i7 (aR.i yS (aR.v yT (aR.v uA aR.n)))))))
 (S 2 aR.n)
noncomputable def aIF (h : Hp) (S : Nat → aR → Option Value) (r0 : Value) (r1 : Value) : Option Value :=
 tF (Array.toList (Value.cells r0)) fun c0 =>
 qF c0 fun a1 c1 =>
 bI .i64 a1 fun i2 =>
 qF c1 fun a3 c3 =>
 qF c3 fun a4 c4 =>
 aSK c4 (S 1 (aR.v r1 (aR.i (Int.ofNat 0) (aR.i i2 (aR.v a3 (aR.v a4 aR.n))))))
noncomputable def T52 (h : Hp) (S : Nat → aR → Option Value) : Nat → aR → Option Value := gM 0 (wV fun r0 => wV fun r1 => wN (aIF h S r0 r1)) (gM 1 (wV fun r1 => wI fun r5 => wI fun yS => wV fun yT => wV fun uA => wN (VM h S r1 r5 yS yT uA)) (gM 2 (wN (aW1 h S)) (mG)))
noncomputable def F52 (args : List Value) (h : Hp) : Option Value := plainO (fG [Kd.v, Kd.v] args fun al => G.aP (T52 h) 1000000 0 al)
def aTH : Nat := 2 + (21 - 2)
theorem bAP (h : Hp) (S : Nat → aR → Option Value) : aW1 h S = G.aG cK aZ gJ (gQ env aE4 aTH h) (gW env Tryz.f52.results.toList) (G.collect B52 A52 []) 2 S aR.n := by kernel_rfl
theorem bAQ (h : Hp) (S : Nat → aR → Option Value) (r1 : Value) (r5 : Int) (yS : Int) (yT : Value) (uA : Value) : VM h S r1 r5 yS yT uA = G.aG cK aZ gJ (gQ env aE4 aTH h) (gW env Tryz.f52.results.toList) (G.collect B52 A52 []) 1 S (aR.v r1 (aR.i r5 (aR.i yS (aR.v yT (aR.v uA aR.n))))) := by kernel_rfl
theorem bAR (h : Hp) (S : Nat → aR → Option Value) (r0 : Value) (r1 : Value) : aIF h S r0 r1 = G.aG cK aZ gJ (gQ env aE4 aTH h) (gW env Tryz.f52.results.toList) (G.collect B52 A52 []) 0 S (aR.v r0 (aR.v r1 aR.n)) := by kernel_rfl
theorem t52 (h : Hp) (S : Nat → aR → Option Value) : dY (fun l al => G.aG cK aZ gJ (gQ env aE4 aTH h) (gW env Tryz.f52.results.toList) (G.collect B52 A52 []) l S al) (T52 h S) := by
 unfold T52
 refine dY.cons 0 (fun iF q e0 => ?_) ?_
 ·obtain ⟨r0, vs1, rfl, e1⟩ := dX e0
  obtain ⟨r1, vs2, rfl, e2⟩ := dX e1
  obtain ⟨rfl, ee⟩ := dG e2
  exact (bAR h S r0 r1).symm.trans ee
 refine dY.cons 1 (fun iF q e0 => ?_) ?_
 ·obtain ⟨r1, vs1, rfl, e1⟩ := dX e0
  obtain ⟨r5, vs2, rfl, e2⟩ := bZ e1
  obtain ⟨yS, vs3, rfl, e3⟩ := bZ e2
  obtain ⟨yT, SA, rfl, e4⟩ := dX e3
  obtain ⟨uA, vs5, rfl, e5⟩ := dX e4
  obtain ⟨rfl, ee⟩ := dG e5
  exact (bAQ h S r1 r5 yS yT uA).symm.trans ee
 refine dY.cons 2 (fun iF q e0 => ?_) ?_
 ·
  obtain ⟨rfl, ee⟩ := dG e0
  exact (bAP h S).symm.trans ee
 exact dY.nil
theorem r52 : dS Tryz.prog 52 F52 := eD (C := C0) ok0 (pf := aE4) aPO (fn := Tryz.f52) (body := B52) (kinds := [Kd.v, Kd.v]) (A := A52) (T := T52) (by kernel_rfl) (by kernel_rfl) (by kernel_rfl) (by kernel_rfl) (fun h S => t52 h S)
noncomputable def bKF : PF := M5 52 F52 aE4
theorem bKG : gF Tryz.prog bKF := jX r52 aPO
noncomputable def aBQ := pI 52 F52 aW0
noncomputable def C54 : cB := cfg aBQ
theorem bKH : C54.Ok := gZ (C := C53) bKE r52
noncomputable def aTI : Code := (Tryz.f106.body).getD .skip
def aTJ : aC := (aC.node (some (0, [(0, Kd.v), (1, Kd.v)])) aC.nil (aC.node none aC.nil (aC.node none (aC.node none aC.nil (aC.node none (aC.node none aC.nil aC.nil) aC.nil)) (aC.node (some (1, [(2, Kd.v), (3, Kd.v)])) (aC.node none aC.nil (aC.node none (aC.node none aC.nil (aC.node none (aC.node none aC.nil aC.nil) (aC.node none aC.nil (aC.node none (aC.node none aC.nil aC.nil) (aC.node none aC.nil (aC.node none (aC.node none aC.nil aC.nil) aC.nil)))))) aC.nil)) (aC.node none aC.nil aC.nil)))))
noncomputable def YU (S : Sg) (r2 : Value) (r3 : Value) (h : Hp) : aT :=
 aV 0 r3 fun v0 =>
 bC h v0 fun v1 =>
 bI .i64 v1 fun i2 =>
 dF (tJ i2 (Int.ofNat 0)) fun b3 =>
 dI b3
 (aV 2 r3 fun v4 =>
 bC h v4 fun v5 =>
 bI .i64 v5 fun i6 =>
 dF (tJ i6 (Int.ofNat 0)) fun b7 =>
 dI b7
 (bQ 3 h r2 fun v8 =>
 aV 1 r3 fun v9 =>
 bC h v9 fun v10 =>
 bI .i64 v10 fun i11 =>
 aY (bJ env h 23 1 (List.toArray [(0, (Value.int .i64 i11))])) fun v12 h12 =>
 aY (dD (VC [v8, v12] h12) fun v => some (v, h12)) fun v13 h13 =>
 bW v13 fun b14 =>
 some ((Value.bool b14), h13))
 (some ((Value.bool false), h)))
 (dF (tJ i2 (Int.ofNat 1)) fun b15 =>
 dI b15
 (aV 1 r3 fun v16 =>
 bC h v16 fun v17 =>
 bI .i64 v17 fun i18 =>
 aV 2 r3 fun v19 =>
 bC h v19 fun v20 =>
 bI .i64 v20 fun i21 =>
 dF (nM i18 i21) fun b22 =>
 dI b22
 (bQ 3 h r2 fun v23 =>
 aV 1 r3 fun v24 =>
 bC h v24 fun v25 =>
 bI .i64 v25 fun i26 =>
 aV 2 r3 fun v27 =>
 bC h v27 fun v28 =>
 bI .i64 v28 fun i29 =>
 aY (dR aQA [v23, (Value.int .i64 i26), (Value.int .i64 i29)] h) fun v30 h30 =>
 bW v30 fun b31 =>
 some ((Value.bool b31), h30))
 (some ((Value.bool false), h)))
 (dF (tJ i2 (Int.ofNat 2)) fun b32 =>
 dI b32
 (aV 2 r3 fun v33 =>
 bC h v33 fun v34 =>
 bI .i64 v34 fun i35 =>
 dF (tJ i35 (Int.ofNat 0)) fun b36 =>
 dI b36
 (bQ 3 h r2 fun v37 =>
 aV 1 r3 fun v38 =>
 bC h v38 fun v39 =>
 bI .i64 v39 fun i40 =>
 aY (bJ env h 23 1 (List.toArray [(0, (Value.int .i64 i40))])) fun v41 h41 =>
 aY (dD (VC [v37, v41] h41) fun v => some (v, h41)) fun v42 h42 =>
 bW v42 fun b43 =>
 dK b43 fun b44 =>
 dI b44
 (bQ 3 h42 r2 fun v45 =>
 aV 1 r3 fun v46 =>
 bC h42 v46 fun v47 =>
 bI .i64 v47 fun i48 =>
 aY (bJ env h42 23 1 (List.toArray [(0, (Value.int .i64 i48))])) fun v49 h49 =>
 aY (dD (F52 [v45, v49] h49) fun v => some (v, h49)) fun v50 h50 =>
 bW v50 fun b51 =>
 some ((Value.bool b51), h50))
 (some ((Value.bool false), h42)))
 (some ((Value.bool false), h)))
 (some ((Value.bool false), h))))
noncomputable def YV (S : Sg) (r0 : Value) (r1 : Value) (h : Hp) : aT :=
 dP h 25 (Array.toList (Value.cells r0)) fun a0 h0 =>
 dP h0 57 (Array.toList (Value.cells r1)) fun a1 h1 =>
 aV 1 a0 fun v2 =>
 bC h1 v2 fun v3 =>
 gY v3 fun i4 =>
 wrap64 (Int.sub i4 (Int.ofNat 1)) fun i5 =>
 aV 1 a1 fun v6 =>
 bC h1 v6 fun v7 =>
 bI .i64 v7 fun i8 =>
 aY (dD (F60 [(Value.int .i64 i8), (Value.int .i64 (Int.ofNat 0)), (Value.int .i64 i5)] h1) fun v => some (v, h1)) fun v9 h9 =>
 bW v9 fun b10 =>
 dK b10 fun b11 =>
 dI b11
 (some ((Value.bool false), h9))
 (aV 2 a1 fun v12 =>
 bC h9 v12 fun v13 =>
 bI .i64 v13 fun i14 =>
 aY (dD (F60 [(Value.int .i64 i14), (Value.int .i64 (Int.ofNat 0)), (Value.int .i64 i5)] h9) fun v => some (v, h9)) fun v15 SB =>
 bW v15 fun b16 =>
 dK b16 fun b17 =>
 dI b17
 (some ((Value.bool false), SB))
 (S 1 (AL.v a0 (AL.v a1 AL.n)) SB))
noncomputable def aK3 (S : Sg) : Sg := eF 0 (uV fun r0 => uV fun r1 => uN fun h => YV S r0 r1 h) (eF 1 (uV fun r2 => uV fun r3 => uN fun h => YU S r2 r3 h) (kU))
noncomputable def aQC (args : List Value) (h : Hp) : aT := bV [Kd.v, Kd.v] args fun al => aP aK3 1000000 0 al h
def aQD : Nat := 2 + (71 - 2)
theorem a02 (S : Sg) (r2 : Value) (r3 : Value) (h : Hp) : YU S r2 r3 h = aG (cO env aBQ (aQD)) (dA env Tryz.f106.results.toList) (collect aTI aTJ []) 1 S (AL.v r2 (AL.v r3 AL.n)) h := by kernel_rfl
theorem a03 (S : Sg) (r0 : Value) (r1 : Value) (h : Hp) : YV S r0 r1 h = aG (cO env aBQ (aQD)) (dA env Tryz.f106.results.toList) (collect aTI aTJ []) 0 S (AL.v r0 (AL.v r1 AL.n)) h := by kernel_rfl
theorem t106 (S : Sg) : eZ (fun l vs h => aG (cO env aBQ aQD) (dA env Tryz.f106.results.toList) (collect aTI aTJ []) l S vs h) (aK3 S) := by
 unfold aK3
 refine eZ.cons 0 (fun iF h q e0 => ?_) ?_
 ·obtain ⟨r0, vs1, rfl, e1⟩ := aH e0
  obtain ⟨r1, vs2, rfl, e2⟩ := aH e1
  obtain ⟨rfl, ee⟩ := bB e2
  exact (a03 S r0 r1 h).symm.trans ee
 refine eZ.cons 1 (fun iF h q e0 => ?_) ?_
 ·obtain ⟨r2, vs1, rfl, e1⟩ := aH e0
  obtain ⟨r3, vs2, rfl, e2⟩ := aH e1
  obtain ⟨rfl, ee⟩ := bB e2
  exact (a02 S r2 r3 h).symm.trans ee
 exact eZ.nil
theorem bKI : ∀ args h v h', aQC args h = some (v, h') → gG (C54) (.call 106 args.toArray h) (.ret v h') := by
 intro args h v h' e
 exact bY (C := C54) (fn := Tryz.f106) (body := aTI) (np := 2) (A := aTJ) (T := aK3) (kinds := [Kd.v, Kd.v]) (by kernel_rfl) (by kernel_rfl) (by kernel_rfl) (by kernel_rfl) (dZ eX) (by kernel_rfl) (fun S => t106 S) e
noncomputable def VN := kM 106 aQC aBQ
noncomputable def C55 : cB := cfg VN
theorem bKJ : C55.Ok := eB (C := C54) bKH bKI
noncomputable def B43 : Code := (Tryz.f43.body).getD .skip
def A43 : aC := (aC.node (some (0, [(0, Kd.v)])) aC.nil (aC.node none aC.nil (aC.node none (aC.node none aC.nil (aC.node none (aC.node (some (1, [(0, Kd.v), (3, Kd.v), (4, Kd.i .i64)])) (aC.node none (aC.node none aC.nil (aC.node none aC.nil aC.nil)) (aC.node none (aC.node none (aC.node none aC.nil (aC.node none aC.nil (aC.node none aC.nil aC.nil))) aC.nil) aC.nil)) aC.nil) aC.nil)) (aC.node (some (2, [(3, Kd.v)])) aC.nil aC.nil))))
noncomputable def aW2 (S : Sg) (r3 : Value) (h : Hp) : aT :=
 some (r3, h)
noncomputable def VO (S : Sg) (r0 : Value) (r3 : Value) (r4 : Int) (h : Hp) : aT :=
 gY r0 fun i0 =>
 dF (nM r4 i0) fun b1 =>
 dI b1
 (jF 3 r0 r4 fun v2 =>
 aV 1 v2 fun v3 =>
 bC h v3 fun v4 =>
 bI .i64 v4 fun i5 =>
 aY (bJ env h 23 1 (List.toArray [(0, (Value.int .i64 i5))])) fun v6 h6 =>
 aY (nR env h6 #[23, 23] (List.toArray [r3, v6])) fun v7 h7 =>
 jF 3 r0 r4 fun v8 =>
 aV 0 v8 fun v9 =>
 bC h7 v9 fun v10 =>
 bI .i64 v10 fun i11 =>
 dF (tJ i11 (Int.ofNat 1)) fun b12 =>
 dI b12
 (jF 3 r0 r4 fun v13 =>
 aV 2 v13 fun v14 =>
 bC h7 v14 fun v15 =>
 bI .i64 v15 fun i16 =>
 aY (bJ env h7 23 1 (List.toArray [(0, (Value.int .i64 i16))])) fun v17 h17 =>
 aY (nR env h17 #[23, 23] (List.toArray [v7, v17])) fun v18 h18 =>
 wrap64 (Int.add r4 (Int.ofNat 1)) fun i19 =>
 S 1 (AL.v r0 (AL.v v18 (AL.i i19 AL.n))) h18)
 (wrap64 (Int.add r4 (Int.ofNat 1)) fun i20 =>
 S 1 (AL.v r0 (AL.v v7 (AL.i i20 AL.n))) h7))
 (S 2 (AL.v r3 AL.n) h)
noncomputable def aIG (S : Sg) (r0 : Value) (h : Hp) : aT :=
 S 1 (AL.v r0 (AL.v (Value.slice none 0 0) (AL.i (Int.ofNat 0) AL.n))) h
noncomputable def T43 (S : Sg) : Sg := eF 0 (uV fun r0 => uN fun h => aIG S r0 h) (eF 1 (uV fun r0 => uV fun r3 => uI fun r4 => uN fun h => VO S r0 r3 r4 h) (eF 2 (uV fun r3 => uN fun h => aW2 S r3 h) (kU)))
noncomputable def F43 (args : List Value) (h : Hp) : aT := bV [Kd.v] args fun al => aP T43 1000000 0 al h
def aTK : Nat := 1 + (34 - 1)
theorem bAU (S : Sg) (r3 : Value) (h : Hp) : aW2 S r3 h = aG (cO env VN (aTK)) (dA env Tryz.f43.results.toList) (collect B43 A43 []) 2 S (AL.v r3 AL.n) h := by kernel_rfl
theorem bAV (S : Sg) (r0 : Value) (r3 : Value) (r4 : Int) (h : Hp) : VO S r0 r3 r4 h = aG (cO env VN (aTK)) (dA env Tryz.f43.results.toList) (collect B43 A43 []) 1 S (AL.v r0 (AL.v r3 (AL.i r4 AL.n))) h := by kernel_rfl
theorem bAW (S : Sg) (r0 : Value) (h : Hp) : aIG S r0 h = aG (cO env VN (aTK)) (dA env Tryz.f43.results.toList) (collect B43 A43 []) 0 S (AL.v r0 AL.n) h := by kernel_rfl
theorem t43 (S : Sg) : eZ (fun l vs h => aG (cO env VN aTK) (dA env Tryz.f43.results.toList) (collect B43 A43 []) l S vs h) (T43 S) := by
 unfold T43
 refine eZ.cons 0 (fun iF h q e0 => ?_) ?_
 ·obtain ⟨r0, vs1, rfl, e1⟩ := aH e0
  obtain ⟨rfl, ee⟩ := bB e1
  exact (bAW S r0 h).symm.trans ee
 refine eZ.cons 1 (fun iF h q e0 => ?_) ?_
 ·obtain ⟨r0, vs1, rfl, e1⟩ := aH e0
  obtain ⟨r3, vs2, rfl, e2⟩ := aH e1
  obtain ⟨r4, vs3, rfl, e3⟩ := bH e2
  obtain ⟨rfl, ee⟩ := bB e3
  exact (bAV S r0 r3 r4 h).symm.trans ee
 refine eZ.cons 2 (fun iF h q e0 => ?_) ?_
 ·obtain ⟨r3, vs1, rfl, e1⟩ := aH e0
  obtain ⟨rfl, ee⟩ := bB e1
  exact (bAU S r3 h).symm.trans ee
 exact eZ.nil
theorem r43 : ∀ args h v h', F43 args h = some (v, h') → gG (C55) (.call 43 args.toArray h) (.ret v h') := by
 intro args h v h' e
 exact bY (C := C55) (fn := Tryz.f43) (body := B43) (np := 1) (A := A43) (T := T43) (kinds := [Kd.v]) (by kernel_rfl) (by kernel_rfl) (by kernel_rfl) (by kernel_rfl) (dZ eX) (by kernel_rfl) (fun S => t43 S) e
noncomputable def ED := kM 43 F43 VN
noncomputable def C56 : cB := cfg ED
theorem bKK : C56.Ok := eB (C := C55) bKJ r43
noncomputable def B67 : Code := (Tryz.f67.body).getD .skip
def A67 : aC := (aC.node (some (0, [(0, Kd.v), (1, Kd.v)])) aC.nil (aC.node none (aC.node none aC.nil (aC.node none (aC.node none aC.nil aC.nil) aC.nil)) (aC.node none (aC.node none aC.nil (aC.node none (aC.node (some (1, [(1, Kd.v), (2, Kd.v), (5, Kd.i .i64)])) (aC.node none (aC.node none aC.nil (aC.node none aC.nil aC.nil)) (aC.node none (aC.node none (aC.node none aC.nil (aC.node none (aC.node none aC.nil aC.nil) aC.nil)) aC.nil) aC.nil)) aC.nil) aC.nil)) (aC.node (some (6, [(1, Kd.v), (2, Kd.v)])) aC.nil (aC.node none (aC.node none aC.nil (aC.node none (aC.node (some (2, [(2, Kd.v), (6, Kd.v), (7, Kd.i .i64)])) (aC.node none (aC.node none aC.nil (aC.node none aC.nil aC.nil)) (aC.node none (aC.node none (aC.node none aC.nil (aC.node none (aC.node none aC.nil aC.nil) aC.nil)) aC.nil) aC.nil)) aC.nil) aC.nil)) (aC.node (some (5, [(2, Kd.v), (6, Kd.v)])) (aC.node none aC.nil (aC.node none (aC.node (some (3, [(2, Kd.v), (6, Kd.v), (8, Kd.i .i64)])) (aC.node none (aC.node none aC.nil (aC.node none aC.nil aC.nil)) (aC.node none (aC.node none (aC.node none aC.nil (aC.node none (aC.node none aC.nil aC.nil) aC.nil)) aC.nil) aC.nil)) aC.nil) aC.nil)) (aC.node (some (4, [])) aC.nil aC.nil)))))))
noncomputable def aW3 (S : Sg) (h : Hp) : aT :=
 some ((Value.bool true), h)
noncomputable def VP (S : Sg) (r2 : Value) (r6 : Value) (r8 : Int) (h : Hp) : aT :=
 aV 1 r2 fun v0 =>
 bC h v0 fun v1 =>
 gY v1 fun i2 =>
 dF (nM r8 i2) fun b3 =>
 dI b3
 (bQ 3 h r2 fun v4 =>
 aY (bJ env h 23 1 (List.toArray [(0, (Value.int .i64 r8))])) fun v5 h5 =>
 aY (dD (F52 [v4, v5] h5) fun v => some (v, h5)) fun v6 h6 =>
 bW v6 fun b7 =>
 dI b7
 (aY (dD (F44 [r6, (Value.int .i64 r8)] h6) fun v => some (v, h6)) fun v8 h8 =>
 bW v8 fun b9 =>
 dK b9 fun b10 =>
 dI b10
 (some ((Value.bool false), h8))
 (wrap64 (Int.add r8 (Int.ofNat 1)) fun i11 =>
 S 3 (AL.v r2 (AL.v r6 (AL.i i11 AL.n))) h8))
 (wrap64 (Int.add r8 (Int.ofNat 1)) fun i12 =>
 S 3 (AL.v r2 (AL.v r6 (AL.i i12 AL.n))) h6))
 (S 4 AL.n h)
noncomputable def aIH (S : Sg) (r2 : Value) (r6 : Value) (h : Hp) : aT :=
 S 3 (AL.v r2 (AL.v r6 (AL.i (Int.ofNat 0) AL.n))) h
noncomputable def VQ (S : Sg) (r2 : Value) (r6 : Value) (r7 : Int) (h : Hp) : aT :=
 gY r6 fun i0 =>
 dF (nM r7 i0) fun b1 =>
 dI b1
 (dD (o5 env h 23 r6 none (some (Value.int .i64 r7)) none) fun v2 =>
 jF 1 r6 r7 fun v3 =>
 bC h v3 fun v4 =>
 bI .i64 v4 fun i5 =>
 aY (dD (F44 [v2, (Value.int .i64 i5)] h) fun v => some (v, h)) fun v6 h6 =>
 bW v6 fun b7 =>
 dI b7
 (some ((Value.bool false), h6))
 (wrap64 (Int.add r7 (Int.ofNat 1)) fun i8 =>
 S 2 (AL.v r2 (AL.v r6 (AL.i i8 AL.n))) h6))
 (S 5 (AL.v r2 (AL.v r6 AL.n)) h)
noncomputable def aII (S : Sg) (r1 : Value) (r2 : Value) (h : Hp) : aT :=
 aY (dR F43 [r1] h) fun v0 h0 =>
 S 2 (AL.v r2 (AL.v v0 (AL.i (Int.ofNat 0) AL.n))) h0
noncomputable def VR (S : Sg) (r1 : Value) (r2 : Value) (r5 : Int) (h : Hp) : aT :=
 gY r1 fun i0 =>
 dF (nM r5 i0) fun b1 =>
 dI b1
 (bQ 3 h r2 fun v2 =>
 jF 3 r1 r5 fun v3 =>
 bQ 3 h v3 fun v4 =>
 aY (aY (dR aQC [v2, v4] (Hp.mk (Hp.next h) (Hp.next h) (Hp.aJ h))) fun v _ => dI (jS v) (some (v, h)) none) fun v5 h5 =>
 bW v5 fun b6 =>
 dK b6 fun b7 =>
 dI b7
 (some ((Value.bool false), h5))
 (dF (nM (Int.ofNat 0) r5) fun b8 =>
 dI b8
 (jF 3 r1 r5 fun v9 =>
 aV 1 v9 fun v10 =>
 bC h5 v10 fun v11 =>
 bI .i64 v11 fun i12 =>
 wrap64 (Int.sub r5 (Int.ofNat 1)) fun i13 =>
 jF 3 r1 i13 fun v14 =>
 aV 1 v14 fun v15 =>
 bC h5 v15 fun v16 =>
 bI .i64 v16 fun i17 =>
 dK (nM i17 i12) fun b18 =>
 dI b18
 (some ((Value.bool false), h5))
 (wrap64 (Int.add r5 (Int.ofNat 1)) fun i19 =>
 S 1 (AL.v r1 (AL.v r2 (AL.i i19 AL.n))) h5))
 (wrap64 (Int.add r5 (Int.ofNat 1)) fun i20 =>
 S 1 (AL.v r1 (AL.v r2 (AL.i i20 AL.n))) h5)))
 (S 6 (AL.v r1 (AL.v r2 AL.n)) h)
noncomputable def aIJ (S : Sg) (r0 : Value) (r1 : Value) (h : Hp) : aT :=
 dP h 25 (Array.toList (Value.cells r0)) fun a0 h0 =>
 gY r1 fun i1 =>
 aV 1 a0 fun v2 =>
 bC h0 v2 fun v3 =>
 gY v3 fun i4 =>
 dF (nM i4 i1) fun b5 =>
 dI b5
 (some ((Value.bool false), h0))
 (S 1 (AL.v r1 (AL.v a0 (AL.i (Int.ofNat 0) AL.n))) h0)
noncomputable def RJ (S : Sg) : Sg := eF 0 (uV fun r0 => uV fun r1 => uN fun h => aIJ S r0 r1 h) (eF 1 (uV fun r1 => uV fun r2 => uI fun r5 => uN fun h => VR S r1 r2 r5 h) (eF 6 (uV fun r1 => uV fun r2 => uN fun h => aII S r1 r2 h) (eF 2 (uV fun r2 => uV fun r6 => uI fun r7 => uN fun h => VQ S r2 r6 r7 h) (eF 5 (uV fun r2 => uV fun r6 => uN fun h => aIH S r2 r6 h) (eF 3 (uV fun r2 => uV fun r6 => uI fun r8 => uN fun h => VP S r2 r6 r8 h) (eF 4 (uN fun h => aW3 S  h) (kU)))))))
noncomputable def F67 (args : List Value) (h : Hp) : aT := bV [Kd.v, Kd.v] args fun al => aP RJ 1000000 0 al h
def aBR : Nat := 2 + (79 - 2)
theorem bAY (S : Sg) (h : Hp) : aW3 S  h = aG (cO env ED (aBR)) (dA env Tryz.f67.results.toList) (collect B67 A67 []) 4 S AL.n h := by kernel_rfl
theorem bAZ (S : Sg) (r2 : Value) (r6 : Value) (r8 : Int) (h : Hp) : VP S r2 r6 r8 h = aG (cO env ED (aBR)) (dA env Tryz.f67.results.toList) (collect B67 A67 []) 3 S (AL.v r2 (AL.v r6 (AL.i r8 AL.n))) h := by kernel_rfl
theorem bA0 (S : Sg) (r2 : Value) (r6 : Value) (h : Hp) : aIH S r2 r6 h = aG (cO env ED (aBR)) (dA env Tryz.f67.results.toList) (collect B67 A67 []) 5 S (AL.v r2 (AL.v r6 AL.n)) h := by kernel_rfl
theorem bA1 (S : Sg) (r2 : Value) (r6 : Value) (r7 : Int) (h : Hp) : VQ S r2 r6 r7 h = aG (cO env ED (aBR)) (dA env Tryz.f67.results.toList) (collect B67 A67 []) 2 S (AL.v r2 (AL.v r6 (AL.i r7 AL.n))) h := by kernel_rfl
theorem bA2 (S : Sg) (r1 : Value) (r2 : Value) (h : Hp) : aII S r1 r2 h = aG (cO env ED (aBR)) (dA env Tryz.f67.results.toList) (collect B67 A67 []) 6 S (AL.v r1 (AL.v r2 AL.n)) h := by kernel_rfl
theorem bA3 (S : Sg) (r1 : Value) (r2 : Value) (r5 : Int) (h : Hp) : VR S r1 r2 r5 h = aG (cO env ED (aBR)) (dA env Tryz.f67.results.toList) (collect B67 A67 []) 1 S (AL.v r1 (AL.v r2 (AL.i r5 AL.n))) h := by kernel_rfl
theorem bA4 (S : Sg) (r0 : Value) (r1 : Value) (h : Hp) : aIJ S r0 r1 h = aG (cO env ED (aBR)) (dA env Tryz.f67.results.toList) (collect B67 A67 []) 0 S (AL.v r0 (AL.v r1 AL.n)) h := by kernel_rfl
theorem t67 (S : Sg) : eZ (fun l vs h => aG (cO env ED aBR) (dA env Tryz.f67.results.toList) (collect B67 A67 []) l S vs h) (RJ S) := by
 unfold RJ
 refine eZ.cons 0 (fun iF h q e0 => ?_) ?_
 ·obtain ⟨r0, vs1, rfl, e1⟩ := aH e0
  obtain ⟨r1, vs2, rfl, e2⟩ := aH e1
  obtain ⟨rfl, ee⟩ := bB e2
  exact (bA4 S r0 r1 h).symm.trans ee
 refine eZ.cons 1 (fun iF h q e0 => ?_) ?_
 ·obtain ⟨r1, vs1, rfl, e1⟩ := aH e0
  obtain ⟨r2, vs2, rfl, e2⟩ := aH e1
  obtain ⟨r5, vs3, rfl, e3⟩ := bH e2
  obtain ⟨rfl, ee⟩ := bB e3
  exact (bA3 S r1 r2 r5 h).symm.trans ee
 refine eZ.cons 6 (fun iF h q e0 => ?_) ?_
 ·obtain ⟨r1, vs1, rfl, e1⟩ := aH e0
  obtain ⟨r2, vs2, rfl, e2⟩ := aH e1
  obtain ⟨rfl, ee⟩ := bB e2
  exact (bA2 S r1 r2 h).symm.trans ee
 refine eZ.cons 2 (fun iF h q e0 => ?_) ?_
 ·obtain ⟨r2, vs1, rfl, e1⟩ := aH e0
  obtain ⟨r6, vs2, rfl, e2⟩ := aH e1
  obtain ⟨r7, vs3, rfl, e3⟩ := bH e2
  obtain ⟨rfl, ee⟩ := bB e3
  exact (bA1 S r2 r6 r7 h).symm.trans ee
 refine eZ.cons 5 (fun iF h q e0 => ?_) ?_
 ·obtain ⟨r2, vs1, rfl, e1⟩ := aH e0
  obtain ⟨r6, vs2, rfl, e2⟩ := aH e1
  obtain ⟨rfl, ee⟩ := bB e2
  exact (bA0 S r2 r6 h).symm.trans ee
 refine eZ.cons 3 (fun iF h q e0 => ?_) ?_
 ·obtain ⟨r2, vs1, rfl, e1⟩ := aH e0
  obtain ⟨r6, vs2, rfl, e2⟩ := aH e1
  obtain ⟨r8, vs3, rfl, e3⟩ := bH e2
  obtain ⟨rfl, ee⟩ := bB e3
  exact (bAZ S r2 r6 r8 h).symm.trans ee
 refine eZ.cons 4 (fun iF h q e0 => ?_) ?_
 ·
  obtain ⟨rfl, ee⟩ := bB e0
  exact (bAY S  h).symm.trans ee
 exact eZ.nil
theorem r67 : ∀ args h v h', F67 args h = some (v, h') → gG (C56) (.call 67 args.toArray h) (.ret v h') := by
 intro args h v h' e
 exact bY (C := C56) (fn := Tryz.f67) (body := B67) (np := 2) (A := A67) (T := RJ) (kinds := [Kd.v, Kd.v]) (by kernel_rfl) (by kernel_rfl) (by kernel_rfl) (by kernel_rfl) (dZ eX) (by kernel_rfl) (fun S => t67 S) e
noncomputable def aIK := kM 67 F67 ED
noncomputable def C57 : cB := cfg aIK
theorem bKL : C57.Ok := eB (C := C56) bKK r67
noncomputable def B21 : Code := (Tryz.f21.body).getD .skip
def A21 : aC := (aC.node (some (0, [(0, Kd.v), (1, Kd.v)])) aC.nil (aC.node none aC.nil (aC.node none (aC.node none aC.nil (aC.node none (aC.node none aC.nil aC.nil) aC.nil)) (aC.node none aC.nil aC.nil))))
noncomputable def aIL (S : Sg) (r0 : Value) (r1 : Value) (h : Hp) : aT :=
 dP h 25 (Array.toList (Value.cells r0)) fun a0 h0 =>
 bQ 3 h0 a0 fun v1 =>
 aY (dR F17 [v1] h0) fun v2 h2 =>
 kZ v2 0 fun v3 =>
 bI .i64 v3 fun i4 =>
 kZ v2 1 fun v5 =>
 bI .i64 v5 fun i6 =>
 kZ v2 2 fun v7 =>
 bI .i64 v7 fun i8 =>
 dK (tJ i8 (Int.ofNat 0)) fun b9 =>
 dI b9
 (some (Value.tuple (List.toArray [(Value.bool false), (Value.int .i64 i8)]), h2))
 (bQ 3 h2 a0 fun v10 =>
 aY (dR F67 [v10, r1] h2) fun v11 h11 =>
 bW v11 fun b12 =>
 some (Value.tuple (List.toArray [(Value.bool b12), (Value.int .i64 (Int.ofNat 0))]), h11))
noncomputable def T21 (S : Sg) : Sg := eF 0 (uV fun r0 => uV fun r1 => uN fun h => aIL S r0 r1 h) (kU)
noncomputable def F21 (args : List Value) (h : Hp) : aT := bV [Kd.v, Kd.v] args fun al => aP T21 1000000 0 al h
def bA7 : Nat := 2 + (21 - 2)
theorem bA8 (S : Sg) (r0 : Value) (r1 : Value) (h : Hp) : aIL S r0 r1 h = aG (cO env aIK (bA7)) (dA env Tryz.f21.results.toList) (collect B21 A21 []) 0 S (AL.v r0 (AL.v r1 AL.n)) h := by kernel_rfl
theorem t21 (S : Sg) : eZ (fun l vs h => aG (cO env aIK bA7) (dA env Tryz.f21.results.toList) (collect B21 A21 []) l S vs h) (T21 S) := by
 unfold T21
 refine eZ.cons 0 (fun iF h q e0 => ?_) ?_
 ·obtain ⟨r0, vs1, rfl, e1⟩ := aH e0
  obtain ⟨r1, vs2, rfl, e2⟩ := aH e1
  obtain ⟨rfl, ee⟩ := bB e2
  exact (bA8 S r0 r1 h).symm.trans ee
 exact eZ.nil
theorem r21 : ∀ args h v h', F21 args h = some (v, h') → gG (C57) (.call 21 args.toArray h) (.ret v h') := by
 intro args h v h' e
 exact bY (C := C57) (fn := Tryz.f21) (body := B21) (np := 2) (A := A21) (T := T21) (kinds := [Kd.v, Kd.v]) (by kernel_rfl) (by kernel_rfl) (by kernel_rfl) (by kernel_rfl) (dZ eX) (by kernel_rfl) (fun S => t21 S) e
noncomputable def VS := kM 21 F21 aIK
noncomputable def C58 : cB := cfg VS
theorem bA9 : C58.Ok := eB (C := C57) bKL r21
noncomputable def B3 : Code := (Tryz.f3.body).getD .skip
def A3 : aC := (aC.node (some (0, [(0, Kd.v), (1, Kd.i .i64), (2, Kd.v)])) aC.nil (aC.node none aC.nil (aC.node none aC.nil (aC.node none (aC.node none aC.nil (aC.node none (aC.node none aC.nil aC.nil) aC.nil)) (aC.node (some (2, [(1, Kd.i .i64), (2, Kd.v), (3, Kd.v)])) aC.nil (aC.node none aC.nil (aC.node none (aC.node none aC.nil (aC.node none (aC.node none aC.nil aC.nil) aC.nil)) (aC.node (some (1, [(2, Kd.v), (3, Kd.v)])) aC.nil (aC.node none aC.nil (aC.node none aC.nil aC.nil))))))))))
noncomputable def aTN (S : Sg) (r2 : Value) (r3 : Value) (h : Hp) : aT :=
 bQ 3 h r3 fun v0 =>
 aY (dR F20 [v0, r2] h) fun v1 h1 =>
 kZ v1 0 fun v2 =>
 bW v2 fun b3 =>
 kZ v1 1 fun v4 =>
 bI .i64 v4 fun i5 =>
 bQ 3 h1 r3 fun v6 =>
 aY (dR F21 [v6, r2] h1) fun v7 h7 =>
 kZ v7 0 fun v8 =>
 bW v8 fun b9 =>
 kZ v7 1 fun v10 =>
 bI .i64 v10 fun i11 =>
 dD (nG env .eql 4 (Operand.tmp 72) (Operand.tmp 73) (Value.bool b3) (Value.bool b9)) fun v12 =>
 bW v12 fun b13 =>
 dI b13
 (dF (tJ i5 i11) fun b14 =>
 dI b14
 (aY (dD (aO1 [] h7) fun v => some (v, h7)) fun v15 SB =>
 bW v15 fun b16 =>
 some ((Value.bool b16), SB))
 (some ((Value.bool false), h7)))
 (some ((Value.bool false), h7))
noncomputable def aTO (S : Sg) (r1 : Int) (r2 : Value) (r3 : Value) (h : Hp) : aT :=
 bQ 3 h r3 fun v0 =>
 aY (dR F18 [v0, (Value.int .i64 r1)] h) fun v1 h1 =>
 kZ v1 0 fun v2 =>
 bW v2 fun b3 =>
 kZ v1 1 fun v4 =>
 bI .i64 v4 fun i5 =>
 bQ 3 h1 r3 fun v6 =>
 aY (dR F19 [v6, (Value.int .i64 r1)] h1) fun v7 h7 =>
 kZ v7 0 fun v8 =>
 bW v8 fun b9 =>
 kZ v7 1 fun v10 =>
 bI .i64 v10 fun i11 =>
 dD (nG env .neq 4 (Operand.tmp 52) (Operand.tmp 53) (Value.bool b3) (Value.bool b9)) fun v12 =>
 bW v12 fun b13 =>
 dI b13
 (some ((Value.bool false), h7))
 (dK (tJ i5 i11) fun b14 =>
 dI b14
 (some ((Value.bool false), h7))
 (S 1 (AL.v r2 (AL.v r3 AL.n)) h7))
noncomputable def aTP (S : Sg) (r0 : Value) (r1 : Int) (r2 : Value) (h : Hp) : aT :=
 dP h 25 (Array.toList (Value.cells r0)) fun a0 h0 =>
 bQ 3 h0 a0 fun v1 =>
 aY (dR F16 [v1] h0) fun v2 h2 =>
 kZ v2 0 fun v3 =>
 bI .i64 v3 fun i4 =>
 kZ v2 1 fun v5 =>
 bI .i64 v5 fun i6 =>
 kZ v2 2 fun v7 =>
 bI .i64 v7 fun i8 =>
 bQ 3 h2 a0 fun v9 =>
 aY (dR F17 [v9] h2) fun v10 h10 =>
 kZ v10 0 fun v11 =>
 bI .i64 v11 fun i12 =>
 kZ v10 1 fun v13 =>
 bI .i64 v13 fun i14 =>
 kZ v10 2 fun v15 =>
 bI .i64 v15 fun i16 =>
 dK (tJ i4 i12) fun b17 =>
 dI b17
 (some ((Value.bool false), h10))
 (dK (tJ i6 i14) fun b18 =>
 dI b18
 (some ((Value.bool false), h10))
 (dK (tJ i8 i16) fun b19 =>
 dI b19
 (some ((Value.bool false), h10))
 (S 2 (AL.i r1 (AL.v r2 (AL.v a0 AL.n))) h10)))
noncomputable def T3 (S : Sg) : Sg := eF 0 (uV fun r0 => uI fun r1 => uV fun r2 => uN fun h => aTP S r0 r1 r2 h) (eF 2 (uI fun r1 => uV fun r2 => uV fun r3 => uN fun h => aTO S r1 r2 r3 h) (eF 1 (uV fun r2 => uV fun r3 => uN fun h => aTN S r2 r3 h) (kU)))
noncomputable def F3 (args : List Value) (h : Hp) : aT := bV [Kd.v, Kd.i .i64, Kd.v] args fun al => aP T3 1000000 0 al h
def nt3 : Nat := 3 + (83 - 3)
theorem bKO (S : Sg) (r2 : Value) (r3 : Value) (h : Hp) : aTN S r2 r3 h = aG (cO env VS (nt3)) (dA env Tryz.f3.results.toList) (collect B3 A3 []) 1 S (AL.v r2 (AL.v r3 AL.n)) h := by kernel_rfl
theorem bKP (S : Sg) (r1 : Int) (r2 : Value) (r3 : Value) (h : Hp) : aTO S r1 r2 r3 h = aG (cO env VS (nt3)) (dA env Tryz.f3.results.toList) (collect B3 A3 []) 2 S (AL.i r1 (AL.v r2 (AL.v r3 AL.n))) h := by kernel_rfl
theorem bKQ (S : Sg) (r0 : Value) (r1 : Int) (r2 : Value) (h : Hp) : aTP S r0 r1 r2 h = aG (cO env VS (nt3)) (dA env Tryz.f3.results.toList) (collect B3 A3 []) 0 S (AL.v r0 (AL.i r1 (AL.v r2 AL.n))) h := by kernel_rfl
theorem t3 (S : Sg) : eZ (fun l vs h => aG (cO env VS nt3) (dA env Tryz.f3.results.toList) (collect B3 A3 []) l S vs h) (T3 S) := by
 unfold T3
 refine eZ.cons 0 (fun iF h q e0 => ?_) ?_
 ·obtain ⟨r0, vs1, rfl, e1⟩ := aH e0
  obtain ⟨r1, vs2, rfl, e2⟩ := bH e1
  obtain ⟨r2, vs3, rfl, e3⟩ := aH e2
  obtain ⟨rfl, ee⟩ := bB e3
  exact (bKQ S r0 r1 r2 h).symm.trans ee
 refine eZ.cons 2 (fun iF h q e0 => ?_) ?_
 ·obtain ⟨r1, vs1, rfl, e1⟩ := bH e0
  obtain ⟨r2, vs2, rfl, e2⟩ := aH e1
  obtain ⟨r3, vs3, rfl, e3⟩ := aH e2
  obtain ⟨rfl, ee⟩ := bB e3
  exact (bKP S r1 r2 r3 h).symm.trans ee
 refine eZ.cons 1 (fun iF h q e0 => ?_) ?_
 ·obtain ⟨r2, vs1, rfl, e1⟩ := aH e0
  obtain ⟨r3, vs2, rfl, e2⟩ := aH e1
  obtain ⟨rfl, ee⟩ := bB e2
  exact (bKO S r2 r3 h).symm.trans ee
 exact eZ.nil
theorem r3 : ∀ args h v h', F3 args h = some (v, h') → gG (C58) (.call 3 args.toArray h) (.ret v h') := by
 intro args h v h' e
 exact bY (C := C58) (fn := Tryz.f3) (body := B3) (np := 3) (A := A3) (T := T3) (kinds := [Kd.v, Kd.i .i64, Kd.v]) (by kernel_rfl) (by kernel_rfl) (by kernel_rfl) (by kernel_rfl) (dZ eX) (by kernel_rfl) (fun S => t3 S) e
noncomputable def aW4 := kM 3 F3 VS
noncomputable def C59 : cB := cfg aW4
theorem bKR : C59.Ok := eB (C := C58) bA9 r3
noncomputable abbrev a04 := aW4
theorem bOS : (cfg a04).Ok := bKR
end Go.Proofs.YtgjdokjoejhepaaGreatDoor.K.L
