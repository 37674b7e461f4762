/- Functions told for the laws. -/
import Derived.Test.YtepepiajmdpiiaaPlAwake
open Go Go.Eng
set_option maxRecDepth 100000
set_option linter.unusedVariables false
namespace Go.Proofs.Ytepepiajmdpiiaa.K.L
noncomputable def aGI : List Value → Hp → Option Value := LA (.bool true)
theorem a2M : PSound Try.prog 21 aGI := aU4
noncomputable def aLW : PF := J9 21 aGI a1U
theorem aLX : fO Try.prog aLW := jT a2M aU0
noncomputable def aQ8 := pI 21 aGI aLV
noncomputable def C39 : dK := cfg aQ8
theorem bEM : C39.Ok := iB (C := C38) a2K a2M
noncomputable def B55 : Code := (Try.f55.body).getD .skip
noncomputable def A55 : G.aB (List KI) := (G.aB.node (some (0, [KI.reg 0 (Kd.i .i64), KI.reg 1 (Kd.i .i64), KI.reg 2 (Kd.i .i64)])) G.aB.nil (G.aB.node none G.aB.nil G.aB.nil))
noncomputable def aEB (h : Hp) (S : Nat → aC → Option Value) (r0 : Int) (r1 : Int) (r2 : Int) : Option Value :=
 bZ (oN r0 r1) fun b0 =>
 dJ b0
 (bZ (oN r2 r0) fun b1 =>
 some (Value.bool b1))
 (some (Value.bool false))
noncomputable def T55 (h : Hp) (S : Nat → aC → Option Value) : Nat → aC → Option Value := eG 0 (wI fun r0 => wI fun r1 => wI fun r2 => wN (aEB h S r0 r1 r2)) (l9)
noncomputable def F55 (args : List Value) (h : Hp) : Option Value := plainO (eX [Kd.i .i64, Kd.i .i64, Kd.i .i64] args fun al => G.aK (T55 h) 1000000 0 al)
def a2N : Nat := 3 + (15 - 3)
theorem a2O (h : Hp) (S : Nat → aC → Option Value) (r0 : Int) (r1 : Int) (r2 : Int) : aEB h S r0 r1 r2 = G.aF bP aP fA (fB env aLW a2N h) (fG env Try.f55.results.toList) (G.collect B55 A55 []) 0 S (aC.i r0 (aC.i r1 (aC.i r2 aC.n))) := by kernel_rfl
theorem t55 (h : Hp) (S : Nat → aC → Option Value) : dI (fun l al => G.aF bP aP fA (fB env aLW a2N h) (fG env Try.f55.results.toList) (G.collect B55 A55 []) l S al) (T55 h S) := by
 unfold T55
 refine dI.cons 0 (fun gF q e0 => ?_) ?_
 ·obtain ⟨r0, vs1, rfl, e1⟩ := aS e0
  obtain ⟨r1, vs2, rfl, e2⟩ := aS e1
  obtain ⟨r2, vs3, rfl, e3⟩ := aS e2
  obtain ⟨rfl, ee⟩ := bM e3
  exact (a2O h S r0 r1 r2).symm.trans ee
 exact dI.nil
theorem r55 : PSound Try.prog 55 F55 := dW (C := C0) ok0 (pf := aLW) aLX (fn := Try.f55) (body := B55) (kinds := [Kd.i .i64, Kd.i .i64, Kd.i .i64]) (A := A55) (T := T55) (by kernel_rfl) (by kernel_rfl) (by kernel_rfl) (by kernel_rfl) (fun h S => t55 h S)
noncomputable def aBE : PF := J9 55 F55 aLW
theorem aLY : fO Try.prog aBE := jT r55 aLX
noncomputable def aQ9 := pI 55 F55 aQ8
noncomputable def C40 : dK := cfg aQ9
theorem bEP : C40.Ok := iB (C := C39) bEM r55
noncomputable def B50 : Code := (Try.f50.body).getD .skip
noncomputable def A50 : G.aB (List KI) := (G.aB.node (some (0, [KI.reg 0 (Kd.v), KI.reg 1 (Kd.i .i64), KI.reg 2 (Kd.i .i64)])) G.aB.nil (G.aB.node none (G.aB.node none G.aB.nil (G.aB.node none (G.aB.node none G.aB.nil G.aB.nil) G.aB.nil)) (G.aB.node none (G.aB.node none G.aB.nil (G.aB.node none (G.aB.node (some (1, [KI.reg 0 (Kd.v), KI.reg 2 (Kd.i .i64), KI.reg 8 (Kd.i .i64)])) (G.aB.node none (G.aB.node none G.aB.nil (G.aB.node none G.aB.nil G.aB.nil)) (G.aB.node none (G.aB.node none (G.aB.node none G.aB.nil (G.aB.node none (G.aB.node none G.aB.nil G.aB.nil) G.aB.nil)) G.aB.nil) G.aB.nil)) G.aB.nil) G.aB.nil)) (G.aB.node (some (2, [])) G.aB.nil G.aB.nil))))
noncomputable def aRA (h : Hp) (S : Nat → aC → Option Value) : Option Value :=
 some (Value.tuple (List.toArray [(Value.int .i64 (Int.ofNat 0)), (Value.int .i64 (Int.ofNat 0))]))
noncomputable def WU (h : Hp) (S : Nat → aC → Option Value) (r0 : Value) (r2 : Int) (r8 : Int) : Option Value :=
 eO r0 fun i0 =>
 dL (oN r8 i0) fun b1 =>
 dJ b1
 (eU 1 r0 r8 fun v2 =>
 aQ h v2 fun v3 =>
 aY .i64 v3 fun i4 =>
 dG (F55 [(Value.int .i64 i4), (Value.int .i64 (Int.ofNat 0)), (Value.int .i64 r2)] h) fun v5 =>
 eZ v5 fun b6 =>
 bZ b6 fun b7 =>
 dJ b7
 (some (Value.tuple (List.toArray [(Value.int .i64 r8), (Value.int .i64 (Int.ofNat 7))])))
 (wrap64 (Int.add r8 (Int.ofNat 1)) fun i8 =>
 S 1 (aC.v r0 (aC.i r2 (aC.i i8 aC.n)))))
 (S 2 aC.n)
noncomputable def aCN (h : Hp) (S : Nat → aC → Option Value) (r0 : Value) (r1 : Int) (r2 : Int) : Option Value :=
 eO r0 fun i0 =>
 dG (F55 [(Value.int .i64 i0), (Value.int .i64 (Int.ofNat 1)), (Value.int .i64 r1)] h) fun v1 =>
 eZ v1 fun b2 =>
 bZ b2 fun b3 =>
 dJ b3
 (some (Value.tuple (List.toArray [(Value.int .i64 (Int.ofNat 0)), (Value.int .i64 (Int.ofNat 3))])))
 (S 1 (aC.v r0 (aC.i r2 (aC.i (Int.ofNat 0) aC.n))))
noncomputable def T50 (h : Hp) (S : Nat → aC → Option Value) : Nat → aC → Option Value := eG 0 (wV fun r0 => wI fun r1 => wI fun r2 => wN (aCN h S r0 r1 r2)) (eG 1 (wV fun r0 => wI fun r2 => wI fun r8 => wN (WU h S r0 r2 r8)) (eG 2 (wN (aRA h S)) (l9)))
noncomputable def F50 (args : List Value) (h : Hp) : Option Value := plainO (eX [Kd.v, Kd.i .i64, Kd.i .i64] args fun al => G.aK (T50 h) 1000000 0 al)
def aO9 : Nat := 3 + (28 - 3)
theorem a2R (h : Hp) (S : Nat → aC → Option Value) : aRA h S = G.aF bP aP fA (fB env aBE aO9 h) (fG env Try.f50.results.toList) (G.collect B50 A50 []) 2 S aC.n := by kernel_rfl
theorem a2S (h : Hp) (S : Nat → aC → Option Value) (r0 : Value) (r2 : Int) (r8 : Int) : WU h S r0 r2 r8 = G.aF bP aP fA (fB env aBE aO9 h) (fG env Try.f50.results.toList) (G.collect B50 A50 []) 1 S (aC.v r0 (aC.i r2 (aC.i r8 aC.n))) := by kernel_rfl
theorem a2T (h : Hp) (S : Nat → aC → Option Value) (r0 : Value) (r1 : Int) (r2 : Int) : aCN h S r0 r1 r2 = G.aF bP aP fA (fB env aBE aO9 h) (fG env Try.f50.results.toList) (G.collect B50 A50 []) 0 S (aC.v r0 (aC.i r1 (aC.i r2 aC.n))) := by kernel_rfl
theorem t50 (h : Hp) (S : Nat → aC → Option Value) : dI (fun l al => G.aF bP aP fA (fB env aBE aO9 h) (fG env Try.f50.results.toList) (G.collect B50 A50 []) l S al) (T50 h S) := by
 unfold T50
 refine dI.cons 0 (fun gF q e0 => ?_) ?_
 ·obtain ⟨r0, vs1, rfl, e1⟩ := bB e0
  obtain ⟨r1, vs2, rfl, e2⟩ := aS e1
  obtain ⟨r2, vs3, rfl, e3⟩ := aS e2
  obtain ⟨rfl, ee⟩ := bM e3
  exact (a2T h S r0 r1 r2).symm.trans ee
 refine dI.cons 1 (fun gF q e0 => ?_) ?_
 ·obtain ⟨r0, vs1, rfl, e1⟩ := bB e0
  obtain ⟨r2, vs2, rfl, e2⟩ := aS e1
  obtain ⟨r8, vs3, rfl, e3⟩ := aS e2
  obtain ⟨rfl, ee⟩ := bM e3
  exact (a2S h S r0 r2 r8).symm.trans ee
 refine dI.cons 2 (fun gF q e0 => ?_) ?_
 ·
  obtain ⟨rfl, ee⟩ := bM e0
  exact (a2R h S).symm.trans ee
 exact dI.nil
theorem r50 : PSound Try.prog 50 F50 := dW (C := C0) ok0 (pf := aBE) aLY (fn := Try.f50) (body := B50) (kinds := [Kd.v, Kd.i .i64, Kd.i .i64]) (A := A50) (T := T50) (by kernel_rfl) (by kernel_rfl) (by kernel_rfl) (by kernel_rfl) (fun h S => t50 h S)
noncomputable def aLZ : PF := J9 50 F50 aBE
theorem aL0 : fO Try.prog aLZ := jT r50 aLY
noncomputable def aRB := pI 50 F50 aQ9
noncomputable def C41 : dK := cfg aRB
theorem bEQ : C41.Ok := iB (C := C40) bEP r50
noncomputable def aU5 : Code := (Try.f117.body).getD .skip
noncomputable def aU6 : G.aB (List KI) := (G.aB.node (some (0, [KI.reg 0 (Kd.i .i64), KI.reg 1 (Kd.i .i64), KI.reg 2 (Kd.i .i64)])) G.aB.nil (G.aB.node none G.aB.nil G.aB.nil))
noncomputable def UN (h : Hp) (S : Nat → aC → Option Value) (r0 : Int) (r1 : Int) (r2 : Int) : Option Value :=
 bZ (oN r0 r1) fun b0 =>
 dJ b0
 (bZ (oN r2 r0) fun b1 =>
 some (Value.bool b1))
 (some (Value.bool false))
noncomputable def aKQ (h : Hp) (S : Nat → aC → Option Value) : Nat → aC → Option Value := eG 0 (wI fun r0 => wI fun r1 => wI fun r2 => wN (UN h S r0 r1 r2)) (l9)
noncomputable def aGX (args : List Value) (h : Hp) : Option Value := plainO (eX [Kd.i .i64, Kd.i .i64, Kd.i .i64] args fun al => G.aK (aKQ h) 1000000 0 al)
def aRC : Nat := 3 + (15 - 3)
theorem aU7 (h : Hp) (S : Nat → aC → Option Value) (r0 : Int) (r1 : Int) (r2 : Int) : UN h S r0 r1 r2 = G.aF bP aP fA (fB env aLZ aRC h) (fG env Try.f117.results.toList) (G.collect aU5 aU6 []) 0 S (aC.i r0 (aC.i r1 (aC.i r2 aC.n))) := by kernel_rfl
theorem t117 (h : Hp) (S : Nat → aC → Option Value) : dI (fun l al => G.aF bP aP fA (fB env aLZ aRC h) (fG env Try.f117.results.toList) (G.collect aU5 aU6 []) l S al) (aKQ h S) := by
 unfold aKQ
 refine dI.cons 0 (fun gF q e0 => ?_) ?_
 ·obtain ⟨r0, vs1, rfl, e1⟩ := aS e0
  obtain ⟨r1, vs2, rfl, e2⟩ := aS e1
  obtain ⟨r2, vs3, rfl, e3⟩ := aS e2
  obtain ⟨rfl, ee⟩ := bM e3
  exact (aU7 h S r0 r1 r2).symm.trans ee
 exact dI.nil
theorem a2U : PSound Try.prog 117 aGX := dW (C := C0) ok0 (pf := aLZ) aL0 (fn := Try.f117) (body := aU5) (kinds := [Kd.i .i64, Kd.i .i64, Kd.i .i64]) (A := aU6) (T := aKQ) (by kernel_rfl) (by kernel_rfl) (by kernel_rfl) (by kernel_rfl) (fun h S => t117 h S)
noncomputable def UT : PF := J9 117 aGX aLZ
theorem aL1 : fO Try.prog UT := jT a2U aL0
noncomputable def aRD := pI 117 aGX aRB
noncomputable def C42 : dK := cfg aRD
theorem bER : C42.Ok := iB (C := C41) bEQ a2U
noncomputable def aBF : Code := (Try.f109.body).getD .skip
noncomputable def aBG : G.aB (List KI) := (G.aB.node (some (0, [KI.reg 0 (Kd.v)])) G.aB.nil (G.aB.node none (G.aB.node none G.aB.nil (G.aB.node none (G.aB.node none G.aB.nil G.aB.nil) G.aB.nil)) (G.aB.node none (G.aB.node none G.aB.nil (G.aB.node none (G.aB.node (some (1, [KI.reg 0 (Kd.v), KI.reg 3 (Kd.i .i64)])) (G.aB.node none (G.aB.node none G.aB.nil (G.aB.node none G.aB.nil G.aB.nil)) (G.aB.node none (G.aB.node none (G.aB.node none G.aB.nil (G.aB.node none G.aB.nil (G.aB.node (some (2, [KI.reg 0 (Kd.v), KI.reg 3 (Kd.i .i64), KI.reg 4 (Kd.b), KI.reg 5 (Kd.b)])) G.aB.nil (G.aB.node none (G.aB.node none G.aB.nil G.aB.nil) G.aB.nil)))) G.aB.nil) (G.aB.node (some (3, [KI.reg 0 (Kd.v), KI.reg 3 (Kd.i .i64)])) G.aB.nil G.aB.nil))) G.aB.nil) G.aB.nil)) (G.aB.node (some (4, [])) G.aB.nil G.aB.nil))))
noncomputable def aL2 (h : Hp) (S : Nat → aC → Option Value) : Option Value :=
 some (Value.bool true)
noncomputable def UO (h : Hp) (S : Nat → aC → Option Value) (r0 : Value) (r3 : Int) : Option Value :=
 wrap64 (Int.add r3 (Int.ofNat 1)) fun i0 =>
 S 1 (aC.v r0 (aC.i i0 aC.n))
noncomputable def OA (h : Hp) (S : Nat → aC → Option Value) (r0 : Value) (r3 : Int) (r4 : Bool) (r5 : Bool) : Option Value :=
 bZ r4 fun b0 =>
 dJ b0
 (dL (nK r3 (Int.ofNat 0)) fun b1 =>
 dJ b1
 (some (Value.bool false))
 (bZ r5 fun b2 =>
 dJ b2
 (some (Value.bool false))
 (S 3 (aC.v r0 (aC.i r3 aC.n)))))
 (S 3 (aC.v r0 (aC.i r3 aC.n)))
noncomputable def IB (h : Hp) (S : Nat → aC → Option Value) (r0 : Value) (r3 : Int) : Option Value :=
 IZ r0 fun i0 =>
 dL (oN r3 i0) fun b1 =>
 dJ b1
 (dG (kL env 9 r0 (Value.int .i64 r3)) fun v2 =>
 aY .u8 v2 fun i3 =>
 wrap64 i3 fun i4 =>
 dG (aGX [(Value.int .i64 i4), (Value.int .i64 (Int.ofNat 97)), (Value.int .i64 (Int.ofNat 122))] h) fun v5 =>
 eZ v5 fun b6 =>
 dG (kL env 9 r0 (Value.int .i64 r3)) fun v7 =>
 aY .u8 v7 fun i8 =>
 wrap64 i8 fun i9 =>
 dG (aGX [(Value.int .i64 i9), (Value.int .i64 (Int.ofNat 48)), (Value.int .i64 (Int.ofNat 57))] h) fun v10 =>
 eZ v10 fun b11 =>
 dJ b11
 (S 2 (aC.v r0 (aC.i r3 (aC.b b6 (aC.b true aC.n)))))
 (dG (kL env 9 r0 (Value.int .i64 r3)) fun v12 =>
 aY .u8 v12 fun i13 =>
 dL (nK i13 (Int.ofNat 46)) fun b14 =>
 S 2 (aC.v r0 (aC.i r3 (aC.b b6 (aC.b b14 aC.n))))))
 (S 4 aC.n)
noncomputable def UQ (h : Hp) (S : Nat → aC → Option Value) (r0 : Value) : Option Value :=
 IZ r0 fun i0 =>
 dL (nK i0 (Int.ofNat 0)) fun b1 =>
 dJ b1
 (some (Value.bool false))
 (IZ r0 fun i2 =>
 dL (oN (Int.ofNat 16) i2) fun b3 =>
 dJ b3
 (some (Value.bool false))
 (S 1 (aC.v r0 (aC.i (Int.ofNat 0) aC.n))))
noncomputable def xO (h : Hp) (S : Nat → aC → Option Value) : Nat → aC → Option Value := eG 0 (wV fun r0 => wN (UQ h S r0)) (eG 1 (wV fun r0 => wI fun r3 => wN (IB h S r0 r3)) (eG 2 (wV fun r0 => wI fun r3 => wB fun r4 => wB fun r5 => wN (OA h S r0 r3 r4 r5)) (eG 3 (wV fun r0 => wI fun r3 => wN (UO h S r0 r3)) (eG 4 (wN (aL2 h S)) (l9)))))
noncomputable def aKS (args : List Value) (h : Hp) : Option Value := plainO (eX [Kd.v] args fun al => G.aK (xO h) 1000000 0 al)
def Q9 : Nat := 1 + (46 - 1)
theorem aU8 (h : Hp) (S : Nat → aC → Option Value) : aL2 h S = G.aF bP aP fA (fB env UT Q9 h) (fG env Try.f109.results.toList) (G.collect aBF aBG []) 4 S aC.n := by kernel_rfl
theorem aU9 (h : Hp) (S : Nat → aC → Option Value) (r0 : Value) (r3 : Int) : UO h S r0 r3 = G.aF bP aP fA (fB env UT Q9 h) (fG env Try.f109.results.toList) (G.collect aBF aBG []) 3 S (aC.v r0 (aC.i r3 aC.n)) := by kernel_rfl
theorem aVA (h : Hp) (S : Nat → aC → Option Value) (r0 : Value) (r3 : Int) (r4 : Bool) (r5 : Bool) : OA h S r0 r3 r4 r5 = G.aF bP aP fA (fB env UT Q9 h) (fG env Try.f109.results.toList) (G.collect aBF aBG []) 2 S (aC.v r0 (aC.i r3 (aC.b r4 (aC.b r5 aC.n)))) := by kernel_rfl
theorem aVB (h : Hp) (S : Nat → aC → Option Value) (r0 : Value) (r3 : Int) : IB h S r0 r3 = G.aF bP aP fA (fB env UT Q9 h) (fG env Try.f109.results.toList) (G.collect aBF aBG []) 1 S (aC.v r0 (aC.i r3 aC.n)) := by kernel_rfl
theorem aVC (h : Hp) (S : Nat → aC → Option Value) (r0 : Value) : UQ h S r0 = G.aF bP aP fA (fB env UT Q9 h) (fG env Try.f109.results.toList) (G.collect aBF aBG []) 0 S (aC.v r0 aC.n) := by kernel_rfl
theorem t109 (h : Hp) (S : Nat → aC → Option Value) : dI (fun l al => G.aF bP aP fA (fB env UT Q9 h) (fG env Try.f109.results.toList) (G.collect aBF aBG []) l S al) (xO h S) := by
 unfold xO
 refine dI.cons 0 (fun gF q e0 => ?_) ?_
 ·obtain ⟨r0, vs1, rfl, e1⟩ := bB e0
  obtain ⟨rfl, ee⟩ := bM e1
  exact (aVC h S r0).symm.trans ee
 refine dI.cons 1 (fun gF q e0 => ?_) ?_
 ·obtain ⟨r0, vs1, rfl, e1⟩ := bB e0
  obtain ⟨r3, vs2, rfl, e2⟩ := aS e1
  obtain ⟨rfl, ee⟩ := bM e2
  exact (aVB h S r0 r3).symm.trans ee
 refine dI.cons 2 (fun gF q e0 => ?_) ?_
 ·obtain ⟨r0, vs1, rfl, e1⟩ := bB e0
  obtain ⟨r3, vs2, rfl, e2⟩ := aS e1
  obtain ⟨r4, vs3, rfl, e3⟩ := lN e2
  obtain ⟨r5, tY, rfl, e4⟩ := lN e3
  obtain ⟨rfl, ee⟩ := bM e4
  exact (aVA h S r0 r3 r4 r5).symm.trans ee
 refine dI.cons 3 (fun gF q e0 => ?_) ?_
 ·obtain ⟨r0, vs1, rfl, e1⟩ := bB e0
  obtain ⟨r3, vs2, rfl, e2⟩ := aS e1
  obtain ⟨rfl, ee⟩ := bM e2
  exact (aU9 h S r0 r3).symm.trans ee
 refine dI.cons 4 (fun gF q e0 => ?_) ?_
 ·
  obtain ⟨rfl, ee⟩ := bM e0
  exact (aU8 h S).symm.trans ee
 exact dI.nil
theorem a2V : PSound Try.prog 109 aKS := dW (C := C0) ok0 (pf := UT) aL1 (fn := Try.f109) (body := aBF) (kinds := [Kd.v]) (A := aBG) (T := xO) (by kernel_rfl) (by kernel_rfl) (by kernel_rfl) (by kernel_rfl) (fun h S => t109 h S)
noncomputable def aBH : PF := J9 109 aKS UT
theorem aL3 : fO Try.prog aBH := jT a2V aL1
noncomputable def aRE := pI 109 aKS aRD
noncomputable def C43 : dK := cfg aRE
theorem bES : C43.Ok := iB (C := C42) bER a2V
noncomputable def aL4 : Code := (Try.f110.body).getD .skip
noncomputable def aL5 : G.aB (List KI) := (G.aB.node (some (0, [KI.reg 0 (Kd.v), KI.reg 1 (Kd.v)])) G.aB.nil (G.aB.node none (G.aB.node none G.aB.nil (G.aB.node none (G.aB.node (some (1, [KI.reg 0 (Kd.v), KI.reg 1 (Kd.v), KI.reg 5 (Kd.i .i64)])) (G.aB.node none (G.aB.node none G.aB.nil (G.aB.node none G.aB.nil G.aB.nil)) (G.aB.node none (G.aB.node none (G.aB.node none G.aB.nil (G.aB.node none (G.aB.node none G.aB.nil G.aB.nil) G.aB.nil)) G.aB.nil) G.aB.nil)) G.aB.nil) G.aB.nil)) (G.aB.node (some (2, [])) G.aB.nil G.aB.nil)))
noncomputable def aL6 (h : Hp) (S : Nat → aC → Option Value) : Option Value :=
 some (Value.int .i64 (Int.negSucc 0))
noncomputable def IC (h : Hp) (S : Nat → aC → Option Value) (r0 : Value) (r1 : Value) (r5 : Int) : Option Value :=
 eO r0 fun i0 =>
 dL (oN r5 i0) fun b1 =>
 dJ b1
 (eU 1 r0 r5 fun v2 =>
 aQ h v2 fun v3 =>
 dG (qG env .eql 9 (Operand.tmp 15) (Operand.tmp 16) v3 r1) fun v4 =>
 eZ v4 fun b5 =>
 dJ b5
 (some (Value.int .i64 r5))
 (wrap64 (Int.add r5 (Int.ofNat 1)) fun i6 =>
 S 1 (aC.v r0 (aC.v r1 (aC.i i6 aC.n)))))
 (S 2 aC.n)
noncomputable def UR (h : Hp) (S : Nat → aC → Option Value) (r0 : Value) (r1 : Value) : Option Value :=
 S 1 (aC.v r0 (aC.v r1 (aC.i (Int.ofNat 0) aC.n)))
noncomputable def OP (h : Hp) (S : Nat → aC → Option Value) : Nat → aC → Option Value := eG 0 (wV fun r0 => wV fun r1 => wN (UR h S r0 r1)) (eG 1 (wV fun r0 => wV fun r1 => wI fun r5 => wN (IC h S r0 r1 r5)) (eG 2 (wN (aL6 h S)) (l9)))
noncomputable def aKT (args : List Value) (h : Hp) : Option Value := plainO (eX [Kd.v, Kd.v] args fun al => G.aK (OP h) 1000000 0 al)
def aEV : Nat := 2 + (19 - 2)
theorem aVD (h : Hp) (S : Nat → aC → Option Value) : aL6 h S = G.aF bP aP fA (fB env aBH aEV h) (fG env Try.f110.results.toList) (G.collect aL4 aL5 []) 2 S aC.n := by kernel_rfl
theorem aVE (h : Hp) (S : Nat → aC → Option Value) (r0 : Value) (r1 : Value) (r5 : Int) : IC h S r0 r1 r5 = G.aF bP aP fA (fB env aBH aEV h) (fG env Try.f110.results.toList) (G.collect aL4 aL5 []) 1 S (aC.v r0 (aC.v r1 (aC.i r5 aC.n))) := by kernel_rfl
theorem aVF (h : Hp) (S : Nat → aC → Option Value) (r0 : Value) (r1 : Value) : UR h S r0 r1 = G.aF bP aP fA (fB env aBH aEV h) (fG env Try.f110.results.toList) (G.collect aL4 aL5 []) 0 S (aC.v r0 (aC.v r1 aC.n)) := by kernel_rfl
theorem t110 (h : Hp) (S : Nat → aC → Option Value) : dI (fun l al => G.aF bP aP fA (fB env aBH aEV h) (fG env Try.f110.results.toList) (G.collect aL4 aL5 []) l S al) (OP h S) := by
 unfold OP
 refine dI.cons 0 (fun gF q e0 => ?_) ?_
 ·obtain ⟨r0, vs1, rfl, e1⟩ := bB e0
  obtain ⟨r1, vs2, rfl, e2⟩ := bB e1
  obtain ⟨rfl, ee⟩ := bM e2
  exact (aVF h S r0 r1).symm.trans ee
 refine dI.cons 1 (fun gF q e0 => ?_) ?_
 ·obtain ⟨r0, vs1, rfl, e1⟩ := bB e0
  obtain ⟨r1, vs2, rfl, e2⟩ := bB e1
  obtain ⟨r5, vs3, rfl, e3⟩ := aS e2
  obtain ⟨rfl, ee⟩ := bM e3
  exact (aVE h S r0 r1 r5).symm.trans ee
 refine dI.cons 2 (fun gF q e0 => ?_) ?_
 ·
  obtain ⟨rfl, ee⟩ := bM e0
  exact (aVD h S).symm.trans ee
 exact dI.nil
theorem a2W : PSound Try.prog 110 aKT := dW (C := C0) ok0 (pf := aBH) aL3 (fn := Try.f110) (body := aL4) (kinds := [Kd.v, Kd.v]) (A := aL5) (T := OP) (by kernel_rfl) (by kernel_rfl) (by kernel_rfl) (by kernel_rfl) (fun h S => t110 h S)
noncomputable def aL7 : PF := J9 110 aKT aBH
theorem aL8 : fO Try.prog aL7 := jT a2W aL3
noncomputable def aRF := pI 110 aKT aRE
noncomputable def C44 : dK := cfg aRF
theorem bET : C44.Ok := iB (C := C43) bES a2W
noncomputable def B88 : Code := (Try.f88.body).getD .skip
noncomputable def A88 : G.aB (List KI) := (G.aB.node (some (0, [KI.reg 0 (Kd.v), KI.reg 1 (Kd.v)])) G.aB.nil (G.aB.node none (G.aB.node none G.aB.nil (G.aB.node none (G.aB.node none G.aB.nil G.aB.nil) G.aB.nil)) (G.aB.node none (G.aB.node none G.aB.nil (G.aB.node none (G.aB.node none G.aB.nil G.aB.nil) G.aB.nil)) (G.aB.node none G.aB.nil G.aB.nil))))
noncomputable def aEC (h : Hp) (S : Nat → aC → Option Value) (r0 : Value) (r1 : Value) : Option Value :=
 dG (aKS [r0] h) fun v0 =>
 eZ v0 fun b1 =>
 bZ b1 fun b2 =>
 dJ b2
 (some (Value.int .i64 (Int.ofNat 6)))
 (dG (aKT [r1, r0] h) fun v3 =>
 aY .i64 v3 fun i4 =>
 bZ (oN i4 (Int.ofNat 0)) fun b5 =>
 dJ b5
 (some (Value.int .i64 (Int.ofNat 5)))
 (some (Value.int .i64 (Int.ofNat 0))))
noncomputable def T88 (h : Hp) (S : Nat → aC → Option Value) : Nat → aC → Option Value := eG 0 (wV fun r0 => wV fun r1 => wN (aEC h S r0 r1)) (l9)
noncomputable def F88 (args : List Value) (h : Hp) : Option Value := plainO (eX [Kd.v, Kd.v] args fun al => G.aK (T88 h) 1000000 0 al)
def a2X : Nat := 2 + (12 - 2)
theorem a2Y (h : Hp) (S : Nat → aC → Option Value) (r0 : Value) (r1 : Value) : aEC h S r0 r1 = G.aF bP aP fA (fB env aL7 a2X h) (fG env Try.f88.results.toList) (G.collect B88 A88 []) 0 S (aC.v r0 (aC.v r1 aC.n)) := by kernel_rfl
theorem t88 (h : Hp) (S : Nat → aC → Option Value) : dI (fun l al => G.aF bP aP fA (fB env aL7 a2X h) (fG env Try.f88.results.toList) (G.collect B88 A88 []) l S al) (T88 h S) := by
 unfold T88
 refine dI.cons 0 (fun gF q e0 => ?_) ?_
 ·obtain ⟨r0, vs1, rfl, e1⟩ := bB e0
  obtain ⟨r1, vs2, rfl, e2⟩ := bB e1
  obtain ⟨rfl, ee⟩ := bM e2
  exact (a2Y h S r0 r1).symm.trans ee
 exact dI.nil
theorem r88 : PSound Try.prog 88 F88 := dW (C := C0) ok0 (pf := aL7) aL8 (fn := Try.f88) (body := B88) (kinds := [Kd.v, Kd.v]) (A := A88) (T := T88) (by kernel_rfl) (by kernel_rfl) (by kernel_rfl) (by kernel_rfl) (fun h S => t88 h S)
noncomputable def IE : PF := J9 88 F88 aL7
theorem aL9 : fO Try.prog IE := jT r88 aL8
noncomputable def aRG := pI 88 F88 aRF
noncomputable def C45 : dK := cfg aRG
theorem bEW : C45.Ok := iB (C := C44) bET r88
noncomputable def B89 : Code := (Try.f89.body).getD .skip
noncomputable def A89 : G.aB (List KI) := (G.aB.node (some (0, [KI.reg 0 (Kd.v), KI.reg 1 (Kd.v), KI.reg 2 (Kd.b)])) G.aB.nil (G.aB.node none (G.aB.node none G.aB.nil (G.aB.node none (G.aB.node none G.aB.nil G.aB.nil) G.aB.nil)) (G.aB.node none (G.aB.node none G.aB.nil (G.aB.node none (G.aB.node (some (1, [KI.reg 2 (Kd.b), KI.loc 3 3, KI.loc 4 4, KI.reg 7 (Kd.i .i64), KI.cells 3 [Kd.v, Kd.v, Kd.v, Kd.v], KI.cells 4 [Kd.v, Kd.v, Kd.i .i64]])) (G.aB.node none (G.aB.node none G.aB.nil (G.aB.node none G.aB.nil G.aB.nil)) (G.aB.node none (G.aB.node none (G.aB.node none G.aB.nil (G.aB.node (some (2, [KI.reg 2 (Kd.b), KI.loc 3 3, KI.loc 4 4, KI.reg 7 (Kd.i .i64), KI.reg 8 (Kd.b), KI.cells 3 [Kd.v, Kd.v, Kd.v, Kd.v], KI.cells 4 [Kd.v, Kd.v, Kd.i .i64]])) G.aB.nil (G.aB.node none (G.aB.node none G.aB.nil G.aB.nil) G.aB.nil))) G.aB.nil) (G.aB.node (some (3, [KI.reg 2 (Kd.b), KI.loc 3 3, KI.loc 4 4, KI.reg 7 (Kd.i .i64), KI.cells 3 [Kd.v, Kd.v, Kd.v, Kd.v], KI.cells 4 [Kd.v, Kd.v, Kd.i .i64]])) G.aB.nil G.aB.nil))) G.aB.nil) G.aB.nil)) (G.aB.node (some (8, [KI.reg 2 (Kd.b), KI.loc 4 4, KI.cells 4 [Kd.v, Kd.v, Kd.i .i64]])) (G.aB.node none G.aB.nil (G.aB.node none (G.aB.node (some (4, [KI.reg 2 (Kd.b), KI.loc 4 4, KI.reg 9 (Kd.i .i64), KI.cells 4 [Kd.v, Kd.v, Kd.i .i64]])) (G.aB.node none (G.aB.node none G.aB.nil (G.aB.node none G.aB.nil G.aB.nil)) (G.aB.node none (G.aB.node none (G.aB.node none G.aB.nil (G.aB.node (some (5, [KI.reg 2 (Kd.b), KI.loc 4 4, KI.reg 9 (Kd.i .i64), KI.reg 10 (Kd.b), KI.cells 4 [Kd.v, Kd.v, Kd.i .i64]])) G.aB.nil (G.aB.node none (G.aB.node none G.aB.nil G.aB.nil) G.aB.nil))) G.aB.nil) (G.aB.node (some (6, [KI.reg 2 (Kd.b), KI.loc 4 4, KI.reg 9 (Kd.i .i64), KI.cells 4 [Kd.v, Kd.v, Kd.i .i64]])) G.aB.nil G.aB.nil))) G.aB.nil) G.aB.nil)) (G.aB.node (some (7, [KI.loc 4 4, KI.cells 4 [Kd.v, Kd.v, Kd.i .i64]])) (G.aB.node none G.aB.nil (G.aB.node none (G.aB.node none G.aB.nil G.aB.nil) G.aB.nil)) (G.aB.node none G.aB.nil G.aB.nil))))))
noncomputable def aCR (h : Hp) (S : Nat → aC → Option Value) (fK : Value) (eY : Value) (fI : Int) : Option Value :=
 dG (F55 [(Value.int .i64 fI), (Value.int .i64 (Int.ofNat 0)), (Value.int .i64 (Int.ofNat 50))] h) fun v0 =>
 eZ v0 fun b1 =>
 bZ b1 fun b2 =>
 dJ b2
 (some (Value.int .i64 (Int.ofNat 7)))
 (some (Value.int .i64 (Int.ofNat 0)))
noncomputable def aCQ (h : Hp) (S : Nat → aC → Option Value) (r2 : Bool) (r9 : Int) (fK : Value) (eY : Value) (fI : Int) : Option Value :=
 wrap64 (Int.add r9 (Int.ofNat 1)) fun i0 =>
 S 4 (aC.b r2 (aC.i i0 (aC.v fK (aC.v eY (aC.i fI aC.n)))))
noncomputable def aCP (h : Hp) (S : Nat → aC → Option Value) (r2 : Bool) (r9 : Int) (iF : Bool) (fK : Value) (eY : Value) (fI : Int) : Option Value :=
 bZ iF fun b0 =>
 dJ b0
 (eU 1 eY r9 fun v1 =>
 aQ h v1 fun v2 =>
 aY .i64 v2 fun i3 =>
 dG (F55 [(Value.int .i64 i3), (Value.int .i64 (Int.ofNat 0)), (Value.int .i64 (Int.ofNat 5))] h) fun v4 =>
 eZ v4 fun b5 =>
 bZ b5 fun b6 =>
 dJ b6
 (some (Value.int .i64 (Int.ofNat 7)))
 (S 6 (aC.b r2 (aC.i r9 (aC.v fK (aC.v eY (aC.i fI aC.n)))))))
 (S 6 (aC.b r2 (aC.i r9 (aC.v fK (aC.v eY (aC.i fI aC.n))))))
noncomputable def WY (h : Hp) (S : Nat → aC → Option Value) (r2 : Bool) (r9 : Int) (fK : Value) (eY : Value) (fI : Int) : Option Value :=
 eO eY fun i0 =>
 dL (oN r9 i0) fun b1 =>
 dJ b1
 (dJ r2
 (eU 1 eY r9 fun v2 =>
 aQ h v2 fun v3 =>
 aY .i64 v3 fun i4 =>
 dL (nK i4 (Int.negSucc 0)) fun b5 =>
 S 5 (aC.b r2 (aC.i r9 (aC.b b5 (aC.v fK (aC.v eY (aC.i fI aC.n)))))))
 (S 5 (aC.b r2 (aC.i r9 (aC.b false (aC.v fK (aC.v eY (aC.i fI aC.n))))))))
 (S 7 (aC.v fK (aC.v eY (aC.i fI aC.n))))
noncomputable def aCO (h : Hp) (S : Nat → aC → Option Value) (r2 : Bool) (fK : Value) (eY : Value) (fI : Int) : Option Value :=
 S 4 (aC.b r2 (aC.i (Int.ofNat 1) (aC.v fK (aC.v eY (aC.i fI aC.n)))))
noncomputable def WX (h : Hp) (S : Nat → aC → Option Value) (r2 : Bool) (r7 : Int) (jK : Value) (jI : Value) (jL : Value) (jM : Value) (fK : Value) (eY : Value) (fI : Int) : Option Value :=
 wrap64 (Int.add r7 (Int.ofNat 1)) fun i0 =>
 S 1 (aC.b r2 (aC.i i0 (aC.v jK (aC.v jI (aC.v jL (aC.v jM (aC.v fK (aC.v eY (aC.i fI aC.n)))))))))
noncomputable def WW (h : Hp) (S : Nat → aC → Option Value) (r2 : Bool) (r7 : Int) (r8 : Bool) (jK : Value) (jI : Value) (jL : Value) (jM : Value) (fK : Value) (eY : Value) (fI : Int) : Option Value :=
 dL (nK r7 (Int.ofNat 0)) fun b0 =>
 dJ b0
 (bZ r8 fun b1 =>
 dJ b1
 (eU 1 eY r7 fun v2 =>
 aQ h v2 fun v3 =>
 aY .i64 v3 fun i4 =>
 eO jI fun i5 =>
 wrap64 (Int.sub i5 (Int.ofNat 1)) fun i6 =>
 dG (F55 [(Value.int .i64 i4), (Value.int .i64 (Int.ofNat 0)), (Value.int .i64 i6)] h) fun v7 =>
 eZ v7 fun b8 =>
 bZ b8 fun b9 =>
 dJ b9
 (some (Value.int .i64 (Int.ofNat 4)))
 (S 3 (aC.b r2 (aC.i r7 (aC.v jK (aC.v jI (aC.v jL (aC.v jM (aC.v fK (aC.v eY (aC.i fI aC.n)))))))))))
 (S 3 (aC.b r2 (aC.i r7 (aC.v jK (aC.v jI (aC.v jL (aC.v jM (aC.v fK (aC.v eY (aC.i fI aC.n)))))))))))
 (S 3 (aC.b r2 (aC.i r7 (aC.v jK (aC.v jI (aC.v jL (aC.v jM (aC.v fK (aC.v eY (aC.i fI aC.n))))))))))
noncomputable def WV (h : Hp) (S : Nat → aC → Option Value) (r2 : Bool) (r7 : Int) (jK : Value) (jI : Value) (jL : Value) (jM : Value) (fK : Value) (eY : Value) (fI : Int) : Option Value :=
 eO eY fun i0 =>
 dL (oN r7 i0) fun b1 =>
 dJ b1
 (dJ r2
 (eU 1 eY r7 fun v2 =>
 aQ h v2 fun v3 =>
 aY .i64 v3 fun i4 =>
 dL (nK i4 (Int.negSucc 0)) fun b5 =>
 S 2 (aC.b r2 (aC.i r7 (aC.b b5 (aC.v jK (aC.v jI (aC.v jL (aC.v jM (aC.v fK (aC.v eY (aC.i fI aC.n)))))))))))
 (S 2 (aC.b r2 (aC.i r7 (aC.b false (aC.v jK (aC.v jI (aC.v jL (aC.v jM (aC.v fK (aC.v eY (aC.i fI aC.n))))))))))))
 (S 8 (aC.b r2 (aC.v fK (aC.v eY (aC.i fI aC.n)))))
noncomputable def aCT (h : Hp) (S : Nat → aC → Option Value) (r0 : Value) (r1 : Value) (r2 : Bool) : Option Value :=
 oM (Array.toList (Value.cells r0)) fun c0 =>
 oM (Array.toList (Value.cells r1)) fun c1 =>
 BB c1 1 fun v2 =>
 eO v2 fun i3 =>
 BB c0 0 fun v4 =>
 eO v4 fun i5 =>
 bZ (nK i3 i5) fun b6 =>
 dJ b6
 (some (Value.int .i64 (Int.ofNat 3)))
 (kY c0 fun a7 c7 =>
 kY c7 fun a8 c8 =>
 kY c8 fun a9 c9 =>
 kY c9 fun a10 c10 =>
 aI6 c10 (kY c1 fun a11 c11 =>
 kY c11 fun a12 c12 =>
 kY c12 fun a13 c13 =>
 aY .i64 a13 fun i14 =>
 aI6 c13 (S 1 (aC.b r2 (aC.i (Int.ofNat 0) (aC.v a7 (aC.v a8 (aC.v a9 (aC.v a10 (aC.v a11 (aC.v a12 (aC.i i14 aC.n))))))))))))
noncomputable def BN (h : Hp) (S : Nat → aC → Option Value) : Nat → aC → Option Value := eG 0 (wV fun r0 => wV fun r1 => wB fun r2 => wN (aCT h S r0 r1 r2)) (eG 1 (wB fun r2 => wI fun r7 => wV fun jK => wV fun jI => wV fun jL => wV fun jM => wV fun fK => wV fun eY => wI fun fI => wN (WV h S r2 r7 jK jI jL jM fK eY fI)) (eG 2 (wB fun r2 => wI fun r7 => wB fun r8 => wV fun jK => wV fun jI => wV fun jL => wV fun jM => wV fun fK => wV fun eY => wI fun fI => wN (WW h S r2 r7 r8 jK jI jL jM fK eY fI)) (eG 3 (wB fun r2 => wI fun r7 => wV fun jK => wV fun jI => wV fun jL => wV fun jM => wV fun fK => wV fun eY => wI fun fI => wN (WX h S r2 r7 jK jI jL jM fK eY fI)) (eG 8 (wB fun r2 => wV fun fK => wV fun eY => wI fun fI => wN (aCO h S r2 fK eY fI)) (eG 4 (wB fun r2 => wI fun r9 => wV fun fK => wV fun eY => wI fun fI => wN (WY h S r2 r9 fK eY fI)) (eG 5 (wB fun r2 => wI fun r9 => wB fun iF => wV fun fK => wV fun eY => wI fun fI => wN (aCP h S r2 r9 iF fK eY fI)) (eG 6 (wB fun r2 => wI fun r9 => wV fun fK => wV fun eY => wI fun fI => wN (aCQ h S r2 r9 fK eY fI)) (eG 7 (wV fun fK => wV fun eY => wI fun fI => wN (aCR h S fK eY fI)) (l9)))))))))
noncomputable def F89 (args : List Value) (h : Hp) : Option Value := plainO (eX [Kd.v, Kd.v, Kd.b] args fun al => G.aK (BN h) 1000000 0 al)
def OQ : Nat := 3 + (84 - 3)
theorem a2Z (h : Hp) (S : Nat → aC → Option Value) (fK : Value) (eY : Value) (fI : Int) : aCR h S fK eY fI = G.aF bP aP fA (fB env IE OQ h) (fG env Try.f89.results.toList) (G.collect B89 A89 []) 7 S (aC.v fK (aC.v eY (aC.i fI aC.n))) := by kernel_rfl
theorem a3A (h : Hp) (S : Nat → aC → Option Value) (r2 : Bool) (r9 : Int) (fK : Value) (eY : Value) (fI : Int) : aCQ h S r2 r9 fK eY fI = G.aF bP aP fA (fB env IE OQ h) (fG env Try.f89.results.toList) (G.collect B89 A89 []) 6 S (aC.b r2 (aC.i r9 (aC.v fK (aC.v eY (aC.i fI aC.n))))) := by kernel_rfl
theorem a3B (h : Hp) (S : Nat → aC → Option Value) (r2 : Bool) (r9 : Int) (iF : Bool) (fK : Value) (eY : Value) (fI : Int) : aCP h S r2 r9 iF fK eY fI = G.aF bP aP fA (fB env IE OQ h) (fG env Try.f89.results.toList) (G.collect B89 A89 []) 5 S (aC.b r2 (aC.i r9 (aC.b iF (aC.v fK (aC.v eY (aC.i fI aC.n)))))) := by kernel_rfl
theorem a3C (h : Hp) (S : Nat → aC → Option Value) (r2 : Bool) (r9 : Int) (fK : Value) (eY : Value) (fI : Int) : WY h S r2 r9 fK eY fI = G.aF bP aP fA (fB env IE OQ h) (fG env Try.f89.results.toList) (G.collect B89 A89 []) 4 S (aC.b r2 (aC.i r9 (aC.v fK (aC.v eY (aC.i fI aC.n))))) := by kernel_rfl
theorem a3D (h : Hp) (S : Nat → aC → Option Value) (r2 : Bool) (fK : Value) (eY : Value) (fI : Int) : aCO h S r2 fK eY fI = G.aF bP aP fA (fB env IE OQ h) (fG env Try.f89.results.toList) (G.collect B89 A89 []) 8 S (aC.b r2 (aC.v fK (aC.v eY (aC.i fI aC.n)))) := by kernel_rfl
theorem a3E (h : Hp) (S : Nat → aC → Option Value) (r2 : Bool) (r7 : Int) (jK : Value) (jI : Value) (jL : Value) (jM : Value) (fK : Value) (eY : Value) (fI : Int) : WX h S r2 r7 jK jI jL jM fK eY fI = G.aF bP aP fA (fB env IE OQ h) (fG env Try.f89.results.toList) (G.collect B89 A89 []) 3 S (aC.b r2 (aC.i r7 (aC.v jK (aC.v jI (aC.v jL (aC.v jM (aC.v fK (aC.v eY (aC.i fI aC.n))))))))) := by kernel_rfl
theorem a3F (h : Hp) (S : Nat → aC → Option Value) (r2 : Bool) (r7 : Int) (r8 : Bool) (jK : Value) (jI : Value) (jL : Value) (jM : Value) (fK : Value) (eY : Value) (fI : Int) : WW h S r2 r7 r8 jK jI jL jM fK eY fI = G.aF bP aP fA (fB env IE OQ h) (fG env Try.f89.results.toList) (G.collect B89 A89 []) 2 S (aC.b r2 (aC.i r7 (aC.b r8 (aC.v jK (aC.v jI (aC.v jL (aC.v jM (aC.v fK (aC.v eY (aC.i fI aC.n)))))))))) := by kernel_rfl
theorem a3G (h : Hp) (S : Nat → aC → Option Value) (r2 : Bool) (r7 : Int) (jK : Value) (jI : Value) (jL : Value) (jM : Value) (fK : Value) (eY : Value) (fI : Int) : WV h S r2 r7 jK jI jL jM fK eY fI = G.aF bP aP fA (fB env IE OQ h) (fG env Try.f89.results.toList) (G.collect B89 A89 []) 1 S (aC.b r2 (aC.i r7 (aC.v jK (aC.v jI (aC.v jL (aC.v jM (aC.v fK (aC.v eY (aC.i fI aC.n))))))))) := by kernel_rfl
theorem a3H (h : Hp) (S : Nat → aC → Option Value) (r0 : Value) (r1 : Value) (r2 : Bool) : aCT h S r0 r1 r2 = G.aF bP aP fA (fB env IE OQ h) (fG env Try.f89.results.toList) (G.collect B89 A89 []) 0 S (aC.v r0 (aC.v r1 (aC.b r2 aC.n))) := by kernel_rfl
theorem t89 (h : Hp) (S : Nat → aC → Option Value) : dI (fun l al => G.aF bP aP fA (fB env IE OQ h) (fG env Try.f89.results.toList) (G.collect B89 A89 []) l S al) (BN h S) := by
 unfold BN
 refine dI.cons 0 (fun gF q e0 => ?_) ?_
 ·obtain ⟨r0, vs1, rfl, e1⟩ := bB e0
  obtain ⟨r1, vs2, rfl, e2⟩ := bB e1
  obtain ⟨r2, vs3, rfl, e3⟩ := lN e2
  obtain ⟨rfl, ee⟩ := bM e3
  exact (a3H h S r0 r1 r2).symm.trans ee
 refine dI.cons 1 (fun gF q e0 => ?_) ?_
 ·obtain ⟨r2, vs1, rfl, e1⟩ := lN e0
  obtain ⟨r7, vs2, rfl, e2⟩ := aS e1
  obtain ⟨jK, vs3, rfl, e3⟩ := bB e2
  obtain ⟨jI, tY, rfl, e4⟩ := bB e3
  obtain ⟨jL, JU, rfl, e5⟩ := bB e4
  obtain ⟨jM, vs6, rfl, e6⟩ := bB e5
  obtain ⟨fK, vs7, rfl, e7⟩ := bB e6
  obtain ⟨eY, vs8, rfl, e8⟩ := bB e7
  obtain ⟨fI, vs9, rfl, e9⟩ := aS e8
  obtain ⟨rfl, ee⟩ := bM e9
  exact (a3G h S r2 r7 jK jI jL jM fK eY fI).symm.trans ee
 refine dI.cons 2 (fun gF q e0 => ?_) ?_
 ·obtain ⟨r2, vs1, rfl, e1⟩ := lN e0
  obtain ⟨r7, vs2, rfl, e2⟩ := aS e1
  obtain ⟨r8, vs3, rfl, e3⟩ := lN e2
  obtain ⟨jK, tY, rfl, e4⟩ := bB e3
  obtain ⟨jI, JU, rfl, e5⟩ := bB e4
  obtain ⟨jL, vs6, rfl, e6⟩ := bB e5
  obtain ⟨jM, vs7, rfl, e7⟩ := bB e6
  obtain ⟨fK, vs8, rfl, e8⟩ := bB e7
  obtain ⟨eY, vs9, rfl, e9⟩ := bB e8
  obtain ⟨fI, a0V, rfl, e10⟩ := aS e9
  obtain ⟨rfl, ee⟩ := bM e10
  exact (a3F h S r2 r7 r8 jK jI jL jM fK eY fI).symm.trans ee
 refine dI.cons 3 (fun gF q e0 => ?_) ?_
 ·obtain ⟨r2, vs1, rfl, e1⟩ := lN e0
  obtain ⟨r7, vs2, rfl, e2⟩ := aS e1
  obtain ⟨jK, vs3, rfl, e3⟩ := bB e2
  obtain ⟨jI, tY, rfl, e4⟩ := bB e3
  obtain ⟨jL, JU, rfl, e5⟩ := bB e4
  obtain ⟨jM, vs6, rfl, e6⟩ := bB e5
  obtain ⟨fK, vs7, rfl, e7⟩ := bB e6
  obtain ⟨eY, vs8, rfl, e8⟩ := bB e7
  obtain ⟨fI, vs9, rfl, e9⟩ := aS e8
  obtain ⟨rfl, ee⟩ := bM e9
  exact (a3E h S r2 r7 jK jI jL jM fK eY fI).symm.trans ee
 refine dI.cons 8 (fun gF q e0 => ?_) ?_
 ·obtain ⟨r2, vs1, rfl, e1⟩ := lN e0
  obtain ⟨fK, vs2, rfl, e2⟩ := bB e1
  obtain ⟨eY, vs3, rfl, e3⟩ := bB e2
  obtain ⟨fI, tY, rfl, e4⟩ := aS e3
  obtain ⟨rfl, ee⟩ := bM e4
  exact (a3D h S r2 fK eY fI).symm.trans ee
 refine dI.cons 4 (fun gF q e0 => ?_) ?_
 ·obtain ⟨r2, vs1, rfl, e1⟩ := lN e0
  obtain ⟨r9, vs2, rfl, e2⟩ := aS e1
  obtain ⟨fK, vs3, rfl, e3⟩ := bB e2
  obtain ⟨eY, tY, rfl, e4⟩ := bB e3
  obtain ⟨fI, JU, rfl, e5⟩ := aS e4
  obtain ⟨rfl, ee⟩ := bM e5
  exact (a3C h S r2 r9 fK eY fI).symm.trans ee
 refine dI.cons 5 (fun gF q e0 => ?_) ?_
 ·obtain ⟨r2, vs1, rfl, e1⟩ := lN e0
  obtain ⟨r9, vs2, rfl, e2⟩ := aS e1
  obtain ⟨iF, vs3, rfl, e3⟩ := lN e2
  obtain ⟨fK, tY, rfl, e4⟩ := bB e3
  obtain ⟨eY, JU, rfl, e5⟩ := bB e4
  obtain ⟨fI, vs6, rfl, e6⟩ := aS e5
  obtain ⟨rfl, ee⟩ := bM e6
  exact (a3B h S r2 r9 iF fK eY fI).symm.trans ee
 refine dI.cons 6 (fun gF q e0 => ?_) ?_
 ·obtain ⟨r2, vs1, rfl, e1⟩ := lN e0
  obtain ⟨r9, vs2, rfl, e2⟩ := aS e1
  obtain ⟨fK, vs3, rfl, e3⟩ := bB e2
  obtain ⟨eY, tY, rfl, e4⟩ := bB e3
  obtain ⟨fI, JU, rfl, e5⟩ := aS e4
  obtain ⟨rfl, ee⟩ := bM e5
  exact (a3A h S r2 r9 fK eY fI).symm.trans ee
 refine dI.cons 7 (fun gF q e0 => ?_) ?_
 ·obtain ⟨fK, vs1, rfl, e1⟩ := bB e0
  obtain ⟨eY, vs2, rfl, e2⟩ := bB e1
  obtain ⟨fI, vs3, rfl, e3⟩ := aS e2
  obtain ⟨rfl, ee⟩ := bM e3
  exact (a2Z h S fK eY fI).symm.trans ee
 exact dI.nil
theorem r89 : PSound Try.prog 89 F89 := dW (C := C0) ok0 (pf := IE) aL9 (fn := Try.f89) (body := B89) (kinds := [Kd.v, Kd.v, Kd.b]) (A := A89) (T := BN) (by kernel_rfl) (by kernel_rfl) (by kernel_rfl) (by kernel_rfl) (fun h S => t89 h S)
noncomputable def YB : PF := J9 89 F89 IE
theorem aMC : fO Try.prog YB := jT r89 aL9
noncomputable def JX := pI 89 F89 aRG
noncomputable def C46 : dK := cfg JX
theorem bEX : C46.Ok := iB (C := C45) bEW r89
noncomputable def B51 : Code := (Try.f51.body).getD .skip
def A51 : aB := (aB.node (some (0, [(0, Kd.v), (1, Kd.v), (2, Kd.i .i64), (3, Kd.b)])) aB.nil (aB.node none (aB.node none aB.nil (aB.node none (aB.node none aB.nil aB.nil) aB.nil)) (aB.node none aB.nil (aB.node none (aB.node none aB.nil (aB.node none (aB.node (some (1, [(1, Kd.v), (3, Kd.b), (4, Kd.v), (10, Kd.v), (11, Kd.i .i64)])) (aB.node none (aB.node none aB.nil (aB.node none aB.nil aB.nil)) (aB.node none (aB.node none (aB.node none aB.nil (aB.node none (aB.node none aB.nil (aB.node none aB.nil aB.nil)) (aB.node (some (2, [(1, Kd.v), (3, Kd.b), (4, Kd.v), (10, Kd.v), (11, Kd.i .i64), (12, Kd.i .i64)])) (aB.node none aB.nil (aB.node none (aB.node none aB.nil aB.nil) aB.nil)) aB.nil))) aB.nil) (aB.node (some (3, [(1, Kd.v), (3, Kd.b), (4, Kd.v), (10, Kd.v), (11, Kd.i .i64)])) aB.nil aB.nil))) aB.nil) aB.nil)) (aB.node (some (4, [])) aB.nil aB.nil)))))
noncomputable def aRH (S : Sg) (h : Hp) : aZ :=
 some (Value.tuple (List.toArray [(Value.int .i64 (Int.ofNat 0)), (Value.int .i64 (Int.ofNat 0))]), h)
noncomputable def aCW (S : Sg) (r1 : Value) (r3 : Bool) (r4 : Value) (iF : Value) (iH : Int) (h : Hp) : aZ :=
 wrap64 (Int.add iH (Int.ofNat 1)) fun i0 =>
 S 1 (AL.v r1 (AL.b r3 (AL.v r4 (AL.v iF (AL.i i0 AL.n))))) h
noncomputable def aCV (S : Sg) (r1 : Value) (r3 : Bool) (r4 : Value) (iF : Value) (iH : Int) (qM : Int) (h : Hp) : aZ :=
 bZ (nK qM (Int.ofNat 0)) fun b0 =>
 dJ b0
 (some (Value.tuple (List.toArray [(Value.int .i64 iH), (Value.int .i64 qM)]), h))
 (eU 3 r1 iH fun v1 =>
 aX 0 v1 fun v2 =>
 aQ h v2 fun v3 =>
 aW (bW env h 120 1 (List.toArray [(0, v3)])) fun v4 h4 =>
 aW (jF env h4 #[120, 120] (List.toArray [iF, v4])) fun v5 h5 =>
 S 3 (AL.v r1 (AL.b r3 (AL.v r4 (AL.v v5 (AL.i iH AL.n))))) h5)
noncomputable def WZ (S : Sg) (r1 : Value) (r3 : Bool) (r4 : Value) (iF : Value) (iH : Int) (h : Hp) : aZ :=
 eO r1 fun i0 =>
 dL (oN iH i0) fun b1 =>
 dJ b1
 (eU 3 r1 iH fun v2 =>
 aX 0 v2 fun v3 =>
 aQ h v3 fun v4 =>
 aW (dG (F88 [v4, iF] h) fun v => some (v, h)) fun v5 h5 =>
 aY .i64 v5 fun i6 =>
 dL (nK i6 (Int.ofNat 0)) fun b7 =>
 dJ b7
 (bC 4 h5 r4 fun v8 =>
 eU 3 r1 iH fun v9 =>
 bC 3 h5 v9 fun v10 =>
 aW (dG (F89 [v8, v10, (Value.bool r3)] h5) fun v => some (v, h5)) fun v11 h11 =>
 aY .i64 v11 fun i12 =>
 S 2 (AL.v r1 (AL.b r3 (AL.v r4 (AL.v iF (AL.i iH (AL.i i12 AL.n)))))) h11)
 (S 2 (AL.v r1 (AL.b r3 (AL.v r4 (AL.v iF (AL.i iH (AL.i i6 AL.n)))))) h5))
 (S 4 AL.n h)
noncomputable def aCX (S : Sg) (r0 : Value) (r1 : Value) (r2 : Int) (r3 : Bool) (h : Hp) : aZ :=
 bV h 25 (Array.toList (Value.cells r0)) fun a0 h0 =>
 eO r1 fun i1 =>
 dL (oN r2 i1) fun b2 =>
 dJ b2
 (some (Value.tuple (List.toArray [(Value.int .i64 (Int.ofNat 0)), (Value.int .i64 (Int.ofNat 3))]), h0))
 (S 1 (AL.v r1 (AL.b r3 (AL.v a0 (AL.v (Value.slice none 0 0) (AL.i (Int.ofNat 0) AL.n))))) h0)
noncomputable def T51 (S : Sg) : Sg := dY 0 (uV fun r0 => uV fun r1 => uI fun r2 => uB fun r3 => uN fun h => aCX S r0 r1 r2 r3 h) (dY 1 (uV fun r1 => uB fun r3 => uV fun r4 => uV fun iF => uI fun iH => uN fun h => WZ S r1 r3 r4 iF iH h) (dY 2 (uV fun r1 => uB fun r3 => uV fun r4 => uV fun iF => uI fun iH => uI fun qM => uN fun h => aCV S r1 r3 r4 iF iH qM h) (dY 3 (uV fun r1 => uB fun r3 => uV fun r4 => uV fun iF => uI fun iH => uN fun h => aCW S r1 r3 r4 iF iH h) (dY 4 (uN fun h => aRH S  h) (kT)))))
noncomputable def F51 (args : List Value) (h : Hp) : aZ := bQ [Kd.v, Kd.v, Kd.i .i64, Kd.b] args fun al => aK T51 1000000 0 al h
def aG3 : Nat := 4 + (51 - 4)
theorem a3I (S : Sg) (h : Hp) : aRH S  h = aF (bT env JX (aG3)) (bU env Try.f51.results.toList) (collect B51 A51 []) 4 S AL.n h := by kernel_rfl
theorem a3J (S : Sg) (r1 : Value) (r3 : Bool) (r4 : Value) (iF : Value) (iH : Int) (h : Hp) : aCW S r1 r3 r4 iF iH h = aF (bT env JX (aG3)) (bU env Try.f51.results.toList) (collect B51 A51 []) 3 S (AL.v r1 (AL.b r3 (AL.v r4 (AL.v iF (AL.i iH AL.n))))) h := by kernel_rfl
theorem a3K (S : Sg) (r1 : Value) (r3 : Bool) (r4 : Value) (iF : Value) (iH : Int) (qM : Int) (h : Hp) : aCV S r1 r3 r4 iF iH qM h = aF (bT env JX (aG3)) (bU env Try.f51.results.toList) (collect B51 A51 []) 2 S (AL.v r1 (AL.b r3 (AL.v r4 (AL.v iF (AL.i iH (AL.i qM AL.n)))))) h := by kernel_rfl
theorem a3L (S : Sg) (r1 : Value) (r3 : Bool) (r4 : Value) (iF : Value) (iH : Int) (h : Hp) : WZ S r1 r3 r4 iF iH h = aF (bT env JX (aG3)) (bU env Try.f51.results.toList) (collect B51 A51 []) 1 S (AL.v r1 (AL.b r3 (AL.v r4 (AL.v iF (AL.i iH AL.n))))) h := by kernel_rfl
theorem a3M (S : Sg) (r0 : Value) (r1 : Value) (r2 : Int) (r3 : Bool) (h : Hp) : aCX S r0 r1 r2 r3 h = aF (bT env JX (aG3)) (bU env Try.f51.results.toList) (collect B51 A51 []) 0 S (AL.v r0 (AL.v r1 (AL.i r2 (AL.b r3 AL.n)))) h := by kernel_rfl
theorem t51 (S : Sg) : eH (fun l vs h => aF (bT env JX aG3) (bU env Try.f51.results.toList) (collect B51 A51 []) l S vs h) (T51 S) := by
 unfold T51
 refine eH.cons 0 (fun gF h q e0 => ?_) ?_
 ·obtain ⟨r0, vs1, rfl, e1⟩ := aD e0
  obtain ⟨r1, vs2, rfl, e2⟩ := aD e1
  obtain ⟨r2, vs3, rfl, e3⟩ := aV e2
  obtain ⟨r3, tY, rfl, e4⟩ := KV e3
  obtain ⟨rfl, ee⟩ := aR e4
  exact (a3M S r0 r1 r2 r3 h).symm.trans ee
 refine eH.cons 1 (fun gF h q e0 => ?_) ?_
 ·obtain ⟨r1, vs1, rfl, e1⟩ := aD e0
  obtain ⟨r3, vs2, rfl, e2⟩ := KV e1
  obtain ⟨r4, vs3, rfl, e3⟩ := aD e2
  obtain ⟨iF, tY, rfl, e4⟩ := aD e3
  obtain ⟨iH, JU, rfl, e5⟩ := aV e4
  obtain ⟨rfl, ee⟩ := aR e5
  exact (a3L S r1 r3 r4 iF iH h).symm.trans ee
 refine eH.cons 2 (fun gF h q e0 => ?_) ?_
 ·obtain ⟨r1, vs1, rfl, e1⟩ := aD e0
  obtain ⟨r3, vs2, rfl, e2⟩ := KV e1
  obtain ⟨r4, vs3, rfl, e3⟩ := aD e2
  obtain ⟨iF, tY, rfl, e4⟩ := aD e3
  obtain ⟨iH, JU, rfl, e5⟩ := aV e4
  obtain ⟨qM, vs6, rfl, e6⟩ := aV e5
  obtain ⟨rfl, ee⟩ := aR e6
  exact (a3K S r1 r3 r4 iF iH qM h).symm.trans ee
 refine eH.cons 3 (fun gF h q e0 => ?_) ?_
 ·obtain ⟨r1, vs1, rfl, e1⟩ := aD e0
  obtain ⟨r3, vs2, rfl, e2⟩ := KV e1
  obtain ⟨r4, vs3, rfl, e3⟩ := aD e2
  obtain ⟨iF, tY, rfl, e4⟩ := aD e3
  obtain ⟨iH, JU, rfl, e5⟩ := aV e4
  obtain ⟨rfl, ee⟩ := aR e5
  exact (a3J S r1 r3 r4 iF iH h).symm.trans ee
 refine eH.cons 4 (fun gF h q e0 => ?_) ?_
 ·
  obtain ⟨rfl, ee⟩ := aR e0
  exact (a3I S  h).symm.trans ee
 exact eH.nil
theorem r51 : ∀ args h v h', F51 args h = some (v, h') → iE (C46) (.call 51 args.toArray h) (.ret v h') := by
 intro args h v h' e
 exact bL (C := C46) (fn := Try.f51) (body := B51) (np := 4) (A := A51) (T := T51) (kinds := [Kd.v, Kd.v, Kd.i .i64, Kd.b]) (by kernel_rfl) (by kernel_rfl) (by kernel_rfl) (by kernel_rfl) (dP eB) (by kernel_rfl) (fun S => t51 S) e
noncomputable def aEW := kS 51 F51 JX
noncomputable def C47 : dK := cfg aEW
theorem bEY : C47.Ok := dQ (C := C46) bEX r51
noncomputable def B17 : Code := (Try.f17.body).getD .skip
def A17 : aB := (aB.node (some (0, [(0, Kd.v)])) aB.nil (aB.node none aB.nil (aB.node none (aB.node none aB.nil (aB.node none (aB.node none aB.nil aB.nil) aB.nil)) (aB.node none aB.nil (aB.node none (aB.node none aB.nil (aB.node none (aB.node none aB.nil aB.nil) aB.nil)) (aB.node none aB.nil (aB.node none (aB.node none aB.nil (aB.node none (aB.node none aB.nil aB.nil) aB.nil)) (aB.node none aB.nil (aB.node none (aB.node none aB.nil (aB.node none (aB.node none aB.nil aB.nil) aB.nil)) (aB.node none aB.nil aB.nil))))))))))
noncomputable def aCY (S : Sg) (r0 : Value) (h : Hp) : aZ :=
 bV h 25 (Array.toList (Value.cells r0)) fun a0 h0 =>
 aX 0 a0 fun v1 =>
 aQ h0 v1 fun v2 =>
 aW (dG (F50 [v2, (Value.int .i64 (Int.ofNat 4)), (Value.int .i64 (Int.ofNat 100))] h0) fun v => some (v, h0)) fun v3 h3 =>
 gD v3 0 fun v4 =>
 aY .i64 v4 fun i5 =>
 gD v3 1 fun v6 =>
 aY .i64 v6 fun i7 =>
 bZ (nK i7 (Int.ofNat 0)) fun b8 =>
 dJ b8
 (some (Value.tuple (List.toArray [(Value.int .i64 (Int.ofNat 1)), (Value.int .i64 i5), (Value.int .i64 i7)]), h3))
 (aX 1 a0 fun v9 =>
 aQ h3 v9 fun v10 =>
 aW (dG (F50 [v10, (Value.int .i64 (Int.ofNat 4)), (Value.int .i64 (Int.ofNat 50))] h3) fun v => some (v, h3)) fun v11 h11 =>
 gD v11 0 fun v12 =>
 aY .i64 v12 fun i13 =>
 gD v11 1 fun v14 =>
 aY .i64 v14 fun i15 =>
 bZ (nK i15 (Int.ofNat 0)) fun b16 =>
 dJ b16
 (some (Value.tuple (List.toArray [(Value.int .i64 (Int.ofNat 2)), (Value.int .i64 i13), (Value.int .i64 i15)]), h11))
 (bC 4 h11 a0 fun v17 =>
 aX 2 a0 fun v18 =>
 aQ h11 v18 fun v19 =>
 aW (dZ F51 [v17, v19, (Value.int .i64 (Int.ofNat 6)), (Value.bool false)] h11) fun v20 h20 =>
 gD v20 0 fun v21 =>
 aY .i64 v21 fun i22 =>
 gD v20 1 fun v23 =>
 aY .i64 v23 fun i24 =>
 bZ (nK i24 (Int.ofNat 0)) fun b25 =>
 dJ b25
 (some (Value.tuple (List.toArray [(Value.int .i64 (Int.ofNat 3)), (Value.int .i64 i22), (Value.int .i64 i24)]), h20))
 (bC 4 h20 a0 fun v26 =>
 aX 3 a0 fun v27 =>
 aQ h20 v27 fun v28 =>
 aW (dZ F51 [v26, v28, (Value.int .i64 (Int.ofNat 5)), (Value.bool true)] h20) fun v29 h29 =>
 gD v29 0 fun v30 =>
 aY .i64 v30 fun i31 =>
 gD v29 1 fun v32 =>
 aY .i64 v32 fun i33 =>
 bZ (nK i33 (Int.ofNat 0)) fun b34 =>
 dJ b34
 (some (Value.tuple (List.toArray [(Value.int .i64 (Int.ofNat 4)), (Value.int .i64 i31), (Value.int .i64 i33)]), h29))
 (some (Value.tuple (List.toArray [(Value.int .i64 (Int.ofNat 0)), (Value.int .i64 (Int.ofNat 0)), (Value.int .i64 (Int.ofNat 0))]), h29)))))
noncomputable def T17 (S : Sg) : Sg := dY 0 (uV fun r0 => uN fun h => aCY S r0 h) (kT)
noncomputable def F17 (args : List Value) (h : Hp) : aZ := bQ [Kd.v] args fun al => aK T17 1000000 0 al h
def a3N : Nat := 1 + (49 - 1)
theorem a3O (S : Sg) (r0 : Value) (h : Hp) : aCY S r0 h = aF (bT env aEW (a3N)) (bU env Try.f17.results.toList) (collect B17 A17 []) 0 S (AL.v r0 AL.n) h := by kernel_rfl
theorem t17 (S : Sg) : eH (fun l vs h => aF (bT env aEW a3N) (bU env Try.f17.results.toList) (collect B17 A17 []) l S vs h) (T17 S) := by
 unfold T17
 refine eH.cons 0 (fun gF h q e0 => ?_) ?_
 ·obtain ⟨r0, vs1, rfl, e1⟩ := aD e0
  obtain ⟨rfl, ee⟩ := aR e1
  exact (a3O S r0 h).symm.trans ee
 exact eH.nil
theorem FJ : ∀ args h v h', F17 args h = some (v, h') → iE (C47) (.call 17 args.toArray h) (.ret v h') := by
 intro args h v h' e
 exact bL (C := C47) (fn := Try.f17) (body := B17) (np := 1) (A := A17) (T := T17) (kinds := [Kd.v]) (by kernel_rfl) (by kernel_rfl) (by kernel_rfl) (by kernel_rfl) (dP eB) (by kernel_rfl) (fun S => t17 S) e
noncomputable def RA := kS 17 F17 aEW
noncomputable def C48 : dK := cfg RA
theorem bE1 : C48.Ok := dQ (C := C47) bEY FJ
noncomputable def B57 : Code := (Try.f57.body).getD .skip
def A57 : aB := (aB.node (some (0, [(0, Kd.v), (1, Kd.v)])) aB.nil (aB.node none aB.nil (aB.node none (aB.node none aB.nil (aB.node none (aB.node (some (1, [(2, Kd.v), (3, Kd.v), (5, Kd.v), (6, Kd.i .i64)])) (aB.node none (aB.node none aB.nil (aB.node none aB.nil aB.nil)) (aB.node none (aB.node none (aB.node none aB.nil (aB.node none aB.nil aB.nil)) aB.nil) aB.nil)) aB.nil) aB.nil)) (aB.node (some (2, [(5, Kd.v)])) aB.nil aB.nil))))
noncomputable def aRI (S : Sg) (r5 : Value) (h : Hp) : aZ :=
 some (r5, h)
noncomputable def W9 (S : Sg) (r2 : Value) (r3 : Value) (r5 : Value) (r6 : Int) (h : Hp) : aZ :=
 aX 1 r2 fun v0 =>
 aQ h v0 fun v1 =>
 eO v1 fun i2 =>
 dL (oN r6 i2) fun b3 =>
 dJ b3
 (aX 1 r3 fun v4 =>
 aQ h v4 fun v5 =>
 eU 1 v5 r6 fun v6 =>
 aQ h v6 fun v7 =>
 aY .i64 v7 fun i8 =>
 bZ (nK i8 (Int.negSucc 0)) fun b9 =>
 dJ b9
 (aX 1 r3 fun v10 =>
 aQ h v10 fun v11 =>
 eU 1 v11 r6 fun v12 =>
 aQ h v12 fun v13 =>
 aY .i64 v13 fun i14 =>
 aX 1 r2 fun v15 =>
 aQ h v15 fun v16 =>
 eU 1 v16 r6 fun v17 =>
 aQ h v17 fun v18 =>
 aY .i64 v18 fun i19 =>
 bZ (nK i14 i19) fun b20 =>
 dJ b20
 (aW (bW env h 22 1 (List.toArray [(0, (Value.int .i64 r6))])) fun v21 h21 =>
 aW (jF env h21 #[22, 22] (List.toArray [r5, v21])) fun v22 h22 =>
 wrap64 (Int.add r6 (Int.ofNat 1)) fun i23 =>
 S 1 (AL.v r2 (AL.v r3 (AL.v v22 (AL.i i23 AL.n)))) h22)
 (wrap64 (Int.add r6 (Int.ofNat 1)) fun i24 =>
 S 1 (AL.v r2 (AL.v r3 (AL.v r5 (AL.i i24 AL.n)))) h))
 (wrap64 (Int.add r6 (Int.ofNat 1)) fun i25 =>
 S 1 (AL.v r2 (AL.v r3 (AL.v r5 (AL.i i25 AL.n)))) h))
 (S 2 (AL.v r5 AL.n) h)
noncomputable def aCZ (S : Sg) (r0 : Value) (r1 : Value) (h : Hp) : aZ :=
 bV h 59 (Array.toList (Value.cells r0)) fun a0 h0 =>
 bV h0 59 (Array.toList (Value.cells r1)) fun a1 h1 =>
 S 1 (AL.v a0 (AL.v a1 (AL.v (Value.slice none 0 0) (AL.i (Int.ofNat 0) AL.n)))) h1
noncomputable def T57 (S : Sg) : Sg := dY 0 (uV fun r0 => uV fun r1 => uN fun h => aCZ S r0 r1 h) (dY 1 (uV fun r2 => uV fun r3 => uV fun r5 => uI fun r6 => uN fun h => W9 S r2 r3 r5 r6 h) (dY 2 (uV fun r5 => uN fun h => aRI S r5 h) (kT)))
noncomputable def F57 (args : List Value) (h : Hp) : aZ := bQ [Kd.v, Kd.v] args fun al => aK T57 1000000 0 al h
def aPA : Nat := 2 + (38 - 2)
theorem a3R (S : Sg) (r5 : Value) (h : Hp) : aRI S r5 h = aF (bT env RA (aPA)) (bU env Try.f57.results.toList) (collect B57 A57 []) 2 S (AL.v r5 AL.n) h := by kernel_rfl
theorem a3S (S : Sg) (r2 : Value) (r3 : Value) (r5 : Value) (r6 : Int) (h : Hp) : W9 S r2 r3 r5 r6 h = aF (bT env RA (aPA)) (bU env Try.f57.results.toList) (collect B57 A57 []) 1 S (AL.v r2 (AL.v r3 (AL.v r5 (AL.i r6 AL.n)))) h := by kernel_rfl
theorem a3T (S : Sg) (r0 : Value) (r1 : Value) (h : Hp) : aCZ S r0 r1 h = aF (bT env RA (aPA)) (bU env Try.f57.results.toList) (collect B57 A57 []) 0 S (AL.v r0 (AL.v r1 AL.n)) h := by kernel_rfl
theorem t57 (S : Sg) : eH (fun l vs h => aF (bT env RA aPA) (bU env Try.f57.results.toList) (collect B57 A57 []) l S vs h) (T57 S) := by
 unfold T57
 refine eH.cons 0 (fun gF h q e0 => ?_) ?_
 ·obtain ⟨r0, vs1, rfl, e1⟩ := aD e0
  obtain ⟨r1, vs2, rfl, e2⟩ := aD e1
  obtain ⟨rfl, ee⟩ := aR e2
  exact (a3T S r0 r1 h).symm.trans ee
 refine eH.cons 1 (fun gF h q e0 => ?_) ?_
 ·obtain ⟨r2, vs1, rfl, e1⟩ := aD e0
  obtain ⟨r3, vs2, rfl, e2⟩ := aD e1
  obtain ⟨r5, vs3, rfl, e3⟩ := aD e2
  obtain ⟨r6, tY, rfl, e4⟩ := aV e3
  obtain ⟨rfl, ee⟩ := aR e4
  exact (a3S S r2 r3 r5 r6 h).symm.trans ee
 refine eH.cons 2 (fun gF h q e0 => ?_) ?_
 ·obtain ⟨r5, vs1, rfl, e1⟩ := aD e0
  obtain ⟨rfl, ee⟩ := aR e1
  exact (a3R S r5 h).symm.trans ee
 exact eH.nil
theorem r57 : ∀ args h v h', F57 args h = some (v, h') → iE (C48) (.call 57 args.toArray h) (.ret v h') := by
 intro args h v h' e
 exact bL (C := C48) (fn := Try.f57) (body := B57) (np := 2) (A := A57) (T := T57) (kinds := [Kd.v, Kd.v]) (by kernel_rfl) (by kernel_rfl) (by kernel_rfl) (by kernel_rfl) (dP eB) (by kernel_rfl) (fun S => t57 S) e
noncomputable def RB := kS 57 F57 RA
noncomputable def C49 : dK := cfg RB
theorem bE2 : C49.Ok := dQ (C := C48) bE1 r57
noncomputable def B56 : Code := (Try.f56.body).getD .skip
def A56 : aB := (aB.node (some (0, [(0, Kd.v), (1, Kd.v), (2, Kd.v)])) aB.nil (aB.node none aB.nil (aB.node none aB.nil (aB.node none (aB.node none aB.nil (aB.node none (aB.node (some (1, [(3, Kd.v), (7, Kd.i .i64), (8, Kd.v), (9, Kd.i .i64)])) (aB.node none (aB.node none aB.nil (aB.node none aB.nil aB.nil)) (aB.node none (aB.node none aB.nil aB.nil) aB.nil)) aB.nil) aB.nil)) (aB.node (some (2, [(7, Kd.i .i64)])) aB.nil aB.nil)))))
noncomputable def aRJ (S : Sg) (r7 : Int) (h : Hp) : aZ :=
 some ((Value.int .i64 r7), h)
noncomputable def XA (S : Sg) (r3 : Value) (r7 : Int) (r8 : Value) (r9 : Int) (h : Hp) : aZ :=
 eO r8 fun i0 =>
 dL (oN r9 i0) fun b1 =>
 dJ b1
 (aX 0 r3 fun v2 =>
 aQ h v2 fun v3 =>
 eU 1 r8 r9 fun v4 =>
 aQ h v4 fun v5 =>
 aY .i64 v5 fun i6 =>
 eU 1 v3 i6 fun v7 =>
 aQ h v7 fun v8 =>
 aY .i64 v8 fun i9 =>
 wrap64 (Int.add r7 i9) fun i10 =>
 wrap64 (Int.add r9 (Int.ofNat 1)) fun i11 =>
 S 1 (AL.v r3 (AL.i i10 (AL.v r8 (AL.i i11 AL.n)))) h)
 (S 2 (AL.i r7 AL.n) h)
noncomputable def aC0 (S : Sg) (r0 : Value) (r1 : Value) (r2 : Value) (h : Hp) : aZ :=
 bV h 25 (Array.toList (Value.cells r0)) fun a0 h0 =>
 bV h0 59 (Array.toList (Value.cells r1)) fun a1 h1 =>
 bV h1 59 (Array.toList (Value.cells r2)) fun a2 h2 =>
 bC 3 h2 a1 fun v3 =>
 bC 3 h2 a2 fun v4 =>
 aW (dZ F57 [v3, v4] h2) fun v5 h5 =>
 S 1 (AL.v a0 (AL.i (Int.ofNat 0) (AL.v v5 (AL.i (Int.ofNat 0) AL.n)))) h5
noncomputable def T56 (S : Sg) : Sg := dY 0 (uV fun r0 => uV fun r1 => uV fun r2 => uN fun h => aC0 S r0 r1 r2 h) (dY 1 (uV fun r3 => uI fun r7 => uV fun r8 => uI fun r9 => uN fun h => XA S r3 r7 r8 r9 h) (dY 2 (uI fun r7 => uN fun h => aRJ S r7 h) (kT)))
noncomputable def F56 (args : List Value) (h : Hp) : aZ := bQ [Kd.v, Kd.v, Kd.v] args fun al => aK T56 1000000 0 al h
def aPB : Nat := 3 + (30 - 3)
theorem a3W (S : Sg) (r7 : Int) (h : Hp) : aRJ S r7 h = aF (bT env RB (aPB)) (bU env Try.f56.results.toList) (collect B56 A56 []) 2 S (AL.i r7 AL.n) h := by kernel_rfl
theorem a3X (S : Sg) (r3 : Value) (r7 : Int) (r8 : Value) (r9 : Int) (h : Hp) : XA S r3 r7 r8 r9 h = aF (bT env RB (aPB)) (bU env Try.f56.results.toList) (collect B56 A56 []) 1 S (AL.v r3 (AL.i r7 (AL.v r8 (AL.i r9 AL.n)))) h := by kernel_rfl
theorem a3Y (S : Sg) (r0 : Value) (r1 : Value) (r2 : Value) (h : Hp) : aC0 S r0 r1 r2 h = aF (bT env RB (aPB)) (bU env Try.f56.results.toList) (collect B56 A56 []) 0 S (AL.v r0 (AL.v r1 (AL.v r2 AL.n))) h := by kernel_rfl
theorem t56 (S : Sg) : eH (fun l vs h => aF (bT env RB aPB) (bU env Try.f56.results.toList) (collect B56 A56 []) l S vs h) (T56 S) := by
 unfold T56
 refine eH.cons 0 (fun gF h q e0 => ?_) ?_
 ·obtain ⟨r0, vs1, rfl, e1⟩ := aD e0
  obtain ⟨r1, vs2, rfl, e2⟩ := aD e1
  obtain ⟨r2, vs3, rfl, e3⟩ := aD e2
  obtain ⟨rfl, ee⟩ := aR e3
  exact (a3Y S r0 r1 r2 h).symm.trans ee
 refine eH.cons 1 (fun gF h q e0 => ?_) ?_
 ·obtain ⟨r3, vs1, rfl, e1⟩ := aD e0
  obtain ⟨r7, vs2, rfl, e2⟩ := aV e1
  obtain ⟨r8, vs3, rfl, e3⟩ := aD e2
  obtain ⟨r9, tY, rfl, e4⟩ := aV e3
  obtain ⟨rfl, ee⟩ := aR e4
  exact (a3X S r3 r7 r8 r9 h).symm.trans ee
 refine eH.cons 2 (fun gF h q e0 => ?_) ?_
 ·obtain ⟨r7, vs1, rfl, e1⟩ := aV e0
  obtain ⟨rfl, ee⟩ := aR e1
  exact (a3W S r7 h).symm.trans ee
 exact eH.nil
theorem r56 : ∀ args h v h', F56 args h = some (v, h') → iE (C49) (.call 56 args.toArray h) (.ret v h') := by
 intro args h v h' e
 exact bL (C := C49) (fn := Try.f56) (body := B56) (np := 3) (A := A56) (T := T56) (kinds := [Kd.v, Kd.v, Kd.v]) (by kernel_rfl) (by kernel_rfl) (by kernel_rfl) (by kernel_rfl) (dP eB) (by kernel_rfl) (fun S => t56 S) e
noncomputable def YC := kS 56 F56 RB
noncomputable def C50 : dK := cfg YC
theorem bE3 : C50.Ok := dQ (C := C49) bE2 r56
noncomputable def B19 : Code := (Try.f19.body).getD .skip
def A19 : aB := (aB.node (some (0, [(0, Kd.v), (1, Kd.i .i64), (2, Kd.i .i64)])) aB.nil (aB.node none aB.nil (aB.node none (aB.node none aB.nil (aB.node none aB.nil aB.nil)) (aB.node (some (1, [(1, Kd.i .i64), (2, Kd.i .i64), (3, Kd.v), (11, Kd.i .i64)])) (aB.node none aB.nil (aB.node none (aB.node none aB.nil aB.nil) aB.nil)) (aB.node none aB.nil (aB.node none aB.nil aB.nil))))))
noncomputable def aRK (S : Sg) (r1 : Int) (r2 : Int) (r3 : Value) (iH : Int) (h : Hp) : aZ :=
 bZ (nK iH (Int.ofNat 0)) fun b0 =>
 dJ b0
 (some (Value.tuple (List.toArray [(Value.int .i64 (Int.ofNat 0)), (Value.slice none 0 0), (Value.int .i64 iH)]), h))
 (aX 2 r3 fun v1 =>
 aQ (Hp.mk (Hp.next h) (Hp.next h) (Hp.aI h)) v1 fun v2 =>
 eU 3 v2 r1 fun v3 =>
 bC 3 (Hp.mk (Hp.next h) (Hp.next h) (Hp.aI h)) v3 fun v4 =>
 aX 3 r3 fun v5 =>
 aQ (Hp.mk (Hp.next h) (Hp.next h) (Hp.aI h)) v5 fun v6 =>
 eU 3 v6 r2 fun v7 =>
 bC 3 (Hp.mk (Hp.next h) (Hp.next h) (Hp.aI h)) v7 fun v8 =>
 bV (Hp.mk (Hp.next h) (Hp.next h) T.nil) 59 [(Value.string (ByteArray.mk #[])), (Value.slice none 0 0), (Value.int .i64 (Int.ofNat 0))] fun a9 h9 =>
 qJ a9 (Hp.next h) h9 fun w10 n10 =>
 bV (Hp.mk n10 n10 T.nil) 59 [(Value.string (ByteArray.mk #[])), (Value.slice none 0 0), (Value.int .i64 (Int.ofNat 0))] fun a11 h11 =>
 qJ a11 n10 h11 fun w12 n12 =>
 yK env 59 a9 v4 n12 (Hp.next h) (dF w12 (dF w10 (Hp.aI h))) (fun b => (dN [] b || (dN [] b || (dN [] b || (dN [] b || (dN [] b || (dN w10 b || (dN w12 b || false)))))))) fun w13 =>
 fD 3 (Hp.mk n12 (Hp.ro h) (dF w13 (dF w12 (dF w10 (Hp.aI h))))) a11 v8 fun KX =>
 bC 4 KX r3 fun v15 =>
 bC 3 KX a9 fun v16 =>
 bC 3 KX a11 fun v17 =>
 aW (aW (dZ F56 [v15, v16, v17] (Hp.mk (Hp.next KX) (Hp.next KX) (Hp.aI KX))) fun v _ => dJ (kI v) (some (v, KX)) none) fun v18 h18 =>
 aY .i64 v18 fun i19 =>
 bC 3 h18 a9 fun v20 =>
 bC 3 h18 a11 fun v21 =>
 aW (dZ F57 [v20, v21] h18) fun v22 h22 =>
 some (Value.tuple (List.toArray [(Value.int .i64 i19), v22, (Value.int .i64 (Int.ofNat 0))]), h22))
noncomputable def aRL (S : Sg) (r0 : Value) (r1 : Int) (r2 : Int) (h : Hp) : aZ :=
 bV h 25 (Array.toList (Value.cells r0)) fun a0 h0 =>
 bC 4 h0 a0 fun v1 =>
 aW (dZ F17 [v1] h0) fun v2 h2 =>
 gD v2 0 fun v3 =>
 aY .i64 v3 fun i4 =>
 gD v2 1 fun v5 =>
 aY .i64 v5 fun i6 =>
 gD v2 2 fun v7 =>
 aY .i64 v7 fun i8 =>
 dL (nK i8 (Int.ofNat 0)) fun b9 =>
 dJ b9
 (aX 2 a0 fun v10 =>
 aQ h2 v10 fun v11 =>
 eO v11 fun i12 =>
 wrap64 (Int.sub i12 (Int.ofNat 1)) fun i13 =>
 aW (dG (F55 [(Value.int .i64 r1), (Value.int .i64 (Int.ofNat 0)), (Value.int .i64 i13)] h2) fun v => some (v, h2)) fun v14 KX =>
 eZ v14 fun b15 =>
 bZ b15 fun b16 =>
 dJ b16
 (S 1 (AL.i r1 (AL.i r2 (AL.v a0 (AL.i (Int.ofNat 4) AL.n)))) KX)
 (aX 3 a0 fun v17 =>
 aQ KX v17 fun v18 =>
 eO v18 fun i19 =>
 wrap64 (Int.sub i19 (Int.ofNat 1)) fun i20 =>
 aW (dG (F55 [(Value.int .i64 r2), (Value.int .i64 (Int.ofNat 0)), (Value.int .i64 i20)] KX) fun v => some (v, KX)) fun v21 h21 =>
 eZ v21 fun b22 =>
 bZ b22 fun b23 =>
 dJ b23
 (S 1 (AL.i r1 (AL.i r2 (AL.v a0 (AL.i (Int.ofNat 4) AL.n)))) h21)
 (S 1 (AL.i r1 (AL.i r2 (AL.v a0 (AL.i i8 AL.n)))) h21)))
 (S 1 (AL.i r1 (AL.i r2 (AL.v a0 (AL.i i8 AL.n)))) h2)
noncomputable def T19 (S : Sg) : Sg := dY 0 (uV fun r0 => uI fun r1 => uI fun r2 => uN fun h => aRL S r0 r1 r2 h) (dY 1 (uI fun r1 => uI fun r2 => uV fun r3 => uI fun iH => uN fun h => aRK S r1 r2 r3 iH h) (kT))
noncomputable def F19 (args : List Value) (h : Hp) : aZ := bQ [Kd.v, Kd.i .i64, Kd.i .i64] args fun al => aK T19 1000000 0 al h
def aVJ : Nat := 3 + (60 - 3)
theorem a3Z (S : Sg) (r1 : Int) (r2 : Int) (r3 : Value) (iH : Int) (h : Hp) : aRK S r1 r2 r3 iH h = aF (bT env YC (aVJ)) (bU env Try.f19.results.toList) (collect B19 A19 []) 1 S (AL.i r1 (AL.i r2 (AL.v r3 (AL.i iH AL.n)))) h := by kernel_rfl
theorem a4A (S : Sg) (r0 : Value) (r1 : Int) (r2 : Int) (h : Hp) : aRL S r0 r1 r2 h = aF (bT env YC (aVJ)) (bU env Try.f19.results.toList) (collect B19 A19 []) 0 S (AL.v r0 (AL.i r1 (AL.i r2 AL.n))) h := by kernel_rfl
theorem t19 (S : Sg) : eH (fun l vs h => aF (bT env YC aVJ) (bU env Try.f19.results.toList) (collect B19 A19 []) l S vs h) (T19 S) := by
 unfold T19
 refine eH.cons 0 (fun gF h q e0 => ?_) ?_
 ·obtain ⟨r0, vs1, rfl, e1⟩ := aD e0
  obtain ⟨r1, vs2, rfl, e2⟩ := aV e1
  obtain ⟨r2, vs3, rfl, e3⟩ := aV e2
  obtain ⟨rfl, ee⟩ := aR e3
  exact (a4A S r0 r1 r2 h).symm.trans ee
 refine eH.cons 1 (fun gF h q e0 => ?_) ?_
 ·obtain ⟨r1, vs1, rfl, e1⟩ := aV e0
  obtain ⟨r2, vs2, rfl, e2⟩ := aV e1
  obtain ⟨r3, vs3, rfl, e3⟩ := aD e2
  obtain ⟨iH, tY, rfl, e4⟩ := aV e3
  obtain ⟨rfl, ee⟩ := aR e4
  exact (a3Z S r1 r2 r3 iH h).symm.trans ee
 exact eH.nil
theorem r19 : ∀ args h v h', F19 args h = some (v, h') → iE (C50) (.call 19 args.toArray h) (.ret v h') := by
 intro args h v h' e
 exact bL (C := C50) (fn := Try.f19) (body := B19) (np := 3) (A := A19) (T := T19) (kinds := [Kd.v, Kd.i .i64, Kd.i .i64]) (by kernel_rfl) (by kernel_rfl) (by kernel_rfl) (by kernel_rfl) (dP eB) (by kernel_rfl) (fun S => t19 S) e
noncomputable def aRM := kS 19 F19 YC
noncomputable def C51 : dK := cfg aRM
theorem bE6 : C51.Ok := dQ (C := C50) bE3 r19
noncomputable def B20 : Code := (Try.f20.body).getD .skip
noncomputable def A20 : G.aB (List KI) := (G.aB.node (some (0, [KI.reg 0 (Kd.v), KI.reg 1 (Kd.v)])) G.aB.nil (G.aB.node none G.aB.nil (G.aB.node none (G.aB.node none G.aB.nil (G.aB.node none (G.aB.node (some (1, [KI.reg 0 (Kd.v), KI.reg 1 (Kd.v), KI.reg 5 (Kd.b), KI.reg 6 (Kd.i .i64)])) (G.aB.node none (G.aB.node none G.aB.nil (G.aB.node none G.aB.nil G.aB.nil)) (G.aB.node (some (2, [KI.reg 0 (Kd.v), KI.reg 1 (Kd.v), KI.reg 6 (Kd.i .i64)])) (G.aB.node none G.aB.nil G.aB.nil) G.aB.nil)) G.aB.nil) G.aB.nil)) (G.aB.node (some (3, [KI.reg 5 (Kd.b)])) G.aB.nil G.aB.nil))))
noncomputable def aRN (h : Hp) (S : Nat → aC → Option Value) (r5 : Bool) : Option Value :=
 some (Value.bool r5)
noncomputable def aC1 (h : Hp) (S : Nat → aC → Option Value) (r0 : Value) (r1 : Value) (r6 : Int) : Option Value :=
 eU 1 r0 r6 fun v0 =>
 aQ h v0 fun v1 =>
 aY .i64 v1 fun i2 =>
 eU 1 r1 r6 fun v3 =>
 aQ h v3 fun v4 =>
 aY .i64 v4 fun i5 =>
 dL (nK i2 i5) fun b6 =>
 wrap64 (Int.add r6 (Int.ofNat 1)) fun i7 =>
 S 1 (aC.v r0 (aC.v r1 (aC.b b6 (aC.i i7 aC.n))))
noncomputable def XB (h : Hp) (S : Nat → aC → Option Value) (r0 : Value) (r1 : Value) (r5 : Bool) (r6 : Int) : Option Value :=
 dJ r5
 (eO r0 fun i0 =>
 dL (oN r6 i0) fun b1 =>
 dJ b1
 (S 2 (aC.v r0 (aC.v r1 (aC.i r6 aC.n))))
 (S 3 (aC.b r5 aC.n)))
 (S 3 (aC.b r5 aC.n))
noncomputable def aC2 (h : Hp) (S : Nat → aC → Option Value) (r0 : Value) (r1 : Value) : Option Value :=
 eO r0 fun i0 =>
 eO r1 fun i1 =>
 dL (nK i0 i1) fun b2 =>
 S 1 (aC.v r0 (aC.v r1 (aC.b b2 (aC.i (Int.ofNat 0) aC.n))))
noncomputable def T20 (h : Hp) (S : Nat → aC → Option Value) : Nat → aC → Option Value := eG 0 (wV fun r0 => wV fun r1 => wN (aC2 h S r0 r1)) (eG 1 (wV fun r0 => wV fun r1 => wB fun r5 => wI fun r6 => wN (XB h S r0 r1 r5 r6)) (eG 2 (wV fun r0 => wV fun r1 => wI fun r6 => wN (aC1 h S r0 r1 r6)) (eG 3 (wB fun r5 => wN (aRN h S r5)) (l9))))
noncomputable def F20 (args : List Value) (h : Hp) : Option Value := plainO (eX [Kd.v, Kd.v] args fun al => G.aK (T20 h) 1000000 0 al)
def aMD : Nat := 2 + (31 - 2)
theorem a4B (h : Hp) (S : Nat → aC → Option Value) (r5 : Bool) : aRN h S r5 = G.aF bP aP fA (fB env YB aMD h) (fG env Try.f20.results.toList) (G.collect B20 A20 []) 3 S (aC.b r5 aC.n) := by kernel_rfl
theorem a4C (h : Hp) (S : Nat → aC → Option Value) (r0 : Value) (r1 : Value) (r6 : Int) : aC1 h S r0 r1 r6 = G.aF bP aP fA (fB env YB aMD h) (fG env Try.f20.results.toList) (G.collect B20 A20 []) 2 S (aC.v r0 (aC.v r1 (aC.i r6 aC.n))) := by kernel_rfl
theorem a4D (h : Hp) (S : Nat → aC → Option Value) (r0 : Value) (r1 : Value) (r5 : Bool) (r6 : Int) : XB h S r0 r1 r5 r6 = G.aF bP aP fA (fB env YB aMD h) (fG env Try.f20.results.toList) (G.collect B20 A20 []) 1 S (aC.v r0 (aC.v r1 (aC.b r5 (aC.i r6 aC.n)))) := by kernel_rfl
theorem a4E (h : Hp) (S : Nat → aC → Option Value) (r0 : Value) (r1 : Value) : aC2 h S r0 r1 = G.aF bP aP fA (fB env YB aMD h) (fG env Try.f20.results.toList) (G.collect B20 A20 []) 0 S (aC.v r0 (aC.v r1 aC.n)) := by kernel_rfl
theorem t20 (h : Hp) (S : Nat → aC → Option Value) : dI (fun l al => G.aF bP aP fA (fB env YB aMD h) (fG env Try.f20.results.toList) (G.collect B20 A20 []) l S al) (T20 h S) := by
 unfold T20
 refine dI.cons 0 (fun gF q e0 => ?_) ?_
 ·obtain ⟨r0, vs1, rfl, e1⟩ := bB e0
  obtain ⟨r1, vs2, rfl, e2⟩ := bB e1
  obtain ⟨rfl, ee⟩ := bM e2
  exact (a4E h S r0 r1).symm.trans ee
 refine dI.cons 1 (fun gF q e0 => ?_) ?_
 ·obtain ⟨r0, vs1, rfl, e1⟩ := bB e0
  obtain ⟨r1, vs2, rfl, e2⟩ := bB e1
  obtain ⟨r5, vs3, rfl, e3⟩ := lN e2
  obtain ⟨r6, tY, rfl, e4⟩ := aS e3
  obtain ⟨rfl, ee⟩ := bM e4
  exact (a4D h S r0 r1 r5 r6).symm.trans ee
 refine dI.cons 2 (fun gF q e0 => ?_) ?_
 ·obtain ⟨r0, vs1, rfl, e1⟩ := bB e0
  obtain ⟨r1, vs2, rfl, e2⟩ := bB e1
  obtain ⟨r6, vs3, rfl, e3⟩ := aS e2
  obtain ⟨rfl, ee⟩ := bM e3
  exact (a4C h S r0 r1 r6).symm.trans ee
 refine dI.cons 3 (fun gF q e0 => ?_) ?_
 ·obtain ⟨r5, vs1, rfl, e1⟩ := lN e0
  obtain ⟨rfl, ee⟩ := bM e1
  exact (a4B h S r5).symm.trans ee
 exact dI.nil
theorem r20 : PSound Try.prog 20 F20 := dW (C := C0) ok0 (pf := YB) aMC (fn := Try.f20) (body := B20) (kinds := [Kd.v, Kd.v]) (A := A20) (T := T20) (by kernel_rfl) (by kernel_rfl) (by kernel_rfl) (by kernel_rfl) (fun h S => t20 h S)
noncomputable def aBI : PF := J9 20 F20 YB
theorem aME : fO Try.prog aBI := jT r20 aMC
noncomputable def YD := pI 20 F20 aRM
noncomputable def C52 : dK := cfg YD
theorem bE7 : C52.Ok := iB (C := C51) bE6 r20
noncomputable def B3 : Code := (Try.f3.body).getD .skip
def A3 : aB := (aB.node (some (0, [(0, Kd.v), (1, Kd.v)])) aB.nil (aB.node none aB.nil (aB.node none aB.nil (aB.node none (aB.node none aB.nil (aB.node none (aB.node none aB.nil aB.nil) aB.nil)) (aB.node (some (1, [(2, Kd.v), (3, Kd.v)])) aB.nil (aB.node none aB.nil (aB.node none aB.nil aB.nil)))))))
noncomputable def a4F (S : Sg) (r2 : Value) (r3 : Value) (h : Hp) : aZ :=
 bC 4 h r2 fun v0 =>
 yT 2 1 r3 (Int.ofNat 0) fun v1 =>
 aQ h v1 fun v2 =>
 aY .i64 v2 fun i3 =>
 yT 2 1 r3 (Int.ofNat 1) fun v4 =>
 aQ h v4 fun v5 =>
 aY .i64 v5 fun i6 =>
 aW (dZ F18 [v0, (Value.int .i64 i3), (Value.int .i64 i6)] h) fun v7 h7 =>
 gD v7 0 fun v8 =>
 aY .i64 v8 fun i9 =>
 gD v7 1 fun v10 =>
 gD v7 2 fun v11 =>
 aY .i64 v11 fun i12 =>
 bC 4 h7 r2 fun v13 =>
 yT 2 1 r3 (Int.ofNat 0) fun v14 =>
 aQ h7 v14 fun v15 =>
 aY .i64 v15 fun i16 =>
 yT 2 1 r3 (Int.ofNat 1) fun v17 =>
 aQ h7 v17 fun v18 =>
 aY .i64 v18 fun i19 =>
 aW (dZ F19 [v13, (Value.int .i64 i16), (Value.int .i64 i19)] h7) fun v20 h20 =>
 gD v20 0 fun v21 =>
 aY .i64 v21 fun i22 =>
 gD v20 1 fun v23 =>
 gD v20 2 fun v24 =>
 aY .i64 v24 fun i25 =>
 dL (nK i9 i22) fun b26 =>
 dJ b26
 (aW (dG (F20 [v10, v23] h20) fun v => some (v, h20)) fun v27 h27 =>
 eZ v27 fun b28 =>
 dJ b28
 (dL (nK i12 i25) fun b29 =>
 dJ b29
 (aW (dG (aGI [] h27) fun v => some (v, h27)) fun v30 h30 =>
 eZ v30 fun b31 =>
 some ((Value.bool b31), h30))
 (some ((Value.bool false), h27)))
 (some ((Value.bool false), h27)))
 (some ((Value.bool false), h20))
noncomputable def a4G (S : Sg) (r0 : Value) (r1 : Value) (h : Hp) : aZ :=
 bV h 25 (Array.toList (Value.cells r0)) fun a0 h0 =>
 bV h0 26 (Array.toList (Value.cells r1)) fun a1 h1 =>
 bC 4 h1 a0 fun v2 =>
 aW (dZ F16 [v2] h1) fun v3 h3 =>
 gD v3 0 fun v4 =>
 aY .i64 v4 fun i5 =>
 gD v3 1 fun v6 =>
 aY .i64 v6 fun i7 =>
 gD v3 2 fun v8 =>
 aY .i64 v8 fun i9 =>
 bC 4 h3 a0 fun v10 =>
 aW (dZ F17 [v10] h3) fun v11 h11 =>
 gD v11 0 fun v12 =>
 aY .i64 v12 fun i13 =>
 gD v11 1 fun v14 =>
 aY .i64 v14 fun i15 =>
 gD v11 2 fun v16 =>
 aY .i64 v16 fun i17 =>
 bZ (nK i5 i13) fun b18 =>
 dJ b18
 (some ((Value.bool false), h11))
 (bZ (nK i7 i15) fun b19 =>
 dJ b19
 (some ((Value.bool false), h11))
 (bZ (nK i9 i17) fun b20 =>
 dJ b20
 (some ((Value.bool false), h11))
 (S 1 (AL.v a0 (AL.v a1 AL.n)) h11)))
noncomputable def T3 (S : Sg) : Sg := dY 0 (uV fun r0 => uV fun r1 => uN fun h => a4G S r0 r1 h) (dY 1 (uV fun r2 => uV fun r3 => uN fun h => a4F S r2 r3 h) (kT))
noncomputable def F3 (args : List Value) (h : Hp) : aZ := bQ [Kd.v, Kd.v] args fun al => aK T3 1000000 0 al h
def nt3 : Nat := 2 + (74 - 2)
theorem bE9 (S : Sg) (r2 : Value) (r3 : Value) (h : Hp) : a4F S r2 r3 h = aF (bT env YD (nt3)) (bU env Try.f3.results.toList) (collect B3 A3 []) 1 S (AL.v r2 (AL.v r3 AL.n)) h := by kernel_rfl
theorem bFA (S : Sg) (r0 : Value) (r1 : Value) (h : Hp) : a4G S r0 r1 h = aF (bT env YD (nt3)) (bU env Try.f3.results.toList) (collect B3 A3 []) 0 S (AL.v r0 (AL.v r1 AL.n)) h := by kernel_rfl
theorem t3 (S : Sg) : eH (fun l vs h => aF (bT env YD nt3) (bU env Try.f3.results.toList) (collect B3 A3 []) l S vs h) (T3 S) := by
 unfold T3
 refine eH.cons 0 (fun gF h q e0 => ?_) ?_
 ·obtain ⟨r0, vs1, rfl, e1⟩ := aD e0
  obtain ⟨r1, vs2, rfl, e2⟩ := aD e1
  obtain ⟨rfl, ee⟩ := aR e2
  exact (bFA S r0 r1 h).symm.trans ee
 refine eH.cons 1 (fun gF h q e0 => ?_) ?_
 ·obtain ⟨r2, vs1, rfl, e1⟩ := aD e0
  obtain ⟨r3, vs2, rfl, e2⟩ := aD e1
  obtain ⟨rfl, ee⟩ := aR e2
  exact (bE9 S r2 r3 h).symm.trans ee
 exact eH.nil
theorem r3 : ∀ args h v h', F3 args h = some (v, h') → iE (C52) (.call 3 args.toArray h) (.ret v h') := by
 intro args h v h' e
 exact bL (C := C52) (fn := Try.f3) (body := B3) (np := 2) (A := A3) (T := T3) (kinds := [Kd.v, Kd.v]) (by kernel_rfl) (by kernel_rfl) (by kernel_rfl) (by kernel_rfl) (dP eB) (by kernel_rfl) (fun S => t3 S) e
noncomputable def aRO := kS 3 F3 YD
noncomputable def C53 : dK := cfg aRO
theorem bFB : C53.Ok := dQ (C := C52) bE7 r3
noncomputable def B43 : Code := (Try.f43.body).getD .skip
noncomputable def A43 : G.aB (List KI) := (G.aB.node (some (0, [KI.reg 0 (Kd.v), KI.reg 1 (Kd.i .i64)])) G.aB.nil (G.aB.node none (G.aB.node none G.aB.nil (G.aB.node none (G.aB.node (some (1, [KI.reg 0 (Kd.v), KI.reg 1 (Kd.i .i64), KI.reg 5 (Kd.i .i64)])) (G.aB.node none (G.aB.node none G.aB.nil (G.aB.node none G.aB.nil G.aB.nil)) (G.aB.node none (G.aB.node none (G.aB.node none G.aB.nil (G.aB.node none (G.aB.node none G.aB.nil G.aB.nil) G.aB.nil)) G.aB.nil) G.aB.nil)) G.aB.nil) G.aB.nil)) (G.aB.node (some (2, [])) G.aB.nil G.aB.nil)))
noncomputable def aRP (h : Hp) (S : Nat → aC → Option Value) : Option Value :=
 some (Value.bool false)
noncomputable def XO (h : Hp) (S : Nat → aC → Option Value) (r0 : Value) (r1 : Int) (r5 : Int) : Option Value :=
 eO r0 fun i0 =>
 dL (oN r5 i0) fun b1 =>
 dJ b1
 (eU 1 r0 r5 fun v2 =>
 aQ h v2 fun v3 =>
 aY .i64 v3 fun i4 =>
 dL (nK i4 r1) fun b5 =>
 dJ b5
 (some (Value.bool true))
 (wrap64 (Int.add r5 (Int.ofNat 1)) fun i6 =>
 S 1 (aC.v r0 (aC.i r1 (aC.i i6 aC.n)))))
 (S 2 aC.n)
noncomputable def aRQ (h : Hp) (S : Nat → aC → Option Value) (r0 : Value) (r1 : Int) : Option Value :=
 S 1 (aC.v r0 (aC.i r1 (aC.i (Int.ofNat 0) aC.n)))
noncomputable def T43 (h : Hp) (S : Nat → aC → Option Value) : Nat → aC → Option Value := eG 0 (wV fun r0 => wI fun r1 => wN (aRQ h S r0 r1)) (eG 1 (wV fun r0 => wI fun r1 => wI fun r5 => wN (XO h S r0 r1 r5)) (eG 2 (wN (aRP h S)) (l9)))
noncomputable def F43 (args : List Value) (h : Hp) : Option Value := plainO (eX [Kd.v, Kd.i .i64] args fun al => G.aK (T43 h) 1000000 0 al)
def aPC : Nat := 2 + (18 - 2)
theorem a4J (h : Hp) (S : Nat → aC → Option Value) : aRP h S = G.aF bP aP fA (fB env aBI aPC h) (fG env Try.f43.results.toList) (G.collect B43 A43 []) 2 S aC.n := by kernel_rfl
theorem a4K (h : Hp) (S : Nat → aC → Option Value) (r0 : Value) (r1 : Int) (r5 : Int) : XO h S r0 r1 r5 = G.aF bP aP fA (fB env aBI aPC h) (fG env Try.f43.results.toList) (G.collect B43 A43 []) 1 S (aC.v r0 (aC.i r1 (aC.i r5 aC.n))) := by kernel_rfl
theorem a4L (h : Hp) (S : Nat → aC → Option Value) (r0 : Value) (r1 : Int) : aRQ h S r0 r1 = G.aF bP aP fA (fB env aBI aPC h) (fG env Try.f43.results.toList) (G.collect B43 A43 []) 0 S (aC.v r0 (aC.i r1 aC.n)) := by kernel_rfl
theorem t43 (h : Hp) (S : Nat → aC → Option Value) : dI (fun l al => G.aF bP aP fA (fB env aBI aPC h) (fG env Try.f43.results.toList) (G.collect B43 A43 []) l S al) (T43 h S) := by
 unfold T43
 refine dI.cons 0 (fun gF q e0 => ?_) ?_
 ·obtain ⟨r0, vs1, rfl, e1⟩ := bB e0
  obtain ⟨r1, vs2, rfl, e2⟩ := aS e1
  obtain ⟨rfl, ee⟩ := bM e2
  exact (a4L h S r0 r1).symm.trans ee
 refine dI.cons 1 (fun gF q e0 => ?_) ?_
 ·obtain ⟨r0, vs1, rfl, e1⟩ := bB e0
  obtain ⟨r1, vs2, rfl, e2⟩ := aS e1
  obtain ⟨r5, vs3, rfl, e3⟩ := aS e2
  obtain ⟨rfl, ee⟩ := bM e3
  exact (a4K h S r0 r1 r5).symm.trans ee
 refine dI.cons 2 (fun gF q e0 => ?_) ?_
 ·
  obtain ⟨rfl, ee⟩ := bM e0
  exact (a4J h S).symm.trans ee
 exact dI.nil
theorem r43 : PSound Try.prog 43 F43 := dW (C := C0) ok0 (pf := aBI) aME (fn := Try.f43) (body := B43) (kinds := [Kd.v, Kd.i .i64]) (A := A43) (T := T43) (by kernel_rfl) (by kernel_rfl) (by kernel_rfl) (by kernel_rfl) (fun h S => t43 h S)
noncomputable def bFC : PF := J9 43 F43 aBI
theorem bFD : fO Try.prog bFC := jT r43 aME
noncomputable def CB := pI 43 F43 aRO
noncomputable def C54 : dK := cfg CB
theorem bFE : C54.Ok := iB (C := C53) bFB r43
noncomputable def B40 : Code := (Try.f40.body).getD .skip
def A40 : aB := (aB.node (some (0, [(0, Kd.v), (1, Kd.v)])) aB.nil (aB.node none aB.nil (aB.node none (aB.node none aB.nil (aB.node none aB.nil aB.nil)) (aB.node none (aB.node none aB.nil (aB.node none (aB.node (some (1, [(1, Kd.v), (2, Kd.v), (7, Kd.i .i64), (8, Kd.i .i64)])) (aB.node none (aB.node none aB.nil (aB.node none aB.nil aB.nil)) (aB.node (some (2, [(1, Kd.v), (2, Kd.v), (7, Kd.i .i64), (8, Kd.i .i64)])) (aB.node none (aB.node none aB.nil (aB.node none aB.nil aB.nil)) aB.nil) aB.nil)) aB.nil) aB.nil)) (aB.node (some (6, [(1, Kd.v), (7, Kd.i .i64)])) (aB.node none aB.nil (aB.node none (aB.node (some (3, [(1, Kd.v), (7, Kd.i .i64), (9, Kd.i .i64)])) (aB.node none (aB.node none aB.nil (aB.node none aB.nil aB.nil)) (aB.node (some (4, [(1, Kd.v), (7, Kd.i .i64), (9, Kd.i .i64)])) (aB.node none (aB.node none aB.nil (aB.node none aB.nil aB.nil)) aB.nil) aB.nil)) aB.nil) aB.nil)) (aB.node (some (5, [(7, Kd.i .i64)])) aB.nil aB.nil))))))
noncomputable def aRR (S : Sg) (r7 : Int) (h : Hp) : aZ :=
 some ((Value.int .i64 r7), h)
noncomputable def aDO (S : Sg) (r1 : Value) (r7 : Int) (r9 : Int) (h : Hp) : aZ :=
 dG (jZ env h 22 r1 none (some (Value.int .i64 r9)) none) fun v0 =>
 eU 1 r1 r9 fun v1 =>
 aQ h v1 fun v2 =>
 aY .i64 v2 fun i3 =>
 aW (dG (F43 [v0, (Value.int .i64 i3)] h) fun v => some (v, h)) fun v4 h4 =>
 eZ v4 fun b5 =>
 dJ b5
 (wrap64 (Int.add r9 (Int.ofNat 1)) fun i6 =>
 S 3 (AL.v r1 (AL.i (Int.ofNat 5) (AL.i i6 AL.n))) h4)
 (wrap64 (Int.add r9 (Int.ofNat 1)) fun i7 =>
 S 3 (AL.v r1 (AL.i r7 (AL.i i7 AL.n))) h4)
noncomputable def NS (S : Sg) (r1 : Value) (r7 : Int) (r9 : Int) (h : Hp) : aZ :=
 eO r1 fun i0 =>
 dL (oN r9 i0) fun b1 =>
 dJ b1
 (dL (nK r7 (Int.ofNat 0)) fun b2 =>
 dJ b2
 (S 4 (AL.v r1 (AL.i r7 (AL.i r9 AL.n))) h)
 (S 5 (AL.i r7 AL.n) h))
 (S 5 (AL.i r7 AL.n) h)
noncomputable def aRS (S : Sg) (r1 : Value) (r7 : Int) (h : Hp) : aZ :=
 S 3 (AL.v r1 (AL.i r7 (AL.i (Int.ofNat 0) AL.n))) h
noncomputable def aDN (S : Sg) (r1 : Value) (r2 : Value) (r7 : Int) (r8 : Int) (h : Hp) : aZ :=
 eU 1 r1 r8 fun v0 =>
 aQ h v0 fun v1 =>
 aY .i64 v1 fun i2 =>
 aX 2 r2 fun v3 =>
 aQ h v3 fun v4 =>
 eO v4 fun i5 =>
 wrap64 (Int.sub i5 (Int.ofNat 1)) fun i6 =>
 aW (dG (F55 [(Value.int .i64 i2), (Value.int .i64 (Int.ofNat 0)), (Value.int .i64 i6)] h) fun v => some (v, h)) fun v7 h7 =>
 eZ v7 fun b8 =>
 bZ b8 fun b9 =>
 dJ b9
 (wrap64 (Int.add r8 (Int.ofNat 1)) fun i10 =>
 S 1 (AL.v r1 (AL.v r2 (AL.i (Int.ofNat 4) (AL.i i10 AL.n)))) h7)
 (wrap64 (Int.add r8 (Int.ofNat 1)) fun i11 =>
 S 1 (AL.v r1 (AL.v r2 (AL.i r7 (AL.i i11 AL.n)))) h7)
noncomputable def QT (S : Sg) (r1 : Value) (r2 : Value) (r7 : Int) (r8 : Int) (h : Hp) : aZ :=
 eO r1 fun i0 =>
 dL (oN r8 i0) fun b1 =>
 dJ b1
 (dL (nK r7 (Int.ofNat 0)) fun b2 =>
 dJ b2
 (S 2 (AL.v r1 (AL.v r2 (AL.i r7 (AL.i r8 AL.n)))) h)
 (S 6 (AL.v r1 (AL.i r7 AL.n)) h))
 (S 6 (AL.v r1 (AL.i r7 AL.n)) h)
noncomputable def aDP (S : Sg) (r0 : Value) (r1 : Value) (h : Hp) : aZ :=
 bV h 25 (Array.toList (Value.cells r0)) fun a0 h0 =>
 bC 4 h0 a0 fun v1 =>
 aW (dZ F17 [v1] h0) fun v2 h2 =>
 gD v2 0 fun v3 =>
 aY .i64 v3 fun i4 =>
 gD v2 1 fun v5 =>
 aY .i64 v5 fun i6 =>
 gD v2 2 fun v7 =>
 aY .i64 v7 fun i8 =>
 dL (nK i8 (Int.ofNat 0)) fun b9 =>
 dJ b9
 (eO r1 fun i10 =>
 aX 3 a0 fun v11 =>
 aQ h2 v11 fun v12 =>
 eO v12 fun i13 =>
 bZ (nK i10 i13) fun b14 =>
 dJ b14
 (S 1 (AL.v r1 (AL.v a0 (AL.i (Int.ofNat 3) (AL.i (Int.ofNat 0) AL.n)))) h2)
 (S 1 (AL.v r1 (AL.v a0 (AL.i i8 (AL.i (Int.ofNat 0) AL.n)))) h2))
 (S 1 (AL.v r1 (AL.v a0 (AL.i i8 (AL.i (Int.ofNat 0) AL.n)))) h2)
noncomputable def QS (S : Sg) : Sg := dY 0 (uV fun r0 => uV fun r1 => uN fun h => aDP S r0 r1 h) (dY 1 (uV fun r1 => uV fun r2 => uI fun r7 => uI fun r8 => uN fun h => QT S r1 r2 r7 r8 h) (dY 2 (uV fun r1 => uV fun r2 => uI fun r7 => uI fun r8 => uN fun h => aDN S r1 r2 r7 r8 h) (dY 6 (uV fun r1 => uI fun r7 => uN fun h => aRS S r1 r7 h) (dY 3 (uV fun r1 => uI fun r7 => uI fun r9 => uN fun h => NS S r1 r7 r9 h) (dY 4 (uV fun r1 => uI fun r7 => uI fun r9 => uN fun h => aDO S r1 r7 r9 h) (dY 5 (uI fun r7 => uN fun h => aRR S r7 h) (kT)))))))
noncomputable def F40 (args : List Value) (h : Hp) : aZ := bQ [Kd.v, Kd.v] args fun al => aK QS 1000000 0 al h
def YE : Nat := 2 + (65 - 2)
theorem a4M (S : Sg) (r7 : Int) (h : Hp) : aRR S r7 h = aF (bT env CB (YE)) (bU env Try.f40.results.toList) (collect B40 A40 []) 5 S (AL.i r7 AL.n) h := by kernel_rfl
theorem a4N (S : Sg) (r1 : Value) (r7 : Int) (r9 : Int) (h : Hp) : aDO S r1 r7 r9 h = aF (bT env CB (YE)) (bU env Try.f40.results.toList) (collect B40 A40 []) 4 S (AL.v r1 (AL.i r7 (AL.i r9 AL.n))) h := by kernel_rfl
theorem a4O (S : Sg) (r1 : Value) (r7 : Int) (r9 : Int) (h : Hp) : NS S r1 r7 r9 h = aF (bT env CB (YE)) (bU env Try.f40.results.toList) (collect B40 A40 []) 3 S (AL.v r1 (AL.i r7 (AL.i r9 AL.n))) h := by kernel_rfl
theorem a4P (S : Sg) (r1 : Value) (r7 : Int) (h : Hp) : aRS S r1 r7 h = aF (bT env CB (YE)) (bU env Try.f40.results.toList) (collect B40 A40 []) 6 S (AL.v r1 (AL.i r7 AL.n)) h := by kernel_rfl
theorem a4Q (S : Sg) (r1 : Value) (r2 : Value) (r7 : Int) (r8 : Int) (h : Hp) : aDN S r1 r2 r7 r8 h = aF (bT env CB (YE)) (bU env Try.f40.results.toList) (collect B40 A40 []) 2 S (AL.v r1 (AL.v r2 (AL.i r7 (AL.i r8 AL.n)))) h := by kernel_rfl
theorem a4R (S : Sg) (r1 : Value) (r2 : Value) (r7 : Int) (r8 : Int) (h : Hp) : QT S r1 r2 r7 r8 h = aF (bT env CB (YE)) (bU env Try.f40.results.toList) (collect B40 A40 []) 1 S (AL.v r1 (AL.v r2 (AL.i r7 (AL.i r8 AL.n)))) h := by kernel_rfl
theorem a4S (S : Sg) (r0 : Value) (r1 : Value) (h : Hp) : aDP S r0 r1 h = aF (bT env CB (YE)) (bU env Try.f40.results.toList) (collect B40 A40 []) 0 S (AL.v r0 (AL.v r1 AL.n)) h := by kernel_rfl
theorem t40 (S : Sg) : eH (fun l vs h => aF (bT env CB YE) (bU env Try.f40.results.toList) (collect B40 A40 []) l S vs h) (QS S) := by
 unfold QS
 refine eH.cons 0 (fun gF h q e0 => ?_) ?_
 ·obtain ⟨r0, vs1, rfl, e1⟩ := aD e0
  obtain ⟨r1, vs2, rfl, e2⟩ := aD e1
  obtain ⟨rfl, ee⟩ := aR e2
  exact (a4S S r0 r1 h).symm.trans ee
 refine eH.cons 1 (fun gF h q e0 => ?_) ?_
 ·obtain ⟨r1, vs1, rfl, e1⟩ := aD e0
  obtain ⟨r2, vs2, rfl, e2⟩ := aD e1
  obtain ⟨r7, vs3, rfl, e3⟩ := aV e2
  obtain ⟨r8, tY, rfl, e4⟩ := aV e3
  obtain ⟨rfl, ee⟩ := aR e4
  exact (a4R S r1 r2 r7 r8 h).symm.trans ee
 refine eH.cons 2 (fun gF h q e0 => ?_) ?_
 ·obtain ⟨r1, vs1, rfl, e1⟩ := aD e0
  obtain ⟨r2, vs2, rfl, e2⟩ := aD e1
  obtain ⟨r7, vs3, rfl, e3⟩ := aV e2
  obtain ⟨r8, tY, rfl, e4⟩ := aV e3
  obtain ⟨rfl, ee⟩ := aR e4
  exact (a4Q S r1 r2 r7 r8 h).symm.trans ee
 refine eH.cons 6 (fun gF h q e0 => ?_) ?_
 ·obtain ⟨r1, vs1, rfl, e1⟩ := aD e0
  obtain ⟨r7, vs2, rfl, e2⟩ := aV e1
  obtain ⟨rfl, ee⟩ := aR e2
  exact (a4P S r1 r7 h).symm.trans ee
 refine eH.cons 3 (fun gF h q e0 => ?_) ?_
 ·obtain ⟨r1, vs1, rfl, e1⟩ := aD e0
  obtain ⟨r7, vs2, rfl, e2⟩ := aV e1
  obtain ⟨r9, vs3, rfl, e3⟩ := aV e2
  obtain ⟨rfl, ee⟩ := aR e3
  exact (a4O S r1 r7 r9 h).symm.trans ee
 refine eH.cons 4 (fun gF h q e0 => ?_) ?_
 ·obtain ⟨r1, vs1, rfl, e1⟩ := aD e0
  obtain ⟨r7, vs2, rfl, e2⟩ := aV e1
  obtain ⟨r9, vs3, rfl, e3⟩ := aV e2
  obtain ⟨rfl, ee⟩ := aR e3
  exact (a4N S r1 r7 r9 h).symm.trans ee
 refine eH.cons 5 (fun gF h q e0 => ?_) ?_
 ·obtain ⟨r7, vs1, rfl, e1⟩ := aV e0
  obtain ⟨rfl, ee⟩ := aR e1
  exact (a4M S r7 h).symm.trans ee
 exact eH.nil
theorem r40 : ∀ args h v h', F40 args h = some (v, h') → iE (C54) (.call 40 args.toArray h) (.ret v h') := by
 intro args h v h' e
 exact bL (C := C54) (fn := Try.f40) (body := B40) (np := 2) (A := A40) (T := QS) (kinds := [Kd.v, Kd.v]) (by kernel_rfl) (by kernel_rfl) (by kernel_rfl) (by kernel_rfl) (dP eB) (by kernel_rfl) (fun S => t40 S) e
noncomputable def zO := kS 40 F40 CB
noncomputable def C55 : dK := cfg zO
theorem bFF : C55.Ok := dQ (C := C54) bFE r40
noncomputable def B61 : Code := (Try.f61.body).getD .skip
def A61 : aB := (aB.node (some (0, [(0, Kd.v), (1, Kd.v)])) aB.nil (aB.node none aB.nil (aB.node none (aB.node none aB.nil (aB.node none (aB.node (some (1, [(1, Kd.v), (2, Kd.v), (5, Kd.v), (6, Kd.i .i64)])) (aB.node none (aB.node none aB.nil (aB.node none aB.nil aB.nil)) (aB.node none (aB.node none (aB.node none aB.nil (aB.node none (aB.node none aB.nil (aB.node none (aB.node (some (2, [(1, Kd.v), (2, Kd.v), (5, Kd.v), (6, Kd.i .i64), (7, Kd.i .i64), (8, Kd.i .i64)])) (aB.node none (aB.node none aB.nil (aB.node none aB.nil aB.nil)) (aB.node none (aB.node none (aB.node none aB.nil (aB.node none (aB.node none aB.nil (aB.node none aB.nil aB.nil)) (aB.node none (aB.node none aB.nil (aB.node none aB.nil aB.nil)) (aB.node (some (3, [(1, Kd.v), (2, Kd.v), (5, Kd.v), (6, Kd.i .i64), (7, Kd.i .i64), (8, Kd.i .i64), (10, Kd.v)])) aB.nil (aB.node none aB.nil aB.nil))))) aB.nil) (aB.node (some (4, [(1, Kd.v), (2, Kd.v), (5, Kd.v), (6, Kd.i .i64), (7, Kd.i .i64), (8, Kd.i .i64)])) aB.nil aB.nil))) aB.nil) aB.nil)) (aB.node (some (5, [(1, Kd.v), (2, Kd.v), (5, Kd.v), (6, Kd.i .i64), (7, Kd.i .i64)])) aB.nil aB.nil))) aB.nil) (aB.node (some (6, [(1, Kd.v), (2, Kd.v), (5, Kd.v), (6, Kd.i .i64)])) aB.nil aB.nil))) aB.nil) aB.nil)) (aB.node (some (7, [(5, Kd.v)])) aB.nil aB.nil))))
noncomputable def aRT (S : Sg) (r5 : Value) (h : Hp) : aZ :=
 some (r5, h)
noncomputable def aDT (S : Sg) (r1 : Value) (r2 : Value) (r5 : Value) (r6 : Int) (h : Hp) : aZ :=
 wrap64 (Int.add r6 (Int.ofNat 1)) fun i0 =>
 S 1 (AL.v r1 (AL.v r2 (AL.v r5 (AL.i i0 AL.n)))) h
noncomputable def aDS (S : Sg) (r1 : Value) (r2 : Value) (r5 : Value) (r6 : Int) (r7 : Int) (h : Hp) : aZ :=
 aW (bW env h 22 1 (List.toArray [(0, (Value.int .i64 r7))])) fun v0 h0 =>
 aW (jF env h0 #[22, 22] (List.toArray [r5, v0])) fun v1 h1 =>
 S 6 (AL.v r1 (AL.v r2 (AL.v v1 (AL.i r6 AL.n)))) h1
noncomputable def aDR (S : Sg) (r1 : Value) (r2 : Value) (r5 : Value) (r6 : Int) (r7 : Int) (r8 : Int) (h : Hp) : aZ :=
 wrap64 (Int.add r8 (Int.ofNat 1)) fun i0 =>
 S 2 (AL.v r1 (AL.v r2 (AL.v r5 (AL.i r6 (AL.i r7 (AL.i i0 AL.n)))))) h
noncomputable def aDQ (S : Sg) (r1 : Value) (r2 : Value) (r5 : Value) (r6 : Int) (r7 : Int) (r8 : Int) (iF : Value) (h : Hp) : aZ :=
 aX 1 iF fun v0 =>
 aQ h v0 fun v1 =>
 eU 1 v1 (Int.ofNat 0) fun v2 =>
 aQ h v2 fun v3 =>
 aY .i64 v3 fun i4 =>
 dL (nK i4 r6) fun b5 =>
 dJ b5
 (aX 2 iF fun v6 =>
 aQ h v6 fun v7 =>
 aY .i64 v7 fun i8 =>
 wrap64 (Int.sub r7 i8) fun i9 =>
 S 4 (AL.v r1 (AL.v r2 (AL.v r5 (AL.i r6 (AL.i i9 (AL.i r8 AL.n)))))) h)
 (S 4 (AL.v r1 (AL.v r2 (AL.v r5 (AL.i r6 (AL.i r7 (AL.i r8 AL.n)))))) h)
noncomputable def XR (S : Sg) (r1 : Value) (r2 : Value) (r5 : Value) (r6 : Int) (r7 : Int) (r8 : Int) (h : Hp) : aZ :=
 eO r1 fun i0 =>
 dL (oN r8 i0) fun b1 =>
 dJ b1
 (aX 2 r2 fun v2 =>
 aQ (Hp.mk (Hp.next h) (Hp.next h) (Hp.aI h)) v2 fun v3 =>
 eU 1 r1 r8 fun v4 =>
 aQ (Hp.mk (Hp.next h) (Hp.next h) (Hp.aI h)) v4 fun v5 =>
 aY .i64 v5 fun i6 =>
 eU 3 v3 i6 fun v7 =>
 bC 3 (Hp.mk (Hp.next h) (Hp.next h) (Hp.aI h)) v7 fun v8 =>
 aX 3 r2 fun v9 =>
 aQ (Hp.mk (Hp.next h) (Hp.next h) (Hp.aI h)) v9 fun v10 =>
 eU 3 v10 r8 fun v11 =>
 bC 3 (Hp.mk (Hp.next h) (Hp.next h) (Hp.aI h)) v11 fun v12 =>
 bV (Hp.mk (Hp.next h) (Hp.next h) T.nil) 59 [(Value.string (ByteArray.mk #[])), (Value.slice none 0 0), (Value.int .i64 (Int.ofNat 0))] fun a13 h13 =>
 qJ a13 (Hp.next h) h13 fun w14 n14 =>
 bV (Hp.mk n14 n14 T.nil) 59 [(Value.string (ByteArray.mk #[])), (Value.slice none 0 0), (Value.int .i64 (Int.ofNat 0))] fun a15 h15 =>
 qJ a15 n14 h15 fun w16 n16 =>
 yK env 59 a13 v8 n16 (Hp.next h) (dF w16 (dF w14 (Hp.aI h))) (fun b => (dN [] b || (dN [] b || (dN [] b || (dN [] b || (dN [] b || (dN [] b || (dN [] b || (dN [] b || (dN w14 b || (dN w16 b || false))))))))))) fun w17 =>
 fD 3 (Hp.mk n16 (Hp.ro h) (dF w17 (dF w16 (dF w14 (Hp.aI h))))) a15 v12 fun h18 =>
 bC 3 h18 a13 fun v19 =>
 bC 3 h18 a15 fun v20 =>
 aW (dZ F57 [v19, v20] h18) fun v21 h21 =>
 aW (dG (F43 [v21, (Value.int .i64 (Int.ofNat 0))] h21) fun v => some (v, h21)) fun v22 h22 =>
 eZ v22 fun b23 =>
 bZ b23 fun b24 =>
 dJ b24
 (S 4 (AL.v r1 (AL.v r2 (AL.v r5 (AL.i r6 (AL.i r7 (AL.i r8 AL.n)))))) h22)
 (aX 1 a13 fun v25 =>
 aQ h22 v25 fun v26 =>
 eU 1 v26 (Int.ofNat 0) fun v27 =>
 aQ h22 v27 fun v28 =>
 aY .i64 v28 fun i29 =>
 dL (nK i29 r6) fun b30 =>
 dJ b30
 (aX 2 a13 fun v31 =>
 aQ h22 v31 fun v32 =>
 aY .i64 v32 fun i33 =>
 wrap64 (Int.add r7 i33) fun i34 =>
 S 3 (AL.v r1 (AL.v r2 (AL.v r5 (AL.i r6 (AL.i i34 (AL.i r8 (AL.v a15 AL.n))))))) h22)
 (S 3 (AL.v r1 (AL.v r2 (AL.v r5 (AL.i r6 (AL.i r7 (AL.i r8 (AL.v a15 AL.n))))))) h22)))
 (S 5 (AL.v r1 (AL.v r2 (AL.v r5 (AL.i r6 (AL.i r7 AL.n))))) h)
noncomputable def XQ (S : Sg) (r1 : Value) (r2 : Value) (r5 : Value) (r6 : Int) (h : Hp) : aZ :=
 aX 1 r2 fun v0 =>
 aQ h v0 fun v1 =>
 eO v1 fun i2 =>
 dL (oN r6 i2) fun b3 =>
 dJ b3
 (aX 1 r2 fun v4 =>
 aQ h v4 fun v5 =>
 eU 1 v5 r6 fun v6 =>
 aQ h v6 fun v7 =>
 aY .i64 v7 fun i8 =>
 S 2 (AL.v r1 (AL.v r2 (AL.v r5 (AL.i r6 (AL.i i8 (AL.i (Int.ofNat 0) AL.n)))))) h)
 (S 7 (AL.v r5 AL.n) h)
noncomputable def aDU (S : Sg) (r0 : Value) (r1 : Value) (h : Hp) : aZ :=
 bV h 25 (Array.toList (Value.cells r0)) fun a0 h0 =>
 S 1 (AL.v r1 (AL.v a0 (AL.v (Value.slice none 0 0) (AL.i (Int.ofNat 0) AL.n)))) h0
noncomputable def KF (S : Sg) : Sg := dY 0 (uV fun r0 => uV fun r1 => uN fun h => aDU S r0 r1 h) (dY 1 (uV fun r1 => uV fun r2 => uV fun r5 => uI fun r6 => uN fun h => XQ S r1 r2 r5 r6 h) (dY 2 (uV fun r1 => uV fun r2 => uV fun r5 => uI fun r6 => uI fun r7 => uI fun r8 => uN fun h => XR S r1 r2 r5 r6 r7 r8 h) (dY 3 (uV fun r1 => uV fun r2 => uV fun r5 => uI fun r6 => uI fun r7 => uI fun r8 => uV fun iF => uN fun h => aDQ S r1 r2 r5 r6 r7 r8 iF h) (dY 4 (uV fun r1 => uV fun r2 => uV fun r5 => uI fun r6 => uI fun r7 => uI fun r8 => uN fun h => aDR S r1 r2 r5 r6 r7 r8 h) (dY 5 (uV fun r1 => uV fun r2 => uV fun r5 => uI fun r6 => uI fun r7 => uN fun h => aDS S r1 r2 r5 r6 r7 h) (dY 6 (uV fun r1 => uV fun r2 => uV fun r5 => uI fun r6 => uN fun h => aDT S r1 r2 r5 r6 h) (dY 7 (uV fun r5 => uN fun h => aRT S r5 h) (kT))))))))
noncomputable def F61 (args : List Value) (h : Hp) : aZ := bQ [Kd.v, Kd.v] args fun al => aK KF 1000000 0 al h
def UU : Nat := 2 + (72 - 2)
theorem a4U (S : Sg) (r5 : Value) (h : Hp) : aRT S r5 h = aF (bT env zO (UU)) (bU env Try.f61.results.toList) (collect B61 A61 []) 7 S (AL.v r5 AL.n) h := by kernel_rfl
theorem a4V (S : Sg) (r1 : Value) (r2 : Value) (r5 : Value) (r6 : Int) (h : Hp) : aDT S r1 r2 r5 r6 h = aF (bT env zO (UU)) (bU env Try.f61.results.toList) (collect B61 A61 []) 6 S (AL.v r1 (AL.v r2 (AL.v r5 (AL.i r6 AL.n)))) h := by kernel_rfl
theorem a4W (S : Sg) (r1 : Value) (r2 : Value) (r5 : Value) (r6 : Int) (r7 : Int) (h : Hp) : aDS S r1 r2 r5 r6 r7 h = aF (bT env zO (UU)) (bU env Try.f61.results.toList) (collect B61 A61 []) 5 S (AL.v r1 (AL.v r2 (AL.v r5 (AL.i r6 (AL.i r7 AL.n))))) h := by kernel_rfl
theorem a4X (S : Sg) (r1 : Value) (r2 : Value) (r5 : Value) (r6 : Int) (r7 : Int) (r8 : Int) (h : Hp) : aDR S r1 r2 r5 r6 r7 r8 h = aF (bT env zO (UU)) (bU env Try.f61.results.toList) (collect B61 A61 []) 4 S (AL.v r1 (AL.v r2 (AL.v r5 (AL.i r6 (AL.i r7 (AL.i r8 AL.n)))))) h := by kernel_rfl
theorem a4Y (S : Sg) (r1 : Value) (r2 : Value) (r5 : Value) (r6 : Int) (r7 : Int) (r8 : Int) (iF : Value) (h : Hp) : aDQ S r1 r2 r5 r6 r7 r8 iF h = aF (bT env zO (UU)) (bU env Try.f61.results.toList) (collect B61 A61 []) 3 S (AL.v r1 (AL.v r2 (AL.v r5 (AL.i r6 (AL.i r7 (AL.i r8 (AL.v iF AL.n))))))) h := by kernel_rfl
theorem a4Z (S : Sg) (r1 : Value) (r2 : Value) (r5 : Value) (r6 : Int) (r7 : Int) (r8 : Int) (h : Hp) : XR S r1 r2 r5 r6 r7 r8 h = aF (bT env zO (UU)) (bU env Try.f61.results.toList) (collect B61 A61 []) 2 S (AL.v r1 (AL.v r2 (AL.v r5 (AL.i r6 (AL.i r7 (AL.i r8 AL.n)))))) h := by kernel_rfl
theorem a5A (S : Sg) (r1 : Value) (r2 : Value) (r5 : Value) (r6 : Int) (h : Hp) : XQ S r1 r2 r5 r6 h = aF (bT env zO (UU)) (bU env Try.f61.results.toList) (collect B61 A61 []) 1 S (AL.v r1 (AL.v r2 (AL.v r5 (AL.i r6 AL.n)))) h := by kernel_rfl
theorem a5B (S : Sg) (r0 : Value) (r1 : Value) (h : Hp) : aDU S r0 r1 h = aF (bT env zO (UU)) (bU env Try.f61.results.toList) (collect B61 A61 []) 0 S (AL.v r0 (AL.v r1 AL.n)) h := by kernel_rfl
theorem t61 (S : Sg) : eH (fun l vs h => aF (bT env zO UU) (bU env Try.f61.results.toList) (collect B61 A61 []) l S vs h) (KF S) := by
 unfold KF
 refine eH.cons 0 (fun gF h q e0 => ?_) ?_
 ·obtain ⟨r0, vs1, rfl, e1⟩ := aD e0
  obtain ⟨r1, vs2, rfl, e2⟩ := aD e1
  obtain ⟨rfl, ee⟩ := aR e2
  exact (a5B S r0 r1 h).symm.trans ee
 refine eH.cons 1 (fun gF h q e0 => ?_) ?_
 ·obtain ⟨r1, vs1, rfl, e1⟩ := aD e0
  obtain ⟨r2, vs2, rfl, e2⟩ := aD e1
  obtain ⟨r5, vs3, rfl, e3⟩ := aD e2
  obtain ⟨r6, tY, rfl, e4⟩ := aV e3
  obtain ⟨rfl, ee⟩ := aR e4
  exact (a5A S r1 r2 r5 r6 h).symm.trans ee
 refine eH.cons 2 (fun gF h q e0 => ?_) ?_
 ·obtain ⟨r1, vs1, rfl, e1⟩ := aD e0
  obtain ⟨r2, vs2, rfl, e2⟩ := aD e1
  obtain ⟨r5, vs3, rfl, e3⟩ := aD e2
  obtain ⟨r6, tY, rfl, e4⟩ := aV e3
  obtain ⟨r7, JU, rfl, e5⟩ := aV e4
  obtain ⟨r8, vs6, rfl, e6⟩ := aV e5
  obtain ⟨rfl, ee⟩ := aR e6
  exact (a4Z S r1 r2 r5 r6 r7 r8 h).symm.trans ee
 refine eH.cons 3 (fun gF h q e0 => ?_) ?_
 ·obtain ⟨r1, vs1, rfl, e1⟩ := aD e0
  obtain ⟨r2, vs2, rfl, e2⟩ := aD e1
  obtain ⟨r5, vs3, rfl, e3⟩ := aD e2
  obtain ⟨r6, tY, rfl, e4⟩ := aV e3
  obtain ⟨r7, JU, rfl, e5⟩ := aV e4
  obtain ⟨r8, vs6, rfl, e6⟩ := aV e5
  obtain ⟨iF, vs7, rfl, e7⟩ := aD e6
  obtain ⟨rfl, ee⟩ := aR e7
  exact (a4Y S r1 r2 r5 r6 r7 r8 iF h).symm.trans ee
 refine eH.cons 4 (fun gF h q e0 => ?_) ?_
 ·obtain ⟨r1, vs1, rfl, e1⟩ := aD e0
  obtain ⟨r2, vs2, rfl, e2⟩ := aD e1
  obtain ⟨r5, vs3, rfl, e3⟩ := aD e2
  obtain ⟨r6, tY, rfl, e4⟩ := aV e3
  obtain ⟨r7, JU, rfl, e5⟩ := aV e4
  obtain ⟨r8, vs6, rfl, e6⟩ := aV e5
  obtain ⟨rfl, ee⟩ := aR e6
  exact (a4X S r1 r2 r5 r6 r7 r8 h).symm.trans ee
 refine eH.cons 5 (fun gF h q e0 => ?_) ?_
 ·obtain ⟨r1, vs1, rfl, e1⟩ := aD e0
  obtain ⟨r2, vs2, rfl, e2⟩ := aD e1
  obtain ⟨r5, vs3, rfl, e3⟩ := aD e2
  obtain ⟨r6, tY, rfl, e4⟩ := aV e3
  obtain ⟨r7, JU, rfl, e5⟩ := aV e4
  obtain ⟨rfl, ee⟩ := aR e5
  exact (a4W S r1 r2 r5 r6 r7 h).symm.trans ee
 refine eH.cons 6 (fun gF h q e0 => ?_) ?_
 ·obtain ⟨r1, vs1, rfl, e1⟩ := aD e0
  obtain ⟨r2, vs2, rfl, e2⟩ := aD e1
  obtain ⟨r5, vs3, rfl, e3⟩ := aD e2
  obtain ⟨r6, tY, rfl, e4⟩ := aV e3
  obtain ⟨rfl, ee⟩ := aR e4
  exact (a4V S r1 r2 r5 r6 h).symm.trans ee
 refine eH.cons 7 (fun gF h q e0 => ?_) ?_
 ·obtain ⟨r5, vs1, rfl, e1⟩ := aD e0
  obtain ⟨rfl, ee⟩ := aR e1
  exact (a4U S r5 h).symm.trans ee
 exact eH.nil
theorem r61 : ∀ args h v h', F61 args h = some (v, h') → iE (C55) (.call 61 args.toArray h) (.ret v h') := by
 intro args h v h' e
 exact bL (C := C55) (fn := Try.f61) (body := B61) (np := 2) (A := A61) (T := KF) (kinds := [Kd.v, Kd.v]) (by kernel_rfl) (by kernel_rfl) (by kernel_rfl) (by kernel_rfl) (dP eB) (by kernel_rfl) (fun S => t61 S) e
noncomputable def aEX := kS 61 F61 zO
noncomputable def C56 : dK := cfg aEX
theorem bFG : C56.Ok := dQ (C := C55) bFF r61
noncomputable def B23 : Code := (Try.f23.body).getD .skip
def A23 : aB := (aB.node (some (0, [(0, Kd.v), (1, Kd.v)])) aB.nil (aB.node none aB.nil (aB.node none (aB.node none aB.nil (aB.node none (aB.node none aB.nil aB.nil) aB.nil)) (aB.node none aB.nil aB.nil))))
noncomputable def aDW (S : Sg) (r0 : Value) (r1 : Value) (h : Hp) : aZ :=
 bV h 25 (Array.toList (Value.cells r0)) fun a0 h0 =>
 bC 4 h0 a0 fun v1 =>
 aW (dZ F40 [v1, r1] h0) fun v2 h2 =>
 aY .i64 v2 fun i3 =>
 bZ (nK i3 (Int.ofNat 0)) fun b4 =>
 dJ b4
 (some (Value.tuple (List.toArray [(Value.slice none 0 0), (Value.int .i64 i3)]), h2))
 (bC 4 h2 a0 fun v5 =>
 aW (dZ F61 [v5, r1] h2) fun v6 h6 =>
 some (Value.tuple (List.toArray [v6, (Value.int .i64 (Int.ofNat 0))]), h6))
noncomputable def T23 (S : Sg) : Sg := dY 0 (uV fun r0 => uV fun r1 => uN fun h => aDW S r0 r1 h) (kT)
noncomputable def F23 (args : List Value) (h : Hp) : aZ := bQ [Kd.v, Kd.v] args fun al => aK T23 1000000 0 al h
def a5C : Nat := 2 + (16 - 2)
theorem a5D (S : Sg) (r0 : Value) (r1 : Value) (h : Hp) : aDW S r0 r1 h = aF (bT env aEX (a5C)) (bU env Try.f23.results.toList) (collect B23 A23 []) 0 S (AL.v r0 (AL.v r1 AL.n)) h := by kernel_rfl
theorem t23 (S : Sg) : eH (fun l vs h => aF (bT env aEX a5C) (bU env Try.f23.results.toList) (collect B23 A23 []) l S vs h) (T23 S) := by
 unfold T23
 refine eH.cons 0 (fun gF h q e0 => ?_) ?_
 ·obtain ⟨r0, vs1, rfl, e1⟩ := aD e0
  obtain ⟨r1, vs2, rfl, e2⟩ := aD e1
  obtain ⟨rfl, ee⟩ := aR e2
  exact (a5D S r0 r1 h).symm.trans ee
 exact eH.nil
theorem r23 : ∀ args h v h', F23 args h = some (v, h') → iE (C56) (.call 23 args.toArray h) (.ret v h') := by
 intro args h v h' e
 exact bL (C := C56) (fn := Try.f23) (body := B23) (np := 2) (A := A23) (T := T23) (kinds := [Kd.v, Kd.v]) (by kernel_rfl) (by kernel_rfl) (by kernel_rfl) (by kernel_rfl) (dP eB) (by kernel_rfl) (fun S => t23 S) e
noncomputable def RD := kS 23 F23 aEX
noncomputable def C57 : dK := cfg RD
theorem bFJ : C57.Ok := dQ (C := C56) bFG r23
noncomputable def B78 : Code := (Try.f78.body).getD .skip
def A78 : aB := (aB.node (some (0, [(0, Kd.v)])) aB.nil (aB.node none aB.nil (aB.node none aB.nil (aB.node none (aB.node none aB.nil (aB.node none (aB.node (some (1, [(0, Kd.v), (4, Kd.v), (5, Kd.i .i64), (6, Kd.i .i64)])) (aB.node none (aB.node none aB.nil (aB.node none aB.nil aB.nil)) (aB.node none (aB.node none (aB.node none aB.nil (aB.node none aB.nil aB.nil)) aB.nil) aB.nil)) aB.nil) aB.nil)) (aB.node (some (2, [(4, Kd.v), (5, Kd.i .i64)])) aB.nil aB.nil)))))
noncomputable def aRU (S : Sg) (r4 : Value) (r5 : Int) (h : Hp) : aZ :=
 some (Value.tuple (List.toArray [r4, (Value.int .i64 r5)]), h)
noncomputable def XV (S : Sg) (r0 : Value) (r4 : Value) (r5 : Int) (r6 : Int) (h : Hp) : aZ :=
 eO r0 fun i0 =>
 dL (oN r6 i0) fun b1 =>
 dJ b1
 (eU 1 r0 r6 fun v2 =>
 aQ h v2 fun v3 =>
 aY .i64 v3 fun i4 =>
 wrap64 (Int.sub (Int.ofNat 0) i4) fun i5 =>
 aFP (Int.ofNat 0) i5 fun i6 =>
 aW (bW env h 22 1 (List.toArray [(0, (Value.int .i64 i6))])) fun v7 h7 =>
 aW (jF env h7 #[22, 22] (List.toArray [r4, v7])) fun v8 h8 =>
 wrap64 (Int.add r5 i6) fun i9 =>
 wrap64 (Int.add r6 (Int.ofNat 1)) fun i10 =>
 S 1 (AL.v r0 (AL.v v8 (AL.i i9 (AL.i i10 AL.n)))) h8)
 (S 2 (AL.v r4 (AL.i r5 AL.n)) h)
noncomputable def aRV (S : Sg) (r0 : Value) (h : Hp) : aZ :=
 S 1 (AL.v r0 (AL.v (Value.slice none 0 0) (AL.i (Int.ofNat 0) (AL.i (Int.ofNat 0) AL.n)))) h
noncomputable def T78 (S : Sg) : Sg := dY 0 (uV fun r0 => uN fun h => aRV S r0 h) (dY 1 (uV fun r0 => uV fun r4 => uI fun r5 => uI fun r6 => uN fun h => XV S r0 r4 r5 r6 h) (dY 2 (uV fun r4 => uI fun r5 => uN fun h => aRU S r4 r5 h) (kT)))
noncomputable def F78 (args : List Value) (h : Hp) : aZ := bQ [Kd.v] args fun al => aK T78 1000000 0 al h
def aPF : Nat := 1 + (29 - 1)
theorem a5G (S : Sg) (r4 : Value) (r5 : Int) (h : Hp) : aRU S r4 r5 h = aF (bT env RD (aPF)) (bU env Try.f78.results.toList) (collect B78 A78 []) 2 S (AL.v r4 (AL.i r5 AL.n)) h := by kernel_rfl
theorem a5H (S : Sg) (r0 : Value) (r4 : Value) (r5 : Int) (r6 : Int) (h : Hp) : XV S r0 r4 r5 r6 h = aF (bT env RD (aPF)) (bU env Try.f78.results.toList) (collect B78 A78 []) 1 S (AL.v r0 (AL.v r4 (AL.i r5 (AL.i r6 AL.n)))) h := by kernel_rfl
theorem a5I (S : Sg) (r0 : Value) (h : Hp) : aRV S r0 h = aF (bT env RD (aPF)) (bU env Try.f78.results.toList) (collect B78 A78 []) 0 S (AL.v r0 AL.n) h := by kernel_rfl
theorem t78 (S : Sg) : eH (fun l vs h => aF (bT env RD aPF) (bU env Try.f78.results.toList) (collect B78 A78 []) l S vs h) (T78 S) := by
 unfold T78
 refine eH.cons 0 (fun gF h q e0 => ?_) ?_
 ·obtain ⟨r0, vs1, rfl, e1⟩ := aD e0
  obtain ⟨rfl, ee⟩ := aR e1
  exact (a5I S r0 h).symm.trans ee
 refine eH.cons 1 (fun gF h q e0 => ?_) ?_
 ·obtain ⟨r0, vs1, rfl, e1⟩ := aD e0
  obtain ⟨r4, vs2, rfl, e2⟩ := aD e1
  obtain ⟨r5, vs3, rfl, e3⟩ := aV e2
  obtain ⟨r6, tY, rfl, e4⟩ := aV e3
  obtain ⟨rfl, ee⟩ := aR e4
  exact (a5H S r0 r4 r5 r6 h).symm.trans ee
 refine eH.cons 2 (fun gF h q e0 => ?_) ?_
 ·obtain ⟨r4, vs1, rfl, e1⟩ := aD e0
  obtain ⟨r5, vs2, rfl, e2⟩ := aV e1
  obtain ⟨rfl, ee⟩ := aR e2
  exact (a5G S r4 r5 h).symm.trans ee
 exact eH.nil
theorem r78 : ∀ args h v h', F78 args h = some (v, h') → iE (C57) (.call 78 args.toArray h) (.ret v h') := by
 intro args h v h' e
 exact bL (C := C57) (fn := Try.f78) (body := B78) (np := 1) (A := A78) (T := T78) (kinds := [Kd.v]) (by kernel_rfl) (by kernel_rfl) (by kernel_rfl) (by kernel_rfl) (dP eB) (by kernel_rfl) (fun S => t78 S) e
noncomputable def aEY := kS 78 F78 RD
noncomputable def C58 : dK := cfg aEY
theorem bFK : C58.Ok := dQ (C := C57) bFJ r78
noncomputable def B39 : Code := (Try.f39.body).getD .skip
def A39 : aB := (aB.node (some (0, [(0, Kd.v), (1, Kd.v)])) aB.nil (aB.node none aB.nil (aB.node none aB.nil aB.nil)))
noncomputable def aDX (S : Sg) (r0 : Value) (r1 : Value) (h : Hp) : aZ :=
 bV h 25 (Array.toList (Value.cells r0)) fun a0 h0 =>
 bC 4 h0 a0 fun v1 =>
 aW (dZ F61 [v1, r1] h0) fun v2 h2 =>
 aW (dZ F78 [v2] h2) fun v3 h3 =>
 gD v3 0 fun v4 =>
 gD v3 1 fun v5 =>
 aY .i64 v5 fun i6 =>
 dL (nK i6 (Int.ofNat 0)) fun b7 =>
 some ((Value.bool b7), h3)
noncomputable def T39 (S : Sg) : Sg := dY 0 (uV fun r0 => uV fun r1 => uN fun h => aDX S r0 r1 h) (kT)
noncomputable def F39 (args : List Value) (h : Hp) : aZ := bQ [Kd.v, Kd.v] args fun al => aK T39 1000000 0 al h
def a5J : Nat := 2 + (16 - 2)
theorem a5K (S : Sg) (r0 : Value) (r1 : Value) (h : Hp) : aDX S r0 r1 h = aF (bT env aEY (a5J)) (bU env Try.f39.results.toList) (collect B39 A39 []) 0 S (AL.v r0 (AL.v r1 AL.n)) h := by kernel_rfl
theorem t39 (S : Sg) : eH (fun l vs h => aF (bT env aEY a5J) (bU env Try.f39.results.toList) (collect B39 A39 []) l S vs h) (T39 S) := by
 unfold T39
 refine eH.cons 0 (fun gF h q e0 => ?_) ?_
 ·obtain ⟨r0, vs1, rfl, e1⟩ := aD e0
  obtain ⟨r1, vs2, rfl, e2⟩ := aD e1
  obtain ⟨rfl, ee⟩ := aR e2
  exact (a5K S r0 r1 h).symm.trans ee
 exact eH.nil
theorem r39 : ∀ args h v h', F39 args h = some (v, h') → iE (C58) (.call 39 args.toArray h) (.ret v h') := by
 intro args h v h' e
 exact bL (C := C58) (fn := Try.f39) (body := B39) (np := 2) (A := A39) (T := T39) (kinds := [Kd.v, Kd.v]) (by kernel_rfl) (by kernel_rfl) (by kernel_rfl) (by kernel_rfl) (dP eB) (by kernel_rfl) (fun S => t39 S) e
noncomputable def RF := kS 39 F39 aEY
noncomputable def C59 : dK := cfg RF
theorem bFN : C59.Ok := dQ (C := C58) bFK r39
noncomputable def B41 : Code := (Try.f41.body).getD .skip
def A41 : aB := (aB.node (some (0, [(0, Kd.v), (1, Kd.v)])) aB.nil (aB.node none aB.nil (aB.node none (aB.node none aB.nil (aB.node none (aB.node (some (1, [(1, Kd.v), (2, Kd.v), (5, Kd.i .i64), (6, Kd.i .i64)])) (aB.node none (aB.node none aB.nil (aB.node none aB.nil aB.nil)) (aB.node none (aB.node none aB.nil aB.nil) aB.nil)) aB.nil) aB.nil)) (aB.node (some (2, [(5, Kd.i .i64)])) aB.nil aB.nil))))
noncomputable def aRW (S : Sg) (r5 : Int) (h : Hp) : aZ :=
 some ((Value.int .i64 r5), h)
noncomputable def XW (S : Sg) (r1 : Value) (r2 : Value) (r5 : Int) (r6 : Int) (h : Hp) : aZ :=
 eO r1 fun i0 =>
 dL (oN r6 i0) fun b1 =>
 dJ b1
 (bC 4 h r2 fun v2 =>
 aX 2 r2 fun v3 =>
 aQ h v3 fun v4 =>
 eU 1 r1 r6 fun v5 =>
 aQ h v5 fun v6 =>
 aY .i64 v6 fun i7 =>
 eU 3 v4 i7 fun v8 =>
 bC 3 h v8 fun v9 =>
 aX 3 r2 fun v10 =>
 aQ h v10 fun v11 =>
 eU 3 v11 r6 fun v12 =>
 bC 3 h v12 fun v13 =>
 aW (dZ F56 [v2, v9, v13] h) fun v14 KX =>
 aY .i64 v14 fun i15 =>
 wrap64 (Int.add r5 i15) fun i16 =>
 wrap64 (Int.add r6 (Int.ofNat 1)) fun i17 =>
 S 1 (AL.v r1 (AL.v r2 (AL.i i16 (AL.i i17 AL.n)))) KX)
 (S 2 (AL.i r5 AL.n) h)
noncomputable def aDY (S : Sg) (r0 : Value) (r1 : Value) (h : Hp) : aZ :=
 bV h 25 (Array.toList (Value.cells r0)) fun a0 h0 =>
 S 1 (AL.v r1 (AL.v a0 (AL.i (Int.ofNat 0) (AL.i (Int.ofNat 0) AL.n)))) h0
noncomputable def T41 (S : Sg) : Sg := dY 0 (uV fun r0 => uV fun r1 => uN fun h => aDY S r0 r1 h) (dY 1 (uV fun r1 => uV fun r2 => uI fun r5 => uI fun r6 => uN fun h => XW S r1 r2 r5 r6 h) (dY 2 (uI fun r5 => uN fun h => aRW S r5 h) (kT)))
noncomputable def F41 (args : List Value) (h : Hp) : aZ := bQ [Kd.v, Kd.v] args fun al => aK T41 1000000 0 al h
def aPG : Nat := 2 + (31 - 2)
theorem a5N (S : Sg) (r5 : Int) (h : Hp) : aRW S r5 h = aF (bT env RF (aPG)) (bU env Try.f41.results.toList) (collect B41 A41 []) 2 S (AL.i r5 AL.n) h := by kernel_rfl
theorem a5O (S : Sg) (r1 : Value) (r2 : Value) (r5 : Int) (r6 : Int) (h : Hp) : XW S r1 r2 r5 r6 h = aF (bT env RF (aPG)) (bU env Try.f41.results.toList) (collect B41 A41 []) 1 S (AL.v r1 (AL.v r2 (AL.i r5 (AL.i r6 AL.n)))) h := by kernel_rfl
theorem a5P (S : Sg) (r0 : Value) (r1 : Value) (h : Hp) : aDY S r0 r1 h = aF (bT env RF (aPG)) (bU env Try.f41.results.toList) (collect B41 A41 []) 0 S (AL.v r0 (AL.v r1 AL.n)) h := by kernel_rfl
theorem t41 (S : Sg) : eH (fun l vs h => aF (bT env RF aPG) (bU env Try.f41.results.toList) (collect B41 A41 []) l S vs h) (T41 S) := by
 unfold T41
 refine eH.cons 0 (fun gF h q e0 => ?_) ?_
 ·obtain ⟨r0, vs1, rfl, e1⟩ := aD e0
  obtain ⟨r1, vs2, rfl, e2⟩ := aD e1
  obtain ⟨rfl, ee⟩ := aR e2
  exact (a5P S r0 r1 h).symm.trans ee
 refine eH.cons 1 (fun gF h q e0 => ?_) ?_
 ·obtain ⟨r1, vs1, rfl, e1⟩ := aD e0
  obtain ⟨r2, vs2, rfl, e2⟩ := aD e1
  obtain ⟨r5, vs3, rfl, e3⟩ := aV e2
  obtain ⟨r6, tY, rfl, e4⟩ := aV e3
  obtain ⟨rfl, ee⟩ := aR e4
  exact (a5O S r1 r2 r5 r6 h).symm.trans ee
 refine eH.cons 2 (fun gF h q e0 => ?_) ?_
 ·obtain ⟨r5, vs1, rfl, e1⟩ := aV e0
  obtain ⟨rfl, ee⟩ := aR e1
  exact (a5N S r5 h).symm.trans ee
 exact eH.nil
theorem r41 : ∀ args h v h', F41 args h = some (v, h') → iE (C59) (.call 41 args.toArray h) (.ret v h') := by
 intro args h v h' e
 exact bL (C := C59) (fn := Try.f41) (body := B41) (np := 2) (A := A41) (T := T41) (kinds := [Kd.v, Kd.v]) (by kernel_rfl) (by kernel_rfl) (by kernel_rfl) (by kernel_rfl) (dP eB) (by kernel_rfl) (fun S => t41 S) e
noncomputable def YF := kS 41 F41 RF
noncomputable def C60 : dK := cfg YF
theorem bFO : C60.Ok := dQ (C := C59) bFN r41
noncomputable def B25 : Code := (Try.f25.body).getD .skip
def A25 : aB := (aB.node (some (0, [(0, Kd.v), (1, Kd.v)])) aB.nil (aB.node none aB.nil (aB.node none (aB.node none aB.nil (aB.node none aB.nil aB.nil)) (aB.node (some (1, [(1, Kd.v), (2, Kd.v), (6, Kd.i .i64)])) (aB.node none aB.nil (aB.node none (aB.node none aB.nil aB.nil) aB.nil)) (aB.node none aB.nil aB.nil)))))
noncomputable def XX (S : Sg) (r1 : Value) (r2 : Value) (r6 : Int) (h : Hp) : aZ :=
 bZ (nK r6 (Int.ofNat 0)) fun b0 =>
 dJ b0
 (some (Value.tuple (List.toArray [(Value.int .i64 (Int.ofNat 0)), (Value.int .i64 r6)]), h))
 (bC 4 h r2 fun v1 =>
 aW (dZ F41 [v1, r1] h) fun v2 h2 =>
 aY .i64 v2 fun i3 =>
 some (Value.tuple (List.toArray [(Value.int .i64 i3), (Value.int .i64 (Int.ofNat 0))]), h2))
noncomputable def aDZ (S : Sg) (r0 : Value) (r1 : Value) (h : Hp) : aZ :=
 bV h 25 (Array.toList (Value.cells r0)) fun a0 h0 =>
 bC 4 h0 a0 fun v1 =>
 aW (dZ F40 [v1, r1] h0) fun v2 h2 =>
 aY .i64 v2 fun i3 =>
 dL (nK i3 (Int.ofNat 0)) fun b4 =>
 dJ b4
 (bC 4 h2 a0 fun v5 =>
 aW (dZ F39 [v5, r1] h2) fun v6 h6 =>
 eZ v6 fun b7 =>
 bZ b7 fun b8 =>
 dJ b8
 (S 1 (AL.v r1 (AL.v a0 (AL.i (Int.ofNat 9) AL.n))) h6)
 (S 1 (AL.v r1 (AL.v a0 (AL.i i3 AL.n))) h6))
 (S 1 (AL.v r1 (AL.v a0 (AL.i i3 AL.n))) h2)
noncomputable def T25 (S : Sg) : Sg := dY 0 (uV fun r0 => uV fun r1 => uN fun h => aDZ S r0 r1 h) (dY 1 (uV fun r1 => uV fun r2 => uI fun r6 => uN fun h => XX S r1 r2 r6 h) (kT))
noncomputable def F25 (args : List Value) (h : Hp) : aZ := bQ [Kd.v, Kd.v] args fun al => aK T25 1000000 0 al h
def aVK : Nat := 2 + (24 - 2)
theorem a5Q (S : Sg) (r1 : Value) (r2 : Value) (r6 : Int) (h : Hp) : XX S r1 r2 r6 h = aF (bT env YF (aVK)) (bU env Try.f25.results.toList) (collect B25 A25 []) 1 S (AL.v r1 (AL.v r2 (AL.i r6 AL.n))) h := by kernel_rfl
theorem a5R (S : Sg) (r0 : Value) (r1 : Value) (h : Hp) : aDZ S r0 r1 h = aF (bT env YF (aVK)) (bU env Try.f25.results.toList) (collect B25 A25 []) 0 S (AL.v r0 (AL.v r1 AL.n)) h := by kernel_rfl
theorem t25 (S : Sg) : eH (fun l vs h => aF (bT env YF aVK) (bU env Try.f25.results.toList) (collect B25 A25 []) l S vs h) (T25 S) := by
 unfold T25
 refine eH.cons 0 (fun gF h q e0 => ?_) ?_
 ·obtain ⟨r0, vs1, rfl, e1⟩ := aD e0
  obtain ⟨r1, vs2, rfl, e2⟩ := aD e1
  obtain ⟨rfl, ee⟩ := aR e2
  exact (a5R S r0 r1 h).symm.trans ee
 refine eH.cons 1 (fun gF h q e0 => ?_) ?_
 ·obtain ⟨r1, vs1, rfl, e1⟩ := aD e0
  obtain ⟨r2, vs2, rfl, e2⟩ := aD e1
  obtain ⟨r6, vs3, rfl, e3⟩ := aV e2
  obtain ⟨rfl, ee⟩ := aR e3
  exact (a5Q S r1 r2 r6 h).symm.trans ee
 exact eH.nil
theorem DT : ∀ args h v h', F25 args h = some (v, h') → iE (C60) (.call 25 args.toArray h) (.ret v h') := by
 intro args h v h' e
 exact bL (C := C60) (fn := Try.f25) (body := B25) (np := 2) (A := A25) (T := T25) (kinds := [Kd.v, Kd.v]) (by kernel_rfl) (by kernel_rfl) (by kernel_rfl) (by kernel_rfl) (dP eB) (by kernel_rfl) (fun S => t25 S) e
noncomputable def YG := kS 25 F25 YF
noncomputable def C61 : dK := cfg YG
theorem aZF : C61.Ok := dQ (C := C60) bFO DT
noncomputable def B4 : Code := (Try.f4.body).getD .skip
def A4 : aB := (aB.node (some (0, [(0, Kd.v), (1, Kd.v)])) aB.nil (aB.node none aB.nil (aB.node none aB.nil (aB.node none (aB.node none aB.nil (aB.node none (aB.node none aB.nil aB.nil) aB.nil)) (aB.node (some (1, [(1, Kd.v), (2, Kd.v)])) aB.nil (aB.node none aB.nil (aB.node none aB.nil aB.nil)))))))
noncomputable def aOH (S : Sg) (r1 : Value) (r2 : Value) (h : Hp) : aZ :=
 bC 4 h r2 fun v0 =>
 aW (dZ F24 [v0, r1] h) fun v1 h1 =>
 gD v1 0 fun v2 =>
 aY .i64 v2 fun i3 =>
 gD v1 1 fun v4 =>
 aY .i64 v4 fun i5 =>
 bC 4 h1 r2 fun v6 =>
 aW (dZ F25 [v6, r1] h1) fun v7 h7 =>
 gD v7 0 fun v8 =>
 aY .i64 v8 fun i9 =>
 gD v7 1 fun v10 =>
 aY .i64 v10 fun i11 =>
 dL (nK i3 i9) fun b12 =>
 dJ b12
 (dL (nK i5 i11) fun b13 =>
 dJ b13
 (aW (dG (aGI [] h7) fun v => some (v, h7)) fun v14 KX =>
 eZ v14 fun b15 =>
 some ((Value.bool b15), KX))
 (some ((Value.bool false), h7)))
 (some ((Value.bool false), h7))
noncomputable def aOJ (S : Sg) (r0 : Value) (r1 : Value) (h : Hp) : aZ :=
 bV h 25 (Array.toList (Value.cells r0)) fun a0 h0 =>
 bC 4 h0 a0 fun v1 =>
 aW (dZ F22 [v1, r1] h0) fun v2 h2 =>
 gD v2 0 fun v3 =>
 gD v2 1 fun v4 =>
 aY .i64 v4 fun i5 =>
 bC 4 h2 a0 fun v6 =>
 aW (dZ F23 [v6, r1] h2) fun v7 h7 =>
 gD v7 0 fun v8 =>
 gD v7 1 fun v9 =>
 aY .i64 v9 fun i10 =>
 aW (dG (F20 [v3, v8] h7) fun v => some (v, h7)) fun v11 h11 =>
 eZ v11 fun b12 =>
 bZ b12 fun b13 =>
 dJ b13
 (some ((Value.bool false), h11))
 (bZ (nK i5 i10) fun b14 =>
 dJ b14
 (some ((Value.bool false), h11))
 (S 1 (AL.v r1 (AL.v a0 AL.n)) h11))
noncomputable def T4 (S : Sg) : Sg := dY 0 (uV fun r0 => uV fun r1 => uN fun h => aOJ S r0 r1 h) (dY 1 (uV fun r1 => uV fun r2 => uN fun h => aOH S r1 r2 h) (kT))
noncomputable def F4 (args : List Value) (h : Hp) : aZ := bQ [Kd.v, Kd.v] args fun al => aK T4 1000000 0 al h
def nt4 : Nat := 2 + (55 - 2)
theorem bFQ (S : Sg) (r1 : Value) (r2 : Value) (h : Hp) : aOH S r1 r2 h = aF (bT env YG (nt4)) (bU env Try.f4.results.toList) (collect B4 A4 []) 1 S (AL.v r1 (AL.v r2 AL.n)) h := by kernel_rfl
theorem bFR (S : Sg) (r0 : Value) (r1 : Value) (h : Hp) : aOJ S r0 r1 h = aF (bT env YG (nt4)) (bU env Try.f4.results.toList) (collect B4 A4 []) 0 S (AL.v r0 (AL.v r1 AL.n)) h := by kernel_rfl
theorem t4 (S : Sg) : eH (fun l vs h => aF (bT env YG nt4) (bU env Try.f4.results.toList) (collect B4 A4 []) l S vs h) (T4 S) := by
 unfold T4
 refine eH.cons 0 (fun gF h q e0 => ?_) ?_
 ·obtain ⟨r0, vs1, rfl, e1⟩ := aD e0
  obtain ⟨r1, vs2, rfl, e2⟩ := aD e1
  obtain ⟨rfl, ee⟩ := aR e2
  exact (bFR S r0 r1 h).symm.trans ee
 refine eH.cons 1 (fun gF h q e0 => ?_) ?_
 ·obtain ⟨r1, vs1, rfl, e1⟩ := aD e0
  obtain ⟨r2, vs2, rfl, e2⟩ := aD e1
  obtain ⟨rfl, ee⟩ := aR e2
  exact (bFQ S r1 r2 h).symm.trans ee
 exact eH.nil
theorem r4 : ∀ args h v h', F4 args h = some (v, h') → iE (C61) (.call 4 args.toArray h) (.ret v h') := by
 intro args h v h' e
 exact bL (C := C61) (fn := Try.f4) (body := B4) (np := 2) (A := A4) (T := T4) (kinds := [Kd.v, Kd.v]) (by kernel_rfl) (by kernel_rfl) (by kernel_rfl) (by kernel_rfl) (dP eB) (by kernel_rfl) (fun S => t4 S) e
noncomputable def a5S := kS 4 F4 YG
noncomputable def C62 : dK := cfg a5S
theorem bKV : C62.Ok := dQ (C := C61) aZF r4
end Go.Proofs.Ytepepiajmdpiiaa.K.L
