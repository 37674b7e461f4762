/- Functions told. -/
import Derived.Test.YtgomkbcokgeciaaGreatScTab
open Go Go.bR
set_option maxRecDepth 100000
set_option linter.unusedVariables false
namespace Go.Proofs.YtgomkbcokgeciaaGreat.K
noncomputable def a7C : Code := (Tryz.f103.body).getD .skip
noncomputable def a7D : G.aB (List KI) := (G.aB.node (some (0, [KI.reg 0 (Kd.v), KI.reg 1 (Kd.v)])) G.aB.nil (G.aB.node none G.aB.nil G.aB.nil))
noncomputable def YD (h : Hp) (S : Nat → aH → Option Value) (r0 : Value) (r1 : Value) : Option Value :=
 jC (Array.toList (Value.cells r0)) fun c0 =>
 qD c0 0 fun v1 =>
 aR 0 r1 fun v2 =>
 bJ h v2 fun v3 =>
 dG (rY env .eql 9 (Operand.tmp 5) (Operand.tmp 7) v1 v3) fun v4 =>
 eB v4 fun b5 =>
 some (Value.bool b5)
noncomputable def aQU (h : Hp) (S : Nat → aH → Option Value) : Nat → aH → Option Value := fI 0 (wV fun r0 => wV fun r1 => wN (YD h S r0 r1)) (lG)
noncomputable def aQT (args : List Value) (h : Hp) : Option Value := plainO (dK [Kd.v, Kd.v] args fun al => G.aQ (aQU h) 1000000 0 al)
def a1M : Nat := 2 + (9 - 2)
theorem a7E (h : Hp) (S : Nat → aH → Option Value) (r0 : Value) (r1 : Value) : YD h S r0 r1 = G.aF bL aN eY (fA env pf0 a1M h) (fF env Tryz.f103.results.toList) (G.collect a7C a7D []) 0 S (aH.v r0 (aH.v r1 aH.n)) := by kernel_rfl
theorem t103 (h : Hp) (S : Nat → aH → Option Value) : dD (fun l al => G.aF bL aN eY (fA env pf0 a1M h) (fF env Tryz.f103.results.toList) (G.collect a7C a7D []) l S al) (aQU h S) := by
 unfold aQU
 refine dD.cons 0 (fun jT q e0 => ?_) ?_
 ·obtain ⟨r0, vs1, rfl, e1⟩ := bY e0
  obtain ⟨r1, vs2, rfl, e2⟩ := bY e1
  obtain ⟨rfl, ee⟩ := bT e2
  exact (a7E h S r0 r1).symm.trans ee
 exact dD.nil
theorem bFI : bO Tryz.prog 103 aQT := dA (C := C0) ok0 (pf := pf0) a1N (fn := Tryz.f103) (body := a7C) (kinds := [Kd.v, Kd.v]) (A := a7D) (T := aQU) (by kernel_rfl) (by kernel_rfl) (by kernel_rfl) (by kernel_rfl) (fun h S => t103 h S)
noncomputable def pf1 : PF := JI 103 aQT pf0
theorem a1O : dZ Tryz.prog pf1 := jF bFI a1N
noncomputable def bFJ := o9 103 aQT bFK
noncomputable def C1 : bP := cfg bFJ
theorem ok1 : C1.Ok := fJ (C := C0) ok0 bFI
noncomputable def B63 : Code := (Tryz.f63.body).getD .skip
noncomputable def A63 : G.aB (List KI) := (G.aB.node (some (0, [KI.reg 0 (Kd.i .i64), KI.reg 1 (Kd.i .i64), KI.reg 2 (Kd.v)])) G.aB.nil (G.aB.node none (G.aB.node none G.aB.nil (G.aB.node none (G.aB.node (some (1, [KI.reg 0 (Kd.i .i64), KI.reg 1 (Kd.i .i64), KI.reg 9 (Kd.v), KI.reg 10 (Kd.i .i64), KI.reg 11 (Kd.i .i64)])) (G.aB.node none G.aB.nil (G.aB.node none (G.aB.node none G.aB.nil G.aB.nil) (G.aB.node none (G.aB.node none (G.aB.node none G.aB.nil (G.aB.node none G.aB.nil (G.aB.node none (G.aB.node none G.aB.nil G.aB.nil) G.aB.nil))) G.aB.nil) G.aB.nil))) G.aB.nil) G.aB.nil)) (G.aB.node (some (2, [])) G.aB.nil G.aB.nil)))
noncomputable def aI7 (h : Hp) (S : Nat → aH → Option Value) : Option Value :=
 some (Value.bool true)
noncomputable def VC (h : Hp) (S : Nat → aH → Option Value) (r0 : Int) (r1 : Int) (r9 : Value) (pG : Int) (pI : Int) : Option Value :=
 eO (qH pI pG) fun b0 =>
 dL b0
 (kK 1 r9 pI fun v1 =>
 bJ h v1 fun v2 =>
 aT .i64 v2 fun i3 =>
 eO (qH i3 r0) fun b4 =>
 dL b4
 (some (Value.bool false))
 (eO (qH r1 i3) fun b5 =>
 dL b5
 (some (Value.bool false))
 (wrap64 (Int.add pI (Int.ofNat 1)) fun i6 =>
 S 1 (aH.i r0 (aH.i r1 (aH.v r9 (aH.i pG (aH.i i6 aH.n))))))))
 (S 2 aH.n)
noncomputable def aI8 (h : Hp) (S : Nat → aH → Option Value) (r0 : Int) (r1 : Int) (r2 : Value) : Option Value :=
 jN r2 fun i0 =>
 S 1 (aH.i r0 (aH.i r1 (aH.v r2 (aH.i i0 (aH.i (Int.ofNat 0) aH.n)))))
noncomputable def T63 (h : Hp) (S : Nat → aH → Option Value) : Nat → aH → Option Value := fI 0 (wI fun r0 => wI fun r1 => wV fun r2 => wN (aI8 h S r0 r1 r2)) (fI 1 (wI fun r0 => wI fun r1 => wV fun r9 => wI fun pG => wI fun pI => wN (VC h S r0 r1 r9 pG pI)) (fI 2 (wN (aI7 h S)) (lG)))
noncomputable def F63 (args : List Value) (h : Hp) : Option Value := plainO (dK [Kd.i .i64, Kd.i .i64, Kd.v] args fun al => G.aQ (T63 h) 1000000 0 al)
def aYT : Nat := 3 + (24 - 3)
theorem bFN (h : Hp) (S : Nat → aH → Option Value) : aI7 h S = G.aF bL aN eY (fA env pf1 aYT h) (fF env Tryz.f63.results.toList) (G.collect B63 A63 []) 2 S aH.n := by kernel_rfl
theorem bFO (h : Hp) (S : Nat → aH → Option Value) (r0 : Int) (r1 : Int) (r9 : Value) (pG : Int) (pI : Int) : VC h S r0 r1 r9 pG pI = G.aF bL aN eY (fA env pf1 aYT h) (fF env Tryz.f63.results.toList) (G.collect B63 A63 []) 1 S (aH.i r0 (aH.i r1 (aH.v r9 (aH.i pG (aH.i pI aH.n))))) := by kernel_rfl
theorem bFP (h : Hp) (S : Nat → aH → Option Value) (r0 : Int) (r1 : Int) (r2 : Value) : aI8 h S r0 r1 r2 = G.aF bL aN eY (fA env pf1 aYT h) (fF env Tryz.f63.results.toList) (G.collect B63 A63 []) 0 S (aH.i r0 (aH.i r1 (aH.v r2 aH.n))) := by kernel_rfl
theorem t63 (h : Hp) (S : Nat → aH → Option Value) : dD (fun l al => G.aF bL aN eY (fA env pf1 aYT h) (fF env Tryz.f63.results.toList) (G.collect B63 A63 []) l S al) (T63 h S) := by
 unfold T63
 refine dD.cons 0 (fun jT q e0 => ?_) ?_
 ·obtain ⟨r0, vs1, rfl, e1⟩ := bA e0
  obtain ⟨r1, vs2, rfl, e2⟩ := bA e1
  obtain ⟨r2, vs3, rfl, e3⟩ := bY e2
  obtain ⟨rfl, ee⟩ := bT e3
  exact (bFP h S r0 r1 r2).symm.trans ee
 refine dD.cons 1 (fun jT q e0 => ?_) ?_
 ·obtain ⟨r0, vs1, rfl, e1⟩ := bA e0
  obtain ⟨r1, vs2, rfl, e2⟩ := bA e1
  obtain ⟨r9, vs3, rfl, e3⟩ := bY e2
  obtain ⟨pG, vs4, rfl, e4⟩ := bA e3
  obtain ⟨pI, vs5, rfl, e5⟩ := bA e4
  obtain ⟨rfl, ee⟩ := bT e5
  exact (bFO h S r0 r1 r9 pG pI).symm.trans ee
 refine dD.cons 2 (fun jT q e0 => ?_) ?_
 ·
  obtain ⟨rfl, ee⟩ := bT e0
  exact (bFN h S).symm.trans ee
 exact dD.nil
theorem r63 : bO Tryz.prog 63 F63 := dA (C := C0) ok0 (pf := pf1) a1O (fn := Tryz.f63) (body := B63) (kinds := [Kd.i .i64, Kd.i .i64, Kd.v]) (A := A63) (T := T63) (by kernel_rfl) (by kernel_rfl) (by kernel_rfl) (by kernel_rfl) (fun h S => t63 h S)
noncomputable def pf2 : PF := JI 63 F63 pf1
theorem a1Q : dZ Tryz.prog pf2 := jF r63 a1O
noncomputable def bFR := o9 63 F63 bFJ
noncomputable def C2 : bP := cfg bFR
theorem ok2 : C2.Ok := fJ (C := C1) ok1 r63
noncomputable def a7G : Code := (Tryz.f130.body).getD .skip
noncomputable def a7H : G.aB (List KI) := (G.aB.node (some (0, [KI.reg 0 (Kd.i .u8)])) G.aB.nil (G.aB.node none G.aB.nil G.aB.nil))
noncomputable def X7 (h : Hp) (S : Nat → aH → Option Value) (r0 : Int) : Option Value :=
 dB (qH r0 (Int.ofNat 97)) fun b0 =>
 dL b0
 (dB (qH (Int.ofNat 122) r0) fun b1 =>
 some (Value.bool b1))
 (some (Value.bool false))
noncomputable def aQP (h : Hp) (S : Nat → aH → Option Value) : Nat → aH → Option Value := fI 0 (wI fun r0 => wN (X7 h S r0)) (lG)
noncomputable def aNV (args : List Value) (h : Hp) : Option Value := plainO (dK [Kd.i .u8] args fun al => G.aQ (aQP h) 1000000 0 al)
def a1R : Nat := 1 + (9 - 1)
theorem a7I (h : Hp) (S : Nat → aH → Option Value) (r0 : Int) : X7 h S r0 = G.aF bL aN eY (fA env pf2 a1R h) (fF env Tryz.f130.results.toList) (G.collect a7G a7H []) 0 S (aH.i r0 aH.n) := by kernel_rfl
theorem t130 (h : Hp) (S : Nat → aH → Option Value) : dD (fun l al => G.aF bL aN eY (fA env pf2 a1R h) (fF env Tryz.f130.results.toList) (G.collect a7G a7H []) l S al) (aQP h S) := by
 unfold aQP
 refine dD.cons 0 (fun jT q e0 => ?_) ?_
 ·obtain ⟨r0, vs1, rfl, e1⟩ := bA e0
  obtain ⟨rfl, ee⟩ := bT e1
  exact (a7I h S r0).symm.trans ee
 exact dD.nil
theorem bFS : bO Tryz.prog 130 aNV := dA (C := C0) ok0 (pf := pf2) a1Q (fn := Tryz.f130) (body := a7G) (kinds := [Kd.i .u8]) (A := a7H) (T := aQP) (by kernel_rfl) (by kernel_rfl) (by kernel_rfl) (by kernel_rfl) (fun h S => t130 h S)
noncomputable def pf3 : PF := JI 130 aNV pf2
theorem a1S : dZ Tryz.prog pf3 := jF bFS a1Q
noncomputable def bFU := o9 130 aNV bFR
noncomputable def C3 : bP := cfg bFU
theorem ok3 : C3.Ok := fJ (C := C2) ok2 bFS
noncomputable def a7J : Code := (Tryz.f131.body).getD .skip
noncomputable def a7K : G.aB (List KI) := (G.aB.node (some (0, [KI.reg 0 (Kd.i .u8)])) G.aB.nil (G.aB.node none G.aB.nil G.aB.nil))
noncomputable def X8 (h : Hp) (S : Nat → aH → Option Value) (r0 : Int) : Option Value :=
 dB (qH r0 (Int.ofNat 48)) fun b0 =>
 dL b0
 (dB (qH (Int.ofNat 57) r0) fun b1 =>
 some (Value.bool b1))
 (some (Value.bool false))
noncomputable def aQS (h : Hp) (S : Nat → aH → Option Value) : Nat → aH → Option Value := fI 0 (wI fun r0 => wN (X8 h S r0)) (lG)
noncomputable def aQR (args : List Value) (h : Hp) : Option Value := plainO (dK [Kd.i .u8] args fun al => G.aQ (aQS h) 1000000 0 al)
def a1T : Nat := 1 + (9 - 1)
theorem a7L (h : Hp) (S : Nat → aH → Option Value) (r0 : Int) : X8 h S r0 = G.aF bL aN eY (fA env pf3 a1T h) (fF env Tryz.f131.results.toList) (G.collect a7J a7K []) 0 S (aH.i r0 aH.n) := by kernel_rfl
theorem t131 (h : Hp) (S : Nat → aH → Option Value) : dD (fun l al => G.aF bL aN eY (fA env pf3 a1T h) (fF env Tryz.f131.results.toList) (G.collect a7J a7K []) l S al) (aQS h S) := by
 unfold aQS
 refine dD.cons 0 (fun jT q e0 => ?_) ?_
 ·obtain ⟨r0, vs1, rfl, e1⟩ := bA e0
  obtain ⟨rfl, ee⟩ := bT e1
  exact (a7L h S r0).symm.trans ee
 exact dD.nil
theorem bFV : bO Tryz.prog 131 aQR := dA (C := C0) ok0 (pf := pf3) a1S (fn := Tryz.f131) (body := a7J) (kinds := [Kd.i .u8]) (A := a7K) (T := aQS) (by kernel_rfl) (by kernel_rfl) (by kernel_rfl) (by kernel_rfl) (fun h S => t131 h S)
noncomputable def pf4 : PF := JI 131 aQR pf3
theorem a1U : dZ Tryz.prog pf4 := jF bFV a1S
noncomputable def aOA := o9 131 aQR bFU
noncomputable def C4 : bP := cfg aOA
theorem ok4 : C4.Ok := fJ (C := C3) ok3 bFV
noncomputable def aRP : Code := (Tryz.f101.body).getD .skip
def aRQ : aB := (aB.node (some (0, [(0, Kd.v)])) aB.nil (aB.node none (aB.node none aB.nil (aB.node none (aB.node none aB.nil aB.nil) aB.nil)) (aB.node none (aB.node none aB.nil (aB.node none (aB.node (some (1, [(0, Kd.v), (16, Kd.i .i64), (17, Kd.i .i64)])) (aB.node none aB.nil (aB.node none (aB.node none aB.nil aB.nil) (aB.node none (aB.node none (aB.node none aB.nil (aB.node none aB.nil (aB.node none (aB.node none aB.nil aB.nil) aB.nil))) aB.nil) aB.nil))) aB.nil) aB.nil)) (aB.node (some (2, [])) aB.nil aB.nil))))
noncomputable def YA (S : Sg) (h : Hp) : bE :=
 some ((Value.bool true), h)
noncomputable def KU (S : Sg) (r0 : Value) (r16 : Int) (r17 : Int) (h : Hp) : bE :=
 eO (qH r17 r16) fun b0 =>
 dL b0
 (dG (oD env 9 r0 (Value.int .i64 r17)) fun v1 =>
 aT .u8 v1 fun i2 =>
 bB (dG (aNV [(Value.int .u8 i2)] h) fun v => some (v, h)) fun v3 h3 =>
 eB v3 fun b4 =>
 dB b4 fun b5 =>
 dL b5
 (dG (oD env 9 r0 (Value.int .i64 r17)) fun v6 =>
 aT .u8 v6 fun i7 =>
 bB (dG (aQR [(Value.int .u8 i7)] h3) fun v => some (v, h3)) fun v8 h8 =>
 eB v8 fun b9 =>
 dB b9 fun b10 =>
 dL b10
 (dG (oD env 9 r0 (Value.int .i64 r17)) fun v11 =>
 aT .u8 v11 fun i12 =>
 dB (zJ i12 (Int.ofNat 46)) fun b13 =>
 dL b13
 (some ((Value.bool false), h8))
 (wrap64 (Int.add r17 (Int.ofNat 1)) fun i14 =>
 S 1 (AL.v r0 (AL.i r16 (AL.i i14 AL.n))) h8))
 (wrap64 (Int.add r17 (Int.ofNat 1)) fun i15 =>
 S 1 (AL.v r0 (AL.i r16 (AL.i i15 AL.n))) h8))
 (wrap64 (Int.add r17 (Int.ofNat 1)) fun i16 =>
 S 1 (AL.v r0 (AL.i r16 (AL.i i16 AL.n))) h3))
 (S 2 AL.n h)
noncomputable def YB (S : Sg) (r0 : Value) (h : Hp) : bE :=
 LY r0 fun i0 =>
 bB (bQ env h 40 1 (List.toArray [(0, (Value.int .i64 i0))])) fun v1 h1 =>
 bB (dG (F63 [(Value.int .i64 (Int.ofNat 1)), (Value.int .i64 (Int.ofNat 16)), v1] h1) fun v => some (v, h1)) fun v2 h2 =>
 eB v2 fun b3 =>
 dB b3 fun b4 =>
 dL b4
 (some ((Value.bool false), h2))
 (dG (oD env 9 r0 (Value.int .i64 (Int.ofNat 0))) fun v5 =>
 aT .u8 v5 fun i6 =>
 bB (dG (aNV [(Value.int .u8 i6)] h2) fun v => some (v, h2)) fun v7 h7 =>
 eB v7 fun b8 =>
 dB b8 fun b9 =>
 dL b9
 (some ((Value.bool false), h7))
 (LY r0 fun i10 =>
 S 1 (AL.v r0 (AL.i i10 (AL.i (Int.ofNat 0) AL.n))) h7))
noncomputable def X9 (S : Sg) : Sg := gZ 0 (uV fun r0 => uN fun h => YB S r0 h) (gZ 1 (uV fun r0 => uI fun r16 => uI fun r17 => uN fun h => KU S r0 r16 r17 h) (gZ 2 (uN fun h => YA S  h) (pF)))
noncomputable def aNW (args : List Value) (h : Hp) : bE := cB [Kd.v] args fun al => aQ X9 1000000 0 al h
def aJ3 : Nat := 1 + (39 - 1)
theorem a7M (S : Sg) (h : Hp) : YA S  h = aF (dO env aOA (aJ3)) (dP env Tryz.f101.results.toList) (collect aRP aRQ []) 2 S AL.n h := by kernel_rfl
theorem a7N (S : Sg) (r0 : Value) (r16 : Int) (r17 : Int) (h : Hp) : KU S r0 r16 r17 h = aF (dO env aOA (aJ3)) (dP env Tryz.f101.results.toList) (collect aRP aRQ []) 1 S (AL.v r0 (AL.i r16 (AL.i r17 AL.n))) h := by kernel_rfl
theorem a7O (S : Sg) (r0 : Value) (h : Hp) : YB S r0 h = aF (dO env aOA (aJ3)) (dP env Tryz.f101.results.toList) (collect aRP aRQ []) 0 S (AL.v r0 AL.n) h := by kernel_rfl
theorem t101 (S : Sg) : iA (fun l vs h => aF (dO env aOA aJ3) (dP env Tryz.f101.results.toList) (collect aRP aRQ []) l S vs h) (X9 S) := by
 unfold X9
 refine iA.cons 0 (fun jT h q e0 => ?_) ?_
 ·obtain ⟨r0, vs1, rfl, e1⟩ := aP e0
  obtain ⟨rfl, ee⟩ := bC e1
  exact (a7O S r0 h).symm.trans ee
 refine iA.cons 1 (fun jT h q e0 => ?_) ?_
 ·obtain ⟨r0, vs1, rfl, e1⟩ := aP e0
  obtain ⟨r16, vs2, rfl, e2⟩ := cO e1
  obtain ⟨r17, vs3, rfl, e3⟩ := cO e2
  obtain ⟨rfl, ee⟩ := bC e3
  exact (a7N S r0 r16 r17 h).symm.trans ee
 refine iA.cons 2 (fun jT h q e0 => ?_) ?_
 ·
  obtain ⟨rfl, ee⟩ := bC e0
  exact (a7M S  h).symm.trans ee
 exact iA.nil
theorem bP2 : ∀ args h v h', aNW args h = some (v, h') → jU (C4) (.call 101 args.toArray h) (.ret v h') := by
 intro args h v h' e
 exact bZ (C := C4) (fn := Tryz.f101) (body := aRP) (np := 1) (A := aRQ) (T := X9) (kinds := [Kd.v]) (by kernel_rfl) (by kernel_rfl) (by kernel_rfl) (by kernel_rfl) (eU fU) (by kernel_rfl) (fun S => t101 S) e
noncomputable def aC0 := oI 101 aNW aOA
noncomputable def C5 : bP := cfg aC0
theorem ok5 : C5.Ok := eX (C := C4) ok4 bP2
noncomputable def aRR : Code := (Tryz.f132.body).getD .skip
def aRS : aB := (aB.node (some (0, [(0, Kd.v), (1, Kd.v)])) aB.nil (aB.node none (aB.node none aB.nil (aB.node none (aB.node (some (1, [(0, Kd.v), (1, Kd.v), (7, Kd.i .i64), (8, Kd.i .i64)])) (aB.node none aB.nil (aB.node none (aB.node none aB.nil aB.nil) (aB.node none (aB.node none (aB.node none aB.nil (aB.node none aB.nil (aB.node none (aB.node none aB.nil aB.nil) aB.nil))) aB.nil) aB.nil))) aB.nil) aB.nil)) (aB.node (some (2, [])) aB.nil aB.nil)))
noncomputable def aRT (S : Sg) (h : Hp) : bE :=
 some ((Value.int .i64 (Int.negSucc 0)), h)
noncomputable def KV (S : Sg) (r0 : Value) (r1 : Value) (r7 : Int) (r8 : Int) (h : Hp) : bE :=
 eO (qH r8 r7) fun b0 =>
 dL b0
 (kK 3 r0 r8 fun v1 =>
 cZ 3 h v1 fun v2 =>
 bB (qM aC0 r1 [v2] h) fun v3 h3 =>
 eB v3 fun b4 =>
 dL b4
 (some ((Value.int .i64 r8), h3))
 (wrap64 (Int.add r8 (Int.ofNat 1)) fun i5 =>
 S 1 (AL.v r0 (AL.v r1 (AL.i r7 (AL.i i5 AL.n)))) h3))
 (S 2 AL.n h)
noncomputable def YE (S : Sg) (r0 : Value) (r1 : Value) (h : Hp) : bE :=
 jN r0 fun i0 =>
 S 1 (AL.v r0 (AL.v r1 (AL.i i0 (AL.i (Int.ofNat 0) AL.n)))) h
noncomputable def aCZ (S : Sg) : Sg := gZ 0 (uV fun r0 => uV fun r1 => uN fun h => YE S r0 r1 h) (gZ 1 (uV fun r0 => uV fun r1 => uI fun r7 => uI fun r8 => uN fun h => KV S r0 r1 r7 r8 h) (gZ 2 (uN fun h => aRT S  h) (pF)))
noncomputable def aYB (args : List Value) (h : Hp) : bE := cB [Kd.v, Kd.v] args fun al => aQ aCZ 1000000 0 al h
def aJ4 : Nat := 2 + (19 - 2)
theorem a7P (S : Sg) (h : Hp) : aRT S  h = aF (dO env aC0 (aJ4)) (dP env Tryz.f132.results.toList) (collect aRR aRS []) 2 S AL.n h := by kernel_rfl
theorem a7Q (S : Sg) (r0 : Value) (r1 : Value) (r7 : Int) (r8 : Int) (h : Hp) : KV S r0 r1 r7 r8 h = aF (dO env aC0 (aJ4)) (dP env Tryz.f132.results.toList) (collect aRR aRS []) 1 S (AL.v r0 (AL.v r1 (AL.i r7 (AL.i r8 AL.n)))) h := by kernel_rfl
theorem a7R (S : Sg) (r0 : Value) (r1 : Value) (h : Hp) : YE S r0 r1 h = aF (dO env aC0 (aJ4)) (dP env Tryz.f132.results.toList) (collect aRR aRS []) 0 S (AL.v r0 (AL.v r1 AL.n)) h := by kernel_rfl
theorem t132 (S : Sg) : iA (fun l vs h => aF (dO env aC0 aJ4) (dP env Tryz.f132.results.toList) (collect aRR aRS []) l S vs h) (aCZ S) := by
 unfold aCZ
 refine iA.cons 0 (fun jT h q e0 => ?_) ?_
 ·obtain ⟨r0, vs1, rfl, e1⟩ := aP e0
  obtain ⟨r1, vs2, rfl, e2⟩ := aP e1
  obtain ⟨rfl, ee⟩ := bC e2
  exact (a7R S r0 r1 h).symm.trans ee
 refine iA.cons 1 (fun jT h q e0 => ?_) ?_
 ·obtain ⟨r0, vs1, rfl, e1⟩ := aP e0
  obtain ⟨r1, vs2, rfl, e2⟩ := aP e1
  obtain ⟨r7, vs3, rfl, e3⟩ := cO e2
  obtain ⟨r8, vs4, rfl, e4⟩ := cO e3
  obtain ⟨rfl, ee⟩ := bC e4
  exact (a7Q S r0 r1 r7 r8 h).symm.trans ee
 refine iA.cons 2 (fun jT h q e0 => ?_) ?_
 ·
  obtain ⟨rfl, ee⟩ := bC e0
  exact (a7P S  h).symm.trans ee
 exact iA.nil
theorem bP3 : ∀ args h v h', aYB args h = some (v, h') → jU (C5) (.call 132 args.toArray h) (.ret v h') := by
 intro args h v h' e
 exact bZ (C := C5) (fn := Tryz.f132) (body := aRR) (np := 2) (A := aRS) (T := aCZ) (kinds := [Kd.v, Kd.v]) (by kernel_rfl) (by kernel_rfl) (by kernel_rfl) (by kernel_rfl) (eU fU) (by kernel_rfl) (fun S => t132 S) e
noncomputable def aYU := oI 132 aYB aC0
noncomputable def C6 : bP := cfg aYU
theorem ok6 : C6.Ok := eX (C := C5) ok5 bP3
noncomputable def a7S : Code := (Tryz.f102.body).getD .skip
def a7T : aB := (aB.node (some (0, [(0, Kd.v), (1, Kd.v)])) aB.nil (aB.node none aB.nil aB.nil))
noncomputable def YF (S : Sg) (r0 : Value) (r1 : Value) (h : Hp) : bE :=
 bB (iN aYB [r0, r1] h) fun v0 h0 =>
 aT .i64 v0 fun i1 =>
 dB (qH i1 (Int.ofNat 0)) fun b2 =>
 some ((Value.bool b2), h0)
noncomputable def aQV (S : Sg) : Sg := gZ 0 (uV fun r0 => uV fun r1 => uN fun h => YF S r0 r1 h) (pF)
noncomputable def aYC (args : List Value) (h : Hp) : bE := cB [Kd.v, Kd.v] args fun al => aQ aQV 1000000 0 al h
def a1V : Nat := 2 + (9 - 2)
theorem a7U (S : Sg) (r0 : Value) (r1 : Value) (h : Hp) : YF S r0 r1 h = aF (dO env aYU (a1V)) (dP env Tryz.f102.results.toList) (collect a7S a7T []) 0 S (AL.v r0 (AL.v r1 AL.n)) h := by kernel_rfl
theorem t102 (S : Sg) : iA (fun l vs h => aF (dO env aYU a1V) (dP env Tryz.f102.results.toList) (collect a7S a7T []) l S vs h) (aQV S) := by
 unfold aQV
 refine iA.cons 0 (fun jT h q e0 => ?_) ?_
 ·obtain ⟨r0, vs1, rfl, e1⟩ := aP e0
  obtain ⟨r1, vs2, rfl, e2⟩ := aP e1
  obtain ⟨rfl, ee⟩ := bC e2
  exact (a7U S r0 r1 h).symm.trans ee
 exact iA.nil
theorem bP4 : ∀ args h v h', aYC args h = some (v, h') → jU (C6) (.call 102 args.toArray h) (.ret v h') := by
 intro args h v h' e
 exact bZ (C := C6) (fn := Tryz.f102) (body := a7S) (np := 2) (A := a7T) (T := aQV) (kinds := [Kd.v, Kd.v]) (by kernel_rfl) (by kernel_rfl) (by kernel_rfl) (by kernel_rfl) (eU fU) (by kernel_rfl) (fun S => t102 S) e
noncomputable def aYV := oI 102 aYC aYU
noncomputable def C7 : bP := cfg aYV
theorem ok7 : C7.Ok := eX (C := C6) ok6 bP4
noncomputable def B55 : Code := (Tryz.f55.body).getD .skip
def A55 : aB := (aB.node (some (0, [(0, Kd.v), (1, Kd.v)])) aB.nil (aB.node none (aB.node none (aB.node none aB.nil (aB.node none (aB.node none aB.nil aB.nil) (aB.node none aB.nil (aB.node none (aB.node none aB.nil aB.nil) (aB.node none (aB.node none aB.nil (aB.node none aB.nil aB.nil)) (aB.node none (aB.node none aB.nil aB.nil) aB.nil)))))) aB.nil) (aB.node none aB.nil aB.nil)))
noncomputable def aJC (S : Sg) (r0 : Value) (r1 : Value) (h : Hp) : bE :=
 fH h 87 (Array.toList (Value.cells r1)) fun a0 h0 =>
 aR 0 a0 fun v1 =>
 bJ h0 v1 fun v2 =>
 bB (iN aNW [v2] h0) fun v3 h3 =>
 eB v3 fun b4 =>
 dB b4 fun b5 =>
 dL b5
 (some ((Value.int .i64 (Int.ofNat 6)), h3))
 (bB (iN aYC [r0, (Value.func (.func 103) (List.toArray []) (List.toArray [a0]))] h3) fun v6 h6 =>
 eB v6 fun b7 =>
 dL b7
 (some ((Value.int .i64 (Int.ofNat 5)), h6))
 (aR 1 a0 fun v8 =>
 bJ h6 v8 fun v9 =>
 aT .i64 v9 fun i10 =>
 bB (bQ env h6 40 1 (List.toArray [(0, (Value.int .i64 i10))])) fun v11 h11 =>
 bB (dG (F63 [(Value.int .i64 (Int.ofNat 0)), (Value.int .i64 (Int.ofNat 20)), v11] h11) fun v => some (v, h11)) fun v12 h12 =>
 eB v12 fun b13 =>
 dB b13 fun b14 =>
 dL b14
 (dL b14
 (some ((Value.int .i64 (Int.ofNat 7)), h12))
 (some ((Value.int .i64 (Int.ofNat 0)), h12)))
 (aR 2 a0 fun v15 =>
 bJ h12 v15 fun v16 =>
 aT .i64 v16 fun i17 =>
 bB (bQ env h12 40 1 (List.toArray [(0, (Value.int .i64 i17))])) fun v18 h18 =>
 bB (dG (F63 [(Value.int .i64 (Int.ofNat 0)), (Value.int .i64 (Int.ofNat 60)), v18] h18) fun v => some (v, h18)) fun v19 h19 =>
 eB v19 fun b20 =>
 dB b20 fun b21 =>
 dL b21
 (some ((Value.int .i64 (Int.ofNat 7)), h19))
 (some ((Value.int .i64 (Int.ofNat 0)), h19)))))
noncomputable def T55 (S : Sg) : Sg := gZ 0 (uV fun r0 => uV fun r1 => uN fun h => aJC S r0 r1 h) (pF)
noncomputable def F55 (args : List Value) (h : Hp) : bE := cB [Kd.v, Kd.v] args fun al => aQ T55 1000000 0 al h
def bFX : Nat := 2 + (25 - 2)
theorem bFY (S : Sg) (r0 : Value) (r1 : Value) (h : Hp) : aJC S r0 r1 h = aF (dO env aYV (bFX)) (dP env Tryz.f55.results.toList) (collect B55 A55 []) 0 S (AL.v r0 (AL.v r1 AL.n)) h := by kernel_rfl
theorem t55 (S : Sg) : iA (fun l vs h => aF (dO env aYV bFX) (dP env Tryz.f55.results.toList) (collect B55 A55 []) l S vs h) (T55 S) := by
 unfold T55
 refine iA.cons 0 (fun jT h q e0 => ?_) ?_
 ·obtain ⟨r0, vs1, rfl, e1⟩ := aP e0
  obtain ⟨r1, vs2, rfl, e2⟩ := aP e1
  obtain ⟨rfl, ee⟩ := bC e2
  exact (bFY S r0 r1 h).symm.trans ee
 exact iA.nil
theorem r55 : ∀ args h v h', F55 args h = some (v, h') → jU (C7) (.call 55 args.toArray h) (.ret v h') := by
 intro args h v h' e
 exact bZ (C := C7) (fn := Tryz.f55) (body := B55) (np := 2) (A := A55) (T := T55) (kinds := [Kd.v, Kd.v]) (by kernel_rfl) (by kernel_rfl) (by kernel_rfl) (by kernel_rfl) (eU fU) (by kernel_rfl) (fun S => t55 S) e
noncomputable def bFZ := oI 55 F55 aYV
noncomputable def C8 : bP := cfg bFZ
theorem ok8 : C8.Ok := eX (C := C7) ok7 r55
noncomputable def a7V : Code := (Tryz.f135.body).getD .skip
noncomputable def a7W : G.aB (List KI) := (G.aB.node (some (0, [KI.reg 0 (Kd.v), KI.reg 1 (Kd.v)])) G.aB.nil (G.aB.node none G.aB.nil G.aB.nil))
noncomputable def YG (h : Hp) (S : Nat → aH → Option Value) (r0 : Value) (r1 : Value) : Option Value :=
 jC (Array.toList (Value.cells r0)) fun c0 =>
 qD c0 0 fun v1 =>
 aR 0 r1 fun v2 =>
 bJ h v2 fun v3 =>
 dG (rY env .eql 9 (Operand.tmp 5) (Operand.tmp 7) v1 v3) fun v4 =>
 eB v4 fun b5 =>
 some (Value.bool b5)
noncomputable def aQX (h : Hp) (S : Nat → aH → Option Value) : Nat → aH → Option Value := fI 0 (wV fun r0 => wV fun r1 => wN (YG h S r0 r1)) (lG)
noncomputable def aQW (args : List Value) (h : Hp) : Option Value := plainO (dK [Kd.v, Kd.v] args fun al => G.aQ (aQX h) 1000000 0 al)
def a1W : Nat := 2 + (9 - 2)
theorem a7X (h : Hp) (S : Nat → aH → Option Value) (r0 : Value) (r1 : Value) : YG h S r0 r1 = G.aF bL aN eY (fA env pf4 a1W h) (fF env Tryz.f135.results.toList) (G.collect a7V a7W []) 0 S (aH.v r0 (aH.v r1 aH.n)) := by kernel_rfl
theorem t135 (h : Hp) (S : Nat → aH → Option Value) : dD (fun l al => G.aF bL aN eY (fA env pf4 a1W h) (fF env Tryz.f135.results.toList) (G.collect a7V a7W []) l S al) (aQX h S) := by
 unfold aQX
 refine dD.cons 0 (fun jT q e0 => ?_) ?_
 ·obtain ⟨r0, vs1, rfl, e1⟩ := bY e0
  obtain ⟨r1, vs2, rfl, e2⟩ := bY e1
  obtain ⟨rfl, ee⟩ := bT e2
  exact (a7X h S r0 r1).symm.trans ee
 exact dD.nil
theorem bF0 : bO Tryz.prog 135 aQW := dA (C := C0) ok0 (pf := pf4) a1U (fn := Tryz.f135) (body := a7V) (kinds := [Kd.v, Kd.v]) (A := a7W) (T := aQX) (by kernel_rfl) (by kernel_rfl) (by kernel_rfl) (by kernel_rfl) (fun h S => t135 h S)
noncomputable def pf5 : PF := JI 135 aQW pf4
theorem a1X : dZ Tryz.prog pf5 := jF bF0 a1U
noncomputable def aC3 := o9 135 aQW bFZ
noncomputable def C9 : bP := cfg aC3
theorem ok9 : C9.Ok := fJ (C := C8) ok8 bF0
noncomputable def aRU : Code := (Tryz.f151.body).getD .skip
def aRV : aB := (aB.node (some (0, [(0, Kd.v), (1, Kd.v)])) aB.nil (aB.node none (aB.node none aB.nil (aB.node none (aB.node (some (1, [(0, Kd.v), (1, Kd.v), (7, Kd.i .i64), (8, Kd.i .i64)])) (aB.node none aB.nil (aB.node none (aB.node none aB.nil aB.nil) (aB.node none (aB.node none (aB.node none aB.nil (aB.node none aB.nil (aB.node none (aB.node none aB.nil aB.nil) aB.nil))) aB.nil) aB.nil))) aB.nil) aB.nil)) (aB.node (some (2, [])) aB.nil aB.nil)))
noncomputable def aRW (S : Sg) (h : Hp) : bE :=
 some ((Value.int .i64 (Int.negSucc 0)), h)
noncomputable def KW (S : Sg) (r0 : Value) (r1 : Value) (r7 : Int) (r8 : Int) (h : Hp) : bE :=
 eO (qH r8 r7) fun b0 =>
 dL b0
 (kK 2 r0 r8 fun v1 =>
 cZ 2 h v1 fun v2 =>
 bB (qM aC3 r1 [v2] h) fun v3 h3 =>
 eB v3 fun b4 =>
 dL b4
 (some ((Value.int .i64 r8), h3))
 (wrap64 (Int.add r8 (Int.ofNat 1)) fun i5 =>
 S 1 (AL.v r0 (AL.v r1 (AL.i r7 (AL.i i5 AL.n)))) h3))
 (S 2 AL.n h)
noncomputable def YH (S : Sg) (r0 : Value) (r1 : Value) (h : Hp) : bE :=
 jN r0 fun i0 =>
 S 1 (AL.v r0 (AL.v r1 (AL.i i0 (AL.i (Int.ofNat 0) AL.n)))) h
noncomputable def aC2 (S : Sg) : Sg := gZ 0 (uV fun r0 => uV fun r1 => uN fun h => YH S r0 r1 h) (gZ 1 (uV fun r0 => uV fun r1 => uI fun r7 => uI fun r8 => uN fun h => KW S r0 r1 r7 r8 h) (gZ 2 (uN fun h => aRW S  h) (pF)))
noncomputable def aYD (args : List Value) (h : Hp) : bE := cB [Kd.v, Kd.v] args fun al => aQ aC2 1000000 0 al h
def aJ5 : Nat := 2 + (19 - 2)
theorem a7Z (S : Sg) (h : Hp) : aRW S  h = aF (dO env aC3 (aJ5)) (dP env Tryz.f151.results.toList) (collect aRU aRV []) 2 S AL.n h := by kernel_rfl
theorem a8A (S : Sg) (r0 : Value) (r1 : Value) (r7 : Int) (r8 : Int) (h : Hp) : KW S r0 r1 r7 r8 h = aF (dO env aC3 (aJ5)) (dP env Tryz.f151.results.toList) (collect aRU aRV []) 1 S (AL.v r0 (AL.v r1 (AL.i r7 (AL.i r8 AL.n)))) h := by kernel_rfl
theorem a8B (S : Sg) (r0 : Value) (r1 : Value) (h : Hp) : YH S r0 r1 h = aF (dO env aC3 (aJ5)) (dP env Tryz.f151.results.toList) (collect aRU aRV []) 0 S (AL.v r0 (AL.v r1 AL.n)) h := by kernel_rfl
theorem t151 (S : Sg) : iA (fun l vs h => aF (dO env aC3 aJ5) (dP env Tryz.f151.results.toList) (collect aRU aRV []) l S vs h) (aC2 S) := by
 unfold aC2
 refine iA.cons 0 (fun jT h q e0 => ?_) ?_
 ·obtain ⟨r0, vs1, rfl, e1⟩ := aP e0
  obtain ⟨r1, vs2, rfl, e2⟩ := aP e1
  obtain ⟨rfl, ee⟩ := bC e2
  exact (a8B S r0 r1 h).symm.trans ee
 refine iA.cons 1 (fun jT h q e0 => ?_) ?_
 ·obtain ⟨r0, vs1, rfl, e1⟩ := aP e0
  obtain ⟨r1, vs2, rfl, e2⟩ := aP e1
  obtain ⟨r7, vs3, rfl, e3⟩ := cO e2
  obtain ⟨r8, vs4, rfl, e4⟩ := cO e3
  obtain ⟨rfl, ee⟩ := bC e4
  exact (a8A S r0 r1 r7 r8 h).symm.trans ee
 refine iA.cons 2 (fun jT h q e0 => ?_) ?_
 ·
  obtain ⟨rfl, ee⟩ := bC e0
  exact (a7Z S  h).symm.trans ee
 exact iA.nil
theorem bP7 : ∀ args h v h', aYD args h = some (v, h') → jU (C9) (.call 151 args.toArray h) (.ret v h') := by
 intro args h v h' e
 exact bZ (C := C9) (fn := Tryz.f151) (body := aRU) (np := 2) (A := aRV) (T := aC2) (kinds := [Kd.v, Kd.v]) (by kernel_rfl) (by kernel_rfl) (by kernel_rfl) (by kernel_rfl) (eU fU) (by kernel_rfl) (fun S => t151 S) e
noncomputable def aJ6 := oI 151 aYD aC3
noncomputable def C10 : bP := cfg aJ6
theorem bP8 : C10.Ok := eX (C := C9) ok9 bP7
noncomputable def a8C : Code := (Tryz.f134.body).getD .skip
def a8D : aB := (aB.node (some (0, [(0, Kd.v), (1, Kd.v)])) aB.nil (aB.node none aB.nil aB.nil))
noncomputable def YI (S : Sg) (r0 : Value) (r1 : Value) (h : Hp) : bE :=
 bB (iN aYD [r0, r1] h) fun v0 h0 =>
 aT .i64 v0 fun i1 =>
 dB (qH i1 (Int.ofNat 0)) fun b2 =>
 some ((Value.bool b2), h0)
noncomputable def aQY (S : Sg) : Sg := gZ 0 (uV fun r0 => uV fun r1 => uN fun h => YI S r0 r1 h) (pF)
noncomputable def aYE (args : List Value) (h : Hp) : bE := cB [Kd.v, Kd.v] args fun al => aQ aQY 1000000 0 al h
def a1Y : Nat := 2 + (9 - 2)
theorem a8E (S : Sg) (r0 : Value) (r1 : Value) (h : Hp) : YI S r0 r1 h = aF (dO env aJ6 (a1Y)) (dP env Tryz.f134.results.toList) (collect a8C a8D []) 0 S (AL.v r0 (AL.v r1 AL.n)) h := by kernel_rfl
theorem t134 (S : Sg) : iA (fun l vs h => aF (dO env aJ6 a1Y) (dP env Tryz.f134.results.toList) (collect a8C a8D []) l S vs h) (aQY S) := by
 unfold aQY
 refine iA.cons 0 (fun jT h q e0 => ?_) ?_
 ·obtain ⟨r0, vs1, rfl, e1⟩ := aP e0
  obtain ⟨r1, vs2, rfl, e2⟩ := aP e1
  obtain ⟨rfl, ee⟩ := bC e2
  exact (a8E S r0 r1 h).symm.trans ee
 exact iA.nil
theorem bP9 : ∀ args h v h', aYE args h = some (v, h') → jU (C10) (.call 134 args.toArray h) (.ret v h') := by
 intro args h v h' e
 exact bZ (C := C10) (fn := Tryz.f134) (body := a8C) (np := 2) (A := a8D) (T := aQY) (kinds := [Kd.v, Kd.v]) (by kernel_rfl) (by kernel_rfl) (by kernel_rfl) (by kernel_rfl) (eU fU) (by kernel_rfl) (fun S => t134 S) e
noncomputable def aJ7 := oI 134 aYE aJ6
noncomputable def C11 : bP := cfg aJ7
theorem bQA : C11.Ok := eX (C := C10) bP8 bP9
noncomputable def a8F : Code := (Tryz.f106.body).getD .skip
def a8G : aB := (aB.node (some (0, [(0, Kd.v), (1, Kd.v)])) aB.nil (aB.node none (aB.node none (aB.node none aB.nil (aB.node none (aB.node none aB.nil aB.nil) (aB.node none aB.nil (aB.node none (aB.node none aB.nil aB.nil) (aB.node none aB.nil (aB.node none (aB.node none aB.nil aB.nil) aB.nil)))))) aB.nil) (aB.node none aB.nil aB.nil)))
noncomputable def YP (S : Sg) (r0 : Value) (r1 : Value) (h : Hp) : bE :=
 fH h 151 (Array.toList (Value.cells r1)) fun a0 h0 =>
 aR 0 a0 fun v1 =>
 bJ h0 v1 fun v2 =>
 bB (iN aNW [v2] h0) fun v3 h3 =>
 eB v3 fun b4 =>
 dB b4 fun b5 =>
 dL b5
 (some ((Value.int .i64 (Int.ofNat 6)), h3))
 (bB (iN aYE [r0, (Value.func (.func 135) (List.toArray []) (List.toArray [a0]))] h3) fun v6 h6 =>
 eB v6 fun b7 =>
 dL b7
 (some ((Value.int .i64 (Int.ofNat 5)), h6))
 (aR 1 a0 fun v8 =>
 bJ h6 v8 fun v9 =>
 aT .i64 v9 fun i10 =>
 bB (bQ env h6 40 1 (List.toArray [(0, (Value.int .i64 i10))])) fun v11 h11 =>
 bB (dG (F63 [(Value.int .i64 (Int.ofNat 1)), (Value.int .i64 (Int.ofNat 60)), v11] h11) fun v => some (v, h11)) fun v12 h12 =>
 eB v12 fun b13 =>
 dB b13 fun b14 =>
 dL b14
 (some ((Value.int .i64 (Int.ofNat 7)), h12))
 (some ((Value.int .i64 (Int.ofNat 0)), h12))))
noncomputable def aQ0 (S : Sg) : Sg := gZ 0 (uV fun r0 => uV fun r1 => uN fun h => YP S r0 r1 h) (pF)
noncomputable def aYJ (args : List Value) (h : Hp) : bE := cB [Kd.v, Kd.v] args fun al => aQ aQ0 1000000 0 al h
def a1Z : Nat := 2 + (20 - 2)
theorem a8H (S : Sg) (r0 : Value) (r1 : Value) (h : Hp) : YP S r0 r1 h = aF (dO env aJ7 (a1Z)) (dP env Tryz.f106.results.toList) (collect a8F a8G []) 0 S (AL.v r0 (AL.v r1 AL.n)) h := by kernel_rfl
theorem t106 (S : Sg) : iA (fun l vs h => aF (dO env aJ7 a1Z) (dP env Tryz.f106.results.toList) (collect a8F a8G []) l S vs h) (aQ0 S) := by
 unfold aQ0
 refine iA.cons 0 (fun jT h q e0 => ?_) ?_
 ·obtain ⟨r0, vs1, rfl, e1⟩ := aP e0
  obtain ⟨r1, vs2, rfl, e2⟩ := aP e1
  obtain ⟨rfl, ee⟩ := bC e2
  exact (a8H S r0 r1 h).symm.trans ee
 exact iA.nil
theorem bQB : ∀ args h v h', aYJ args h = some (v, h') → jU (C11) (.call 106 args.toArray h) (.ret v h') := by
 intro args h v h' e
 exact bZ (C := C11) (fn := Tryz.f106) (body := a8F) (np := 2) (A := a8G) (T := aQ0) (kinds := [Kd.v, Kd.v]) (by kernel_rfl) (by kernel_rfl) (by kernel_rfl) (by kernel_rfl) (eU fU) (by kernel_rfl) (fun S => t106 S) e
noncomputable def EY := oI 106 aYJ aJ7
noncomputable def C12 : bP := cfg EY
theorem bQC : C12.Ok := eX (C := C11) bQA bQB
noncomputable def aRX : Code := (Tryz.f133.body).getD .skip
def aRY : aB := (aB.node (some (0, [(0, Kd.v), (1, Kd.v)])) aB.nil (aB.node none (aB.node none aB.nil (aB.node none (aB.node (some (1, [(0, Kd.v), (1, Kd.v), (9, Kd.v), (10, Kd.i .i64), (11, Kd.i .i64)])) (aB.node none aB.nil (aB.node none (aB.node none aB.nil aB.nil) (aB.node none (aB.node none (aB.node none aB.nil (aB.node none aB.nil (aB.node none aB.nil (aB.node none (aB.node none aB.nil aB.nil) aB.nil)))) aB.nil) aB.nil))) aB.nil) aB.nil)) (aB.node (some (2, [])) aB.nil aB.nil)))
noncomputable def aRZ (S : Sg) (h : Hp) : bE :=
 some (Value.tuple (List.toArray [(Value.int .i64 (Int.ofNat 0)), (Value.int .i64 (Int.ofNat 0))]), h)
noncomputable def KY (S : Sg) (r0 : Value) (r1 : Value) (r9 : Value) (pG : Int) (pI : Int) (h : Hp) : bE :=
 eO (qH pI pG) fun b0 =>
 dL b0
 (kK 2 r9 pI fun v1 =>
 cZ 2 h v1 fun v2 =>
 fH h 151 [(Value.string (ByteArray.mk #[])), (Value.int .i64 (Int.ofNat 0))] fun a3 h3 =>
 jM 2 h3 a3 v2 fun h4 =>
 dG (qQ env h4 62 r0 none (some (Value.int .i64 pI)) none) fun v5 =>
 cZ 2 h4 a3 fun v6 =>
 bB (qM EY r1 [v5, v6] h4) fun v7 h7 =>
 aT .i64 v7 fun i8 =>
 dB (zJ i8 (Int.ofNat 0)) fun b9 =>
 dL b9
 (some (Value.tuple (List.toArray [(Value.int .i64 pI), (Value.int .i64 i8)]), h7))
 (wrap64 (Int.add pI (Int.ofNat 1)) fun i10 =>
 S 1 (AL.v r0 (AL.v r1 (AL.v r9 (AL.i pG (AL.i i10 AL.n))))) h7))
 (S 2 AL.n h)
noncomputable def YK (S : Sg) (r0 : Value) (r1 : Value) (h : Hp) : bE :=
 jN r0 fun i0 =>
 S 1 (AL.v r0 (AL.v r1 (AL.v r0 (AL.i i0 (AL.i (Int.ofNat 0) AL.n))))) h
noncomputable def aC7 (S : Sg) : Sg := gZ 0 (uV fun r0 => uV fun r1 => uN fun h => YK S r0 r1 h) (gZ 1 (uV fun r0 => uV fun r1 => uV fun r9 => uI fun pG => uI fun pI => uN fun h => KY S r0 r1 r9 pG pI h) (gZ 2 (uN fun h => aRZ S  h) (pF)))
noncomputable def aYH (args : List Value) (h : Hp) : bE := cB [Kd.v, Kd.v] args fun al => aQ aC7 1000000 0 al h
def aJ8 : Nat := 2 + (27 - 2)
theorem a8I (S : Sg) (h : Hp) : aRZ S  h = aF (dO env EY (aJ8)) (dP env Tryz.f133.results.toList) (collect aRX aRY []) 2 S AL.n h := by kernel_rfl
theorem a8J (S : Sg) (r0 : Value) (r1 : Value) (r9 : Value) (pG : Int) (pI : Int) (h : Hp) : KY S r0 r1 r9 pG pI h = aF (dO env EY (aJ8)) (dP env Tryz.f133.results.toList) (collect aRX aRY []) 1 S (AL.v r0 (AL.v r1 (AL.v r9 (AL.i pG (AL.i pI AL.n))))) h := by kernel_rfl
theorem a8K (S : Sg) (r0 : Value) (r1 : Value) (h : Hp) : YK S r0 r1 h = aF (dO env EY (aJ8)) (dP env Tryz.f133.results.toList) (collect aRX aRY []) 0 S (AL.v r0 (AL.v r1 AL.n)) h := by kernel_rfl
theorem t133 (S : Sg) : iA (fun l vs h => aF (dO env EY aJ8) (dP env Tryz.f133.results.toList) (collect aRX aRY []) l S vs h) (aC7 S) := by
 unfold aC7
 refine iA.cons 0 (fun jT h q e0 => ?_) ?_
 ·obtain ⟨r0, vs1, rfl, e1⟩ := aP e0
  obtain ⟨r1, vs2, rfl, e2⟩ := aP e1
  obtain ⟨rfl, ee⟩ := bC e2
  exact (a8K S r0 r1 h).symm.trans ee
 refine iA.cons 1 (fun jT h q e0 => ?_) ?_
 ·obtain ⟨r0, vs1, rfl, e1⟩ := aP e0
  obtain ⟨r1, vs2, rfl, e2⟩ := aP e1
  obtain ⟨r9, vs3, rfl, e3⟩ := aP e2
  obtain ⟨pG, vs4, rfl, e4⟩ := cO e3
  obtain ⟨pI, vs5, rfl, e5⟩ := cO e4
  obtain ⟨rfl, ee⟩ := bC e5
  exact (a8J S r0 r1 r9 pG pI h).symm.trans ee
 refine iA.cons 2 (fun jT h q e0 => ?_) ?_
 ·
  obtain ⟨rfl, ee⟩ := bC e0
  exact (a8I S  h).symm.trans ee
 exact iA.nil
theorem bQD : ∀ args h v h', aYH args h = some (v, h') → jU (C12) (.call 133 args.toArray h) (.ret v h') := by
 intro args h v h' e
 exact bZ (C := C12) (fn := Tryz.f133) (body := aRX) (np := 2) (A := aRY) (T := aC7) (kinds := [Kd.v, Kd.v]) (by kernel_rfl) (by kernel_rfl) (by kernel_rfl) (by kernel_rfl) (eU fU) (by kernel_rfl) (fun S => t133 S) e
noncomputable def aJ9 := oI 133 aYH EY
noncomputable def C13 : bP := cfg aJ9
theorem bQE : C13.Ok := eX (C := C12) bQC bQD
noncomputable def a8L : Code := (Tryz.f105.body).getD .skip
def a8M : aB := (aB.node (some (0, [(0, Kd.v), (1, Kd.i .i64), (2, Kd.v)])) aB.nil (aB.node none (aB.node none aB.nil (aB.node none (aB.node none aB.nil aB.nil) aB.nil)) (aB.node none aB.nil aB.nil)))
noncomputable def YL (S : Sg) (r0 : Value) (r1 : Int) (r2 : Value) (h : Hp) : bE :=
 jN r0 fun i0 =>
 eO (qH r1 i0) fun b1 =>
 dL b1
 (some (Value.tuple (List.toArray [(Value.int .i64 (Int.ofNat 0)), (Value.int .i64 (Int.ofNat 3))]), h))
 (bB (iN aYH [r0, r2] h) fun v2 h2 =>
 lM v2 0 fun v3 =>
 aT .i64 v3 fun i4 =>
 lM v2 1 fun v5 =>
 aT .i64 v5 fun i6 =>
 some (Value.tuple (List.toArray [(Value.int .i64 i4), (Value.int .i64 i6)]), h2))
noncomputable def aQZ (S : Sg) : Sg := gZ 0 (uV fun r0 => uI fun r1 => uV fun r2 => uN fun h => YL S r0 r1 r2 h) (pF)
noncomputable def aNY (args : List Value) (h : Hp) : bE := cB [Kd.v, Kd.i .i64, Kd.v] args fun al => aQ aQZ 1000000 0 al h
def a18 : Nat := 3 + (17 - 3)
theorem a8N (S : Sg) (r0 : Value) (r1 : Int) (r2 : Value) (h : Hp) : YL S r0 r1 r2 h = aF (dO env aJ9 (a18)) (dP env Tryz.f105.results.toList) (collect a8L a8M []) 0 S (AL.v r0 (AL.i r1 (AL.v r2 AL.n))) h := by kernel_rfl
theorem t105 (S : Sg) : iA (fun l vs h => aF (dO env aJ9 a18) (dP env Tryz.f105.results.toList) (collect a8L a8M []) l S vs h) (aQZ S) := by
 unfold aQZ
 refine iA.cons 0 (fun jT h q e0 => ?_) ?_
 ·obtain ⟨r0, vs1, rfl, e1⟩ := aP e0
  obtain ⟨r1, vs2, rfl, e2⟩ := cO e1
  obtain ⟨r2, vs3, rfl, e3⟩ := aP e2
  obtain ⟨rfl, ee⟩ := bC e3
  exact (a8N S r0 r1 r2 h).symm.trans ee
 exact iA.nil
theorem bQF : ∀ args h v h', aNY args h = some (v, h') → jU (C13) (.call 105 args.toArray h) (.ret v h') := by
 intro args h v h' e
 exact bZ (C := C13) (fn := Tryz.f105) (body := a8L) (np := 3) (A := a8M) (T := aQZ) (kinds := [Kd.v, Kd.i .i64, Kd.v]) (by kernel_rfl) (by kernel_rfl) (by kernel_rfl) (by kernel_rfl) (eU fU) (by kernel_rfl) (fun S => t105 S) e
noncomputable def a19 := oI 105 aNY aJ9
noncomputable def C14 : bP := cfg a19
theorem bQG : C14.Ok := eX (C := C13) bQE bQF
noncomputable def B68 : Code := (Tryz.f68.body).getD .skip
noncomputable def A68 : G.aB (List KI) := (G.aB.node (some (0, [KI.reg 0 (Kd.v)])) G.aB.nil (G.aB.node none G.aB.nil (G.aB.node none (G.aB.node none G.aB.nil (G.aB.node none (G.aB.node (some (1, [KI.reg 3 (Kd.i .i64), KI.reg 6 (Kd.v), KI.reg 7 (Kd.i .i64), KI.reg 8 (Kd.i .i64)])) (G.aB.node none G.aB.nil (G.aB.node none (G.aB.node none G.aB.nil G.aB.nil) (G.aB.node none (G.aB.node none (G.aB.node none G.aB.nil G.aB.nil) G.aB.nil) G.aB.nil))) G.aB.nil) G.aB.nil)) (G.aB.node (some (2, [KI.reg 3 (Kd.i .i64)])) G.aB.nil G.aB.nil))))
noncomputable def a2A (h : Hp) (S : Nat → aH → Option Value) (r3 : Int) : Option Value :=
 some (Value.int .i64 r3)
noncomputable def VI (h : Hp) (S : Nat → aH → Option Value) (r3 : Int) (r6 : Value) (r7 : Int) (r8 : Int) : Option Value :=
 eO (qH r8 r7) fun b0 =>
 dL b0
 (kK 2 r6 r8 fun v1 =>
 cZ 2 h v1 fun v2 =>
 aGM v2 fun l3 => dL (Nat.beq (J7 l3) 2) (M7 0 l3 [(Value.string (ByteArray.mk #[])), (Value.int .i64 (Int.ofNat 0))] fun c3 =>
 qD c3 1 fun v4 =>
 aT .i64 v4 fun i5 =>
 wrap64 (Int.add r3 i5) fun i6 =>
 wrap64 (Int.add r8 (Int.ofNat 1)) fun i7 =>
 S 1 (aH.i i6 (aH.v r6 (aH.i r7 (aH.i i7 aH.n))))) none)
 (S 2 (aH.i r3 aH.n))
noncomputable def aJE (h : Hp) (S : Nat → aH → Option Value) (r0 : Value) : Option Value :=
 jN r0 fun i0 =>
 S 1 (aH.i (Int.ofNat 0) (aH.v r0 (aH.i i0 (aH.i (Int.ofNat 0) aH.n))))
noncomputable def T68 (h : Hp) (S : Nat → aH → Option Value) : Nat → aH → Option Value := fI 0 (wV fun r0 => wN (aJE h S r0)) (fI 1 (wI fun r3 => wV fun r6 => wI fun r7 => wI fun r8 => wN (VI h S r3 r6 r7 r8)) (fI 2 (wI fun r3 => wN (a2A h S r3)) (lG)))
noncomputable def F68 (args : List Value) (h : Hp) : Option Value := plainO (dK [Kd.v] args fun al => G.aQ (T68 h) 1000000 0 al)
def aYW : Nat := 1 + (18 - 1)
theorem bF3 (h : Hp) (S : Nat → aH → Option Value) (r3 : Int) : a2A h S r3 = G.aF bL aN eY (fA env pf5 aYW h) (fF env Tryz.f68.results.toList) (G.collect B68 A68 []) 2 S (aH.i r3 aH.n) := by kernel_rfl
theorem bF4 (h : Hp) (S : Nat → aH → Option Value) (r3 : Int) (r6 : Value) (r7 : Int) (r8 : Int) : VI h S r3 r6 r7 r8 = G.aF bL aN eY (fA env pf5 aYW h) (fF env Tryz.f68.results.toList) (G.collect B68 A68 []) 1 S (aH.i r3 (aH.v r6 (aH.i r7 (aH.i r8 aH.n)))) := by kernel_rfl
theorem bF5 (h : Hp) (S : Nat → aH → Option Value) (r0 : Value) : aJE h S r0 = G.aF bL aN eY (fA env pf5 aYW h) (fF env Tryz.f68.results.toList) (G.collect B68 A68 []) 0 S (aH.v r0 aH.n) := by kernel_rfl
theorem t68 (h : Hp) (S : Nat → aH → Option Value) : dD (fun l al => G.aF bL aN eY (fA env pf5 aYW h) (fF env Tryz.f68.results.toList) (G.collect B68 A68 []) l S al) (T68 h S) := by
 unfold T68
 refine dD.cons 0 (fun jT q e0 => ?_) ?_
 ·obtain ⟨r0, vs1, rfl, e1⟩ := bY e0
  obtain ⟨rfl, ee⟩ := bT e1
  exact (bF5 h S r0).symm.trans ee
 refine dD.cons 1 (fun jT q e0 => ?_) ?_
 ·obtain ⟨r3, vs1, rfl, e1⟩ := bA e0
  obtain ⟨r6, vs2, rfl, e2⟩ := bY e1
  obtain ⟨r7, vs3, rfl, e3⟩ := bA e2
  obtain ⟨r8, vs4, rfl, e4⟩ := bA e3
  obtain ⟨rfl, ee⟩ := bT e4
  exact (bF4 h S r3 r6 r7 r8).symm.trans ee
 refine dD.cons 2 (fun jT q e0 => ?_) ?_
 ·obtain ⟨r3, vs1, rfl, e1⟩ := bA e0
  obtain ⟨rfl, ee⟩ := bT e1
  exact (bF3 h S r3).symm.trans ee
 exact dD.nil
theorem r68 : bO Tryz.prog 68 F68 := dA (C := C0) ok0 (pf := pf5) a1X (fn := Tryz.f68) (body := B68) (kinds := [Kd.v]) (A := A68) (T := T68) (by kernel_rfl) (by kernel_rfl) (by kernel_rfl) (by kernel_rfl) (fun h S => t68 h S)
noncomputable def pf6 : PF := JI 68 F68 pf5
theorem a2B : dZ Tryz.prog pf6 := jF r68 a1X
noncomputable def VQ := o9 68 F68 a19
noncomputable def C15 : bP := cfg VQ
theorem bQH : C15.Ok := fJ (C := C14) bQG r68
noncomputable def aR0 : Code := (Tryz.f107.body).getD .skip
def aR1 : aB := (aB.node (some (0, [(0, Kd.v)])) aB.nil (aB.node none (aB.node none aB.nil (aB.node none (aB.node (some (1, [(5, Kd.v), (6, Kd.i .i64), (7, Kd.i .i64)])) (aB.node none aB.nil (aB.node none (aB.node none aB.nil aB.nil) (aB.node none (aB.node none (aB.node none aB.nil (aB.node none aB.nil (aB.node none (aB.node none aB.nil aB.nil) aB.nil))) aB.nil) aB.nil))) aB.nil) aB.nil)) (aB.node (some (2, [])) aB.nil aB.nil)))
noncomputable def aR2 (S : Sg) (h : Hp) : bE :=
 some ((Value.bool true), h)
noncomputable def K4 (S : Sg) (r5 : Value) (r6 : Int) (r7 : Int) (h : Hp) : bE :=
 eO (qH r7 r6) fun b0 =>
 dL b0
 (kK 2 r5 r7 fun v1 =>
 cZ 2 h v1 fun v2 =>
 fH h 64 [(Value.int .i64 (Int.ofNat 0)), (Value.int .i64 (Int.ofNat 0))] fun a3 h3 =>
 jM 2 h3 a3 v2 fun h4 =>
 aR 0 a3 fun v5 =>
 bJ h4 v5 fun v6 =>
 aT .i64 v6 fun i7 =>
 bB (bQ env h4 40 1 (List.toArray [(0, (Value.int .i64 i7))])) fun v8 h8 =>
 bB (dG (F63 [(Value.int .i64 (Int.ofNat 0)), (Value.int .i64 (Int.ofNat 60)), v8] h8) fun v => some (v, h8)) fun v9 h9 =>
 eB v9 fun b10 =>
 dB b10 fun b11 =>
 dL b11
 (some ((Value.bool false), h9))
 (aR 1 a3 fun v12 =>
 bJ h9 v12 fun v13 =>
 aT .i64 v13 fun i14 =>
 bB (bQ env h9 40 1 (List.toArray [(0, (Value.int .i64 i14))])) fun v15 h15 =>
 bB (dG (F63 [(Value.int .i64 (Int.ofNat 0)), (Value.int .i64 (Int.ofNat 5)), v15] h15) fun v => some (v, h15)) fun v16 h16 =>
 eB v16 fun b17 =>
 dB b17 fun b18 =>
 dL b18
 (some ((Value.bool false), h16))
 (wrap64 (Int.add r7 (Int.ofNat 1)) fun i19 =>
 S 1 (AL.v r5 (AL.i r6 (AL.i i19 AL.n))) h16)))
 (S 2 AL.n h)
noncomputable def YR (S : Sg) (r0 : Value) (h : Hp) : bE :=
 jN r0 fun i0 =>
 S 1 (AL.v r0 (AL.i i0 (AL.i (Int.ofNat 0) AL.n))) h
noncomputable def aDB (S : Sg) : Sg := gZ 0 (uV fun r0 => uN fun h => YR S r0 h) (gZ 1 (uV fun r5 => uI fun r6 => uI fun r7 => uN fun h => K4 S r5 r6 r7 h) (gZ 2 (uN fun h => aR2 S  h) (pF)))
noncomputable def aN1 (args : List Value) (h : Hp) : bE := cB [Kd.v] args fun al => aQ aDB 1000000 0 al h
def aKA : Nat := 1 + (24 - 1)
theorem a8O (S : Sg) (h : Hp) : aR2 S  h = aF (dO env VQ (aKA)) (dP env Tryz.f107.results.toList) (collect aR0 aR1 []) 2 S AL.n h := by kernel_rfl
theorem a8P (S : Sg) (r5 : Value) (r6 : Int) (r7 : Int) (h : Hp) : K4 S r5 r6 r7 h = aF (dO env VQ (aKA)) (dP env Tryz.f107.results.toList) (collect aR0 aR1 []) 1 S (AL.v r5 (AL.i r6 (AL.i r7 AL.n))) h := by kernel_rfl
theorem a8Q (S : Sg) (r0 : Value) (h : Hp) : YR S r0 h = aF (dO env VQ (aKA)) (dP env Tryz.f107.results.toList) (collect aR0 aR1 []) 0 S (AL.v r0 AL.n) h := by kernel_rfl
theorem t107 (S : Sg) : iA (fun l vs h => aF (dO env VQ aKA) (dP env Tryz.f107.results.toList) (collect aR0 aR1 []) l S vs h) (aDB S) := by
 unfold aDB
 refine iA.cons 0 (fun jT h q e0 => ?_) ?_
 ·obtain ⟨r0, vs1, rfl, e1⟩ := aP e0
  obtain ⟨rfl, ee⟩ := bC e1
  exact (a8Q S r0 h).symm.trans ee
 refine iA.cons 1 (fun jT h q e0 => ?_) ?_
 ·obtain ⟨r5, vs1, rfl, e1⟩ := aP e0
  obtain ⟨r6, vs2, rfl, e2⟩ := cO e1
  obtain ⟨r7, vs3, rfl, e3⟩ := cO e2
  obtain ⟨rfl, ee⟩ := bC e3
  exact (a8P S r5 r6 r7 h).symm.trans ee
 refine iA.cons 2 (fun jT h q e0 => ?_) ?_
 ·
  obtain ⟨rfl, ee⟩ := bC e0
  exact (a8O S  h).symm.trans ee
 exact iA.nil
theorem bQI : ∀ args h v h', aN1 args h = some (v, h') → jU (C15) (.call 107 args.toArray h) (.ret v h') := by
 intro args h v h' e
 exact bZ (C := C15) (fn := Tryz.f107) (body := aR0) (np := 1) (A := aR1) (T := aDB) (kinds := [Kd.v]) (by kernel_rfl) (by kernel_rfl) (by kernel_rfl) (by kernel_rfl) (eU fU) (by kernel_rfl) (fun S => t107 S) e
noncomputable def aKB := oI 107 aN1 VQ
noncomputable def C16 : bP := cfg aKB
theorem ok16 : C16.Ok := eX (C := C15) bQH bQI
noncomputable def B58 : Code := (Tryz.f58.body).getD .skip
def A58 : aB := (aB.node (some (0, [(0, Kd.i .i64), (1, Kd.v)])) aB.nil (aB.node none (aB.node none aB.nil (aB.node none aB.nil (aB.node none (aB.node none aB.nil aB.nil) aB.nil))) (aB.node none (aB.node none (aB.node none aB.nil (aB.node none (aB.node none aB.nil aB.nil) (aB.node none aB.nil (aB.node none (aB.node none aB.nil aB.nil) (aB.node none (aB.node none aB.nil (aB.node none aB.nil (aB.node none aB.nil (aB.node none aB.nil aB.nil)))) (aB.node none (aB.node none aB.nil aB.nil) aB.nil)))))) aB.nil) (aB.node none aB.nil aB.nil))))
noncomputable def aJG (S : Sg) (r0 : Int) (r1 : Value) (h : Hp) : bE :=
 fH h 67 (Array.toList (Value.cells r1)) fun a0 h0 =>
 aR 0 a0 fun v1 =>
 bJ h0 v1 fun v2 =>
 bB (iN aNY [v2, (Value.int .i64 (Int.ofNat 3)), (Value.func (.func 106) #[] #[])] h0) fun v3 h3 =>
 lM v3 0 fun v4 =>
 aT .i64 v4 fun i5 =>
 lM v3 1 fun v6 =>
 aT .i64 v6 fun i7 =>
 dB (zJ i7 (Int.ofNat 0)) fun b8 =>
 dL b8
 (some ((Value.int .i64 i7), h3))
 (aR 0 a0 fun v9 =>
 bJ h3 v9 fun v10 =>
 bB (dG (F68 [v10] h3) fun v => some (v, h3)) fun v11 h11 =>
 aT .i64 v11 fun i12 =>
 eO (qH (Int.ofNat 60) i12) fun b13 =>
 dL b13
 (some ((Value.int .i64 (Int.ofNat 9)), h11))
 (aR 3 a0 fun v14 =>
 bJ h11 v14 fun v15 =>
 jN v15 fun i16 =>
 dB (zJ i16 r0) fun b17 =>
 dL b17
 (some ((Value.int .i64 (Int.ofNat 3)), h11))
 (aR 1 a0 fun v18 =>
 cZ 2 h11 v18 fun v19 =>
 bB (bQ env h11 65 1 (List.toArray [(0, v19)])) fun v20 h20 =>
 bB (iN aN1 [v20] h20) fun v21 h21 =>
 eB v21 fun b22 =>
 dB b22 fun b23 =>
 dL b23
 (dL b23
 (some ((Value.int .i64 (Int.ofNat 7)), h21))
 (some ((Value.int .i64 (Int.ofNat 0)), h21)))
 (aR 3 a0 fun v24 =>
 bJ h21 v24 fun v25 =>
 bB (iN aN1 [v25] h21) fun v26 h26 =>
 eB v26 fun b27 =>
 dB b27 fun b28 =>
 dL b28
 (dL b28
 (some ((Value.int .i64 (Int.ofNat 7)), h26))
 (some ((Value.int .i64 (Int.ofNat 0)), h26)))
 (aR 4 a0 fun v29 =>
 bJ h26 v29 fun v30 =>
 aT .i64 v30 fun i31 =>
 bB (bQ env h26 40 1 (List.toArray [(0, (Value.int .i64 i31))])) fun v32 h32 =>
 bB (dG (F63 [(Value.int .i64 (Int.ofNat 0)), (Value.int .i64 (Int.ofNat 10000)), v32] h32) fun v => some (v, h32)) fun v33 h33 =>
 eB v33 fun b34 =>
 dB b34 fun b35 =>
 dL b35
 (some ((Value.int .i64 (Int.ofNat 7)), h33))
 (some ((Value.int .i64 (Int.ofNat 0)), h33)))))))
noncomputable def T58 (S : Sg) : Sg := gZ 0 (uI fun r0 => uV fun r1 => uN fun h => aJG S r0 r1 h) (pF)
noncomputable def F58 (args : List Value) (h : Hp) : bE := cB [Kd.i .i64, Kd.v] args fun al => aQ T58 1000000 0 al h
def bF7 : Nat := 2 + (42 - 2)
theorem bF8 (S : Sg) (r0 : Int) (r1 : Value) (h : Hp) : aJG S r0 r1 h = aF (dO env aKB (bF7)) (dP env Tryz.f58.results.toList) (collect B58 A58 []) 0 S (AL.i r0 (AL.v r1 AL.n)) h := by kernel_rfl
theorem t58 (S : Sg) : iA (fun l vs h => aF (dO env aKB bF7) (dP env Tryz.f58.results.toList) (collect B58 A58 []) l S vs h) (T58 S) := by
 unfold T58
 refine iA.cons 0 (fun jT h q e0 => ?_) ?_
 ·obtain ⟨r0, vs1, rfl, e1⟩ := cO e0
  obtain ⟨r1, vs2, rfl, e2⟩ := aP e1
  obtain ⟨rfl, ee⟩ := bC e2
  exact (bF8 S r0 r1 h).symm.trans ee
 exact iA.nil
theorem r58 : ∀ args h v h', F58 args h = some (v, h') → jU (C16) (.call 58 args.toArray h) (.ret v h') := by
 intro args h v h' e
 exact bZ (C := C16) (fn := Tryz.f58) (body := B58) (np := 2) (A := A58) (T := T58) (kinds := [Kd.i .i64, Kd.v]) (by kernel_rfl) (by kernel_rfl) (by kernel_rfl) (by kernel_rfl) (eU fU) (by kernel_rfl) (fun S => t58 S) e
noncomputable def aKC := oI 58 F58 aKB
noncomputable def C17 : bP := cfg aKC
theorem bQN : C17.Ok := eX (C := C16) ok16 r58
noncomputable def B57 : Code := (Tryz.f57.body).getD .skip
def A57 : aB := (aB.node (some (0, [(0, Kd.v), (1, Kd.v), (2, Kd.v)])) aB.nil (aB.node none aB.nil aB.nil))
noncomputable def aJJ (S : Sg) (r0 : Value) (r1 : Value) (r2 : Value) (h : Hp) : bE :=
 fH h 67 (Array.toList (Value.cells r1)) fun a0 h0 =>
 aR 1 r2 fun v1 =>
 bJ h0 v1 fun v2 =>
 jN v2 fun i3 =>
 cZ 5 h0 a0 fun v4 =>
 bB (iN F58 [(Value.int .i64 i3), v4] h0) fun v5 h5 =>
 aT .i64 v5 fun i6 =>
 some ((Value.int .i64 i6), h5)
noncomputable def T57 (S : Sg) : Sg := gZ 0 (uV fun r0 => uV fun r1 => uV fun r2 => uN fun h => aJJ S r0 r1 r2 h) (pF)
noncomputable def F57 (args : List Value) (h : Hp) : bE := cB [Kd.v, Kd.v, Kd.v] args fun al => aQ T57 1000000 0 al h
def bF9 : Nat := 3 + (11 - 3)
theorem bGA (S : Sg) (r0 : Value) (r1 : Value) (r2 : Value) (h : Hp) : aJJ S r0 r1 r2 h = aF (dO env aKC (bF9)) (dP env Tryz.f57.results.toList) (collect B57 A57 []) 0 S (AL.v r0 (AL.v r1 (AL.v r2 AL.n))) h := by kernel_rfl
theorem t57 (S : Sg) : iA (fun l vs h => aF (dO env aKC bF9) (dP env Tryz.f57.results.toList) (collect B57 A57 []) l S vs h) (T57 S) := by
 unfold T57
 refine iA.cons 0 (fun jT h q e0 => ?_) ?_
 ·obtain ⟨r0, vs1, rfl, e1⟩ := aP e0
  obtain ⟨r1, vs2, rfl, e2⟩ := aP e1
  obtain ⟨r2, vs3, rfl, e3⟩ := aP e2
  obtain ⟨rfl, ee⟩ := bC e3
  exact (bGA S r0 r1 r2 h).symm.trans ee
 exact iA.nil
theorem r57 : ∀ args h v h', F57 args h = some (v, h') → jU (C17) (.call 57 args.toArray h) (.ret v h') := by
 intro args h v h' e
 exact bZ (C := C17) (fn := Tryz.f57) (body := B57) (np := 3) (A := A57) (T := T57) (kinds := [Kd.v, Kd.v, Kd.v]) (by kernel_rfl) (by kernel_rfl) (by kernel_rfl) (by kernel_rfl) (eU fU) (by kernel_rfl) (fun S => t57 S) e
noncomputable def aKD := oI 57 F57 aKC
noncomputable def C18 : bP := cfg aKD
theorem bQQ : C18.Ok := eX (C := C17) bQN r57
noncomputable def B53 : Code := (Tryz.f53.body).getD .skip
def A53 : aB := (aB.node (some (0, [(0, Kd.i .i64)])) aB.nil (aB.node none (aB.node none (aB.node none aB.nil (aB.node none (aB.node none aB.nil aB.nil) (aB.node none aB.nil (aB.node none (aB.node none aB.nil aB.nil) aB.nil)))) aB.nil) (aB.node none aB.nil aB.nil)))
noncomputable def aJH (S : Sg) (r0 : Int) (h : Hp) : bE :=
 bB (bQ env h 40 1 (List.toArray [(0, (Value.int .i64 r0))])) fun v0 h0 =>
 bB (dG (F63 [(Value.int .i64 (Int.ofNat 2)), (Value.int .i64 (Int.ofNat 60)), v0] h0) fun v => some (v, h0)) fun v1 h1 =>
 eB v1 fun b2 =>
 dB b2 fun b3 =>
 dL b3
 (some ((Value.int .i64 (Int.ofNat 7)), h1))
 (mH .i64 (lD env .rem 3 (Value.int .i64 r0) (Value.int .i64 (Int.ofNat 2))) fun i4 =>
 dB (zJ i4 (Int.ofNat 0)) fun b5 =>
 dL b5
 (some ((Value.int .i64 (Int.ofNat 2)), h1))
 (some ((Value.int .i64 (Int.ofNat 0)), h1)))
noncomputable def T53 (S : Sg) : Sg := gZ 0 (uI fun r0 => uN fun h => aJH S r0 h) (pF)
noncomputable def F53 (args : List Value) (h : Hp) : bE := cB [Kd.i .i64] args fun al => aQ T53 1000000 0 al h
def bGB : Nat := 1 + (12 - 1)
theorem bGC (S : Sg) (r0 : Int) (h : Hp) : aJH S r0 h = aF (dO env aKD (bGB)) (dP env Tryz.f53.results.toList) (collect B53 A53 []) 0 S (AL.i r0 AL.n) h := by kernel_rfl
theorem t53 (S : Sg) : iA (fun l vs h => aF (dO env aKD bGB) (dP env Tryz.f53.results.toList) (collect B53 A53 []) l S vs h) (T53 S) := by
 unfold T53
 refine iA.cons 0 (fun jT h q e0 => ?_) ?_
 ·obtain ⟨r0, vs1, rfl, e1⟩ := cO e0
  obtain ⟨rfl, ee⟩ := bC e1
  exact (bGC S r0 h).symm.trans ee
 exact iA.nil
theorem r53 : ∀ args h v h', F53 args h = some (v, h') → jU (C18) (.call 53 args.toArray h) (.ret v h') := by
 intro args h v h' e
 exact bZ (C := C18) (fn := Tryz.f53) (body := B53) (np := 1) (A := A53) (T := T53) (kinds := [Kd.i .i64]) (by kernel_rfl) (by kernel_rfl) (by kernel_rfl) (by kernel_rfl) (eU fU) (by kernel_rfl) (fun S => t53 S) e
noncomputable def EW := oI 53 F53 aKD
noncomputable def C19 : bP := cfg EW
theorem bQT : C19.Ok := eX (C := C18) bQQ r53
noncomputable def aR3 : Code := (Tryz.f100.body).getD .skip
def aR4 : aB := (aB.node (some (0, [(0, Kd.v), (1, Kd.v)])) aB.nil (aB.node none (aB.node none aB.nil (aB.node none (aB.node (some (1, [(0, Kd.v), (1, Kd.v), (9, Kd.v), (10, Kd.i .i64), (11, Kd.i .i64)])) (aB.node none aB.nil (aB.node none (aB.node none aB.nil aB.nil) (aB.node none (aB.node none (aB.node none aB.nil (aB.node none aB.nil (aB.node none aB.nil (aB.node none (aB.node none aB.nil aB.nil) aB.nil)))) aB.nil) aB.nil))) aB.nil) aB.nil)) (aB.node (some (2, [])) aB.nil aB.nil)))
noncomputable def aR5 (S : Sg) (h : Hp) : bE :=
 some (Value.tuple (List.toArray [(Value.int .i64 (Int.ofNat 0)), (Value.int .i64 (Int.ofNat 0))]), h)
noncomputable def KX (S : Sg) (r0 : Value) (r1 : Value) (r9 : Value) (pG : Int) (pI : Int) (h : Hp) : bE :=
 eO (qH pI pG) fun b0 =>
 dL b0
 (kK 3 r9 pI fun v1 =>
 cZ 3 h v1 fun v2 =>
 fH h 87 [(Value.string (ByteArray.mk #[])), (Value.int .i64 (Int.ofNat 0)), (Value.int .i64 (Int.ofNat 0))] fun a3 h3 =>
 jM 3 h3 a3 v2 fun h4 =>
 dG (qQ env h4 22 r0 none (some (Value.int .i64 pI)) none) fun v5 =>
 cZ 3 h4 a3 fun v6 =>
 bB (qM EW r1 [v5, v6] h4) fun v7 h7 =>
 aT .i64 v7 fun i8 =>
 dB (zJ i8 (Int.ofNat 0)) fun b9 =>
 dL b9
 (some (Value.tuple (List.toArray [(Value.int .i64 pI), (Value.int .i64 i8)]), h7))
 (wrap64 (Int.add pI (Int.ofNat 1)) fun i10 =>
 S 1 (AL.v r0 (AL.v r1 (AL.v r9 (AL.i pG (AL.i i10 AL.n))))) h7))
 (S 2 AL.n h)
noncomputable def YJ (S : Sg) (r0 : Value) (r1 : Value) (h : Hp) : bE :=
 jN r0 fun i0 =>
 S 1 (AL.v r0 (AL.v r1 (AL.v r0 (AL.i i0 (AL.i (Int.ofNat 0) AL.n))))) h
noncomputable def aC5 (S : Sg) : Sg := gZ 0 (uV fun r0 => uV fun r1 => uN fun h => YJ S r0 r1 h) (gZ 1 (uV fun r0 => uV fun r1 => uV fun r9 => uI fun pG => uI fun pI => uN fun h => KX S r0 r1 r9 pG pI h) (gZ 2 (uN fun h => aR5 S  h) (pF)))
noncomputable def aYG (args : List Value) (h : Hp) : bE := cB [Kd.v, Kd.v] args fun al => aQ aC5 1000000 0 al h
def aKE : Nat := 2 + (27 - 2)
theorem a8R (S : Sg) (h : Hp) : aR5 S  h = aF (dO env EW (aKE)) (dP env Tryz.f100.results.toList) (collect aR3 aR4 []) 2 S AL.n h := by kernel_rfl
theorem a8S (S : Sg) (r0 : Value) (r1 : Value) (r9 : Value) (pG : Int) (pI : Int) (h : Hp) : KX S r0 r1 r9 pG pI h = aF (dO env EW (aKE)) (dP env Tryz.f100.results.toList) (collect aR3 aR4 []) 1 S (AL.v r0 (AL.v r1 (AL.v r9 (AL.i pG (AL.i pI AL.n))))) h := by kernel_rfl
theorem a8T (S : Sg) (r0 : Value) (r1 : Value) (h : Hp) : YJ S r0 r1 h = aF (dO env EW (aKE)) (dP env Tryz.f100.results.toList) (collect aR3 aR4 []) 0 S (AL.v r0 (AL.v r1 AL.n)) h := by kernel_rfl
theorem t100 (S : Sg) : iA (fun l vs h => aF (dO env EW aKE) (dP env Tryz.f100.results.toList) (collect aR3 aR4 []) l S vs h) (aC5 S) := by
 unfold aC5
 refine iA.cons 0 (fun jT h q e0 => ?_) ?_
 ·obtain ⟨r0, vs1, rfl, e1⟩ := aP e0
  obtain ⟨r1, vs2, rfl, e2⟩ := aP e1
  obtain ⟨rfl, ee⟩ := bC e2
  exact (a8T S r0 r1 h).symm.trans ee
 refine iA.cons 1 (fun jT h q e0 => ?_) ?_
 ·obtain ⟨r0, vs1, rfl, e1⟩ := aP e0
  obtain ⟨r1, vs2, rfl, e2⟩ := aP e1
  obtain ⟨r9, vs3, rfl, e3⟩ := aP e2
  obtain ⟨pG, vs4, rfl, e4⟩ := cO e3
  obtain ⟨pI, vs5, rfl, e5⟩ := cO e4
  obtain ⟨rfl, ee⟩ := bC e5
  exact (a8S S r0 r1 r9 pG pI h).symm.trans ee
 refine iA.cons 2 (fun jT h q e0 => ?_) ?_
 ·
  obtain ⟨rfl, ee⟩ := bC e0
  exact (a8R S  h).symm.trans ee
 exact iA.nil
theorem bQU : ∀ args h v h', aYG args h = some (v, h') → jU (C19) (.call 100 args.toArray h) (.ret v h') := by
 intro args h v h' e
 exact bZ (C := C19) (fn := Tryz.f100) (body := aR3) (np := 2) (A := aR4) (T := aC5) (kinds := [Kd.v, Kd.v]) (by kernel_rfl) (by kernel_rfl) (by kernel_rfl) (by kernel_rfl) (eU fU) (by kernel_rfl) (fun S => t100 S) e
noncomputable def aKF := oI 100 aYG EW
noncomputable def C20 : bP := cfg aKF
theorem bQV : C20.Ok := eX (C := C19) bQT bQU
noncomputable def B54 : Code := (Tryz.f54.body).getD .skip
def A54 : aB := (aB.node (some (0, [(0, Kd.v), (1, Kd.i .i64), (2, Kd.v)])) aB.nil (aB.node none (aB.node none aB.nil (aB.node none (aB.node none aB.nil aB.nil) aB.nil)) (aB.node none aB.nil aB.nil)))
noncomputable def aJA (S : Sg) (r0 : Value) (r1 : Int) (r2 : Value) (h : Hp) : bE :=
 jN r0 fun i0 =>
 eO (qH r1 i0) fun b1 =>
 dL b1
 (some (Value.tuple (List.toArray [(Value.int .i64 (Int.ofNat 0)), (Value.int .i64 (Int.ofNat 3))]), h))
 (bB (iN aYG [r0, r2] h) fun v2 h2 =>
 lM v2 0 fun v3 =>
 aT .i64 v3 fun i4 =>
 lM v2 1 fun v5 =>
 aT .i64 v5 fun i6 =>
 some (Value.tuple (List.toArray [(Value.int .i64 i4), (Value.int .i64 i6)]), h2))
noncomputable def T54 (S : Sg) : Sg := gZ 0 (uV fun r0 => uI fun r1 => uV fun r2 => uN fun h => aJA S r0 r1 r2 h) (pF)
noncomputable def F54 (args : List Value) (h : Hp) : bE := cB [Kd.v, Kd.i .i64, Kd.v] args fun al => aQ T54 1000000 0 al h
def bGD : Nat := 3 + (17 - 3)
theorem bGE (S : Sg) (r0 : Value) (r1 : Int) (r2 : Value) (h : Hp) : aJA S r0 r1 r2 h = aF (dO env aKF (bGD)) (dP env Tryz.f54.results.toList) (collect B54 A54 []) 0 S (AL.v r0 (AL.i r1 (AL.v r2 AL.n))) h := by kernel_rfl
theorem t54 (S : Sg) : iA (fun l vs h => aF (dO env aKF bGD) (dP env Tryz.f54.results.toList) (collect B54 A54 []) l S vs h) (T54 S) := by
 unfold T54
 refine iA.cons 0 (fun jT h q e0 => ?_) ?_
 ·obtain ⟨r0, vs1, rfl, e1⟩ := aP e0
  obtain ⟨r1, vs2, rfl, e2⟩ := cO e1
  obtain ⟨r2, vs3, rfl, e3⟩ := aP e2
  obtain ⟨rfl, ee⟩ := bC e3
  exact (bGE S r0 r1 r2 h).symm.trans ee
 exact iA.nil
theorem r54 : ∀ args h v h', F54 args h = some (v, h') → jU (C20) (.call 54 args.toArray h) (.ret v h') := by
 intro args h v h' e
 exact bZ (C := C20) (fn := Tryz.f54) (body := B54) (np := 3) (A := A54) (T := T54) (kinds := [Kd.v, Kd.i .i64, Kd.v]) (by kernel_rfl) (by kernel_rfl) (by kernel_rfl) (by kernel_rfl) (eU fU) (by kernel_rfl) (fun S => t54 S) e
noncomputable def E5 := oI 54 F54 aKF
noncomputable def C21 : bP := cfg E5
theorem bQY : C21.Ok := eX (C := C20) bQV r54
noncomputable def aR6 : Code := (Tryz.f104.body).getD .skip
def aR7 : aB := (aB.node (some (0, [(0, Kd.v), (1, Kd.v)])) aB.nil (aB.node none (aB.node none aB.nil (aB.node none (aB.node (some (1, [(0, Kd.v), (1, Kd.v), (9, Kd.v), (10, Kd.i .i64), (11, Kd.i .i64)])) (aB.node none aB.nil (aB.node none (aB.node none aB.nil aB.nil) (aB.node none (aB.node none (aB.node none aB.nil (aB.node none aB.nil (aB.node none aB.nil (aB.node none (aB.node none aB.nil aB.nil) aB.nil)))) aB.nil) aB.nil))) aB.nil) aB.nil)) (aB.node (some (2, [])) aB.nil aB.nil)))
noncomputable def aR8 (S : Sg) (h : Hp) : bE :=
 some (Value.tuple (List.toArray [(Value.int .i64 (Int.ofNat 0)), (Value.int .i64 (Int.ofNat 0))]), h)
noncomputable def KZ (S : Sg) (r0 : Value) (r1 : Value) (r9 : Value) (pG : Int) (pI : Int) (h : Hp) : bE :=
 eO (qH pI pG) fun b0 =>
 dL b0
 (kK 5 r9 pI fun v1 =>
 cZ 5 h v1 fun v2 =>
 fH h 67 [(Value.slice none 0 0), (Value.int .i64 (Int.ofNat 0)), (Value.int .i64 (Int.ofNat 0)), (Value.slice none 0 0), (Value.int .i64 (Int.ofNat 0))] fun a3 h3 =>
 jM 5 h3 a3 v2 fun h4 =>
 dG (qQ env h4 23 r0 none (some (Value.int .i64 pI)) none) fun v5 =>
 cZ 5 h4 a3 fun v6 =>
 bB (qM E5 r1 [v5, v6] h4) fun v7 h7 =>
 aT .i64 v7 fun i8 =>
 dB (zJ i8 (Int.ofNat 0)) fun b9 =>
 dL b9
 (some (Value.tuple (List.toArray [(Value.int .i64 pI), (Value.int .i64 i8)]), h7))
 (wrap64 (Int.add pI (Int.ofNat 1)) fun i10 =>
 S 1 (AL.v r0 (AL.v r1 (AL.v r9 (AL.i pG (AL.i i10 AL.n))))) h7))
 (S 2 AL.n h)
noncomputable def YM (S : Sg) (r0 : Value) (r1 : Value) (h : Hp) : bE :=
 jN r0 fun i0 =>
 S 1 (AL.v r0 (AL.v r1 (AL.v r0 (AL.i i0 (AL.i (Int.ofNat 0) AL.n))))) h
noncomputable def aC9 (S : Sg) : Sg := gZ 0 (uV fun r0 => uV fun r1 => uN fun h => YM S r0 r1 h) (gZ 1 (uV fun r0 => uV fun r1 => uV fun r9 => uI fun pG => uI fun pI => uN fun h => KZ S r0 r1 r9 pG pI h) (gZ 2 (uN fun h => aR8 S  h) (pF)))
noncomputable def aYI (args : List Value) (h : Hp) : bE := cB [Kd.v, Kd.v] args fun al => aQ aC9 1000000 0 al h
def aKG : Nat := 2 + (27 - 2)
theorem a8U (S : Sg) (h : Hp) : aR8 S  h = aF (dO env E5 (aKG)) (dP env Tryz.f104.results.toList) (collect aR6 aR7 []) 2 S AL.n h := by kernel_rfl
theorem a8V (S : Sg) (r0 : Value) (r1 : Value) (r9 : Value) (pG : Int) (pI : Int) (h : Hp) : KZ S r0 r1 r9 pG pI h = aF (dO env E5 (aKG)) (dP env Tryz.f104.results.toList) (collect aR6 aR7 []) 1 S (AL.v r0 (AL.v r1 (AL.v r9 (AL.i pG (AL.i pI AL.n))))) h := by kernel_rfl
theorem a8W (S : Sg) (r0 : Value) (r1 : Value) (h : Hp) : YM S r0 r1 h = aF (dO env E5 (aKG)) (dP env Tryz.f104.results.toList) (collect aR6 aR7 []) 0 S (AL.v r0 (AL.v r1 AL.n)) h := by kernel_rfl
theorem t104 (S : Sg) : iA (fun l vs h => aF (dO env E5 aKG) (dP env Tryz.f104.results.toList) (collect aR6 aR7 []) l S vs h) (aC9 S) := by
 unfold aC9
 refine iA.cons 0 (fun jT h q e0 => ?_) ?_
 ·obtain ⟨r0, vs1, rfl, e1⟩ := aP e0
  obtain ⟨r1, vs2, rfl, e2⟩ := aP e1
  obtain ⟨rfl, ee⟩ := bC e2
  exact (a8W S r0 r1 h).symm.trans ee
 refine iA.cons 1 (fun jT h q e0 => ?_) ?_
 ·obtain ⟨r0, vs1, rfl, e1⟩ := aP e0
  obtain ⟨r1, vs2, rfl, e2⟩ := aP e1
  obtain ⟨r9, vs3, rfl, e3⟩ := aP e2
  obtain ⟨pG, vs4, rfl, e4⟩ := cO e3
  obtain ⟨pI, vs5, rfl, e5⟩ := cO e4
  obtain ⟨rfl, ee⟩ := bC e5
  exact (a8V S r0 r1 r9 pG pI h).symm.trans ee
 refine iA.cons 2 (fun jT h q e0 => ?_) ?_
 ·
  obtain ⟨rfl, ee⟩ := bC e0
  exact (a8U S  h).symm.trans ee
 exact iA.nil
theorem bQZ : ∀ args h v h', aYI args h = some (v, h') → jU (C21) (.call 104 args.toArray h) (.ret v h') := by
 intro args h v h' e
 exact bZ (C := C21) (fn := Tryz.f104) (body := aR6) (np := 2) (A := aR7) (T := aC9) (kinds := [Kd.v, Kd.v]) (by kernel_rfl) (by kernel_rfl) (by kernel_rfl) (by kernel_rfl) (eU fU) (by kernel_rfl) (fun S => t104 S) e
noncomputable def aKH := oI 104 aYI E5
noncomputable def C22 : bP := cfg aKH
theorem bQ0 : C22.Ok := eX (C := C21) bQY bQZ
noncomputable def B56 : Code := (Tryz.f56.body).getD .skip
def A56 : aB := (aB.node (some (0, [(0, Kd.v), (1, Kd.i .i64), (2, Kd.v)])) aB.nil (aB.node none (aB.node none aB.nil (aB.node none (aB.node none aB.nil aB.nil) aB.nil)) (aB.node none aB.nil aB.nil)))
noncomputable def aJB (S : Sg) (r0 : Value) (r1 : Int) (r2 : Value) (h : Hp) : bE :=
 jN r0 fun i0 =>
 eO (qH r1 i0) fun b1 =>
 dL b1
 (some (Value.tuple (List.toArray [(Value.int .i64 (Int.ofNat 0)), (Value.int .i64 (Int.ofNat 3))]), h))
 (bB (iN aYI [r0, r2] h) fun v2 h2 =>
 lM v2 0 fun v3 =>
 aT .i64 v3 fun i4 =>
 lM v2 1 fun v5 =>
 aT .i64 v5 fun i6 =>
 some (Value.tuple (List.toArray [(Value.int .i64 i4), (Value.int .i64 i6)]), h2))
noncomputable def T56 (S : Sg) : Sg := gZ 0 (uV fun r0 => uI fun r1 => uV fun r2 => uN fun h => aJB S r0 r1 r2 h) (pF)
noncomputable def F56 (args : List Value) (h : Hp) : bE := cB [Kd.v, Kd.i .i64, Kd.v] args fun al => aQ T56 1000000 0 al h
def bGF : Nat := 3 + (17 - 3)
theorem bGG (S : Sg) (r0 : Value) (r1 : Int) (r2 : Value) (h : Hp) : aJB S r0 r1 r2 h = aF (dO env aKH (bGF)) (dP env Tryz.f56.results.toList) (collect B56 A56 []) 0 S (AL.v r0 (AL.i r1 (AL.v r2 AL.n))) h := by kernel_rfl
theorem t56 (S : Sg) : iA (fun l vs h => aF (dO env aKH bGF) (dP env Tryz.f56.results.toList) (collect B56 A56 []) l S vs h) (T56 S) := by
 unfold T56
 refine iA.cons 0 (fun jT h q e0 => ?_) ?_
 ·obtain ⟨r0, vs1, rfl, e1⟩ := aP e0
  obtain ⟨r1, vs2, rfl, e2⟩ := cO e1
  obtain ⟨r2, vs3, rfl, e3⟩ := aP e2
  obtain ⟨rfl, ee⟩ := bC e3
  exact (bGG S r0 r1 r2 h).symm.trans ee
 exact iA.nil
theorem r56 : ∀ args h v h', F56 args h = some (v, h') → jU (C22) (.call 56 args.toArray h) (.ret v h') := by
 intro args h v h' e
 exact bZ (C := C22) (fn := Tryz.f56) (body := B56) (np := 3) (A := A56) (T := T56) (kinds := [Kd.v, Kd.i .i64, Kd.v]) (by kernel_rfl) (by kernel_rfl) (by kernel_rfl) (by kernel_rfl) (eU fU) (by kernel_rfl) (fun S => t56 S) e
noncomputable def aKI := oI 56 F56 aKH
noncomputable def C23 : bP := cfg aKI
theorem bQ3 : C23.Ok := eX (C := C22) bQ0 r56
noncomputable def B13 : Code := (Tryz.f13.body).getD .skip
def A13 : aB := (aB.node (some (0, [(0, Kd.v)])) aB.nil (aB.node none (aB.node none aB.nil (aB.node none aB.nil (aB.node none (aB.node none aB.nil aB.nil) aB.nil))) (aB.node none (aB.node none aB.nil (aB.node none aB.nil (aB.node none (aB.node none aB.nil aB.nil) aB.nil))) (aB.node none aB.nil (aB.node none (aB.node none aB.nil (aB.node none (aB.node none aB.nil aB.nil) aB.nil)) (aB.node none aB.nil aB.nil))))))
noncomputable def aJI (S : Sg) (r0 : Value) (h : Hp) : bE :=
 fH h 25 (Array.toList (Value.cells r0)) fun a0 h0 =>
 aR 0 a0 fun v1 =>
 bJ h0 v1 fun v2 =>
 aT .i64 v2 fun i3 =>
 bB (iN F53 [(Value.int .i64 i3)] h0) fun v4 h4 =>
 aT .i64 v4 fun i5 =>
 dB (zJ i5 (Int.ofNat 0)) fun b6 =>
 dL b6
 (some (Value.tuple (List.toArray [(Value.int .i64 (Int.ofNat 1)), (Value.int .i64 (Int.ofNat 0)), (Value.int .i64 i5)]), h4))
 (aR 1 a0 fun v7 =>
 bJ h4 v7 fun v8 =>
 bB (iN F54 [v8, (Value.int .i64 (Int.ofNat 3)), (Value.func (.func 55) #[] #[])] h4) fun v9 h9 =>
 lM v9 0 fun v10 =>
 aT .i64 v10 fun i11 =>
 lM v9 1 fun v12 =>
 aT .i64 v12 fun i13 =>
 dB (zJ i13 (Int.ofNat 0)) fun b14 =>
 dL b14
 (some (Value.tuple (List.toArray [(Value.int .i64 (Int.ofNat 2)), (Value.int .i64 i11), (Value.int .i64 i13)]), h9))
 (aR 2 a0 fun v15 =>
 bJ h9 v15 fun v16 =>
 bB (iN F56 [v16, (Value.int .i64 (Int.ofNat 4)), (Value.func (.func 57) (List.toArray []) (List.toArray [a0]))] h9) fun v17 h17 =>
 lM v17 0 fun v18 =>
 aT .i64 v18 fun i19 =>
 lM v17 1 fun v20 =>
 aT .i64 v20 fun i21 =>
 dB (zJ i21 (Int.ofNat 0)) fun b22 =>
 dL b22
 (some (Value.tuple (List.toArray [(Value.int .i64 (Int.ofNat 3)), (Value.int .i64 i19), (Value.int .i64 i21)]), h17))
 (some (Value.tuple (List.toArray [(Value.int .i64 (Int.ofNat 0)), (Value.int .i64 (Int.ofNat 0)), (Value.int .i64 (Int.ofNat 0))]), h17))))
noncomputable def T13 (S : Sg) : Sg := gZ 0 (uV fun r0 => uN fun h => aJI S r0 h) (pF)
noncomputable def F13 (args : List Value) (h : Hp) : bE := cB [Kd.v] args fun al => aQ T13 1000000 0 al h
def bGH : Nat := 1 + (35 - 1)
theorem bGI (S : Sg) (r0 : Value) (h : Hp) : aJI S r0 h = aF (dO env aKI (bGH)) (dP env Tryz.f13.results.toList) (collect B13 A13 []) 0 S (AL.v r0 AL.n) h := by kernel_rfl
theorem t13 (S : Sg) : iA (fun l vs h => aF (dO env aKI bGH) (dP env Tryz.f13.results.toList) (collect B13 A13 []) l S vs h) (T13 S) := by
 unfold T13
 refine iA.cons 0 (fun jT h q e0 => ?_) ?_
 ·obtain ⟨r0, vs1, rfl, e1⟩ := aP e0
  obtain ⟨rfl, ee⟩ := bC e1
  exact (bGI S r0 h).symm.trans ee
 exact iA.nil
theorem r13 : ∀ args h v h', F13 args h = some (v, h') → jU (C23) (.call 13 args.toArray h) (.ret v h') := by
 intro args h v h' e
 exact bZ (C := C23) (fn := Tryz.f13) (body := B13) (np := 1) (A := A13) (T := T13) (kinds := [Kd.v]) (by kernel_rfl) (by kernel_rfl) (by kernel_rfl) (by kernel_rfl) (eU fU) (by kernel_rfl) (fun S => t13 S) e
noncomputable def aKJ := oI 13 F13 aKI
noncomputable def C24 : bP := cfg aKJ
theorem bQ6 : C24.Ok := eX (C := C23) bQ3 r13
noncomputable def B62 : Code := (Tryz.f62.body).getD .skip
def A62 : aB := (aB.node (some (0, [(0, Kd.v)])) aB.nil (aB.node none (aB.node none aB.nil (aB.node none aB.nil (aB.node none (aB.node none aB.nil aB.nil) aB.nil))) (aB.node none aB.nil aB.nil)))
noncomputable def aJK (S : Sg) (r0 : Value) (h : Hp) : bE :=
 fH h 25 (Array.toList (Value.cells r0)) fun a0 h0 =>
 fH h0 96 [(Value.int .i64 (Int.ofNat 0)), (Value.slice none 0 0), (Value.slice none 0 0)] fun a1 h1 =>
 cZ 3 h1 a0 fun v2 =>
 bB (iN F13 [v2] h1) fun v3 h3 =>
 lM v3 0 fun v4 =>
 aT .i64 v4 fun i5 =>
 lM v3 1 fun v6 =>
 aT .i64 v6 fun i7 =>
 lM v3 2 fun v8 =>
 aT .i64 v8 fun i9 =>
 dB (zJ i9 (Int.ofNat 0)) fun b10 =>
 dL b10
 (dG (lK env 96 (List.toArray [])) fun v11 =>
 jM 3 h3 a1 v11 fun h12 =>
 cZ 3 h12 a1 fun v13 => some (Value.tuple (List.toArray [v13, (Value.int .i64 i9)]), h12))
 (cZ 3 h3 a0 fun v14 =>
 dG (lK env 96 (List.toArray [(0, v14)])) fun v15 =>
 jM 3 h3 a1 v15 fun h16 =>
 cZ 3 h16 a1 fun v17 => some (Value.tuple (List.toArray [v17, (Value.int .i64 (Int.ofNat 0))]), h16))
noncomputable def T62 (S : Sg) : Sg := gZ 0 (uV fun r0 => uN fun h => aJK S r0 h) (pF)
noncomputable def F62 (args : List Value) (h : Hp) : bE := cB [Kd.v] args fun al => aQ T62 1000000 0 al h
def bGJ : Nat := 1 + (19 - 1)
theorem bGK (S : Sg) (r0 : Value) (h : Hp) : aJK S r0 h = aF (dO env aKJ (bGJ)) (dP env Tryz.f62.results.toList) (collect B62 A62 []) 0 S (AL.v r0 AL.n) h := by kernel_rfl
theorem t62 (S : Sg) : iA (fun l vs h => aF (dO env aKJ bGJ) (dP env Tryz.f62.results.toList) (collect B62 A62 []) l S vs h) (T62 S) := by
 unfold T62
 refine iA.cons 0 (fun jT h q e0 => ?_) ?_
 ·obtain ⟨r0, vs1, rfl, e1⟩ := aP e0
  obtain ⟨rfl, ee⟩ := bC e1
  exact (bGK S r0 h).symm.trans ee
 exact iA.nil
theorem r62 : ∀ args h v h', F62 args h = some (v, h') → jU (C24) (.call 62 args.toArray h) (.ret v h') := by
 intro args h v h' e
 exact bZ (C := C24) (fn := Tryz.f62) (body := B62) (np := 1) (A := A62) (T := T62) (kinds := [Kd.v]) (by kernel_rfl) (by kernel_rfl) (by kernel_rfl) (by kernel_rfl) (eU fU) (by kernel_rfl) (fun S => t62 S) e
noncomputable def a2C := oI 62 F62 aKJ
noncomputable def C25 : bP := cfg a2C
theorem bQ9 : C25.Ok := eX (C := C24) bQ6 r62
noncomputable def a8X : Code := (Tryz.f111.body).getD .skip
noncomputable def a8Y : G.aB (List KI) := (G.aB.node (some (0, [KI.reg 0 (Kd.v)])) G.aB.nil (G.aB.node none G.aB.nil G.aB.nil))
noncomputable def YT (h : Hp) (S : Nat → aH → Option Value) (r0 : Value) : Option Value :=
 jC (Array.toList (Value.cells r0)) fun c0 =>
 qD c0 0 fun v1 =>
 aT .i64 v1 fun i2 =>
 mH .i64 (lD env .quo 3 (Value.int .i64 i2) (Value.int .i64 (Int.ofNat 2))) fun i3 =>
 some (Value.int .i64 i3)
noncomputable def aQ3 (h : Hp) (S : Nat → aH → Option Value) : Nat → aH → Option Value := fI 0 (wV fun r0 => wN (YT h S r0)) (lG)
noncomputable def aN2 (args : List Value) (h : Hp) : Option Value := plainO (dK [Kd.v] args fun al => G.aQ (aQ3 h) 1000000 0 al)
def a2D : Nat := 1 + (7 - 1)
theorem a8Z (h : Hp) (S : Nat → aH → Option Value) (r0 : Value) : YT h S r0 = G.aF bL aN eY (fA env pf6 a2D h) (fF env Tryz.f111.results.toList) (G.collect a8X a8Y []) 0 S (aH.v r0 aH.n) := by kernel_rfl
theorem t111 (h : Hp) (S : Nat → aH → Option Value) : dD (fun l al => G.aF bL aN eY (fA env pf6 a2D h) (fF env Tryz.f111.results.toList) (G.collect a8X a8Y []) l S al) (aQ3 h S) := by
 unfold aQ3
 refine dD.cons 0 (fun jT q e0 => ?_) ?_
 ·obtain ⟨r0, vs1, rfl, e1⟩ := bY e0
  obtain ⟨rfl, ee⟩ := bT e1
  exact (a8Z h S r0).symm.trans ee
 exact dD.nil
theorem bGL : bO Tryz.prog 111 aN2 := dA (C := C0) ok0 (pf := pf6) a2B (fn := Tryz.f111) (body := a8X) (kinds := [Kd.v]) (A := a8Y) (T := aQ3) (by kernel_rfl) (by kernel_rfl) (by kernel_rfl) (by kernel_rfl) (fun h S => t111 h S)
noncomputable def pf7 : PF := JI 111 aN2 pf6
theorem a2E : dZ Tryz.prog pf7 := jF bGL a2B
noncomputable def a2F := o9 111 aN2 a2C
noncomputable def C26 : bP := cfg a2F
theorem bRA : C26.Ok := fJ (C := C25) bQ9 bGL
noncomputable def B64 : Code := (Tryz.f64.body).getD .skip
noncomputable def A64 : G.aB (List KI) := (G.aB.node (some (0, [KI.reg 0 (Kd.v), KI.reg 1 (Kd.i .i64)])) G.aB.nil (G.aB.node none G.aB.nil G.aB.nil))
noncomputable def aJL (h : Hp) (S : Nat → aH → Option Value) (r0 : Value) (r1 : Int) : Option Value :=
 jC (Array.toList (Value.cells r0)) fun c0 =>
 mH .i64 (lD env .quo 3 (Value.int .i64 r1) (Value.int .i64 (Int.ofNat 13))) fun i1 =>
 wrap64 (Int.sub r1 i1) fun i2 =>
 nT c0 0 fun d3 => nH d3 3 fun l3 =>
 dG (aN2 [(Value.agg (Array.mk l3))] h) fun v4 =>
 aT .i64 v4 fun i5 =>
 wrap64 (Int.mul i2 i5) fun i6 =>
 some (Value.int .i64 i6)
noncomputable def T64 (h : Hp) (S : Nat → aH → Option Value) : Nat → aH → Option Value := fI 0 (wV fun r0 => wI fun r1 => wN (aJL h S r0 r1)) (lG)
noncomputable def F64 (args : List Value) (h : Hp) : Option Value := plainO (dK [Kd.v, Kd.i .i64] args fun al => G.aQ (T64 h) 1000000 0 al)
def bGN : Nat := 2 + (12 - 2)
theorem bGO (h : Hp) (S : Nat → aH → Option Value) (r0 : Value) (r1 : Int) : aJL h S r0 r1 = G.aF bL aN eY (fA env pf7 bGN h) (fF env Tryz.f64.results.toList) (G.collect B64 A64 []) 0 S (aH.v r0 (aH.i r1 aH.n)) := by kernel_rfl
theorem t64 (h : Hp) (S : Nat → aH → Option Value) : dD (fun l al => G.aF bL aN eY (fA env pf7 bGN h) (fF env Tryz.f64.results.toList) (G.collect B64 A64 []) l S al) (T64 h S) := by
 unfold T64
 refine dD.cons 0 (fun jT q e0 => ?_) ?_
 ·obtain ⟨r0, vs1, rfl, e1⟩ := bY e0
  obtain ⟨r1, vs2, rfl, e2⟩ := bA e1
  obtain ⟨rfl, ee⟩ := bT e2
  exact (bGO h S r0 r1).symm.trans ee
 exact dD.nil
theorem r64 : bO Tryz.prog 64 F64 := dA (C := C0) ok0 (pf := pf7) a2E (fn := Tryz.f64) (body := B64) (kinds := [Kd.v, Kd.i .i64]) (A := A64) (T := T64) (by kernel_rfl) (by kernel_rfl) (by kernel_rfl) (by kernel_rfl) (fun h S => t64 h S)
noncomputable def pf8 : PF := JI 64 F64 pf7
theorem a2G : dZ Tryz.prog pf8 := jF r64 a2E
noncomputable def aKK := o9 64 F64 a2F
noncomputable def C27 : bP := cfg aKK
theorem bRD : C27.Ok := fJ (C := C26) bRA r64
noncomputable def B15 : Code := (Tryz.f15.body).getD .skip
def A15 : aB := (aB.node (some (0, [(0, Kd.v), (1, Kd.i .i64)])) aB.nil (aB.node none aB.nil (aB.node none (aB.node none aB.nil (aB.node none (aB.node none aB.nil aB.nil) aB.nil)) (aB.node none (aB.node none aB.nil (aB.node none (aB.node none aB.nil aB.nil) aB.nil)) (aB.node none aB.nil aB.nil)))))
noncomputable def aJM (S : Sg) (r0 : Value) (r1 : Int) (h : Hp) : bE :=
 fH h 25 (Array.toList (Value.cells r0)) fun a0 h0 =>
 cZ 3 h0 a0 fun v1 =>
 bB (iN F62 [v1] h0) fun v2 h2 =>
 lM v2 0 fun v3 =>
 lM v2 1 fun v4 =>
 aT .i64 v4 fun i5 =>
 fH h2 96 [(Value.int .i64 (Int.ofNat 0)), (Value.slice none 0 0), (Value.slice none 0 0)] fun a6 h6 =>
 jM 3 h6 a6 v3 fun h7 =>
 dB (zJ i5 (Int.ofNat 0)) fun b8 =>
 dL b8
 (some (Value.tuple (List.toArray [(Value.int .i64 (Int.ofNat 0)), (Value.int .i64 i5)]), h7))
 (bB (bQ env h7 40 1 (List.toArray [(0, (Value.int .i64 r1))])) fun v9 h9 =>
 bB (dG (F63 [(Value.int .i64 (Int.ofNat 0)), (Value.int .i64 (Int.ofNat 60)), v9] h9) fun v => some (v, h9)) fun v10 h10 =>
 eB v10 fun b11 =>
 dB b11 fun b12 =>
 dL b12
 (some (Value.tuple (List.toArray [(Value.int .i64 (Int.ofNat 0)), (Value.int .i64 (Int.ofNat 7))]), h10))
 (cZ 3 h10 a6 fun v13 =>
 bB (dG (F64 [v13, (Value.int .i64 r1)] h10) fun v => some (v, h10)) fun v14 h14 =>
 aT .i64 v14 fun i15 =>
 some (Value.tuple (List.toArray [(Value.int .i64 i15), (Value.int .i64 (Int.ofNat 0))]), h14)))
noncomputable def T15 (S : Sg) : Sg := gZ 0 (uV fun r0 => uI fun r1 => uN fun h => aJM S r0 r1 h) (pF)
noncomputable def F15 (args : List Value) (h : Hp) : bE := cB [Kd.v, Kd.i .i64] args fun al => aQ T15 1000000 0 al h
def bGP : Nat := 2 + (23 - 2)
theorem bGQ (S : Sg) (r0 : Value) (r1 : Int) (h : Hp) : aJM S r0 r1 h = aF (dO env aKK (bGP)) (dP env Tryz.f15.results.toList) (collect B15 A15 []) 0 S (AL.v r0 (AL.i r1 AL.n)) h := by kernel_rfl
theorem t15 (S : Sg) : iA (fun l vs h => aF (dO env aKK bGP) (dP env Tryz.f15.results.toList) (collect B15 A15 []) l S vs h) (T15 S) := by
 unfold T15
 refine iA.cons 0 (fun jT h q e0 => ?_) ?_
 ·obtain ⟨r0, vs1, rfl, e1⟩ := aP e0
  obtain ⟨r1, vs2, rfl, e2⟩ := cO e1
  obtain ⟨rfl, ee⟩ := bC e2
  exact (bGQ S r0 r1 h).symm.trans ee
 exact iA.nil
theorem r15 : ∀ args h v h', F15 args h = some (v, h') → jU (C27) (.call 15 args.toArray h) (.ret v h') := by
 intro args h v h' e
 exact bZ (C := C27) (fn := Tryz.f15) (body := B15) (np := 2) (A := A15) (T := T15) (kinds := [Kd.v, Kd.i .i64]) (by kernel_rfl) (by kernel_rfl) (by kernel_rfl) (by kernel_rfl) (eU fU) (by kernel_rfl) (fun S => t15 S) e
noncomputable def a2I := oI 15 F15 aKK
noncomputable def C28 : bP := cfg a2I
theorem bRG : C28.Ok := eX (C := C27) bRD r15
noncomputable def B67 : Code := (Tryz.f67.body).getD .skip
noncomputable def A67 : G.aB (List KI) := (G.aB.node (some (0, [KI.reg 0 (Kd.v)])) G.aB.nil (G.aB.node none G.aB.nil (G.aB.node none (G.aB.node none G.aB.nil (G.aB.node none (G.aB.node (some (1, [KI.loc 1 1, KI.reg 3 (Kd.i .i64), KI.reg 8 (Kd.v), KI.reg 9 (Kd.i .i64), KI.reg 10 (Kd.i .i64), KI.list 1])) (G.aB.node none G.aB.nil (G.aB.node none (G.aB.node none G.aB.nil G.aB.nil) (G.aB.node none (G.aB.node none (G.aB.node none G.aB.nil G.aB.nil) G.aB.nil) G.aB.nil))) G.aB.nil) G.aB.nil)) (G.aB.node (some (2, [KI.reg 3 (Kd.i .i64)])) G.aB.nil G.aB.nil))))
noncomputable def a2J (h : Hp) (S : Nat → aH → Option Value) (r3 : Int) : Option Value :=
 some (Value.int .i64 r3)
noncomputable def VM (h : Hp) (S : Nat → aH → Option Value) (r3 : Int) (r8 : Value) (r9 : Int) (pG : Int) (c1 : List Value) : Option Value :=
 eO (qH pG r9) fun b0 =>
 dL b0
 (kK 2 r8 pG fun v1 =>
 cZ 2 h v1 fun v2 =>
 aGM v2 fun l3 => dL (Nat.beq (J7 l3) 2) (M7 0 l3 [(Value.string (ByteArray.mk #[])), (Value.int .i64 (Int.ofNat 0))] fun c3 =>
 nT c1 0 fun d4 => nH d4 3 fun l4 =>
 qD c3 1 fun v5 =>
 aT .i64 v5 fun i6 =>
 dG (F64 [(Value.agg (Array.mk l4)), (Value.int .i64 i6)] h) fun v7 =>
 aT .i64 v7 fun i8 =>
 wrap64 (Int.add r3 i8) fun i9 =>
 wrap64 (Int.add pG (Int.ofNat 1)) fun i10 =>
 S 1 (aH.i i9 (aH.v r8 (aH.i r9 (aH.i i10 (aH.l c1 aH.n)))))) none)
 (S 2 (aH.i r3 aH.n))
noncomputable def aJN (h : Hp) (S : Nat → aH → Option Value) (r0 : Value) : Option Value :=
 jC (Array.toList (Value.cells r0)) fun c0 =>
 qD c0 3 fun v1 =>
 jN v1 fun i2 =>
 S 1 (aH.i (Int.ofNat 0) (aH.v v1 (aH.i i2 (aH.i (Int.ofNat 0) (aH.l c0 aH.n)))))
noncomputable def T67 (h : Hp) (S : Nat → aH → Option Value) : Nat → aH → Option Value := fI 0 (wV fun r0 => wN (aJN h S r0)) (fI 1 (wI fun r3 => wV fun r8 => wI fun r9 => wI fun pG => wL fun c1 => wN (VM h S r3 r8 r9 pG c1)) (fI 2 (wI fun r3 => wN (a2J h S r3)) (lG)))
noncomputable def F67 (args : List Value) (h : Hp) : Option Value := plainO (dK [Kd.v] args fun al => G.aQ (T67 h) 1000000 0 al)
def aYX : Nat := 1 + (23 - 1)
theorem bGT (h : Hp) (S : Nat → aH → Option Value) (r3 : Int) : a2J h S r3 = G.aF bL aN eY (fA env pf8 aYX h) (fF env Tryz.f67.results.toList) (G.collect B67 A67 []) 2 S (aH.i r3 aH.n) := by kernel_rfl
theorem bGU (h : Hp) (S : Nat → aH → Option Value) (r3 : Int) (r8 : Value) (r9 : Int) (pG : Int) (c1 : List Value) : VM h S r3 r8 r9 pG c1 = G.aF bL aN eY (fA env pf8 aYX h) (fF env Tryz.f67.results.toList) (G.collect B67 A67 []) 1 S (aH.i r3 (aH.v r8 (aH.i r9 (aH.i pG (aH.l c1 aH.n))))) := by kernel_rfl
theorem bGV (h : Hp) (S : Nat → aH → Option Value) (r0 : Value) : aJN h S r0 = G.aF bL aN eY (fA env pf8 aYX h) (fF env Tryz.f67.results.toList) (G.collect B67 A67 []) 0 S (aH.v r0 aH.n) := by kernel_rfl
theorem t67 (h : Hp) (S : Nat → aH → Option Value) : dD (fun l al => G.aF bL aN eY (fA env pf8 aYX h) (fF env Tryz.f67.results.toList) (G.collect B67 A67 []) l S al) (T67 h S) := by
 unfold T67
 refine dD.cons 0 (fun jT q e0 => ?_) ?_
 ·obtain ⟨r0, vs1, rfl, e1⟩ := bY e0
  obtain ⟨rfl, ee⟩ := bT e1
  exact (bGV h S r0).symm.trans ee
 refine dD.cons 1 (fun jT q e0 => ?_) ?_
 ·obtain ⟨r3, vs1, rfl, e1⟩ := bA e0
  obtain ⟨r8, vs2, rfl, e2⟩ := bY e1
  obtain ⟨r9, vs3, rfl, e3⟩ := bA e2
  obtain ⟨pG, vs4, rfl, e4⟩ := bA e3
  obtain ⟨c1, vs5, rfl, e5⟩ := aI6 e4
  obtain ⟨rfl, ee⟩ := bT e5
  exact (bGU h S r3 r8 r9 pG c1).symm.trans ee
 refine dD.cons 2 (fun jT q e0 => ?_) ?_
 ·obtain ⟨r3, vs1, rfl, e1⟩ := bA e0
  obtain ⟨rfl, ee⟩ := bT e1
  exact (bGT h S r3).symm.trans ee
 exact dD.nil
theorem r67 : bO Tryz.prog 67 F67 := dA (C := C0) ok0 (pf := pf8) a2G (fn := Tryz.f67) (body := B67) (kinds := [Kd.v]) (A := A67) (T := T67) (by kernel_rfl) (by kernel_rfl) (by kernel_rfl) (by kernel_rfl) (fun h S => t67 h S)
noncomputable def pf9 : PF := JI 67 F67 pf8
theorem a2K : dZ Tryz.prog pf9 := jF r67 a2G
noncomputable def a2L := o9 67 F67 a2I
noncomputable def C29 : bP := cfg a2L
theorem bRH : C29.Ok := fJ (C := C28) bRG r67
noncomputable def aR9 : Code := (Tryz.f124.body).getD .skip
noncomputable def aSA : G.aB (List KI) := (G.aB.node (some (0, [KI.reg 0 (Kd.v), KI.reg 1 (Kd.v), KI.reg 2 (Kd.i .i64)])) G.aB.nil (G.aB.node none G.aB.nil (G.aB.node none (G.aB.node none G.aB.nil (G.aB.node none (G.aB.node (some (1, [KI.loc 3 3, KI.loc 4 4, KI.reg 7 (Kd.i .i64), KI.reg 8 (Kd.i .i64), KI.cells 3 [Kd.i .i64, Kd.v, Kd.v], KI.cells 4 [Kd.i .i64, Kd.i .i64, Kd.i .i64]])) (G.aB.node none (G.aB.node none G.aB.nil (G.aB.node none G.aB.nil G.aB.nil)) (G.aB.node none (G.aB.node none G.aB.nil G.aB.nil) G.aB.nil)) G.aB.nil) G.aB.nil)) (G.aB.node (some (2, [KI.reg 7 (Kd.i .i64)])) G.aB.nil G.aB.nil))))
noncomputable def aSB (h : Hp) (S : Nat → aH → Option Value) (r7 : Int) : Option Value :=
 some (Value.int .i64 r7)
noncomputable def aSC (h : Hp) (S : Nat → aH → Option Value) (r7 : Int) (r8 : Int) (zR : Int) (xN : Value) (zS : Value) (qJ : Int) (qK : Int) (qL : Int) : Option Value :=
 jN xN fun i0 =>
 eO (qH r8 i0) fun b1 =>
 dL b1
 (SX r8 (fun n2 => dL (Nat.ble (Nat.succ n2) 3) (fQ (Nat.add 0 (Nat.mul n2 1)) fun o2 =>
 qD [(Value.int .i64 qJ), (Value.int .i64 qK), (Value.int .i64 qL)] o2 fun v3 =>
 aT .i64 v3 fun i4 =>
 kK 3 xN r8 fun v5 =>
 aR 1 v5 fun v6 =>
 bJ h v6 fun v7 =>
 aT .i64 v7 fun i8 =>
 wrap64 (Int.mul i4 i8) fun i9 =>
 wrap64 (Int.add r7 i9) fun i10 =>
 wrap64 (Int.add r8 (Int.ofNat 1)) fun i11 =>
 S 1 (aH.i i10 (aH.i i11 (aH.i zR (aH.v xN (aH.v zS (aH.i qJ (aH.i qK (aH.i qL aH.n))))))))) none) (fun _ => none))
 (S 2 (aH.i r7 aH.n))
noncomputable def aSD (h : Hp) (S : Nat → aH → Option Value) (r0 : Value) (r1 : Value) (r2 : Int) : Option Value :=
 jC (Array.toList (Value.cells r0)) fun c0 =>
 jC (Array.toList (Value.cells r1)) fun c1 =>
 jW c0 fun a2 c2 =>
 aT .i64 a2 fun i3 =>
 jW c2 fun a4 c4 =>
 jW c4 fun a5 c5 =>
 aGK c5 (jW c1 fun a6 c6 =>
 aT .i64 a6 fun i7 =>
 jW c6 fun a8 c8 =>
 aT .i64 a8 fun i9 =>
 jW c8 fun a10 c10 =>
 aT .i64 a10 fun i11 =>
 aGK c10 (S 1 (aH.i (Int.ofNat 0) (aH.i r2 (aH.i i3 (aH.v a4 (aH.v a5 (aH.i i7 (aH.i i9 (aH.i i11 aH.n))))))))))
noncomputable def aYY (h : Hp) (S : Nat → aH → Option Value) : Nat → aH → Option Value := fI 0 (wV fun r0 => wV fun r1 => wI fun r2 => wN (aSD h S r0 r1 r2)) (fI 1 (wI fun r7 => wI fun r8 => wI fun zR => wV fun xN => wV fun zS => wI fun qJ => wI fun qK => wI fun qL => wN (aSC h S r7 r8 zR xN zS qJ qK qL)) (fI 2 (wI fun r7 => wN (aSB h S r7)) (lG)))
noncomputable def aOB (args : List Value) (h : Hp) : Option Value := plainO (dK [Kd.v, Kd.v, Kd.i .i64] args fun al => G.aQ (aYY h) 1000000 0 al)
def aKL : Nat := 3 + (32 - 3)
theorem a9A (h : Hp) (S : Nat → aH → Option Value) (r7 : Int) : aSB h S r7 = G.aF bL aN eY (fA env pf9 aKL h) (fF env Tryz.f124.results.toList) (G.collect aR9 aSA []) 2 S (aH.i r7 aH.n) := by kernel_rfl
theorem a9B (h : Hp) (S : Nat → aH → Option Value) (r7 : Int) (r8 : Int) (zR : Int) (xN : Value) (zS : Value) (qJ : Int) (qK : Int) (qL : Int) : aSC h S r7 r8 zR xN zS qJ qK qL = G.aF bL aN eY (fA env pf9 aKL h) (fF env Tryz.f124.results.toList) (G.collect aR9 aSA []) 1 S (aH.i r7 (aH.i r8 (aH.i zR (aH.v xN (aH.v zS (aH.i qJ (aH.i qK (aH.i qL aH.n)))))))) := by kernel_rfl
theorem a9C (h : Hp) (S : Nat → aH → Option Value) (r0 : Value) (r1 : Value) (r2 : Int) : aSD h S r0 r1 r2 = G.aF bL aN eY (fA env pf9 aKL h) (fF env Tryz.f124.results.toList) (G.collect aR9 aSA []) 0 S (aH.v r0 (aH.v r1 (aH.i r2 aH.n))) := by kernel_rfl
theorem t124 (h : Hp) (S : Nat → aH → Option Value) : dD (fun l al => G.aF bL aN eY (fA env pf9 aKL h) (fF env Tryz.f124.results.toList) (G.collect aR9 aSA []) l S al) (aYY h S) := by
 unfold aYY
 refine dD.cons 0 (fun jT q e0 => ?_) ?_
 ·obtain ⟨r0, vs1, rfl, e1⟩ := bY e0
  obtain ⟨r1, vs2, rfl, e2⟩ := bY e1
  obtain ⟨r2, vs3, rfl, e3⟩ := bA e2
  obtain ⟨rfl, ee⟩ := bT e3
  exact (a9C h S r0 r1 r2).symm.trans ee
 refine dD.cons 1 (fun jT q e0 => ?_) ?_
 ·obtain ⟨r7, vs1, rfl, e1⟩ := bA e0
  obtain ⟨r8, vs2, rfl, e2⟩ := bA e1
  obtain ⟨zR, vs3, rfl, e3⟩ := bA e2
  obtain ⟨xN, vs4, rfl, e4⟩ := bY e3
  obtain ⟨zS, vs5, rfl, e5⟩ := bY e4
  obtain ⟨qJ, vs6, rfl, e6⟩ := bA e5
  obtain ⟨qK, vs7, rfl, e7⟩ := bA e6
  obtain ⟨qL, vs8, rfl, e8⟩ := bA e7
  obtain ⟨rfl, ee⟩ := bT e8
  exact (a9B h S r7 r8 zR xN zS qJ qK qL).symm.trans ee
 refine dD.cons 2 (fun jT q e0 => ?_) ?_
 ·obtain ⟨r7, vs1, rfl, e1⟩ := bA e0
  obtain ⟨rfl, ee⟩ := bT e1
  exact (a9A h S r7).symm.trans ee
 exact dD.nil
theorem bGW : bO Tryz.prog 124 aOB := dA (C := C0) ok0 (pf := pf9) a2K (fn := Tryz.f124) (body := aR9) (kinds := [Kd.v, Kd.v, Kd.i .i64]) (A := aSA) (T := aYY) (by kernel_rfl) (by kernel_rfl) (by kernel_rfl) (by kernel_rfl) (fun h S => t124 h S)
noncomputable def aSE : PF := JI 124 aOB pf9
theorem aSF : dZ Tryz.prog aSE := jF bGW a2K
noncomputable def a2M := o9 124 aOB a2L
noncomputable def C30 : bP := cfg a2M
theorem bRJ : C30.Ok := fJ (C := C29) bRH bGW
noncomputable def B89 : Code := (Tryz.f89.body).getD .skip
noncomputable def A89 : G.aB (List KI) := (G.aB.node (some (0, [KI.reg 0 (Kd.v), KI.reg 1 (Kd.v)])) G.aB.nil (G.aB.node none G.aB.nil G.aB.nil))
noncomputable def a2N (h : Hp) (S : Nat → aH → Option Value) (r0 : Value) (r1 : Value) : Option Value :=
 jC (Array.toList (Value.cells r0)) fun c0 =>
 jC (Array.toList (Value.cells r1)) fun c1 =>
 qD c1 0 fun v2 =>
 aT .i64 v2 fun i3 =>
 qD c0 0 fun v4 =>
 aT .i64 v4 fun i5 =>
 wrap64 (Int.mul i3 i5) fun i6 =>
 qD c1 1 fun v7 =>
 aT .i64 v7 fun i8 =>
 nT c0 0 fun d9 => nH d9 3 fun l9 =>
 dG (aN2 [(Value.agg (Array.mk l9))] h) fun v10 =>
 aT .i64 v10 fun i11 =>
 wrap64 (Int.mul i8 i11) fun i12 =>
 nT c0 0 fun d13 => nH d13 8 fun l13 =>
 dG (F67 [(Value.agg (Array.mk l13))] h) fun v14 =>
 aT .i64 v14 fun i15 =>
 nT c0 0 fun d16 => nH d16 3 fun l16 =>
 nT c1 2 fun d17 => nH d17 3 fun l17 =>
 dG (aOB [(Value.agg (Array.mk l16)), (Value.agg (Array.mk l17)), (Value.int .i64 (Int.ofNat 0))] h) fun v18 =>
 aT .i64 v18 fun i19 =>
 dG (lK env 49 (List.toArray [(0, (Value.int .i64 i6)), (1, (Value.int .i64 i12)), (2, (Value.int .i64 i15)), (3, (Value.int .i64 i19))])) fun v20 =>
 aGM v20 fun l21 => dL (Nat.beq (J7 l21) 4) (M7 0 l21 [(Value.int .i64 (Int.ofNat 0)), (Value.int .i64 (Int.ofNat 0)), (Value.int .i64 (Int.ofNat 0)), (Value.int .i64 (Int.ofNat 0))] fun c21 =>
 nT c21 0 fun d22 => nH d22 4 fun l22 => some (Value.agg (Array.mk l22))) none
noncomputable def T89 (h : Hp) (S : Nat → aH → Option Value) : Nat → aH → Option Value := fI 0 (wV fun r0 => wV fun r1 => wN (a2N h S r0 r1)) (lG)
noncomputable def F89 (args : List Value) (h : Hp) : Option Value := plainO (dK [Kd.v, Kd.v] args fun al => G.aQ (T89 h) 1000000 0 al)
def bGX : Nat := 2 + (26 - 2)
theorem bGY (h : Hp) (S : Nat → aH → Option Value) (r0 : Value) (r1 : Value) : a2N h S r0 r1 = G.aF bL aN eY (fA env aSE bGX h) (fF env Tryz.f89.results.toList) (G.collect B89 A89 []) 0 S (aH.v r0 (aH.v r1 aH.n)) := by kernel_rfl
theorem t89 (h : Hp) (S : Nat → aH → Option Value) : dD (fun l al => G.aF bL aN eY (fA env aSE bGX h) (fF env Tryz.f89.results.toList) (G.collect B89 A89 []) l S al) (T89 h S) := by
 unfold T89
 refine dD.cons 0 (fun jT q e0 => ?_) ?_
 ·obtain ⟨r0, vs1, rfl, e1⟩ := bY e0
  obtain ⟨r1, vs2, rfl, e2⟩ := bY e1
  obtain ⟨rfl, ee⟩ := bT e2
  exact (bGY h S r0 r1).symm.trans ee
 exact dD.nil
theorem r89 : bO Tryz.prog 89 F89 := dA (C := C0) ok0 (pf := aSE) aSF (fn := Tryz.f89) (body := B89) (kinds := [Kd.v, Kd.v]) (A := A89) (T := T89) (by kernel_rfl) (by kernel_rfl) (by kernel_rfl) (by kernel_rfl) (fun h S => t89 h S)
noncomputable def aHD : PF := JI 89 F89 aSE
theorem aSG : dZ Tryz.prog aHD := jF r89 aSF
noncomputable def a2O := o9 89 F89 a2M
noncomputable def C31 : bP := cfg a2O
theorem bRM : C31.Ok := fJ (C := C30) bRJ r89
noncomputable def B75 : Code := (Tryz.f75.body).getD .skip
noncomputable def A75 : G.aB (List KI) := (G.aB.node (some (0, [KI.reg 0 (Kd.v), KI.reg 1 (Kd.v)])) G.aB.nil (G.aB.node none G.aB.nil (G.aB.node none (G.aB.node none G.aB.nil (G.aB.node none (G.aB.node (some (1, [KI.reg 5 (Kd.i .i64), KI.reg 10 (Kd.v), KI.reg 11 (Kd.i .i64)])) (G.aB.node none G.aB.nil (G.aB.node none (G.aB.node none G.aB.nil G.aB.nil) (G.aB.node none (G.aB.node none (G.aB.node none G.aB.nil G.aB.nil) G.aB.nil) G.aB.nil))) G.aB.nil) G.aB.nil)) (G.aB.node (some (2, [KI.reg 5 (Kd.i .i64)])) G.aB.nil G.aB.nil))))
noncomputable def a2P (h : Hp) (S : Nat → aH → Option Value) (r5 : Int) : Option Value :=
 some (Value.int .i64 r5)
noncomputable def a2Q (h : Hp) (S : Nat → aH → Option Value) (r5 : Int) (pG : Value) (pI : Int) : Option Value :=
 eO (qH pI (Int.ofNat 4)) fun b0 =>
 dL b0
 (dG (oD env 49 pG (Value.int .i64 pI)) fun v1 =>
 aT .i64 v1 fun i2 =>
 wrap64 (Int.add r5 i2) fun i3 =>
 wrap64 (Int.add pI (Int.ofNat 1)) fun i4 =>
 S 1 (aH.i i3 (aH.v pG (aH.i i4 aH.n))))
 (S 2 (aH.i r5 aH.n))
noncomputable def a2R (h : Hp) (S : Nat → aH → Option Value) (r0 : Value) (r1 : Value) : Option Value :=
 jC (Array.toList (Value.cells r0)) fun c0 =>
 jC (Array.toList (Value.cells r1)) fun c1 =>
 nT c0 0 fun d2 => nH d2 8 fun l2 =>
 nT c1 0 fun d3 => nH d3 5 fun l3 =>
 dG (F89 [(Value.agg (Array.mk l2)), (Value.agg (Array.mk l3))] h) fun v4 =>
 S 1 (aH.i (Int.ofNat 0) (aH.v v4 (aH.i (Int.ofNat 0) aH.n)))
noncomputable def T75 (h : Hp) (S : Nat → aH → Option Value) : Nat → aH → Option Value := fI 0 (wV fun r0 => wV fun r1 => wN (a2R h S r0 r1)) (fI 1 (wI fun r5 => wV fun pG => wI fun pI => wN (a2Q h S r5 pG pI)) (fI 2 (wI fun r5 => wN (a2P h S r5)) (lG)))
noncomputable def F75 (args : List Value) (h : Hp) : Option Value := plainO (dK [Kd.v, Kd.v] args fun al => G.aQ (T75 h) 1000000 0 al)
def aYZ : Nat := 2 + (19 - 2)
theorem bG1 (h : Hp) (S : Nat → aH → Option Value) (r5 : Int) : a2P h S r5 = G.aF bL aN eY (fA env aHD aYZ h) (fF env Tryz.f75.results.toList) (G.collect B75 A75 []) 2 S (aH.i r5 aH.n) := by kernel_rfl
theorem bG2 (h : Hp) (S : Nat → aH → Option Value) (r5 : Int) (pG : Value) (pI : Int) : a2Q h S r5 pG pI = G.aF bL aN eY (fA env aHD aYZ h) (fF env Tryz.f75.results.toList) (G.collect B75 A75 []) 1 S (aH.i r5 (aH.v pG (aH.i pI aH.n))) := by kernel_rfl
theorem bG3 (h : Hp) (S : Nat → aH → Option Value) (r0 : Value) (r1 : Value) : a2R h S r0 r1 = G.aF bL aN eY (fA env aHD aYZ h) (fF env Tryz.f75.results.toList) (G.collect B75 A75 []) 0 S (aH.v r0 (aH.v r1 aH.n)) := by kernel_rfl
theorem t75 (h : Hp) (S : Nat → aH → Option Value) : dD (fun l al => G.aF bL aN eY (fA env aHD aYZ h) (fF env Tryz.f75.results.toList) (G.collect B75 A75 []) l S al) (T75 h S) := by
 unfold T75
 refine dD.cons 0 (fun jT q e0 => ?_) ?_
 ·obtain ⟨r0, vs1, rfl, e1⟩ := bY e0
  obtain ⟨r1, vs2, rfl, e2⟩ := bY e1
  obtain ⟨rfl, ee⟩ := bT e2
  exact (bG3 h S r0 r1).symm.trans ee
 refine dD.cons 1 (fun jT q e0 => ?_) ?_
 ·obtain ⟨r5, vs1, rfl, e1⟩ := bA e0
  obtain ⟨pG, vs2, rfl, e2⟩ := bY e1
  obtain ⟨pI, vs3, rfl, e3⟩ := bA e2
  obtain ⟨rfl, ee⟩ := bT e3
  exact (bG2 h S r5 pG pI).symm.trans ee
 refine dD.cons 2 (fun jT q e0 => ?_) ?_
 ·obtain ⟨r5, vs1, rfl, e1⟩ := bA e0
  obtain ⟨rfl, ee⟩ := bT e1
  exact (bG1 h S r5).symm.trans ee
 exact dD.nil
theorem r75 : bO Tryz.prog 75 F75 := dA (C := C0) ok0 (pf := aHD) aSG (fn := Tryz.f75) (body := B75) (kinds := [Kd.v, Kd.v]) (A := A75) (T := T75) (by kernel_rfl) (by kernel_rfl) (by kernel_rfl) (by kernel_rfl) (fun h S => t75 h S)
noncomputable def aSH : PF := JI 75 F75 aHD
theorem aSI : dZ Tryz.prog aSH := jF r75 aSG
noncomputable def a2S := o9 75 F75 a2O
noncomputable def C32 : bP := cfg a2S
theorem ok32 : C32.Ok := fJ (C := C31) bRM r75
noncomputable def a9D : Code := (Tryz.f114.body).getD .skip
noncomputable def a9E : G.aB (List KI) := (G.aB.node (some (0, [KI.reg 0 (Kd.v), KI.reg 1 (Kd.v)])) G.aB.nil (G.aB.node none G.aB.nil G.aB.nil))
noncomputable def aSJ (h : Hp) (S : Nat → aH → Option Value) (r0 : Value) (r1 : Value) : Option Value :=
 jC (Array.toList (Value.cells r0)) fun c0 =>
 jC (Array.toList (Value.cells r1)) fun c1 =>
 qD c1 0 fun v2 =>
 aT .i64 v2 fun i3 =>
 qD c1 1 fun v4 =>
 aT .i64 v4 fun i5 =>
 wrap64 (Int.add i3 i5) fun i6 =>
 qD c0 3 fun v7 =>
 dG (F68 [v7] h) fun v8 =>
 aT .i64 v8 fun i9 =>
 wrap64 (Int.add i6 i9) fun i10 =>
 some (Value.int .i64 i10)
noncomputable def aY0 (h : Hp) (S : Nat → aH → Option Value) : Nat → aH → Option Value := fI 0 (wV fun r0 => wV fun r1 => wN (aSJ h S r0 r1)) (lG)
noncomputable def a9F (args : List Value) (h : Hp) : Option Value := plainO (dK [Kd.v, Kd.v] args fun al => G.aQ (aY0 h) 1000000 0 al)
def a2T : Nat := 2 + (15 - 2)
theorem a9G (h : Hp) (S : Nat → aH → Option Value) (r0 : Value) (r1 : Value) : aSJ h S r0 r1 = G.aF bL aN eY (fA env aSH a2T h) (fF env Tryz.f114.results.toList) (G.collect a9D a9E []) 0 S (aH.v r0 (aH.v r1 aH.n)) := by kernel_rfl
theorem t114 (h : Hp) (S : Nat → aH → Option Value) : dD (fun l al => G.aF bL aN eY (fA env aSH a2T h) (fF env Tryz.f114.results.toList) (G.collect a9D a9E []) l S al) (aY0 h S) := by
 unfold aY0
 refine dD.cons 0 (fun jT q e0 => ?_) ?_
 ·obtain ⟨r0, vs1, rfl, e1⟩ := bY e0
  obtain ⟨r1, vs2, rfl, e2⟩ := bY e1
  obtain ⟨rfl, ee⟩ := bT e2
  exact (a9G h S r0 r1).symm.trans ee
 exact dD.nil
theorem bG4 : bO Tryz.prog 114 a9F := dA (C := C0) ok0 (pf := aSH) aSI (fn := Tryz.f114) (body := a9D) (kinds := [Kd.v, Kd.v]) (A := a9E) (T := aY0) (by kernel_rfl) (by kernel_rfl) (by kernel_rfl) (by kernel_rfl) (fun h S => t114 h S)
noncomputable def aSK : PF := JI 114 a9F aSH
theorem aSL : dZ Tryz.prog aSK := jF bG4 aSI
noncomputable def a2U := o9 114 a9F a2S
noncomputable def C33 : bP := cfg a2U
theorem bRO : C33.Ok := fJ (C := C32) ok32 bG4
noncomputable def a9H : Code := (Tryz.f142.body).getD .skip
noncomputable def a9I : G.aB (List KI) := (G.aB.node (some (0, [KI.reg 0 (Kd.v), KI.reg 1 (Kd.i .i64)])) G.aB.nil (G.aB.node none G.aB.nil G.aB.nil))
noncomputable def aSM (h : Hp) (S : Nat → aH → Option Value) (r0 : Value) (r1 : Int) : Option Value :=
 jC (Array.toList (Value.cells r0)) fun c0 =>
 qD c0 0 fun v1 =>
 aT .i64 v1 fun i2 =>
 wrap64 (Int.sub i2 r1) fun i3 =>
 qD c0 1 fun v4 =>
 aT .i64 v4 fun i5 =>
 wrap64 (Int.sub i5 r1) fun i6 =>
 dG (lK env 35 (List.toArray [(0, (Value.int .i64 i3)), (1, (Value.int .i64 i6))])) fun v7 =>
 aGM v7 fun l8 => dL (Nat.beq (J7 l8) 2) (M7 0 l8 [(Value.int .i64 (Int.ofNat 0)), (Value.int .i64 (Int.ofNat 0))] fun c8 =>
 nT c8 0 fun d9 => nH d9 2 fun l9 => some (Value.agg (Array.mk l9))) none
noncomputable def aY1 (h : Hp) (S : Nat → aH → Option Value) : Nat → aH → Option Value := fI 0 (wV fun r0 => wI fun r1 => wN (aSM h S r0 r1)) (lG)
noncomputable def a9J (args : List Value) (h : Hp) : Option Value := plainO (dK [Kd.v, Kd.i .i64] args fun al => G.aQ (aY1 h) 1000000 0 al)
def a2V : Nat := 2 + (14 - 2)
theorem a9K (h : Hp) (S : Nat → aH → Option Value) (r0 : Value) (r1 : Int) : aSM h S r0 r1 = G.aF bL aN eY (fA env aSK a2V h) (fF env Tryz.f142.results.toList) (G.collect a9H a9I []) 0 S (aH.v r0 (aH.i r1 aH.n)) := by kernel_rfl
theorem t142 (h : Hp) (S : Nat → aH → Option Value) : dD (fun l al => G.aF bL aN eY (fA env aSK a2V h) (fF env Tryz.f142.results.toList) (G.collect a9H a9I []) l S al) (aY1 h S) := by
 unfold aY1
 refine dD.cons 0 (fun jT q e0 => ?_) ?_
 ·obtain ⟨r0, vs1, rfl, e1⟩ := bY e0
  obtain ⟨r1, vs2, rfl, e2⟩ := bA e1
  obtain ⟨rfl, ee⟩ := bT e2
  exact (a9K h S r0 r1).symm.trans ee
 exact dD.nil
theorem bG5 : bO Tryz.prog 142 a9J := dA (C := C0) ok0 (pf := aSK) aSL (fn := Tryz.f142) (body := a9H) (kinds := [Kd.v, Kd.i .i64]) (A := a9I) (T := aY1) (by kernel_rfl) (by kernel_rfl) (by kernel_rfl) (by kernel_rfl) (fun h S => t142 h S)
noncomputable def aHE : PF := JI 142 a9J aSK
theorem aSN : dZ Tryz.prog aHE := jF bG5 aSL
noncomputable def aKM := o9 142 a9J a2U
noncomputable def C34 : bP := cfg aKM
theorem bRP : C34.Ok := fJ (C := C33) bRO bG5
noncomputable def a9L : Code := (Tryz.f141.body).getD .skip
def a9M : aB := (aB.node (some (0, [(0, Kd.v), (1, Kd.v), (2, Kd.i .i64), (3, Kd.v)])) aB.nil (aB.node none aB.nil (aB.node none (aB.node none aB.nil (aB.node none aB.nil (aB.node none (aB.node none aB.nil (aB.node none aB.nil aB.nil)) aB.nil))) (aB.node none aB.nil aB.nil))))
noncomputable def aSO (S : Sg) (r0 : Value) (r1 : Value) (r2 : Int) (r3 : Value) (h : Hp) : bE :=
 fH h 96 (Array.toList (Value.cells r0)) fun a0 h0 =>
 fH h0 167 (Array.toList (Value.cells r1)) fun a1 h1 =>
 fH h1 35 (Array.toList (Value.cells r3)) fun a2 h2 =>
 fH h2 35 [(Value.int .i64 (Int.ofNat 0)), (Value.int .i64 (Int.ofNat 0))] fun a3 h3 =>
 aR 2 a1 fun v4 =>
 LX 3 1 v4 r2 fun v5 =>
 bJ (Hp.mk (Hp.next h3) (Hp.next h3) (Hp.aK h3)) v5 fun v6 =>
 aT .i64 v6 fun i7 =>
 aR 5 a1 fun v8 =>
 LX 3 1 v8 r2 fun v9 =>
 bJ (Hp.mk (Hp.next h3) (Hp.next h3) (Hp.aK h3)) v9 fun v10 =>
 aT .i64 v10 fun i11 =>
 dG (lK env 35 (List.toArray [(0, (Value.int .i64 i7)), (1, (Value.int .i64 i11))])) fun v12 =>
 aID v12 (Hp.next h3) (Hp.mk (Hp.next h3) (Hp.next h3) T.nil) fun w13 n13 =>
 fH (Hp.mk n13 n13 T.nil) 35 [(Value.int .i64 (Int.ofNat 0)), (Value.int .i64 (Int.ofNat 0))] fun a14 h14 =>
 aID a14 n13 h14 fun w15 n15 =>
 jM 2 (Hp.mk n15 (Hp.ro h3) (iZ w15 (iZ w13 (Hp.aK h3)))) a14 v12 fun h16 =>
 aR 0 a0 fun v17 =>
 aR 1 v17 fun v18 =>
 bJ h16 v18 fun v19 =>
 kK 3 v19 r2 fun v20 =>
 aR 1 v20 fun v21 =>
 bJ h16 v21 fun v22 =>
 aT .i64 v22 fun i23 =>
 eO (qH (Int.ofNat 0) i23) fun b24 =>
 dL b24
 (aR 0 a2 fun v25 =>
 bJ h16 v25 fun v26 =>
 aT .i64 v26 fun i27 =>
 cZ 3 h16 a0 fun v28 =>
 aR 5 a1 fun v29 =>
 cZ 3 h16 v29 fun v30 =>
 wrap64 (Int.add r2 (Int.ofNat 1)) fun i31 =>
 bB (bB (dG (aOB [v28, v30, (Value.int .i64 i31)] (Hp.mk (Hp.next h16) (Hp.next h16) (Hp.aK h16))) fun v => some (v, (Hp.mk (Hp.next h16) (Hp.next h16) (Hp.aK h16)))) fun v _ => dL (nK v) (some (v, h16)) none) fun v32 h32 =>
 aT .i64 v32 fun i33 =>
 wrap64 (Int.sub i27 i33) fun i34 =>
 aR 0 a14 fun v35 =>
 bJ h32 v35 fun v36 =>
 aT .i64 v36 fun i37 =>
 wrap64 (Int.add i34 i23) fun i38 =>
 wrap64 (Int.sub i38 (Int.ofNat 1)) fun i39 =>
 mH .i64 (lD env .quo 3 (Value.int .i64 i39) (Value.int .i64 i23)) fun i40 =>
 aBQ i37 i40 fun i41 =>
 aR 0 a14 fun v42 =>
 NP h32 v42 (Value.int .i64 i41) fun h43 =>
 aR 1 a14 fun v44 =>
 bJ h43 v44 fun v45 =>
 aT .i64 v45 fun i46 =>
 aR 1 a2 fun v47 =>
 bJ h43 v47 fun v48 =>
 aT .i64 v48 fun i49 =>
 cZ 3 h43 a0 fun v50 =>
 aR 2 a1 fun v51 =>
 cZ 3 h43 v51 fun v52 =>
 wrap64 (Int.add r2 (Int.ofNat 1)) fun i53 =>
 bB (bB (dG (aOB [v50, v52, (Value.int .i64 i53)] (Hp.mk (Hp.next h43) (Hp.next h43) (Hp.aK h43))) fun v => some (v, (Hp.mk (Hp.next h43) (Hp.next h43) (Hp.aK h43)))) fun v _ => dL (nK v) (some (v, h43)) none) fun v54 h54 =>
 aT .i64 v54 fun i55 =>
 wrap64 (Int.sub i49 i55) fun i56 =>
 mH .i64 (lD env .quo 3 (Value.int .i64 i56) (Value.int .i64 i23)) fun i57 =>
 aFV i46 i57 fun i58 =>
 aR 1 a14 fun v59 =>
 NP h54 v59 (Value.int .i64 i58) fun h60 =>
 cZ 2 h60 a14 fun v61 =>
 jM 2 h60 a3 v61 fun h62 =>
 cZ 2 h62 a3 fun v63 => some (v63, h62))
 (cZ 2 h16 a14 fun v64 =>
 jM 2 h16 a3 v64 fun h65 =>
 cZ 2 h65 a3 fun v66 => some (v66, h65))
noncomputable def aY2 (S : Sg) : Sg := gZ 0 (uV fun r0 => uV fun r1 => uI fun r2 => uV fun r3 => uN fun h => aSO S r0 r1 r2 r3 h) (pF)
noncomputable def bG6 (args : List Value) (h : Hp) : bE := cB [Kd.v, Kd.v, Kd.i .i64, Kd.v] args fun al => aQ aY2 1000000 0 al h
def a2X : Nat := 4 + (65 - 4)
theorem a9N (S : Sg) (r0 : Value) (r1 : Value) (r2 : Int) (r3 : Value) (h : Hp) : aSO S r0 r1 r2 r3 h = aF (dO env aKM (a2X)) (dP env Tryz.f141.results.toList) (collect a9L a9M []) 0 S (AL.v r0 (AL.v r1 (AL.i r2 (AL.v r3 AL.n)))) h := by kernel_rfl
theorem t141 (S : Sg) : iA (fun l vs h => aF (dO env aKM a2X) (dP env Tryz.f141.results.toList) (collect a9L a9M []) l S vs h) (aY2 S) := by
 unfold aY2
 refine iA.cons 0 (fun jT h q e0 => ?_) ?_
 ·obtain ⟨r0, vs1, rfl, e1⟩ := aP e0
  obtain ⟨r1, vs2, rfl, e2⟩ := aP e1
  obtain ⟨r2, vs3, rfl, e3⟩ := cO e2
  obtain ⟨r3, vs4, rfl, e4⟩ := aP e3
  obtain ⟨rfl, ee⟩ := bC e4
  exact (a9N S r0 r1 r2 r3 h).symm.trans ee
 exact iA.nil
theorem bRQ : ∀ args h v h', bG6 args h = some (v, h') → jU (C34) (.call 141 args.toArray h) (.ret v h') := by
 intro args h v h' e
 exact bZ (C := C34) (fn := Tryz.f141) (body := a9L) (np := 4) (A := a9M) (T := aY2) (kinds := [Kd.v, Kd.v, Kd.i .i64, Kd.v]) (by kernel_rfl) (by kernel_rfl) (by kernel_rfl) (by kernel_rfl) (eU fU) (by kernel_rfl) (fun S => t141 S) e
noncomputable def a2Y := oI 141 bG6 aKM
noncomputable def C35 : bP := cfg a2Y
theorem bRR : C35.Ok := eX (C := C34) bRP bRQ
noncomputable def aSP : Code := (Tryz.f139.body).getD .skip
noncomputable def aSQ : G.aB (List KI) := (G.aB.node (some (0, [KI.reg 0 (Kd.v), KI.reg 1 (Kd.v)])) G.aB.nil (G.aB.node none (G.aB.node none G.aB.nil (G.aB.node none (G.aB.node (some (1, [KI.loc 2 2, KI.loc 3 3, KI.loc 4 4, KI.reg 6 (Kd.i .i64), KI.cells 2 [Kd.i .i64, Kd.i .i64, Kd.i .i64], KI.cells 3 [Kd.i .i64, Kd.i .i64, Kd.i .i64], KI.cells 4 [Kd.i .i64, Kd.i .i64, Kd.i .i64]])) (G.aB.node none G.aB.nil (G.aB.node none (G.aB.node none G.aB.nil G.aB.nil) (G.aB.node none (G.aB.node none (G.aB.node none G.aB.nil G.aB.nil) G.aB.nil) G.aB.nil))) G.aB.nil) G.aB.nil)) (G.aB.node (some (2, [KI.loc 2 2, KI.loc 4 4, KI.cells 2 [Kd.i .i64, Kd.i .i64, Kd.i .i64], KI.cells 4 [Kd.i .i64, Kd.i .i64, Kd.i .i64]])) G.aB.nil G.aB.nil)))
noncomputable def aSR (h : Hp) (S : Nat → aH → Option Value) (zC : Int) (zD : Int) (zF : Int) (qJ : Int) (qK : Int) (qL : Int) : Option Value :=
 aGM (Value.agg (Array.mk [(Value.int .i64 zC), (Value.int .i64 zD), (Value.int .i64 zF)])) fun l0 => dL (Nat.beq (J7 l0) 3) (M7 0 l0 [(Value.int .i64 qJ), (Value.int .i64 qK), (Value.int .i64 qL)] fun c0 =>
 nT c0 0 fun d1 => nH d1 3 fun l1 => some (Value.agg (Array.mk l1))) none
noncomputable def aSS (h : Hp) (S : Nat → aH → Option Value) (r6 : Int) (zC : Int) (zD : Int) (zF : Int) (zR : Int) (xN : Int) (zS : Int) (qJ : Int) (qK : Int) (qL : Int) : Option Value :=
 eO (qH r6 (Int.ofNat 3)) fun b0 =>
 dL b0
 (SX r6 (fun n1 => dL (Nat.ble (Nat.succ n1) 3) (fQ (Nat.add 0 (Nat.mul n1 1)) fun o1 =>
 qD [(Value.int .i64 zC), (Value.int .i64 zD), (Value.int .i64 zF)] o1 fun v2 =>
 aT .i64 v2 fun i3 =>
 SX r6 (fun n4 => dL (Nat.ble (Nat.succ n4) 3) (fQ (Nat.add 0 (Nat.mul n4 1)) fun o4 =>
 qD [(Value.int .i64 zR), (Value.int .i64 xN), (Value.int .i64 zS)] o4 fun v5 =>
 aT .i64 v5 fun i6 =>
 aFV i3 i6 fun i7 =>
 SX r6 (fun n8 => dL (Nat.ble (Nat.succ n8) 3) (fQ (Nat.add 0 (Nat.mul n8 1)) fun o8 =>
 HV [(Value.int .i64 zC), (Value.int .i64 zD), (Value.int .i64 zF)] o8 (Value.int .i64 i7) fun c9 =>
 wrap64 (Int.add r6 (Int.ofNat 1)) fun i10 =>
 jW c9 fun a11 c11 =>
 aT .i64 a11 fun i12 =>
 jW c11 fun a13 c13 =>
 aT .i64 a13 fun i14 =>
 jW c13 fun a15 c15 =>
 aT .i64 a15 fun i16 =>
 aGK c15 (S 1 (aH.i i10 (aH.i i12 (aH.i i14 (aH.i i16 (aH.i zR (aH.i xN (aH.i zS (aH.i qJ (aH.i qK (aH.i qL aH.n)))))))))))) none) (fun _ => none)) none) (fun _ => none)) none) (fun _ => none))
 (S 2 (aH.i zC (aH.i zD (aH.i zF (aH.i qJ (aH.i qK (aH.i qL aH.n)))))))
noncomputable def aST (h : Hp) (S : Nat → aH → Option Value) (r0 : Value) (r1 : Value) : Option Value :=
 jC (Array.toList (Value.cells r0)) fun c0 =>
 jC (Array.toList (Value.cells r1)) fun c1 =>
 jW c0 fun a2 c2 =>
 aT .i64 a2 fun i3 =>
 jW c2 fun a4 c4 =>
 aT .i64 a4 fun i5 =>
 jW c4 fun a6 c6 =>
 aT .i64 a6 fun i7 =>
 aGK c6 (jW c1 fun a8 c8 =>
 aT .i64 a8 fun i9 =>
 jW c8 fun a10 c10 =>
 aT .i64 a10 fun i11 =>
 jW c10 fun a12 c12 =>
 aT .i64 a12 fun i13 =>
 aGK c12 (S 1 (aH.i (Int.ofNat 0) (aH.i i3 (aH.i i5 (aH.i i7 (aH.i i9 (aH.i i11 (aH.i i13 (aH.i (Int.ofNat 0) (aH.i (Int.ofNat 0) (aH.i (Int.ofNat 0) aH.n))))))))))))
noncomputable def aY3 (h : Hp) (S : Nat → aH → Option Value) : Nat → aH → Option Value := fI 0 (wV fun r0 => wV fun r1 => wN (aST h S r0 r1)) (fI 1 (wI fun r6 => wI fun zC => wI fun zD => wI fun zF => wI fun zR => wI fun xN => wI fun zS => wI fun qJ => wI fun qK => wI fun qL => wN (aSS h S r6 zC zD zF zR xN zS qJ qK qL)) (fI 2 (wI fun zC => wI fun zD => wI fun zF => wI fun qJ => wI fun qK => wI fun qL => wN (aSR h S zC zD zF qJ qK qL)) (lG)))
noncomputable def a9O (args : List Value) (h : Hp) : Option Value := plainO (dK [Kd.v, Kd.v] args fun al => G.aQ (aY3 h) 1000000 0 al)
def aKN : Nat := 2 + (20 - 2)
theorem a9P (h : Hp) (S : Nat → aH → Option Value) (zC : Int) (zD : Int) (zF : Int) (qJ : Int) (qK : Int) (qL : Int) : aSR h S zC zD zF qJ qK qL = G.aF bL aN eY (fA env aHE aKN h) (fF env Tryz.f139.results.toList) (G.collect aSP aSQ []) 2 S (aH.i zC (aH.i zD (aH.i zF (aH.i qJ (aH.i qK (aH.i qL aH.n)))))) := by kernel_rfl
theorem a9Q (h : Hp) (S : Nat → aH → Option Value) (r6 : Int) (zC : Int) (zD : Int) (zF : Int) (zR : Int) (xN : Int) (zS : Int) (qJ : Int) (qK : Int) (qL : Int) : aSS h S r6 zC zD zF zR xN zS qJ qK qL = G.aF bL aN eY (fA env aHE aKN h) (fF env Tryz.f139.results.toList) (G.collect aSP aSQ []) 1 S (aH.i r6 (aH.i zC (aH.i zD (aH.i zF (aH.i zR (aH.i xN (aH.i zS (aH.i qJ (aH.i qK (aH.i qL aH.n)))))))))) := by kernel_rfl
theorem a9R (h : Hp) (S : Nat → aH → Option Value) (r0 : Value) (r1 : Value) : aST h S r0 r1 = G.aF bL aN eY (fA env aHE aKN h) (fF env Tryz.f139.results.toList) (G.collect aSP aSQ []) 0 S (aH.v r0 (aH.v r1 aH.n)) := by kernel_rfl
theorem t139 (h : Hp) (S : Nat → aH → Option Value) : dD (fun l al => G.aF bL aN eY (fA env aHE aKN h) (fF env Tryz.f139.results.toList) (G.collect aSP aSQ []) l S al) (aY3 h S) := by
 unfold aY3
 refine dD.cons 0 (fun jT q e0 => ?_) ?_
 ·obtain ⟨r0, vs1, rfl, e1⟩ := bY e0
  obtain ⟨r1, vs2, rfl, e2⟩ := bY e1
  obtain ⟨rfl, ee⟩ := bT e2
  exact (a9R h S r0 r1).symm.trans ee
 refine dD.cons 1 (fun jT q e0 => ?_) ?_
 ·obtain ⟨r6, vs1, rfl, e1⟩ := bA e0
  obtain ⟨zC, vs2, rfl, e2⟩ := bA e1
  obtain ⟨zD, vs3, rfl, e3⟩ := bA e2
  obtain ⟨zF, vs4, rfl, e4⟩ := bA e3
  obtain ⟨zR, vs5, rfl, e5⟩ := bA e4
  obtain ⟨xN, vs6, rfl, e6⟩ := bA e5
  obtain ⟨zS, vs7, rfl, e7⟩ := bA e6
  obtain ⟨qJ, vs8, rfl, e8⟩ := bA e7
  obtain ⟨qK, vs9, rfl, e9⟩ := bA e8
  obtain ⟨qL, bZC, rfl, e10⟩ := bA e9
  obtain ⟨rfl, ee⟩ := bT e10
  exact (a9Q h S r6 zC zD zF zR xN zS qJ qK qL).symm.trans ee
 refine dD.cons 2 (fun jT q e0 => ?_) ?_
 ·obtain ⟨zC, vs1, rfl, e1⟩ := bA e0
  obtain ⟨zD, vs2, rfl, e2⟩ := bA e1
  obtain ⟨zF, vs3, rfl, e3⟩ := bA e2
  obtain ⟨qJ, vs4, rfl, e4⟩ := bA e3
  obtain ⟨qK, vs5, rfl, e5⟩ := bA e4
  obtain ⟨qL, vs6, rfl, e6⟩ := bA e5
  obtain ⟨rfl, ee⟩ := bT e6
  exact (a9P h S zC zD zF qJ qK qL).symm.trans ee
 exact dD.nil
theorem bG7 : bO Tryz.prog 139 a9O := dA (C := C0) ok0 (pf := aHE) aSN (fn := Tryz.f139) (body := aSP) (kinds := [Kd.v, Kd.v]) (A := aSQ) (T := aY3) (by kernel_rfl) (by kernel_rfl) (by kernel_rfl) (by kernel_rfl) (fun h S => t139 h S)
noncomputable def aSU : PF := JI 139 a9O aHE
theorem aSV : dZ Tryz.prog aSU := jF bG7 aSN
noncomputable def a2Z := o9 139 a9O a2Y
noncomputable def C36 : bP := cfg a2Z
theorem bRS : C36.Ok := fJ (C := C35) bRR bG7
noncomputable def B87 : Code := (Tryz.f87.body).getD .skip
noncomputable def A87 : G.aB (List KI) := (G.aB.node (some (0, [KI.reg 0 (Kd.i .i64), KI.reg 1 (Kd.v)])) G.aB.nil (G.aB.node none G.aB.nil G.aB.nil))
noncomputable def aJO (h : Hp) (S : Nat → aH → Option Value) (r0 : Int) (r1 : Value) : Option Value :=
 wrap64 (Int.sub r0 (Int.ofNat 1)) fun i0 =>
 dG (F63 [(Value.int .i64 (Int.ofNat 0)), (Value.int .i64 i0), r1] h) fun v1 =>
 eB v1 fun b2 =>
 some (Value.bool b2)
noncomputable def T87 (h : Hp) (S : Nat → aH → Option Value) : Nat → aH → Option Value := fI 0 (wI fun r0 => wV fun r1 => wN (aJO h S r0 r1)) (lG)
noncomputable def F87 (args : List Value) (h : Hp) : Option Value := plainO (dK [Kd.i .i64, Kd.v] args fun al => G.aQ (T87 h) 1000000 0 al)
def bG8 : Nat := 2 + (9 - 2)
theorem bG9 (h : Hp) (S : Nat → aH → Option Value) (r0 : Int) (r1 : Value) : aJO h S r0 r1 = G.aF bL aN eY (fA env aSU bG8 h) (fF env Tryz.f87.results.toList) (G.collect B87 A87 []) 0 S (aH.i r0 (aH.v r1 aH.n)) := by kernel_rfl
theorem t87 (h : Hp) (S : Nat → aH → Option Value) : dD (fun l al => G.aF bL aN eY (fA env aSU bG8 h) (fF env Tryz.f87.results.toList) (G.collect B87 A87 []) l S al) (T87 h S) := by
 unfold T87
 refine dD.cons 0 (fun jT q e0 => ?_) ?_
 ·obtain ⟨r0, vs1, rfl, e1⟩ := bA e0
  obtain ⟨r1, vs2, rfl, e2⟩ := bY e1
  obtain ⟨rfl, ee⟩ := bT e2
  exact (bG9 h S r0 r1).symm.trans ee
 exact dD.nil
theorem r87 : bO Tryz.prog 87 F87 := dA (C := C0) ok0 (pf := aSU) aSV (fn := Tryz.f87) (body := B87) (kinds := [Kd.i .i64, Kd.v]) (A := A87) (T := T87) (by kernel_rfl) (by kernel_rfl) (by kernel_rfl) (by kernel_rfl) (fun h S => t87 h S)
noncomputable def aHF : PF := JI 87 F87 aSU
theorem aSW : dZ Tryz.prog aHF := jF r87 aSV
noncomputable def aKO := o9 87 F87 a2Z
noncomputable def C37 : bP := cfg aKO
theorem bRV : C37.Ok := fJ (C := C36) bRS r87
noncomputable def B66 : Code := (Tryz.f66.body).getD .skip
def A66 : aB := (aB.node (some (0, [(0, Kd.v), (1, Kd.i .i64)])) aB.nil (aB.node none aB.nil (aB.node none (aB.node none aB.nil (aB.node none (aB.node none aB.nil aB.nil) aB.nil)) (aB.node none (aB.node none aB.nil (aB.node none (aB.node none aB.nil aB.nil) aB.nil)) (aB.node none aB.nil aB.nil)))))
noncomputable def aJP (S : Sg) (r0 : Value) (r1 : Int) (h : Hp) : bE :=
 fH h 25 (Array.toList (Value.cells r0)) fun a0 h0 =>
 fH h0 102 [(Value.int .i64 (Int.ofNat 0)), (Value.slice none 0 0), (Value.slice none 0 0), (Value.slice none 0 0), (Value.int .i64 (Int.ofNat 0)), (Value.int .i64 (Int.ofNat 0)), (Value.slice none 0 0), (Value.int .i64 (Int.ofNat 0))] fun a1 h1 =>
 cZ 3 h1 a0 fun v2 =>
 bB (iN F62 [v2] h1) fun v3 h3 =>
 lM v3 0 fun v4 =>
 lM v3 1 fun v5 =>
 aT .i64 v5 fun i6 =>
 fH h3 96 [(Value.int .i64 (Int.ofNat 0)), (Value.slice none 0 0), (Value.slice none 0 0)] fun a7 h7 =>
 jM 3 h7 a7 v4 fun h8 =>
 dB (zJ i6 (Int.ofNat 0)) fun b9 =>
 dL b9
 (dG (lK env 102 (List.toArray [])) fun v10 =>
 jM 8 h8 a1 v10 fun h11 =>
 cZ 8 h11 a1 fun v12 => some (Value.tuple (List.toArray [v12, (Value.int .i64 i6)]), h11))
 (aR 0 a7 fun v13 =>
 aR 2 v13 fun v14 =>
 bJ h8 v14 fun v15 =>
 jN v15 fun i16 =>
 bB (bQ env h8 40 1 (List.toArray [(0, (Value.int .i64 r1))])) fun v17 h17 =>
 bB (dG (F87 [(Value.int .i64 i16), v17] h17) fun v => some (v, h17)) fun v18 h18 =>
 eB v18 fun b19 =>
 dB b19 fun b20 =>
 dL b20
 (dG (lK env 102 (List.toArray [])) fun v21 =>
 jM 8 h18 a1 v21 fun h22 =>
 cZ 8 h22 a1 fun v23 => some (Value.tuple (List.toArray [v23, (Value.int .i64 (Int.ofNat 4))]), h22))
 (cZ 3 h18 a7 fun v24 =>
 aR 0 a7 fun v25 =>
 aR 2 v25 fun v26 =>
 bJ h18 v26 fun v27 =>
 kK 5 v27 r1 fun v28 =>
 cZ 5 h18 v28 fun v29 =>
 dG (lK env 102 (List.toArray [(0, v24), (1, v29)])) fun v30 =>
 jM 8 h18 a1 v30 fun h31 =>
 cZ 8 h31 a1 fun v32 => some (Value.tuple (List.toArray [v32, (Value.int .i64 (Int.ofNat 0))]), h31)))
noncomputable def T66 (S : Sg) : Sg := gZ 0 (uV fun r0 => uI fun r1 => uN fun h => aJP S r0 r1 h) (pF)
noncomputable def F66 (args : List Value) (h : Hp) : bE := cB [Kd.v, Kd.i .i64] args fun al => aQ T66 1000000 0 al h
def bHA : Nat := 2 + (34 - 2)
theorem bHB (S : Sg) (r0 : Value) (r1 : Int) (h : Hp) : aJP S r0 r1 h = aF (dO env aKO (bHA)) (dP env Tryz.f66.results.toList) (collect B66 A66 []) 0 S (AL.v r0 (AL.i r1 AL.n)) h := by kernel_rfl
theorem t66 (S : Sg) : iA (fun l vs h => aF (dO env aKO bHA) (dP env Tryz.f66.results.toList) (collect B66 A66 []) l S vs h) (T66 S) := by
 unfold T66
 refine iA.cons 0 (fun jT h q e0 => ?_) ?_
 ·obtain ⟨r0, vs1, rfl, e1⟩ := aP e0
  obtain ⟨r1, vs2, rfl, e2⟩ := cO e1
  obtain ⟨rfl, ee⟩ := bC e2
  exact (bHB S r0 r1 h).symm.trans ee
 exact iA.nil
theorem r66 : ∀ args h v h', F66 args h = some (v, h') → jU (C37) (.call 66 args.toArray h) (.ret v h') := by
 intro args h v h' e
 exact bZ (C := C37) (fn := Tryz.f66) (body := B66) (np := 2) (A := A66) (T := T66) (kinds := [Kd.v, Kd.i .i64]) (by kernel_rfl) (by kernel_rfl) (by kernel_rfl) (by kernel_rfl) (eU fU) (by kernel_rfl) (fun S => t66 S) e
noncomputable def a3A := oI 66 F66 aKO
noncomputable def C38 : bP := cfg a3A
theorem bRY : C38.Ok := eX (C := C37) bRV r66
noncomputable def aSX : Code := (Tryz.f145.body).getD .skip
noncomputable def aSY : G.aB (List KI) := (G.aB.node (some (0, [KI.reg 0 (Kd.v), KI.reg 1 (Kd.v)])) G.aB.nil (G.aB.node none (G.aB.node none G.aB.nil (G.aB.node none (G.aB.node (some (1, [KI.reg 0 (Kd.v), KI.loc 3 3, KI.reg 7 (Kd.i .i64), KI.reg 8 (Kd.i .i64), KI.list 3])) (G.aB.node none G.aB.nil (G.aB.node none (G.aB.node none G.aB.nil G.aB.nil) (G.aB.node none (G.aB.node none (G.aB.node none G.aB.nil (G.aB.node none G.aB.nil (G.aB.node none (G.aB.node none G.aB.nil G.aB.nil) G.aB.nil))) G.aB.nil) G.aB.nil))) G.aB.nil) G.aB.nil)) (G.aB.node (some (2, [])) G.aB.nil G.aB.nil)))
noncomputable def aSZ (h : Hp) (S : Nat → aH → Option Value) : Option Value :=
 some (Value.int .i64 (Int.negSucc 0))
noncomputable def aS0 (h : Hp) (S : Nat → aH → Option Value) (r0 : Value) (r7 : Int) (r8 : Int) (c3 : List Value) : Option Value :=
 eO (qH r8 r7) fun b0 =>
 dL b0
 (nT c3 0 fun d1 => nH d1 5 fun l1 =>
 kK 5 r0 r8 fun v2 =>
 cZ 5 h v2 fun v3 =>
 dG (rY env .eql 118 (Operand.tmp 11) (Operand.tmp 15) (Value.agg (Array.mk l1)) v3) fun v4 =>
 eB v4 fun b5 =>
 dL b5
 (some (Value.int .i64 r8))
 (wrap64 (Int.add r8 (Int.ofNat 1)) fun i6 =>
 S 1 (aH.v r0 (aH.i r7 (aH.i i6 (aH.l c3 aH.n))))))
 (S 2 aH.n)
noncomputable def aS1 (h : Hp) (S : Nat → aH → Option Value) (r0 : Value) (r1 : Value) : Option Value :=
 jC (Array.toList (Value.cells r1)) fun c0 =>
 jN r0 fun i1 =>
 S 1 (aH.v r0 (aH.i i1 (aH.i (Int.ofNat 0) (aH.l c0 aH.n))))
noncomputable def aY4 (h : Hp) (S : Nat → aH → Option Value) : Nat → aH → Option Value := fI 0 (wV fun r0 => wV fun r1 => wN (aS1 h S r0 r1)) (fI 1 (wV fun r0 => wI fun r7 => wI fun r8 => wL fun c3 => wN (aS0 h S r0 r7 r8 c3)) (fI 2 (wN (aSZ h S)) (lG)))
noncomputable def aY5 (args : List Value) (h : Hp) : Option Value := plainO (dK [Kd.v, Kd.v] args fun al => G.aQ (aY4 h) 1000000 0 al)
def aKP : Nat := 2 + (19 - 2)
theorem a9S (h : Hp) (S : Nat → aH → Option Value) : aSZ h S = G.aF bL aN eY (fA env aHF aKP h) (fF env Tryz.f145.results.toList) (G.collect aSX aSY []) 2 S aH.n := by kernel_rfl
theorem a9T (h : Hp) (S : Nat → aH → Option Value) (r0 : Value) (r7 : Int) (r8 : Int) (c3 : List Value) : aS0 h S r0 r7 r8 c3 = G.aF bL aN eY (fA env aHF aKP h) (fF env Tryz.f145.results.toList) (G.collect aSX aSY []) 1 S (aH.v r0 (aH.i r7 (aH.i r8 (aH.l c3 aH.n)))) := by kernel_rfl
theorem a9U (h : Hp) (S : Nat → aH → Option Value) (r0 : Value) (r1 : Value) : aS1 h S r0 r1 = G.aF bL aN eY (fA env aHF aKP h) (fF env Tryz.f145.results.toList) (G.collect aSX aSY []) 0 S (aH.v r0 (aH.v r1 aH.n)) := by kernel_rfl
theorem t145 (h : Hp) (S : Nat → aH → Option Value) : dD (fun l al => G.aF bL aN eY (fA env aHF aKP h) (fF env Tryz.f145.results.toList) (G.collect aSX aSY []) l S al) (aY4 h S) := by
 unfold aY4
 refine dD.cons 0 (fun jT q e0 => ?_) ?_
 ·obtain ⟨r0, vs1, rfl, e1⟩ := bY e0
  obtain ⟨r1, vs2, rfl, e2⟩ := bY e1
  obtain ⟨rfl, ee⟩ := bT e2
  exact (a9U h S r0 r1).symm.trans ee
 refine dD.cons 1 (fun jT q e0 => ?_) ?_
 ·obtain ⟨r0, vs1, rfl, e1⟩ := bY e0
  obtain ⟨r7, vs2, rfl, e2⟩ := bA e1
  obtain ⟨r8, vs3, rfl, e3⟩ := bA e2
  obtain ⟨c3, vs4, rfl, e4⟩ := aI6 e3
  obtain ⟨rfl, ee⟩ := bT e4
  exact (a9T h S r0 r7 r8 c3).symm.trans ee
 refine dD.cons 2 (fun jT q e0 => ?_) ?_
 ·
  obtain ⟨rfl, ee⟩ := bT e0
  exact (a9S h S).symm.trans ee
 exact dD.nil
theorem bHC : bO Tryz.prog 145 aY5 := dA (C := C0) ok0 (pf := aHF) aSW (fn := Tryz.f145) (body := aSX) (kinds := [Kd.v, Kd.v]) (A := aSY) (T := aY4) (by kernel_rfl) (by kernel_rfl) (by kernel_rfl) (by kernel_rfl) (fun h S => t145 h S)
noncomputable def aS2 : PF := JI 145 aY5 aHF
theorem aS3 : dZ Tryz.prog aS2 := jF bHC aSW
noncomputable def a3B := o9 145 aY5 a3A
noncomputable def C39 : bP := cfg a3B
theorem bRZ : C39.Ok := fJ (C := C38) bRY bHC
noncomputable def a9V : Code := (Tryz.f123.body).getD .skip
noncomputable def a9W : G.aB (List KI) := (G.aB.node (some (0, [KI.reg 0 (Kd.v), KI.reg 1 (Kd.v)])) G.aB.nil (G.aB.node none G.aB.nil G.aB.nil))
noncomputable def aS4 (h : Hp) (S : Nat → aH → Option Value) (r0 : Value) (r1 : Value) : Option Value :=
 jC (Array.toList (Value.cells r1)) fun c0 =>
 nT c0 0 fun d1 => nH d1 5 fun l1 =>
 dG (aY5 [r0, (Value.agg (Array.mk l1))] h) fun v2 =>
 aT .i64 v2 fun i3 =>
 dB (qH i3 (Int.ofNat 0)) fun b4 =>
 some (Value.bool b4)
noncomputable def aY6 (h : Hp) (S : Nat → aH → Option Value) : Nat → aH → Option Value := fI 0 (wV fun r0 => wV fun r1 => wN (aS4 h S r0 r1)) (lG)
noncomputable def a9X (args : List Value) (h : Hp) : Option Value := plainO (dK [Kd.v, Kd.v] args fun al => G.aQ (aY6 h) 1000000 0 al)
def a3C : Nat := 2 + (9 - 2)
theorem a9Y (h : Hp) (S : Nat → aH → Option Value) (r0 : Value) (r1 : Value) : aS4 h S r0 r1 = G.aF bL aN eY (fA env aS2 a3C h) (fF env Tryz.f123.results.toList) (G.collect a9V a9W []) 0 S (aH.v r0 (aH.v r1 aH.n)) := by kernel_rfl
theorem t123 (h : Hp) (S : Nat → aH → Option Value) : dD (fun l al => G.aF bL aN eY (fA env aS2 a3C h) (fF env Tryz.f123.results.toList) (G.collect a9V a9W []) l S al) (aY6 h S) := by
 unfold aY6
 refine dD.cons 0 (fun jT q e0 => ?_) ?_
 ·obtain ⟨r0, vs1, rfl, e1⟩ := bY e0
  obtain ⟨r1, vs2, rfl, e2⟩ := bY e1
  obtain ⟨rfl, ee⟩ := bT e2
  exact (a9Y h S r0 r1).symm.trans ee
 exact dD.nil
theorem bHD : bO Tryz.prog 123 a9X := dA (C := C0) ok0 (pf := aS2) aS3 (fn := Tryz.f123) (body := a9V) (kinds := [Kd.v, Kd.v]) (A := a9W) (T := aY6) (by kernel_rfl) (by kernel_rfl) (by kernel_rfl) (by kernel_rfl) (fun h S => t123 h S)
noncomputable def aS5 : PF := JI 123 a9X aS2
theorem aS6 : dZ Tryz.prog aS5 := jF bHD aS3
noncomputable def a3D := o9 123 a9X a3B
noncomputable def C40 : bP := cfg a3D
theorem bR0 : C40.Ok := fJ (C := C39) bRZ bHD
noncomputable def a9Z : Code := (Tryz.f117.body).getD .skip
noncomputable def a90 : G.aB (List KI) := (G.aB.node (some (0, [KI.reg 0 (Kd.i .i64), KI.reg 1 (Kd.i .i64)])) G.aB.nil (G.aB.node none G.aB.nil G.aB.nil))
noncomputable def aS7 (h : Hp) (S : Nat → aH → Option Value) (r0 : Int) (r1 : Int) : Option Value :=
 aXG .i64 r0 r1 (PN (lD env .shr 3 (Value.int .i64 r0) (Value.int .i64 r1)) (Value.int .i64 r0) (Value.int .i64 r1)) fun i0 =>
 aXF .i64 i0 (Int.ofNat 1) (TB (lD env .and 3 (Value.int .i64 i0) (Value.int .i64 (Int.ofNat 1))) (Value.int .i64 i0) (Value.int .i64 (Int.ofNat 1))) fun i1 =>
 eO (zJ i1 (Int.ofNat 1)) fun b2 =>
 some (Value.bool b2)
noncomputable def aY7 (h : Hp) (S : Nat → aH → Option Value) : Nat → aH → Option Value := fI 0 (wI fun r0 => wI fun r1 => wN (aS7 h S r0 r1)) (lG)
noncomputable def a92 (args : List Value) (h : Hp) : Option Value := plainO (dK [Kd.i .i64, Kd.i .i64] args fun al => G.aQ (aY7 h) 1000000 0 al)
def a3E : Nat := 2 + (10 - 2)
theorem a94 (h : Hp) (S : Nat → aH → Option Value) (r0 : Int) (r1 : Int) : aS7 h S r0 r1 = G.aF bL aN eY (fA env aS5 a3E h) (fF env Tryz.f117.results.toList) (G.collect a9Z a90 []) 0 S (aH.i r0 (aH.i r1 aH.n)) := by kernel_rfl
theorem t117 (h : Hp) (S : Nat → aH → Option Value) : dD (fun l al => G.aF bL aN eY (fA env aS5 a3E h) (fF env Tryz.f117.results.toList) (G.collect a9Z a90 []) l S al) (aY7 h S) := by
 unfold aY7
 refine dD.cons 0 (fun jT q e0 => ?_) ?_
 ·obtain ⟨r0, vs1, rfl, e1⟩ := bA e0
  obtain ⟨r1, vs2, rfl, e2⟩ := bA e1
  obtain ⟨rfl, ee⟩ := bT e2
  exact (a94 h S r0 r1).symm.trans ee
 exact dD.nil
theorem bHE : bO Tryz.prog 117 a92 := dA (C := C0) ok0 (pf := aS5) aS6 (fn := Tryz.f117) (body := a9Z) (kinds := [Kd.i .i64, Kd.i .i64]) (A := a90) (T := aY7) (by kernel_rfl) (by kernel_rfl) (by kernel_rfl) (by kernel_rfl) (fun h S => t117 h S)
noncomputable def bHF : PF := JI 117 a92 aS5
theorem a95 : dZ Tryz.prog bHF := jF bHE aS6
noncomputable def aKQ := o9 117 a92 a3D
noncomputable def C41 : bP := cfg aKQ
theorem bR1 : C41.Ok := fJ (C := C40) bR0 bHE
noncomputable def B17 : Code := (Tryz.f17.body).getD .skip
def A17 : aB := (aB.node (some (0, [(0, Kd.v), (1, Kd.i .i64)])) aB.nil (aB.node none aB.nil (aB.node none (aB.node none aB.nil (aB.node none (aB.node none aB.nil aB.nil) aB.nil)) (aB.node none aB.nil aB.nil))))
noncomputable def aJQ (S : Sg) (r0 : Value) (r1 : Int) (h : Hp) : bE :=
 fH h 25 (Array.toList (Value.cells r0)) fun a0 h0 =>
 cZ 3 h0 a0 fun v1 =>
 bB (iN F66 [v1, (Value.int .i64 r1)] h0) fun v2 h2 =>
 lM v2 0 fun v3 =>
 lM v2 1 fun v4 =>
 aT .i64 v4 fun i5 =>
 fH h2 102 [(Value.int .i64 (Int.ofNat 0)), (Value.slice none 0 0), (Value.slice none 0 0), (Value.slice none 0 0), (Value.int .i64 (Int.ofNat 0)), (Value.int .i64 (Int.ofNat 0)), (Value.slice none 0 0), (Value.int .i64 (Int.ofNat 0))] fun a6 h6 =>
 jM 8 h6 a6 v3 fun h7 =>
 dB (zJ i5 (Int.ofNat 0)) fun b8 =>
 dL b8
 (some (Value.tuple (List.toArray [(Value.int .i64 (Int.ofNat 0)), (Value.int .i64 (Int.ofNat 0)), (Value.int .i64 i5)]), h7))
 (cZ 8 h7 a6 fun v9 =>
 bB (bB (dG (F67 [v9] (Hp.mk (Hp.next h7) (Hp.next h7) (Hp.aK h7))) fun v => some (v, (Hp.mk (Hp.next h7) (Hp.next h7) (Hp.aK h7)))) fun v _ => dL (nK v) (some (v, h7)) none) fun v10 h10 =>
 aT .i64 v10 fun i11 =>
 aR 0 a6 fun v12 =>
 cZ 3 h10 v12 fun v13 =>
 aR 3 a6 fun v14 =>
 aR 0 v14 fun v15 =>
 bJ h10 v15 fun v16 =>
 bB (bB (dG (F68 [v16] (Hp.mk (Hp.next h10) (Hp.next h10) (Hp.aK h10))) fun v => some (v, (Hp.mk (Hp.next h10) (Hp.next h10) (Hp.aK h10)))) fun v _ => dL (nK v) (some (v, h10)) none) fun v17 h17 =>
 aT .i64 v17 fun i18 =>
 bB (dG (F64 [v13, (Value.int .i64 i18)] h17) fun v => some (v, h17)) fun v19 h19 =>
 aT .i64 v19 fun i20 =>
 some (Value.tuple (List.toArray [(Value.int .i64 i11), (Value.int .i64 i20), (Value.int .i64 (Int.ofNat 0))]), h19))
noncomputable def T17 (S : Sg) : Sg := gZ 0 (uV fun r0 => uI fun r1 => uN fun h => aJQ S r0 r1 h) (pF)
noncomputable def F17 (args : List Value) (h : Hp) : bE := cB [Kd.v, Kd.i .i64] args fun al => aQ T17 1000000 0 al h
def bHG : Nat := 2 + (26 - 2)
theorem bHH (S : Sg) (r0 : Value) (r1 : Int) (h : Hp) : aJQ S r0 r1 h = aF (dO env aKQ (bHG)) (dP env Tryz.f17.results.toList) (collect B17 A17 []) 0 S (AL.v r0 (AL.i r1 AL.n)) h := by kernel_rfl
theorem t17 (S : Sg) : iA (fun l vs h => aF (dO env aKQ bHG) (dP env Tryz.f17.results.toList) (collect B17 A17 []) l S vs h) (T17 S) := by
 unfold T17
 refine iA.cons 0 (fun jT h q e0 => ?_) ?_
 ·obtain ⟨r0, vs1, rfl, e1⟩ := aP e0
  obtain ⟨r1, vs2, rfl, e2⟩ := cO e1
  obtain ⟨rfl, ee⟩ := bC e2
  exact (bHH S r0 r1 h).symm.trans ee
 exact iA.nil
theorem r17 : ∀ args h v h', F17 args h = some (v, h') → jU (C41) (.call 17 args.toArray h) (.ret v h') := by
 intro args h v h' e
 exact bZ (C := C41) (fn := Tryz.f17) (body := B17) (np := 2) (A := A17) (T := T17) (kinds := [Kd.v, Kd.i .i64]) (by kernel_rfl) (by kernel_rfl) (by kernel_rfl) (by kernel_rfl) (eU fU) (by kernel_rfl) (fun S => t17 S) e
noncomputable def aS8 := oI 17 F17 aKQ
noncomputable def C42 : bP := cfg aS8
theorem bHI : C42.Ok := eX (C := C41) bR1 r17
noncomputable abbrev bHJ := aS8
theorem okE : (cfg bHJ).Ok := bHI
end Go.Proofs.YtgomkbcokgeciaaGreat.K
