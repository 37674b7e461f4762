/- Functions told for the law. -/
import Derived.Test.YtdpicdnpiihaaaaOrToldV
open Go Go.bI
set_option maxRecDepth 100000
set_option linter.unusedVariables false
namespace Go.Proofs.Ytdpicdnpiihaaaa.K.L
noncomputable def B20 : Code := (Try.f20.body).getD .skip
noncomputable def A20 : G.eU (List KI) := (Gm 0 [.reg 0 .v, .reg 1 .v] Gz (Gn Gz (Gn (Gn Gz (Gn (Gm 1 [.reg 0 .v, .reg 1 .v, .reg 5 .b, .reg 6 (.i .i64)] (Gn (Gn Gz Gy) (Gm 2 [.reg 0 .v, .reg 1 .v, .reg 6 (.i .i64)] Gy Gz)) Gz) Gz)) (Gm 3 [.reg 5 .b] Gz Gz))))
noncomputable def a5Y (h : Hp) (S : Nat → aD → Option Value) (r5 : Bool) : Option Value :=
 some (Value.bool r5)
noncomputable def aNO (h : Hp) (S : Nat → aD → Option Value) (r0 r1 : Value) (r6 : Int) : Option Value :=
 dN 1 r0 r6 fun v0 =>
 aJ h v0 fun v1 =>
 aS .i64 v1 fun i2 =>
 dN 1 r1 r6 fun v3 =>
 aJ h v3 fun v4 =>
 aS .i64 v4 fun i5 =>
 bH (jV i2 i5) fun b6 =>
 wrap64 (Int.add r6 (Int.ofNat 1)) fun i7 =>
 S 1 (aD.v r0 (aD.v r1 (aD.b b6 (aD.i i7 aD.n))))
noncomputable def aE0 (h : Hp) (S : Nat → aD → Option Value) (r0 r1 : Value) (r5 : Bool) (r6 : Int) : Option Value :=
 bU r5
 (bS r0 fun i0 =>
 bH (lM r6 i0) fun b1 =>
 bU b1
 (S 2 (aD.v r0 (aD.v r1 (aD.i r6 aD.n))))
 (S 3 (aD.b r5 aD.n)))
 (S 3 (aD.b r5 aD.n))
noncomputable def aNP (h : Hp) (S : Nat → aD → Option Value) (r0 r1 : Value) : Option Value :=
 bS r0 fun i0 =>
 bS r1 fun i1 =>
 bH (jV i0 i1) fun b2 =>
 S 1 (aD.v r0 (aD.v r1 (aD.b b2 (aD.i (Int.ofNat 0) aD.n))))
noncomputable def T20 (h : Hp) (S : Nat → aD → Option Value) : Nat → aD → Option Value := dQ 0 (wV fun r0 => wV fun r1 => wN (aNP h S r0 r1)) (dQ 1 (wV fun r0 => wV fun r1 => wB fun r5 => wI fun r6 => wN (aE0 h S r0 r1 r5 r6)) (dQ 2 (wV fun r0 => wV fun r1 => wI fun r6 => wN (aNO h S r0 r1 r6)) (dQ 3 (wB fun r5 => wN (a5Y h S r5)) (kR))))
noncomputable def F20 (args : List Value) (h : Hp) : Option Value := plainO (dU [Kd.v, Kd.v] args fun al => G.aN (T20 h) 1000000 0 al)
def bH5 : Nat := 2 + (31 - 2)
theorem t20 (h : Hp) (S : Nat → aD → Option Value) : gY (fun l al => G.aX iD dD oG (oN env aRS bH5 h) (pO env Try.f20.results.toList) (G.collect B20 A20 []) l S al) (T20 h S) := by
 unfold T20
 exact dV (mJ fun _ => mJ fun _ => oC (by kernel_rfl)) <| dV (mJ fun _ => mJ fun _ => rpB fun _ => kC fun _ => oC (by kernel_rfl)) <| dV (mJ fun _ => mJ fun _ => kC fun _ => oC (by kernel_rfl)) <| dV (rpB fun _ => oC (by kernel_rfl)) <| gY.nil
theorem ME : fV Try.prog 20 F20 := dK (C := C0) ok0 (pf := aRS) aNJ (fn := Try.f20) (body := B20) (kinds := [Kd.v, Kd.v]) (A := A20) (T := T20) (by kernel_rfl) (by kernel_rfl) (by kernel_rfl) (by kernel_rfl) (fun h S => t20 h S)
noncomputable def bH6 : PF := EI 20 F20 aRS
theorem bH7 : eF Try.prog bH6 := iN ME aNJ
noncomputable def aNR := oO 20 F20 aTZ
noncomputable def C78 : dP := cfg aNR
theorem a5Z : C78.Ok := fQ (C := C77) bH4 ME
noncomputable def B15 : Code := (Try.f15.body).getD .skip
def A15 : eU := (Am 0 [(0, .v)] Ao (An (An Ao (An Az Ao)) (An Ao (An Ao (An (An Ao (An (Am 1 [(1, .v), (3, .v), (4, .v), (5, .i .i64)] (An (An Ao Az) (An Az Ao)) Ao) Ao)) (Am 9 [(1, .v), (3, .v), (4, .v)] (An Ao (An (Am 2 [(1, .v), (3, .v), (4, .v), (6, .i .i64)] (An (An Ao Az) (An Az Ao)) Ao) Ao)) (Am 8 [(1, .v), (3, .v), (4, .v)] Ao (An Ao (An Ao (An Ao (An Ao (An (An Ao (An (Am 3 [(4, .v), (7, .v), (8, .i .i64), (9, .i .i64), (11, .i .i64), (12, .i .i64), (13, .v), (14, .i .i64), (15, .i .i64), (16, .v), (17, .i .i64), (18, .i .i64), (19, .i .i64), (20, .i .i64)] (An (An Ao Az) (Am 4 [(4, .v), (7, .v), (8, .i .i64), (9, .i .i64), (11, .i .i64), (12, .i .i64), (13, .v), (14, .i .i64), (15, .i .i64), (16, .v), (17, .i .i64), (18, .i .i64), (19, .i .i64), (20, .i .i64)] Az Ao)) Ao) Ao)) (Am 7 [(4, .v), (7, .v), (8, .i .i64), (9, .i .i64), (11, .i .i64), (12, .i .i64), (13, .v), (14, .i .i64), (15, .i .i64), (16, .v), (17, .i .i64), (18, .i .i64), (19, .i .i64)] (An Ao (Am 5 [(4, .v), (7, .v), (8, .i .i64), (9, .i .i64), (147, .b)] Az Ao)) (Am 6 [(4, .v), (7, .v), (8, .i .i64), (9, .i .i64)] (An Ao (An Az Ao)) (An Ao Az)))))))))))))))
noncomputable def aNS (S : Sg) (r4 r7 : Value) (r8 r9 : Int) (h : Hp) : aF :=
 aT 4 h r4 fun v0 =>
 aK (bQ F37 [v0] h) fun v1 h1 =>
 dH v1 fun b2 =>
 bA b2 fun b3 =>
 bU b3
 (aK (bR (D9 [] h1) fun v => some (v, h1)) fun v4 h4 =>
 dH v4 fun b5 =>
 some ((Value.bool b5), h4))
 (aT 4 h1 r4 fun v6 =>
 aK (bQ F26 [v6] h1) fun v7 h7 =>
 eB v7 0 fun v8 =>
 eB v7 1 fun v9 =>
 aS .i64 v9 fun i10 =>
 eB v7 2 fun v11 =>
 aS .i64 v11 fun i12 =>
 aK (bR (F20 [v8, r7] h7) fun v => some (v, h7)) fun v13 zT =>
 dH v13 fun b14 =>
 bU b14
 (wrap64 (Int.mul (Int.ofNat 2) r8) fun i15 =>
 bH (jV i10 i15) fun b16 =>
 bU b16
 (bH (jV i12 r9) fun b17 =>
 bU b17
 (aK (bR (D9 [] zT) fun v => some (v, zT)) fun v18 h18 =>
 dH v18 fun b19 =>
 some ((Value.bool b19), h18))
 (some ((Value.bool false), zT)))
 (some ((Value.bool false), zT)))
 (some ((Value.bool false), zT)))
noncomputable def aNT (S : Sg) (r4 r7 : Value) (r8 r9 : Int) (aWG : Bool) (h : Hp) : aF :=
 bU aWG
 (some ((Value.bool false), h))
 (S 6 (AL.v r4 (AL.v r7 (AL.i r8 (AL.i r9 AL.n)))) h)
noncomputable def aNU (S : Sg) (r4 r7 : Value) (r8 r9 : Int) (jB mO : Int) (tQ : Value) (GA FT : Int) (r16 : Value) (sI MW JZ : Int) (h : Hp) : aF :=
 bA (jV r8 jB) fun b0 =>
 bU b0
 (S 5 (AL.v r4 (AL.v r7 (AL.i r8 (AL.i r9 (AL.b true AL.n))))) h)
 (bA (jV r9 mO) fun b1 =>
 bU b1
 (S 5 (AL.v r4 (AL.v r7 (AL.i r8 (AL.i r9 (AL.b true AL.n))))) h)
 (bS tQ fun i2 =>
 bS r16 fun i3 =>
 bA (jV i2 i3) fun b4 =>
 bU b4
 (S 5 (AL.v r4 (AL.v r7 (AL.i r8 (AL.i r9 (AL.b true AL.n))))) h)
 (bA (jV JZ (Int.ofNat 0)) fun b5 =>
 bU b5
 (S 5 (AL.v r4 (AL.v r7 (AL.i r8 (AL.i r9 (AL.b true AL.n))))) h)
 (bA (jV GA sI) fun b6 =>
 bU b6
 (S 5 (AL.v r4 (AL.v r7 (AL.i r8 (AL.i r9 (AL.b true AL.n))))) h)
 (bA (jV FT MW) fun b7 =>
 S 5 (AL.v r4 (AL.v r7 (AL.i r8 (AL.i r9 (AL.b b7 AL.n))))) h)))))
noncomputable def aNV (S : Sg) (r4 r7 : Value) (r8 r9 : Int) (jB mO : Int) (tQ : Value) (GA FT : Int) (r16 : Value) (sI MW : Int) (JZ ME : Int) (h : Hp) : aF :=
 dN 1 tQ ME fun v0 =>
 aJ h v0 fun v1 =>
 aS .i64 v1 fun i2 =>
 wrap64 (Int.add JZ i2) fun i3 =>
 dN 1 r16 ME fun v4 =>
 aJ h v4 fun v5 =>
 aS .i64 v5 fun i6 =>
 wrap64 (Int.sub i3 i6) fun i7 =>
 wrap64 (Int.add ME (Int.ofNat 1)) fun i8 =>
 S 3 (AL.v r4 (AL.v r7 (AL.i r8 (AL.i r9 (AL.i jB (AL.i mO (AL.v tQ (AL.i GA (AL.i FT (AL.v r16 (AL.i sI (AL.i MW (AL.i i7 (AL.i i8 AL.n)))))))))))))) h
noncomputable def aE1 (S : Sg) (r4 r7 : Value) (r8 r9 : Int) (jB mO : Int) (tQ : Value) (GA FT : Int) (r16 : Value) (sI MW : Int) (JZ ME : Int) (h : Hp) : aF :=
 bS tQ fun i0 =>
 bH (lM ME i0) fun b1 =>
 bU b1
 (bS r16 fun i2 =>
 bH (lM ME i2) fun b3 =>
 bU b3
 (S 4 (AL.v r4 (AL.v r7 (AL.i r8 (AL.i r9 (AL.i jB (AL.i mO (AL.v tQ (AL.i GA (AL.i FT (AL.v r16 (AL.i sI (AL.i MW (AL.i JZ (AL.i ME AL.n)))))))))))))) h)
 (S 7 (AL.v r4 (AL.v r7 (AL.i r8 (AL.i r9 (AL.i jB (AL.i mO (AL.v tQ (AL.i GA (AL.i FT (AL.v r16 (AL.i sI (AL.i MW (AL.i JZ AL.n))))))))))))) h))
 (S 7 (AL.v r4 (AL.v r7 (AL.i r8 (AL.i r9 (AL.i jB (AL.i mO (AL.v tQ (AL.i GA (AL.i FT (AL.v r16 (AL.i sI (AL.i MW (AL.i JZ AL.n))))))))))))) h)
noncomputable def aNW (S : Sg) (r1 r3 r4 : Value) (h : Hp) : aF :=
 aT 4 h r1 fun v0 =>
 aK (bQ F26 [v0] h) fun v1 h1 =>
 eB v1 0 fun v2 =>
 eB v1 1 fun v3 =>
 aS .i64 v3 fun i4 =>
 eB v1 2 fun v5 =>
 aS .i64 v5 fun i6 =>
 aT 4 h1 r3 fun v7 =>
 aK (bQ F26 [v7] h1) fun v8 h8 =>
 eB v8 0 fun v9 =>
 eB v8 1 fun v10 =>
 aS .i64 v10 fun i11 =>
 eB v8 2 fun v12 =>
 aS .i64 v12 fun i13 =>
 aT 4 h8 r1 fun v14 =>
 aK (bQ F34 [v14] h8) fun v15 h15 =>
 eB v15 0 fun v16 =>
 eB v15 1 fun v17 =>
 aS .i64 v17 fun i18 =>
 eB v15 2 fun v19 =>
 aS .i64 v19 fun i20 =>
 aT 4 h15 r3 fun v21 =>
 aK (bQ F34 [v21] h15) fun v22 h22 =>
 eB v22 0 fun v23 =>
 eB v22 1 fun v24 =>
 aS .i64 v24 fun i25 =>
 eB v22 2 fun v26 =>
 aS .i64 v26 fun i27 =>
 S 3 (AL.v r4 (AL.v v2 (AL.i i4 (AL.i i6 (AL.i i11 (AL.i i13 (AL.v v16 (AL.i i18 (AL.i i20 (AL.v v23 (AL.i i25 (AL.i i27 (AL.i (Int.ofNat 0) (AL.i (Int.ofNat 0) AL.n)))))))))))))) h22
noncomputable def aE2 (S : Sg) (r1 r3 r4 : Value) (r6 : Int) (h : Hp) : aF :=
 aO 0 r1 fun v0 =>
 aJ h v0 fun v1 =>
 bS v1 fun i2 =>
 bH (lM r6 i2) fun b3 =>
 bU b3
 (aK (aU env (Hp.mk (Hp.next h) (Hp.next h) T.nil) 22 0 (List.toArray [])) fun v4 h4 =>
 eP v4 (Hp.next h) h4 fun w5 n5 =>
 aO 0 r4 fun v6 =>
 aJ (Hp.mk n5 n5 (Hp.aC h)) v6 fun v7 =>
 aK (cB env (Hp.mk n5 n5 (aG w5 (Hp.aC h))) #[22, 22] (List.toArray [v4, v7])) fun v8 h8 =>
 eP v8 n5 h8 fun w9 n9 =>
 aO 0 r1 fun v10 =>
 aJ (Hp.mk n9 n9 (Hp.aC h)) v10 fun v11 =>
 dN 1 v11 r6 fun v12 =>
 aJ (Hp.mk n9 n9 (Hp.aC h)) v12 fun v13 =>
 aS .i64 v13 fun i14 =>
 wrap64 (Int.mul (Int.ofNat 2) i14) fun i15 =>
 aK (aU env (Hp.mk n9 n9 T.nil) 22 1 (List.toArray [(0, (Value.int .i64 i15))])) fun v16 h16 =>
 eP v16 n9 h16 fun w17 n17 =>
 aK (cB env (Hp.mk n17 (Hp.ro h) (aG w17 (aG w9 (aG w5 (Hp.aC h))))) #[22, 22] (List.toArray [v8, v16])) fun v18 h18 =>
 aO 0 r4 fun v19 =>
 iB h18 v19 v18 fun h20 =>
 wrap64 (Int.add r6 (Int.ofNat 1)) fun i21 =>
 S 2 (AL.v r1 (AL.v r3 (AL.v r4 (AL.i i21 AL.n)))) h20)
 (S 8 (AL.v r1 (AL.v r3 (AL.v r4 AL.n))) h)
noncomputable def a6A (S : Sg) (r1 r3 r4 : Value) (h : Hp) : aF :=
 S 2 (AL.v r1 (AL.v r3 (AL.v r4 (AL.i (Int.ofNat 0) AL.n)))) h
noncomputable def aE3 (S : Sg) (r1 r3 r4 : Value) (r5 : Int) (h : Hp) : aF :=
 bA (lM r5 (Int.ofNat 0)) fun b0 =>
 bU b0
 (aK (aU env (Hp.mk (Hp.next h) (Hp.next h) T.nil) 23 0 (List.toArray [])) fun v1 h1 =>
 eP v1 (Hp.next h) h1 fun w2 n2 =>
 aO 2 r3 fun v3 =>
 aJ (Hp.mk n2 n2 (Hp.aC h)) v3 fun v4 =>
 aK (cB env (Hp.mk n2 n2 (aG w2 (Hp.aC h))) #[23, 23] (List.toArray [v1, v4])) fun v5 h5 =>
 eP v5 n2 h5 fun w6 n6 =>
 aO 2 r1 fun v7 =>
 aJ (Hp.mk n6 n6 (Hp.aC h)) v7 fun v8 =>
 dN 3 v8 r5 fun v9 =>
 aT 3 (Hp.mk n6 n6 (Hp.aC h)) v9 fun v10 =>
 aK (aU env (Hp.mk n6 n6 T.nil) 23 1 (List.toArray [(0, v10)])) fun v11 h11 =>
 eP v11 n6 h11 fun QY n12 =>
 aK (cB env (Hp.mk n12 (Hp.ro h) (aG QY (aG w6 (aG w2 (Hp.aC h))))) #[23, 23] (List.toArray [v5, v11])) fun v13 zT =>
 aO 2 r3 fun v14 =>
 iB zT v14 v13 fun h15 =>
 wrap64 (Int.sub r5 (Int.ofNat 1)) fun i16 =>
 S 1 (AL.v r1 (AL.v r3 (AL.v r4 (AL.i i16 AL.n)))) h15)
 (S 9 (AL.v r1 (AL.v r3 (AL.v r4 AL.n))) h)
noncomputable def aNX (S : Sg) (r0 : Value) (h : Hp) : aF :=
 bC h 25 (Array.toList (Value.cells r0)) fun a0 h0 =>
 aT 4 h0 a0 fun v1 =>
 aK (bQ F37 [v1] h0) fun v2 h2 =>
 dH v2 fun b3 =>
 bA b3 fun b4 =>
 bU b4
 (aK (bR (D9 [] h2) fun v => some (v, h2)) fun v5 h5 =>
 dH v5 fun b6 =>
 some ((Value.bool b6), h5))
 (aT 4 (Hp.mk (Hp.next h2) (Hp.next h2) (Hp.aC h2)) a0 fun v7 =>
 aT 4 (Hp.mk (Hp.next h2) (Hp.next h2) (Hp.aC h2)) a0 fun v8 =>
 bC (Hp.mk (Hp.next h2) (Hp.next h2) T.nil) 25 [(Value.slice none 0 0), (Value.slice none 0 0), (Value.slice none 0 0), (Value.slice none 0 0)] fun a9 h9 =>
 eP a9 (Hp.next h2) h9 fun TV n10 =>
 bC (Hp.mk n10 n10 T.nil) 25 [(Value.slice none 0 0), (Value.slice none 0 0), (Value.slice none 0 0), (Value.slice none 0 0)] fun a11 h11 =>
 eP a11 n10 h11 fun QY n12 =>
 uH env 25 a9 v7 n12 (Hp.next h2) (aG QY (aG TV (Hp.aC h2))) (fun b => (fI [] b || (fI TV b || (fI QY b || false)))) fun w13 =>
 dY 4 (Hp.mk n12 (Hp.ro h2) (aG w13 (aG QY (aG TV (Hp.aC h2))))) a11 v8 fun ZB =>
 aO 2 a9 fun v15 =>
 iB ZB v15 (Value.slice none 0 0) fun h16 =>
 aO 0 a11 fun v17 =>
 iB h16 v17 (Value.slice none 0 0) fun h18 =>
 aO 2 a0 fun v19 =>
 aJ h18 v19 fun v20 =>
 bS v20 fun i21 =>
 wrap64 (Int.sub i21 (Int.ofNat 1)) fun i22 =>
 S 1 (AL.v a0 (AL.v a9 (AL.v a11 (AL.i i22 AL.n)))) h18)
noncomputable def EP (S : Sg) : Sg := bV 0 (uV fun r0 => uN (aNX S r0)) (bV 1 (uV fun r1 => uV fun r3 => uV fun r4 => uI fun r5 => uN (aE3 S r1 r3 r4 r5)) (bV 9 (uV fun r1 => uV fun r3 => uV fun r4 => uN (a6A S r1 r3 r4)) (bV 2 (uV fun r1 => uV fun r3 => uV fun r4 => uI fun r6 => uN (aE2 S r1 r3 r4 r6)) (bV 8 (uV fun r1 => uV fun r3 => uV fun r4 => uN (aNW S r1 r3 r4)) (bV 3 (uV fun r4 => uV fun r7 => uI fun r8 => uI fun r9 => uI fun jB => uI fun mO => uV fun tQ => uI fun GA => uI fun FT => uV fun r16 => uI fun sI => uI fun MW => uI fun JZ => uI fun ME => uN (aE1 S r4 r7 r8 r9 jB mO tQ GA FT r16 sI MW JZ ME)) (bV 4 (uV fun r4 => uV fun r7 => uI fun r8 => uI fun r9 => uI fun jB => uI fun mO => uV fun tQ => uI fun GA => uI fun FT => uV fun r16 => uI fun sI => uI fun MW => uI fun JZ => uI fun ME => uN (aNV S r4 r7 r8 r9 jB mO tQ GA FT r16 sI MW JZ ME)) (bV 7 (uV fun r4 => uV fun r7 => uI fun r8 => uI fun r9 => uI fun jB => uI fun mO => uV fun tQ => uI fun GA => uI fun FT => uV fun r16 => uI fun sI => uI fun MW => uI fun JZ => uN (aNU S r4 r7 r8 r9 jB mO tQ GA FT r16 sI MW JZ)) (bV 5 (uV fun r4 => uV fun r7 => uI fun r8 => uI fun r9 => uB fun aWG => uN (aNT S r4 r7 r8 r9 aWG)) (bV 6 (uV fun r4 => uV fun r7 => uI fun r8 => uI fun r9 => uN (aNS S r4 r7 r8 r9)) (jL))))))))))
noncomputable def F15 (args : List Value) (h : Hp) : aF := bB [Kd.v] args fun al => aN EP 1000000 0 al h
def bH8 : Nat := 1 + (175 - 1)
theorem t15 (S : Sg) : iR (fun l vs h => aX (kF env aNR bH8) (j5 env Try.f15.results.toList) (collect B15 A15 []) l S vs h) (EP S) := by
 unfold EP
 exact dG (dA fun _ => iO fun _ => by kernel_rfl) <| dG (dA fun _ => dA fun _ => dA fun _ => gI fun _ => iO fun _ => by kernel_rfl) <| dG (dA fun _ => dA fun _ => dA fun _ => iO fun _ => by kernel_rfl) <| dG (dA fun _ => dA fun _ => dA fun _ => gI fun _ => iO fun _ => by kernel_rfl) <| dG (dA fun _ => dA fun _ => dA fun _ => iO fun _ => by kernel_rfl) <| dG (dA fun _ => dA fun _ => gI fun _ => gI fun _ => gI fun _ => gI fun _ => dA fun _ => gI fun _ => gI fun _ => dA fun _ => gI fun _ => gI fun _ => gI fun _ => gI fun _ => iO fun _ => by kernel_rfl) <| dG (dA fun _ => dA fun _ => gI fun _ => gI fun _ => gI fun _ => gI fun _ => dA fun _ => gI fun _ => gI fun _ => dA fun _ => gI fun _ => gI fun _ => gI fun _ => gI fun _ => iO fun _ => by kernel_rfl) <| dG (dA fun _ => dA fun _ => gI fun _ => gI fun _ => gI fun _ => gI fun _ => dA fun _ => gI fun _ => gI fun _ => dA fun _ => gI fun _ => gI fun _ => gI fun _ => iO fun _ => by kernel_rfl) <| dG (dA fun _ => dA fun _ => gI fun _ => gI fun _ => rwB fun _ => iO fun _ => by kernel_rfl) <| dG (dA fun _ => dA fun _ => gI fun _ => gI fun _ => iO fun _ => by kernel_rfl) <| Go.bI.iR.nil
theorem FT : ∀ args h v h', F15 args h = some (v, h') → eG (C78) (.call 15 args.toArray h) (.ret v h') := by
 intro args h v h' e
 exact bE (C := C78) (fn := Try.f15) (body := B15) (np := 1) (A := A15) (T := EP) (kinds := [Kd.v]) (by kernel_rfl) (by kernel_rfl) (by kernel_rfl) (by kernel_rfl) (dJ dL) (by kernel_rfl) (fun S => t15 S) e
noncomputable def a6B := jF 15 F15 aNR
noncomputable def C79 : dP := cfg a6B
theorem bRR : C79.Ok := dB (C := C78) a5Z FT
end Go.Proofs.Ytdpicdnpiihaaaa.K.L
