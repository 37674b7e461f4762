/- Functions told for the law. -/
import Derived.Test.YtdpicdnpiihaaaaBoToldL
open Go Go.bK Go.bK.Y
set_option maxRecDepth 100000
set_option linter.unusedVariables false
namespace Go.Proofs.Ytdpicdnpiihaaaa.K.L
noncomputable def B34 : Code := (Try.f34.body).getD .skip
def A34 : eT := (Am 0 [(0, .v)] Ao (An Ao (An (An Ao (An Az Ao)) (An Ao (An (An Ao (An Az Ao)) Az)))))
noncomputable def aMH (S : Sg) (r0 : Value) (h : Hp) : aF :=
 bD h 25 (Array.toList (Value.cells r0)) fun a0 h0 =>
 aT 4 h0 a0 fun v1 =>
 aN (bV F63 [v1] h0) fun v2 h2 =>
 fF v2 0 fun v3 =>
 fF v2 1 fun v4 =>
 aS .i64 v4 fun i5 =>
 bD h2 71 [(Value.slice none 0 0), (Value.slice none 0 0), (Value.slice none 0 0), (Value.slice none 0 0), (Value.map none)] fun a6 h6 =>
 dY 5 h6 a6 v3 fun h7 =>
 bE (kF i5 (Int.ofNat 0)) fun b8 =>
 bY b8
 (some (Value.tuple (List.toArray [(Value.slice none 0 0), (Value.int .i64 (Int.ofNat 0)), (Value.int .i64 i5)]), h7))
 (aT 5 (Hp.mk (Hp.next h7) (Hp.next h7) (Hp.aC h7)) a6 fun v9 =>
 aT 5 (Hp.mk (Hp.next h7) (Hp.next h7) (Hp.aC h7)) a6 fun v10 =>
 aN (bS (F65 [v10] (Hp.mk (Hp.next h7) (Hp.next h7) (Hp.aC h7))) fun v => some (v, (Hp.mk (Hp.next h7) (Hp.next h7) (Hp.aC h7)))) fun v11 h11 =>
 aS .i64 v11 fun i12 =>
 aN (bV F76 [v9, (Value.int .i64 i12)] (Hp.mk (Hp.next h7) (Hp.next h7) (Hp.aC h7))) fun v13 O3 =>
 iH v13 (Hp.next h7) O3 fun DF n14 =>
 fF v13 0 fun v15 =>
 fF v13 1 fun v16 =>
 aS .i64 v16 fun i17 =>
 bE (kF i17 (Int.ofNat 0)) fun b18 =>
 bY b18
 (some (Value.tuple (List.toArray [(Value.slice none 0 0), (Value.int .i64 (Int.ofNat 0)), (Value.int .i64 i17)]), (Hp.mk n14 (Hp.ro h7) (aP DF (Hp.aC h7)))))
 (aT 5 (Hp.mk (Hp.next (Hp.mk n14 (Hp.ro h7) (aP DF (Hp.aC h7)))) (Hp.next (Hp.mk n14 (Hp.ro h7) (aP DF (Hp.aC h7)))) (Hp.aC (Hp.mk n14 (Hp.ro h7) (aP DF (Hp.aC h7))))) a6 fun v19 =>
 aT 5 (Hp.mk (Hp.next (Hp.mk n14 (Hp.ro h7) (aP DF (Hp.aC h7)))) (Hp.next (Hp.mk n14 (Hp.ro h7) (aP DF (Hp.aC h7)))) (Hp.aC (Hp.mk n14 (Hp.ro h7) (aP DF (Hp.aC h7))))) a6 fun v20 =>
 aN (bV F60 [v20, v15] (Hp.mk (Hp.next (Hp.mk n14 (Hp.ro h7) (aP DF (Hp.aC h7)))) (Hp.next (Hp.mk n14 (Hp.ro h7) (aP DF (Hp.aC h7)))) (Hp.aC (Hp.mk n14 (Hp.ro h7) (aP DF (Hp.aC h7)))))) fun v21 h21 =>
 iH v21 (Hp.next (Hp.mk n14 (Hp.ro h7) (aP DF (Hp.aC h7)))) h21 fun w22 n22 =>
 aN (bS (F77 [v21] (Hp.mk n22 n22 (aP w22 (Hp.aC (Hp.mk n14 (Hp.ro h7) (aP DF (Hp.aC h7))))))) fun v => some (v, (Hp.mk n22 n22 (aP w22 (Hp.aC (Hp.mk n14 (Hp.ro h7) (aP DF (Hp.aC h7)))))))) fun v23 h23 =>
 iH v23 n22 h23 fun w24 n24 =>
 aN (bV F59 [v19, v23] (Hp.mk n24 n24 (aP w24 (aP w22 (Hp.aC (Hp.mk n14 (Hp.ro h7) (aP DF (Hp.aC h7)))))))) fun v25 h25 =>
 iH v25 n24 h25 fun w26 n26 =>
 aT 5 (Hp.mk n26 n26 (Hp.aC (Hp.mk n14 (Hp.ro h7) (aP DF (Hp.aC h7))))) a6 fun v27 =>
 aN (bS (F54 [v27, v15] (Hp.mk n26 (Hp.ro (Hp.mk n14 (Hp.ro h7) (aP DF (Hp.aC h7)))) (aP w26 (aP w24 (aP w22 (Hp.aC (Hp.mk n14 (Hp.ro h7) (aP DF (Hp.aC h7))))))))) fun v => some (v, (Hp.mk n26 (Hp.ro (Hp.mk n14 (Hp.ro h7) (aP DF (Hp.aC h7)))) (aP w26 (aP w24 (aP w22 (Hp.aC (Hp.mk n14 (Hp.ro h7) (aP DF (Hp.aC h7)))))))))) fun v28 h28 =>
 aS .i64 v28 fun i29 =>
 some (Value.tuple (List.toArray [v25, (Value.int .i64 i29), (Value.int .i64 (Int.ofNat 0))]), h28)))
noncomputable def T34 (S : Sg) : Sg := cK 0 (uV fun r0 => uN (aMH S r0)) (jI)
noncomputable def F34 (args : List Value) (h : Hp) : aF := bB [Kd.v] args fun al => aK T34 1000000 0 al h
def bGE : Nat := 1 + (34 - 1)
theorem t34 (S : Sg) : iO (fun l vs h => aY (aFS env aD9 bGE) (jV env Try.f34.results.toList) (collect B34 A34 []) l S vs h) (T34 S) := by
 unfold T34
 exact dK (dN fun _ => iZ fun _ => by kernel_rfl) <| Go.bK.iO.nil
theorem r34 : ∀ args h v h', F34 args h = some (v, h') → eF (C74) (.call 34 args.toArray h) (.ret v h') := by
 intro args h v h' e
 exact bC (C := C74) (fn := Try.f34) (body := B34) (np := 1) (A := A34) (T := T34) (kinds := [Kd.v]) (by kernel_rfl) (by kernel_rfl) (by kernel_rfl) (by kernel_rfl) (MM dL) (by kernel_rfl) (fun S => t34 S) e
noncomputable def aMI := jF 34 F34 aD9
noncomputable def C75 : dO := cfg aMI
theorem bGF : C75.Ok := dA (C := C74) a3T r34
noncomputable def B47 : Code := (Try.f47.body).getD .skip
def A47 : eT := (Am 0 [(0, .v), (1, .v)] Ao (An Ao (An (An Ao (An (Am 1 [(1, .v), (2, .v), (4, .v), (5, .v), (6, .i .i64)] (An (An Ao Az) (An (An (An Ao (An (An Ao Az) Ao)) Ao) Ao)) Ao) Ao)) (Am 2 [(2, .v), (4, .v), (5, .v)] Ao Az))))
noncomputable def aMJ (S : Sg) (r2 r4 r5 : Value) (h : Hp) : aF :=
 aR 1 r2 fun v0 =>
 jW h v0 r5 fun h1 =>
 aT 4 h1 r2 fun v2 =>
 dY 4 h1 r4 v2 fun h3 =>
 aT 4 h3 r4 fun v4 => some (v4, h3)
noncomputable def aEA (S : Sg) (r1 r2 : Value) (r4 r5 : Value) (r6 : Int) (h : Hp) : aF :=
 aR 1 r2 fun v0 =>
 aI h v0 fun v1 =>
 bW v1 fun i2 =>
 bQ (lI r6 i2) fun b3 =>
 bY b3
 (aR 1 r2 fun v4 =>
 aI h v4 fun v5 =>
 dS 1 v5 r6 fun v6 =>
 aI h v6 fun v7 =>
 aS .i64 v7 fun i8 =>
 bW r1 fun i9 =>
 bQ (lI r6 i9) fun b10 =>
 bY b10
 (dS 1 r1 r6 fun v11 =>
 aI h v11 fun v12 =>
 aS .i64 v12 fun i13 =>
 wrap64 (Int.add i8 i13) fun i14 =>
 aN (bA env h 22 1 (List.toArray [(0, (Value.int .i64 i14))])) fun v15 h15 =>
 aN (fC env h15 #[22, 22] (List.toArray [r5, v15])) fun v16 h16 =>
 wrap64 (Int.add r6 (Int.ofNat 1)) fun i17 =>
 S 1 (AL.v r1 (AL.v r2 (AL.v r4 (AL.v v16 (AL.i i17 AL.n))))) h16)
 (aN (bA env h 22 1 (List.toArray [(0, (Value.int .i64 i8))])) fun v18 h18 =>
 aN (fC env h18 #[22, 22] (List.toArray [r5, v18])) fun v19 h19 =>
 wrap64 (Int.add r6 (Int.ofNat 1)) fun i20 =>
 S 1 (AL.v r1 (AL.v r2 (AL.v r4 (AL.v v19 (AL.i i20 AL.n))))) h19))
 (S 2 (AL.v r2 (AL.v r4 (AL.v r5 AL.n))) h)
noncomputable def aMK (S : Sg) (r0 r1 : Value) (h : Hp) : aF :=
 bD h 25 (Array.toList (Value.cells r0)) fun a0 h0 =>
 bD h0 25 [(Value.slice none 0 0), (Value.slice none 0 0), (Value.slice none 0 0), (Value.slice none 0 0)] fun a1 h1 =>
 S 1 (AL.v r1 (AL.v a0 (AL.v a1 (AL.v (Value.slice none 0 0) (AL.i (Int.ofNat 0) AL.n))))) h1
noncomputable def T47 (S : Sg) : Sg := cK 0 (uV fun r0 => uV fun r1 => uN (aMK S r0 r1)) (cK 1 (uV fun r1 => uV fun r2 => uV fun r4 => uV fun r5 => uI fun r6 => uN (aEA S r1 r2 r4 r5 r6)) (cK 2 (uV fun r2 => uV fun r4 => uV fun r5 => uN (aMJ S r2 r4 r5)) (jI)))
noncomputable def F47 (args : List Value) (h : Hp) : aF := bB [Kd.v, Kd.v] args fun al => aK T47 1000000 0 al h
def bGG : Nat := 2 + (37 - 2)
theorem t47 (S : Sg) : iO (fun l vs h => aY (jZ env aMI bGG) (jV env Try.f47.results.toList) (collect B47 A47 []) l S vs h) (T47 S) := by
 unfold T47
 exact dK (dN fun _ => dN fun _ => iZ fun _ => by kernel_rfl) <| dK (dN fun _ => dN fun _ => dN fun _ => dN fun _ => jG fun _ => iZ fun _ => by kernel_rfl) <| dK (dN fun _ => dN fun _ => dN fun _ => iZ fun _ => by kernel_rfl) <| Go.bK.iO.nil
theorem r47 : ∀ args h v h', F47 args h = some (v, h') → eF (C75) (.call 47 args.toArray h) (.ret v h') := by
 intro args h v h' e
 exact bC (C := C75) (fn := Try.f47) (body := B47) (np := 2) (A := A47) (T := T47) (kinds := [Kd.v, Kd.v]) (by kernel_rfl) (by kernel_rfl) (by kernel_rfl) (by kernel_rfl) (dH dL) (by kernel_rfl) (fun S => t47 S) e
noncomputable def aML := jF 47 F47 aMI
noncomputable def C76 : dO := cfg aML
theorem a3X : C76.Ok := dA (C := C75) bGF r47
noncomputable def B11 : Code := (Try.f11.body).getD .skip
def A11 : eT := (Am 0 [(0, .v), (1, .v)] Ao (An Ao (An (An Ao (An Az Ao)) (An Ao (An (An Ao (An Az Ao)) (An (An Ao (An Az Ao)) (An Ao (An Ao (An (An Ao (An (Am 1 [(1, .v), (2, .v), (5, .v), (6, .i .i64), (9, .i .i64), (10, .i .i64), (11, .i .i64), (12, .i .i64), (13, .v), (14, .i .i64)] (An (An Ao Az) (An (An (An (An Ao (An Az Ao)) (An Ao Az)) Ao) Ao)) Ao) Ao)) (Am 7 [(2, .v), (5, .v), (6, .i .i64), (9, .i .i64), (10, .i .i64), (11, .i .i64), (12, .i .i64), (13, .v)] (An Ao (Am 2 [(2, .v), (5, .v), (6, .i .i64), (11, .i .i64), (12, .i .i64), (13, .v), (139, .b)] Az Ao)) (Am 6 [(2, .v), (5, .v), (6, .i .i64), (11, .i .i64), (12, .i .i64), (13, .v)] Ao (An (An Ao (An (An Ao (An Ao (An Az Ao))) Ao)) (Am 5 [(11, .i .i64), (12, .i .i64), (17, .v)] (An Ao (Am 3 [(17, .v), (167, .b)] (An Ao Az) Ao)) (Am 4 [] Ao Ao))))))))))))))
noncomputable def aMM (S : Sg) (h : Hp) : aF :=
 aN (bS (JU [] h) fun v => some (v, h)) fun v0 h0 =>
 dM v0 fun b1 =>
 some ((Value.bool b1), h0)
noncomputable def aEB (S : Sg) (IQ : Value) (aU6 : Bool) (h : Hp) : aF :=
 bY aU6
 (aT 4 h IQ fun v0 =>
 aN (bV F26 [v0] h) fun v1 h1 =>
 fF v1 0 fun v2 =>
 fF v1 1 fun v3 =>
 aS .i64 v3 fun i4 =>
 fF v1 2 fun v5 =>
 aS .i64 v5 fun i6 =>
 bQ (kF i6 (Int.ofNat 9)) fun b7 =>
 bY b7
 (aN (bS (JU [] h1) fun v => some (v, h1)) fun v8 h8 =>
 dM v8 fun b9 =>
 some ((Value.bool b9), h8))
 (some ((Value.bool false), h1)))
 (S 4 AL.n h)
noncomputable def aMN (S : Sg) (kH rE : Int) (IQ : Value) (h : Hp) : aF :=
 aT 4 h IQ fun v0 =>
 aN (bV F37 [v0] h) fun v1 h1 =>
 dM v1 fun b2 =>
 bY b2
 (bQ (lI rE kH) fun b3 =>
 S 3 (AL.v IQ (AL.b b3 AL.n)) h1)
 (S 3 (AL.v IQ (AL.b false AL.n)) h1)
noncomputable def aMO (S : Sg) (r2 r5 : Value) (r6 kH rE : Int) (O9 : Value) (h : Hp) : aF :=
 aT 4 (Hp.mk (Hp.next h) (Hp.next h) (Hp.aC h)) r2 fun v0 =>
 aN (bV F47 [v0, r5] (Hp.mk (Hp.next h) (Hp.next h) (Hp.aC h))) fun v1 h1 =>
 iH v1 (Hp.next h) h1 fun w2 n2 =>
 aT 4 (Hp.mk n2 n2 (Hp.aC h)) r2 fun v3 =>
 aN (bV F47 [v3, O9] (Hp.mk n2 n2 (aP w2 (Hp.aC h)))) fun v4 h4 =>
 iH v4 n2 h4 fun w5 n5 =>
 bD (Hp.mk n5 n5 T.nil) 25 [(Value.slice none 0 0), (Value.slice none 0 0), (Value.slice none 0 0), (Value.slice none 0 0)] fun a6 h6 =>
 iH a6 n5 h6 fun w7 n7 =>
 bD (Hp.mk n7 n7 T.nil) 25 [(Value.slice none 0 0), (Value.slice none 0 0), (Value.slice none 0 0), (Value.slice none 0 0)] fun a8 h8 =>
 iH a8 n7 h8 fun w9 n9 =>
 dY 4 (Hp.mk n9 (Hp.ro h) (aP w9 (aP w7 (aP w5 (aP w2 (Hp.aC h)))))) a6 v1 fun h10 =>
 dY 4 h10 a8 v4 fun h11 =>
 aT 4 h11 a6 fun v12 =>
 aN (bV F37 [v12] h11) fun v13 O3 =>
 dM v13 fun b14 =>
 bY b14
 (aT 4 O3 a6 fun v15 =>
 aN (bV F26 [v15] O3) fun v16 h16 =>
 fF v16 0 fun v17 =>
 fF v16 1 fun v18 =>
 aS .i64 v18 fun i19 =>
 fF v16 2 fun v20 =>
 aS .i64 v20 fun i21 =>
 bE (kF i21 (Int.ofNat 0)) fun b22 =>
 bY b22
 (some ((Value.bool false), h16))
 (bE (kF i19 r6) fun b23 =>
 bY b23
 (some ((Value.bool false), h16))
 (S 5 (AL.i kH (AL.i rE (AL.v a8 AL.n))) h16)))
 (S 5 (AL.i kH (AL.i rE (AL.v a8 AL.n))) O3)
noncomputable def aMP (S : Sg) (r2 r5 : Value) (r6 kH rE : Int) (O9 : Value) (aU7 : Bool) (h : Hp) : aF :=
 bY aU7
 (some ((Value.bool false), h))
 (S 6 (AL.v r2 (AL.v r5 (AL.i r6 (AL.i kH (AL.i rE (AL.v O9 AL.n)))))) h)
noncomputable def aMQ (S : Sg) (r2 r5 : Value) (r6 r9 : Int) (mD kH rE : Int) (O9 : Value) (h : Hp) : aF :=
 bQ (kF mD (Int.ofNat 0)) fun b0 =>
 bY b0
 (bE (kF kH (Int.ofNat 0)) fun b1 =>
 bY b1
 (S 2 (AL.v r2 (AL.v r5 (AL.i r6 (AL.i kH (AL.i rE (AL.v O9 (AL.b true AL.n))))))) h)
 (bE (kF r6 r9) fun b2 =>
 bY b2
 (S 2 (AL.v r2 (AL.v r5 (AL.i r6 (AL.i kH (AL.i rE (AL.v O9 (AL.b true AL.n))))))) h)
 (bE (kF mD (Int.ofNat 0)) fun b3 =>
 bY b3
 (bE (kF mD (Int.ofNat 9)) fun b4 =>
 bY b4
 (S 2 (AL.v r2 (AL.v r5 (AL.i r6 (AL.i kH (AL.i rE (AL.v O9 (AL.b true AL.n))))))) h)
 (bQ (kF kH (Int.ofNat 0)) fun b5 =>
 S 2 (AL.v r2 (AL.v r5 (AL.i r6 (AL.i kH (AL.i rE (AL.v O9 (AL.b b5 AL.n))))))) h))
 (S 2 (AL.v r2 (AL.v r5 (AL.i r6 (AL.i kH (AL.i rE (AL.v O9 (AL.b false AL.n))))))) h))))
 (bE (kF mD (Int.ofNat 0)) fun b6 =>
 bY b6
 (bE (kF mD (Int.ofNat 9)) fun b7 =>
 bY b7
 (S 2 (AL.v r2 (AL.v r5 (AL.i r6 (AL.i kH (AL.i rE (AL.v O9 (AL.b true AL.n))))))) h)
 (bQ (kF kH (Int.ofNat 0)) fun b8 =>
 S 2 (AL.v r2 (AL.v r5 (AL.i r6 (AL.i kH (AL.i rE (AL.v O9 (AL.b b8 AL.n))))))) h))
 (S 2 (AL.v r2 (AL.v r5 (AL.i r6 (AL.i kH (AL.i rE (AL.v O9 (AL.b false AL.n))))))) h))
noncomputable def aEC (S : Sg) (r1 r2 r5 : Value) (r6 r9 : Int) (mD kH rE : Int) (O9 : Value) (r14 : Int) (h : Hp) : aF :=
 bW r5 fun i0 =>
 bQ (lI r14 i0) fun b1 =>
 bY b1
 (dS 1 r5 r14 fun v2 =>
 aI h v2 fun v3 =>
 aS .i64 v3 fun i4 =>
 bQ (lI i4 (Int.ofNat 0)) fun b5 =>
 bY b5
 (some ((Value.bool false), h))
 (aN (bS (F46 [r1, (Value.int .i64 r14)] h) fun v => some (v, h)) fun v6 h6 =>
 aS .i64 v6 fun i7 =>
 rT .i64 (lY env .rem 3 (Value.int .i64 i7) (Value.int .i64 (Int.ofNat 8))) fun i8 =>
 dS 1 r5 r14 fun v9 =>
 aI h6 v9 fun v10 =>
 aS .i64 v10 fun i11 =>
 wrap64 (Int.add kH i11) fun i12 =>
 wrap64 (Int.add rE i8) fun i13 =>
 aN (bA env h6 22 1 (List.toArray [(0, (Value.int .i64 i8))])) fun v14 h14 =>
 aN (fC env h14 #[22, 22] (List.toArray [O9, v14])) fun v15 h15 =>
 wrap64 (Int.add r14 (Int.ofNat 1)) fun i16 =>
 S 1 (AL.v r1 (AL.v r2 (AL.v r5 (AL.i r6 (AL.i r9 (AL.i mD (AL.i i12 (AL.i i13 (AL.v v15 (AL.i i16 AL.n)))))))))) h15))
 (S 7 (AL.v r2 (AL.v r5 (AL.i r6 (AL.i r9 (AL.i mD (AL.i kH (AL.i rE (AL.v O9 AL.n)))))))) h)
noncomputable def aMR (S : Sg) (r0 r1 : Value) (h : Hp) : aF :=
 bD h 25 (Array.toList (Value.cells r0)) fun a0 h0 =>
 aT 4 h0 a0 fun v1 =>
 aN (bV F34 [v1] h0) fun v2 h2 =>
 fF v2 0 fun v3 =>
 fF v2 1 fun v4 =>
 aS .i64 v4 fun i5 =>
 fF v2 2 fun v6 =>
 aS .i64 v6 fun i7 =>
 aT 4 h2 a0 fun v8 =>
 aN (bV F37 [v8] h2) fun v9 h9 =>
 dM v9 fun b10 =>
 bE b10 fun b11 =>
 bY b11
 (bE (kF i7 (Int.ofNat 0)) fun b12 =>
 bY b12
 (bW v3 fun i13 =>
 bQ (kF i13 (Int.ofNat 0)) fun b14 =>
 bY b14
 (bQ (kF i5 (Int.ofNat 0)) fun b15 =>
 bY b15
 (aN (bS (JU [] h9) fun v => some (v, h9)) fun v16 h16 =>
 dM v16 fun b17 =>
 some ((Value.bool b17), h16))
 (some ((Value.bool false), h9)))
 (some ((Value.bool false), h9)))
 (some ((Value.bool false), h9)))
 (aT 4 h9 a0 fun v18 =>
 aN (bV F26 [v18] h9) fun v19 h19 =>
 fF v19 0 fun v20 =>
 fF v19 1 fun v21 =>
 aS .i64 v21 fun i22 =>
 fF v19 2 fun v23 =>
 aS .i64 v23 fun i24 =>
 aR 3 a0 fun v25 =>
 aI h19 v25 fun v26 =>
 bW v26 fun i27 =>
 aR 2 a0 fun v28 =>
 aI h19 v28 fun v29 =>
 bW v29 fun i30 =>
 bQ (lI i30 i27) fun b31 =>
 bY b31
 (bQ (kF i7 (Int.ofNat 9)) fun b32 =>
 bY b32
 (bQ (kF i24 i7) fun b33 =>
 bY b33
 (bW v3 fun i34 =>
 bQ (kF i34 (Int.ofNat 0)) fun b35 =>
 bY b35
 (bQ (kF i5 (Int.ofNat 0)) fun b36 =>
 bY b36
 (aN (bS (JU [] h19) fun v => some (v, h19)) fun v37 h37 =>
 dM v37 fun b38 =>
 some ((Value.bool b38), h37))
 (some ((Value.bool false), h19)))
 (some ((Value.bool false), h19)))
 (some ((Value.bool false), h19)))
 (some ((Value.bool false), h19)))
 (bE (kF i7 (Int.ofNat 0)) fun b39 =>
 bY b39
 (some ((Value.bool false), h19))
 (bW v3 fun i40 =>
 aR 1 a0 fun v41 =>
 aI h19 v41 fun v42 =>
 bW v42 fun i43 =>
 bE (kF i40 i43) fun b44 =>
 bY b44
 (some ((Value.bool false), h19))
 (S 1 (AL.v r1 (AL.v a0 (AL.v v3 (AL.i i5 (AL.i i22 (AL.i i24 (AL.i (Int.ofNat 0) (AL.i (Int.ofNat 0) (AL.v (Value.slice none 0 0) (AL.i (Int.ofNat 0) AL.n)))))))))) h19))))
noncomputable def LY (S : Sg) : Sg := cK 0 (uV fun r0 => uV fun r1 => uN (aMR S r0 r1)) (cK 1 (uV fun r1 => uV fun r2 => uV fun r5 => uI fun r6 => uI fun r9 => uI fun mD => uI fun kH => uI fun rE => uV fun O9 => uI fun r14 => uN (aEC S r1 r2 r5 r6 r9 mD kH rE O9 r14)) (cK 7 (uV fun r2 => uV fun r5 => uI fun r6 => uI fun r9 => uI fun mD => uI fun kH => uI fun rE => uV fun O9 => uN (aMQ S r2 r5 r6 r9 mD kH rE O9)) (cK 2 (uV fun r2 => uV fun r5 => uI fun r6 => uI fun kH => uI fun rE => uV fun O9 => uB fun aU7 => uN (aMP S r2 r5 r6 kH rE O9 aU7)) (cK 6 (uV fun r2 => uV fun r5 => uI fun r6 => uI fun kH => uI fun rE => uV fun O9 => uN (aMO S r2 r5 r6 kH rE O9)) (cK 5 (uI fun kH => uI fun rE => uV fun IQ => uN (aMN S kH rE IQ)) (cK 3 (uV fun IQ => uB fun aU6 => uN (aEB S IQ aU6)) (cK 4 (uN fun h => aMM S  h) (jI))))))))
noncomputable def F11 (args : List Value) (h : Hp) : aF := bB [Kd.v, Kd.v] args fun al => aK LY 1000000 0 al h
def bGH : Nat := 2 + (180 - 2)
theorem t11 (S : Sg) : iO (fun l vs h => aY (jZ env aML bGH) (jV env Try.f11.results.toList) (collect B11 A11 []) l S vs h) (LY S) := by
 unfold LY
 exact dK (dN fun _ => dN fun _ => iZ fun _ => by kernel_rfl) <| dK (dN fun _ => dN fun _ => dN fun _ => jG fun _ => jG fun _ => jG fun _ => jG fun _ => jG fun _ => dN fun _ => jG fun _ => iZ fun _ => by kernel_rfl) <| dK (dN fun _ => dN fun _ => jG fun _ => jG fun _ => jG fun _ => jG fun _ => jG fun _ => dN fun _ => iZ fun _ => by kernel_rfl) <| dK (dN fun _ => dN fun _ => jG fun _ => jG fun _ => jG fun _ => dN fun _ => rwB fun _ => iZ fun _ => by kernel_rfl) <| dK (dN fun _ => dN fun _ => jG fun _ => jG fun _ => jG fun _ => dN fun _ => iZ fun _ => by kernel_rfl) <| dK (jG fun _ => jG fun _ => dN fun _ => iZ fun _ => by kernel_rfl) <| dK (dN fun _ => rwB fun _ => iZ fun _ => by kernel_rfl) <| dK (iZ fun _ => by kernel_rfl) <| Go.bK.iO.nil
theorem kH : ∀ args h v h', F11 args h = some (v, h') → eF (C76) (.call 11 args.toArray h) (.ret v h') := by
 intro args h v h' e
 exact bC (C := C76) (fn := Try.f11) (body := B11) (np := 2) (A := A11) (T := LY) (kinds := [Kd.v, Kd.v]) (by kernel_rfl) (by kernel_rfl) (by kernel_rfl) (by kernel_rfl) (dH dL) (by kernel_rfl) (fun S => t11 S) e
noncomputable def a3Y := jF 11 F11 aML
noncomputable def C77 : dO := cfg a3Y
theorem bPL : C77.Ok := dA (C := C76) a3X kH
end Go.Proofs.Ytdpicdnpiihaaaa.K.L
