/- Functions told for the law. -/
import Derived.Test.YtdpicdnpiihaaaaOrToldL
open Go Go.bI Go.bI.Y
set_option maxRecDepth 100000
set_option linter.unusedVariables false
namespace Go.Proofs.Ytdpicdnpiihaaaa.K.L
noncomputable def B34 : Code := (Try.f34.body).getD .skip
def A34 : eU := (Am 0 [(0, .v)] Ao (An Ao (An (An Ao (An Az Ao)) (An Ao (An (An Ao (An Az Ao)) Az)))))
noncomputable def aNL (S : Sg) (r0 : Value) (h : Hp) : aF :=
 bC h 25 (Array.toList (Value.cells r0)) fun a0 h0 =>
 aT 4 h0 a0 fun v1 =>
 aK (bQ F63 [v1] h0) fun v2 h2 =>
 eB v2 0 fun v3 =>
 eB v2 1 fun v4 =>
 aS .i64 v4 fun i5 =>
 bC h2 71 [(Value.slice none 0 0), (Value.slice none 0 0), (Value.slice none 0 0), (Value.slice none 0 0), (Value.map none)] fun a6 h6 =>
 dY 5 h6 a6 v3 fun h7 =>
 bA (jV i5 (Int.ofNat 0)) fun b8 =>
 bU b8
 (some (Value.tuple (List.toArray [(Value.slice none 0 0), (Value.int .i64 (Int.ofNat 0)), (Value.int .i64 i5)]), h7))
 (aT 5 (Hp.mk (Hp.next h7) (Hp.next h7) (Hp.aC h7)) a6 fun v9 =>
 aT 5 (Hp.mk (Hp.next h7) (Hp.next h7) (Hp.aC h7)) a6 fun v10 =>
 aK (bR (F65 [v10] (Hp.mk (Hp.next h7) (Hp.next h7) (Hp.aC h7))) fun v => some (v, (Hp.mk (Hp.next h7) (Hp.next h7) (Hp.aC h7)))) fun v11 h11 =>
 aS .i64 v11 fun i12 =>
 aK (bQ F76 [v9, (Value.int .i64 i12)] (Hp.mk (Hp.next h7) (Hp.next h7) (Hp.aC h7))) fun v13 zT =>
 eP v13 (Hp.next h7) zT fun DN n14 =>
 eB v13 0 fun v15 =>
 eB v13 1 fun v16 =>
 aS .i64 v16 fun i17 =>
 bA (jV i17 (Int.ofNat 0)) fun b18 =>
 bU b18
 (some (Value.tuple (List.toArray [(Value.slice none 0 0), (Value.int .i64 (Int.ofNat 0)), (Value.int .i64 i17)]), (Hp.mk n14 (Hp.ro h7) (aG DN (Hp.aC h7)))))
 (aT 5 (Hp.mk (Hp.next (Hp.mk n14 (Hp.ro h7) (aG DN (Hp.aC h7)))) (Hp.next (Hp.mk n14 (Hp.ro h7) (aG DN (Hp.aC h7)))) (Hp.aC (Hp.mk n14 (Hp.ro h7) (aG DN (Hp.aC h7))))) a6 fun v19 =>
 aT 5 (Hp.mk (Hp.next (Hp.mk n14 (Hp.ro h7) (aG DN (Hp.aC h7)))) (Hp.next (Hp.mk n14 (Hp.ro h7) (aG DN (Hp.aC h7)))) (Hp.aC (Hp.mk n14 (Hp.ro h7) (aG DN (Hp.aC h7))))) a6 fun v20 =>
 aK (bQ F60 [v20, v15] (Hp.mk (Hp.next (Hp.mk n14 (Hp.ro h7) (aG DN (Hp.aC h7)))) (Hp.next (Hp.mk n14 (Hp.ro h7) (aG DN (Hp.aC h7)))) (Hp.aC (Hp.mk n14 (Hp.ro h7) (aG DN (Hp.aC h7)))))) fun v21 h21 =>
 eP v21 (Hp.next (Hp.mk n14 (Hp.ro h7) (aG DN (Hp.aC h7)))) h21 fun w22 n22 =>
 aK (bR (F77 [v21] (Hp.mk n22 n22 (aG w22 (Hp.aC (Hp.mk n14 (Hp.ro h7) (aG DN (Hp.aC h7))))))) fun v => some (v, (Hp.mk n22 n22 (aG w22 (Hp.aC (Hp.mk n14 (Hp.ro h7) (aG DN (Hp.aC h7)))))))) fun v23 h23 =>
 eP v23 n22 h23 fun w24 n24 =>
 aK (bQ F59 [v19, v23] (Hp.mk n24 n24 (aG w24 (aG w22 (Hp.aC (Hp.mk n14 (Hp.ro h7) (aG DN (Hp.aC h7)))))))) fun v25 h25 =>
 eP v25 n24 h25 fun w26 n26 =>
 aT 5 (Hp.mk n26 n26 (Hp.aC (Hp.mk n14 (Hp.ro h7) (aG DN (Hp.aC h7))))) a6 fun v27 =>
 aK (bR (F54 [v27, v15] (Hp.mk n26 (Hp.ro (Hp.mk n14 (Hp.ro h7) (aG DN (Hp.aC h7)))) (aG w26 (aG w24 (aG w22 (Hp.aC (Hp.mk n14 (Hp.ro h7) (aG DN (Hp.aC h7))))))))) fun v => some (v, (Hp.mk n26 (Hp.ro (Hp.mk n14 (Hp.ro h7) (aG DN (Hp.aC h7)))) (aG w26 (aG w24 (aG w22 (Hp.aC (Hp.mk n14 (Hp.ro h7) (aG DN (Hp.aC h7)))))))))) fun v28 h28 =>
 aS .i64 v28 fun i29 =>
 some (Value.tuple (List.toArray [v25, (Value.int .i64 i29), (Value.int .i64 (Int.ofNat 0))]), h28)))
noncomputable def T34 (S : Sg) : Sg := bV 0 (uV fun r0 => uN (aNL S r0)) (jL)
noncomputable def F34 (args : List Value) (h : Hp) : aF := bB [Kd.v] args fun al => aN T34 1000000 0 al h
def bHZ : Nat := 1 + (34 - 1)
theorem t34 (S : Sg) : iR (fun l vs h => aX (aGO env aEZ bHZ) (j5 env Try.f34.results.toList) (collect B34 A34 []) l S vs h) (T34 S) := by
 unfold T34
 exact dG (dA fun _ => iO fun _ => by kernel_rfl) <| Go.bI.iR.nil
theorem r34 : ∀ args h v h', F34 args h = some (v, h') → eG (C74) (.call 34 args.toArray h) (.ret v h') := by
 intro args h v h' e
 exact bE (C := C74) (fn := Try.f34) (body := B34) (np := 1) (A := A34) (T := T34) (kinds := [Kd.v]) (by kernel_rfl) (by kernel_rfl) (by kernel_rfl) (by kernel_rfl) (MV dL) (by kernel_rfl) (fun S => t34 S) e
noncomputable def aNM := jF 34 F34 aEZ
noncomputable def C75 : dP := cfg aNM
theorem bH0 : C75.Ok := dB (C := C74) a5K r34
noncomputable def B47 : Code := (Try.f47.body).getD .skip
def A47 : eU := (Am 0 [(0, .v), (1, .v)] Ao (An Ao (An (An Ao (An (Am 1 [(1, .v), (2, .v), (4, .v), (5, .v), (6, .i .i64)] (An (An Ao Az) (An (An (An Ao (An (An Ao Az) Ao)) Ao) Ao)) Ao) Ao)) (Am 2 [(2, .v), (4, .v), (5, .v)] Ao Az))))
noncomputable def a5N (S : Sg) (r2 r4 r5 : Value) (h : Hp) : aF :=
 aO 1 r2 fun v0 =>
 iB h v0 r5 fun h1 =>
 aT 4 h1 r2 fun v2 =>
 dY 4 h1 r4 v2 fun h3 =>
 aT 4 h3 r4 fun v4 => some (v4, h3)
noncomputable def a5O (S : Sg) (r1 r2 : Value) (r4 r5 : Value) (r6 : Int) (h : Hp) : aF :=
 aO 1 r2 fun v0 =>
 aJ h v0 fun v1 =>
 bS v1 fun i2 =>
 bH (lM r6 i2) fun b3 =>
 bU b3
 (aO 1 r2 fun v4 =>
 aJ h v4 fun v5 =>
 dN 1 v5 r6 fun v6 =>
 aJ h v6 fun v7 =>
 aS .i64 v7 fun i8 =>
 bS r1 fun i9 =>
 bH (lM r6 i9) fun b10 =>
 bU b10
 (dN 1 r1 r6 fun v11 =>
 aJ h v11 fun v12 =>
 aS .i64 v12 fun i13 =>
 wrap64 (Int.add i8 i13) fun i14 =>
 aK (aU env h 22 1 (List.toArray [(0, (Value.int .i64 i14))])) fun v15 h15 =>
 aK (cB env h15 #[22, 22] (List.toArray [r5, v15])) fun v16 h16 =>
 wrap64 (Int.add r6 (Int.ofNat 1)) fun i17 =>
 S 1 (AL.v r1 (AL.v r2 (AL.v r4 (AL.v v16 (AL.i i17 AL.n))))) h16)
 (aK (aU env h 22 1 (List.toArray [(0, (Value.int .i64 i8))])) fun v18 h18 =>
 aK (cB env h18 #[22, 22] (List.toArray [r5, v18])) fun v19 h19 =>
 wrap64 (Int.add r6 (Int.ofNat 1)) fun i20 =>
 S 1 (AL.v r1 (AL.v r2 (AL.v r4 (AL.v v19 (AL.i i20 AL.n))))) h19))
 (S 2 (AL.v r2 (AL.v r4 (AL.v r5 AL.n))) h)
noncomputable def a5P (S : Sg) (r0 r1 : Value) (h : Hp) : aF :=
 bC h 25 (Array.toList (Value.cells r0)) fun a0 h0 =>
 bC h0 25 [(Value.slice none 0 0), (Value.slice none 0 0), (Value.slice none 0 0), (Value.slice none 0 0)] fun a1 h1 =>
 S 1 (AL.v r1 (AL.v a0 (AL.v a1 (AL.v (Value.slice none 0 0) (AL.i (Int.ofNat 0) AL.n))))) h1
noncomputable def T47 (S : Sg) : Sg := bV 0 (uV fun r0 => uV fun r1 => uN (a5P S r0 r1)) (bV 1 (uV fun r1 => uV fun r2 => uV fun r4 => uV fun r5 => uI fun r6 => uN (a5O S r1 r2 r4 r5 r6)) (bV 2 (uV fun r2 => uV fun r4 => uV fun r5 => uN (a5N S r2 r4 r5)) (jL)))
noncomputable def F47 (args : List Value) (h : Hp) : aF := bB [Kd.v, Kd.v] args fun al => aN T47 1000000 0 al h
def bH1 : Nat := 2 + (37 - 2)
theorem t47 (S : Sg) : iR (fun l vs h => aX (kF env aNM bH1) (j5 env Try.f47.results.toList) (collect B47 A47 []) l S vs h) (T47 S) := by
 unfold T47
 exact dG (dA fun _ => dA fun _ => iO fun _ => by kernel_rfl) <| dG (dA fun _ => dA fun _ => dA fun _ => dA fun _ => gI fun _ => iO fun _ => by kernel_rfl) <| dG (dA fun _ => dA fun _ => dA fun _ => iO fun _ => by kernel_rfl) <| Go.bI.iR.nil
theorem r47 : ∀ args h v h', F47 args h = some (v, h') → eG (C75) (.call 47 args.toArray h) (.ret v h') := by
 intro args h v h' e
 exact bE (C := C75) (fn := Try.f47) (body := B47) (np := 2) (A := A47) (T := T47) (kinds := [Kd.v, Kd.v]) (by kernel_rfl) (by kernel_rfl) (by kernel_rfl) (by kernel_rfl) (dJ dL) (by kernel_rfl) (fun S => t47 S) e
noncomputable def aNN := jF 47 F47 aNM
noncomputable def C76 : dP := cfg aNN
theorem bH2 : C76.Ok := dB (C := C75) bH0 r47
noncomputable def B11 : Code := (Try.f11.body).getD .skip
def A11 : eU := (Am 0 [(0, .v), (1, .v)] Ao (An Ao (An (An Ao (An Az Ao)) (An Ao (An (An Ao (An Az Ao)) (An (An Ao (An Az Ao)) (An Ao (An Ao (An (An Ao (An (Am 1 [(1, .v), (2, .v), (5, .v), (6, .i .i64), (9, .i .i64), (10, .i .i64), (11, .i .i64), (12, .i .i64), (13, .v), (14, .i .i64)] (An (An Ao Az) (An (An (An (An Ao (An Az Ao)) (An Ao Az)) Ao) Ao)) Ao) Ao)) (Am 7 [(2, .v), (5, .v), (6, .i .i64), (9, .i .i64), (10, .i .i64), (11, .i .i64), (12, .i .i64), (13, .v)] (An Ao (Am 2 [(2, .v), (5, .v), (6, .i .i64), (11, .i .i64), (12, .i .i64), (13, .v), (139, .b)] Az Ao)) (Am 6 [(2, .v), (5, .v), (6, .i .i64), (11, .i .i64), (12, .i .i64), (13, .v)] Ao (An (An Ao (An (An Ao (An Ao (An Az Ao))) Ao)) (Am 5 [(11, .i .i64), (12, .i .i64), (17, .v)] (An Ao (Am 3 [(17, .v), (167, .b)] (An Ao Az) Ao)) (Am 4 [] Ao Ao))))))))))))))
noncomputable def a5Q (S : Sg) (h : Hp) : aF :=
 aK (bR (D9 [] h) fun v => some (v, h)) fun v0 h0 =>
 dH v0 fun b1 =>
 some ((Value.bool b1), h0)
noncomputable def a5R (S : Sg) (sI : Value) (aWE : Bool) (h : Hp) : aF :=
 bU aWE
 (aT 4 h sI fun v0 =>
 aK (bQ F26 [v0] h) fun v1 h1 =>
 eB v1 0 fun v2 =>
 eB v1 1 fun v3 =>
 aS .i64 v3 fun i4 =>
 eB v1 2 fun v5 =>
 aS .i64 v5 fun i6 =>
 bH (jV i6 (Int.ofNat 9)) fun b7 =>
 bU b7
 (aK (bR (D9 [] h1) fun v => some (v, h1)) fun v8 h8 =>
 dH v8 fun b9 =>
 some ((Value.bool b9), h8))
 (some ((Value.bool false), h1)))
 (S 4 AL.n h)
noncomputable def a5S (S : Sg) (jB mO : Int) (sI : Value) (h : Hp) : aF :=
 aT 4 h sI fun v0 =>
 aK (bQ F37 [v0] h) fun v1 h1 =>
 dH v1 fun b2 =>
 bU b2
 (bH (lM mO jB) fun b3 =>
 S 3 (AL.v sI (AL.b b3 AL.n)) h1)
 (S 3 (AL.v sI (AL.b false AL.n)) h1)
noncomputable def a5T (S : Sg) (r2 r5 : Value) (r6 jB mO : Int) (tQ : Value) (h : Hp) : aF :=
 aT 4 (Hp.mk (Hp.next h) (Hp.next h) (Hp.aC h)) r2 fun v0 =>
 aK (bQ F47 [v0, r5] (Hp.mk (Hp.next h) (Hp.next h) (Hp.aC h))) fun v1 h1 =>
 eP v1 (Hp.next h) h1 fun w2 n2 =>
 aT 4 (Hp.mk n2 n2 (Hp.aC h)) r2 fun v3 =>
 aK (bQ F47 [v3, tQ] (Hp.mk n2 n2 (aG w2 (Hp.aC h)))) fun v4 h4 =>
 eP v4 n2 h4 fun w5 n5 =>
 bC (Hp.mk n5 n5 T.nil) 25 [(Value.slice none 0 0), (Value.slice none 0 0), (Value.slice none 0 0), (Value.slice none 0 0)] fun a6 h6 =>
 eP a6 n5 h6 fun w7 n7 =>
 bC (Hp.mk n7 n7 T.nil) 25 [(Value.slice none 0 0), (Value.slice none 0 0), (Value.slice none 0 0), (Value.slice none 0 0)] fun a8 h8 =>
 eP a8 n7 h8 fun w9 n9 =>
 dY 4 (Hp.mk n9 (Hp.ro h) (aG w9 (aG w7 (aG w5 (aG w2 (Hp.aC h)))))) a6 v1 fun h10 =>
 dY 4 h10 a8 v4 fun h11 =>
 aT 4 h11 a6 fun v12 =>
 aK (bQ F37 [v12] h11) fun v13 zT =>
 dH v13 fun b14 =>
 bU b14
 (aT 4 zT a6 fun v15 =>
 aK (bQ F26 [v15] zT) fun v16 h16 =>
 eB v16 0 fun v17 =>
 eB v16 1 fun v18 =>
 aS .i64 v18 fun i19 =>
 eB v16 2 fun v20 =>
 aS .i64 v20 fun i21 =>
 bA (jV i21 (Int.ofNat 0)) fun b22 =>
 bU b22
 (some ((Value.bool false), h16))
 (bA (jV i19 r6) fun b23 =>
 bU b23
 (some ((Value.bool false), h16))
 (S 5 (AL.i jB (AL.i mO (AL.v a8 AL.n))) h16)))
 (S 5 (AL.i jB (AL.i mO (AL.v a8 AL.n))) zT)
noncomputable def a5U (S : Sg) (r2 r5 : Value) (r6 jB mO : Int) (tQ : Value) (aWF : Bool) (h : Hp) : aF :=
 bU aWF
 (some ((Value.bool false), h))
 (S 6 (AL.v r2 (AL.v r5 (AL.i r6 (AL.i jB (AL.i mO (AL.v tQ AL.n)))))) h)
noncomputable def a5V (S : Sg) (r2 r5 : Value) (r6 r9 : Int) (mK jB mO : Int) (tQ : Value) (h : Hp) : aF :=
 bH (jV mK (Int.ofNat 0)) fun b0 =>
 bU b0
 (bA (jV jB (Int.ofNat 0)) fun b1 =>
 bU b1
 (S 2 (AL.v r2 (AL.v r5 (AL.i r6 (AL.i jB (AL.i mO (AL.v tQ (AL.b true AL.n))))))) h)
 (bA (jV r6 r9) fun b2 =>
 bU b2
 (S 2 (AL.v r2 (AL.v r5 (AL.i r6 (AL.i jB (AL.i mO (AL.v tQ (AL.b true AL.n))))))) h)
 (bA (jV mK (Int.ofNat 0)) fun b3 =>
 bU b3
 (bA (jV mK (Int.ofNat 9)) fun b4 =>
 bU b4
 (S 2 (AL.v r2 (AL.v r5 (AL.i r6 (AL.i jB (AL.i mO (AL.v tQ (AL.b true AL.n))))))) h)
 (bH (jV jB (Int.ofNat 0)) fun b5 =>
 S 2 (AL.v r2 (AL.v r5 (AL.i r6 (AL.i jB (AL.i mO (AL.v tQ (AL.b b5 AL.n))))))) h))
 (S 2 (AL.v r2 (AL.v r5 (AL.i r6 (AL.i jB (AL.i mO (AL.v tQ (AL.b false AL.n))))))) h))))
 (bA (jV mK (Int.ofNat 0)) fun b6 =>
 bU b6
 (bA (jV mK (Int.ofNat 9)) fun b7 =>
 bU b7
 (S 2 (AL.v r2 (AL.v r5 (AL.i r6 (AL.i jB (AL.i mO (AL.v tQ (AL.b true AL.n))))))) h)
 (bH (jV jB (Int.ofNat 0)) fun b8 =>
 S 2 (AL.v r2 (AL.v r5 (AL.i r6 (AL.i jB (AL.i mO (AL.v tQ (AL.b b8 AL.n))))))) h))
 (S 2 (AL.v r2 (AL.v r5 (AL.i r6 (AL.i jB (AL.i mO (AL.v tQ (AL.b false AL.n))))))) h))
noncomputable def a5W (S : Sg) (r1 r2 r5 : Value) (r6 r9 : Int) (mK jB mO : Int) (tQ : Value) (GA : Int) (h : Hp) : aF :=
 bS r5 fun i0 =>
 bH (lM GA i0) fun b1 =>
 bU b1
 (dN 1 r5 GA fun v2 =>
 aJ h v2 fun v3 =>
 aS .i64 v3 fun i4 =>
 bH (lM i4 (Int.ofNat 0)) fun b5 =>
 bU b5
 (some ((Value.bool false), h))
 (aK (bR (F46 [r1, (Value.int .i64 GA)] h) fun v => some (v, h)) fun v6 h6 =>
 aS .i64 v6 fun i7 =>
 rR .i64 (mY env .rem 3 (Value.int .i64 i7) (Value.int .i64 (Int.ofNat 8))) fun i8 =>
 dN 1 r5 GA fun v9 =>
 aJ h6 v9 fun v10 =>
 aS .i64 v10 fun i11 =>
 wrap64 (Int.add jB i11) fun i12 =>
 wrap64 (Int.add mO i8) fun i13 =>
 aK (aU env h6 22 1 (List.toArray [(0, (Value.int .i64 i8))])) fun v14 ZB =>
 aK (cB env ZB #[22, 22] (List.toArray [tQ, v14])) fun v15 h15 =>
 wrap64 (Int.add GA (Int.ofNat 1)) fun i16 =>
 S 1 (AL.v r1 (AL.v r2 (AL.v r5 (AL.i r6 (AL.i r9 (AL.i mK (AL.i i12 (AL.i i13 (AL.v v15 (AL.i i16 AL.n)))))))))) h15))
 (S 7 (AL.v r2 (AL.v r5 (AL.i r6 (AL.i r9 (AL.i mK (AL.i jB (AL.i mO (AL.v tQ AL.n)))))))) h)
noncomputable def a5X (S : Sg) (r0 r1 : Value) (h : Hp) : aF :=
 bC h 25 (Array.toList (Value.cells r0)) fun a0 h0 =>
 aT 4 h0 a0 fun v1 =>
 aK (bQ F34 [v1] h0) fun v2 h2 =>
 eB v2 0 fun v3 =>
 eB v2 1 fun v4 =>
 aS .i64 v4 fun i5 =>
 eB v2 2 fun v6 =>
 aS .i64 v6 fun i7 =>
 aT 4 h2 a0 fun v8 =>
 aK (bQ F37 [v8] h2) fun v9 h9 =>
 dH v9 fun b10 =>
 bA b10 fun b11 =>
 bU b11
 (bA (jV i7 (Int.ofNat 0)) fun b12 =>
 bU b12
 (bS v3 fun i13 =>
 bH (jV i13 (Int.ofNat 0)) fun b14 =>
 bU b14
 (bH (jV i5 (Int.ofNat 0)) fun b15 =>
 bU b15
 (aK (bR (D9 [] h9) fun v => some (v, h9)) fun v16 h16 =>
 dH v16 fun b17 =>
 some ((Value.bool b17), h16))
 (some ((Value.bool false), h9)))
 (some ((Value.bool false), h9)))
 (some ((Value.bool false), h9)))
 (aT 4 h9 a0 fun v18 =>
 aK (bQ F26 [v18] h9) fun v19 h19 =>
 eB v19 0 fun v20 =>
 eB v19 1 fun v21 =>
 aS .i64 v21 fun i22 =>
 eB v19 2 fun v23 =>
 aS .i64 v23 fun i24 =>
 aO 3 a0 fun v25 =>
 aJ h19 v25 fun v26 =>
 bS v26 fun i27 =>
 aO 2 a0 fun v28 =>
 aJ h19 v28 fun v29 =>
 bS v29 fun i30 =>
 bH (lM i30 i27) fun b31 =>
 bU b31
 (bH (jV i7 (Int.ofNat 9)) fun b32 =>
 bU b32
 (bH (jV i24 i7) fun b33 =>
 bU b33
 (bS v3 fun i34 =>
 bH (jV i34 (Int.ofNat 0)) fun b35 =>
 bU b35
 (bH (jV i5 (Int.ofNat 0)) fun b36 =>
 bU b36
 (aK (bR (D9 [] h19) fun v => some (v, h19)) fun v37 h37 =>
 dH v37 fun b38 =>
 some ((Value.bool b38), h37))
 (some ((Value.bool false), h19)))
 (some ((Value.bool false), h19)))
 (some ((Value.bool false), h19)))
 (some ((Value.bool false), h19)))
 (bA (jV i7 (Int.ofNat 0)) fun b39 =>
 bU b39
 (some ((Value.bool false), h19))
 (bS v3 fun i40 =>
 aO 1 a0 fun v41 =>
 aJ h19 v41 fun v42 =>
 bS v42 fun i43 =>
 bA (jV i40 i43) fun b44 =>
 bU b44
 (some ((Value.bool false), h19))
 (S 1 (AL.v r1 (AL.v a0 (AL.v v3 (AL.i i5 (AL.i i22 (AL.i i24 (AL.i (Int.ofNat 0) (AL.i (Int.ofNat 0) (AL.v (Value.slice none 0 0) (AL.i (Int.ofNat 0) AL.n)))))))))) h19))))
noncomputable def T11 (S : Sg) : Sg := bV 0 (uV fun r0 => uV fun r1 => uN (a5X S r0 r1)) (bV 1 (uV fun r1 => uV fun r2 => uV fun r5 => uI fun r6 => uI fun r9 => uI fun mK => uI fun jB => uI fun mO => uV fun tQ => uI fun GA => uN (a5W S r1 r2 r5 r6 r9 mK jB mO tQ GA)) (bV 7 (uV fun r2 => uV fun r5 => uI fun r6 => uI fun r9 => uI fun mK => uI fun jB => uI fun mO => uV fun tQ => uN (a5V S r2 r5 r6 r9 mK jB mO tQ)) (bV 2 (uV fun r2 => uV fun r5 => uI fun r6 => uI fun jB => uI fun mO => uV fun tQ => uB fun aWF => uN (a5U S r2 r5 r6 jB mO tQ aWF)) (bV 6 (uV fun r2 => uV fun r5 => uI fun r6 => uI fun jB => uI fun mO => uV fun tQ => uN (a5T S r2 r5 r6 jB mO tQ)) (bV 5 (uI fun jB => uI fun mO => uV fun sI => uN (a5S S jB mO sI)) (bV 3 (uV fun sI => uB fun aWE => uN (a5R S sI aWE)) (bV 4 (uN fun h => a5Q S  h) (jL))))))))
noncomputable def F11 (args : List Value) (h : Hp) : aF := bB [Kd.v, Kd.v] args fun al => aN T11 1000000 0 al h
def bH3 : Nat := 2 + (180 - 2)
theorem t11 (S : Sg) : iR (fun l vs h => aX (kF env aNN bH3) (j5 env Try.f11.results.toList) (collect B11 A11 []) l S vs h) (T11 S) := by
 unfold T11
 exact dG (dA fun _ => dA fun _ => iO fun _ => by kernel_rfl) <| dG (dA fun _ => dA fun _ => dA fun _ => gI fun _ => gI fun _ => gI fun _ => gI fun _ => gI fun _ => dA fun _ => gI fun _ => iO fun _ => by kernel_rfl) <| dG (dA fun _ => dA fun _ => gI fun _ => gI fun _ => gI fun _ => gI fun _ => gI fun _ => dA fun _ => iO fun _ => by kernel_rfl) <| dG (dA fun _ => dA fun _ => gI fun _ => gI fun _ => gI fun _ => dA fun _ => rwB fun _ => iO fun _ => by kernel_rfl) <| dG (dA fun _ => dA fun _ => gI fun _ => gI fun _ => gI fun _ => dA fun _ => iO fun _ => by kernel_rfl) <| dG (gI fun _ => gI fun _ => dA fun _ => iO fun _ => by kernel_rfl) <| dG (dA fun _ => rwB fun _ => iO fun _ => by kernel_rfl) <| dG (iO fun _ => by kernel_rfl) <| Go.bI.iR.nil
theorem jB : ∀ args h v h', F11 args h = some (v, h') → eG (C76) (.call 11 args.toArray h) (.ret v h') := by
 intro args h v h' e
 exact bE (C := C76) (fn := Try.f11) (body := B11) (np := 2) (A := A11) (T := T11) (kinds := [Kd.v, Kd.v]) (by kernel_rfl) (by kernel_rfl) (by kernel_rfl) (by kernel_rfl) (dJ dL) (by kernel_rfl) (fun S => t11 S) e
noncomputable def aTZ := jF 11 F11 aNN
noncomputable def C77 : dP := cfg aTZ
theorem bH4 : C77.Ok := dB (C := C76) bH2 jB
end Go.Proofs.Ytdpicdnpiihaaaa.K.L
