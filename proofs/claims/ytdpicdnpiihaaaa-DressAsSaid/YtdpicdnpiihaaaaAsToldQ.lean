/- Functions told for the law. -/
import Derived.Test.YtdpicdnpiihaaaaAsToldL
open Go Go.bG Go.bG.Y
set_option maxRecDepth 100000
set_option linter.unusedVariables false
namespace Go.Proofs.Ytdpicdnpiihaaaa.K.L
noncomputable def B14 : Code := (Try.f14.body).getD .skip
def A14 : eO := (Am 0 [(0, .v), (1, .v)] Ao (An (An Ao (Am 1 [(2, .v), (3, .v), (28, .b)] (An Ao Az) Ao)) (Am 7 [(2, .v), (3, .v)] Ao (An Ao (An Ao (An (An Ao (An Az Ao)) (Am 6 [(2, .v), (3, .v)] (An Ao (An Az Ao)) (An Ao (An Ao (An Ao (An (An Ao (An (Am 2 [(2, .v), (12, .i .i64), (13, .i .i64), (14, .i .i64), (15, .v), (16, .i .i64), (17, .b), (18, .i .i64)] (An (An Ao Az) (An (An (An Ao (An Ao (Am 3 [(2, .v), (12, .i .i64), (13, .i .i64), (14, .i .i64), (15, .v), (16, .i .i64), (17, .b), (18, .i .i64), (19, .b)] Ao (An Az Ao)))) Ao) (Am 4 [(2, .v), (12, .i .i64), (13, .i .i64), (14, .i .i64), (15, .v), (16, .i .i64), (17, .b), (18, .i .i64)] Ao Ao))) Ao) Ao)) (Am 5 [(14, .i .i64), (15, .v), (16, .i .i64), (17, .b)] Ao Ao))))))))))))
noncomputable def aL3 (S : Sg) (OM : Int) (KD : Value) (r16 : Int) (zF : Bool) (h : Hp) : aF :=
 bQ (lD r16 (Int.ofNat 0)) fun b0 =>
 bY b0
 (bI (lV OM (Int.ofNat 0)) fun b1 =>
 bY b1
 (bI zF fun b2 =>
 bY b2
 (aO (bP (JE [] h) fun v => some (v, h)) fun v3 h3 =>
 dH v3 fun b4 =>
 some ((Value.bool b4), h3))
 (bQ (lD OM (Int.ofNat 0)) fun b5 =>
 bY b5
 (bU KD fun i6 =>
 bQ (lD i6 (Int.ofNat 0)) fun b7 =>
 bY b7
 (aO (bP (JE [] h) fun v => some (v, h)) fun v8 h8 =>
 dH v8 fun b9 =>
 some ((Value.bool b9), h8))
 (some ((Value.bool false), h)))
 (some ((Value.bool false), h))))
 (some ((Value.bool false), h)))
 (some ((Value.bool false), h))
noncomputable def aL4 (S : Sg) (r2 : Value) (xD Y7 OM : Int) (KD : Value) (r16 : Int) (zF : Bool) (PV : Int) (h : Hp) : aF :=
 wrap64 (Int.add PV (Int.ofNat 1)) fun i0 =>
 S 2 (AL.v r2 (AL.i xD (AL.i Y7 (AL.i OM (AL.v KD (AL.i r16 (AL.b zF (AL.i i0 AL.n)))))))) h
noncomputable def aL5 (S : Sg) (r2 : Value) (xD Y7 OM : Int) (KD : Value) (r16 : Int) (zF : Bool) (PV : Int) (r19 : Bool) (h : Hp) : aF :=
 aO (bP (F43 [KD, (Value.int .i64 PV)] h) fun v => some (v, h)) fun v0 h0 =>
 dH v0 fun b1 =>
 bP (pR env .eql 4 (Operand.tmp 140) (Operand.tmp 143) (Value.bool r19) (Value.bool b1)) fun v2 =>
 dH v2 fun b3 =>
 bY b3
 (some ((Value.bool false), h0))
 (S 4 (AL.v r2 (AL.i xD (AL.i Y7 (AL.i OM (AL.v KD (AL.i r16 (AL.b zF (AL.i PV AL.n)))))))) h0)
noncomputable def aDO (S : Sg) (r2 : Value) (xD Y7 OM : Int) (KD : Value) (r16 : Int) (zF : Bool) (PV : Int) (h : Hp) : aF :=
 aP 0 r2 fun v0 =>
 aI h v0 fun v1 =>
 bU v1 fun i2 =>
 bQ (lV PV i2) fun b3 =>
 bY b3
 (aP 3 r2 fun v4 =>
 aI h v4 fun v5 =>
 dM 3 v5 Y7 fun v6 =>
 aP 1 v6 fun v7 =>
 aI h v7 fun v8 =>
 dM 1 v8 PV fun v9 =>
 aI h v9 fun v10 =>
 aR .i64 v10 fun i11 =>
 bQ (lD i11 (Int.negSucc 0)) fun b12 =>
 bY b12
 (bY zF
 (S 3 (AL.v r2 (AL.i xD (AL.i Y7 (AL.i OM (AL.v KD (AL.i r16 (AL.b true (AL.i PV (AL.b true AL.n))))))))) h)
 (S 3 (AL.v r2 (AL.i xD (AL.i Y7 (AL.i OM (AL.v KD (AL.i r16 (AL.b false (AL.i PV (AL.b true AL.n))))))))) h))
 (aP 3 r2 fun v13 =>
 aI h v13 fun v14 =>
 dM 3 v14 Y7 fun v15 =>
 aP 1 v15 fun v16 =>
 aI h v16 fun v17 =>
 dM 1 v17 PV fun v18 =>
 aI h v18 fun v19 =>
 aR .i64 v19 fun i20 =>
 aP 2 r2 fun v21 =>
 aI h v21 fun v22 =>
 dM 3 v22 xD fun v23 =>
 aP 1 v23 fun v24 =>
 aI h v24 fun v25 =>
 dM 1 v25 PV fun v26 =>
 aI h v26 fun v27 =>
 aR .i64 v27 fun i28 =>
 bQ (lD i20 i28) fun b29 =>
 bY zF
 (S 3 (AL.v r2 (AL.i xD (AL.i Y7 (AL.i OM (AL.v KD (AL.i r16 (AL.b b29 (AL.i PV (AL.b b29 AL.n))))))))) h)
 (S 3 (AL.v r2 (AL.i xD (AL.i Y7 (AL.i OM (AL.v KD (AL.i r16 (AL.b false (AL.i PV (AL.b b29 AL.n))))))))) h)))
 (S 5 (AL.i OM (AL.v KD (AL.i r16 (AL.b zF AL.n)))) h)
noncomputable def aL6 (S : Sg) (r2 r3 : Value) (h : Hp) : aF :=
 aP 3 r2 fun v0 =>
 aI h v0 fun v1 =>
 bU v1 fun i2 =>
 bQ (lD i2 (Int.ofNat 0)) fun b3 =>
 bY b3
 (aO (bP (JE [] h) fun v => some (v, h)) fun v4 h4 =>
 dH v4 fun b5 =>
 some ((Value.bool b5), h4))
 (AA 2 1 r3 (Int.ofNat 0) fun v6 =>
 aI (Hp.mk (Hp.next h) (Hp.next h) (Hp.aD h)) v6 fun v7 =>
 aR .u8 v7 fun i8 =>
 wrap64 i8 fun i9 =>
 aP 2 r2 fun v10 =>
 aI (Hp.mk (Hp.next h) (Hp.next h) (Hp.aD h)) v10 fun v11 =>
 bU v11 fun i12 =>
 qF .i64 (lG env .rem 3 (Value.int .i64 i9) (Value.int .i64 i12)) fun i13 =>
 AA 2 1 r3 (Int.ofNat 1) fun v14 =>
 aI (Hp.mk (Hp.next h) (Hp.next h) (Hp.aD h)) v14 fun v15 =>
 aR .u8 v15 fun i16 =>
 wrap64 i16 fun i17 =>
 aP 3 r2 fun v18 =>
 aI (Hp.mk (Hp.next h) (Hp.next h) (Hp.aD h)) v18 fun v19 =>
 bU v19 fun i20 =>
 qF .i64 (lG env .rem 3 (Value.int .i64 i17) (Value.int .i64 i20)) fun i21 =>
 aX 4 (Hp.mk (Hp.next h) (Hp.ro h) (Hp.aD h)) r2 fun v22 =>
 aO (cZ F18 [v22, (Value.int .i64 i13), (Value.int .i64 i21)] (Hp.mk (Hp.next h) (Hp.ro h) (Hp.aD h))) fun v23 h23 =>
 fU v23 0 fun v24 =>
 aR .i64 v24 fun i25 =>
 fU v23 1 fun v26 =>
 fU v23 2 fun v27 =>
 aR .i64 v27 fun i28 =>
 S 2 (AL.v r2 (AL.i i13 (AL.i i21 (AL.i i25 (AL.v v26 (AL.i i28 (AL.b true (AL.i (Int.ofNat 0) AL.n)))))))) h23)
noncomputable def aL7 (S : Sg) (r2 r3 : Value) (h : Hp) : aF :=
 aX 4 h r2 fun v0 =>
 bF h 25 [(Value.slice none 0 0), (Value.slice none 0 0), (Value.slice none 0 0), (Value.slice none 0 0)] fun a1 h1 =>
 dZ 4 h1 a1 v0 fun h2 =>
 aO (bB env h2 23 0 (List.toArray [])) fun v3 h3 =>
 aP 2 r2 fun v4 =>
 aI h3 v4 fun v5 =>
 aP 2 r2 fun v6 =>
 aI h3 v6 fun v7 =>
 bU v7 fun i8 =>
 aER i8 (Int.ofNat 5) fun i9 =>
 bP (gY env h3 23 v5 none (some (Value.int .i64 i9)) none) fun v10 =>
 aO (fH env h3 #[23, 23] (List.toArray [v3, v10])) fun v11 h11 =>
 aP 3 a1 fun v12 =>
 jQ h11 v12 v11 fun RZ =>
 aX 4 RZ a1 fun v14 =>
 aO (cZ F26 [v14] RZ) fun v15 h15 =>
 fU v15 0 fun v16 =>
 fU v15 1 fun v17 =>
 aR .i64 v17 fun i18 =>
 fU v15 2 fun v19 =>
 aR .i64 v19 fun i20 =>
 bI (lD i20 (Int.ofNat 0)) fun b21 =>
 bY b21
 (some ((Value.bool false), h15))
 (bI (lD i18 (Int.ofNat 0)) fun b22 =>
 bY b22
 (some ((Value.bool false), h15))
 (bU v16 fun i23 =>
 aP 3 a1 fun v24 =>
 aI h15 v24 fun v25 =>
 bU v25 fun i26 =>
 bI (lD i23 i26) fun b27 =>
 bY b27
 (some ((Value.bool false), h15))
 (S 6 (AL.v r2 (AL.v r3 AL.n)) h15)))
noncomputable def aDP (S : Sg) (r2 r3 : Value) (r28 : Bool) (h : Hp) : aF :=
 bY r28
 (aX 4 h r2 fun v0 =>
 aO (cZ F18 [v0, (Value.int .i64 (Int.ofNat 0)), (Value.int .i64 (Int.ofNat 0))] h) fun v1 h1 =>
 fU v1 0 fun v2 =>
 aR .i64 v2 fun i3 =>
 fU v1 1 fun v4 =>
 fU v1 2 fun v5 =>
 aR .i64 v5 fun i6 =>
 bI (lD i6 (Int.ofNat 0)) fun b7 =>
 bY b7
 (aO (bP (JE [] h1) fun v => some (v, h1)) fun v8 h8 =>
 dH v8 fun b9 =>
 some ((Value.bool b9), h8))
 (some ((Value.bool false), h1)))
 (S 7 (AL.v r2 (AL.v r3 AL.n)) h)
noncomputable def aL8 (S : Sg) (r0 r1 : Value) (h : Hp) : aF :=
 bF h 25 (Array.toList (Value.cells r0)) fun a0 h0 =>
 bF h0 64 (Array.toList (Value.cells r1)) fun a1 h1 =>
 aX 4 h1 a0 fun v2 =>
 aO (cZ F37 [v2] h1) fun v3 h3 =>
 dH v3 fun b4 =>
 bI b4 fun b5 =>
 bY b5
 (S 1 (AL.v a0 (AL.v a1 (AL.b true AL.n))) h3)
 (aP 2 a0 fun v6 =>
 aI h3 v6 fun v7 =>
 bU v7 fun i8 =>
 bQ (lD i8 (Int.ofNat 0)) fun b9 =>
 S 1 (AL.v a0 (AL.v a1 (AL.b b9 AL.n))) h3)
noncomputable def LU (S : Sg) : Sg := bW 0 (uV fun r0 => uV fun r1 => uN (aL8 S r0 r1)) (bW 1 (uV fun r2 => uV fun r3 => uB fun r28 => uN (aDP S r2 r3 r28)) (bW 7 (uV fun r2 => uV fun r3 => uN (aL7 S r2 r3)) (bW 6 (uV fun r2 => uV fun r3 => uN (aL6 S r2 r3)) (bW 2 (uV fun r2 => uI fun xD => uI fun Y7 => uI fun OM => uV fun KD => uI fun r16 => uB fun zF => uI fun PV => uN (aDO S r2 xD Y7 OM KD r16 zF PV)) (bW 3 (uV fun r2 => uI fun xD => uI fun Y7 => uI fun OM => uV fun KD => uI fun r16 => uB fun zF => uI fun PV => uB fun r19 => uN (aL5 S r2 xD Y7 OM KD r16 zF PV r19)) (bW 4 (uV fun r2 => uI fun xD => uI fun Y7 => uI fun OM => uV fun KD => uI fun r16 => uB fun zF => uI fun PV => uN (aL4 S r2 xD Y7 OM KD r16 zF PV)) (bW 5 (uI fun OM => uV fun KD => uI fun r16 => uB fun zF => uN (aL3 S OM KD r16 zF)) (jN))))))))
noncomputable def F14 (args : List Value) (h : Hp) : aF := bC [Kd.v, Kd.v] args fun al => aK LU 1000000 0 al h
def bFB : Nat := 2 + (167 - 2)
theorem t14 (S : Sg) : iQ (fun l vs h => aY (jV env aDN bFB) (jW env Try.f14.results.toList) (collect B14 A14 []) l S vs h) (LU S) := by
 unfold LU
 exact dJ (dN fun _ => dN fun _ => jC fun _ => by kernel_rfl) <| dJ (dN fun _ => dN fun _ => rwB fun _ => jC fun _ => by kernel_rfl) <| dJ (dN fun _ => dN fun _ => jC fun _ => by kernel_rfl) <| dJ (dN fun _ => dN fun _ => jC fun _ => by kernel_rfl) <| dJ (dN fun _ => jL fun _ => jL fun _ => jL fun _ => dN fun _ => jL fun _ => rwB fun _ => jL fun _ => jC fun _ => by kernel_rfl) <| dJ (dN fun _ => jL fun _ => jL fun _ => jL fun _ => dN fun _ => jL fun _ => rwB fun _ => jL fun _ => rwB fun _ => jC fun _ => by kernel_rfl) <| dJ (dN fun _ => jL fun _ => jL fun _ => jL fun _ => dN fun _ => jL fun _ => rwB fun _ => jL fun _ => jC fun _ => by kernel_rfl) <| dJ (jL fun _ => dN fun _ => jL fun _ => rwB fun _ => jC fun _ => by kernel_rfl) <| Go.bG.iQ.nil
theorem OM : ∀ args h v h', F14 args h = some (v, h') → eF (C74) (.call 14 args.toArray h) (.ret v h') := by
 intro args h v h' e
 exact bD (C := C74) (fn := Try.f14) (body := B14) (np := 2) (A := A14) (T := LU) (kinds := [Kd.v, Kd.v]) (by kernel_rfl) (by kernel_rfl) (by kernel_rfl) (by kernel_rfl) (dG dK) (by kernel_rfl) (fun S => t14 S) e
noncomputable def a2Z := jI 14 F14 aDN
noncomputable def C75 : dL := cfg a2Z
theorem bOB : C75.Ok := dB (C := C74) aUL OM
end Go.Proofs.Ytdpicdnpiihaaaa.K.L
