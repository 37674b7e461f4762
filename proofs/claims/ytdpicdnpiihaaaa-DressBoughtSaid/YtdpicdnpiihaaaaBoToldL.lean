/- Functions told for the laws. -/
import Derived.Test.YtdpicdnpiihaaaaBoAwake
import Derived.Test.YtdpicdnpiihaaaaBoEngD
open Go Go.bK Go.bK.Y
set_option maxRecDepth 100000
set_option linter.unusedVariables false
namespace Go.Proofs.Ytdpicdnpiihaaaa.K.L
noncomputable def JU : List Value → Hp → Option Value := MX (.bool true)
theorem a0O : fZ Try.prog 21 JU := aUN
noncomputable def aP2 : PF := FH 21 JU aZ9
theorem aKL : eO Try.prog aP2 := iN a0O aUL
noncomputable def aSA := pK 21 JU aKK
noncomputable def C39 : dO := cfg aSA
theorem bD2 : C39.Ok := fT (C := C38) a0M a0O
noncomputable def B65 : Code := (Try.f65.body).getD .skip
noncomputable def A65 : G.eT (List KI) := (Gm 0 [.reg 0 .v] Gz Gy)
noncomputable def aKM (h : Hp) (S : Nat → aD → Option Value) (r0 : Value) : Option Value :=
 o9 (Array.toList (Value.cells r0)) fun c0 =>
 A7 c0 3 fun v1 =>
 bW v1 fun i2 =>
 rT .i64 (U0 (lY env .shl 3 (Value.int .i64 (Int.ofNat 1)) (Value.int .i64 i2)) (Value.int .i64 (Int.ofNat 1)) (Value.int .i64 i2)) fun i3 =>
 wrap64 (Int.sub i3 (Int.ofNat 1)) fun i4 =>
 some (Value.int .i64 i4)
noncomputable def T65 (h : Hp) (S : Nat → aD → Option Value) : Nat → aD → Option Value := dU 0 (wV fun r0 => wN (aKM h S r0)) (kP)
noncomputable def F65 (args : List Value) (h : Hp) : Option Value := plainO (dV [Kd.v] args fun al => G.aK (T65 h) 1000000 0 al)
def bD3 : Nat := 1 + (9 - 1)
theorem t65 (h : Hp) (S : Nat → aD → Option Value) : gW (fun l al => G.aY iF dB oM (pJ env aP2 bD3 h) (qE env Try.f65.results.toList) (G.collect B65 A65 []) l S al) (T65 h S) := by
 unfold T65
 exact dX (nA fun _ => oO (by kernel_rfl)) <| gW.nil
theorem r65 : fZ Try.prog 65 F65 := dI (C := C0) ok0 (pf := aP2) aKL (fn := Try.f65) (body := B65) (kinds := [Kd.v]) (A := A65) (T := T65) (by kernel_rfl) (by kernel_rfl) (by kernel_rfl) (by kernel_rfl) (fun h S => t65 h S)
noncomputable def aP3 : PF := FH 65 F65 aP2
theorem aKN : eO Try.prog aP3 := iN r65 aKL
noncomputable def aKO := pK 65 F65 aSA
noncomputable def C40 : dO := cfg aKO
theorem bD4 : C40.Ok := fT (C := C39) bD2 r65
noncomputable def B96 : Code := (Try.f96.body).getD .skip
def A96 : eT := (Am 0 [(0, .v)] Ao (An (An Ao (An Az Ao)) Az))
noncomputable def aKP (S : Sg) (r0 : Value) (h : Hp) : aF :=
 bS (qP env .eql 79 (Operand.tmp 3) (Operand.const (Value.slice none 0 0)) r0 (Value.slice none 0 0)) fun v0 =>
 dM v0 fun b1 =>
 bY b1
 (some ((Value.slice none 0 0), h))
 (aN (bA env h 79 0 (List.toArray [])) fun v2 h2 =>
 aN (fC env h2 #[79, 79] (List.toArray [v2, r0])) fun v3 h3 =>
 some (v3, h3))
noncomputable def T96 (S : Sg) : Sg := cK 0 (uV fun r0 => uN (aKP S r0)) (jI)
noncomputable def F96 (args : List Value) (h : Hp) : aF := bB [Kd.v] args fun al => aK T96 1000000 0 al h
def bD5 : Nat := 1 + (8 - 1)
theorem t96 (S : Sg) : iO (fun l vs h => aY (jZ env aKO bD5) (jV env Try.f96.results.toList) (collect B96 A96 []) l S vs h) (T96 S) := by
 unfold T96
 exact dK (dN fun _ => iZ fun _ => by kernel_rfl) <| Go.bK.iO.nil
theorem r96 : ∀ args h v h', F96 args h = some (v, h') → eF (C40) (.call 96 args.toArray h) (.ret v h') := by
 intro args h v h' e
 exact bC (C := C40) (fn := Try.f96) (body := B96) (np := 1) (A := A96) (T := T96) (kinds := [Kd.v]) (by kernel_rfl) (by kernel_rfl) (by kernel_rfl) (by kernel_rfl) (dH dL) (by kernel_rfl) (fun S => t96 S) e
noncomputable def aSB := jF 96 F96 aKO
noncomputable def C41 : dO := cfg aSB
theorem bD6 : C41.Ok := dA (C := C40) bD4 r96
noncomputable def a0S : Code := (Try.f112.body).getD .skip
noncomputable def a0T : G.eT (List KI) := (Gm 0 [.reg 0 (.i .u32)] Gz (Gn (Gn Gz (Gn Gy Gz)) (Gm 2 [.reg 0 (.i .u32), .reg 2 (.i .i64)] (Gn Gz (Gn Gy Gz)) (Gm 1 [.reg 0 (.i .u32), .reg 2 (.i .i64)] Gz Gz))))
noncomputable def aUO (h : Hp) (S : Nat → aD → Option Value) (r0 r2 : Int) : Option Value :=
 uL (vQ .u8 r0) fun i0 =>
 bS (jU env 9 (Value.string (ByteArray.mk #[0, 1, 2, 2, 3, 3, 3, 3, 4, 4, 4, 4, 4, 4, 4, 4, 5, 5, 5, 5, 5, 5, 5, 5, 5, 5, 5, 5, 5, 5, 5, 5, 6, 6, 6, 6, 6, 6, 6, 6, 6, 6, 6, 6, 6, 6, 6, 6, 6, 6, 6, 6, 6, 6, 6, 6, 6, 6, 6, 6, 6, 6, 6, 6, 7, 7, 7, 7, 7, 7, 7, 7, 7, 7, 7, 7, 7, 7, 7, 7, 7, 7, 7, 7, 7, 7, 7, 7, 7, 7, 7, 7, 7, 7, 7, 7, 7, 7, 7, 7, 7, 7, 7, 7, 7, 7, 7, 7, 7, 7, 7, 7, 7, 7, 7, 7, 7, 7, 7, 7, 7, 7, 7, 7, 7, 7, 7, 7, 8, 8, 8, 8, 8, 8, 8, 8, 8, 8, 8, 8, 8, 8, 8, 8, 8, 8, 8, 8, 8, 8, 8, 8, 8, 8, 8, 8, 8, 8, 8, 8, 8, 8, 8, 8, 8, 8, 8, 8, 8, 8, 8, 8, 8, 8, 8, 8, 8, 8, 8, 8, 8, 8, 8, 8, 8, 8, 8, 8, 8, 8, 8, 8, 8, 8, 8, 8, 8, 8, 8, 8, 8, 8, 8, 8, 8, 8, 8, 8, 8, 8, 8, 8, 8, 8, 8, 8, 8, 8, 8, 8, 8, 8, 8, 8, 8, 8, 8, 8, 8, 8, 8, 8, 8, 8, 8, 8, 8, 8, 8, 8, 8, 8, 8, 8, 8, 8, 8, 8, 8, 8, 8, 8, 8, 8, 8, 8])) (Value.int .u8 i0)) fun v1 =>
 aS .u8 v1 fun i2 =>
 wrap64 i2 fun i3 =>
 wrap64 (Int.add r2 i3) fun i4 =>
 some (Value.int .i64 i4)
noncomputable def aUP (h : Hp) (S : Nat → aD → Option Value) (r0 r2 : Int) : Option Value :=
 bE (lI r0 (Int.ofNat 256)) fun b0 =>
 bY b0
 (VB .u32 r0 (Int.ofNat 8) (DW (lY env .shr 143 (Value.int .u32 r0) (Value.int .u64 (Int.ofNat 8))) (Value.int .u32 r0) (Value.int .u64 (Int.ofNat 8))) fun i1 =>
 wrap64 (Int.add r2 (Int.ofNat 8)) fun i2 =>
 S 1 (aD.i i1 (aD.i i2 aD.n)))
 (S 1 (aD.i r0 (aD.i r2 aD.n)))
noncomputable def aUQ (h : Hp) (S : Nat → aD → Option Value) (r0 : Int) : Option Value :=
 bE (lI r0 (Int.ofNat 65536)) fun b0 =>
 bY b0
 (VB .u32 r0 (Int.ofNat 16) (DW (lY env .shr 143 (Value.int .u32 r0) (Value.int .u64 (Int.ofNat 16))) (Value.int .u32 r0) (Value.int .u64 (Int.ofNat 16))) fun i1 =>
 S 2 (aD.i i1 (aD.i (Int.ofNat 16) aD.n)))
 (S 2 (aD.i r0 (aD.i (Int.ofNat 0) aD.n)))
noncomputable def aP4 (h : Hp) (S : Nat → aD → Option Value) : Nat → aD → Option Value := dU 0 (wI fun r0 => wN (aUQ h S r0)) (dU 2 (wI fun r0 => wI fun r2 => wN (aUP h S r0 r2)) (dU 1 (wI fun r0 => wI fun r2 => wN (aUO h S r0 r2)) (kP)))
noncomputable def aUR (args : List Value) (h : Hp) : Option Value := plainO (dV [Kd.i .u32] args fun al => G.aK (aP4 h) 1000000 0 al)
def a0U : Nat := 1 + (19 - 1)
theorem t112 (h : Hp) (S : Nat → aD → Option Value) : gW (fun l al => G.aY iF dB oM (pJ env aP3 a0U h) (qE env Try.f112.results.toList) (G.collect a0S a0T []) l S al) (aP4 h S) := by
 unfold aP4
 exact dX (jX fun _ => oO (by kernel_rfl)) <| dX (jX fun _ => jX fun _ => oO (by kernel_rfl)) <| dX (jX fun _ => jX fun _ => oO (by kernel_rfl)) <| gW.nil
theorem a0V : fZ Try.prog 112 aUR := dI (C := C0) ok0 (pf := aP3) aKN (fn := Try.f112) (body := a0S) (kinds := [Kd.i .u32]) (A := a0T) (T := aP4) (by kernel_rfl) (by kernel_rfl) (by kernel_rfl) (by kernel_rfl) (fun h S => t112 h S)
noncomputable def aP5 : PF := FH 112 aUR aP3
theorem aKQ : eO Try.prog aP5 := iN a0V aKN
noncomputable def aSC := pK 112 aUR aSB
noncomputable def C42 : dO := cfg aSC
theorem bD7 : C42.Ok := fT (C := C41) bD6 a0V
noncomputable def a0W : Code := (Try.f113.body).getD .skip
noncomputable def a0X : G.eT (List KI) := (Gm 0 [.reg 0 (.i .u64)] Gz (Gn (Gn Gz (Gn Gy Gz)) (Gm 3 [.reg 0 (.i .u64), .reg 2 (.i .i64)] (Gn Gz (Gn Gy Gz)) (Gm 2 [.reg 0 (.i .u64), .reg 2 (.i .i64)] (Gn Gz (Gn Gy Gz)) (Gm 1 [.reg 0 (.i .u64), .reg 2 (.i .i64)] Gz Gz)))))
noncomputable def aUS (h : Hp) (S : Nat → aD → Option Value) (r0 r2 : Int) : Option Value :=
 uL (vQ .u8 r0) fun i0 =>
 bS (jU env 9 (Value.string (ByteArray.mk #[0, 1, 2, 2, 3, 3, 3, 3, 4, 4, 4, 4, 4, 4, 4, 4, 5, 5, 5, 5, 5, 5, 5, 5, 5, 5, 5, 5, 5, 5, 5, 5, 6, 6, 6, 6, 6, 6, 6, 6, 6, 6, 6, 6, 6, 6, 6, 6, 6, 6, 6, 6, 6, 6, 6, 6, 6, 6, 6, 6, 6, 6, 6, 6, 7, 7, 7, 7, 7, 7, 7, 7, 7, 7, 7, 7, 7, 7, 7, 7, 7, 7, 7, 7, 7, 7, 7, 7, 7, 7, 7, 7, 7, 7, 7, 7, 7, 7, 7, 7, 7, 7, 7, 7, 7, 7, 7, 7, 7, 7, 7, 7, 7, 7, 7, 7, 7, 7, 7, 7, 7, 7, 7, 7, 7, 7, 7, 7, 8, 8, 8, 8, 8, 8, 8, 8, 8, 8, 8, 8, 8, 8, 8, 8, 8, 8, 8, 8, 8, 8, 8, 8, 8, 8, 8, 8, 8, 8, 8, 8, 8, 8, 8, 8, 8, 8, 8, 8, 8, 8, 8, 8, 8, 8, 8, 8, 8, 8, 8, 8, 8, 8, 8, 8, 8, 8, 8, 8, 8, 8, 8, 8, 8, 8, 8, 8, 8, 8, 8, 8, 8, 8, 8, 8, 8, 8, 8, 8, 8, 8, 8, 8, 8, 8, 8, 8, 8, 8, 8, 8, 8, 8, 8, 8, 8, 8, 8, 8, 8, 8, 8, 8, 8, 8, 8, 8, 8, 8, 8, 8, 8, 8, 8, 8, 8, 8, 8, 8, 8, 8, 8, 8, 8, 8, 8, 8])) (Value.int .u8 i0)) fun v1 =>
 aS .u8 v1 fun i2 =>
 wrap64 i2 fun i3 =>
 wrap64 (Int.add r2 i3) fun i4 =>
 some (Value.int .i64 i4)
noncomputable def aUT (h : Hp) (S : Nat → aD → Option Value) (r0 r2 : Int) : Option Value :=
 bE (lI r0 (Int.ofNat 256)) fun b0 =>
 bY b0
 (VB .u64 r0 (Int.ofNat 8) (DW (lY env .shr 145 (Value.int .u64 r0) (Value.int .u64 (Int.ofNat 8))) (Value.int .u64 r0) (Value.int .u64 (Int.ofNat 8))) fun i1 =>
 wrap64 (Int.add r2 (Int.ofNat 8)) fun i2 =>
 S 1 (aD.i i1 (aD.i i2 aD.n)))
 (S 1 (aD.i r0 (aD.i r2 aD.n)))
noncomputable def aUU (h : Hp) (S : Nat → aD → Option Value) (r0 r2 : Int) : Option Value :=
 bE (lI r0 (Int.ofNat 65536)) fun b0 =>
 bY b0
 (VB .u64 r0 (Int.ofNat 16) (DW (lY env .shr 145 (Value.int .u64 r0) (Value.int .u64 (Int.ofNat 16))) (Value.int .u64 r0) (Value.int .u64 (Int.ofNat 16))) fun i1 =>
 wrap64 (Int.add r2 (Int.ofNat 16)) fun i2 =>
 S 2 (aD.i i1 (aD.i i2 aD.n)))
 (S 2 (aD.i r0 (aD.i r2 aD.n)))
noncomputable def aUV (h : Hp) (S : Nat → aD → Option Value) (r0 : Int) : Option Value :=
 bE (lI r0 (Int.ofNat 4294967296)) fun b0 =>
 bY b0
 (VB .u64 r0 (Int.ofNat 32) (DW (lY env .shr 145 (Value.int .u64 r0) (Value.int .u64 (Int.ofNat 32))) (Value.int .u64 r0) (Value.int .u64 (Int.ofNat 32))) fun i1 =>
 S 3 (aD.i i1 (aD.i (Int.ofNat 32) aD.n)))
 (S 3 (aD.i r0 (aD.i (Int.ofNat 0) aD.n)))
noncomputable def aP6 (h : Hp) (S : Nat → aD → Option Value) : Nat → aD → Option Value := dU 0 (wI fun r0 => wN (aUV h S r0)) (dU 3 (wI fun r0 => wI fun r2 => wN (aUU h S r0 r2)) (dU 2 (wI fun r0 => wI fun r2 => wN (aUT h S r0 r2)) (dU 1 (wI fun r0 => wI fun r2 => wN (aUS h S r0 r2)) (kP))))
noncomputable def aP7 (args : List Value) (h : Hp) : Option Value := plainO (dV [Kd.i .u64] args fun al => G.aK (aP6 h) 1000000 0 al)
def a0Y : Nat := 1 + (25 - 1)
theorem t113 (h : Hp) (S : Nat → aD → Option Value) : gW (fun l al => G.aY iF dB oM (pJ env aP5 a0Y h) (qE env Try.f113.results.toList) (G.collect a0W a0X []) l S al) (aP6 h S) := by
 unfold aP6
 exact dX (jX fun _ => oO (by kernel_rfl)) <| dX (jX fun _ => jX fun _ => oO (by kernel_rfl)) <| dX (jX fun _ => jX fun _ => oO (by kernel_rfl)) <| dX (jX fun _ => jX fun _ => oO (by kernel_rfl)) <| gW.nil
theorem a0Z : fZ Try.prog 113 aP7 := dI (C := C0) ok0 (pf := aP5) aKQ (fn := Try.f113) (body := a0W) (kinds := [Kd.i .u64]) (A := a0X) (T := aP6) (by kernel_rfl) (by kernel_rfl) (by kernel_rfl) (by kernel_rfl) (fun h S => t113 h S)
noncomputable def aP8 : PF := FH 113 aP7 aP5
theorem aKR : eO Try.prog aP8 := iN a0Z aKQ
noncomputable def aSD := pK 113 aP7 aSC
noncomputable def C43 : dO := cfg aSD
theorem bD8 : C43.Ok := fT (C := C42) bD7 a0Z
noncomputable def B97 : Code := (Try.f97.body).getD .skip
noncomputable def A97 : G.eT (List KI) := (Gm 0 [.reg 0 (.i .u64)] Gz (Gn (Gn Gy Gz) Gy))
noncomputable def a00 (h : Hp) (S : Nat → aD → Option Value) (r0 : Int) : Option Value :=
 bS (aP7 [(Value.int .u64 r0)] h) fun v0 =>
 aS .i64 v0 fun i1 =>
 some (Value.int .i64 i1)
noncomputable def T97 (h : Hp) (S : Nat → aD → Option Value) : Nat → aD → Option Value := dU 0 (wI fun r0 => wN (a00 h S r0)) (kP)
noncomputable def F97 (args : List Value) (h : Hp) : Option Value := plainO (dV [Kd.i .u64] args fun al => G.aK (T97 h) 1000000 0 al)
def bD9 : Nat := 1 + (8 - 1)
theorem t97 (h : Hp) (S : Nat → aD → Option Value) : gW (fun l al => G.aY iF dB oM (pJ env aP8 bD9 h) (qE env Try.f97.results.toList) (G.collect B97 A97 []) l S al) (T97 h S) := by
 unfold T97
 exact dX (jX fun _ => oO (by kernel_rfl)) <| gW.nil
theorem r97 : fZ Try.prog 97 F97 := dI (C := C0) ok0 (pf := aP8) aKR (fn := Try.f97) (body := B97) (kinds := [Kd.i .u64]) (A := A97) (T := T97) (by kernel_rfl) (by kernel_rfl) (by kernel_rfl) (by kernel_rfl) (fun h S => t97 h S)
noncomputable def aP9 : PF := FH 97 F97 aP8
theorem aKS : eO Try.prog aP9 := iN r97 aKR
noncomputable def aSE := pK 97 F97 aSD
noncomputable def C44 : dO := cfg aSE
theorem bEA : C44.Ok := fT (C := C43) bD8 r97
noncomputable def B98 : Code := (Try.f98.body).getD .skip
noncomputable def A98 : G.eT (List KI) := (Gm 0 [.reg 0 (.i .i64), .reg 1 (.i .i64)] Gz Gy)
noncomputable def a01 (h : Hp) (S : Nat → aD → Option Value) (r0 r1 : Int) : Option Value :=
 VB .i64 r0 r1 (DW (lY env .shr 3 (Value.int .i64 r0) (Value.int .i64 r1)) (Value.int .i64 r0) (Value.int .i64 r1)) fun i0 =>
 aOR .i64 i0 (Int.ofNat 1) (QJ (lY env .and 3 (Value.int .i64 i0) (Value.int .i64 (Int.ofNat 1))) (Value.int .i64 i0) (Value.int .i64 (Int.ofNat 1))) fun i1 =>
 bQ (kF i1 (Int.ofNat 1)) fun b2 =>
 some (Value.bool b2)
noncomputable def T98 (h : Hp) (S : Nat → aD → Option Value) : Nat → aD → Option Value := dU 0 (wI fun r0 => wI fun r1 => wN (a01 h S r0 r1)) (kP)
noncomputable def F98 (args : List Value) (h : Hp) : Option Value := plainO (dV [Kd.i .i64, Kd.i .i64] args fun al => G.aK (T98 h) 1000000 0 al)
def bEB : Nat := 2 + (10 - 2)
theorem t98 (h : Hp) (S : Nat → aD → Option Value) : gW (fun l al => G.aY iF dB oM (pJ env aP9 bEB h) (qE env Try.f98.results.toList) (G.collect B98 A98 []) l S al) (T98 h S) := by
 unfold T98
 exact dX (jX fun _ => jX fun _ => oO (by kernel_rfl)) <| gW.nil
theorem r98 : fZ Try.prog 98 F98 := dI (C := C0) ok0 (pf := aP9) aKS (fn := Try.f98) (body := B98) (kinds := [Kd.i .i64, Kd.i .i64]) (A := A98) (T := T98) (by kernel_rfl) (by kernel_rfl) (by kernel_rfl) (by kernel_rfl) (fun h S => t98 h S)
noncomputable def aQA : PF := FH 98 F98 aP9
theorem aKT : eO Try.prog aQA := iN r98 aKS
noncomputable def aKU := pK 98 F98 aSE
noncomputable def C45 : dO := cfg aKU
theorem bEC : C45.Ok := fT (C := C44) bEA r98
noncomputable def B69 : Code := (Try.f69.body).getD .skip
def A69 : eT := (Am 0 [(0, .i .i64)] Ao (An Ao (An (An Ao (An (Am 1 [(0, .i .i64), (3, .v), (7, .i .i64), (8, .i .i64)] (An Ao (An Az (An (An (An Ao (An Ao Az)) Ao) Ao))) Ao) Ao)) (Am 2 [(3, .v)] Ao Ao))))
noncomputable def a02 (S : Sg) (r3 : Value) (h : Hp) : aF :=
 some (r3, h)
noncomputable def aDW (S : Sg) (r0 : Int) (r3 : Value) (r7 r8 : Int) (h : Hp) : aF :=
 bQ (lI r8 r7) fun b0 =>
 bY b0
 (aN (bS (F98 [(Value.int .i64 r0), (Value.int .i64 r8)] h) fun v => some (v, h)) fun v1 h1 =>
 dM v1 fun b2 =>
 bY b2
 (aN (bA env h1 22 1 (List.toArray [(0, (Value.int .i64 r8))])) fun v3 h3 =>
 aN (fC env h3 #[22, 22] (List.toArray [r3, v3])) fun v4 h4 =>
 wrap64 (Int.add r8 (Int.ofNat 1)) fun i5 =>
 S 1 (AL.i r0 (AL.v v4 (AL.i r7 (AL.i i5 AL.n)))) h4)
 (wrap64 (Int.add r8 (Int.ofNat 1)) fun i6 =>
 S 1 (AL.i r0 (AL.v r3 (AL.i r7 (AL.i i6 AL.n)))) h1))
 (S 2 (AL.v r3 AL.n) h)
noncomputable def aKV (S : Sg) (r0 : Int) (h : Hp) : aF :=
 uL (vQ .u64 r0) fun i0 =>
 aN (bS (F97 [(Value.int .u64 i0)] h) fun v => some (v, h)) fun v1 h1 =>
 aS .i64 v1 fun i2 =>
 S 1 (AL.i r0 (AL.v (Value.slice none 0 0) (AL.i i2 (AL.i (Int.ofNat 0) AL.n)))) h1
noncomputable def T69 (S : Sg) : Sg := cK 0 (uI fun r0 => uN (aKV S r0)) (cK 1 (uI fun r0 => uV fun r3 => uI fun r7 => uI fun r8 => uN (aDW S r0 r3 r7 r8)) (cK 2 (uV fun r3 => uN (a02 S r3)) (jI)))
noncomputable def F69 (args : List Value) (h : Hp) : aF := bB [Kd.i .i64] args fun al => aK T69 1000000 0 al h
def bED : Nat := 1 + (20 - 1)
theorem t69 (S : Sg) : iO (fun l vs h => aY (jZ env aKU bED) (jV env Try.f69.results.toList) (collect B69 A69 []) l S vs h) (T69 S) := by
 unfold T69
 exact dK (jG fun _ => iZ fun _ => by kernel_rfl) <| dK (jG fun _ => dN fun _ => jG fun _ => jG fun _ => iZ fun _ => by kernel_rfl) <| dK (dN fun _ => iZ fun _ => by kernel_rfl) <| Go.bK.iO.nil
theorem r69 : ∀ args h v h', F69 args h = some (v, h') → eF (C45) (.call 69 args.toArray h) (.ret v h') := by
 intro args h v h' e
 exact bC (C := C45) (fn := Try.f69) (body := B69) (np := 1) (A := A69) (T := T69) (kinds := [Kd.i .i64]) (by kernel_rfl) (by kernel_rfl) (by kernel_rfl) (by kernel_rfl) (dH dL) (by kernel_rfl) (fun S => t69 S) e
noncomputable def aKW := jF 69 F69 aKU
noncomputable def C46 : dO := cfg aKW
theorem bEE : C46.Ok := dA (C := C45) bEC r69
noncomputable def B68 : Code := (Try.f68.body).getD .skip
def A68 : eT := (Am 0 [(0, .v), (1, .i .i64)] Ao (An Ao Az))
noncomputable def aKX (S : Sg) (r0 : Value) (r1 : Int) (h : Hp) : aF :=
 bD h 71 (Array.toList (Value.cells r0)) fun a0 h0 =>
 aN (bV F69 [(Value.int .i64 r1)] h0) fun v1 h1 =>
 bD h1 22 [(Value.slice none 0 0)] fun a2 h2 =>
 jW h2 a2 v1 fun h3 =>
 some ((Value.func (.func 94) (List.toArray []) (List.toArray [a2, a0])), h3)
noncomputable def T68 (S : Sg) : Sg := cK 0 (uV fun r0 => uI fun r1 => uN (aKX S r0 r1)) (jI)
noncomputable def F68 (args : List Value) (h : Hp) : aF := bB [Kd.v, Kd.i .i64] args fun al => aK T68 1000000 0 al h
def bEF : Nat := 2 + (9 - 2)
theorem t68 (S : Sg) : iO (fun l vs h => aY (jZ env aKW bEF) (jV env Try.f68.results.toList) (collect B68 A68 []) l S vs h) (T68 S) := by
 unfold T68
 exact dK (dN fun _ => jG fun _ => iZ fun _ => by kernel_rfl) <| Go.bK.iO.nil
theorem r68 : ∀ args h v h', F68 args h = some (v, h') → eF (C46) (.call 68 args.toArray h) (.ret v h') := by
 intro args h v h' e
 exact bC (C := C46) (fn := Try.f68) (body := B68) (np := 2) (A := A68) (T := T68) (kinds := [Kd.v, Kd.i .i64]) (by kernel_rfl) (by kernel_rfl) (by kernel_rfl) (by kernel_rfl) (dH dL) (by kernel_rfl) (fun S => t68 S) e
noncomputable def aKY := jF 68 F68 aKW
noncomputable def C47 : dO := cfg aKY
theorem a06 : C47.Ok := dA (C := C46) bEE r68
noncomputable def BQ := hide [95, 94] aKY
noncomputable def DZ : dO := aYB C47 [95, 94]
theorem bEH : DZ.Ok := aPP a06 _
noncomputable def aB6 : FY := fyN
theorem VY : zP DZ aB6 := aT6 _
noncomputable def B95 : Code := (Try.f95.body).getD .skip
def A95 : eT := (Am 0 [(0, .i .i64), (1, .v), (2, .v), (3, .v), (4, .v), (5, .v)] Ao (An (An (An Ao (An Az Ao)) (An Ao (An (An Ao (An (Am 1 [(0, .i .i64), (1, .v), (3, .v), (5, .v), (22, .i .i64), (23, .i .i64)] (An Ao (An Az (An (An (An Ao (An (An Ao (An (Am 2 [(0, .i .i64), (1, .v), (3, .v), (5, .v), (8, .i .i64), (22, .i .i64), (23, .i .i64), (28, .v), (29, .i .i64), (30, .i .i64)] (An Ao (An Az (An (An (An Ao (An Ao Az)) Ao) Ao))) Ao) Ao)) (Am 3 [(0, .i .i64), (1, .v), (3, .v), (5, .v), (8, .i .i64), (22, .i .i64), (23, .i .i64)] Ao (An Ao (An Az Ao))))) Ao) (Am 4 [(0, .i .i64), (1, .v), (3, .v), (5, .v), (22, .i .i64), (23, .i .i64)] Ao Ao)))) Ao) Ao)) (Am 5 [] Ao Ao)))) Ao))
def aUW : Nat := 6 + (54 - 6)
noncomputable def a07 (R : YF → List Value → Hp → aF) (yf : YF) : RG := rgN
theorem g95 (R : YF → List Value → Hp → aF) (hR : ROk DZ 95 R) (yf : YF) (hY : JR DZ yf) : BO DZ aUW (a07 R yf) (qF B95 A95) := by
 rw [show qF B95 A95 = [] from by kernel_rfl]
 intro x hx
 exact absurd hx (by simp)
noncomputable def aKZ (R : YF → List Value → Hp → aF) (yf : YF) (S : rY) (z : Z) (h : Hp) : aF :=
 bS (xN (Z.ds (Z.lose z)) h) fun h0 =>
 some ((Value.bool true), h0)
noncomputable def aK0 (R : YF → List Value → Hp → aF) (yf : YF) (S : rY) (r0 : Int) (r1 r3 r5 : Value) (TC VZ : Int) (z : Z) (h : Hp) : aF :=
 wrap64 (Int.add VZ (Int.ofNat 1)) fun i0 =>
 S 1 (AL.i r0 (AL.v r1 (AL.v r3 (AL.v r5 (AL.i TC (AL.i i0 AL.n)))))) (Z.lose z) h
noncomputable def aK1 (R : YF → List Value → Hp → aF) (yf : YF) (S : rY) (r0 : Int) (r1 r3 r5 : Value) (r8 TC VZ : Int) (z : Z) (h : Hp) : aF :=
 aI (Hp.mk (Hp.next h) (Hp.next h) (Hp.aC h)) r3 fun v0 =>
 aI (Hp.mk (Hp.next h) (Hp.next h) (Hp.aC h)) r1 fun v1 =>
 dS 1 v1 r0 fun v2 =>
 aI (Hp.mk (Hp.next h) (Hp.next h) (Hp.aC h)) v2 fun v3 =>
 aS .i64 v3 fun i4 =>
 bS (jQ env 76 (List.toArray [(0, (Value.int .i64 r8)), (1, (Value.int .i64 i4))])) fun v5 =>
 iH v5 (Hp.next h) (Hp.mk (Hp.next h) (Hp.next h) T.nil) fun w6 n6 =>
 dS 2 v0 r0 fun v7 =>
 dY 2 (Hp.mk n6 (Hp.ro h) (aP w6 (Hp.aC h))) v7 v5 fun h8 =>
 aI h8 r5 fun v9 =>
 wrap64 (Int.add r0 (Int.ofNat 1)) fun i10 =>
 aN (EG BQ (fyC 95 R aB6) yf v9 [(Value.int .i64 i10)] h8) fun v11 h11 =>
 dM v11 fun b12 =>
 bE b12 fun b13 =>
 bY b13
 (bS (xN (Z.ds (Z.lose z)) h11) fun h14 =>
 some ((Value.bool false), h14))
 (S 4 (AL.i r0 (AL.v r1 (AL.v r3 (AL.v r5 (AL.i TC (AL.i VZ AL.n)))))) (Z.lose z) h11)
noncomputable def aDX (R : YF → List Value → Hp → aF) (yf : YF) (S : rY) (r0 : Int) (r1 r3 r5 : Value) (r8 TC VZ : Int) (r28 : Value) (r29 r30 : Int) (z : Z) (h : Hp) : aF :=
 bQ (lI r30 r29) fun b0 =>
 bY b0
 (dS 2 r28 r30 fun v1 =>
 aT 2 h v1 fun v2 =>
 bD h 76 [(Value.int .i64 (Int.ofNat 0)), (Value.int .i64 (Int.ofNat 0))] fun a3 h3 =>
 dY 2 h3 a3 v2 fun h4 =>
 aR 0 a3 fun v5 =>
 aI h4 v5 fun v6 =>
 aS .i64 v6 fun i7 =>
 bQ (kF i7 r8) fun b8 =>
 bY b8
 (S 4 (AL.i r0 (AL.v r1 (AL.v r3 (AL.v r5 (AL.i TC (AL.i VZ AL.n)))))) (Z.lose z) h4)
 (wrap64 (Int.add r30 (Int.ofNat 1)) fun i9 =>
 S 2 (AL.i r0 (AL.v r1 (AL.v r3 (AL.v r5 (AL.i r8 (AL.i TC (AL.i VZ (AL.v r28 (AL.i r29 (AL.i i9 AL.n)))))))))) (Z.lose z) h4))
 (S 3 (AL.i r0 (AL.v r1 (AL.v r3 (AL.v r5 (AL.i r8 (AL.i TC (AL.i VZ AL.n))))))) (Z.lose z) h)
noncomputable def aDY (R : YF → List Value → Hp → aF) (yf : YF) (S : rY) (r0 : Int) (r1 r3 r5 : Value) (TC VZ : Int) (z : Z) (h : Hp) : aF :=
 bQ (lI VZ TC) fun b0 =>
 bY b0
 (aI h r3 fun v1 =>
 bS (jA env h 79 v1 none (some (Value.int .i64 r0)) none) fun v2 =>
 bW v2 fun i3 =>
 S 2 (AL.i r0 (AL.v r1 (AL.v r3 (AL.v r5 (AL.i VZ (AL.i TC (AL.i VZ (AL.v v2 (AL.i i3 (AL.i (Int.ofNat 0) AL.n)))))))))) (Z.lose z) h)
 (S 5 AL.n (Z.lose z) h)
noncomputable def Y1 (R : YF → List Value → Hp → aF) (yf : YF) (S : rY) (r0 : Int) (r1 r2 : Value) (r3 r4 r5 : Value) (z : Z) (h : Hp) : aF :=
 aI h r1 fun v0 =>
 bW v0 fun i1 =>
 bQ (kF r0 i1) fun b2 =>
 bY b2
 (aI (Hp.mk (Hp.next h) (Hp.next h) (Hp.aC h)) r2 fun v3 =>
 aI (Hp.mk (Hp.next h) (Hp.next h) (Hp.aC h)) r3 fun v4 =>
 aN (bV F96 [v4] (Hp.mk (Hp.next h) (Hp.next h) (Hp.aC h))) fun v5 h5 =>
 iH v5 (Hp.next h) h5 fun w6 n6 =>
 aN (EG BQ (fyC 95 R aB6) yf v3 [v5] (Hp.mk n6 (Hp.ro h) (aP w6 (Hp.aC h)))) fun v7 h7 =>
 dM v7 fun b8 =>
 bS (xN (Z.ds (Z.lose z)) h7) fun h9 =>
 some ((Value.bool b8), h9))
 (aR 0 r4 fun v10 =>
 aR 2 v10 fun v11 =>
 aI h v11 fun v12 =>
 bW v12 fun i13 =>
 S 1 (AL.i r0 (AL.v r1 (AL.v r3 (AL.v r5 (AL.i i13 (AL.i (Int.ofNat 0) AL.n)))))) (Z.lose z) h)
noncomputable def MN (R : YF → List Value → Hp → aF) (yf : YF) (S : rY) : rY := Y.cK 0 (Y.uI fun r0 => Y.uV fun r1 => Y.uV fun r2 => Y.uV fun r3 => Y.uV fun r4 => Y.uV fun r5 => Y.uN (Y1 R yf S r0 r1 r2 r3 r4 r5)) (Y.cK 1 (Y.uI fun r0 => Y.uV fun r1 => Y.uV fun r3 => Y.uV fun r5 => Y.uI fun TC => Y.uI fun VZ => Y.uN (aDY R yf S r0 r1 r3 r5 TC VZ)) (Y.cK 2 (Y.uI fun r0 => Y.uV fun r1 => Y.uV fun r3 => Y.uV fun r5 => Y.uI fun r8 => Y.uI fun TC => Y.uI fun VZ => Y.uV fun r28 => Y.uI fun r29 => Y.uI fun r30 => Y.uN (aDX R yf S r0 r1 r3 r5 r8 TC VZ r28 r29 r30)) (Y.cK 3 (Y.uI fun r0 => Y.uV fun r1 => Y.uV fun r3 => Y.uV fun r5 => Y.uI fun r8 => Y.uI fun TC => Y.uI fun VZ => Y.uN (aK1 R yf S r0 r1 r3 r5 r8 TC VZ)) (Y.cK 4 (Y.uI fun r0 => Y.uV fun r1 => Y.uV fun r3 => Y.uV fun r5 => Y.uI fun TC => Y.uI fun VZ => Y.uN (aK0 R yf S r0 r1 r3 r5 TC VZ)) (Y.cK 5 (Y.uN (aKZ R yf S)) (Y.jI))))))
theorem t95 (R : YF → List Value → Hp → aF) (yf : YF) (S : rY) : Y.iO (fun l vs z h => Y.aY (a07 R yf) (fyC 95 R aB6) yf none aUW 0 (aDN env BQ (fyC 95 R aB6) aUW yf) (OX env Try.f95.results.toList) (OX env Try.f95.results.toList) YM (Y.collect B95 A95 []) l S vs z h) (MN R yf S) := by
 unfold MN
 exact BP (YP fun _ => DY fun _ => DY fun _ => DY fun _ => DY fun _ => DY fun _ => ywN fun _ _ => by kernel_rfl) <| BP (YP fun _ => DY fun _ => DY fun _ => DY fun _ => YP fun _ => YP fun _ => ywN fun _ _ => by kernel_rfl) <| BP (YP fun _ => DY fun _ => DY fun _ => DY fun _ => YP fun _ => YP fun _ => YP fun _ => DY fun _ => YP fun _ => YP fun _ => ywN fun _ _ => by kernel_rfl) <| BP (YP fun _ => DY fun _ => DY fun _ => DY fun _ => YP fun _ => YP fun _ => YP fun _ => ywN fun _ _ => by kernel_rfl) <| BP (YP fun _ => DY fun _ => DY fun _ => DY fun _ => YP fun _ => YP fun _ => ywN fun _ _ => by kernel_rfl) <| BP (ywN fun _ _ => by kernel_rfl) <| Y.iO.nil
noncomputable def JV (R : YF → List Value → Hp → aF) (yf : YF) (args : List Value) (h : Hp) : aF := bB [Kd.i .i64, Kd.v, Kd.v, Kd.v, Kd.v, Kd.v] args fun al => kW (MN R yf) 1000000 0 al ⟨some (jE args 0 bK.T.nil), []⟩ h
theorem bEI (R : YF → List Value → Hp → aF) (hR : ROk DZ 95 R) (yf : YF) (hY : JR DZ yf) : ∀ args h v h', JV R yf args h = some (v, h') → eF DZ (.call 95 args.toArray h) (.ret v h') := by
 intro args h v h' e
 exact FL (C := DZ) (fn := Try.f95) (body := B95) (np := 6) (A := A95) (T := MN R yf) (kinds := [Kd.i .i64, Kd.v, Kd.v, Kd.v, Kd.v, Kd.v]) (OW (C := DZ) dL (VU (fun a h => by kernel_rfl) (by kernel_rfl) hR VY) hY) hY (VU (fun a h => by kernel_rfl) (by kernel_rfl) hR VY) (by kernel_rfl) (by kernel_rfl) (by kernel_rfl) (by kernel_rfl) (g95 R hR yf hY) (by kernel_rfl) (fun S => t95 R yf S) e
noncomputable def a09 : YF → List Value → Hp → aF := H7 JV 64
theorem bEJ (yf : YF) (hY : JR DZ yf) : ∀ args h v h', a09 yf args h = some (v, h') → eF DZ (.call 95 args.toArray h) (.ret v h') := aDO (G := JV) (fun R hR yf hY => bEI R hR yf hY) 64 yf hY
noncomputable def JW : FY := fyC 95 a09 aB6
theorem JX : zP DZ JW := VU (fun a h => by kernel_rfl) (by kernel_rfl) (fun yf hY => bEJ yf hY) VY
noncomputable def B94 : Code := (Try.f94.body).getD .skip
def A94 : eT := (Am 0 [(0, .v), (1, .v), (2, .v)] Ao (An Ao (An Ao Az)))
def aUX : Nat := 3 + (12 - 3)
noncomputable def a1A (yf : YF) : RG := rgN
theorem g94 (yf : YF) (hY : JR DZ yf) : BO DZ aUX (a1A yf) (qF B94 A94) := by
 rw [show qF B94 A94 = [] from by kernel_rfl]
 intro x hx
 exact absurd hx (by simp)
noncomputable def aK2 (yf : YF) (S : rY) (r0 r1 r2 : Value) (z : Z) (h : Hp) : aF :=
 bD h 90 (Array.toList (Value.cells r0)) fun a0 h0 =>
 aI h0 r1 fun v1 =>
 bW v1 fun i2 =>
 aN (o6 env h0 79 (Value.int .i64 i2) (Value.int .i64 i2)) fun v3 h3 =>
 bD h3 79 [(Value.slice none 0 0)] fun a4 h4 =>
 jW h4 a4 v3 fun h5 =>
 bD h5 105 [Value.nilFunc] fun a6 h6 =>
 jW h6 a6 (Value.func (.func 95) (List.toArray []) (List.toArray [r1, a0, a4, r2, a6])) fun h7 =>
 aI h7 a6 fun v8 =>
 aN (EG BQ JW yf v8 [(Value.int .i64 (Int.ofNat 0))] h7) fun v9 h9 =>
 dM v9 fun b10 =>
 bS (xN (Z.ds (Z.lose z)) h9) fun h11 =>
 some (Value.tuple (List.toArray []), h11)
noncomputable def T94 (yf : YF) (S : rY) : rY := Y.cK 0 (Y.uV fun r0 => Y.uV fun r1 => Y.uV fun r2 => Y.uN (aK2 yf S r0 r1 r2)) (Y.jI)
theorem t94 (yf : YF) (S : rY) : Y.iO (fun l vs z h => Y.aY (a1A yf) JW yf none aUX 0 (aDN env BQ JW aUX yf) (OX env Try.f94.results.toList) (OX env Try.f94.results.toList) YM (Y.collect B94 A94 []) l S vs z h) (T94 yf S) := by
 unfold T94
 exact BP (DY fun _ => DY fun _ => DY fun _ => ywN fun _ _ => by kernel_rfl) <| Y.iO.nil
noncomputable def aF8 (yf : YF) (args : List Value) (h : Hp) : aF := bB [Kd.v, Kd.v, Kd.v] args fun al => kW (T94 yf) 1000000 0 al ⟨some (jE args 0 bK.T.nil), []⟩ h
theorem bEK (yf : YF) (hY : JR DZ yf) : ∀ args h v h', aF8 yf args h = some (v, h') → eF DZ (.call 94 args.toArray h) (.ret v h') := by
 intro args h v h' e
 exact FL (C := DZ) (fn := Try.f94) (body := B94) (np := 3) (A := A94) (T := T94 yf) (kinds := [Kd.v, Kd.v, Kd.v]) (OW (C := DZ) dL JX hY) hY JX (by kernel_rfl) (by kernel_rfl) (by kernel_rfl) (by kernel_rfl) (g94 yf hY) (by kernel_rfl) (fun S => t94 yf S) e
noncomputable def u6 : FY := fyC 94 aF8 JW
theorem DD : zP DZ u6 := VU (fun a h => by kernel_rfl) (by kernel_rfl) (fun yf hY => bEK yf hY) JX
noncomputable def aK3 : Code := (Try.f101.body).getD .skip
def aK4 : eT := (Am 0 [(0, .v), (1, .v)] Ao (An Ao (An Ao (An (An Ao (An (An (Am 1 [(3, .v), (6, .v), (7, .v)] Ao Ao) Ao) Ao)) (Am 2 [(6, .v), (7, .v)] Ao Ao)))))
def IA : Nat := 2 + (23 - 2)
noncomputable def lH : QF := (qF aK3 aK4).getD 0 ⟨0, [], #[], .skip, .skip⟩
noncomputable def MO : eT := (Am 0 [(10, .v), (3, .v), (6, .v), (7, .v)] Ao Ao)
noncomputable def IB : eT := (Am 1 [(3, .v), (6, .v), (7, .v), (8, .v)] (An Ao Az) Ao)
noncomputable def aDZ (yf : YF) : RG := rgN
theorem aUZ (yf : YF) (hY : JR DZ yf) : BO DZ IA (aDZ yf) (qF (QF.a lH) MO ++ qF (QF.b lH) IB) := by
 rw [show qF (QF.a lH) MO ++ qF (QF.b lH) IB = [] from by kernel_rfl]
 intro x hx
 exact absurd hx (by simp)
noncomputable def O6 (yf : YF) (l0 : Nat) (S : rY) (r3 r6 : Value) (r7 r8 : Value) (z : Z) (h : Hp) : aF :=
 aI h r7 fun v0 =>
 dM v0 fun b1 =>
 bE b1 fun b2 =>
 bY b2
 (jW h r6 r8 fun h3 =>
 jW h3 r7 (Value.bool true) fun h4 =>
 some (Value.bool true, h4))
 (aI h r3 fun v5 =>
 aI h r6 fun v6 =>
 aN (EG BQ u6 yf v5 [r8, v6] h) fun v7 h7 =>
 aS .i64 v7 fun i8 =>
 bQ (lI i8 (Int.ofNat 0)) fun b9 =>
 bY b9
 (jW h7 r6 r8 fun h10 =>
 jW h10 r7 (Value.bool true) fun h11 =>
 some (Value.bool true, h11))
 (some (Value.bool true, h7)))
noncomputable def aK5 (yf : YF) (l0 : Nat) (S : rY) (mD r3 : Value) (r6 r7 : Value) (z : Z) (h : Hp) : aF :=
 EF l0 h fun h0 =>
 S 1 (AL.v r3 (AL.v r6 (AL.v r7 (AL.v mD AL.n)))) (Z.lose z) h0
noncomputable def u7 (yf : YF) (l0 : Nat) (S : rY) : rY := Y.cK 0 (Y.uV fun mD => Y.uV fun r3 => Y.uV fun r6 => Y.uV fun r7 => Y.uN (aK5 yf l0 S mD r3 r6 r7)) (Y.cK 1 (Y.uV fun r3 => Y.uV fun r6 => Y.uV fun r7 => Y.uV fun r8 => Y.uN (O6 yf l0 S r3 r6 r7 r8)) (Y.jI))
theorem aU0 (yf : YF) (l0 : Nat) (S : rY) : Y.iO (fun l vs z h => Y.aY (aDZ yf) u6 yf (some l0) IA l0 (aDN env BQ u6 IA yf) Y.aT3 Y.aT4 Y.aT5 (Y.collect (QF.a lH) MO [Y.Frame.gate (QF.b lH) IB] ++ Y.collect (QF.b lH) IB []) l S vs z h) (u7 yf l0 S) := by
 unfold u7
 exact BP (DY fun _ => DY fun _ => DY fun _ => DY fun _ => ywN fun _ _ => by kernel_rfl) <| BP (DY fun _ => DY fun _ => DY fun _ => DY fun _ => ywN fun _ _ => by kernel_rfl) <| Y.iO.nil
noncomputable def aD0 (yf : YF) (l : Nat) (al : AL) (z : Z) (args : List Value) (h : Hp) : aF := FM [(10, Kd.v)] args al ⟨z.tm, []⟩ fun al z => kW (u7 yf l) 1000000 0 al z h
theorem aQB (yf : YF) (hY : JR DZ yf) (ρ : RG) (hρ : ∀ l al z args h, ρ (QF.j lH) l al z args h = aD0 yf l al z args h) : SX DZ IA ρ (QF.j lH) (QF.keep lH) (QF.ps lH) (QF.a lH) (QF.b lH) :=
 YN (C := DZ) (kinds := [Kd.v]) (Aa := MO) (Ab := IB) (T := u7 yf) (fun _ => OW (C := DZ) dL DD hY) hY DD (by kernel_rfl) (of_decide_eq_true (by kernel_rfl)) (by kernel_rfl) (aUZ yf hY) (by kernel_rfl) (fun gl S => aU0 yf gl S) hρ
noncomputable def Y2 (yf : YF) : RG := rgC 1 (aD0 yf) (rgN)
theorem bEL (yf : YF) (hY : JR DZ yf) : BO DZ IA (Y2 yf) (qF aK3 aK4) := by
 rw [show qF aK3 aK4 = [lH] from by kernel_rfl]
 intro x hx
 rcases List.mem_cons.1 hx with rfl | hx
 ·exact aQB yf hY _ (fun l al z args h => by kernel_rfl)
 exact absurd hx (by simp)
noncomputable def aB7 (yf : YF) (S : rY) (r6 r7 : Value) (z : Z) (h : Hp) : aF :=
 aI h r6 fun v0 =>
 aI h r7 fun v1 =>
 dM v1 fun b2 =>
 bS (xN (Z.ds (Z.lose z)) h) fun h3 =>
 some (Value.tuple (List.toArray [v0, (Value.bool b2)]), h3)
noncomputable def aB8 (yf : YF) (S : rY) (r0 r1 : Value) (z : Z) (h : Hp) : aF :=
 bD h 133 (Array.toList (Value.cells r1)) fun a0 h0 =>
 bD h0 79 [(Value.slice none 0 0)] fun a1 h1 =>
 bD h1 4 [(Value.bool false)] fun a2 h2 =>
 jW h2 a2 (Value.bool false) fun h3 =>
 bS (Z.tm (Z.put (Z.put (Z.put (Z.put (Z.put (Z.put z 3 a0) 4 (Value.slice none 0 0)) 5 (Value.bool false)) 6 a1) 7 a2) 9 r0)) fun tm4 =>
 aIK u6 yf none (fun d => LX.mk tm4 IA (QF.ps lH) (QF.a lH) (QF.b lH) d) r0 h3 (fun l args h => Y2 yf 1 l (AL.v a0 (AL.v a1 (AL.v a2 AL.n))) (Z.put (Z.put (Z.put (Z.put (Z.put (Z.put z 3 a0) 4 (Value.slice none 0 0)) 5 (Value.bool false)) 6 a1) 7 a2) 9 r0) args h) fun e4 mk4 h4 =>
 exK e4
 (S 2 (AL.v a1 (AL.v a2 AL.n)) (Z.mark (Z.put (Z.put (Z.put (Z.put (Z.put (Z.put z 3 a0) 4 (Value.slice none 0 0)) 5 (Value.bool false)) 6 a1) 7 a2) 9 r0) mk4) h4)
 (bS (xN (Z.ds (Z.mark (Z.put (Z.put (Z.put (Z.put (Z.put (Z.put z 3 a0) 4 (Value.slice none 0 0)) 5 (Value.bool false)) 6 a1) 7 a2) 9 r0) mk4)) h4) fun h5 =>
 some (Value.tuple (List.toArray [(Value.slice none 0 0), (Value.bool false)]), h5))
 fun i4 => none
noncomputable def V3 (yf : YF) (S : rY) : rY := Y.cK 0 (Y.uV fun r0 => Y.uV fun r1 => Y.uN (aB8 yf S r0 r1)) (Y.cK 2 (Y.uV fun r6 => Y.uV fun r7 => Y.uN (aB7 yf S r6 r7)) (Y.jI))
theorem t101 (yf : YF) (S : rY) : Y.iO (fun l vs z h => Y.aY (Y2 yf) u6 yf none IA 0 (aPM env BQ u6 IA yf) (OX env Try.f101.results.toList) (OX env Try.f101.results.toList) YM (Y.collect aK3 aK4 []) l S vs z h) (V3 yf S) := by
 unfold V3
 exact BP (DY fun _ => DY fun _ => ywN fun _ _ => by kernel_rfl) <| BP (DY fun _ => DY fun _ => ywN fun _ _ => by kernel_rfl) <| Y.iO.nil
noncomputable def aK6 (yf : YF) (args : List Value) (h : Hp) : aF := bB [Kd.v, Kd.v] args fun al => kW (V3 yf) 1000000 0 al ⟨some (jE args 0 bK.T.nil), []⟩ h
theorem a1B (yf : YF) (hY : JR DZ yf) : ∀ args h v h', aK6 yf args h = some (v, h') → eF DZ (.call 101 args.toArray h) (.ret v h') := by
 intro args h v h' e
 exact FL (C := DZ) (fn := Try.f101) (body := aK3) (np := 2) (A := aK4) (T := V3 yf) (kinds := [Kd.v, Kd.v]) (aDM (C := DZ) dL DD hY) hY DD (by kernel_rfl) (by kernel_rfl) (by kernel_rfl) (by kernel_rfl) (bEL yf hY) (by kernel_rfl) (fun S => t101 yf S) e
noncomputable def aB9 (args : List Value) (h : Hp) : aF := aK6 yN args h
theorem bEM : ∀ args h v h', aB9 args h = some (v, h') → eF DZ (.call 101 args.toArray h) (.ret v h') := a1B yN (aX9 _)
noncomputable def aK7 := jF 101 aB9 aKY
noncomputable def C48 : dO := cfg aK7
theorem bEN : C48.Ok := aIV (C := C47) a06 bEH rfl bEM
noncomputable def B76 : Code := (Try.f76.body).getD .skip
def A76 : eT := (Am 0 [(0, .v), (1, .i .i64)] Ao (An Ao (An (An Ao (An Az Ao)) Az)))
noncomputable def aK8 (S : Sg) (r0 : Value) (r1 : Int) (h : Hp) : aF :=
 bD h 71 (Array.toList (Value.cells r0)) fun a0 h0 =>
 aT 5 (Hp.mk (Hp.next h0) (Hp.next h0) (Hp.aC h0)) a0 fun v1 =>
 aN (bV F68 [v1, (Value.int .i64 r1)] (Hp.mk (Hp.next h0) (Hp.next h0) (Hp.aC h0))) fun v2 h2 =>
 iH v2 (Hp.next h0) h2 fun w3 n3 =>
 aT 5 (Hp.mk n3 n3 (Hp.aC h0)) a0 fun v4 =>
 iH (Value.func (.func 102) (List.toArray [v4]) (List.toArray [])) n3 (Hp.mk n3 n3 T.nil) fun w5 n5 =>
 aT 5 (Hp.mk n5 n5 (Hp.aC h0)) a0 fun v6 =>
 iH (Value.func (.func 54) (List.toArray [v6]) (List.toArray [])) n5 (Hp.mk n5 n5 T.nil) fun w7 n7 =>
 bS (jQ env 135 (List.toArray [(0, (Value.func (.func 102) (List.toArray [v4]) (List.toArray []))), (1, (Value.func (.func 54) (List.toArray [v6]) (List.toArray [])))])) fun v8 =>
 iH v8 n7 (Hp.mk n7 n7 T.nil) fun w9 n9 =>
 iH (Value.func (.func 103) (List.toArray [v8]) (List.toArray [])) n9 (Hp.mk n9 n9 T.nil) fun w10 n10 =>
 aN (bV aB9 [v2, (Value.func (.func 103) (List.toArray [v8]) (List.toArray []))] (Hp.mk n10 n10 (aP w10 (aP w9 (aP w7 (aP w5 (aP w3 (Hp.aC h0)))))))) fun v11 h11 =>
 iH v11 n10 h11 fun w12 n12 =>
 fF v11 0 fun v13 =>
 fF v11 1 fun v14 =>
 dM v14 fun b15 =>
 bE b15 fun b16 =>
 bY b16
 (some (Value.tuple (List.toArray [(Value.slice none 0 0), (Value.int .i64 (Int.ofNat 9))]), (Hp.mk n12 (Hp.ro h0) (aP w12 (aP w10 (aP w9 (aP w7 (aP w5 (aP w3 (Hp.aC h0))))))))))
 (some (Value.tuple (List.toArray [v13, (Value.int .i64 (Int.ofNat 0))]), (Hp.mk n12 (Hp.ro h0) (aP w12 (aP w10 (aP w9 (aP w7 (aP w5 (aP w3 (Hp.aC h0))))))))))
noncomputable def T76 (S : Sg) : Sg := cK 0 (uV fun r0 => uI fun r1 => uN (aK8 S r0 r1)) (jI)
noncomputable def F76 (args : List Value) (h : Hp) : aF := bB [Kd.v, Kd.i .i64] args fun al => aK T76 1000000 0 al h
def bEO : Nat := 2 + (24 - 2)
theorem t76 (S : Sg) : iO (fun l vs h => aY (aFS env aK7 bEO) (jV env Try.f76.results.toList) (collect B76 A76 []) l S vs h) (T76 S) := by
 unfold T76
 exact dK (dN fun _ => jG fun _ => iZ fun _ => by kernel_rfl) <| Go.bK.iO.nil
theorem r76 : ∀ args h v h', F76 args h = some (v, h') → eF (C48) (.call 76 args.toArray h) (.ret v h') := by
 intro args h v h' e
 exact bC (C := C48) (fn := Try.f76) (body := B76) (np := 2) (A := A76) (T := T76) (kinds := [Kd.v, Kd.i .i64]) (by kernel_rfl) (by kernel_rfl) (by kernel_rfl) (by kernel_rfl) (MM dL) (by kernel_rfl) (fun S => t76 S) e
noncomputable def aK9 := jF 76 F76 aK7
noncomputable def C49 : dO := cfg aK9
theorem bEP : C49.Ok := dA (C := C48) bEN r76
noncomputable def B64 : Code := (Try.f64.body).getD .skip
def A64 : eT := (Am 0 [(0, .v), (1, .i .i64)] Ao (An Ao (An (An Ao (An Az Ao)) Az)))
noncomputable def aLA (S : Sg) (r0 : Value) (r1 : Int) (h : Hp) : aF :=
 bD h 71 (Array.toList (Value.cells r0)) fun a0 h0 =>
 aT 5 h0 a0 fun v1 =>
 aN (bV F76 [v1, (Value.int .i64 r1)] h0) fun v2 h2 =>
 fF v2 0 fun v3 =>
 fF v2 1 fun v4 =>
 aS .i64 v4 fun i5 =>
 bE (kF i5 (Int.ofNat 0)) fun b6 =>
 bY b6
 (some (Value.tuple (List.toArray [(Value.slice none 0 0), (Value.int .i64 (Int.ofNat 9))]), h2))
 (aT 5 h2 a0 fun v7 =>
 aN (bV F62 [v7, v3] h2) fun v8 h8 =>
 dM v8 fun b9 =>
 bE b9 fun b10 =>
 bY b10
 (some (Value.tuple (List.toArray [(Value.slice none 0 0), (Value.int .i64 (Int.ofNat 9))]), h8))
 (some (Value.tuple (List.toArray [v3, (Value.int .i64 (Int.ofNat 0))]), h8)))
noncomputable def T64 (S : Sg) : Sg := cK 0 (uV fun r0 => uI fun r1 => uN (aLA S r0 r1)) (jI)
noncomputable def F64 (args : List Value) (h : Hp) : aF := bB [Kd.v, Kd.i .i64] args fun al => aK T64 1000000 0 al h
def bEQ : Nat := 2 + (23 - 2)
theorem t64 (S : Sg) : iO (fun l vs h => aY (aFS env aK9 bEQ) (jV env Try.f64.results.toList) (collect B64 A64 []) l S vs h) (T64 S) := by
 unfold T64
 exact dK (dN fun _ => jG fun _ => iZ fun _ => by kernel_rfl) <| Go.bK.iO.nil
theorem r64 : ∀ args h v h', F64 args h = some (v, h') → eF (C49) (.call 64 args.toArray h) (.ret v h') := by
 intro args h v h' e
 exact bC (C := C49) (fn := Try.f64) (body := B64) (np := 2) (A := A64) (T := T64) (kinds := [Kd.v, Kd.i .i64]) (by kernel_rfl) (by kernel_rfl) (by kernel_rfl) (by kernel_rfl) (MM dL) (by kernel_rfl) (fun S => t64 S) e
noncomputable def aLB := jF 64 F64 aK9
noncomputable def C50 : dO := cfg aLB
theorem bER : C50.Ok := dA (C := C49) bEP r64
noncomputable def B66 : Code := (Try.f66.body).getD .skip
def A66 : eT := (Am 0 [(0, .v)] Ao (An Ao (An (An Ao (An (Am 1 [(3, .v), (6, .v), (7, .i .i64), (8, .i .i64)] (An Ao (An Az (An (An Az Ao) Ao))) Ao) Ao)) (Am 2 [(3, .v)] Ao Ao))))
noncomputable def a1E (S : Sg) (r3 : Value) (h : Hp) : aF :=
 some (r3, h)
noncomputable def aD1 (S : Sg) (r3 r6 : Value) (r7 r8 : Int) (h : Hp) : aF :=
 bQ (lI r8 r7) fun b0 =>
 bY b0
 (dS 2 r6 r8 fun v1 =>
 aT 2 h v1 fun v2 =>
 bD h 76 [(Value.int .i64 (Int.ofNat 0)), (Value.int .i64 (Int.ofNat 0))] fun a3 h3 =>
 dY 2 h3 a3 v2 fun h4 =>
 aR 0 a3 fun v5 =>
 aI h4 v5 fun v6 =>
 aS .i64 v6 fun i7 =>
 aN (bA env h4 22 1 (List.toArray [(0, (Value.int .i64 i7))])) fun v8 h8 =>
 aN (fC env h8 #[22, 22] (List.toArray [r3, v8])) fun v9 h9 =>
 wrap64 (Int.add r8 (Int.ofNat 1)) fun i10 =>
 S 1 (AL.v v9 (AL.v r6 (AL.i r7 (AL.i i10 AL.n)))) h9)
 (S 2 (AL.v r3 AL.n) h)
noncomputable def aLC (S : Sg) (r0 : Value) (h : Hp) : aF :=
 bW r0 fun i0 =>
 S 1 (AL.v (Value.slice none 0 0) (AL.v r0 (AL.i i0 (AL.i (Int.ofNat 0) AL.n)))) h
noncomputable def T66 (S : Sg) : Sg := cK 0 (uV fun r0 => uN (aLC S r0)) (cK 1 (uV fun r3 => uV fun r6 => uI fun r7 => uI fun r8 => uN (aD1 S r3 r6 r7 r8)) (cK 2 (uV fun r3 => uN (a1E S r3)) (jI)))
noncomputable def F66 (args : List Value) (h : Hp) : aF := bB [Kd.v] args fun al => aK T66 1000000 0 al h
def bES : Nat := 1 + (19 - 1)
theorem t66 (S : Sg) : iO (fun l vs h => aY (jZ env aLB bES) (jV env Try.f66.results.toList) (collect B66 A66 []) l S vs h) (T66 S) := by
 unfold T66
 exact dK (dN fun _ => iZ fun _ => by kernel_rfl) <| dK (dN fun _ => dN fun _ => jG fun _ => jG fun _ => iZ fun _ => by kernel_rfl) <| dK (dN fun _ => iZ fun _ => by kernel_rfl) <| Go.bK.iO.nil
theorem r66 : ∀ args h v h', F66 args h = some (v, h') → eF (C50) (.call 66 args.toArray h) (.ret v h') := by
 intro args h v h' e
 exact bC (C := C50) (fn := Try.f66) (body := B66) (np := 1) (A := A66) (T := T66) (kinds := [Kd.v]) (by kernel_rfl) (by kernel_rfl) (by kernel_rfl) (by kernel_rfl) (dH dL) (by kernel_rfl) (fun S => t66 S) e
noncomputable def aLD := jF 66 F66 aLB
noncomputable def C51 : dO := cfg aLD
theorem bET : C51.Ok := dA (C := C50) bER r66
noncomputable def B26 : Code := (Try.f26.body).getD .skip
def A26 : eT := (Am 0 [(0, .v)] Ao (An Ao (An (An Ao (An Az Ao)) (An Ao (An (An Ao (An Az Ao)) Az)))))
noncomputable def aLE (S : Sg) (r0 : Value) (h : Hp) : aF :=
 bD h 25 (Array.toList (Value.cells r0)) fun a0 h0 =>
 aT 4 h0 a0 fun v1 =>
 aN (bV F63 [v1] h0) fun v2 h2 =>
 fF v2 0 fun v3 =>
 fF v2 1 fun v4 =>
 aS .i64 v4 fun i5 =>
 bD h2 71 [(Value.slice none 0 0), (Value.slice none 0 0), (Value.slice none 0 0), (Value.slice none 0 0), (Value.map none)] fun a6 h6 =>
 dY 5 h6 a6 v3 fun h7 =>
 bE (kF i5 (Int.ofNat 0)) fun b8 =>
 bY b8
 (some (Value.tuple (List.toArray [(Value.slice none 0 0), (Value.int .i64 (Int.ofNat 0)), (Value.int .i64 i5)]), h7))
 (aT 5 (Hp.mk (Hp.next h7) (Hp.next h7) (Hp.aC h7)) a6 fun v9 =>
 aT 5 (Hp.mk (Hp.next h7) (Hp.next h7) (Hp.aC h7)) a6 fun v10 =>
 aN (bS (F65 [v10] (Hp.mk (Hp.next h7) (Hp.next h7) (Hp.aC h7))) fun v => some (v, (Hp.mk (Hp.next h7) (Hp.next h7) (Hp.aC h7)))) fun v11 h11 =>
 aS .i64 v11 fun i12 =>
 aN (bV F64 [v9, (Value.int .i64 i12)] (Hp.mk (Hp.next h7) (Hp.next h7) (Hp.aC h7))) fun v13 O3 =>
 iH v13 (Hp.next h7) O3 fun DF n14 =>
 fF v13 0 fun v15 =>
 fF v13 1 fun v16 =>
 aS .i64 v16 fun i17 =>
 bE (kF i17 (Int.ofNat 0)) fun b18 =>
 bY b18
 (some (Value.tuple (List.toArray [(Value.slice none 0 0), (Value.int .i64 (Int.ofNat 0)), (Value.int .i64 i17)]), (Hp.mk n14 (Hp.ro h7) (aP DF (Hp.aC h7)))))
 (aN (bV F66 [v15] (Hp.mk (Hp.next (Hp.mk n14 (Hp.ro h7) (aP DF (Hp.aC h7)))) (Hp.next (Hp.mk n14 (Hp.ro h7) (aP DF (Hp.aC h7)))) (Hp.aC (Hp.mk n14 (Hp.ro h7) (aP DF (Hp.aC h7)))))) fun v19 h19 =>
 iH v19 (Hp.next (Hp.mk n14 (Hp.ro h7) (aP DF (Hp.aC h7)))) h19 fun w20 n20 =>
 aT 5 (Hp.mk n20 n20 (Hp.aC (Hp.mk n14 (Hp.ro h7) (aP DF (Hp.aC h7))))) a6 fun v21 =>
 aN (bS (F54 [v21, v15] (Hp.mk n20 (Hp.ro (Hp.mk n14 (Hp.ro h7) (aP DF (Hp.aC h7)))) (aP w20 (Hp.aC (Hp.mk n14 (Hp.ro h7) (aP DF (Hp.aC h7))))))) fun v => some (v, (Hp.mk n20 (Hp.ro (Hp.mk n14 (Hp.ro h7) (aP DF (Hp.aC h7)))) (aP w20 (Hp.aC (Hp.mk n14 (Hp.ro h7) (aP DF (Hp.aC h7)))))))) fun v22 h22 =>
 aS .i64 v22 fun i23 =>
 some (Value.tuple (List.toArray [v19, (Value.int .i64 i23), (Value.int .i64 (Int.ofNat 0))]), h22)))
noncomputable def T26 (S : Sg) : Sg := cK 0 (uV fun r0 => uN (aLE S r0)) (jI)
noncomputable def F26 (args : List Value) (h : Hp) : aF := bB [Kd.v] args fun al => aK T26 1000000 0 al h
def bEU : Nat := 1 + (30 - 1)
theorem t26 (S : Sg) : iO (fun l vs h => aY (aFS env aLD bEU) (jV env Try.f26.results.toList) (collect B26 A26 []) l S vs h) (T26 S) := by
 unfold T26
 exact dK (dN fun _ => iZ fun _ => by kernel_rfl) <| Go.bK.iO.nil
theorem YV : ∀ args h v h', F26 args h = some (v, h') → eF (C51) (.call 26 args.toArray h) (.ret v h') := by
 intro args h v h' e
 exact bC (C := C51) (fn := Try.f26) (body := B26) (np := 1) (A := A26) (T := T26) (kinds := [Kd.v]) (by kernel_rfl) (by kernel_rfl) (by kernel_rfl) (by kernel_rfl) (MM dL) (by kernel_rfl) (fun S => t26 S) e
noncomputable def aSI := jF 26 F26 aLD
noncomputable def C52 : dO := cfg aSI
theorem bEV : C52.Ok := dA (C := C51) bET YV
noncomputable def B55 : Code := (Try.f55.body).getD .skip
noncomputable def A55 : G.eT (List KI) := (Gm 0 [.reg 0 (.i .i64), .reg 1 (.i .i64), .reg 2 (.i .i64)] Gz Gy)
noncomputable def aLF (h : Hp) (S : Nat → aD → Option Value) (r0 r1 r2 : Int) : Option Value :=
 bE (lI r0 r1) fun b0 =>
 bY b0
 (bE (lI r2 r0) fun b1 =>
 some (Value.bool b1))
 (some (Value.bool false))
noncomputable def T55 (h : Hp) (S : Nat → aD → Option Value) : Nat → aD → Option Value := dU 0 (wI fun r0 => wI fun r1 => wI fun r2 => wN (aLF h S r0 r1 r2)) (kP)
noncomputable def F55 (args : List Value) (h : Hp) : Option Value := plainO (dV [Kd.i .i64, Kd.i .i64, Kd.i .i64] args fun al => G.aK (T55 h) 1000000 0 al)
def bEW : Nat := 3 + (15 - 3)
theorem t55 (h : Hp) (S : Nat → aD → Option Value) : gW (fun l al => G.aY iF dB oM (pJ env aQA bEW h) (qE env Try.f55.results.toList) (G.collect B55 A55 []) l S al) (T55 h S) := by
 unfold T55
 exact dX (jX fun _ => jX fun _ => jX fun _ => oO (by kernel_rfl)) <| gW.nil
theorem r55 : fZ Try.prog 55 F55 := dI (C := C0) ok0 (pf := aQA) aKT (fn := Try.f55) (body := B55) (kinds := [Kd.i .i64, Kd.i .i64, Kd.i .i64]) (A := A55) (T := T55) (by kernel_rfl) (by kernel_rfl) (by kernel_rfl) (by kernel_rfl) (fun h S => t55 h S)
noncomputable def aQC : PF := FH 55 F55 aQA
theorem aLG : eO Try.prog aQC := iN r55 aKT
noncomputable def aSJ := pK 55 F55 aSI
noncomputable def C53 : dO := cfg aSJ
theorem bEX : C53.Ok := fT (C := C52) bEV r55
noncomputable def B50 : Code := (Try.f50.body).getD .skip
noncomputable def A50 : G.eT (List KI) := (Gm 0 [.reg 0 .v, .reg 1 (.i .i64), .reg 2 (.i .i64)] Gz (Gn (Gn Gz (Gn Gy Gz)) (Gn (Gn Gz (Gn (Gm 1 [.reg 0 .v, .reg 2 (.i .i64), .reg 8 (.i .i64)] (Gn (Gn Gz Gy) (Gn (Gn (Gn Gz (Gn Gy Gz)) Gz) Gz)) Gz) Gz)) (Gm 2 [] Gz Gz))))
noncomputable def a1I (h : Hp) (S : Nat → aD → Option Value) : Option Value :=
 some (Value.tuple (List.toArray [(Value.int .i64 (Int.ofNat 0)), (Value.int .i64 (Int.ofNat 0))]))
noncomputable def aD2 (h : Hp) (S : Nat → aD → Option Value) (r0 : Value) (r2 r8 : Int) : Option Value :=
 bW r0 fun i0 =>
 bQ (lI r8 i0) fun b1 =>
 bY b1
 (dS 1 r0 r8 fun v2 =>
 aI h v2 fun v3 =>
 aS .i64 v3 fun i4 =>
 bS (F55 [(Value.int .i64 i4), (Value.int .i64 (Int.ofNat 0)), (Value.int .i64 r2)] h) fun v5 =>
 dM v5 fun b6 =>
 bE b6 fun b7 =>
 bY b7
 (some (Value.tuple (List.toArray [(Value.int .i64 r8), (Value.int .i64 (Int.ofNat 7))])))
 (wrap64 (Int.add r8 (Int.ofNat 1)) fun i8 =>
 S 1 (aD.v r0 (aD.i r2 (aD.i i8 aD.n)))))
 (S 2 aD.n)
noncomputable def aLH (h : Hp) (S : Nat → aD → Option Value) (r0 : Value) (r1 r2 : Int) : Option Value :=
 bW r0 fun i0 =>
 bS (F55 [(Value.int .i64 i0), (Value.int .i64 (Int.ofNat 1)), (Value.int .i64 r1)] h) fun v1 =>
 dM v1 fun b2 =>
 bE b2 fun b3 =>
 bY b3
 (some (Value.tuple (List.toArray [(Value.int .i64 (Int.ofNat 0)), (Value.int .i64 (Int.ofNat 3))])))
 (S 1 (aD.v r0 (aD.i r2 (aD.i (Int.ofNat 0) aD.n))))
noncomputable def T50 (h : Hp) (S : Nat → aD → Option Value) : Nat → aD → Option Value := dU 0 (wV fun r0 => wI fun r1 => wI fun r2 => wN (aLH h S r0 r1 r2)) (dU 1 (wV fun r0 => wI fun r2 => wI fun r8 => wN (aD2 h S r0 r2 r8)) (dU 2 (wN (a1I h S)) (kP)))
noncomputable def F50 (args : List Value) (h : Hp) : Option Value := plainO (dV [Kd.v, Kd.i .i64, Kd.i .i64] args fun al => G.aK (T50 h) 1000000 0 al)
def bEY : Nat := 3 + (28 - 3)
theorem t50 (h : Hp) (S : Nat → aD → Option Value) : gW (fun l al => G.aY iF dB oM (pJ env aQC bEY h) (qE env Try.f50.results.toList) (G.collect B50 A50 []) l S al) (T50 h S) := by
 unfold T50
 exact dX (nA fun _ => jX fun _ => jX fun _ => oO (by kernel_rfl)) <| dX (nA fun _ => jX fun _ => jX fun _ => oO (by kernel_rfl)) <| dX (oO (by kernel_rfl)) <| gW.nil
theorem r50 : fZ Try.prog 50 F50 := dI (C := C0) ok0 (pf := aQC) aLG (fn := Try.f50) (body := B50) (kinds := [Kd.v, Kd.i .i64, Kd.i .i64]) (A := A50) (T := T50) (by kernel_rfl) (by kernel_rfl) (by kernel_rfl) (by kernel_rfl) (fun h S => t50 h S)
noncomputable def aQD : PF := FH 50 F50 aQC
theorem aLI : eO Try.prog aQD := iN r50 aLG
noncomputable def aSL := pK 50 F50 aSJ
noncomputable def C54 : dO := cfg aSL
theorem bEZ : C54.Ok := fT (C := C53) bEX r50
noncomputable def a1J : Code := (Try.f117.body).getD .skip
noncomputable def a1K : G.eT (List KI) := (Gm 0 [.reg 0 (.i .i64), .reg 1 (.i .i64), .reg 2 (.i .i64)] Gz Gy)
noncomputable def aCA (h : Hp) (S : Nat → aD → Option Value) (r0 r1 r2 : Int) : Option Value :=
 bE (lI r0 r1) fun b0 =>
 bY b0
 (bE (lI r2 r0) fun b1 =>
 some (Value.bool b1))
 (some (Value.bool false))
noncomputable def aLJ (h : Hp) (S : Nat → aD → Option Value) : Nat → aD → Option Value := dU 0 (wI fun r0 => wI fun r1 => wI fun r2 => wN (aCA h S r0 r1 r2)) (kP)
noncomputable def aF9 (args : List Value) (h : Hp) : Option Value := plainO (dV [Kd.i .i64, Kd.i .i64, Kd.i .i64] args fun al => G.aK (aLJ h) 1000000 0 al)
def a1L : Nat := 3 + (15 - 3)
theorem t117 (h : Hp) (S : Nat → aD → Option Value) : gW (fun l al => G.aY iF dB oM (pJ env aQD a1L h) (qE env Try.f117.results.toList) (G.collect a1J a1K []) l S al) (aLJ h S) := by
 unfold aLJ
 exact dX (jX fun _ => jX fun _ => jX fun _ => oO (by kernel_rfl)) <| gW.nil
theorem a1M : fZ Try.prog 117 aF9 := dI (C := C0) ok0 (pf := aQD) aLI (fn := Try.f117) (body := a1J) (kinds := [Kd.i .i64, Kd.i .i64, Kd.i .i64]) (A := a1K) (T := aLJ) (by kernel_rfl) (by kernel_rfl) (by kernel_rfl) (by kernel_rfl) (fun h S => t117 h S)
noncomputable def aQE : PF := FH 117 aF9 aQD
theorem aLK : eO Try.prog aQE := iN a1M aLI
noncomputable def aSM := pK 117 aF9 aSL
noncomputable def C55 : dO := cfg aSM
theorem bE0 : C55.Ok := fT (C := C54) bEZ a1M
noncomputable def a1N : Code := (Try.f109.body).getD .skip
noncomputable def a1O : G.eT (List KI) := (Gm 0 [.reg 0 .v] Gz (Gn (Gn Gz (Gn Gy Gz)) (Gn (Gn Gz (Gn (Gm 1 [.reg 0 .v, .reg 3 (.i .i64)] (Gn (Gn Gz Gy) (Gn (Gn (Gn Gz (Gn Gz (Gm 2 [.reg 0 .v, .reg 3 (.i .i64), .reg 4 .b, .reg 5 .b] Gz (Gn Gy Gz)))) Gz) (Gm 3 [.reg 0 .v, .reg 3 (.i .i64)] Gz Gz))) Gz) Gz)) (Gm 4 [] Gz Gz))))
noncomputable def aU2 (h : Hp) (S : Nat → aD → Option Value) : Option Value :=
 some (Value.bool true)
noncomputable def aCB (h : Hp) (S : Nat → aD → Option Value) (r0 : Value) (r3 : Int) : Option Value :=
 wrap64 (Int.add r3 (Int.ofNat 1)) fun i0 =>
 S 1 (aD.v r0 (aD.i i0 aD.n))
noncomputable def V6 (h : Hp) (S : Nat → aD → Option Value) (r0 : Value) (r3 : Int) (r4 r5 : Bool) : Option Value :=
 bE r4 fun b0 =>
 bY b0
 (bQ (kF r3 (Int.ofNat 0)) fun b1 =>
 bY b1
 (some (Value.bool false))
 (bE r5 fun b2 =>
 bY b2
 (some (Value.bool false))
 (S 3 (aD.v r0 (aD.i r3 aD.n)))))
 (S 3 (aD.v r0 (aD.i r3 aD.n)))
noncomputable def O7 (h : Hp) (S : Nat → aD → Option Value) (r0 : Value) (r3 : Int) : Option Value :=
 KJ r0 fun i0 =>
 bQ (lI r3 i0) fun b1 =>
 bY b1
 (bS (jU env 9 r0 (Value.int .i64 r3)) fun v2 =>
 aS .u8 v2 fun i3 =>
 wrap64 i3 fun i4 =>
 bS (aF9 [(Value.int .i64 i4), (Value.int .i64 (Int.ofNat 97)), (Value.int .i64 (Int.ofNat 122))] h) fun v5 =>
 dM v5 fun b6 =>
 bS (jU env 9 r0 (Value.int .i64 r3)) fun v7 =>
 aS .u8 v7 fun i8 =>
 wrap64 i8 fun i9 =>
 bS (aF9 [(Value.int .i64 i9), (Value.int .i64 (Int.ofNat 48)), (Value.int .i64 (Int.ofNat 57))] h) fun v10 =>
 dM v10 fun b11 =>
 bY b11
 (S 2 (aD.v r0 (aD.i r3 (aD.b b6 (aD.b true aD.n)))))
 (bS (jU env 9 r0 (Value.int .i64 r3)) fun v12 =>
 aS .u8 v12 fun i13 =>
 bQ (kF i13 (Int.ofNat 46)) fun b14 =>
 S 2 (aD.v r0 (aD.i r3 (aD.b b6 (aD.b b14 aD.n))))))
 (S 4 aD.n)
noncomputable def aCC (h : Hp) (S : Nat → aD → Option Value) (r0 : Value) : Option Value :=
 KJ r0 fun i0 =>
 bQ (kF i0 (Int.ofNat 0)) fun b1 =>
 bY b1
 (some (Value.bool false))
 (KJ r0 fun i2 =>
 bQ (lI (Int.ofNat 16) i2) fun b3 =>
 bY b3
 (some (Value.bool false))
 (S 1 (aD.v r0 (aD.i (Int.ofNat 0) aD.n))))
noncomputable def zQ (h : Hp) (S : Nat → aD → Option Value) : Nat → aD → Option Value := dU 0 (wV fun r0 => wN (aCC h S r0)) (dU 1 (wV fun r0 => wI fun r3 => wN (O7 h S r0 r3)) (dU 2 (wV fun r0 => wI fun r3 => wB fun r4 => wB fun r5 => wN (V6 h S r0 r3 r4 r5)) (dU 3 (wV fun r0 => wI fun r3 => wN (aCB h S r0 r3)) (dU 4 (wN (aU2 h S)) (kP)))))
noncomputable def aLL (args : List Value) (h : Hp) : Option Value := plainO (dV [Kd.v] args fun al => G.aK (zQ h) 1000000 0 al)
def a1P : Nat := 1 + (46 - 1)
theorem t109 (h : Hp) (S : Nat → aD → Option Value) : gW (fun l al => G.aY iF dB oM (pJ env aQE a1P h) (qE env Try.f109.results.toList) (G.collect a1N a1O []) l S al) (zQ h S) := by
 unfold zQ
 exact dX (nA fun _ => oO (by kernel_rfl)) <| dX (nA fun _ => jX fun _ => oO (by kernel_rfl)) <| dX (nA fun _ => jX fun _ => rpB fun _ => rpB fun _ => oO (by kernel_rfl)) <| dX (nA fun _ => jX fun _ => oO (by kernel_rfl)) <| dX (oO (by kernel_rfl)) <| gW.nil
theorem a1Q : fZ Try.prog 109 aLL := dI (C := C0) ok0 (pf := aQE) aLK (fn := Try.f109) (body := a1N) (kinds := [Kd.v]) (A := a1O) (T := zQ) (by kernel_rfl) (by kernel_rfl) (by kernel_rfl) (by kernel_rfl) (fun h S => t109 h S)
noncomputable def aQF : PF := FH 109 aLL aQE
theorem aLM : eO Try.prog aQF := iN a1Q aLK
noncomputable def aSN := pK 109 aLL aSM
noncomputable def C56 : dO := cfg aSN
theorem bE1 : C56.Ok := fT (C := C55) bE0 a1Q
noncomputable def a1R : Code := (Try.f110.body).getD .skip
noncomputable def a1S : G.eT (List KI) := (Gm 0 [.reg 0 .v, .reg 1 .v] Gz (Gn (Gn Gz (Gn (Gm 1 [.reg 0 .v, .reg 1 .v, .reg 5 (.i .i64)] (Gn (Gn Gz Gy) (Gn (Gn (Gn Gz (Gn Gy Gz)) Gz) Gz)) Gz) Gz)) (Gm 2 [] Gz Gz)))
noncomputable def aU3 (h : Hp) (S : Nat → aD → Option Value) : Option Value :=
 some (Value.int .i64 (Int.negSucc 0))
noncomputable def O8 (h : Hp) (S : Nat → aD → Option Value) (r0 r1 : Value) (r5 : Int) : Option Value :=
 bW r0 fun i0 =>
 bQ (lI r5 i0) fun b1 =>
 bY b1
 (dS 1 r0 r5 fun v2 =>
 aI h v2 fun v3 =>
 bS (qP env .eql 9 (Operand.tmp 15) (Operand.tmp 16) v3 r1) fun v4 =>
 dM v4 fun b5 =>
 bY b5
 (some (Value.int .i64 r5))
 (wrap64 (Int.add r5 (Int.ofNat 1)) fun i6 =>
 S 1 (aD.v r0 (aD.v r1 (aD.i i6 aD.n)))))
 (S 2 aD.n)
noncomputable def aCD (h : Hp) (S : Nat → aD → Option Value) (r0 r1 : Value) : Option Value :=
 S 1 (aD.v r0 (aD.v r1 (aD.i (Int.ofNat 0) aD.n)))
noncomputable def QR (h : Hp) (S : Nat → aD → Option Value) : Nat → aD → Option Value := dU 0 (wV fun r0 => wV fun r1 => wN (aCD h S r0 r1)) (dU 1 (wV fun r0 => wV fun r1 => wI fun r5 => wN (O8 h S r0 r1 r5)) (dU 2 (wN (aU3 h S)) (kP)))
noncomputable def aLN (args : List Value) (h : Hp) : Option Value := plainO (dV [Kd.v, Kd.v] args fun al => G.aK (QR h) 1000000 0 al)
def a1T : Nat := 2 + (19 - 2)
theorem t110 (h : Hp) (S : Nat → aD → Option Value) : gW (fun l al => G.aY iF dB oM (pJ env aQF a1T h) (qE env Try.f110.results.toList) (G.collect a1R a1S []) l S al) (QR h S) := by
 unfold QR
 exact dX (nA fun _ => nA fun _ => oO (by kernel_rfl)) <| dX (nA fun _ => nA fun _ => jX fun _ => oO (by kernel_rfl)) <| dX (oO (by kernel_rfl)) <| gW.nil
theorem a1U : fZ Try.prog 110 aLN := dI (C := C0) ok0 (pf := aQF) aLM (fn := Try.f110) (body := a1R) (kinds := [Kd.v, Kd.v]) (A := a1S) (T := QR) (by kernel_rfl) (by kernel_rfl) (by kernel_rfl) (by kernel_rfl) (fun h S => t110 h S)
noncomputable def aQG : PF := FH 110 aLN aQF
theorem aLO : eO Try.prog aQG := iN a1U aLM
noncomputable def aSO := pK 110 aLN aSN
noncomputable def C57 : dO := cfg aSO
theorem bE2 : C57.Ok := fT (C := C56) bE1 a1U
noncomputable def B88 : Code := (Try.f88.body).getD .skip
noncomputable def A88 : G.eT (List KI) := (Gm 0 [.reg 0 .v, .reg 1 .v] Gz (Gn (Gn Gz (Gn Gy Gz)) (Gn (Gn Gz (Gn Gy Gz)) Gy)))
noncomputable def aLP (h : Hp) (S : Nat → aD → Option Value) (r0 r1 : Value) : Option Value :=
 bS (aLL [r0] h) fun v0 =>
 dM v0 fun b1 =>
 bE b1 fun b2 =>
 bY b2
 (some (Value.int .i64 (Int.ofNat 6)))
 (bS (aLN [r1, r0] h) fun v3 =>
 aS .i64 v3 fun i4 =>
 bE (lI i4 (Int.ofNat 0)) fun b5 =>
 bY b5
 (some (Value.int .i64 (Int.ofNat 5)))
 (some (Value.int .i64 (Int.ofNat 0))))
noncomputable def T88 (h : Hp) (S : Nat → aD → Option Value) : Nat → aD → Option Value := dU 0 (wV fun r0 => wV fun r1 => wN (aLP h S r0 r1)) (kP)
noncomputable def F88 (args : List Value) (h : Hp) : Option Value := plainO (dV [Kd.v, Kd.v] args fun al => G.aK (T88 h) 1000000 0 al)
def bE3 : Nat := 2 + (12 - 2)
theorem t88 (h : Hp) (S : Nat → aD → Option Value) : gW (fun l al => G.aY iF dB oM (pJ env aQG bE3 h) (qE env Try.f88.results.toList) (G.collect B88 A88 []) l S al) (T88 h S) := by
 unfold T88
 exact dX (nA fun _ => nA fun _ => oO (by kernel_rfl)) <| gW.nil
theorem r88 : fZ Try.prog 88 F88 := dI (C := C0) ok0 (pf := aQG) aLO (fn := Try.f88) (body := B88) (kinds := [Kd.v, Kd.v]) (A := A88) (T := T88) (by kernel_rfl) (by kernel_rfl) (by kernel_rfl) (by kernel_rfl) (fun h S => t88 h S)
noncomputable def aQH : PF := FH 88 F88 aQG
theorem aLQ : eO Try.prog aQH := iN r88 aLO
noncomputable def aSP := pK 88 F88 aSO
noncomputable def C58 : dO := cfg aSP
theorem bE4 : C58.Ok := fT (C := C57) bE2 r88
noncomputable def B89 : Code := (Try.f89.body).getD .skip
noncomputable def A89 : G.eT (List KI) := (Gm 0 [.reg 0 .v, .reg 1 .v, .reg 2 .b] Gz (Gn (Gn Gz (Gn Gy Gz)) (Gn (Gn Gz (Gn (G.eT.node (some (1, [.reg 2 .b, .loc 3 3, .loc 4 4, .reg 7 (.i .i64), .cells 3 [.v, .v, .v, .v], .cells 4 [.v, .v, .i .i64]])) (Gn (Gn Gz Gy) (Gn (Gn (Gn Gz (G.eT.node (some (2, [.reg 2 .b, .loc 3 3, .loc 4 4, .reg 7 (.i .i64), .reg 8 .b, .cells 3 [.v, .v, .v, .v], .cells 4 [.v, .v, .i .i64]])) Gz (Gn Gy Gz))) Gz) (G.eT.node (some (3, [.reg 2 .b, .loc 3 3, .loc 4 4, .reg 7 (.i .i64), .cells 3 [.v, .v, .v, .v], .cells 4 [.v, .v, .i .i64]])) Gz Gz))) Gz) Gz)) (G.eT.node (some (8, [.reg 2 .b, .loc 4 4, .cells 4 [.v, .v, .i .i64]])) (Gn Gz (Gn (G.eT.node (some (4, [.reg 2 .b, .loc 4 4, .reg 9 (.i .i64), .cells 4 [.v, .v, .i .i64]])) (Gn (Gn Gz Gy) (Gn (Gn (Gn Gz (G.eT.node (some (5, [.reg 2 .b, .loc 4 4, .reg 9 (.i .i64), .reg 10 .b, .cells 4 [.v, .v, .i .i64]])) Gz (Gn Gy Gz))) Gz) (G.eT.node (some (6, [.reg 2 .b, .loc 4 4, .reg 9 (.i .i64), .cells 4 [.v, .v, .i .i64]])) Gz Gz))) Gz) Gz)) (G.eT.node (some (7, [.loc 4 4, .cells 4 [.v, .v, .i .i64]])) (Gn Gz (Gn Gy Gz)) Gy)))))
noncomputable def aLR (h : Hp) (S : Nat → aD → Option Value) (mQ kX : Value) (mG : Int) : Option Value :=
 bS (F55 [(Value.int .i64 mG), (Value.int .i64 (Int.ofNat 0)), (Value.int .i64 (Int.ofNat 50))] h) fun v0 =>
 dM v0 fun b1 =>
 bE b1 fun b2 =>
 bY b2
 (some (Value.int .i64 (Int.ofNat 7)))
 (some (Value.int .i64 (Int.ofNat 0)))
noncomputable def aLS (h : Hp) (S : Nat → aD → Option Value) (r2 : Bool) (r9 : Int) (mQ kX : Value) (mG : Int) : Option Value :=
 wrap64 (Int.add r9 (Int.ofNat 1)) fun i0 =>
 S 4 (aD.b r2 (aD.i i0 (aD.v mQ (aD.v kX (aD.i mG aD.n)))))
noncomputable def aLT (h : Hp) (S : Nat → aD → Option Value) (r2 : Bool) (r9 : Int) (mD : Bool) (mQ kX : Value) (mG : Int) : Option Value :=
 bE mD fun b0 =>
 bY b0
 (dS 1 kX r9 fun v1 =>
 aI h v1 fun v2 =>
 aS .i64 v2 fun i3 =>
 bS (F55 [(Value.int .i64 i3), (Value.int .i64 (Int.ofNat 0)), (Value.int .i64 (Int.ofNat 5))] h) fun v4 =>
 dM v4 fun b5 =>
 bE b5 fun b6 =>
 bY b6
 (some (Value.int .i64 (Int.ofNat 7)))
 (S 6 (aD.b r2 (aD.i r9 (aD.v mQ (aD.v kX (aD.i mG aD.n)))))))
 (S 6 (aD.b r2 (aD.i r9 (aD.v mQ (aD.v kX (aD.i mG aD.n))))))
noncomputable def aD3 (h : Hp) (S : Nat → aD → Option Value) (r2 : Bool) (r9 : Int) (mQ kX : Value) (mG : Int) : Option Value :=
 bW kX fun i0 =>
 bQ (lI r9 i0) fun b1 =>
 bY b1
 (bY r2
 (dS 1 kX r9 fun v2 =>
 aI h v2 fun v3 =>
 aS .i64 v3 fun i4 =>
 bQ (kF i4 (Int.negSucc 0)) fun b5 =>
 S 5 (aD.b r2 (aD.i r9 (aD.b b5 (aD.v mQ (aD.v kX (aD.i mG aD.n)))))))
 (S 5 (aD.b r2 (aD.i r9 (aD.b false (aD.v mQ (aD.v kX (aD.i mG aD.n))))))))
 (S 7 (aD.v mQ (aD.v kX (aD.i mG aD.n))))
noncomputable def aLU (h : Hp) (S : Nat → aD → Option Value) (r2 : Bool) (mQ kX : Value) (mG : Int) : Option Value :=
 S 4 (aD.b r2 (aD.i (Int.ofNat 1) (aD.v mQ (aD.v kX (aD.i mG aD.n)))))
noncomputable def aD4 (h : Hp) (S : Nat → aD → Option Value) (r2 : Bool) (r7 : Int) (uX sV : Value) (uY uZ : Value) (mQ kX : Value) (mG : Int) : Option Value :=
 wrap64 (Int.add r7 (Int.ofNat 1)) fun i0 =>
 S 1 (aD.b r2 (aD.i i0 (aD.v uX (aD.v sV (aD.v uY (aD.v uZ (aD.v mQ (aD.v kX (aD.i mG aD.n)))))))))
noncomputable def aD5 (h : Hp) (S : Nat → aD → Option Value) (r2 : Bool) (r7 : Int) (r8 : Bool) (uX sV : Value) (uY uZ : Value) (mQ kX : Value) (mG : Int) : Option Value :=
 bQ (kF r7 (Int.ofNat 0)) fun b0 =>
 bY b0
 (bE r8 fun b1 =>
 bY b1
 (dS 1 kX r7 fun v2 =>
 aI h v2 fun v3 =>
 aS .i64 v3 fun i4 =>
 bW sV fun i5 =>
 wrap64 (Int.sub i5 (Int.ofNat 1)) fun i6 =>
 bS (F55 [(Value.int .i64 i4), (Value.int .i64 (Int.ofNat 0)), (Value.int .i64 i6)] h) fun v7 =>
 dM v7 fun b8 =>
 bE b8 fun b9 =>
 bY b9
 (some (Value.int .i64 (Int.ofNat 4)))
 (S 3 (aD.b r2 (aD.i r7 (aD.v uX (aD.v sV (aD.v uY (aD.v uZ (aD.v mQ (aD.v kX (aD.i mG aD.n)))))))))))
 (S 3 (aD.b r2 (aD.i r7 (aD.v uX (aD.v sV (aD.v uY (aD.v uZ (aD.v mQ (aD.v kX (aD.i mG aD.n)))))))))))
 (S 3 (aD.b r2 (aD.i r7 (aD.v uX (aD.v sV (aD.v uY (aD.v uZ (aD.v mQ (aD.v kX (aD.i mG aD.n))))))))))
noncomputable def aD6 (h : Hp) (S : Nat → aD → Option Value) (r2 : Bool) (r7 : Int) (uX sV : Value) (uY uZ : Value) (mQ kX : Value) (mG : Int) : Option Value :=
 bW kX fun i0 =>
 bQ (lI r7 i0) fun b1 =>
 bY b1
 (bY r2
 (dS 1 kX r7 fun v2 =>
 aI h v2 fun v3 =>
 aS .i64 v3 fun i4 =>
 bQ (kF i4 (Int.negSucc 0)) fun b5 =>
 S 2 (aD.b r2 (aD.i r7 (aD.b b5 (aD.v uX (aD.v sV (aD.v uY (aD.v uZ (aD.v mQ (aD.v kX (aD.i mG aD.n)))))))))))
 (S 2 (aD.b r2 (aD.i r7 (aD.b false (aD.v uX (aD.v sV (aD.v uY (aD.v uZ (aD.v mQ (aD.v kX (aD.i mG aD.n))))))))))))
 (S 8 (aD.b r2 (aD.v mQ (aD.v kX (aD.i mG aD.n)))))
noncomputable def aLV (h : Hp) (S : Nat → aD → Option Value) (r0 r1 : Value) (r2 : Bool) : Option Value :=
 o9 (Array.toList (Value.cells r0)) fun c0 =>
 o9 (Array.toList (Value.cells r1)) fun c1 =>
 A7 c1 1 fun v2 =>
 bW v2 fun i3 =>
 A7 c0 0 fun v4 =>
 bW v4 fun i5 =>
 bE (kF i3 i5) fun b6 =>
 bY b6
 (some (Value.int .i64 (Int.ofNat 3)))
 (lZ c0 fun a7 c7 =>
 lZ c7 fun a8 c8 =>
 lZ c8 fun a9 c9 =>
 lZ c9 fun a10 c10 =>
 aID c10 (lZ c1 fun a11 c11 =>
 lZ c11 fun a12 c12 =>
 lZ c12 fun a13 c13 =>
 aS .i64 a13 fun i14 =>
 aID c13 (S 1 (aD.b r2 (aD.i (Int.ofNat 0) (aD.v a7 (aD.v a8 (aD.v a9 (aD.v a10 (aD.v a11 (aD.v a12 (aD.i i14 aD.n))))))))))))
noncomputable def EH (h : Hp) (S : Nat → aD → Option Value) : Nat → aD → Option Value := dU 0 (wV fun r0 => wV fun r1 => wB fun r2 => wN (aLV h S r0 r1 r2)) (dU 1 (wB fun r2 => wI fun r7 => wV fun uX => wV fun sV => wV fun uY => wV fun uZ => wV fun mQ => wV fun kX => wI fun mG => wN (aD6 h S r2 r7 uX sV uY uZ mQ kX mG)) (dU 2 (wB fun r2 => wI fun r7 => wB fun r8 => wV fun uX => wV fun sV => wV fun uY => wV fun uZ => wV fun mQ => wV fun kX => wI fun mG => wN (aD5 h S r2 r7 r8 uX sV uY uZ mQ kX mG)) (dU 3 (wB fun r2 => wI fun r7 => wV fun uX => wV fun sV => wV fun uY => wV fun uZ => wV fun mQ => wV fun kX => wI fun mG => wN (aD4 h S r2 r7 uX sV uY uZ mQ kX mG)) (dU 8 (wB fun r2 => wV fun mQ => wV fun kX => wI fun mG => wN (aLU h S r2 mQ kX mG)) (dU 4 (wB fun r2 => wI fun r9 => wV fun mQ => wV fun kX => wI fun mG => wN (aD3 h S r2 r9 mQ kX mG)) (dU 5 (wB fun r2 => wI fun r9 => wB fun mD => wV fun mQ => wV fun kX => wI fun mG => wN (aLT h S r2 r9 mD mQ kX mG)) (dU 6 (wB fun r2 => wI fun r9 => wV fun mQ => wV fun kX => wI fun mG => wN (aLS h S r2 r9 mQ kX mG)) (dU 7 (wV fun mQ => wV fun kX => wI fun mG => wN (aLR h S mQ kX mG)) (kP)))))))))
noncomputable def F89 (args : List Value) (h : Hp) : Option Value := plainO (dV [Kd.v, Kd.v, Kd.b] args fun al => G.aK (EH h) 1000000 0 al)
def bE5 : Nat := 3 + (84 - 3)
theorem t89 (h : Hp) (S : Nat → aD → Option Value) : gW (fun l al => G.aY iF dB oM (pJ env aQH bE5 h) (qE env Try.f89.results.toList) (G.collect B89 A89 []) l S al) (EH h S) := by
 unfold EH
 exact dX (nA fun _ => nA fun _ => rpB fun _ => oO (by kernel_rfl)) <| dX (rpB fun _ => jX fun _ => nA fun _ => nA fun _ => nA fun _ => nA fun _ => nA fun _ => nA fun _ => jX fun _ => oO (by kernel_rfl)) <| dX (rpB fun _ => jX fun _ => rpB fun _ => nA fun _ => nA fun _ => nA fun _ => nA fun _ => nA fun _ => nA fun _ => jX fun _ => oO (by kernel_rfl)) <| dX (rpB fun _ => jX fun _ => nA fun _ => nA fun _ => nA fun _ => nA fun _ => nA fun _ => nA fun _ => jX fun _ => oO (by kernel_rfl)) <| dX (rpB fun _ => nA fun _ => nA fun _ => jX fun _ => oO (by kernel_rfl)) <| dX (rpB fun _ => jX fun _ => nA fun _ => nA fun _ => jX fun _ => oO (by kernel_rfl)) <| dX (rpB fun _ => jX fun _ => rpB fun _ => nA fun _ => nA fun _ => jX fun _ => oO (by kernel_rfl)) <| dX (rpB fun _ => jX fun _ => nA fun _ => nA fun _ => jX fun _ => oO (by kernel_rfl)) <| dX (nA fun _ => nA fun _ => jX fun _ => oO (by kernel_rfl)) <| gW.nil
theorem r89 : fZ Try.prog 89 F89 := dI (C := C0) ok0 (pf := aQH) aLQ (fn := Try.f89) (body := B89) (kinds := [Kd.v, Kd.v, Kd.b]) (A := A89) (T := EH) (by kernel_rfl) (by kernel_rfl) (by kernel_rfl) (by kernel_rfl) (fun h S => t89 h S)
noncomputable def aQI : PF := FH 89 F89 aQH
theorem aLW : eO Try.prog aQI := iN r89 aLQ
noncomputable def aLX := pK 89 F89 aSP
noncomputable def C59 : dO := cfg aLX
theorem bE6 : C59.Ok := fT (C := C58) bE4 r89
noncomputable def B51 : Code := (Try.f51.body).getD .skip
def A51 : eT := (Am 0 [(0, .v), (1, .v), (2, .i .i64), (3, .b)] Ao (An (An Ao (An Az Ao)) (An Ao (An (An Ao (An (Am 1 [(1, .v), (3, .b), (4, .v), (10, .v), (11, .i .i64)] (An (An Ao Az) (An (An (An Ao (An (An Ao Az) (Am 2 [(1, .v), (3, .b), (4, .v), (10, .v), (11, .i .i64), (12, .i .i64)] (An Ao (An Az Ao)) Ao))) Ao) (Am 3 [(1, .v), (3, .b), (4, .v), (10, .v), (11, .i .i64)] Ao Ao))) Ao) Ao)) (Am 4 [] Ao Ao)))))
noncomputable def a1Z (S : Sg) (h : Hp) : aF :=
 some (Value.tuple (List.toArray [(Value.int .i64 (Int.ofNat 0)), (Value.int .i64 (Int.ofNat 0))]), h)
noncomputable def aLY (S : Sg) (r1 : Value) (r3 : Bool) (r4 mD : Value) (kH : Int) (h : Hp) : aF :=
 wrap64 (Int.add kH (Int.ofNat 1)) fun i0 =>
 S 1 (AL.v r1 (AL.b r3 (AL.v r4 (AL.v mD (AL.i i0 AL.n))))) h
noncomputable def aLZ (S : Sg) (r1 : Value) (r3 : Bool) (r4 mD : Value) (kH rE : Int) (h : Hp) : aF :=
 bE (kF rE (Int.ofNat 0)) fun b0 =>
 bY b0
 (some (Value.tuple (List.toArray [(Value.int .i64 kH), (Value.int .i64 rE)]), h))
 (dS 3 r1 kH fun v1 =>
 aR 0 v1 fun v2 =>
 aI h v2 fun v3 =>
 aN (bA env h 120 1 (List.toArray [(0, v3)])) fun v4 h4 =>
 aN (fC env h4 #[120, 120] (List.toArray [mD, v4])) fun v5 h5 =>
 S 3 (AL.v r1 (AL.b r3 (AL.v r4 (AL.v v5 (AL.i kH AL.n))))) h5)
noncomputable def aD7 (S : Sg) (r1 : Value) (r3 : Bool) (r4 mD : Value) (kH : Int) (h : Hp) : aF :=
 bW r1 fun i0 =>
 bQ (lI kH i0) fun b1 =>
 bY b1
 (dS 3 r1 kH fun v2 =>
 aR 0 v2 fun v3 =>
 aI h v3 fun v4 =>
 aN (bS (F88 [v4, mD] h) fun v => some (v, h)) fun v5 h5 =>
 aS .i64 v5 fun i6 =>
 bQ (kF i6 (Int.ofNat 0)) fun b7 =>
 bY b7
 (aT 4 h5 r4 fun v8 =>
 dS 3 r1 kH fun v9 =>
 aT 3 h5 v9 fun v10 =>
 aN (bS (F89 [v8, v10, (Value.bool r3)] h5) fun v => some (v, h5)) fun v11 h11 =>
 aS .i64 v11 fun i12 =>
 S 2 (AL.v r1 (AL.b r3 (AL.v r4 (AL.v mD (AL.i kH (AL.i i12 AL.n)))))) h11)
 (S 2 (AL.v r1 (AL.b r3 (AL.v r4 (AL.v mD (AL.i kH (AL.i i6 AL.n)))))) h5))
 (S 4 AL.n h)
noncomputable def aL0 (S : Sg) (r0 r1 : Value) (r2 : Int) (r3 : Bool) (h : Hp) : aF :=
 bD h 25 (Array.toList (Value.cells r0)) fun a0 h0 =>
 bW r1 fun i1 =>
 bQ (lI r2 i1) fun b2 =>
 bY b2
 (some (Value.tuple (List.toArray [(Value.int .i64 (Int.ofNat 0)), (Value.int .i64 (Int.ofNat 3))]), h0))
 (S 1 (AL.v r1 (AL.b r3 (AL.v a0 (AL.v (Value.slice none 0 0) (AL.i (Int.ofNat 0) AL.n))))) h0)
noncomputable def T51 (S : Sg) : Sg := cK 0 (uV fun r0 => uV fun r1 => uI fun r2 => uB fun r3 => uN (aL0 S r0 r1 r2 r3)) (cK 1 (uV fun r1 => uB fun r3 => uV fun r4 => uV fun mD => uI fun kH => uN (aD7 S r1 r3 r4 mD kH)) (cK 2 (uV fun r1 => uB fun r3 => uV fun r4 => uV fun mD => uI fun kH => uI fun rE => uN (aLZ S r1 r3 r4 mD kH rE)) (cK 3 (uV fun r1 => uB fun r3 => uV fun r4 => uV fun mD => uI fun kH => uN (aLY S r1 r3 r4 mD kH)) (cK 4 (uN fun h => a1Z S  h) (jI)))))
noncomputable def F51 (args : List Value) (h : Hp) : aF := bB [Kd.v, Kd.v, Kd.i .i64, Kd.b] args fun al => aK T51 1000000 0 al h
def bE7 : Nat := 4 + (51 - 4)
theorem t51 (S : Sg) : iO (fun l vs h => aY (jZ env aLX bE7) (jV env Try.f51.results.toList) (collect B51 A51 []) l S vs h) (T51 S) := by
 unfold T51
 exact dK (dN fun _ => dN fun _ => jG fun _ => rwB fun _ => iZ fun _ => by kernel_rfl) <| dK (dN fun _ => rwB fun _ => dN fun _ => dN fun _ => jG fun _ => iZ fun _ => by kernel_rfl) <| dK (dN fun _ => rwB fun _ => dN fun _ => dN fun _ => jG fun _ => jG fun _ => iZ fun _ => by kernel_rfl) <| dK (dN fun _ => rwB fun _ => dN fun _ => dN fun _ => jG fun _ => iZ fun _ => by kernel_rfl) <| dK (iZ fun _ => by kernel_rfl) <| Go.bK.iO.nil
theorem r51 : ∀ args h v h', F51 args h = some (v, h') → eF (C59) (.call 51 args.toArray h) (.ret v h') := by
 intro args h v h' e
 exact bC (C := C59) (fn := Try.f51) (body := B51) (np := 4) (A := A51) (T := T51) (kinds := [Kd.v, Kd.v, Kd.i .i64, Kd.b]) (by kernel_rfl) (by kernel_rfl) (by kernel_rfl) (by kernel_rfl) (dH dL) (by kernel_rfl) (fun S => t51 S) e
noncomputable def aL1 := jF 51 F51 aLX
noncomputable def C60 : dO := cfg aL1
theorem bE8 : C60.Ok := dA (C := C59) bE6 r51
noncomputable def B17 : Code := (Try.f17.body).getD .skip
def A17 : eT := (Am 0 [(0, .v)] Ao (An Ao (An (An Ao (An Az Ao)) (An Ao (An (An Ao (An Az Ao)) (An Ao (An (An Ao (An Az Ao)) (An Ao (An (An Ao (An Az Ao)) Az)))))))))
noncomputable def aL2 (S : Sg) (r0 : Value) (h : Hp) : aF :=
 bD h 25 (Array.toList (Value.cells r0)) fun a0 h0 =>
 aR 0 a0 fun v1 =>
 aI h0 v1 fun v2 =>
 aN (bS (F50 [v2, (Value.int .i64 (Int.ofNat 4)), (Value.int .i64 (Int.ofNat 100))] h0) fun v => some (v, h0)) fun v3 h3 =>
 fF v3 0 fun v4 =>
 aS .i64 v4 fun i5 =>
 fF v3 1 fun v6 =>
 aS .i64 v6 fun i7 =>
 bE (kF i7 (Int.ofNat 0)) fun b8 =>
 bY b8
 (some (Value.tuple (List.toArray [(Value.int .i64 (Int.ofNat 1)), (Value.int .i64 i5), (Value.int .i64 i7)]), h3))
 (aR 1 a0 fun v9 =>
 aI h3 v9 fun v10 =>
 aN (bS (F50 [v10, (Value.int .i64 (Int.ofNat 4)), (Value.int .i64 (Int.ofNat 50))] h3) fun v => some (v, h3)) fun v11 h11 =>
 fF v11 0 fun v12 =>
 aS .i64 v12 fun i13 =>
 fF v11 1 fun v14 =>
 aS .i64 v14 fun i15 =>
 bE (kF i15 (Int.ofNat 0)) fun b16 =>
 bY b16
 (some (Value.tuple (List.toArray [(Value.int .i64 (Int.ofNat 2)), (Value.int .i64 i13), (Value.int .i64 i15)]), h11))
 (aT 4 h11 a0 fun v17 =>
 aR 2 a0 fun v18 =>
 aI h11 v18 fun v19 =>
 aN (bV F51 [v17, v19, (Value.int .i64 (Int.ofNat 6)), (Value.bool false)] h11) fun v20 h20 =>
 fF v20 0 fun v21 =>
 aS .i64 v21 fun i22 =>
 fF v20 1 fun v23 =>
 aS .i64 v23 fun i24 =>
 bE (kF i24 (Int.ofNat 0)) fun b25 =>
 bY b25
 (some (Value.tuple (List.toArray [(Value.int .i64 (Int.ofNat 3)), (Value.int .i64 i22), (Value.int .i64 i24)]), h20))
 (aT 4 h20 a0 fun v26 =>
 aR 3 a0 fun v27 =>
 aI h20 v27 fun v28 =>
 aN (bV F51 [v26, v28, (Value.int .i64 (Int.ofNat 5)), (Value.bool true)] h20) fun v29 h29 =>
 fF v29 0 fun v30 =>
 aS .i64 v30 fun i31 =>
 fF v29 1 fun v32 =>
 aS .i64 v32 fun i33 =>
 bE (kF i33 (Int.ofNat 0)) fun b34 =>
 bY b34
 (some (Value.tuple (List.toArray [(Value.int .i64 (Int.ofNat 4)), (Value.int .i64 i31), (Value.int .i64 i33)]), h29))
 (some (Value.tuple (List.toArray [(Value.int .i64 (Int.ofNat 0)), (Value.int .i64 (Int.ofNat 0)), (Value.int .i64 (Int.ofNat 0))]), h29)))))
noncomputable def T17 (S : Sg) : Sg := cK 0 (uV fun r0 => uN (aL2 S r0)) (jI)
noncomputable def F17 (args : List Value) (h : Hp) : aF := bB [Kd.v] args fun al => aK T17 1000000 0 al h
def bE9 : Nat := 1 + (49 - 1)
theorem t17 (S : Sg) : iO (fun l vs h => aY (jZ env aL1 bE9) (jV env Try.f17.results.toList) (collect B17 A17 []) l S vs h) (T17 S) := by
 unfold T17
 exact dK (dN fun _ => iZ fun _ => by kernel_rfl) <| Go.bK.iO.nil
theorem IQ : ∀ args h v h', F17 args h = some (v, h') → eF (C60) (.call 17 args.toArray h) (.ret v h') := by
 intro args h v h' e
 exact bC (C := C60) (fn := Try.f17) (body := B17) (np := 1) (A := A17) (T := T17) (kinds := [Kd.v]) (by kernel_rfl) (by kernel_rfl) (by kernel_rfl) (by kernel_rfl) (dH dL) (by kernel_rfl) (fun S => t17 S) e
noncomputable def aL3 := jF 17 F17 aL1
noncomputable def C61 : dO := cfg aL3
theorem bFA : C61.Ok := dA (C := C60) bE8 IQ
noncomputable def B37 : Code := (Try.f37.body).getD .skip
def A37 : eT := (Am 0 [(0, .v)] Ao (An Ao Az))
noncomputable def aL4 (S : Sg) (r0 : Value) (h : Hp) : aF :=
 bD h 25 (Array.toList (Value.cells r0)) fun a0 h0 =>
 aT 4 h0 a0 fun v1 =>
 aN (bV F17 [v1] h0) fun v2 h2 =>
 fF v2 0 fun v3 =>
 aS .i64 v3 fun i4 =>
 fF v2 1 fun v5 =>
 aS .i64 v5 fun i6 =>
 fF v2 2 fun v7 =>
 aS .i64 v7 fun i8 =>
 bQ (kF i8 (Int.ofNat 0)) fun b9 =>
 some ((Value.bool b9), h2)
noncomputable def T37 (S : Sg) : Sg := cK 0 (uV fun r0 => uN (aL4 S r0)) (jI)
noncomputable def F37 (args : List Value) (h : Hp) : aF := bB [Kd.v] args fun al => aK T37 1000000 0 al h
def bFB : Nat := 1 + (14 - 1)
theorem t37 (S : Sg) : iO (fun l vs h => aY (jZ env aL3 bFB) (jV env Try.f37.results.toList) (collect B37 A37 []) l S vs h) (T37 S) := by
 unfold T37
 exact dK (dN fun _ => iZ fun _ => by kernel_rfl) <| Go.bK.iO.nil
theorem r37 : ∀ args h v h', F37 args h = some (v, h') → eF (C61) (.call 37 args.toArray h) (.ret v h') := by
 intro args h v h' e
 exact bC (C := C61) (fn := Try.f37) (body := B37) (np := 1) (A := A37) (T := T37) (kinds := [Kd.v]) (by kernel_rfl) (by kernel_rfl) (by kernel_rfl) (by kernel_rfl) (dH dL) (by kernel_rfl) (fun S => t37 S) e
noncomputable def aSR := jF 37 F37 aL3
noncomputable def C62 : dO := cfg aSR
theorem bFC : C62.Ok := dA (C := C61) bFA r37
noncomputable def B46 : Code := (Try.f46.body).getD .skip
noncomputable def A46 : G.eT (List KI) := (Gm 0 [.reg 0 .v, .reg 1 (.i .i64)] Gz (Gn (Gn Gz (Gn Gy Gz)) Gy))
noncomputable def aL5 (h : Hp) (S : Nat → aD → Option Value) (r0 : Value) (r1 : Int) : Option Value :=
 bW r0 fun i0 =>
 bQ (kF i0 (Int.ofNat 0)) fun b1 =>
 bY b1
 (some (Value.int .i64 (Int.ofNat 0)))
 (bW r0 fun i2 =>
 rT .i64 (lY env .rem 3 (Value.int .i64 r1) (Value.int .i64 i2)) fun i3 =>
 dS 1 r0 i3 fun v4 =>
 aI h v4 fun v5 =>
 aS .u8 v5 fun i6 =>
 wrap64 i6 fun i7 =>
 some (Value.int .i64 i7))
noncomputable def T46 (h : Hp) (S : Nat → aD → Option Value) : Nat → aD → Option Value := dU 0 (wV fun r0 => wI fun r1 => wN (aL5 h S r0 r1)) (kP)
noncomputable def F46 (args : List Value) (h : Hp) : Option Value := plainO (dV [Kd.v, Kd.i .i64] args fun al => G.aK (T46 h) 1000000 0 al)
def bFD : Nat := 2 + (16 - 2)
theorem t46 (h : Hp) (S : Nat → aD → Option Value) : gW (fun l al => G.aY iF dB oM (pJ env aQI bFD h) (qE env Try.f46.results.toList) (G.collect B46 A46 []) l S al) (T46 h S) := by
 unfold T46
 exact dX (nA fun _ => jX fun _ => oO (by kernel_rfl)) <| gW.nil
theorem r46 : fZ Try.prog 46 F46 := dI (C := C0) ok0 (pf := aQI) aLW (fn := Try.f46) (body := B46) (kinds := [Kd.v, Kd.i .i64]) (A := A46) (T := T46) (by kernel_rfl) (by kernel_rfl) (by kernel_rfl) (by kernel_rfl) (fun h S => t46 h S)
noncomputable def aQJ : PF := FH 46 F46 aQI
theorem aL6 : eO Try.prog aQJ := iN r46 aLW
noncomputable def aL7 := pK 46 F46 aSR
noncomputable def C63 : dO := cfg aL7
theorem bFE : C63.Ok := fT (C := C62) bFC r46
noncomputable def B38 : Code := (Try.f38.body).getD .skip
def A38 : eT := (Am 0 [(0, .v), (1, .v)] Ao (An Ao (An (An Ao (An (Am 1 [(1, .v), (2, .v), (5, .v), (6, .v), (7, .i .i64)] (An (An Ao Az) (An Az Ao)) Ao) Ao)) (Am 5 [(1, .v), (2, .v), (5, .v), (6, .v)] (An Ao (An (Am 2 [(1, .v), (2, .v), (5, .v), (6, .v), (8, .i .i64)] (An (An Ao Az) (Am 3 [(1, .v), (2, .v), (5, .v), (6, .v), (8, .i .i64)] (An (An Ao Az) Ao) Ao)) Ao) Ao)) (Am 4 [(6, .v)] Ao Ao)))))
noncomputable def a2C (S : Sg) (r6 : Value) (h : Hp) : aF :=
 some (r6, h)
noncomputable def a2D (S : Sg) (r1 r2 : Value) (r5 r6 : Value) (r8 : Int) (h : Hp) : aF :=
 aN (bS (F46 [r1, (Value.int .i64 r8)] h) fun v => some (v, h)) fun v0 h0 =>
 aS .i64 v0 fun i1 =>
 bW r5 fun i2 =>
 rT .i64 (lY env .rem 3 (Value.int .i64 i1) (Value.int .i64 i2)) fun i3 =>
 dS 1 r5 i3 fun v4 =>
 aI h0 v4 fun v5 =>
 aS .i64 v5 fun i6 =>
 aN (bA env h0 22 1 (List.toArray [(0, (Value.int .i64 i6))])) fun v7 h7 =>
 aN (fC env h7 #[22, 22] (List.toArray [r6, v7])) fun v8 h8 =>
 aN (bA env (Hp.mk (Hp.next h8) (Hp.next h8) T.nil) 22 0 (List.toArray [])) fun v9 h9 =>
 iH v9 (Hp.next h8) h9 fun w10 n10 =>
 bS (jA env (Hp.mk n10 n10 (Hp.aC h8)) 22 r5 none (some (Value.int .i64 i3)) none) fun v11 =>
 aN (fC env (Hp.mk n10 n10 (aP w10 (Hp.aC h8))) #[22, 22] (List.toArray [v9, v11])) fun v12 h12 =>
 iH v12 n10 h12 fun w13 n13 =>
 wrap64 (Int.add i3 (Int.ofNat 1)) fun i14 =>
 bS (jA env (Hp.mk n13 n13 (Hp.aC h8)) 22 r5 (some (Value.int .i64 i14)) none none) fun v15 =>
 aN (fC env (Hp.mk n13 (Hp.ro h8) (aP w13 (aP w10 (Hp.aC h8)))) #[22, 22] (List.toArray [v12, v15])) fun v16 h16 =>
 wrap64 (Int.add r8 (Int.ofNat 1)) fun i17 =>
 S 2 (AL.v r1 (AL.v r2 (AL.v v16 (AL.v v8 (AL.i i17 AL.n))))) h16
noncomputable def a2E (S : Sg) (r1 r2 : Value) (r5 r6 : Value) (r8 : Int) (h : Hp) : aF :=
 aR 3 r2 fun v0 =>
 aI h v0 fun v1 =>
 bW v1 fun i2 =>
 bQ (lI r8 i2) fun b3 =>
 bY b3
 (bW r5 fun i4 =>
 bQ (lI (Int.ofNat 0) i4) fun b5 =>
 bY b5
 (S 3 (AL.v r1 (AL.v r2 (AL.v r5 (AL.v r6 (AL.i r8 AL.n))))) h)
 (S 4 (AL.v r6 AL.n) h))
 (S 4 (AL.v r6 AL.n) h)
noncomputable def a2F (S : Sg) (r1 r2 : Value) (r5 r6 : Value) (h : Hp) : aF :=
 S 2 (AL.v r1 (AL.v r2 (AL.v r5 (AL.v r6 (AL.i (Int.ofNat 0) AL.n))))) h
noncomputable def a2G (S : Sg) (r1 r2 : Value) (r5 r6 : Value) (r7 : Int) (h : Hp) : aF :=
 aR 2 r2 fun v0 =>
 aI h v0 fun v1 =>
 bW v1 fun i2 =>
 bQ (lI r7 i2) fun b3 =>
 bY b3
 (aN (bA env h 22 1 (List.toArray [(0, (Value.int .i64 r7))])) fun v4 h4 =>
 aN (fC env h4 #[22, 22] (List.toArray [r5, v4])) fun v5 h5 =>
 wrap64 (Int.add r7 (Int.ofNat 1)) fun i6 =>
 S 1 (AL.v r1 (AL.v r2 (AL.v v5 (AL.v r6 (AL.i i6 AL.n))))) h5)
 (S 5 (AL.v r1 (AL.v r2 (AL.v r5 (AL.v r6 AL.n)))) h)
noncomputable def a2H (S : Sg) (r0 r1 : Value) (h : Hp) : aF :=
 bD h 25 (Array.toList (Value.cells r0)) fun a0 h0 =>
 S 1 (AL.v r1 (AL.v a0 (AL.v (Value.slice none 0 0) (AL.v (Value.slice none 0 0) (AL.i (Int.ofNat 0) AL.n))))) h0
noncomputable def T38 (S : Sg) : Sg := cK 0 (uV fun r0 => uV fun r1 => uN (a2H S r0 r1)) (cK 1 (uV fun r1 => uV fun r2 => uV fun r5 => uV fun r6 => uI fun r7 => uN (a2G S r1 r2 r5 r6 r7)) (cK 5 (uV fun r1 => uV fun r2 => uV fun r5 => uV fun r6 => uN (a2F S r1 r2 r5 r6)) (cK 2 (uV fun r1 => uV fun r2 => uV fun r5 => uV fun r6 => uI fun r8 => uN (a2E S r1 r2 r5 r6 r8)) (cK 3 (uV fun r1 => uV fun r2 => uV fun r5 => uV fun r6 => uI fun r8 => uN (a2D S r1 r2 r5 r6 r8)) (cK 4 (uV fun r6 => uN (a2C S r6)) (jI))))))
noncomputable def F38 (args : List Value) (h : Hp) : aF := bB [Kd.v, Kd.v] args fun al => aK T38 1000000 0 al h
def bFH : Nat := 2 + (57 - 2)
theorem t38 (S : Sg) : iO (fun l vs h => aY (jZ env aL7 bFH) (jV env Try.f38.results.toList) (collect B38 A38 []) l S vs h) (T38 S) := by
 unfold T38
 exact dK (dN fun _ => dN fun _ => iZ fun _ => by kernel_rfl) <| dK (dN fun _ => dN fun _ => dN fun _ => dN fun _ => jG fun _ => iZ fun _ => by kernel_rfl) <| dK (dN fun _ => dN fun _ => dN fun _ => dN fun _ => iZ fun _ => by kernel_rfl) <| dK (dN fun _ => dN fun _ => dN fun _ => dN fun _ => jG fun _ => iZ fun _ => by kernel_rfl) <| dK (dN fun _ => dN fun _ => dN fun _ => dN fun _ => jG fun _ => iZ fun _ => by kernel_rfl) <| dK (dN fun _ => iZ fun _ => by kernel_rfl) <| Go.bK.iO.nil
theorem r38 : ∀ args h v h', F38 args h = some (v, h') → eF (C63) (.call 38 args.toArray h) (.ret v h') := by
 intro args h v h' e
 exact bC (C := C63) (fn := Try.f38) (body := B38) (np := 2) (A := A38) (T := T38) (kinds := [Kd.v, Kd.v]) (by kernel_rfl) (by kernel_rfl) (by kernel_rfl) (by kernel_rfl) (dH dL) (by kernel_rfl) (fun S => t38 S) e
noncomputable def aL8 := jF 38 F38 aL7
noncomputable def C64 : dO := cfg aL8
theorem bFI : C64.Ok := dA (C := C63) bFE r38
noncomputable def B57 : Code := (Try.f57.body).getD .skip
def A57 : eT := (Am 0 [(0, .v), (1, .v)] Ao (An Ao (An (An Ao (An (Am 1 [(2, .v), (3, .v), (5, .v), (6, .i .i64)] (An (An Ao Az) (An (An (An Ao Az) Ao) Ao)) Ao) Ao)) (Am 2 [(5, .v)] Ao Ao))))
noncomputable def a2I (S : Sg) (r5 : Value) (h : Hp) : aF :=
 some (r5, h)
noncomputable def a2J (S : Sg) (r2 r3 r5 : Value) (r6 : Int) (h : Hp) : aF :=
 aR 1 r2 fun v0 =>
 aI h v0 fun v1 =>
 bW v1 fun i2 =>
 bQ (lI r6 i2) fun b3 =>
 bY b3
 (aR 1 r3 fun v4 =>
 aI h v4 fun v5 =>
 dS 1 v5 r6 fun v6 =>
 aI h v6 fun v7 =>
 aS .i64 v7 fun i8 =>
 bE (kF i8 (Int.negSucc 0)) fun b9 =>
 bY b9
 (aR 1 r3 fun v10 =>
 aI h v10 fun v11 =>
 dS 1 v11 r6 fun v12 =>
 aI h v12 fun v13 =>
 aS .i64 v13 fun i14 =>
 aR 1 r2 fun v15 =>
 aI h v15 fun v16 =>
 dS 1 v16 r6 fun v17 =>
 aI h v17 fun v18 =>
 aS .i64 v18 fun i19 =>
 bE (kF i14 i19) fun b20 =>
 bY b20
 (aN (bA env h 22 1 (List.toArray [(0, (Value.int .i64 r6))])) fun v21 h21 =>
 aN (fC env h21 #[22, 22] (List.toArray [r5, v21])) fun v22 h22 =>
 wrap64 (Int.add r6 (Int.ofNat 1)) fun i23 =>
 S 1 (AL.v r2 (AL.v r3 (AL.v v22 (AL.i i23 AL.n)))) h22)
 (wrap64 (Int.add r6 (Int.ofNat 1)) fun i24 =>
 S 1 (AL.v r2 (AL.v r3 (AL.v r5 (AL.i i24 AL.n)))) h))
 (wrap64 (Int.add r6 (Int.ofNat 1)) fun i25 =>
 S 1 (AL.v r2 (AL.v r3 (AL.v r5 (AL.i i25 AL.n)))) h))
 (S 2 (AL.v r5 AL.n) h)
noncomputable def a2K (S : Sg) (r0 r1 : Value) (h : Hp) : aF :=
 bD h 59 (Array.toList (Value.cells r0)) fun a0 h0 =>
 bD h0 59 (Array.toList (Value.cells r1)) fun a1 h1 =>
 S 1 (AL.v a0 (AL.v a1 (AL.v (Value.slice none 0 0) (AL.i (Int.ofNat 0) AL.n)))) h1
noncomputable def T57 (S : Sg) : Sg := cK 0 (uV fun r0 => uV fun r1 => uN (a2K S r0 r1)) (cK 1 (uV fun r2 => uV fun r3 => uV fun r5 => uI fun r6 => uN (a2J S r2 r3 r5 r6)) (cK 2 (uV fun r5 => uN (a2I S r5)) (jI)))
noncomputable def F57 (args : List Value) (h : Hp) : aF := bB [Kd.v, Kd.v] args fun al => aK T57 1000000 0 al h
def bFJ : Nat := 2 + (38 - 2)
theorem t57 (S : Sg) : iO (fun l vs h => aY (jZ env aL8 bFJ) (jV env Try.f57.results.toList) (collect B57 A57 []) l S vs h) (T57 S) := by
 unfold T57
 exact dK (dN fun _ => dN fun _ => iZ fun _ => by kernel_rfl) <| dK (dN fun _ => dN fun _ => dN fun _ => jG fun _ => iZ fun _ => by kernel_rfl) <| dK (dN fun _ => iZ fun _ => by kernel_rfl) <| Go.bK.iO.nil
theorem r57 : ∀ args h v h', F57 args h = some (v, h') → eF (C64) (.call 57 args.toArray h) (.ret v h') := by
 intro args h v h' e
 exact bC (C := C64) (fn := Try.f57) (body := B57) (np := 2) (A := A57) (T := T57) (kinds := [Kd.v, Kd.v]) (by kernel_rfl) (by kernel_rfl) (by kernel_rfl) (by kernel_rfl) (dH dL) (by kernel_rfl) (fun S => t57 S) e
noncomputable def aSS := jF 57 F57 aL8
noncomputable def C65 : dO := cfg aSS
theorem bFK : C65.Ok := dA (C := C64) bFI r57
noncomputable def B43 : Code := (Try.f43.body).getD .skip
noncomputable def A43 : G.eT (List KI) := (Gm 0 [.reg 0 .v, .reg 1 (.i .i64)] Gz (Gn (Gn Gz (Gn (Gm 1 [.reg 0 .v, .reg 1 (.i .i64), .reg 5 (.i .i64)] (Gn (Gn Gz Gy) (Gn (Gn (Gn Gz (Gn Gy Gz)) Gz) Gz)) Gz) Gz)) (Gm 2 [] Gz Gz)))
noncomputable def a2L (h : Hp) (S : Nat → aD → Option Value) : Option Value :=
 some (Value.bool false)
noncomputable def a2M (h : Hp) (S : Nat → aD → Option Value) (r0 : Value) (r1 r5 : Int) : Option Value :=
 bW r0 fun i0 =>
 bQ (lI r5 i0) fun b1 =>
 bY b1
 (dS 1 r0 r5 fun v2 =>
 aI h v2 fun v3 =>
 aS .i64 v3 fun i4 =>
 bQ (kF i4 r1) fun b5 =>
 bY b5
 (some (Value.bool true))
 (wrap64 (Int.add r5 (Int.ofNat 1)) fun i6 =>
 S 1 (aD.v r0 (aD.i r1 (aD.i i6 aD.n)))))
 (S 2 aD.n)
noncomputable def a2N (h : Hp) (S : Nat → aD → Option Value) (r0 : Value) (r1 : Int) : Option Value :=
 S 1 (aD.v r0 (aD.i r1 (aD.i (Int.ofNat 0) aD.n)))
noncomputable def T43 (h : Hp) (S : Nat → aD → Option Value) : Nat → aD → Option Value := dU 0 (wV fun r0 => wI fun r1 => wN (a2N h S r0 r1)) (dU 1 (wV fun r0 => wI fun r1 => wI fun r5 => wN (a2M h S r0 r1 r5)) (dU 2 (wN (a2L h S)) (kP)))
noncomputable def F43 (args : List Value) (h : Hp) : Option Value := plainO (dV [Kd.v, Kd.i .i64] args fun al => G.aK (T43 h) 1000000 0 al)
def bFL : Nat := 2 + (18 - 2)
theorem t43 (h : Hp) (S : Nat → aD → Option Value) : gW (fun l al => G.aY iF dB oM (pJ env aQJ bFL h) (qE env Try.f43.results.toList) (G.collect B43 A43 []) l S al) (T43 h S) := by
 unfold T43
 exact dX (nA fun _ => jX fun _ => oO (by kernel_rfl)) <| dX (nA fun _ => jX fun _ => jX fun _ => oO (by kernel_rfl)) <| dX (oO (by kernel_rfl)) <| gW.nil
theorem r43 : fZ Try.prog 43 F43 := dI (C := C0) ok0 (pf := aQJ) aL6 (fn := Try.f43) (body := B43) (kinds := [Kd.v, Kd.i .i64]) (A := A43) (T := T43) (by kernel_rfl) (by kernel_rfl) (by kernel_rfl) (by kernel_rfl) (fun h S => t43 h S)
noncomputable def aQK : PF := FH 43 F43 aQJ
theorem aL9 : eO Try.prog aQK := iN r43 aL6
noncomputable def aMA := pK 43 F43 aSS
noncomputable def C66 : dO := cfg aMA
theorem bFM : C66.Ok := fT (C := C65) bFK r43
noncomputable def B61 : Code := (Try.f61.body).getD .skip
def A61 : eT := (Am 0 [(0, .v), (1, .v)] Ao (An Ao (An (An Ao (An (Am 1 [(1, .v), (2, .v), (5, .v), (6, .i .i64)] (An (An Ao Az) (An (An (An Ao (An (An Ao (An (Am 2 [(1, .v), (2, .v), (5, .v), (6, .i .i64), (7, .i .i64), (8, .i .i64)] (An (An Ao Az) (An (An (An Ao (An (An Ao Az) (An (An Ao Az) (Am 3 [(1, .v), (2, .v), (5, .v), (6, .i .i64), (7, .i .i64), (8, .i .i64), (10, .v)] Ao Az)))) Ao) (Am 4 [(1, .v), (2, .v), (5, .v), (6, .i .i64), (7, .i .i64), (8, .i .i64)] Ao Ao))) Ao) Ao)) (Am 5 [(1, .v), (2, .v), (5, .v), (6, .i .i64), (7, .i .i64)] Ao Ao))) Ao) (Am 6 [(1, .v), (2, .v), (5, .v), (6, .i .i64)] Ao Ao))) Ao) Ao)) (Am 7 [(5, .v)] Ao Ao))))
noncomputable def a2P (S : Sg) (r5 : Value) (h : Hp) : aF :=
 some (r5, h)
noncomputable def a2Q (S : Sg) (r1 r2 r5 : Value) (r6 : Int) (h : Hp) : aF :=
 wrap64 (Int.add r6 (Int.ofNat 1)) fun i0 =>
 S 1 (AL.v r1 (AL.v r2 (AL.v r5 (AL.i i0 AL.n)))) h
noncomputable def a2R (S : Sg) (r1 r2 r5 : Value) (r6 r7 : Int) (h : Hp) : aF :=
 aN (bA env h 22 1 (List.toArray [(0, (Value.int .i64 r7))])) fun v0 h0 =>
 aN (fC env h0 #[22, 22] (List.toArray [r5, v0])) fun v1 h1 =>
 S 6 (AL.v r1 (AL.v r2 (AL.v v1 (AL.i r6 AL.n)))) h1
noncomputable def a2S (S : Sg) (r1 r2 r5 : Value) (r6 r7 r8 : Int) (h : Hp) : aF :=
 wrap64 (Int.add r8 (Int.ofNat 1)) fun i0 =>
 S 2 (AL.v r1 (AL.v r2 (AL.v r5 (AL.i r6 (AL.i r7 (AL.i i0 AL.n)))))) h
noncomputable def a2T (S : Sg) (r1 r2 r5 : Value) (r6 r7 r8 : Int) (mD : Value) (h : Hp) : aF :=
 aR 1 mD fun v0 =>
 aI h v0 fun v1 =>
 dS 1 v1 (Int.ofNat 0) fun v2 =>
 aI h v2 fun v3 =>
 aS .i64 v3 fun i4 =>
 bQ (kF i4 r6) fun b5 =>
 bY b5
 (aR 2 mD fun v6 =>
 aI h v6 fun v7 =>
 aS .i64 v7 fun i8 =>
 wrap64 (Int.sub r7 i8) fun i9 =>
 S 4 (AL.v r1 (AL.v r2 (AL.v r5 (AL.i r6 (AL.i i9 (AL.i r8 AL.n)))))) h)
 (S 4 (AL.v r1 (AL.v r2 (AL.v r5 (AL.i r6 (AL.i r7 (AL.i r8 AL.n)))))) h)
noncomputable def a2U (S : Sg) (r1 r2 r5 : Value) (r6 r7 r8 : Int) (h : Hp) : aF :=
 bW r1 fun i0 =>
 bQ (lI r8 i0) fun b1 =>
 bY b1
 (aR 2 r2 fun v2 =>
 aI (Hp.mk (Hp.next h) (Hp.next h) (Hp.aC h)) v2 fun v3 =>
 dS 1 r1 r8 fun v4 =>
 aI (Hp.mk (Hp.next h) (Hp.next h) (Hp.aC h)) v4 fun v5 =>
 aS .i64 v5 fun i6 =>
 dS 3 v3 i6 fun v7 =>
 aT 3 (Hp.mk (Hp.next h) (Hp.next h) (Hp.aC h)) v7 fun v8 =>
 aR 3 r2 fun v9 =>
 aI (Hp.mk (Hp.next h) (Hp.next h) (Hp.aC h)) v9 fun v10 =>
 dS 3 v10 r8 fun v11 =>
 aT 3 (Hp.mk (Hp.next h) (Hp.next h) (Hp.aC h)) v11 fun v12 =>
 bD (Hp.mk (Hp.next h) (Hp.next h) T.nil) 59 [(Value.string (ByteArray.mk #[])), (Value.slice none 0 0), (Value.int .i64 (Int.ofNat 0))] fun a13 O3 =>
 iH a13 (Hp.next h) O3 fun DF n14 =>
 bD (Hp.mk n14 n14 T.nil) 59 [(Value.string (ByteArray.mk #[])), (Value.slice none 0 0), (Value.int .i64 (Int.ofNat 0))] fun a15 h15 =>
 iH a15 n14 h15 fun w16 n16 =>
 EW env 59 a13 v8 n16 (Hp.next h) (aP w16 (aP DF (Hp.aC h))) (fun b => (iA [] b || (iA [] b || (iA [] b || (iA [] b || (iA [] b || (iA [] b || (iA [] b || (iA [] b || (iA DF b || (iA w16 b || false))))))))))) fun w17 =>
 dY 3 (Hp.mk n16 (Hp.ro h) (aP w17 (aP w16 (aP DF (Hp.aC h))))) a15 v12 fun h18 =>
 aT 3 h18 a13 fun v19 =>
 aT 3 h18 a15 fun v20 =>
 aN (bV F57 [v19, v20] h18) fun v21 h21 =>
 aN (bS (F43 [v21, (Value.int .i64 (Int.ofNat 0))] h21) fun v => some (v, h21)) fun v22 h22 =>
 dM v22 fun b23 =>
 bE b23 fun b24 =>
 bY b24
 (S 4 (AL.v r1 (AL.v r2 (AL.v r5 (AL.i r6 (AL.i r7 (AL.i r8 AL.n)))))) h22)
 (aR 1 a13 fun v25 =>
 aI h22 v25 fun v26 =>
 dS 1 v26 (Int.ofNat 0) fun v27 =>
 aI h22 v27 fun v28 =>
 aS .i64 v28 fun i29 =>
 bQ (kF i29 r6) fun b30 =>
 bY b30
 (aR 2 a13 fun v31 =>
 aI h22 v31 fun v32 =>
 aS .i64 v32 fun i33 =>
 wrap64 (Int.add r7 i33) fun i34 =>
 S 3 (AL.v r1 (AL.v r2 (AL.v r5 (AL.i r6 (AL.i i34 (AL.i r8 (AL.v a15 AL.n))))))) h22)
 (S 3 (AL.v r1 (AL.v r2 (AL.v r5 (AL.i r6 (AL.i r7 (AL.i r8 (AL.v a15 AL.n))))))) h22)))
 (S 5 (AL.v r1 (AL.v r2 (AL.v r5 (AL.i r6 (AL.i r7 AL.n))))) h)
noncomputable def a2W (S : Sg) (r1 r2 r5 : Value) (r6 : Int) (h : Hp) : aF :=
 aR 1 r2 fun v0 =>
 aI h v0 fun v1 =>
 bW v1 fun i2 =>
 bQ (lI r6 i2) fun b3 =>
 bY b3
 (aR 1 r2 fun v4 =>
 aI h v4 fun v5 =>
 dS 1 v5 r6 fun v6 =>
 aI h v6 fun v7 =>
 aS .i64 v7 fun i8 =>
 S 2 (AL.v r1 (AL.v r2 (AL.v r5 (AL.i r6 (AL.i i8 (AL.i (Int.ofNat 0) AL.n)))))) h)
 (S 7 (AL.v r5 AL.n) h)
noncomputable def a2X (S : Sg) (r0 r1 : Value) (h : Hp) : aF :=
 bD h 25 (Array.toList (Value.cells r0)) fun a0 h0 =>
 S 1 (AL.v r1 (AL.v a0 (AL.v (Value.slice none 0 0) (AL.i (Int.ofNat 0) AL.n)))) h0
noncomputable def T61 (S : Sg) : Sg := cK 0 (uV fun r0 => uV fun r1 => uN (a2X S r0 r1)) (cK 1 (uV fun r1 => uV fun r2 => uV fun r5 => uI fun r6 => uN (a2W S r1 r2 r5 r6)) (cK 2 (uV fun r1 => uV fun r2 => uV fun r5 => uI fun r6 => uI fun r7 => uI fun r8 => uN (a2U S r1 r2 r5 r6 r7 r8)) (cK 3 (uV fun r1 => uV fun r2 => uV fun r5 => uI fun r6 => uI fun r7 => uI fun r8 => uV fun mD => uN (a2T S r1 r2 r5 r6 r7 r8 mD)) (cK 4 (uV fun r1 => uV fun r2 => uV fun r5 => uI fun r6 => uI fun r7 => uI fun r8 => uN (a2S S r1 r2 r5 r6 r7 r8)) (cK 5 (uV fun r1 => uV fun r2 => uV fun r5 => uI fun r6 => uI fun r7 => uN (a2R S r1 r2 r5 r6 r7)) (cK 6 (uV fun r1 => uV fun r2 => uV fun r5 => uI fun r6 => uN (a2Q S r1 r2 r5 r6)) (cK 7 (uV fun r5 => uN (a2P S r5)) (jI))))))))
noncomputable def F61 (args : List Value) (h : Hp) : aF := bB [Kd.v, Kd.v] args fun al => aK T61 1000000 0 al h
def bFQ : Nat := 2 + (72 - 2)
theorem t61 (S : Sg) : iO (fun l vs h => aY (jZ env aMA bFQ) (jV env Try.f61.results.toList) (collect B61 A61 []) l S vs h) (T61 S) := by
 unfold T61
 exact dK (dN fun _ => dN fun _ => iZ fun _ => by kernel_rfl) <| dK (dN fun _ => dN fun _ => dN fun _ => jG fun _ => iZ fun _ => by kernel_rfl) <| dK (dN fun _ => dN fun _ => dN fun _ => jG fun _ => jG fun _ => jG fun _ => iZ fun _ => by kernel_rfl) <| dK (dN fun _ => dN fun _ => dN fun _ => jG fun _ => jG fun _ => jG fun _ => dN fun _ => iZ fun _ => by kernel_rfl) <| dK (dN fun _ => dN fun _ => dN fun _ => jG fun _ => jG fun _ => jG fun _ => iZ fun _ => by kernel_rfl) <| dK (dN fun _ => dN fun _ => dN fun _ => jG fun _ => jG fun _ => iZ fun _ => by kernel_rfl) <| dK (dN fun _ => dN fun _ => dN fun _ => jG fun _ => iZ fun _ => by kernel_rfl) <| dK (dN fun _ => iZ fun _ => by kernel_rfl) <| Go.bK.iO.nil
theorem r61 : ∀ args h v h', F61 args h = some (v, h') → eF (C66) (.call 61 args.toArray h) (.ret v h') := by
 intro args h v h' e
 exact bC (C := C66) (fn := Try.f61) (body := B61) (np := 2) (A := A61) (T := T61) (kinds := [Kd.v, Kd.v]) (by kernel_rfl) (by kernel_rfl) (by kernel_rfl) (by kernel_rfl) (dH dL) (by kernel_rfl) (fun S => t61 S) e
noncomputable def aMB := jF 61 F61 aMA
noncomputable def C67 : dO := cfg aMB
theorem bFR : C67.Ok := dA (C := C66) bFM r61
noncomputable def B78 : Code := (Try.f78.body).getD .skip
def A78 : eT := (Am 0 [(0, .v)] Ao (An Ao (An Ao (An (An Ao (An (Am 1 [(0, .v), (4, .v), (5, .i .i64), (6, .i .i64)] (An (An Ao Az) (An (An (An Ao Az) Ao) Ao)) Ao) Ao)) (Am 2 [(4, .v), (5, .i .i64)] Ao Ao)))))
noncomputable def a2Y (S : Sg) (r4 : Value) (r5 : Int) (h : Hp) : aF :=
 some (Value.tuple (List.toArray [r4, (Value.int .i64 r5)]), h)
noncomputable def a2Z (S : Sg) (r0 r4 : Value) (r5 r6 : Int) (h : Hp) : aF :=
 bW r0 fun i0 =>
 bQ (lI r6 i0) fun b1 =>
 bY b1
 (dS 1 r0 r6 fun v2 =>
 aI h v2 fun v3 =>
 aS .i64 v3 fun i4 =>
 wrap64 (Int.sub (Int.ofNat 0) i4) fun i5 =>
 aFD (Int.ofNat 0) i5 fun i6 =>
 aN (bA env h 22 1 (List.toArray [(0, (Value.int .i64 i6))])) fun v7 h7 =>
 aN (fC env h7 #[22, 22] (List.toArray [r4, v7])) fun v8 h8 =>
 wrap64 (Int.add r5 i6) fun i9 =>
 wrap64 (Int.add r6 (Int.ofNat 1)) fun i10 =>
 S 1 (AL.v r0 (AL.v v8 (AL.i i9 (AL.i i10 AL.n)))) h8)
 (S 2 (AL.v r4 (AL.i r5 AL.n)) h)
noncomputable def a3A (S : Sg) (r0 : Value) (h : Hp) : aF :=
 S 1 (AL.v r0 (AL.v (Value.slice none 0 0) (AL.i (Int.ofNat 0) (AL.i (Int.ofNat 0) AL.n)))) h
noncomputable def T78 (S : Sg) : Sg := cK 0 (uV fun r0 => uN (a3A S r0)) (cK 1 (uV fun r0 => uV fun r4 => uI fun r5 => uI fun r6 => uN (a2Z S r0 r4 r5 r6)) (cK 2 (uV fun r4 => uI fun r5 => uN (a2Y S r4 r5)) (jI)))
noncomputable def F78 (args : List Value) (h : Hp) : aF := bB [Kd.v] args fun al => aK T78 1000000 0 al h
def bFT : Nat := 1 + (29 - 1)
theorem t78 (S : Sg) : iO (fun l vs h => aY (jZ env aMB bFT) (jV env Try.f78.results.toList) (collect B78 A78 []) l S vs h) (T78 S) := by
 unfold T78
 exact dK (dN fun _ => iZ fun _ => by kernel_rfl) <| dK (dN fun _ => dN fun _ => jG fun _ => jG fun _ => iZ fun _ => by kernel_rfl) <| dK (dN fun _ => jG fun _ => iZ fun _ => by kernel_rfl) <| Go.bK.iO.nil
theorem r78 : ∀ args h v h', F78 args h = some (v, h') → eF (C67) (.call 78 args.toArray h) (.ret v h') := by
 intro args h v h' e
 exact bC (C := C67) (fn := Try.f78) (body := B78) (np := 1) (A := A78) (T := T78) (kinds := [Kd.v]) (by kernel_rfl) (by kernel_rfl) (by kernel_rfl) (by kernel_rfl) (dH dL) (by kernel_rfl) (fun S => t78 S) e
noncomputable def aMC := jF 78 F78 aMB
noncomputable def C68 : dO := cfg aMC
theorem bFU : C68.Ok := dA (C := C67) bFR r78
noncomputable def B39 : Code := (Try.f39.body).getD .skip
def A39 : eT := (Am 0 [(0, .v), (1, .v)] Ao (An Ao Az))
noncomputable def a3B (S : Sg) (r0 r1 : Value) (h : Hp) : aF :=
 bD h 25 (Array.toList (Value.cells r0)) fun a0 h0 =>
 aT 4 h0 a0 fun v1 =>
 aN (bV F61 [v1, r1] h0) fun v2 h2 =>
 aN (bV F78 [v2] h2) fun v3 h3 =>
 fF v3 0 fun v4 =>
 fF v3 1 fun v5 =>
 aS .i64 v5 fun i6 =>
 bQ (kF i6 (Int.ofNat 0)) fun b7 =>
 some ((Value.bool b7), h3)
noncomputable def T39 (S : Sg) : Sg := cK 0 (uV fun r0 => uV fun r1 => uN (a3B S r0 r1)) (jI)
noncomputable def F39 (args : List Value) (h : Hp) : aF := bB [Kd.v, Kd.v] args fun al => aK T39 1000000 0 al h
def bFV : Nat := 2 + (16 - 2)
theorem t39 (S : Sg) : iO (fun l vs h => aY (jZ env aMC bFV) (jV env Try.f39.results.toList) (collect B39 A39 []) l S vs h) (T39 S) := by
 unfold T39
 exact dK (dN fun _ => dN fun _ => iZ fun _ => by kernel_rfl) <| Go.bK.iO.nil
theorem r39 : ∀ args h v h', F39 args h = some (v, h') → eF (C68) (.call 39 args.toArray h) (.ret v h') := by
 intro args h v h' e
 exact bC (C := C68) (fn := Try.f39) (body := B39) (np := 2) (A := A39) (T := T39) (kinds := [Kd.v, Kd.v]) (by kernel_rfl) (by kernel_rfl) (by kernel_rfl) (by kernel_rfl) (dH dL) (by kernel_rfl) (fun S => t39 S) e
noncomputable def aMD := jF 39 F39 aMC
noncomputable def C69 : dO := cfg aMD
theorem bFW : C69.Ok := dA (C := C68) bFU r39
noncomputable def B40 : Code := (Try.f40.body).getD .skip
def A40 : eT := (Am 0 [(0, .v), (1, .v)] Ao (An Ao (An (An Ao Az) (An (An Ao (An (Am 1 [(1, .v), (2, .v), (7, .i .i64), (8, .i .i64)] (An (An Ao Az) (Am 2 [(1, .v), (2, .v), (7, .i .i64), (8, .i .i64)] (An (An Ao Az) Ao) Ao)) Ao) Ao)) (Am 6 [(1, .v), (7, .i .i64)] (An Ao (An (Am 3 [(1, .v), (7, .i .i64), (9, .i .i64)] (An (An Ao Az) (Am 4 [(1, .v), (7, .i .i64), (9, .i .i64)] (An (An Ao Az) Ao) Ao)) Ao) Ao)) (Am 5 [(7, .i .i64)] Ao Ao))))))
noncomputable def a3C (S : Sg) (r7 : Int) (h : Hp) : aF :=
 some ((Value.int .i64 r7), h)
noncomputable def a3D (S : Sg) (r1 : Value) (r7 r9 : Int) (h : Hp) : aF :=
 bS (jA env h 22 r1 none (some (Value.int .i64 r9)) none) fun v0 =>
 dS 1 r1 r9 fun v1 =>
 aI h v1 fun v2 =>
 aS .i64 v2 fun i3 =>
 aN (bS (F43 [v0, (Value.int .i64 i3)] h) fun v => some (v, h)) fun v4 h4 =>
 dM v4 fun b5 =>
 bY b5
 (wrap64 (Int.add r9 (Int.ofNat 1)) fun i6 =>
 S 3 (AL.v r1 (AL.i (Int.ofNat 5) (AL.i i6 AL.n))) h4)
 (wrap64 (Int.add r9 (Int.ofNat 1)) fun i7 =>
 S 3 (AL.v r1 (AL.i r7 (AL.i i7 AL.n))) h4)
noncomputable def a3E (S : Sg) (r1 : Value) (r7 r9 : Int) (h : Hp) : aF :=
 bW r1 fun i0 =>
 bQ (lI r9 i0) fun b1 =>
 bY b1
 (bQ (kF r7 (Int.ofNat 0)) fun b2 =>
 bY b2
 (S 4 (AL.v r1 (AL.i r7 (AL.i r9 AL.n))) h)
 (S 5 (AL.i r7 AL.n) h))
 (S 5 (AL.i r7 AL.n) h)
noncomputable def a3F (S : Sg) (r1 : Value) (r7 : Int) (h : Hp) : aF :=
 S 3 (AL.v r1 (AL.i r7 (AL.i (Int.ofNat 0) AL.n))) h
noncomputable def a3G (S : Sg) (r1 r2 : Value) (r7 r8 : Int) (h : Hp) : aF :=
 dS 1 r1 r8 fun v0 =>
 aI h v0 fun v1 =>
 aS .i64 v1 fun i2 =>
 aR 2 r2 fun v3 =>
 aI h v3 fun v4 =>
 bW v4 fun i5 =>
 wrap64 (Int.sub i5 (Int.ofNat 1)) fun i6 =>
 aN (bS (F55 [(Value.int .i64 i2), (Value.int .i64 (Int.ofNat 0)), (Value.int .i64 i6)] h) fun v => some (v, h)) fun v7 h7 =>
 dM v7 fun b8 =>
 bE b8 fun b9 =>
 bY b9
 (wrap64 (Int.add r8 (Int.ofNat 1)) fun i10 =>
 S 1 (AL.v r1 (AL.v r2 (AL.i (Int.ofNat 4) (AL.i i10 AL.n)))) h7)
 (wrap64 (Int.add r8 (Int.ofNat 1)) fun i11 =>
 S 1 (AL.v r1 (AL.v r2 (AL.i r7 (AL.i i11 AL.n)))) h7)
noncomputable def a3H (S : Sg) (r1 r2 : Value) (r7 r8 : Int) (h : Hp) : aF :=
 bW r1 fun i0 =>
 bQ (lI r8 i0) fun b1 =>
 bY b1
 (bQ (kF r7 (Int.ofNat 0)) fun b2 =>
 bY b2
 (S 2 (AL.v r1 (AL.v r2 (AL.i r7 (AL.i r8 AL.n)))) h)
 (S 6 (AL.v r1 (AL.i r7 AL.n)) h))
 (S 6 (AL.v r1 (AL.i r7 AL.n)) h)
noncomputable def a3I (S : Sg) (r0 r1 : Value) (h : Hp) : aF :=
 bD h 25 (Array.toList (Value.cells r0)) fun a0 h0 =>
 aT 4 h0 a0 fun v1 =>
 aN (bV F17 [v1] h0) fun v2 h2 =>
 fF v2 0 fun v3 =>
 aS .i64 v3 fun i4 =>
 fF v2 1 fun v5 =>
 aS .i64 v5 fun i6 =>
 fF v2 2 fun v7 =>
 aS .i64 v7 fun i8 =>
 bQ (kF i8 (Int.ofNat 0)) fun b9 =>
 bY b9
 (bW r1 fun i10 =>
 aR 3 a0 fun v11 =>
 aI h2 v11 fun v12 =>
 bW v12 fun i13 =>
 bE (kF i10 i13) fun b14 =>
 bY b14
 (S 1 (AL.v r1 (AL.v a0 (AL.i (Int.ofNat 3) (AL.i (Int.ofNat 0) AL.n)))) h2)
 (S 1 (AL.v r1 (AL.v a0 (AL.i i8 (AL.i (Int.ofNat 0) AL.n)))) h2))
 (S 1 (AL.v r1 (AL.v a0 (AL.i i8 (AL.i (Int.ofNat 0) AL.n)))) h2)
noncomputable def T40 (S : Sg) : Sg := cK 0 (uV fun r0 => uV fun r1 => uN (a3I S r0 r1)) (cK 1 (uV fun r1 => uV fun r2 => uI fun r7 => uI fun r8 => uN (a3H S r1 r2 r7 r8)) (cK 2 (uV fun r1 => uV fun r2 => uI fun r7 => uI fun r8 => uN (a3G S r1 r2 r7 r8)) (cK 6 (uV fun r1 => uI fun r7 => uN (a3F S r1 r7)) (cK 3 (uV fun r1 => uI fun r7 => uI fun r9 => uN (a3E S r1 r7 r9)) (cK 4 (uV fun r1 => uI fun r7 => uI fun r9 => uN (a3D S r1 r7 r9)) (cK 5 (uI fun r7 => uN (a3C S r7)) (jI)))))))
noncomputable def F40 (args : List Value) (h : Hp) : aF := bB [Kd.v, Kd.v] args fun al => aK T40 1000000 0 al h
def bFY : Nat := 2 + (65 - 2)
theorem t40 (S : Sg) : iO (fun l vs h => aY (jZ env aMD bFY) (jV env Try.f40.results.toList) (collect B40 A40 []) l S vs h) (T40 S) := by
 unfold T40
 exact dK (dN fun _ => dN fun _ => iZ fun _ => by kernel_rfl) <| dK (dN fun _ => dN fun _ => jG fun _ => jG fun _ => iZ fun _ => by kernel_rfl) <| dK (dN fun _ => dN fun _ => jG fun _ => jG fun _ => iZ fun _ => by kernel_rfl) <| dK (dN fun _ => jG fun _ => iZ fun _ => by kernel_rfl) <| dK (dN fun _ => jG fun _ => jG fun _ => iZ fun _ => by kernel_rfl) <| dK (dN fun _ => jG fun _ => jG fun _ => iZ fun _ => by kernel_rfl) <| dK (jG fun _ => iZ fun _ => by kernel_rfl) <| Go.bK.iO.nil
theorem r40 : ∀ args h v h', F40 args h = some (v, h') → eF (C69) (.call 40 args.toArray h) (.ret v h') := by
 intro args h v h' e
 exact bC (C := C69) (fn := Try.f40) (body := B40) (np := 2) (A := A40) (T := T40) (kinds := [Kd.v, Kd.v]) (by kernel_rfl) (by kernel_rfl) (by kernel_rfl) (by kernel_rfl) (dH dL) (by kernel_rfl) (fun S => t40 S) e
noncomputable def aME := jF 40 F40 aMD
noncomputable def C70 : dO := cfg aME
theorem bFZ : C70.Ok := dA (C := C69) bFW r40
noncomputable def B56 : Code := (Try.f56.body).getD .skip
def A56 : eT := (Am 0 [(0, .v), (1, .v), (2, .v)] Ao (An Ao (An Ao (An (An Ao (An (Am 1 [(3, .v), (7, .i .i64), (8, .v), (9, .i .i64)] (An (An Ao Az) (An Az Ao)) Ao) Ao)) (Am 2 [(7, .i .i64)] Ao Ao)))))
noncomputable def a3J (S : Sg) (r7 : Int) (h : Hp) : aF :=
 some ((Value.int .i64 r7), h)
noncomputable def a3K (S : Sg) (r3 : Value) (r7 : Int) (r8 : Value) (r9 : Int) (h : Hp) : aF :=
 bW r8 fun i0 =>
 bQ (lI r9 i0) fun b1 =>
 bY b1
 (aR 0 r3 fun v2 =>
 aI h v2 fun v3 =>
 dS 1 r8 r9 fun v4 =>
 aI h v4 fun v5 =>
 aS .i64 v5 fun i6 =>
 dS 1 v3 i6 fun v7 =>
 aI h v7 fun v8 =>
 aS .i64 v8 fun i9 =>
 wrap64 (Int.add r7 i9) fun i10 =>
 wrap64 (Int.add r9 (Int.ofNat 1)) fun i11 =>
 S 1 (AL.v r3 (AL.i i10 (AL.v r8 (AL.i i11 AL.n)))) h)
 (S 2 (AL.i r7 AL.n) h)
noncomputable def a3L (S : Sg) (r0 r1 r2 : Value) (h : Hp) : aF :=
 bD h 25 (Array.toList (Value.cells r0)) fun a0 h0 =>
 bD h0 59 (Array.toList (Value.cells r1)) fun a1 h1 =>
 bD h1 59 (Array.toList (Value.cells r2)) fun a2 h2 =>
 aT 3 h2 a1 fun v3 =>
 aT 3 h2 a2 fun v4 =>
 aN (bV F57 [v3, v4] h2) fun v5 h5 =>
 S 1 (AL.v a0 (AL.i (Int.ofNat 0) (AL.v v5 (AL.i (Int.ofNat 0) AL.n)))) h5
noncomputable def T56 (S : Sg) : Sg := cK 0 (uV fun r0 => uV fun r1 => uV fun r2 => uN (a3L S r0 r1 r2)) (cK 1 (uV fun r3 => uI fun r7 => uV fun r8 => uI fun r9 => uN (a3K S r3 r7 r8 r9)) (cK 2 (uI fun r7 => uN (a3J S r7)) (jI)))
noncomputable def F56 (args : List Value) (h : Hp) : aF := bB [Kd.v, Kd.v, Kd.v] args fun al => aK T56 1000000 0 al h
def bF1 : Nat := 3 + (30 - 3)
theorem t56 (S : Sg) : iO (fun l vs h => aY (jZ env aME bF1) (jV env Try.f56.results.toList) (collect B56 A56 []) l S vs h) (T56 S) := by
 unfold T56
 exact dK (dN fun _ => dN fun _ => dN fun _ => iZ fun _ => by kernel_rfl) <| dK (dN fun _ => jG fun _ => dN fun _ => jG fun _ => iZ fun _ => by kernel_rfl) <| dK (jG fun _ => iZ fun _ => by kernel_rfl) <| Go.bK.iO.nil
theorem r56 : ∀ args h v h', F56 args h = some (v, h') → eF (C70) (.call 56 args.toArray h) (.ret v h') := by
 intro args h v h' e
 exact bC (C := C70) (fn := Try.f56) (body := B56) (np := 3) (A := A56) (T := T56) (kinds := [Kd.v, Kd.v, Kd.v]) (by kernel_rfl) (by kernel_rfl) (by kernel_rfl) (by kernel_rfl) (dH dL) (by kernel_rfl) (fun S => t56 S) e
noncomputable def aMF := jF 56 F56 aME
noncomputable def C71 : dO := cfg aMF
theorem bF2 : C71.Ok := dA (C := C70) bFZ r56
noncomputable def B41 : Code := (Try.f41.body).getD .skip
def A41 : eT := (Am 0 [(0, .v), (1, .v)] Ao (An Ao (An (An Ao (An (Am 1 [(1, .v), (2, .v), (5, .i .i64), (6, .i .i64)] (An (An Ao Az) (An Az Ao)) Ao) Ao)) (Am 2 [(5, .i .i64)] Ao Ao))))
noncomputable def a3M (S : Sg) (r5 : Int) (h : Hp) : aF :=
 some ((Value.int .i64 r5), h)
noncomputable def a3N (S : Sg) (r1 r2 : Value) (r5 r6 : Int) (h : Hp) : aF :=
 bW r1 fun i0 =>
 bQ (lI r6 i0) fun b1 =>
 bY b1
 (aT 4 h r2 fun v2 =>
 aR 2 r2 fun v3 =>
 aI h v3 fun v4 =>
 dS 1 r1 r6 fun v5 =>
 aI h v5 fun v6 =>
 aS .i64 v6 fun i7 =>
 dS 3 v4 i7 fun v8 =>
 aT 3 h v8 fun v9 =>
 aR 3 r2 fun v10 =>
 aI h v10 fun v11 =>
 dS 3 v11 r6 fun v12 =>
 aT 3 h v12 fun v13 =>
 aN (bV F56 [v2, v9, v13] h) fun v14 h14 =>
 aS .i64 v14 fun i15 =>
 wrap64 (Int.add r5 i15) fun i16 =>
 wrap64 (Int.add r6 (Int.ofNat 1)) fun i17 =>
 S 1 (AL.v r1 (AL.v r2 (AL.i i16 (AL.i i17 AL.n)))) h14)
 (S 2 (AL.i r5 AL.n) h)
noncomputable def a3O (S : Sg) (r0 r1 : Value) (h : Hp) : aF :=
 bD h 25 (Array.toList (Value.cells r0)) fun a0 h0 =>
 S 1 (AL.v r1 (AL.v a0 (AL.i (Int.ofNat 0) (AL.i (Int.ofNat 0) AL.n)))) h0
noncomputable def T41 (S : Sg) : Sg := cK 0 (uV fun r0 => uV fun r1 => uN (a3O S r0 r1)) (cK 1 (uV fun r1 => uV fun r2 => uI fun r5 => uI fun r6 => uN (a3N S r1 r2 r5 r6)) (cK 2 (uI fun r5 => uN (a3M S r5)) (jI)))
noncomputable def F41 (args : List Value) (h : Hp) : aF := bB [Kd.v, Kd.v] args fun al => aK T41 1000000 0 al h
def bF3 : Nat := 2 + (31 - 2)
theorem t41 (S : Sg) : iO (fun l vs h => aY (jZ env aMF bF3) (jV env Try.f41.results.toList) (collect B41 A41 []) l S vs h) (T41 S) := by
 unfold T41
 exact dK (dN fun _ => dN fun _ => iZ fun _ => by kernel_rfl) <| dK (dN fun _ => dN fun _ => jG fun _ => jG fun _ => iZ fun _ => by kernel_rfl) <| dK (jG fun _ => iZ fun _ => by kernel_rfl) <| Go.bK.iO.nil
theorem r41 : ∀ args h v h', F41 args h = some (v, h') → eF (C71) (.call 41 args.toArray h) (.ret v h') := by
 intro args h v h' e
 exact bC (C := C71) (fn := Try.f41) (body := B41) (np := 2) (A := A41) (T := T41) (kinds := [Kd.v, Kd.v]) (by kernel_rfl) (by kernel_rfl) (by kernel_rfl) (by kernel_rfl) (dH dL) (by kernel_rfl) (fun S => t41 S) e
noncomputable def aST := jF 41 F41 aMF
noncomputable def C72 : dO := cfg aST
theorem bF4 : C72.Ok := dA (C := C71) bF2 r41
noncomputable def B42 : Code := (Try.f42.body).getD .skip
noncomputable def A42 : G.eT (List KI) := (Gm 0 [.reg 0 .v, .reg 1 .v] Gz (Gn Gz (Gn (Gn Gz (Gn (Gm 1 [.reg 0 .v, .reg 1 .v, .reg 5 (.i .i64), .reg 6 (.i .i64)] (Gn (Gn Gz Gy) (Gn (Gn (Gn Gz (Gn Gy Gz)) Gz) Gz)) Gz) Gz)) (Gm 2 [.reg 0 .v, .reg 1 .v] Gz Gz))))
noncomputable def a3Q (h : Hp) (S : Nat → aD → Option Value) (r0 r1 : Value) : Option Value :=
 bW r0 fun i0 =>
 bW r1 fun i1 =>
 bQ (lI i0 i1) fun b2 =>
 some (Value.bool b2)
noncomputable def a3R (h : Hp) (S : Nat → aD → Option Value) (r0 r1 : Value) (r5 r6 : Int) : Option Value :=
 bQ (lI r6 r5) fun b0 =>
 bY b0
 (dS 1 r0 r6 fun v1 =>
 aI h v1 fun v2 =>
 aS .i64 v2 fun i3 =>
 dS 1 r1 r6 fun v4 =>
 aI h v4 fun v5 =>
 aS .i64 v5 fun i6 =>
 bE (kF i3 i6) fun b7 =>
 bY b7
 (dS 1 r0 r6 fun v8 =>
 aI h v8 fun v9 =>
 aS .i64 v9 fun i10 =>
 dS 1 r1 r6 fun v11 =>
 aI h v11 fun v12 =>
 aS .i64 v12 fun i13 =>
 bQ (lI i10 i13) fun b14 =>
 some (Value.bool b14))
 (wrap64 (Int.add r6 (Int.ofNat 1)) fun i15 =>
 S 1 (aD.v r0 (aD.v r1 (aD.i r5 (aD.i i15 aD.n))))))
 (S 2 (aD.v r0 (aD.v r1 aD.n)))
noncomputable def a3S (h : Hp) (S : Nat → aD → Option Value) (r0 r1 : Value) : Option Value :=
 bW r0 fun i0 =>
 bW r1 fun i1 =>
 aTK i0 i1 fun i2 =>
 S 1 (aD.v r0 (aD.v r1 (aD.i i2 (aD.i (Int.ofNat 0) aD.n))))
noncomputable def T42 (h : Hp) (S : Nat → aD → Option Value) : Nat → aD → Option Value := dU 0 (wV fun r0 => wV fun r1 => wN (a3S h S r0 r1)) (dU 1 (wV fun r0 => wV fun r1 => wI fun r5 => wI fun r6 => wN (a3R h S r0 r1 r5 r6)) (dU 2 (wV fun r0 => wV fun r1 => wN (a3Q h S r0 r1)) (kP)))
noncomputable def F42 (args : List Value) (h : Hp) : Option Value := plainO (dV [Kd.v, Kd.v] args fun al => G.aK (T42 h) 1000000 0 al)
def bF5 : Nat := 2 + (40 - 2)
theorem t42 (h : Hp) (S : Nat → aD → Option Value) : gW (fun l al => G.aY iF dB oM (pJ env aQK bF5 h) (qE env Try.f42.results.toList) (G.collect B42 A42 []) l S al) (T42 h S) := by
 unfold T42
 exact dX (nA fun _ => nA fun _ => oO (by kernel_rfl)) <| dX (nA fun _ => nA fun _ => jX fun _ => jX fun _ => oO (by kernel_rfl)) <| dX (nA fun _ => nA fun _ => oO (by kernel_rfl)) <| gW.nil
theorem r42 : fZ Try.prog 42 F42 := dI (C := C0) ok0 (pf := aQK) aL9 (fn := Try.f42) (body := B42) (kinds := [Kd.v, Kd.v]) (A := A42) (T := T42) (by kernel_rfl) (by kernel_rfl) (by kernel_rfl) (by kernel_rfl) (fun h S => t42 h S)
noncomputable def bF6 : PF := FH 42 F42 aQK
theorem bF7 : eO Try.prog bF6 := iN r42 aL9
noncomputable def aMG := pK 42 F42 aST
noncomputable def C73 : dO := cfg aMG
theorem bF8 : C73.Ok := fT (C := C72) bF4 r42
noncomputable def B8 : Code := (Try.f8.body).getD .skip
def A8 : eT := (Am 0 [(0, .v), (1, .v)] Ao (An Ao (An (An Ao (An Az Ao)) (An Ao (An Ao (Am 3 [(2, .v), (5, .v), (6, .i .i64), (7, .i .i64), (8, .v), (9, .b)] (An Ao (An Az Ao)) (An (An Ao (An Az Ao)) (Am 2 [(2, .v), (5, .v), (6, .i .i64), (8, .v), (9, .b)] Ao (An (An Ao (An Az Ao)) (Am 1 [(2, .v), (5, .v), (6, .i .i64), (8, .v), (9, .b)] Ao Ao))))))))))
noncomputable def bF9 (S : Sg) (r2 r5 : Value) (r6 : Int) (r8 : Value) (r9 : Bool) (h : Hp) : aF :=
 bE r9 fun b0 =>
 bY b0
 (aN (bS (JU [] h) fun v => some (v, h)) fun v1 h1 =>
 dM v1 fun b2 =>
 some ((Value.bool b2), h1))
 (aT 4 h r2 fun v3 =>
 aN (bV F41 [v3, r8] h) fun v4 h4 =>
 aS .i64 v4 fun i5 =>
 bQ (lI r6 i5) fun b6 =>
 bY b6
 (aN (bS (JU [] h4) fun v => some (v, h4)) fun v7 h7 =>
 dM v7 fun b8 =>
 some ((Value.bool b8), h7))
 (aT 4 h4 r2 fun v9 =>
 aN (bV F41 [v9, r8] h4) fun v10 h10 =>
 aS .i64 v10 fun i11 =>
 bQ (kF i11 r6) fun b12 =>
 bY b12
 (aN (bS (F42 [r8, r5] h10) fun v => some (v, h10)) fun v13 O3 =>
 dM v13 fun b14 =>
 bE b14 fun b15 =>
 bY b15
 (aN (bS (JU [] O3) fun v => some (v, O3)) fun v16 h16 =>
 dM v16 fun b17 =>
 some ((Value.bool b17), h16))
 (some ((Value.bool false), O3)))
 (some ((Value.bool false), h10))))
noncomputable def bGA (S : Sg) (r2 r5 : Value) (r6 : Int) (r8 : Value) (r9 : Bool) (h : Hp) : aF :=
 aT 4 h r2 fun v0 =>
 aN (bV F24 [v0, r5] h) fun v1 h1 =>
 fF v1 0 fun v2 =>
 aS .i64 v2 fun i3 =>
 fF v1 1 fun v4 =>
 aS .i64 v4 fun i5 =>
 bE (kF i5 (Int.ofNat 0)) fun b6 =>
 bY b6
 (some ((Value.bool false), h1))
 (bE (kF i3 r6) fun b7 =>
 bY b7
 (some ((Value.bool false), h1))
 (S 1 (AL.v r2 (AL.v r5 (AL.i r6 (AL.v r8 (AL.b r9 AL.n))))) h1))
noncomputable def bGB (S : Sg) (r2 r5 : Value) (r6 r7 : Int) (r8 : Value) (r9 : Bool) (h : Hp) : aF :=
 bE (kF r7 (Int.ofNat 0)) fun b0 =>
 bY b0
 (bQ (kF r7 (Int.ofNat 9)) fun b1 =>
 bY b1
 (bW r5 fun i2 =>
 bQ (kF i2 (Int.ofNat 0)) fun b3 =>
 bY b3
 (bQ (kF r6 (Int.ofNat 0)) fun b4 =>
 bY b4
 (bE r9 fun b5 =>
 bY b5
 (aN (bS (JU [] h) fun v => some (v, h)) fun v6 h6 =>
 dM v6 fun b7 =>
 some ((Value.bool b7), h6))
 (some ((Value.bool false), h)))
 (some ((Value.bool false), h)))
 (some ((Value.bool false), h)))
 (some ((Value.bool false), h)))
 (aT 4 h r2 fun v8 =>
 aN (bV F40 [v8, r5] h) fun v9 h9 =>
 aS .i64 v9 fun i10 =>
 bE (kF i10 (Int.ofNat 0)) fun b11 =>
 bY b11
 (some ((Value.bool false), h9))
 (aT 4 h9 r2 fun v12 =>
 aN (bV F39 [v12, r5] h9) fun v13 O3 =>
 dM v13 fun b14 =>
 bE b14 fun b15 =>
 bY b15
 (some ((Value.bool false), O3))
 (aT 4 O3 r2 fun v16 =>
 aN (bV F41 [v16, r5] O3) fun v17 h17 =>
 aS .i64 v17 fun i18 =>
 bE (kF i18 r6) fun b19 =>
 bY b19
 (some ((Value.bool false), h17))
 (S 2 (AL.v r2 (AL.v r5 (AL.i r6 (AL.v r8 (AL.b r9 AL.n))))) h17))))
noncomputable def bGC (S : Sg) (r0 r1 : Value) (h : Hp) : aF :=
 bD h 25 (Array.toList (Value.cells r0)) fun a0 h0 =>
 aT 4 h0 a0 fun v1 =>
 aN (bV F26 [v1] h0) fun v2 h2 =>
 fF v2 0 fun v3 =>
 fF v2 1 fun v4 =>
 aS .i64 v4 fun i5 =>
 fF v2 2 fun v6 =>
 aS .i64 v6 fun i7 =>
 aT 4 h2 a0 fun v8 =>
 aN (bV F37 [v8] h2) fun v9 h9 =>
 dM v9 fun b10 =>
 bE b10 fun b11 =>
 bY b11
 (bE (kF i7 (Int.ofNat 0)) fun b12 =>
 bY b12
 (bW v3 fun i13 =>
 bQ (kF i13 (Int.ofNat 0)) fun b14 =>
 bY b14
 (bQ (kF i5 (Int.ofNat 0)) fun b15 =>
 bY b15
 (aN (bS (JU [] h9) fun v => some (v, h9)) fun v16 h16 =>
 dM v16 fun b17 =>
 some ((Value.bool b17), h16))
 (some ((Value.bool false), h9)))
 (some ((Value.bool false), h9)))
 (some ((Value.bool false), h9)))
 (aT 4 h9 a0 fun v18 =>
 aN (bV F38 [v18, r1] h9) fun v19 h19 =>
 bW v19 fun i20 =>
 aR 3 a0 fun v21 =>
 aI h19 v21 fun v22 =>
 bW v22 fun i23 =>
 bQ (kF i20 i23) fun b24 =>
 bY b24
 (aT 4 h19 a0 fun v25 =>
 aN (bV F39 [v25, v19] h19) fun v26 h26 =>
 dM v26 fun b27 =>
 S 3 (AL.v a0 (AL.v v3 (AL.i i5 (AL.i i7 (AL.v v19 (AL.b b27 AL.n)))))) h26)
 (S 3 (AL.v a0 (AL.v v3 (AL.i i5 (AL.i i7 (AL.v v19 (AL.b false AL.n)))))) h19))
noncomputable def T8 (S : Sg) : Sg := cK 0 (uV fun r0 => uV fun r1 => uN (bGC S r0 r1)) (cK 3 (uV fun r2 => uV fun r5 => uI fun r6 => uI fun r7 => uV fun r8 => uB fun r9 => uN (bGB S r2 r5 r6 r7 r8 r9)) (cK 2 (uV fun r2 => uV fun r5 => uI fun r6 => uV fun r8 => uB fun r9 => uN (bGA S r2 r5 r6 r8 r9)) (cK 1 (uV fun r2 => uV fun r5 => uI fun r6 => uV fun r8 => uB fun r9 => uN (bF9 S r2 r5 r6 r8 r9)) (jI))))
noncomputable def F8 (args : List Value) (h : Hp) : aF := bB [Kd.v, Kd.v] args fun al => aK T8 1000000 0 al h
def nt8 : Nat := 2 + (124 - 2)
theorem t8 (S : Sg) : iO (fun l vs h => aY (jZ env aMG nt8) (jV env Try.f8.results.toList) (collect B8 A8 []) l S vs h) (T8 S) := by
 unfold T8
 exact dK (dN fun _ => dN fun _ => iZ fun _ => by kernel_rfl) <| dK (dN fun _ => dN fun _ => jG fun _ => jG fun _ => dN fun _ => rwB fun _ => iZ fun _ => by kernel_rfl) <| dK (dN fun _ => dN fun _ => jG fun _ => dN fun _ => rwB fun _ => iZ fun _ => by kernel_rfl) <| dK (dN fun _ => dN fun _ => jG fun _ => dN fun _ => rwB fun _ => iZ fun _ => by kernel_rfl) <| Go.bK.iO.nil
theorem r8 : ∀ args h v h', F8 args h = some (v, h') → eF (C73) (.call 8 args.toArray h) (.ret v h') := by
 intro args h v h' e
 exact bC (C := C73) (fn := Try.f8) (body := B8) (np := 2) (A := A8) (T := T8) (kinds := [Kd.v, Kd.v]) (by kernel_rfl) (by kernel_rfl) (by kernel_rfl) (by kernel_rfl) (dH dL) (by kernel_rfl) (fun S => t8 S) e
noncomputable def aD9 := jF 8 F8 aMG
noncomputable def C74 : dO := cfg aD9
theorem a3T : C74.Ok := dA (C := C73) bF8 r8
noncomputable abbrev aU5 := aD9
theorem bMB : (cfg aU5).Ok := a3T
end Go.Proofs.Ytdpicdnpiihaaaa.K.L
