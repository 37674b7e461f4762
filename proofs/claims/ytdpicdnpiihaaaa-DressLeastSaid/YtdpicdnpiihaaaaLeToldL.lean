/- Functions told for the laws. -/
import Derived.Test.YtdpicdnpiihaaaaLeAwake
import Derived.Test.YtdpicdnpiihaaaaLeEngD
open Go Go.bK Go.bK.Y
set_option maxRecDepth 100000
set_option linter.unusedVariables false
namespace Go.Proofs.Ytdpicdnpiihaaaa.K.L
noncomputable def WK : List Value → Hp → Option Value := ND (.bool true)
theorem a2U : gB Try.prog 21 WK := aWA
noncomputable def aRS : PF := FQ 21 WK a2I
theorem aLT : eT Try.prog aRS := iP a2U aV9
noncomputable def aTY := pE 21 WK aLS
noncomputable def C39 : dK := cfg aTY
theorem bEW : C39.Ok := fU (C := C38) a2S a2U
noncomputable def B65 : Code := (Try.f65.body).getD .skip
noncomputable def A65 : G.fC (List KI) := (Gm 0 [.reg 0 .v] Gz Gy)
noncomputable def aLU (h : Hp) (S : Nat → aD → Option Value) (r0 : Value) : Option Value :=
 oV (Array.toList (Value.cells r0)) fun c0 =>
 BC c0 3 fun v1 =>
 dB v1 fun i2 =>
 sI .i64 (VF (l8 env .shl 3 (Value.int .i64 (Int.ofNat 1)) (Value.int .i64 i2)) (Value.int .i64 (Int.ofNat 1)) (Value.int .i64 i2)) fun i3 =>
 wrap64 (Int.sub i3 (Int.ofNat 1)) fun i4 =>
 some (Value.int .i64 i4)
noncomputable def T65 (h : Hp) (S : Nat → aD → Option Value) : Nat → aD → Option Value := dR 0 (wV fun r0 => wN (aLU h S r0)) (kR)
noncomputable def F65 (args : List Value) (h : Hp) : Option Value := plainO (dU [Kd.v] args fun al => G.aI (T65 h) 1000000 0 al)
def bEX : Nat := 1 + (9 - 1)
theorem t65 (h : Hp) (S : Nat → aD → Option Value) : gZ (fun l al => G.bA iF cB oC (o9 env aRS bEX h) (pY env Try.f65.results.toList) (G.collect B65 A65 []) l S al) (T65 h S) := by
 unfold T65
 exact dZ (mR fun _ => oF (by kernel_rfl)) <| gZ.nil
theorem r65 : gB Try.prog 65 F65 := dD (C := C0) ok0 (pf := aRS) aLT (fn := Try.f65) (body := B65) (kinds := [Kd.v]) (A := A65) (T := T65) (by kernel_rfl) (by kernel_rfl) (by kernel_rfl) (by kernel_rfl) (fun h S => t65 h S)
noncomputable def aRT : PF := FQ 65 F65 aRS
theorem aLV : eT Try.prog aRT := iP r65 aLT
noncomputable def aLW := pE 65 F65 aTY
noncomputable def C40 : dK := cfg aLW
theorem bEY : C40.Ok := fU (C := C39) bEW r65
noncomputable def B96 : Code := (Try.f96.body).getD .skip
def A96 : fC := (Am 0 [(0, .v)] Ao (An (An Ao (An Az Ao)) Az))
noncomputable def aLX (S : Sg) (r0 : Value) (h : Hp) : aJ :=
 bT (qR env .eql 79 (Operand.tmp 3) (Operand.const (Value.slice none 0 0)) r0 (Value.slice none 0 0)) fun v0 =>
 dS v0 fun b1 =>
 dA b1
 (some ((Value.slice none 0 0), h))
 (aQ (bF env h 79 0 (List.toArray [])) fun v2 h2 =>
 aQ (dW env h2 #[79, 79] (List.toArray [v2, r0])) fun v3 h3 =>
 some (v3, h3))
noncomputable def T96 (S : Sg) : Sg := cZ 0 (uV fun r0 => uN (aLX S r0)) (jT)
noncomputable def F96 (args : List Value) (h : Hp) : aJ := bG [Kd.v] args fun al => aI T96 1000000 0 al h
def bEZ : Nat := 1 + (8 - 1)
theorem t96 (S : Sg) : jB (fun l vs h => bA (kF env aLW bEZ) (kG env Try.f96.results.toList) (collect B96 A96 []) l S vs h) (T96 S) := by
 unfold T96
 exact dV (dY fun _ => jU fun _ => by kernel_rfl) <| Go.bK.jB.nil
theorem r96 : ∀ args h v h', F96 args h = some (v, h') → fB (C40) (.call 96 args.toArray h) (.ret v h') := by
 intro args h v h' e
 exact bI (C := C40) (fn := Try.f96) (body := B96) (np := 1) (A := A96) (T := T96) (kinds := [Kd.v]) (by kernel_rfl) (by kernel_rfl) (by kernel_rfl) (by kernel_rfl) (dI dM) (by kernel_rfl) (fun S => t96 S) e
noncomputable def aTZ := jR 96 F96 aLW
noncomputable def C41 : dK := cfg aTZ
theorem bE0 : C41.Ok := dG (C := C40) bEY r96
noncomputable def a2Z : Code := (Try.f112.body).getD .skip
noncomputable def a3A : G.fC (List KI) := (Gm 0 [.reg 0 (.i .u32)] Gz (Gn (Gn Gz (Gn Gy Gz)) (Gm 2 [.reg 0 (.i .u32), .reg 2 (.i .i64)] (Gn Gz (Gn Gy Gz)) (Gm 1 [.reg 0 (.i .u32), .reg 2 (.i .i64)] Gz Gz))))
noncomputable def aWB (h : Hp) (S : Nat → aD → Option Value) (r0 r2 : Int) : Option Value :=
 uK (vU .u8 r0) fun i0 =>
 bT (jW env 9 (Value.string (ByteArray.mk #[0, 1, 2, 2, 3, 3, 3, 3, 4, 4, 4, 4, 4, 4, 4, 4, 5, 5, 5, 5, 5, 5, 5, 5, 5, 5, 5, 5, 5, 5, 5, 5, 6, 6, 6, 6, 6, 6, 6, 6, 6, 6, 6, 6, 6, 6, 6, 6, 6, 6, 6, 6, 6, 6, 6, 6, 6, 6, 6, 6, 6, 6, 6, 6, 7, 7, 7, 7, 7, 7, 7, 7, 7, 7, 7, 7, 7, 7, 7, 7, 7, 7, 7, 7, 7, 7, 7, 7, 7, 7, 7, 7, 7, 7, 7, 7, 7, 7, 7, 7, 7, 7, 7, 7, 7, 7, 7, 7, 7, 7, 7, 7, 7, 7, 7, 7, 7, 7, 7, 7, 7, 7, 7, 7, 7, 7, 7, 7, 8, 8, 8, 8, 8, 8, 8, 8, 8, 8, 8, 8, 8, 8, 8, 8, 8, 8, 8, 8, 8, 8, 8, 8, 8, 8, 8, 8, 8, 8, 8, 8, 8, 8, 8, 8, 8, 8, 8, 8, 8, 8, 8, 8, 8, 8, 8, 8, 8, 8, 8, 8, 8, 8, 8, 8, 8, 8, 8, 8, 8, 8, 8, 8, 8, 8, 8, 8, 8, 8, 8, 8, 8, 8, 8, 8, 8, 8, 8, 8, 8, 8, 8, 8, 8, 8, 8, 8, 8, 8, 8, 8, 8, 8, 8, 8, 8, 8, 8, 8, 8, 8, 8, 8, 8, 8, 8, 8, 8, 8, 8, 8, 8, 8, 8, 8, 8, 8, 8, 8, 8, 8, 8, 8, 8, 8, 8, 8])) (Value.int .u8 i0)) fun v1 =>
 aU .u8 v1 fun i2 =>
 wrap64 i2 fun i3 =>
 wrap64 (Int.add r2 i3) fun i4 =>
 some (Value.int .i64 i4)
noncomputable def aWC (h : Hp) (S : Nat → aD → Option Value) (r0 r2 : Int) : Option Value :=
 bS (mH r0 (Int.ofNat 256)) fun b0 =>
 dA b0
 (VR .u32 r0 (Int.ofNat 8) (D8 (l8 env .shr 143 (Value.int .u32 r0) (Value.int .u64 (Int.ofNat 8))) (Value.int .u32 r0) (Value.int .u64 (Int.ofNat 8))) fun i1 =>
 wrap64 (Int.add r2 (Int.ofNat 8)) fun i2 =>
 S 1 (aD.i i1 (aD.i i2 aD.n)))
 (S 1 (aD.i r0 (aD.i r2 aD.n)))
noncomputable def aWD (h : Hp) (S : Nat → aD → Option Value) (r0 : Int) : Option Value :=
 bS (mH r0 (Int.ofNat 65536)) fun b0 =>
 dA b0
 (VR .u32 r0 (Int.ofNat 16) (D8 (l8 env .shr 143 (Value.int .u32 r0) (Value.int .u64 (Int.ofNat 16))) (Value.int .u32 r0) (Value.int .u64 (Int.ofNat 16))) fun i1 =>
 S 2 (aD.i i1 (aD.i (Int.ofNat 16) aD.n)))
 (S 2 (aD.i r0 (aD.i (Int.ofNat 0) aD.n)))
noncomputable def aRU (h : Hp) (S : Nat → aD → Option Value) : Nat → aD → Option Value := dR 0 (wI fun r0 => wN (aWD h S r0)) (dR 2 (wI fun r0 => wI fun r2 => wN (aWC h S r0 r2)) (dR 1 (wI fun r0 => wI fun r2 => wN (aWB h S r0 r2)) (kR)))
noncomputable def aWE (args : List Value) (h : Hp) : Option Value := plainO (dU [Kd.i .u32] args fun al => G.aI (aRU h) 1000000 0 al)
def a3B : Nat := 1 + (19 - 1)
theorem t112 (h : Hp) (S : Nat → aD → Option Value) : gZ (fun l al => G.bA iF cB oC (o9 env aRT a3B h) (pY env Try.f112.results.toList) (G.collect a2Z a3A []) l S al) (aRU h S) := by
 unfold aRU
 exact dZ (jX fun _ => oF (by kernel_rfl)) <| dZ (jX fun _ => jX fun _ => oF (by kernel_rfl)) <| dZ (jX fun _ => jX fun _ => oF (by kernel_rfl)) <| gZ.nil
theorem a3C : gB Try.prog 112 aWE := dD (C := C0) ok0 (pf := aRT) aLV (fn := Try.f112) (body := a2Z) (kinds := [Kd.i .u32]) (A := a3A) (T := aRU) (by kernel_rfl) (by kernel_rfl) (by kernel_rfl) (by kernel_rfl) (fun h S => t112 h S)
noncomputable def aRV : PF := FQ 112 aWE aRT
theorem aLY : eT Try.prog aRV := iP a3C aLV
noncomputable def aT0 := pE 112 aWE aTZ
noncomputable def C42 : dK := cfg aT0
theorem bE1 : C42.Ok := fU (C := C41) bE0 a3C
noncomputable def a3D : Code := (Try.f113.body).getD .skip
noncomputable def a3E : G.fC (List KI) := (Gm 0 [.reg 0 (.i .u64)] Gz (Gn (Gn Gz (Gn Gy Gz)) (Gm 3 [.reg 0 (.i .u64), .reg 2 (.i .i64)] (Gn Gz (Gn Gy Gz)) (Gm 2 [.reg 0 (.i .u64), .reg 2 (.i .i64)] (Gn Gz (Gn Gy Gz)) (Gm 1 [.reg 0 (.i .u64), .reg 2 (.i .i64)] Gz Gz)))))
noncomputable def aWF (h : Hp) (S : Nat → aD → Option Value) (r0 r2 : Int) : Option Value :=
 uK (vU .u8 r0) fun i0 =>
 bT (jW env 9 (Value.string (ByteArray.mk #[0, 1, 2, 2, 3, 3, 3, 3, 4, 4, 4, 4, 4, 4, 4, 4, 5, 5, 5, 5, 5, 5, 5, 5, 5, 5, 5, 5, 5, 5, 5, 5, 6, 6, 6, 6, 6, 6, 6, 6, 6, 6, 6, 6, 6, 6, 6, 6, 6, 6, 6, 6, 6, 6, 6, 6, 6, 6, 6, 6, 6, 6, 6, 6, 7, 7, 7, 7, 7, 7, 7, 7, 7, 7, 7, 7, 7, 7, 7, 7, 7, 7, 7, 7, 7, 7, 7, 7, 7, 7, 7, 7, 7, 7, 7, 7, 7, 7, 7, 7, 7, 7, 7, 7, 7, 7, 7, 7, 7, 7, 7, 7, 7, 7, 7, 7, 7, 7, 7, 7, 7, 7, 7, 7, 7, 7, 7, 7, 8, 8, 8, 8, 8, 8, 8, 8, 8, 8, 8, 8, 8, 8, 8, 8, 8, 8, 8, 8, 8, 8, 8, 8, 8, 8, 8, 8, 8, 8, 8, 8, 8, 8, 8, 8, 8, 8, 8, 8, 8, 8, 8, 8, 8, 8, 8, 8, 8, 8, 8, 8, 8, 8, 8, 8, 8, 8, 8, 8, 8, 8, 8, 8, 8, 8, 8, 8, 8, 8, 8, 8, 8, 8, 8, 8, 8, 8, 8, 8, 8, 8, 8, 8, 8, 8, 8, 8, 8, 8, 8, 8, 8, 8, 8, 8, 8, 8, 8, 8, 8, 8, 8, 8, 8, 8, 8, 8, 8, 8, 8, 8, 8, 8, 8, 8, 8, 8, 8, 8, 8, 8, 8, 8, 8, 8, 8, 8])) (Value.int .u8 i0)) fun v1 =>
 aU .u8 v1 fun i2 =>
 wrap64 i2 fun i3 =>
 wrap64 (Int.add r2 i3) fun i4 =>
 some (Value.int .i64 i4)
noncomputable def aWG (h : Hp) (S : Nat → aD → Option Value) (r0 r2 : Int) : Option Value :=
 bS (mH r0 (Int.ofNat 256)) fun b0 =>
 dA b0
 (VR .u64 r0 (Int.ofNat 8) (D8 (l8 env .shr 145 (Value.int .u64 r0) (Value.int .u64 (Int.ofNat 8))) (Value.int .u64 r0) (Value.int .u64 (Int.ofNat 8))) fun i1 =>
 wrap64 (Int.add r2 (Int.ofNat 8)) fun i2 =>
 S 1 (aD.i i1 (aD.i i2 aD.n)))
 (S 1 (aD.i r0 (aD.i r2 aD.n)))
noncomputable def aWH (h : Hp) (S : Nat → aD → Option Value) (r0 r2 : Int) : Option Value :=
 bS (mH r0 (Int.ofNat 65536)) fun b0 =>
 dA b0
 (VR .u64 r0 (Int.ofNat 16) (D8 (l8 env .shr 145 (Value.int .u64 r0) (Value.int .u64 (Int.ofNat 16))) (Value.int .u64 r0) (Value.int .u64 (Int.ofNat 16))) fun i1 =>
 wrap64 (Int.add r2 (Int.ofNat 16)) fun i2 =>
 S 2 (aD.i i1 (aD.i i2 aD.n)))
 (S 2 (aD.i r0 (aD.i r2 aD.n)))
noncomputable def aWI (h : Hp) (S : Nat → aD → Option Value) (r0 : Int) : Option Value :=
 bS (mH r0 (Int.ofNat 4294967296)) fun b0 =>
 dA b0
 (VR .u64 r0 (Int.ofNat 32) (D8 (l8 env .shr 145 (Value.int .u64 r0) (Value.int .u64 (Int.ofNat 32))) (Value.int .u64 r0) (Value.int .u64 (Int.ofNat 32))) fun i1 =>
 S 3 (aD.i i1 (aD.i (Int.ofNat 32) aD.n)))
 (S 3 (aD.i r0 (aD.i (Int.ofNat 0) aD.n)))
noncomputable def aRW (h : Hp) (S : Nat → aD → Option Value) : Nat → aD → Option Value := dR 0 (wI fun r0 => wN (aWI h S r0)) (dR 3 (wI fun r0 => wI fun r2 => wN (aWH h S r0 r2)) (dR 2 (wI fun r0 => wI fun r2 => wN (aWG h S r0 r2)) (dR 1 (wI fun r0 => wI fun r2 => wN (aWF h S r0 r2)) (kR))))
noncomputable def aRX (args : List Value) (h : Hp) : Option Value := plainO (dU [Kd.i .u64] args fun al => G.aI (aRW h) 1000000 0 al)
def a3F : Nat := 1 + (25 - 1)
theorem t113 (h : Hp) (S : Nat → aD → Option Value) : gZ (fun l al => G.bA iF cB oC (o9 env aRV a3F h) (pY env Try.f113.results.toList) (G.collect a3D a3E []) l S al) (aRW h S) := by
 unfold aRW
 exact dZ (jX fun _ => oF (by kernel_rfl)) <| dZ (jX fun _ => jX fun _ => oF (by kernel_rfl)) <| dZ (jX fun _ => jX fun _ => oF (by kernel_rfl)) <| dZ (jX fun _ => jX fun _ => oF (by kernel_rfl)) <| gZ.nil
theorem a3G : gB Try.prog 113 aRX := dD (C := C0) ok0 (pf := aRV) aLY (fn := Try.f113) (body := a3D) (kinds := [Kd.i .u64]) (A := a3E) (T := aRW) (by kernel_rfl) (by kernel_rfl) (by kernel_rfl) (by kernel_rfl) (fun h S => t113 h S)
noncomputable def aRY : PF := FQ 113 aRX aRV
theorem aLZ : eT Try.prog aRY := iP a3G aLY
noncomputable def aT1 := pE 113 aRX aT0
noncomputable def C43 : dK := cfg aT1
theorem bE2 : C43.Ok := fU (C := C42) bE1 a3G
noncomputable def B97 : Code := (Try.f97.body).getD .skip
noncomputable def A97 : G.fC (List KI) := (Gm 0 [.reg 0 (.i .u64)] Gz (Gn (Gn Gy Gz) Gy))
noncomputable def a3H (h : Hp) (S : Nat → aD → Option Value) (r0 : Int) : Option Value :=
 bT (aRX [(Value.int .u64 r0)] h) fun v0 =>
 aU .i64 v0 fun i1 =>
 some (Value.int .i64 i1)
noncomputable def T97 (h : Hp) (S : Nat → aD → Option Value) : Nat → aD → Option Value := dR 0 (wI fun r0 => wN (a3H h S r0)) (kR)
noncomputable def F97 (args : List Value) (h : Hp) : Option Value := plainO (dU [Kd.i .u64] args fun al => G.aI (T97 h) 1000000 0 al)
def bE3 : Nat := 1 + (8 - 1)
theorem t97 (h : Hp) (S : Nat → aD → Option Value) : gZ (fun l al => G.bA iF cB oC (o9 env aRY bE3 h) (pY env Try.f97.results.toList) (G.collect B97 A97 []) l S al) (T97 h S) := by
 unfold T97
 exact dZ (jX fun _ => oF (by kernel_rfl)) <| gZ.nil
theorem r97 : gB Try.prog 97 F97 := dD (C := C0) ok0 (pf := aRY) aLZ (fn := Try.f97) (body := B97) (kinds := [Kd.i .u64]) (A := A97) (T := T97) (by kernel_rfl) (by kernel_rfl) (by kernel_rfl) (by kernel_rfl) (fun h S => t97 h S)
noncomputable def aRZ : PF := FQ 97 F97 aRY
theorem aL0 : eT Try.prog aRZ := iP r97 aLZ
noncomputable def aT2 := pE 97 F97 aT1
noncomputable def C44 : dK := cfg aT2
theorem bE4 : C44.Ok := fU (C := C43) bE2 r97
noncomputable def B98 : Code := (Try.f98.body).getD .skip
noncomputable def A98 : G.fC (List KI) := (Gm 0 [.reg 0 (.i .i64), .reg 1 (.i .i64)] Gz Gy)
noncomputable def a3I (h : Hp) (S : Nat → aD → Option Value) (r0 r1 : Int) : Option Value :=
 VR .i64 r0 r1 (D8 (l8 env .shr 3 (Value.int .i64 r0) (Value.int .i64 r1)) (Value.int .i64 r0) (Value.int .i64 r1)) fun i0 =>
 aQK .i64 i0 (Int.ofNat 1) (Q6 (l8 env .and 3 (Value.int .i64 i0) (Value.int .i64 (Int.ofNat 1))) (Value.int .i64 i0) (Value.int .i64 (Int.ofNat 1))) fun i1 =>
 bZ (mY i1 (Int.ofNat 1)) fun b2 =>
 some (Value.bool b2)
noncomputable def T98 (h : Hp) (S : Nat → aD → Option Value) : Nat → aD → Option Value := dR 0 (wI fun r0 => wI fun r1 => wN (a3I h S r0 r1)) (kR)
noncomputable def F98 (args : List Value) (h : Hp) : Option Value := plainO (dU [Kd.i .i64, Kd.i .i64] args fun al => G.aI (T98 h) 1000000 0 al)
def bE5 : Nat := 2 + (10 - 2)
theorem t98 (h : Hp) (S : Nat → aD → Option Value) : gZ (fun l al => G.bA iF cB oC (o9 env aRZ bE5 h) (pY env Try.f98.results.toList) (G.collect B98 A98 []) l S al) (T98 h S) := by
 unfold T98
 exact dZ (jX fun _ => jX fun _ => oF (by kernel_rfl)) <| gZ.nil
theorem r98 : gB Try.prog 98 F98 := dD (C := C0) ok0 (pf := aRZ) aL0 (fn := Try.f98) (body := B98) (kinds := [Kd.i .i64, Kd.i .i64]) (A := A98) (T := T98) (by kernel_rfl) (by kernel_rfl) (by kernel_rfl) (by kernel_rfl) (fun h S => t98 h S)
noncomputable def aR0 : PF := FQ 98 F98 aRZ
theorem aL1 : eT Try.prog aR0 := iP r98 aL0
noncomputable def aL2 := pE 98 F98 aT2
noncomputable def C45 : dK := cfg aL2
theorem bE6 : C45.Ok := fU (C := C44) bE4 r98
noncomputable def B69 : Code := (Try.f69.body).getD .skip
def A69 : fC := (Am 0 [(0, .i .i64)] Ao (An Ao (An (An Ao (An (Am 1 [(0, .i .i64), (3, .v), (7, .i .i64), (8, .i .i64)] (An Ao (An Az (An (An (An Ao (An Ao Az)) Ao) Ao))) Ao) Ao)) (Am 2 [(3, .v)] Ao Ao))))
noncomputable def a3J (S : Sg) (r3 : Value) (h : Hp) : aJ :=
 some (r3, h)
noncomputable def aEM (S : Sg) (r0 : Int) (r3 : Value) (r7 r8 : Int) (h : Hp) : aJ :=
 bZ (mH r8 r7) fun b0 =>
 dA b0
 (aQ (bT (F98 [(Value.int .i64 r0), (Value.int .i64 r8)] h) fun v => some (v, h)) fun v1 h1 =>
 dS v1 fun b2 =>
 dA b2
 (aQ (bF env h1 22 1 (List.toArray [(0, (Value.int .i64 r8))])) fun v3 h3 =>
 aQ (dW env h3 #[22, 22] (List.toArray [r3, v3])) fun v4 h4 =>
 wrap64 (Int.add r8 (Int.ofNat 1)) fun i5 =>
 S 1 (AL.i r0 (AL.v v4 (AL.i r7 (AL.i i5 AL.n)))) h4)
 (wrap64 (Int.add r8 (Int.ofNat 1)) fun i6 =>
 S 1 (AL.i r0 (AL.v r3 (AL.i r7 (AL.i i6 AL.n)))) h1))
 (S 2 (AL.v r3 AL.n) h)
noncomputable def aL3 (S : Sg) (r0 : Int) (h : Hp) : aJ :=
 uK (vU .u64 r0) fun i0 =>
 aQ (bT (F97 [(Value.int .u64 i0)] h) fun v => some (v, h)) fun v1 h1 =>
 aU .i64 v1 fun i2 =>
 S 1 (AL.i r0 (AL.v (Value.slice none 0 0) (AL.i i2 (AL.i (Int.ofNat 0) AL.n)))) h1
noncomputable def T69 (S : Sg) : Sg := cZ 0 (uI fun r0 => uN (aL3 S r0)) (cZ 1 (uI fun r0 => uV fun r3 => uI fun r7 => uI fun r8 => uN (aEM S r0 r3 r7 r8)) (cZ 2 (uV fun r3 => uN (a3J S r3)) (jT)))
noncomputable def F69 (args : List Value) (h : Hp) : aJ := bG [Kd.i .i64] args fun al => aI T69 1000000 0 al h
def bE7 : Nat := 1 + (20 - 1)
theorem t69 (S : Sg) : jB (fun l vs h => bA (kF env aL2 bE7) (kG env Try.f69.results.toList) (collect B69 A69 []) l S vs h) (T69 S) := by
 unfold T69
 exact dV (kL fun _ => jU fun _ => by kernel_rfl) <| dV (kL fun _ => dY fun _ => kL fun _ => kL fun _ => jU fun _ => by kernel_rfl) <| dV (dY fun _ => jU fun _ => by kernel_rfl) <| Go.bK.jB.nil
theorem r69 : ∀ args h v h', F69 args h = some (v, h') → fB (C45) (.call 69 args.toArray h) (.ret v h') := by
 intro args h v h' e
 exact bI (C := C45) (fn := Try.f69) (body := B69) (np := 1) (A := A69) (T := T69) (kinds := [Kd.i .i64]) (by kernel_rfl) (by kernel_rfl) (by kernel_rfl) (by kernel_rfl) (dI dM) (by kernel_rfl) (fun S => t69 S) e
noncomputable def aL4 := jR 69 F69 aL2
noncomputable def C46 : dK := cfg aL4
theorem bE8 : C46.Ok := dG (C := C45) bE6 r69
noncomputable def B68 : Code := (Try.f68.body).getD .skip
def A68 : fC := (Am 0 [(0, .v), (1, .i .i64)] Ao (An Ao Az))
noncomputable def aL5 (S : Sg) (r0 : Value) (r1 : Int) (h : Hp) : aJ :=
 bO h 71 (Array.toList (Value.cells r0)) fun a0 h0 =>
 aQ (dJ F69 [(Value.int .i64 r1)] h0) fun v1 h1 =>
 bO h1 22 [(Value.slice none 0 0)] fun a2 h2 =>
 kE h2 a2 v1 fun h3 =>
 some ((Value.func (.func 94) (List.toArray []) (List.toArray [a2, a0])), h3)
noncomputable def T68 (S : Sg) : Sg := cZ 0 (uV fun r0 => uI fun r1 => uN (aL5 S r0 r1)) (jT)
noncomputable def F68 (args : List Value) (h : Hp) : aJ := bG [Kd.v, Kd.i .i64] args fun al => aI T68 1000000 0 al h
def bE9 : Nat := 2 + (9 - 2)
theorem t68 (S : Sg) : jB (fun l vs h => bA (kF env aL4 bE9) (kG env Try.f68.results.toList) (collect B68 A68 []) l S vs h) (T68 S) := by
 unfold T68
 exact dV (dY fun _ => kL fun _ => jU fun _ => by kernel_rfl) <| Go.bK.jB.nil
theorem r68 : ∀ args h v h', F68 args h = some (v, h') → fB (C46) (.call 68 args.toArray h) (.ret v h') := by
 intro args h v h' e
 exact bI (C := C46) (fn := Try.f68) (body := B68) (np := 2) (A := A68) (T := T68) (kinds := [Kd.v, Kd.i .i64]) (by kernel_rfl) (by kernel_rfl) (by kernel_rfl) (by kernel_rfl) (dI dM) (by kernel_rfl) (fun S => t68 S) e
noncomputable def aL6 := jR 68 F68 aL4
noncomputable def C47 : dK := cfg aL6
theorem a3N : C47.Ok := dG (C := C46) bE8 r68
noncomputable def BZ := hide [95, 94] aL6
noncomputable def EB : dK := a0B C47 [95, 94]
theorem bFB : EB.Ok := aRH a3N _
noncomputable def aCQ : FY := fyN
theorem WL : zU EB aCQ := aVS _
noncomputable def B95 : Code := (Try.f95.body).getD .skip
def A95 : fC := (Am 0 [(0, .i .i64), (1, .v), (2, .v), (3, .v), (4, .v), (5, .v)] Ao (An (An (An Ao (An Az Ao)) (An Ao (An (An Ao (An (Am 1 [(0, .i .i64), (1, .v), (3, .v), (5, .v), (22, .i .i64), (23, .i .i64)] (An Ao (An Az (An (An (An Ao (An (An Ao (An (Am 2 [(0, .i .i64), (1, .v), (3, .v), (5, .v), (8, .i .i64), (22, .i .i64), (23, .i .i64), (28, .v), (29, .i .i64), (30, .i .i64)] (An Ao (An Az (An (An (An Ao (An Ao Az)) Ao) Ao))) Ao) Ao)) (Am 3 [(0, .i .i64), (1, .v), (3, .v), (5, .v), (8, .i .i64), (22, .i .i64), (23, .i .i64)] Ao (An Ao (An Az Ao))))) Ao) (Am 4 [(0, .i .i64), (1, .v), (3, .v), (5, .v), (22, .i .i64), (23, .i .i64)] Ao Ao)))) Ao) Ao)) (Am 5 [] Ao Ao)))) Ao))
def aWJ : Nat := 6 + (54 - 6)
noncomputable def a3O (R : YF → List Value → Hp → aJ) (yf : YF) : RG := rgN
theorem g95 (R : YF → List Value → Hp → aJ) (hR : ROk EB 95 R) (yf : YF) (hY : J3 EB yf) : BV EB aWJ (a3O R yf) (qA B95 A95) := by
 rw [show qA B95 A95 = [] from by kernel_rfl]
 intro x hx
 exact absurd hx (by simp)
noncomputable def aL7 (R : YF → List Value → Hp → aJ) (yf : YF) (S : rY) (z : Z) (h : Hp) : aJ :=
 bT (xP (Z.ds (Z.lose z)) h) fun h0 =>
 some ((Value.bool true), h0)
noncomputable def aL8 (R : YF → List Value → Hp → aJ) (yf : YF) (S : rY) (r0 : Int) (r1 r3 r5 : Value) (TT WM : Int) (z : Z) (h : Hp) : aJ :=
 wrap64 (Int.add WM (Int.ofNat 1)) fun i0 =>
 S 1 (AL.i r0 (AL.v r1 (AL.v r3 (AL.v r5 (AL.i TT (AL.i i0 AL.n)))))) (Z.lose z) h
noncomputable def aL9 (R : YF → List Value → Hp → aJ) (yf : YF) (S : rY) (r0 : Int) (r1 r3 r5 : Value) (r8 TT WM : Int) (z : Z) (h : Hp) : aJ :=
 aM (Hp.mk (Hp.next h) (Hp.next h) (Hp.aF h)) r3 fun v0 =>
 aM (Hp.mk (Hp.next h) (Hp.next h) (Hp.aF h)) r1 fun v1 =>
 eB 1 v1 r0 fun v2 =>
 aM (Hp.mk (Hp.next h) (Hp.next h) (Hp.aF h)) v2 fun v3 =>
 aU .i64 v3 fun i4 =>
 bT (jK env 76 (List.toArray [(0, (Value.int .i64 r8)), (1, (Value.int .i64 i4))])) fun v5 =>
 jA v5 (Hp.next h) (Hp.mk (Hp.next h) (Hp.next h) T.nil) fun w6 n6 =>
 eB 2 v0 r0 fun v7 =>
 fA 2 (Hp.mk n6 (Hp.ro h) (aV w6 (Hp.aF h))) v7 v5 fun h8 =>
 aM h8 r5 fun v9 =>
 wrap64 (Int.add r0 (Int.ofNat 1)) fun i10 =>
 aQ (EO BZ (fyC 95 R aCQ) yf v9 [(Value.int .i64 i10)] h8) fun v11 h11 =>
 dS v11 fun b12 =>
 bS b12 fun b13 =>
 dA b13
 (bT (xP (Z.ds (Z.lose z)) h11) fun h14 =>
 some ((Value.bool false), h14))
 (S 4 (AL.i r0 (AL.v r1 (AL.v r3 (AL.v r5 (AL.i TT (AL.i WM AL.n)))))) (Z.lose z) h11)
noncomputable def aEN (R : YF → List Value → Hp → aJ) (yf : YF) (S : rY) (r0 : Int) (r1 r3 r5 : Value) (r8 TT WM : Int) (r28 : Value) (r29 r30 : Int) (z : Z) (h : Hp) : aJ :=
 bZ (mH r30 r29) fun b0 =>
 dA b0
 (eB 2 r28 r30 fun v1 =>
 bC 2 h v1 fun v2 =>
 bO h 76 [(Value.int .i64 (Int.ofNat 0)), (Value.int .i64 (Int.ofNat 0))] fun a3 h3 =>
 fA 2 h3 a3 v2 fun h4 =>
 aT 0 a3 fun v5 =>
 aM h4 v5 fun v6 =>
 aU .i64 v6 fun i7 =>
 bZ (mY i7 r8) fun b8 =>
 dA b8
 (S 4 (AL.i r0 (AL.v r1 (AL.v r3 (AL.v r5 (AL.i TT (AL.i WM AL.n)))))) (Z.lose z) h4)
 (wrap64 (Int.add r30 (Int.ofNat 1)) fun i9 =>
 S 2 (AL.i r0 (AL.v r1 (AL.v r3 (AL.v r5 (AL.i r8 (AL.i TT (AL.i WM (AL.v r28 (AL.i r29 (AL.i i9 AL.n)))))))))) (Z.lose z) h4))
 (S 3 (AL.i r0 (AL.v r1 (AL.v r3 (AL.v r5 (AL.i r8 (AL.i TT (AL.i WM AL.n))))))) (Z.lose z) h)
noncomputable def aEO (R : YF → List Value → Hp → aJ) (yf : YF) (S : rY) (r0 : Int) (r1 r3 r5 : Value) (TT WM : Int) (z : Z) (h : Hp) : aJ :=
 bZ (mH WM TT) fun b0 =>
 dA b0
 (aM h r3 fun v1 =>
 bT (fM env h 79 v1 none (some (Value.int .i64 r0)) none) fun v2 =>
 dB v2 fun i3 =>
 S 2 (AL.i r0 (AL.v r1 (AL.v r3 (AL.v r5 (AL.i WM (AL.i TT (AL.i WM (AL.v v2 (AL.i i3 (AL.i (Int.ofNat 0) AL.n)))))))))) (Z.lose z) h)
 (S 5 AL.n (Z.lose z) h)
noncomputable def ZL (R : YF → List Value → Hp → aJ) (yf : YF) (S : rY) (r0 : Int) (r1 r2 : Value) (r3 r4 r5 : Value) (z : Z) (h : Hp) : aJ :=
 aM h r1 fun v0 =>
 dB v0 fun i1 =>
 bZ (mY r0 i1) fun b2 =>
 dA b2
 (aM (Hp.mk (Hp.next h) (Hp.next h) (Hp.aF h)) r2 fun v3 =>
 aM (Hp.mk (Hp.next h) (Hp.next h) (Hp.aF h)) r3 fun v4 =>
 aQ (dJ F96 [v4] (Hp.mk (Hp.next h) (Hp.next h) (Hp.aF h))) fun v5 h5 =>
 jA v5 (Hp.next h) h5 fun w6 n6 =>
 aQ (EO BZ (fyC 95 R aCQ) yf v3 [v5] (Hp.mk n6 (Hp.ro h) (aV w6 (Hp.aF h)))) fun v7 h7 =>
 dS v7 fun b8 =>
 bT (xP (Z.ds (Z.lose z)) h7) fun h9 =>
 some ((Value.bool b8), h9))
 (aT 0 r4 fun v10 =>
 aT 2 v10 fun v11 =>
 aM h v11 fun v12 =>
 dB v12 fun i13 =>
 S 1 (AL.i r0 (AL.v r1 (AL.v r3 (AL.v r5 (AL.i i13 (AL.i (Int.ofNat 0) AL.n)))))) (Z.lose z) h)
noncomputable def M3 (R : YF → List Value → Hp → aJ) (yf : YF) (S : rY) : rY := Y.cZ 0 (Y.uI fun r0 => Y.uV fun r1 => Y.uV fun r2 => Y.uV fun r3 => Y.uV fun r4 => Y.uV fun r5 => Y.uN (ZL R yf S r0 r1 r2 r3 r4 r5)) (Y.cZ 1 (Y.uI fun r0 => Y.uV fun r1 => Y.uV fun r3 => Y.uV fun r5 => Y.uI fun TT => Y.uI fun WM => Y.uN (aEO R yf S r0 r1 r3 r5 TT WM)) (Y.cZ 2 (Y.uI fun r0 => Y.uV fun r1 => Y.uV fun r3 => Y.uV fun r5 => Y.uI fun r8 => Y.uI fun TT => Y.uI fun WM => Y.uV fun r28 => Y.uI fun r29 => Y.uI fun r30 => Y.uN (aEN R yf S r0 r1 r3 r5 r8 TT WM r28 r29 r30)) (Y.cZ 3 (Y.uI fun r0 => Y.uV fun r1 => Y.uV fun r3 => Y.uV fun r5 => Y.uI fun r8 => Y.uI fun TT => Y.uI fun WM => Y.uN (aL9 R yf S r0 r1 r3 r5 r8 TT WM)) (Y.cZ 4 (Y.uI fun r0 => Y.uV fun r1 => Y.uV fun r3 => Y.uV fun r5 => Y.uI fun TT => Y.uI fun WM => Y.uN (aL8 R yf S r0 r1 r3 r5 TT WM)) (Y.cZ 5 (Y.uN (aL7 R yf S)) (Y.jT))))))
theorem t95 (R : YF → List Value → Hp → aJ) (yf : YF) (S : rY) : Y.jB (fun l vs z h => Y.bA (a3O R yf) (fyC 95 R aCQ) yf none aWJ 0 (aEB env BZ (fyC 95 R aCQ) aWJ yf) (PD env Try.f95.results.toList) (PD env Try.f95.results.toList) Y4 (Y.collect B95 A95 []) l S vs z h) (M3 R yf S) := by
 unfold M3
 exact BX (Y7 fun _ => EA fun _ => EA fun _ => EA fun _ => EA fun _ => EA fun _ => ywN fun _ _ => by kernel_rfl) <| BX (Y7 fun _ => EA fun _ => EA fun _ => EA fun _ => Y7 fun _ => Y7 fun _ => ywN fun _ _ => by kernel_rfl) <| BX (Y7 fun _ => EA fun _ => EA fun _ => EA fun _ => Y7 fun _ => Y7 fun _ => Y7 fun _ => EA fun _ => Y7 fun _ => Y7 fun _ => ywN fun _ _ => by kernel_rfl) <| BX (Y7 fun _ => EA fun _ => EA fun _ => EA fun _ => Y7 fun _ => Y7 fun _ => Y7 fun _ => ywN fun _ _ => by kernel_rfl) <| BX (Y7 fun _ => EA fun _ => EA fun _ => EA fun _ => Y7 fun _ => Y7 fun _ => ywN fun _ _ => by kernel_rfl) <| BX (ywN fun _ _ => by kernel_rfl) <| Y.jB.nil
noncomputable def J5 (R : YF → List Value → Hp → aJ) (yf : YF) (args : List Value) (h : Hp) : aJ := bG [Kd.i .i64, Kd.v, Kd.v, Kd.v, Kd.v, Kd.v] args fun al => kW (M3 R yf) 1000000 0 al ⟨some (jG args 0 bK.T.nil), []⟩ h
theorem bFC (R : YF → List Value → Hp → aJ) (hR : ROk EB 95 R) (yf : YF) (hY : J3 EB yf) : ∀ args h v h', J5 R yf args h = some (v, h') → fB EB (.call 95 args.toArray h) (.ret v h') := by
 intro args h v h' e
 exact FU (C := EB) (fn := Try.f95) (body := B95) (np := 6) (A := A95) (T := M3 R yf) (kinds := [Kd.i .i64, Kd.v, Kd.v, Kd.v, Kd.v, Kd.v]) (O9 (C := EB) dM (WG (fun a h => by kernel_rfl) (by kernel_rfl) hR WL) hY) hY (WG (fun a h => by kernel_rfl) (by kernel_rfl) hR WL) (by kernel_rfl) (by kernel_rfl) (by kernel_rfl) (by kernel_rfl) (g95 R hR yf hY) (by kernel_rfl) (fun S => t95 R yf S) e
noncomputable def a3Q : YF → List Value → Hp → aJ := IJ J5 64
theorem bFD (yf : YF) (hY : J3 EB yf) : ∀ args h v h', a3Q yf args h = some (v, h') → fB EB (.call 95 args.toArray h) (.ret v h') := aEC (G := J5) (fun R hR yf hY => bFC R hR yf hY) 64 yf hY
noncomputable def J6 : FY := fyC 95 a3Q aCQ
theorem J7 : zU EB J6 := WG (fun a h => by kernel_rfl) (by kernel_rfl) (fun yf hY => bFD yf hY) WL
noncomputable def B94 : Code := (Try.f94.body).getD .skip
def A94 : fC := (Am 0 [(0, .v), (1, .v), (2, .v)] Ao (An Ao (An Ao Az)))
def aWK : Nat := 3 + (12 - 3)
noncomputable def a3R (yf : YF) : RG := rgN
theorem g94 (yf : YF) (hY : J3 EB yf) : BV EB aWK (a3R yf) (qA B94 A94) := by
 rw [show qA B94 A94 = [] from by kernel_rfl]
 intro x hx
 exact absurd hx (by simp)
noncomputable def aMA (yf : YF) (S : rY) (r0 r1 r2 : Value) (z : Z) (h : Hp) : aJ :=
 bO h 90 (Array.toList (Value.cells r0)) fun a0 h0 =>
 aM h0 r1 fun v1 =>
 dB v1 fun i2 =>
 aQ (oP env h0 79 (Value.int .i64 i2) (Value.int .i64 i2)) fun v3 h3 =>
 bO h3 79 [(Value.slice none 0 0)] fun a4 h4 =>
 kE h4 a4 v3 fun h5 =>
 bO h5 105 [Value.nilFunc] fun a6 h6 =>
 kE h6 a6 (Value.func (.func 95) (List.toArray []) (List.toArray [r1, a0, a4, r2, a6])) fun h7 =>
 aM h7 a6 fun v8 =>
 aQ (EO BZ J6 yf v8 [(Value.int .i64 (Int.ofNat 0))] h7) fun v9 h9 =>
 dS v9 fun b10 =>
 bT (xP (Z.ds (Z.lose z)) h9) fun h11 =>
 some (Value.tuple (List.toArray []), h11)
noncomputable def T94 (yf : YF) (S : rY) : rY := Y.cZ 0 (Y.uV fun r0 => Y.uV fun r1 => Y.uV fun r2 => Y.uN (aMA yf S r0 r1 r2)) (Y.jT)
theorem t94 (yf : YF) (S : rY) : Y.jB (fun l vs z h => Y.bA (a3R yf) J6 yf none aWK 0 (aEB env BZ J6 aWK yf) (PD env Try.f94.results.toList) (PD env Try.f94.results.toList) Y4 (Y.collect B94 A94 []) l S vs z h) (T94 yf S) := by
 unfold T94
 exact BX (EA fun _ => EA fun _ => EA fun _ => ywN fun _ _ => by kernel_rfl) <| Y.jB.nil
noncomputable def aGW (yf : YF) (args : List Value) (h : Hp) : aJ := bG [Kd.v, Kd.v, Kd.v] args fun al => kW (T94 yf) 1000000 0 al ⟨some (jG args 0 bK.T.nil), []⟩ h
theorem bFE (yf : YF) (hY : J3 EB yf) : ∀ args h v h', aGW yf args h = some (v, h') → fB EB (.call 94 args.toArray h) (.ret v h') := by
 intro args h v h' e
 exact FU (C := EB) (fn := Try.f94) (body := B94) (np := 3) (A := A94) (T := T94 yf) (kinds := [Kd.v, Kd.v, Kd.v]) (O9 (C := EB) dM J7 hY) hY J7 (by kernel_rfl) (by kernel_rfl) (by kernel_rfl) (by kernel_rfl) (g94 yf hY) (by kernel_rfl) (fun S => t94 yf S) e
noncomputable def uZ : FY := fyC 94 aGW J6
theorem DU : zU EB uZ := WG (fun a h => by kernel_rfl) (by kernel_rfl) (fun yf hY => bFE yf hY) J7
noncomputable def aMB : Code := (Try.f101.body).getD .skip
def aMC : fC := (Am 0 [(0, .v), (1, .v)] Ao (An Ao (An Ao (An (An Ao (An (An (Am 1 [(3, .v), (6, .v), (7, .v)] Ao Ao) Ao) Ao)) (Am 2 [(6, .v), (7, .v)] Ao Ao)))))
def IM : Nat := 2 + (23 - 2)
noncomputable def lJ : Q0 := (qA aMB aMC).getD 0 ⟨0, [], #[], .skip, .skip⟩
noncomputable def M4 : fC := (Am 0 [(10, .v), (3, .v), (6, .v), (7, .v)] Ao Ao)
noncomputable def IP : fC := (Am 1 [(3, .v), (6, .v), (7, .v), (8, .v)] (An Ao Az) Ao)
noncomputable def aEP (yf : YF) : RG := rgN
theorem aWM (yf : YF) (hY : J3 EB yf) : BV EB IM (aEP yf) (qA (Q0.a lJ) M4 ++ qA (Q0.b lJ) IP) := by
 rw [show qA (Q0.a lJ) M4 ++ qA (Q0.b lJ) IP = [] from by kernel_rfl]
 intro x hx
 exact absurd hx (by simp)
noncomputable def PN (yf : YF) (l0 : Nat) (S : rY) (r3 r6 : Value) (r7 r8 : Value) (z : Z) (h : Hp) : aJ :=
 aM h r7 fun v0 =>
 dS v0 fun b1 =>
 bS b1 fun b2 =>
 dA b2
 (kE h r6 r8 fun h3 =>
 kE h3 r7 (Value.bool true) fun h4 =>
 some (Value.bool true, h4))
 (aM h r3 fun v5 =>
 aM h r6 fun v6 =>
 aQ (EO BZ uZ yf v5 [r8, v6] h) fun v7 h7 =>
 aU .i64 v7 fun i8 =>
 bZ (mH i8 (Int.ofNat 0)) fun b9 =>
 dA b9
 (kE h7 r6 r8 fun h10 =>
 kE h10 r7 (Value.bool true) fun h11 =>
 some (Value.bool true, h11))
 (some (Value.bool true, h7)))
noncomputable def aMD (yf : YF) (l0 : Nat) (S : rY) (oG r3 : Value) (r6 r7 : Value) (z : Z) (h : Hp) : aJ :=
 EN l0 h fun h0 =>
 S 1 (AL.v r3 (AL.v r6 (AL.v r7 (AL.v oG AL.n)))) (Z.lose z) h0
noncomputable def u6 (yf : YF) (l0 : Nat) (S : rY) : rY := Y.cZ 0 (Y.uV fun oG => Y.uV fun r3 => Y.uV fun r6 => Y.uV fun r7 => Y.uN (aMD yf l0 S oG r3 r6 r7)) (Y.cZ 1 (Y.uV fun r3 => Y.uV fun r6 => Y.uV fun r7 => Y.uV fun r8 => Y.uN (PN yf l0 S r3 r6 r7 r8)) (Y.jT))
theorem aWN (yf : YF) (l0 : Nat) (S : rY) : Y.jB (fun l vs z h => Y.bA (aEP yf) uZ yf (some l0) IM l0 (aEB env BZ uZ IM yf) Y.aVP Y.aVQ Y.aVR (Y.collect (Q0.a lJ) M4 [Y.Frame.gate (Q0.b lJ) IP] ++ Y.collect (Q0.b lJ) IP []) l S vs z h) (u6 yf l0 S) := by
 unfold u6
 exact BX (EA fun _ => EA fun _ => EA fun _ => EA fun _ => ywN fun _ _ => by kernel_rfl) <| BX (EA fun _ => EA fun _ => EA fun _ => EA fun _ => ywN fun _ _ => by kernel_rfl) <| Y.jB.nil
noncomputable def aEQ (yf : YF) (l : Nat) (al : AL) (z : Z) (args : List Value) (h : Hp) : aJ := FV [(10, Kd.v)] args al ⟨z.tm, []⟩ fun al z => kW (u6 yf l) 1000000 0 al z h
theorem aR1 (yf : YF) (hY : J3 EB yf) (ρ : RG) (hρ : ∀ l al z args h, ρ (Q0.j lJ) l al z args h = aEQ yf l al z args h) : TN EB IM ρ (Q0.j lJ) (Q0.keep lJ) (Q0.ps lJ) (Q0.a lJ) (Q0.b lJ) :=
 Y5 (C := EB) (kinds := [Kd.v]) (Aa := M4) (Ab := IP) (T := u6 yf) (fun _ => O9 (C := EB) dM DU hY) hY DU (by kernel_rfl) (of_decide_eq_true (by kernel_rfl)) (by kernel_rfl) (aWM yf hY) (by kernel_rfl) (fun gl S => aWN yf gl S) hρ
noncomputable def ZM (yf : YF) : RG := rgC 1 (aEQ yf) (rgN)
theorem bFF (yf : YF) (hY : J3 EB yf) : BV EB IM (ZM yf) (qA aMB aMC) := by
 rw [show qA aMB aMC = [lJ] from by kernel_rfl]
 intro x hx
 rcases List.mem_cons.1 hx with rfl | hx
 ·exact aR1 yf hY _ (fun l al z args h => by kernel_rfl)
 exact absurd hx (by simp)
noncomputable def aCR (yf : YF) (S : rY) (r6 r7 : Value) (z : Z) (h : Hp) : aJ :=
 aM h r6 fun v0 =>
 aM h r7 fun v1 =>
 dS v1 fun b2 =>
 bT (xP (Z.ds (Z.lose z)) h) fun h3 =>
 some (Value.tuple (List.toArray [v0, (Value.bool b2)]), h3)
noncomputable def aCS (yf : YF) (S : rY) (r0 r1 : Value) (z : Z) (h : Hp) : aJ :=
 bO h 133 (Array.toList (Value.cells r1)) fun a0 h0 =>
 bO h0 79 [(Value.slice none 0 0)] fun a1 h1 =>
 bO h1 4 [(Value.bool false)] fun a2 h2 =>
 kE h2 a2 (Value.bool false) fun h3 =>
 bT (Z.tm (Z.put (Z.put (Z.put (Z.put (Z.put (Z.put z 3 a0) 4 (Value.slice none 0 0)) 5 (Value.bool false)) 6 a1) 7 a2) 9 r0)) fun tm4 =>
 aJP uZ yf none (fun d => LX.mk tm4 IM (Q0.ps lJ) (Q0.a lJ) (Q0.b lJ) d) r0 h3 (fun l args h => ZM yf 1 l (AL.v a0 (AL.v a1 (AL.v a2 AL.n))) (Z.put (Z.put (Z.put (Z.put (Z.put (Z.put z 3 a0) 4 (Value.slice none 0 0)) 5 (Value.bool false)) 6 a1) 7 a2) 9 r0) args h) fun e4 mk4 h4 =>
 exK e4
 (S 2 (AL.v a1 (AL.v a2 AL.n)) (Z.mark (Z.put (Z.put (Z.put (Z.put (Z.put (Z.put z 3 a0) 4 (Value.slice none 0 0)) 5 (Value.bool false)) 6 a1) 7 a2) 9 r0) mk4) h4)
 (bT (xP (Z.ds (Z.mark (Z.put (Z.put (Z.put (Z.put (Z.put (Z.put z 3 a0) 4 (Value.slice none 0 0)) 5 (Value.bool false)) 6 a1) 7 a2) 9 r0) mk4)) h4) fun h5 =>
 some (Value.tuple (List.toArray [(Value.slice none 0 0), (Value.bool false)]), h5))
 fun i4 => none
noncomputable def WN (yf : YF) (S : rY) : rY := Y.cZ 0 (Y.uV fun r0 => Y.uV fun r1 => Y.uN (aCS yf S r0 r1)) (Y.cZ 2 (Y.uV fun r6 => Y.uV fun r7 => Y.uN (aCR yf S r6 r7)) (Y.jT))
theorem t101 (yf : YF) (S : rY) : Y.jB (fun l vs z h => Y.bA (ZM yf) uZ yf none IM 0 (aRE env BZ uZ IM yf) (PD env Try.f101.results.toList) (PD env Try.f101.results.toList) Y4 (Y.collect aMB aMC []) l S vs z h) (WN yf S) := by
 unfold WN
 exact BX (EA fun _ => EA fun _ => ywN fun _ _ => by kernel_rfl) <| BX (EA fun _ => EA fun _ => ywN fun _ _ => by kernel_rfl) <| Y.jB.nil
noncomputable def aME (yf : YF) (args : List Value) (h : Hp) : aJ := bG [Kd.v, Kd.v] args fun al => kW (WN yf) 1000000 0 al ⟨some (jG args 0 bK.T.nil), []⟩ h
theorem a3S (yf : YF) (hY : J3 EB yf) : ∀ args h v h', aME yf args h = some (v, h') → fB EB (.call 101 args.toArray h) (.ret v h') := by
 intro args h v h' e
 exact FU (C := EB) (fn := Try.f101) (body := aMB) (np := 2) (A := aMC) (T := WN yf) (kinds := [Kd.v, Kd.v]) (aEA (C := EB) dM DU hY) hY DU (by kernel_rfl) (by kernel_rfl) (by kernel_rfl) (by kernel_rfl) (bFF yf hY) (by kernel_rfl) (fun S => t101 yf S) e
noncomputable def aCT (args : List Value) (h : Hp) : aJ := aME yN args h
theorem bFG : ∀ args h v h', aCT args h = some (v, h') → fB EB (.call 101 args.toArray h) (.ret v h') := a3S yN (aZ9 _)
noncomputable def aMF := jR 101 aCT aL6
noncomputable def C48 : dK := cfg aMF
theorem bFH : C48.Ok := aJ0 (C := C47) a3N bFB rfl bFG
noncomputable def B76 : Code := (Try.f76.body).getD .skip
def A76 : fC := (Am 0 [(0, .v), (1, .i .i64)] Ao (An Ao (An (An Ao (An Az Ao)) Az)))
noncomputable def aMG (S : Sg) (r0 : Value) (r1 : Int) (h : Hp) : aJ :=
 bO h 71 (Array.toList (Value.cells r0)) fun a0 h0 =>
 bC 5 (Hp.mk (Hp.next h0) (Hp.next h0) (Hp.aF h0)) a0 fun v1 =>
 aQ (dJ F68 [v1, (Value.int .i64 r1)] (Hp.mk (Hp.next h0) (Hp.next h0) (Hp.aF h0))) fun v2 h2 =>
 jA v2 (Hp.next h0) h2 fun w3 n3 =>
 bC 5 (Hp.mk n3 n3 (Hp.aF h0)) a0 fun v4 =>
 jA (Value.func (.func 102) (List.toArray [v4]) (List.toArray [])) n3 (Hp.mk n3 n3 T.nil) fun w5 n5 =>
 bC 5 (Hp.mk n5 n5 (Hp.aF h0)) a0 fun v6 =>
 jA (Value.func (.func 54) (List.toArray [v6]) (List.toArray [])) n5 (Hp.mk n5 n5 T.nil) fun w7 n7 =>
 bT (jK env 135 (List.toArray [(0, (Value.func (.func 102) (List.toArray [v4]) (List.toArray []))), (1, (Value.func (.func 54) (List.toArray [v6]) (List.toArray [])))])) fun v8 =>
 jA v8 n7 (Hp.mk n7 n7 T.nil) fun w9 n9 =>
 jA (Value.func (.func 103) (List.toArray [v8]) (List.toArray [])) n9 (Hp.mk n9 n9 T.nil) fun w10 n10 =>
 aQ (dJ aCT [v2, (Value.func (.func 103) (List.toArray [v8]) (List.toArray []))] (Hp.mk n10 n10 (aV w10 (aV w9 (aV w7 (aV w5 (aV w3 (Hp.aF h0)))))))) fun v11 h11 =>
 jA v11 n10 h11 fun w12 n12 =>
 gY v11 0 fun v13 =>
 gY v11 1 fun v14 =>
 dS v14 fun b15 =>
 bS b15 fun b16 =>
 dA b16
 (some (Value.tuple (List.toArray [(Value.slice none 0 0), (Value.int .i64 (Int.ofNat 9))]), (Hp.mk n12 (Hp.ro h0) (aV w12 (aV w10 (aV w9 (aV w7 (aV w5 (aV w3 (Hp.aF h0))))))))))
 (some (Value.tuple (List.toArray [v13, (Value.int .i64 (Int.ofNat 0))]), (Hp.mk n12 (Hp.ro h0) (aV w12 (aV w10 (aV w9 (aV w7 (aV w5 (aV w3 (Hp.aF h0))))))))))
noncomputable def T76 (S : Sg) : Sg := cZ 0 (uV fun r0 => uI fun r1 => uN (aMG S r0 r1)) (jT)
noncomputable def F76 (args : List Value) (h : Hp) : aJ := bG [Kd.v, Kd.i .i64] args fun al => aI T76 1000000 0 al h
def bFI : Nat := 2 + (24 - 2)
theorem t76 (S : Sg) : jB (fun l vs h => bA (aJL env aMF bFI) (kG env Try.f76.results.toList) (collect B76 A76 []) l S vs h) (T76 S) := by
 unfold T76
 exact dV (dY fun _ => kL fun _ => jU fun _ => by kernel_rfl) <| Go.bK.jB.nil
theorem r76 : ∀ args h v h', F76 args h = some (v, h') → fB (C48) (.call 76 args.toArray h) (.ret v h') := by
 intro args h v h' e
 exact bI (C := C48) (fn := Try.f76) (body := B76) (np := 2) (A := A76) (T := T76) (kinds := [Kd.v, Kd.i .i64]) (by kernel_rfl) (by kernel_rfl) (by kernel_rfl) (by kernel_rfl) (V6 dM) (by kernel_rfl) (fun S => t76 S) e
noncomputable def aMH := jR 76 F76 aMF
noncomputable def C49 : dK := cfg aMH
theorem bFJ : C49.Ok := dG (C := C48) bFH r76
noncomputable def B64 : Code := (Try.f64.body).getD .skip
def A64 : fC := (Am 0 [(0, .v), (1, .i .i64)] Ao (An Ao (An (An Ao (An Az Ao)) Az)))
noncomputable def aMI (S : Sg) (r0 : Value) (r1 : Int) (h : Hp) : aJ :=
 bO h 71 (Array.toList (Value.cells r0)) fun a0 h0 =>
 bC 5 h0 a0 fun v1 =>
 aQ (dJ F76 [v1, (Value.int .i64 r1)] h0) fun v2 h2 =>
 gY v2 0 fun v3 =>
 gY v2 1 fun v4 =>
 aU .i64 v4 fun i5 =>
 bS (mY i5 (Int.ofNat 0)) fun b6 =>
 dA b6
 (some (Value.tuple (List.toArray [(Value.slice none 0 0), (Value.int .i64 (Int.ofNat 9))]), h2))
 (bC 5 h2 a0 fun v7 =>
 aQ (dJ F62 [v7, v3] h2) fun v8 h8 =>
 dS v8 fun b9 =>
 bS b9 fun b10 =>
 dA b10
 (some (Value.tuple (List.toArray [(Value.slice none 0 0), (Value.int .i64 (Int.ofNat 9))]), h8))
 (some (Value.tuple (List.toArray [v3, (Value.int .i64 (Int.ofNat 0))]), h8)))
noncomputable def T64 (S : Sg) : Sg := cZ 0 (uV fun r0 => uI fun r1 => uN (aMI S r0 r1)) (jT)
noncomputable def F64 (args : List Value) (h : Hp) : aJ := bG [Kd.v, Kd.i .i64] args fun al => aI T64 1000000 0 al h
def bFK : Nat := 2 + (23 - 2)
theorem t64 (S : Sg) : jB (fun l vs h => bA (aJL env aMH bFK) (kG env Try.f64.results.toList) (collect B64 A64 []) l S vs h) (T64 S) := by
 unfold T64
 exact dV (dY fun _ => kL fun _ => jU fun _ => by kernel_rfl) <| Go.bK.jB.nil
theorem r64 : ∀ args h v h', F64 args h = some (v, h') → fB (C49) (.call 64 args.toArray h) (.ret v h') := by
 intro args h v h' e
 exact bI (C := C49) (fn := Try.f64) (body := B64) (np := 2) (A := A64) (T := T64) (kinds := [Kd.v, Kd.i .i64]) (by kernel_rfl) (by kernel_rfl) (by kernel_rfl) (by kernel_rfl) (V6 dM) (by kernel_rfl) (fun S => t64 S) e
noncomputable def aMJ := jR 64 F64 aMH
noncomputable def C50 : dK := cfg aMJ
theorem bFL : C50.Ok := dG (C := C49) bFJ r64
noncomputable def B66 : Code := (Try.f66.body).getD .skip
def A66 : fC := (Am 0 [(0, .v)] Ao (An Ao (An (An Ao (An (Am 1 [(3, .v), (6, .v), (7, .i .i64), (8, .i .i64)] (An Ao (An Az (An (An Az Ao) Ao))) Ao) Ao)) (Am 2 [(3, .v)] Ao Ao))))
noncomputable def a3W (S : Sg) (r3 : Value) (h : Hp) : aJ :=
 some (r3, h)
noncomputable def aER (S : Sg) (r3 r6 : Value) (r7 r8 : Int) (h : Hp) : aJ :=
 bZ (mH r8 r7) fun b0 =>
 dA b0
 (eB 2 r6 r8 fun v1 =>
 bC 2 h v1 fun v2 =>
 bO h 76 [(Value.int .i64 (Int.ofNat 0)), (Value.int .i64 (Int.ofNat 0))] fun a3 h3 =>
 fA 2 h3 a3 v2 fun h4 =>
 aT 0 a3 fun v5 =>
 aM h4 v5 fun v6 =>
 aU .i64 v6 fun i7 =>
 aQ (bF env h4 22 1 (List.toArray [(0, (Value.int .i64 i7))])) fun v8 h8 =>
 aQ (dW env h8 #[22, 22] (List.toArray [r3, v8])) fun v9 h9 =>
 wrap64 (Int.add r8 (Int.ofNat 1)) fun i10 =>
 S 1 (AL.v v9 (AL.v r6 (AL.i r7 (AL.i i10 AL.n)))) h9)
 (S 2 (AL.v r3 AL.n) h)
noncomputable def aMK (S : Sg) (r0 : Value) (h : Hp) : aJ :=
 dB r0 fun i0 =>
 S 1 (AL.v (Value.slice none 0 0) (AL.v r0 (AL.i i0 (AL.i (Int.ofNat 0) AL.n)))) h
noncomputable def T66 (S : Sg) : Sg := cZ 0 (uV fun r0 => uN (aMK S r0)) (cZ 1 (uV fun r3 => uV fun r6 => uI fun r7 => uI fun r8 => uN (aER S r3 r6 r7 r8)) (cZ 2 (uV fun r3 => uN (a3W S r3)) (jT)))
noncomputable def F66 (args : List Value) (h : Hp) : aJ := bG [Kd.v] args fun al => aI T66 1000000 0 al h
def bFM : Nat := 1 + (19 - 1)
theorem t66 (S : Sg) : jB (fun l vs h => bA (kF env aMJ bFM) (kG env Try.f66.results.toList) (collect B66 A66 []) l S vs h) (T66 S) := by
 unfold T66
 exact dV (dY fun _ => jU fun _ => by kernel_rfl) <| dV (dY fun _ => dY fun _ => kL fun _ => kL fun _ => jU fun _ => by kernel_rfl) <| dV (dY fun _ => jU fun _ => by kernel_rfl) <| Go.bK.jB.nil
theorem r66 : ∀ args h v h', F66 args h = some (v, h') → fB (C50) (.call 66 args.toArray h) (.ret v h') := by
 intro args h v h' e
 exact bI (C := C50) (fn := Try.f66) (body := B66) (np := 1) (A := A66) (T := T66) (kinds := [Kd.v]) (by kernel_rfl) (by kernel_rfl) (by kernel_rfl) (by kernel_rfl) (dI dM) (by kernel_rfl) (fun S => t66 S) e
noncomputable def aML := jR 66 F66 aMJ
noncomputable def C51 : dK := cfg aML
theorem bFN : C51.Ok := dG (C := C50) bFL r66
noncomputable def B26 : Code := (Try.f26.body).getD .skip
def A26 : fC := (Am 0 [(0, .v)] Ao (An Ao (An (An Ao (An Az Ao)) (An Ao (An (An Ao (An Az Ao)) Az)))))
noncomputable def aMM (S : Sg) (r0 : Value) (h : Hp) : aJ :=
 bO h 25 (Array.toList (Value.cells r0)) fun a0 h0 =>
 bC 4 h0 a0 fun v1 =>
 aQ (dJ F63 [v1] h0) fun v2 h2 =>
 gY v2 0 fun v3 =>
 gY v2 1 fun v4 =>
 aU .i64 v4 fun i5 =>
 bO h2 71 [(Value.slice none 0 0), (Value.slice none 0 0), (Value.slice none 0 0), (Value.slice none 0 0), (Value.map none)] fun a6 h6 =>
 fA 5 h6 a6 v3 fun h7 =>
 bS (mY i5 (Int.ofNat 0)) fun b8 =>
 dA b8
 (some (Value.tuple (List.toArray [(Value.slice none 0 0), (Value.int .i64 (Int.ofNat 0)), (Value.int .i64 i5)]), h7))
 (bC 5 (Hp.mk (Hp.next h7) (Hp.next h7) (Hp.aF h7)) a6 fun v9 =>
 bC 5 (Hp.mk (Hp.next h7) (Hp.next h7) (Hp.aF h7)) a6 fun v10 =>
 aQ (bT (F65 [v10] (Hp.mk (Hp.next h7) (Hp.next h7) (Hp.aF h7))) fun v => some (v, (Hp.mk (Hp.next h7) (Hp.next h7) (Hp.aF h7)))) fun v11 h11 =>
 aU .i64 v11 fun i12 =>
 aQ (dJ F64 [v9, (Value.int .i64 i12)] (Hp.mk (Hp.next h7) (Hp.next h7) (Hp.aF h7))) fun v13 ZF =>
 jA v13 (Hp.next h7) ZF fun w14 n14 =>
 gY v13 0 fun v15 =>
 gY v13 1 fun v16 =>
 aU .i64 v16 fun i17 =>
 bS (mY i17 (Int.ofNat 0)) fun b18 =>
 dA b18
 (some (Value.tuple (List.toArray [(Value.slice none 0 0), (Value.int .i64 (Int.ofNat 0)), (Value.int .i64 i17)]), (Hp.mk n14 (Hp.ro h7) (aV w14 (Hp.aF h7)))))
 (aQ (dJ F66 [v15] (Hp.mk (Hp.next (Hp.mk n14 (Hp.ro h7) (aV w14 (Hp.aF h7)))) (Hp.next (Hp.mk n14 (Hp.ro h7) (aV w14 (Hp.aF h7)))) (Hp.aF (Hp.mk n14 (Hp.ro h7) (aV w14 (Hp.aF h7)))))) fun v19 h19 =>
 jA v19 (Hp.next (Hp.mk n14 (Hp.ro h7) (aV w14 (Hp.aF h7)))) h19 fun w20 n20 =>
 bC 5 (Hp.mk n20 n20 (Hp.aF (Hp.mk n14 (Hp.ro h7) (aV w14 (Hp.aF h7))))) a6 fun v21 =>
 aQ (bT (F54 [v21, v15] (Hp.mk n20 (Hp.ro (Hp.mk n14 (Hp.ro h7) (aV w14 (Hp.aF h7)))) (aV w20 (Hp.aF (Hp.mk n14 (Hp.ro h7) (aV w14 (Hp.aF h7))))))) fun v => some (v, (Hp.mk n20 (Hp.ro (Hp.mk n14 (Hp.ro h7) (aV w14 (Hp.aF h7)))) (aV w20 (Hp.aF (Hp.mk n14 (Hp.ro h7) (aV w14 (Hp.aF h7)))))))) fun v22 h22 =>
 aU .i64 v22 fun i23 =>
 some (Value.tuple (List.toArray [v19, (Value.int .i64 i23), (Value.int .i64 (Int.ofNat 0))]), h22)))
noncomputable def T26 (S : Sg) : Sg := cZ 0 (uV fun r0 => uN (aMM S r0)) (jT)
noncomputable def F26 (args : List Value) (h : Hp) : aJ := bG [Kd.v] args fun al => aI T26 1000000 0 al h
def bFO : Nat := 1 + (30 - 1)
theorem t26 (S : Sg) : jB (fun l vs h => bA (aJL env aML bFO) (kG env Try.f26.results.toList) (collect B26 A26 []) l S vs h) (T26 S) := by
 unfold T26
 exact dV (dY fun _ => jU fun _ => by kernel_rfl) <| Go.bK.jB.nil
theorem ZE : ∀ args h v h', F26 args h = some (v, h') → fB (C51) (.call 26 args.toArray h) (.ret v h') := by
 intro args h v h' e
 exact bI (C := C51) (fn := Try.f26) (body := B26) (np := 1) (A := A26) (T := T26) (kinds := [Kd.v]) (by kernel_rfl) (by kernel_rfl) (by kernel_rfl) (by kernel_rfl) (V6 dM) (by kernel_rfl) (fun S => t26 S) e
noncomputable def aT5 := jR 26 F26 aML
noncomputable def C52 : dK := cfg aT5
theorem bFP : C52.Ok := dG (C := C51) bFN ZE
noncomputable def B55 : Code := (Try.f55.body).getD .skip
noncomputable def A55 : G.fC (List KI) := (Gm 0 [.reg 0 (.i .i64), .reg 1 (.i .i64), .reg 2 (.i .i64)] Gz Gy)
noncomputable def aMN (h : Hp) (S : Nat → aD → Option Value) (r0 r1 r2 : Int) : Option Value :=
 bS (mH r0 r1) fun b0 =>
 dA b0
 (bS (mH r2 r0) fun b1 =>
 some (Value.bool b1))
 (some (Value.bool false))
noncomputable def T55 (h : Hp) (S : Nat → aD → Option Value) : Nat → aD → Option Value := dR 0 (wI fun r0 => wI fun r1 => wI fun r2 => wN (aMN h S r0 r1 r2)) (kR)
noncomputable def F55 (args : List Value) (h : Hp) : Option Value := plainO (dU [Kd.i .i64, Kd.i .i64, Kd.i .i64] args fun al => G.aI (T55 h) 1000000 0 al)
def bFQ : Nat := 3 + (15 - 3)
theorem t55 (h : Hp) (S : Nat → aD → Option Value) : gZ (fun l al => G.bA iF cB oC (o9 env aR0 bFQ h) (pY env Try.f55.results.toList) (G.collect B55 A55 []) l S al) (T55 h S) := by
 unfold T55
 exact dZ (jX fun _ => jX fun _ => jX fun _ => oF (by kernel_rfl)) <| gZ.nil
theorem r55 : gB Try.prog 55 F55 := dD (C := C0) ok0 (pf := aR0) aL1 (fn := Try.f55) (body := B55) (kinds := [Kd.i .i64, Kd.i .i64, Kd.i .i64]) (A := A55) (T := T55) (by kernel_rfl) (by kernel_rfl) (by kernel_rfl) (by kernel_rfl) (fun h S => t55 h S)
noncomputable def aR2 : PF := FQ 55 F55 aR0
theorem aMO : eT Try.prog aR2 := iP r55 aL1
noncomputable def aT6 := pE 55 F55 aT5
noncomputable def C53 : dK := cfg aT6
theorem bFR : C53.Ok := fU (C := C52) bFP r55
noncomputable def B50 : Code := (Try.f50.body).getD .skip
noncomputable def A50 : G.fC (List KI) := (Gm 0 [.reg 0 .v, .reg 1 (.i .i64), .reg 2 (.i .i64)] Gz (Gn (Gn Gz (Gn Gy Gz)) (Gn (Gn Gz (Gn (Gm 1 [.reg 0 .v, .reg 2 (.i .i64), .reg 8 (.i .i64)] (Gn (Gn Gz Gy) (Gn (Gn (Gn Gz (Gn Gy Gz)) Gz) Gz)) Gz) Gz)) (Gm 2 [] Gz Gz))))
noncomputable def a4B (h : Hp) (S : Nat → aD → Option Value) : Option Value :=
 some (Value.tuple (List.toArray [(Value.int .i64 (Int.ofNat 0)), (Value.int .i64 (Int.ofNat 0))]))
noncomputable def aES (h : Hp) (S : Nat → aD → Option Value) (r0 : Value) (r2 r8 : Int) : Option Value :=
 dB r0 fun i0 =>
 bZ (mH r8 i0) fun b1 =>
 dA b1
 (eB 1 r0 r8 fun v2 =>
 aM h v2 fun v3 =>
 aU .i64 v3 fun i4 =>
 bT (F55 [(Value.int .i64 i4), (Value.int .i64 (Int.ofNat 0)), (Value.int .i64 r2)] h) fun v5 =>
 dS v5 fun b6 =>
 bS b6 fun b7 =>
 dA b7
 (some (Value.tuple (List.toArray [(Value.int .i64 r8), (Value.int .i64 (Int.ofNat 7))])))
 (wrap64 (Int.add r8 (Int.ofNat 1)) fun i8 =>
 S 1 (aD.v r0 (aD.i r2 (aD.i i8 aD.n)))))
 (S 2 aD.n)
noncomputable def aMP (h : Hp) (S : Nat → aD → Option Value) (r0 : Value) (r1 r2 : Int) : Option Value :=
 dB r0 fun i0 =>
 bT (F55 [(Value.int .i64 i0), (Value.int .i64 (Int.ofNat 1)), (Value.int .i64 r1)] h) fun v1 =>
 dS v1 fun b2 =>
 bS b2 fun b3 =>
 dA b3
 (some (Value.tuple (List.toArray [(Value.int .i64 (Int.ofNat 0)), (Value.int .i64 (Int.ofNat 3))])))
 (S 1 (aD.v r0 (aD.i r2 (aD.i (Int.ofNat 0) aD.n))))
noncomputable def T50 (h : Hp) (S : Nat → aD → Option Value) : Nat → aD → Option Value := dR 0 (wV fun r0 => wI fun r1 => wI fun r2 => wN (aMP h S r0 r1 r2)) (dR 1 (wV fun r0 => wI fun r2 => wI fun r8 => wN (aES h S r0 r2 r8)) (dR 2 (wN (a4B h S)) (kR)))
noncomputable def F50 (args : List Value) (h : Hp) : Option Value := plainO (dU [Kd.v, Kd.i .i64, Kd.i .i64] args fun al => G.aI (T50 h) 1000000 0 al)
def bFS : Nat := 3 + (28 - 3)
theorem t50 (h : Hp) (S : Nat → aD → Option Value) : gZ (fun l al => G.bA iF cB oC (o9 env aR2 bFS h) (pY env Try.f50.results.toList) (G.collect B50 A50 []) l S al) (T50 h S) := by
 unfold T50
 exact dZ (mR fun _ => jX fun _ => jX fun _ => oF (by kernel_rfl)) <| dZ (mR fun _ => jX fun _ => jX fun _ => oF (by kernel_rfl)) <| dZ (oF (by kernel_rfl)) <| gZ.nil
theorem r50 : gB Try.prog 50 F50 := dD (C := C0) ok0 (pf := aR2) aMO (fn := Try.f50) (body := B50) (kinds := [Kd.v, Kd.i .i64, Kd.i .i64]) (A := A50) (T := T50) (by kernel_rfl) (by kernel_rfl) (by kernel_rfl) (by kernel_rfl) (fun h S => t50 h S)
noncomputable def aR3 : PF := FQ 50 F50 aR2
theorem aMQ : eT Try.prog aR3 := iP r50 aMO
noncomputable def aT8 := pE 50 F50 aT6
noncomputable def C54 : dK := cfg aT8
theorem bFT : C54.Ok := fU (C := C53) bFR r50
noncomputable def a4C : Code := (Try.f117.body).getD .skip
noncomputable def a4D : G.fC (List KI) := (Gm 0 [.reg 0 (.i .i64), .reg 1 (.i .i64), .reg 2 (.i .i64)] Gz Gy)
noncomputable def aCU (h : Hp) (S : Nat → aD → Option Value) (r0 r1 r2 : Int) : Option Value :=
 bS (mH r0 r1) fun b0 =>
 dA b0
 (bS (mH r2 r0) fun b1 =>
 some (Value.bool b1))
 (some (Value.bool false))
noncomputable def aMR (h : Hp) (S : Nat → aD → Option Value) : Nat → aD → Option Value := dR 0 (wI fun r0 => wI fun r1 => wI fun r2 => wN (aCU h S r0 r1 r2)) (kR)
noncomputable def aGY (args : List Value) (h : Hp) : Option Value := plainO (dU [Kd.i .i64, Kd.i .i64, Kd.i .i64] args fun al => G.aI (aMR h) 1000000 0 al)
def a4E : Nat := 3 + (15 - 3)
theorem t117 (h : Hp) (S : Nat → aD → Option Value) : gZ (fun l al => G.bA iF cB oC (o9 env aR3 a4E h) (pY env Try.f117.results.toList) (G.collect a4C a4D []) l S al) (aMR h S) := by
 unfold aMR
 exact dZ (jX fun _ => jX fun _ => jX fun _ => oF (by kernel_rfl)) <| gZ.nil
theorem a4F : gB Try.prog 117 aGY := dD (C := C0) ok0 (pf := aR3) aMQ (fn := Try.f117) (body := a4C) (kinds := [Kd.i .i64, Kd.i .i64, Kd.i .i64]) (A := a4D) (T := aMR) (by kernel_rfl) (by kernel_rfl) (by kernel_rfl) (by kernel_rfl) (fun h S => t117 h S)
noncomputable def aR4 : PF := FQ 117 aGY aR3
theorem aMS : eT Try.prog aR4 := iP a4F aMQ
noncomputable def aT9 := pE 117 aGY aT8
noncomputable def C55 : dK := cfg aT9
theorem bFU : C55.Ok := fU (C := C54) bFT a4F
noncomputable def a4G : Code := (Try.f109.body).getD .skip
noncomputable def a4H : G.fC (List KI) := (Gm 0 [.reg 0 .v] Gz (Gn (Gn Gz (Gn Gy Gz)) (Gn (Gn Gz (Gn (Gm 1 [.reg 0 .v, .reg 3 (.i .i64)] (Gn (Gn Gz Gy) (Gn (Gn (Gn Gz (Gn Gz (Gm 2 [.reg 0 .v, .reg 3 (.i .i64), .reg 4 .b, .reg 5 .b] Gz (Gn Gy Gz)))) Gz) (Gm 3 [.reg 0 .v, .reg 3 (.i .i64)] Gz Gz))) Gz) Gz)) (Gm 4 [] Gz Gz))))
noncomputable def aWO (h : Hp) (S : Nat → aD → Option Value) : Option Value :=
 some (Value.bool true)
noncomputable def aCV (h : Hp) (S : Nat → aD → Option Value) (r0 : Value) (r3 : Int) : Option Value :=
 wrap64 (Int.add r3 (Int.ofNat 1)) fun i0 =>
 S 1 (aD.v r0 (aD.i i0 aD.n))
noncomputable def WO (h : Hp) (S : Nat → aD → Option Value) (r0 : Value) (r3 : Int) (r4 r5 : Bool) : Option Value :=
 bS r4 fun b0 =>
 dA b0
 (bZ (mY r3 (Int.ofNat 0)) fun b1 =>
 dA b1
 (some (Value.bool false))
 (bS r5 fun b2 =>
 dA b2
 (some (Value.bool false))
 (S 3 (aD.v r0 (aD.i r3 aD.n)))))
 (S 3 (aD.v r0 (aD.i r3 aD.n)))
noncomputable def PO (h : Hp) (S : Nat → aD → Option Value) (r0 : Value) (r3 : Int) : Option Value :=
 KX r0 fun i0 =>
 bZ (mH r3 i0) fun b1 =>
 dA b1
 (bT (jW env 9 r0 (Value.int .i64 r3)) fun v2 =>
 aU .u8 v2 fun i3 =>
 wrap64 i3 fun i4 =>
 bT (aGY [(Value.int .i64 i4), (Value.int .i64 (Int.ofNat 97)), (Value.int .i64 (Int.ofNat 122))] h) fun v5 =>
 dS v5 fun b6 =>
 bT (jW env 9 r0 (Value.int .i64 r3)) fun v7 =>
 aU .u8 v7 fun i8 =>
 wrap64 i8 fun i9 =>
 bT (aGY [(Value.int .i64 i9), (Value.int .i64 (Int.ofNat 48)), (Value.int .i64 (Int.ofNat 57))] h) fun v10 =>
 dS v10 fun b11 =>
 dA b11
 (S 2 (aD.v r0 (aD.i r3 (aD.b b6 (aD.b true aD.n)))))
 (bT (jW env 9 r0 (Value.int .i64 r3)) fun v12 =>
 aU .u8 v12 fun i13 =>
 bZ (mY i13 (Int.ofNat 46)) fun b14 =>
 S 2 (aD.v r0 (aD.i r3 (aD.b b6 (aD.b b14 aD.n))))))
 (S 4 aD.n)
noncomputable def aCW (h : Hp) (S : Nat → aD → Option Value) (r0 : Value) : Option Value :=
 KX r0 fun i0 =>
 bZ (mY i0 (Int.ofNat 0)) fun b1 =>
 dA b1
 (some (Value.bool false))
 (KX r0 fun i2 =>
 bZ (mH (Int.ofNat 16) i2) fun b3 =>
 dA b3
 (some (Value.bool false))
 (S 1 (aD.v r0 (aD.i (Int.ofNat 0) aD.n))))
noncomputable def zV (h : Hp) (S : Nat → aD → Option Value) : Nat → aD → Option Value := dR 0 (wV fun r0 => wN (aCW h S r0)) (dR 1 (wV fun r0 => wI fun r3 => wN (PO h S r0 r3)) (dR 2 (wV fun r0 => wI fun r3 => wB fun r4 => wB fun r5 => wN (WO h S r0 r3 r4 r5)) (dR 3 (wV fun r0 => wI fun r3 => wN (aCV h S r0 r3)) (dR 4 (wN (aWO h S)) (kR)))))
noncomputable def aMT (args : List Value) (h : Hp) : Option Value := plainO (dU [Kd.v] args fun al => G.aI (zV h) 1000000 0 al)
def a4I : Nat := 1 + (46 - 1)
theorem t109 (h : Hp) (S : Nat → aD → Option Value) : gZ (fun l al => G.bA iF cB oC (o9 env aR4 a4I h) (pY env Try.f109.results.toList) (G.collect a4G a4H []) l S al) (zV h S) := by
 unfold zV
 exact dZ (mR fun _ => oF (by kernel_rfl)) <| dZ (mR fun _ => jX fun _ => oF (by kernel_rfl)) <| dZ (mR fun _ => jX fun _ => rpB fun _ => rpB fun _ => oF (by kernel_rfl)) <| dZ (mR fun _ => jX fun _ => oF (by kernel_rfl)) <| dZ (oF (by kernel_rfl)) <| gZ.nil
theorem a4J : gB Try.prog 109 aMT := dD (C := C0) ok0 (pf := aR4) aMS (fn := Try.f109) (body := a4G) (kinds := [Kd.v]) (A := a4H) (T := zV) (by kernel_rfl) (by kernel_rfl) (by kernel_rfl) (by kernel_rfl) (fun h S => t109 h S)
noncomputable def aR5 : PF := FQ 109 aMT aR4
theorem aMU : eT Try.prog aR5 := iP a4J aMS
noncomputable def aUA := pE 109 aMT aT9
noncomputable def C56 : dK := cfg aUA
theorem bFV : C56.Ok := fU (C := C55) bFU a4J
noncomputable def a4K : Code := (Try.f110.body).getD .skip
noncomputable def a4L : G.fC (List KI) := (Gm 0 [.reg 0 .v, .reg 1 .v] Gz (Gn (Gn Gz (Gn (Gm 1 [.reg 0 .v, .reg 1 .v, .reg 5 (.i .i64)] (Gn (Gn Gz Gy) (Gn (Gn (Gn Gz (Gn Gy Gz)) Gz) Gz)) Gz) Gz)) (Gm 2 [] Gz Gz)))
noncomputable def aWP (h : Hp) (S : Nat → aD → Option Value) : Option Value :=
 some (Value.int .i64 (Int.negSucc 0))
noncomputable def PP (h : Hp) (S : Nat → aD → Option Value) (r0 r1 : Value) (r5 : Int) : Option Value :=
 dB r0 fun i0 =>
 bZ (mH r5 i0) fun b1 =>
 dA b1
 (eB 1 r0 r5 fun v2 =>
 aM h v2 fun v3 =>
 bT (qR env .eql 9 (Operand.tmp 15) (Operand.tmp 16) v3 r1) fun v4 =>
 dS v4 fun b5 =>
 dA b5
 (some (Value.int .i64 r5))
 (wrap64 (Int.add r5 (Int.ofNat 1)) fun i6 =>
 S 1 (aD.v r0 (aD.v r1 (aD.i i6 aD.n)))))
 (S 2 aD.n)
noncomputable def aCX (h : Hp) (S : Nat → aD → Option Value) (r0 r1 : Value) : Option Value :=
 S 1 (aD.v r0 (aD.v r1 (aD.i (Int.ofNat 0) aD.n)))
noncomputable def RD (h : Hp) (S : Nat → aD → Option Value) : Nat → aD → Option Value := dR 0 (wV fun r0 => wV fun r1 => wN (aCX h S r0 r1)) (dR 1 (wV fun r0 => wV fun r1 => wI fun r5 => wN (PP h S r0 r1 r5)) (dR 2 (wN (aWP h S)) (kR)))
noncomputable def aMV (args : List Value) (h : Hp) : Option Value := plainO (dU [Kd.v, Kd.v] args fun al => G.aI (RD h) 1000000 0 al)
def a4M : Nat := 2 + (19 - 2)
theorem t110 (h : Hp) (S : Nat → aD → Option Value) : gZ (fun l al => G.bA iF cB oC (o9 env aR5 a4M h) (pY env Try.f110.results.toList) (G.collect a4K a4L []) l S al) (RD h S) := by
 unfold RD
 exact dZ (mR fun _ => mR fun _ => oF (by kernel_rfl)) <| dZ (mR fun _ => mR fun _ => jX fun _ => oF (by kernel_rfl)) <| dZ (oF (by kernel_rfl)) <| gZ.nil
theorem a4N : gB Try.prog 110 aMV := dD (C := C0) ok0 (pf := aR5) aMU (fn := Try.f110) (body := a4K) (kinds := [Kd.v, Kd.v]) (A := a4L) (T := RD) (by kernel_rfl) (by kernel_rfl) (by kernel_rfl) (by kernel_rfl) (fun h S => t110 h S)
noncomputable def aR6 : PF := FQ 110 aMV aR5
theorem aMW : eT Try.prog aR6 := iP a4N aMU
noncomputable def aUB := pE 110 aMV aUA
noncomputable def C57 : dK := cfg aUB
theorem bFW : C57.Ok := fU (C := C56) bFV a4N
noncomputable def B88 : Code := (Try.f88.body).getD .skip
noncomputable def A88 : G.fC (List KI) := (Gm 0 [.reg 0 .v, .reg 1 .v] Gz (Gn (Gn Gz (Gn Gy Gz)) (Gn (Gn Gz (Gn Gy Gz)) Gy)))
noncomputable def aMX (h : Hp) (S : Nat → aD → Option Value) (r0 r1 : Value) : Option Value :=
 bT (aMT [r0] h) fun v0 =>
 dS v0 fun b1 =>
 bS b1 fun b2 =>
 dA b2
 (some (Value.int .i64 (Int.ofNat 6)))
 (bT (aMV [r1, r0] h) fun v3 =>
 aU .i64 v3 fun i4 =>
 bS (mH i4 (Int.ofNat 0)) fun b5 =>
 dA b5
 (some (Value.int .i64 (Int.ofNat 5)))
 (some (Value.int .i64 (Int.ofNat 0))))
noncomputable def T88 (h : Hp) (S : Nat → aD → Option Value) : Nat → aD → Option Value := dR 0 (wV fun r0 => wV fun r1 => wN (aMX h S r0 r1)) (kR)
noncomputable def F88 (args : List Value) (h : Hp) : Option Value := plainO (dU [Kd.v, Kd.v] args fun al => G.aI (T88 h) 1000000 0 al)
def bFX : Nat := 2 + (12 - 2)
theorem t88 (h : Hp) (S : Nat → aD → Option Value) : gZ (fun l al => G.bA iF cB oC (o9 env aR6 bFX h) (pY env Try.f88.results.toList) (G.collect B88 A88 []) l S al) (T88 h S) := by
 unfold T88
 exact dZ (mR fun _ => mR fun _ => oF (by kernel_rfl)) <| gZ.nil
theorem r88 : gB Try.prog 88 F88 := dD (C := C0) ok0 (pf := aR6) aMW (fn := Try.f88) (body := B88) (kinds := [Kd.v, Kd.v]) (A := A88) (T := T88) (by kernel_rfl) (by kernel_rfl) (by kernel_rfl) (by kernel_rfl) (fun h S => t88 h S)
noncomputable def aR7 : PF := FQ 88 F88 aR6
theorem aMY : eT Try.prog aR7 := iP r88 aMW
noncomputable def aUC := pE 88 F88 aUB
noncomputable def C58 : dK := cfg aUC
theorem bFY : C58.Ok := fU (C := C57) bFW r88
noncomputable def B89 : Code := (Try.f89.body).getD .skip
noncomputable def A89 : G.fC (List KI) := (Gm 0 [.reg 0 .v, .reg 1 .v, .reg 2 .b] Gz (Gn (Gn Gz (Gn Gy Gz)) (Gn (Gn Gz (Gn (G.fC.node (some (1, [.reg 2 .b, .loc 3 3, .loc 4 4, .reg 7 (.i .i64), .cells 3 [.v, .v, .v, .v], .cells 4 [.v, .v, .i .i64]])) (Gn (Gn Gz Gy) (Gn (Gn (Gn Gz (G.fC.node (some (2, [.reg 2 .b, .loc 3 3, .loc 4 4, .reg 7 (.i .i64), .reg 8 .b, .cells 3 [.v, .v, .v, .v], .cells 4 [.v, .v, .i .i64]])) Gz (Gn Gy Gz))) Gz) (G.fC.node (some (3, [.reg 2 .b, .loc 3 3, .loc 4 4, .reg 7 (.i .i64), .cells 3 [.v, .v, .v, .v], .cells 4 [.v, .v, .i .i64]])) Gz Gz))) Gz) Gz)) (G.fC.node (some (8, [.reg 2 .b, .loc 4 4, .cells 4 [.v, .v, .i .i64]])) (Gn Gz (Gn (G.fC.node (some (4, [.reg 2 .b, .loc 4 4, .reg 9 (.i .i64), .cells 4 [.v, .v, .i .i64]])) (Gn (Gn Gz Gy) (Gn (Gn (Gn Gz (G.fC.node (some (5, [.reg 2 .b, .loc 4 4, .reg 9 (.i .i64), .reg 10 .b, .cells 4 [.v, .v, .i .i64]])) Gz (Gn Gy Gz))) Gz) (G.fC.node (some (6, [.reg 2 .b, .loc 4 4, .reg 9 (.i .i64), .cells 4 [.v, .v, .i .i64]])) Gz Gz))) Gz) Gz)) (G.fC.node (some (7, [.loc 4 4, .cells 4 [.v, .v, .i .i64]])) (Gn Gz (Gn Gy Gz)) Gy)))))
noncomputable def aMZ (h : Hp) (S : Nat → aD → Option Value) (mI kX : Value) (l9 : Int) : Option Value :=
 bT (F55 [(Value.int .i64 l9), (Value.int .i64 (Int.ofNat 0)), (Value.int .i64 (Int.ofNat 50))] h) fun v0 =>
 dS v0 fun b1 =>
 bS b1 fun b2 =>
 dA b2
 (some (Value.int .i64 (Int.ofNat 7)))
 (some (Value.int .i64 (Int.ofNat 0)))
noncomputable def aM0 (h : Hp) (S : Nat → aD → Option Value) (r2 : Bool) (r9 : Int) (mI kX : Value) (l9 : Int) : Option Value :=
 wrap64 (Int.add r9 (Int.ofNat 1)) fun i0 =>
 S 4 (aD.b r2 (aD.i i0 (aD.v mI (aD.v kX (aD.i l9 aD.n)))))
noncomputable def aM1 (h : Hp) (S : Nat → aD → Option Value) (r2 : Bool) (r9 : Int) (oG : Bool) (mI kX : Value) (l9 : Int) : Option Value :=
 bS oG fun b0 =>
 dA b0
 (eB 1 kX r9 fun v1 =>
 aM h v1 fun v2 =>
 aU .i64 v2 fun i3 =>
 bT (F55 [(Value.int .i64 i3), (Value.int .i64 (Int.ofNat 0)), (Value.int .i64 (Int.ofNat 5))] h) fun v4 =>
 dS v4 fun b5 =>
 bS b5 fun b6 =>
 dA b6
 (some (Value.int .i64 (Int.ofNat 7)))
 (S 6 (aD.b r2 (aD.i r9 (aD.v mI (aD.v kX (aD.i l9 aD.n)))))))
 (S 6 (aD.b r2 (aD.i r9 (aD.v mI (aD.v kX (aD.i l9 aD.n))))))
noncomputable def aET (h : Hp) (S : Nat → aD → Option Value) (r2 : Bool) (r9 : Int) (mI kX : Value) (l9 : Int) : Option Value :=
 dB kX fun i0 =>
 bZ (mH r9 i0) fun b1 =>
 dA b1
 (dA r2
 (eB 1 kX r9 fun v2 =>
 aM h v2 fun v3 =>
 aU .i64 v3 fun i4 =>
 bZ (mY i4 (Int.negSucc 0)) fun b5 =>
 S 5 (aD.b r2 (aD.i r9 (aD.b b5 (aD.v mI (aD.v kX (aD.i l9 aD.n)))))))
 (S 5 (aD.b r2 (aD.i r9 (aD.b false (aD.v mI (aD.v kX (aD.i l9 aD.n))))))))
 (S 7 (aD.v mI (aD.v kX (aD.i l9 aD.n))))
noncomputable def aM2 (h : Hp) (S : Nat → aD → Option Value) (r2 : Bool) (mI kX : Value) (l9 : Int) : Option Value :=
 S 4 (aD.b r2 (aD.i (Int.ofNat 1) (aD.v mI (aD.v kX (aD.i l9 aD.n)))))
noncomputable def aEU (h : Hp) (S : Nat → aD → Option Value) (r2 : Bool) (r7 : Int) (uW sV : Value) (uX uY : Value) (mI kX : Value) (l9 : Int) : Option Value :=
 wrap64 (Int.add r7 (Int.ofNat 1)) fun i0 =>
 S 1 (aD.b r2 (aD.i i0 (aD.v uW (aD.v sV (aD.v uX (aD.v uY (aD.v mI (aD.v kX (aD.i l9 aD.n)))))))))
noncomputable def aEV (h : Hp) (S : Nat → aD → Option Value) (r2 : Bool) (r7 : Int) (r8 : Bool) (uW sV : Value) (uX uY : Value) (mI kX : Value) (l9 : Int) : Option Value :=
 bZ (mY r7 (Int.ofNat 0)) fun b0 =>
 dA b0
 (bS r8 fun b1 =>
 dA b1
 (eB 1 kX r7 fun v2 =>
 aM h v2 fun v3 =>
 aU .i64 v3 fun i4 =>
 dB sV fun i5 =>
 wrap64 (Int.sub i5 (Int.ofNat 1)) fun i6 =>
 bT (F55 [(Value.int .i64 i4), (Value.int .i64 (Int.ofNat 0)), (Value.int .i64 i6)] h) fun v7 =>
 dS v7 fun b8 =>
 bS b8 fun b9 =>
 dA b9
 (some (Value.int .i64 (Int.ofNat 4)))
 (S 3 (aD.b r2 (aD.i r7 (aD.v uW (aD.v sV (aD.v uX (aD.v uY (aD.v mI (aD.v kX (aD.i l9 aD.n)))))))))))
 (S 3 (aD.b r2 (aD.i r7 (aD.v uW (aD.v sV (aD.v uX (aD.v uY (aD.v mI (aD.v kX (aD.i l9 aD.n)))))))))))
 (S 3 (aD.b r2 (aD.i r7 (aD.v uW (aD.v sV (aD.v uX (aD.v uY (aD.v mI (aD.v kX (aD.i l9 aD.n))))))))))
noncomputable def aEW (h : Hp) (S : Nat → aD → Option Value) (r2 : Bool) (r7 : Int) (uW sV : Value) (uX uY : Value) (mI kX : Value) (l9 : Int) : Option Value :=
 dB kX fun i0 =>
 bZ (mH r7 i0) fun b1 =>
 dA b1
 (dA r2
 (eB 1 kX r7 fun v2 =>
 aM h v2 fun v3 =>
 aU .i64 v3 fun i4 =>
 bZ (mY i4 (Int.negSucc 0)) fun b5 =>
 S 2 (aD.b r2 (aD.i r7 (aD.b b5 (aD.v uW (aD.v sV (aD.v uX (aD.v uY (aD.v mI (aD.v kX (aD.i l9 aD.n)))))))))))
 (S 2 (aD.b r2 (aD.i r7 (aD.b false (aD.v uW (aD.v sV (aD.v uX (aD.v uY (aD.v mI (aD.v kX (aD.i l9 aD.n))))))))))))
 (S 8 (aD.b r2 (aD.v mI (aD.v kX (aD.i l9 aD.n)))))
noncomputable def aM3 (h : Hp) (S : Nat → aD → Option Value) (r0 r1 : Value) (r2 : Bool) : Option Value :=
 oV (Array.toList (Value.cells r0)) fun c0 =>
 oV (Array.toList (Value.cells r1)) fun c1 =>
 BC c1 1 fun v2 =>
 dB v2 fun i3 =>
 BC c0 0 fun v4 =>
 dB v4 fun i5 =>
 bS (mY i3 i5) fun b6 =>
 dA b6
 (some (Value.int .i64 (Int.ofNat 3)))
 (lW c0 fun a7 c7 =>
 lW c7 fun a8 c8 =>
 lW c8 fun a9 c9 =>
 lW c9 fun a10 c10 =>
 aJH c10 (lW c1 fun a11 c11 =>
 lW c11 fun a12 c12 =>
 lW c12 fun a13 c13 =>
 aU .i64 a13 fun i14 =>
 aJH c13 (S 1 (aD.b r2 (aD.i (Int.ofNat 0) (aD.v a7 (aD.v a8 (aD.v a9 (aD.v a10 (aD.v a11 (aD.v a12 (aD.i i14 aD.n))))))))))))
noncomputable def EP (h : Hp) (S : Nat → aD → Option Value) : Nat → aD → Option Value := dR 0 (wV fun r0 => wV fun r1 => wB fun r2 => wN (aM3 h S r0 r1 r2)) (dR 1 (wB fun r2 => wI fun r7 => wV fun uW => wV fun sV => wV fun uX => wV fun uY => wV fun mI => wV fun kX => wI fun l9 => wN (aEW h S r2 r7 uW sV uX uY mI kX l9)) (dR 2 (wB fun r2 => wI fun r7 => wB fun r8 => wV fun uW => wV fun sV => wV fun uX => wV fun uY => wV fun mI => wV fun kX => wI fun l9 => wN (aEV h S r2 r7 r8 uW sV uX uY mI kX l9)) (dR 3 (wB fun r2 => wI fun r7 => wV fun uW => wV fun sV => wV fun uX => wV fun uY => wV fun mI => wV fun kX => wI fun l9 => wN (aEU h S r2 r7 uW sV uX uY mI kX l9)) (dR 8 (wB fun r2 => wV fun mI => wV fun kX => wI fun l9 => wN (aM2 h S r2 mI kX l9)) (dR 4 (wB fun r2 => wI fun r9 => wV fun mI => wV fun kX => wI fun l9 => wN (aET h S r2 r9 mI kX l9)) (dR 5 (wB fun r2 => wI fun r9 => wB fun oG => wV fun mI => wV fun kX => wI fun l9 => wN (aM1 h S r2 r9 oG mI kX l9)) (dR 6 (wB fun r2 => wI fun r9 => wV fun mI => wV fun kX => wI fun l9 => wN (aM0 h S r2 r9 mI kX l9)) (dR 7 (wV fun mI => wV fun kX => wI fun l9 => wN (aMZ h S mI kX l9)) (kR)))))))))
noncomputable def F89 (args : List Value) (h : Hp) : Option Value := plainO (dU [Kd.v, Kd.v, Kd.b] args fun al => G.aI (EP h) 1000000 0 al)
def bFZ : Nat := 3 + (84 - 3)
theorem t89 (h : Hp) (S : Nat → aD → Option Value) : gZ (fun l al => G.bA iF cB oC (o9 env aR7 bFZ h) (pY env Try.f89.results.toList) (G.collect B89 A89 []) l S al) (EP h S) := by
 unfold EP
 exact dZ (mR fun _ => mR fun _ => rpB fun _ => oF (by kernel_rfl)) <| dZ (rpB fun _ => jX fun _ => mR fun _ => mR fun _ => mR fun _ => mR fun _ => mR fun _ => mR fun _ => jX fun _ => oF (by kernel_rfl)) <| dZ (rpB fun _ => jX fun _ => rpB fun _ => mR fun _ => mR fun _ => mR fun _ => mR fun _ => mR fun _ => mR fun _ => jX fun _ => oF (by kernel_rfl)) <| dZ (rpB fun _ => jX fun _ => mR fun _ => mR fun _ => mR fun _ => mR fun _ => mR fun _ => mR fun _ => jX fun _ => oF (by kernel_rfl)) <| dZ (rpB fun _ => mR fun _ => mR fun _ => jX fun _ => oF (by kernel_rfl)) <| dZ (rpB fun _ => jX fun _ => mR fun _ => mR fun _ => jX fun _ => oF (by kernel_rfl)) <| dZ (rpB fun _ => jX fun _ => rpB fun _ => mR fun _ => mR fun _ => jX fun _ => oF (by kernel_rfl)) <| dZ (rpB fun _ => jX fun _ => mR fun _ => mR fun _ => jX fun _ => oF (by kernel_rfl)) <| dZ (mR fun _ => mR fun _ => jX fun _ => oF (by kernel_rfl)) <| gZ.nil
theorem r89 : gB Try.prog 89 F89 := dD (C := C0) ok0 (pf := aR7) aMY (fn := Try.f89) (body := B89) (kinds := [Kd.v, Kd.v, Kd.b]) (A := A89) (T := EP) (by kernel_rfl) (by kernel_rfl) (by kernel_rfl) (by kernel_rfl) (fun h S => t89 h S)
noncomputable def aR8 : PF := FQ 89 F89 aR7
theorem aM4 : eT Try.prog aR8 := iP r89 aMY
noncomputable def aM5 := pE 89 F89 aUC
noncomputable def C59 : dK := cfg aM5
theorem bF0 : C59.Ok := fU (C := C58) bFY r89
noncomputable def B51 : Code := (Try.f51.body).getD .skip
def A51 : fC := (Am 0 [(0, .v), (1, .v), (2, .i .i64), (3, .b)] Ao (An (An Ao (An Az Ao)) (An Ao (An (An Ao (An (Am 1 [(1, .v), (3, .b), (4, .v), (10, .v), (11, .i .i64)] (An (An Ao Az) (An (An (An Ao (An (An Ao Az) (Am 2 [(1, .v), (3, .b), (4, .v), (10, .v), (11, .i .i64), (12, .i .i64)] (An Ao (An Az Ao)) Ao))) Ao) (Am 3 [(1, .v), (3, .b), (4, .v), (10, .v), (11, .i .i64)] Ao Ao))) Ao) Ao)) (Am 4 [] Ao Ao)))))
noncomputable def a4S (S : Sg) (h : Hp) : aJ :=
 some (Value.tuple (List.toArray [(Value.int .i64 (Int.ofNat 0)), (Value.int .i64 (Int.ofNat 0))]), h)
noncomputable def aM6 (S : Sg) (r1 : Value) (r3 : Bool) (r4 oG : Value) (qN : Int) (h : Hp) : aJ :=
 wrap64 (Int.add qN (Int.ofNat 1)) fun i0 =>
 S 1 (AL.v r1 (AL.b r3 (AL.v r4 (AL.v oG (AL.i i0 AL.n))))) h
noncomputable def aM7 (S : Sg) (r1 : Value) (r3 : Bool) (r4 oG : Value) (qN MH : Int) (h : Hp) : aJ :=
 bS (mY MH (Int.ofNat 0)) fun b0 =>
 dA b0
 (some (Value.tuple (List.toArray [(Value.int .i64 qN), (Value.int .i64 MH)]), h))
 (eB 3 r1 qN fun v1 =>
 aT 0 v1 fun v2 =>
 aM h v2 fun v3 =>
 aQ (bF env h 120 1 (List.toArray [(0, v3)])) fun v4 h4 =>
 aQ (dW env h4 #[120, 120] (List.toArray [oG, v4])) fun v5 h5 =>
 S 3 (AL.v r1 (AL.b r3 (AL.v r4 (AL.v v5 (AL.i qN AL.n))))) h5)
noncomputable def aEX (S : Sg) (r1 : Value) (r3 : Bool) (r4 oG : Value) (qN : Int) (h : Hp) : aJ :=
 dB r1 fun i0 =>
 bZ (mH qN i0) fun b1 =>
 dA b1
 (eB 3 r1 qN fun v2 =>
 aT 0 v2 fun v3 =>
 aM h v3 fun v4 =>
 aQ (bT (F88 [v4, oG] h) fun v => some (v, h)) fun v5 h5 =>
 aU .i64 v5 fun i6 =>
 bZ (mY i6 (Int.ofNat 0)) fun b7 =>
 dA b7
 (bC 4 h5 r4 fun v8 =>
 eB 3 r1 qN fun v9 =>
 bC 3 h5 v9 fun v10 =>
 aQ (bT (F89 [v8, v10, (Value.bool r3)] h5) fun v => some (v, h5)) fun v11 h11 =>
 aU .i64 v11 fun i12 =>
 S 2 (AL.v r1 (AL.b r3 (AL.v r4 (AL.v oG (AL.i qN (AL.i i12 AL.n)))))) h11)
 (S 2 (AL.v r1 (AL.b r3 (AL.v r4 (AL.v oG (AL.i qN (AL.i i6 AL.n)))))) h5))
 (S 4 AL.n h)
noncomputable def aM8 (S : Sg) (r0 r1 : Value) (r2 : Int) (r3 : Bool) (h : Hp) : aJ :=
 bO h 25 (Array.toList (Value.cells r0)) fun a0 h0 =>
 dB r1 fun i1 =>
 bZ (mH r2 i1) fun b2 =>
 dA b2
 (some (Value.tuple (List.toArray [(Value.int .i64 (Int.ofNat 0)), (Value.int .i64 (Int.ofNat 3))]), h0))
 (S 1 (AL.v r1 (AL.b r3 (AL.v a0 (AL.v (Value.slice none 0 0) (AL.i (Int.ofNat 0) AL.n))))) h0)
noncomputable def T51 (S : Sg) : Sg := cZ 0 (uV fun r0 => uV fun r1 => uI fun r2 => uB fun r3 => uN (aM8 S r0 r1 r2 r3)) (cZ 1 (uV fun r1 => uB fun r3 => uV fun r4 => uV fun oG => uI fun qN => uN (aEX S r1 r3 r4 oG qN)) (cZ 2 (uV fun r1 => uB fun r3 => uV fun r4 => uV fun oG => uI fun qN => uI fun MH => uN (aM7 S r1 r3 r4 oG qN MH)) (cZ 3 (uV fun r1 => uB fun r3 => uV fun r4 => uV fun oG => uI fun qN => uN (aM6 S r1 r3 r4 oG qN)) (cZ 4 (uN fun h => a4S S  h) (jT)))))
noncomputable def F51 (args : List Value) (h : Hp) : aJ := bG [Kd.v, Kd.v, Kd.i .i64, Kd.b] args fun al => aI T51 1000000 0 al h
def bF1 : Nat := 4 + (51 - 4)
theorem t51 (S : Sg) : jB (fun l vs h => bA (kF env aM5 bF1) (kG env Try.f51.results.toList) (collect B51 A51 []) l S vs h) (T51 S) := by
 unfold T51
 exact dV (dY fun _ => dY fun _ => kL fun _ => rwB fun _ => jU fun _ => by kernel_rfl) <| dV (dY fun _ => rwB fun _ => dY fun _ => dY fun _ => kL fun _ => jU fun _ => by kernel_rfl) <| dV (dY fun _ => rwB fun _ => dY fun _ => dY fun _ => kL fun _ => kL fun _ => jU fun _ => by kernel_rfl) <| dV (dY fun _ => rwB fun _ => dY fun _ => dY fun _ => kL fun _ => jU fun _ => by kernel_rfl) <| dV (jU fun _ => by kernel_rfl) <| Go.bK.jB.nil
theorem r51 : ∀ args h v h', F51 args h = some (v, h') → fB (C59) (.call 51 args.toArray h) (.ret v h') := by
 intro args h v h' e
 exact bI (C := C59) (fn := Try.f51) (body := B51) (np := 4) (A := A51) (T := T51) (kinds := [Kd.v, Kd.v, Kd.i .i64, Kd.b]) (by kernel_rfl) (by kernel_rfl) (by kernel_rfl) (by kernel_rfl) (dI dM) (by kernel_rfl) (fun S => t51 S) e
noncomputable def aM9 := jR 51 F51 aM5
noncomputable def C60 : dK := cfg aM9
theorem bF2 : C60.Ok := dG (C := C59) bF0 r51
noncomputable def B17 : Code := (Try.f17.body).getD .skip
def A17 : fC := (Am 0 [(0, .v)] Ao (An Ao (An (An Ao (An Az Ao)) (An Ao (An (An Ao (An Az Ao)) (An Ao (An (An Ao (An Az Ao)) (An Ao (An (An Ao (An Az Ao)) Az)))))))))
noncomputable def aNA (S : Sg) (r0 : Value) (h : Hp) : aJ :=
 bO h 25 (Array.toList (Value.cells r0)) fun a0 h0 =>
 aT 0 a0 fun v1 =>
 aM h0 v1 fun v2 =>
 aQ (bT (F50 [v2, (Value.int .i64 (Int.ofNat 4)), (Value.int .i64 (Int.ofNat 100))] h0) fun v => some (v, h0)) fun v3 h3 =>
 gY v3 0 fun v4 =>
 aU .i64 v4 fun i5 =>
 gY v3 1 fun v6 =>
 aU .i64 v6 fun i7 =>
 bS (mY i7 (Int.ofNat 0)) fun b8 =>
 dA b8
 (some (Value.tuple (List.toArray [(Value.int .i64 (Int.ofNat 1)), (Value.int .i64 i5), (Value.int .i64 i7)]), h3))
 (aT 1 a0 fun v9 =>
 aM h3 v9 fun v10 =>
 aQ (bT (F50 [v10, (Value.int .i64 (Int.ofNat 4)), (Value.int .i64 (Int.ofNat 50))] h3) fun v => some (v, h3)) fun v11 h11 =>
 gY v11 0 fun v12 =>
 aU .i64 v12 fun i13 =>
 gY v11 1 fun v14 =>
 aU .i64 v14 fun i15 =>
 bS (mY i15 (Int.ofNat 0)) fun b16 =>
 dA b16
 (some (Value.tuple (List.toArray [(Value.int .i64 (Int.ofNat 2)), (Value.int .i64 i13), (Value.int .i64 i15)]), h11))
 (bC 4 h11 a0 fun v17 =>
 aT 2 a0 fun v18 =>
 aM h11 v18 fun v19 =>
 aQ (dJ F51 [v17, v19, (Value.int .i64 (Int.ofNat 6)), (Value.bool false)] h11) fun v20 h20 =>
 gY v20 0 fun v21 =>
 aU .i64 v21 fun i22 =>
 gY v20 1 fun v23 =>
 aU .i64 v23 fun i24 =>
 bS (mY i24 (Int.ofNat 0)) fun b25 =>
 dA b25
 (some (Value.tuple (List.toArray [(Value.int .i64 (Int.ofNat 3)), (Value.int .i64 i22), (Value.int .i64 i24)]), h20))
 (bC 4 h20 a0 fun v26 =>
 aT 3 a0 fun v27 =>
 aM h20 v27 fun v28 =>
 aQ (dJ F51 [v26, v28, (Value.int .i64 (Int.ofNat 5)), (Value.bool true)] h20) fun v29 h29 =>
 gY v29 0 fun v30 =>
 aU .i64 v30 fun i31 =>
 gY v29 1 fun v32 =>
 aU .i64 v32 fun i33 =>
 bS (mY i33 (Int.ofNat 0)) fun b34 =>
 dA b34
 (some (Value.tuple (List.toArray [(Value.int .i64 (Int.ofNat 4)), (Value.int .i64 i31), (Value.int .i64 i33)]), h29))
 (some (Value.tuple (List.toArray [(Value.int .i64 (Int.ofNat 0)), (Value.int .i64 (Int.ofNat 0)), (Value.int .i64 (Int.ofNat 0))]), h29)))))
noncomputable def T17 (S : Sg) : Sg := cZ 0 (uV fun r0 => uN (aNA S r0)) (jT)
noncomputable def F17 (args : List Value) (h : Hp) : aJ := bG [Kd.v] args fun al => aI T17 1000000 0 al h
def bF3 : Nat := 1 + (49 - 1)
theorem t17 (S : Sg) : jB (fun l vs h => bA (kF env aM9 bF3) (kG env Try.f17.results.toList) (collect B17 A17 []) l S vs h) (T17 S) := by
 unfold T17
 exact dV (dY fun _ => jU fun _ => by kernel_rfl) <| Go.bK.jB.nil
theorem XG : ∀ args h v h', F17 args h = some (v, h') → fB (C60) (.call 17 args.toArray h) (.ret v h') := by
 intro args h v h' e
 exact bI (C := C60) (fn := Try.f17) (body := B17) (np := 1) (A := A17) (T := T17) (kinds := [Kd.v]) (by kernel_rfl) (by kernel_rfl) (by kernel_rfl) (by kernel_rfl) (dI dM) (by kernel_rfl) (fun S => t17 S) e
noncomputable def aNB := jR 17 F17 aM9
noncomputable def C61 : dK := cfg aNB
theorem bF4 : C61.Ok := dG (C := C60) bF2 XG
noncomputable def B37 : Code := (Try.f37.body).getD .skip
def A37 : fC := (Am 0 [(0, .v)] Ao (An Ao Az))
noncomputable def aNC (S : Sg) (r0 : Value) (h : Hp) : aJ :=
 bO h 25 (Array.toList (Value.cells r0)) fun a0 h0 =>
 bC 4 h0 a0 fun v1 =>
 aQ (dJ F17 [v1] h0) fun v2 h2 =>
 gY v2 0 fun v3 =>
 aU .i64 v3 fun i4 =>
 gY v2 1 fun v5 =>
 aU .i64 v5 fun i6 =>
 gY v2 2 fun v7 =>
 aU .i64 v7 fun i8 =>
 bZ (mY i8 (Int.ofNat 0)) fun b9 =>
 some ((Value.bool b9), h2)
noncomputable def T37 (S : Sg) : Sg := cZ 0 (uV fun r0 => uN (aNC S r0)) (jT)
noncomputable def F37 (args : List Value) (h : Hp) : aJ := bG [Kd.v] args fun al => aI T37 1000000 0 al h
def bF5 : Nat := 1 + (14 - 1)
theorem t37 (S : Sg) : jB (fun l vs h => bA (kF env aNB bF5) (kG env Try.f37.results.toList) (collect B37 A37 []) l S vs h) (T37 S) := by
 unfold T37
 exact dV (dY fun _ => jU fun _ => by kernel_rfl) <| Go.bK.jB.nil
theorem r37 : ∀ args h v h', F37 args h = some (v, h') → fB (C61) (.call 37 args.toArray h) (.ret v h') := by
 intro args h v h' e
 exact bI (C := C61) (fn := Try.f37) (body := B37) (np := 1) (A := A37) (T := T37) (kinds := [Kd.v]) (by kernel_rfl) (by kernel_rfl) (by kernel_rfl) (by kernel_rfl) (dI dM) (by kernel_rfl) (fun S => t37 S) e
noncomputable def aUD := jR 37 F37 aNB
noncomputable def C62 : dK := cfg aUD
theorem bF6 : C62.Ok := dG (C := C61) bF4 r37
noncomputable def B46 : Code := (Try.f46.body).getD .skip
noncomputable def A46 : G.fC (List KI) := (Gm 0 [.reg 0 .v, .reg 1 (.i .i64)] Gz (Gn (Gn Gz (Gn Gy Gz)) Gy))
noncomputable def aND (h : Hp) (S : Nat → aD → Option Value) (r0 : Value) (r1 : Int) : Option Value :=
 dB r0 fun i0 =>
 bZ (mY i0 (Int.ofNat 0)) fun b1 =>
 dA b1
 (some (Value.int .i64 (Int.ofNat 0)))
 (dB r0 fun i2 =>
 sI .i64 (l8 env .rem 3 (Value.int .i64 r1) (Value.int .i64 i2)) fun i3 =>
 eB 1 r0 i3 fun v4 =>
 aM h v4 fun v5 =>
 aU .u8 v5 fun i6 =>
 wrap64 i6 fun i7 =>
 some (Value.int .i64 i7))
noncomputable def T46 (h : Hp) (S : Nat → aD → Option Value) : Nat → aD → Option Value := dR 0 (wV fun r0 => wI fun r1 => wN (aND h S r0 r1)) (kR)
noncomputable def F46 (args : List Value) (h : Hp) : Option Value := plainO (dU [Kd.v, Kd.i .i64] args fun al => G.aI (T46 h) 1000000 0 al)
def bF7 : Nat := 2 + (16 - 2)
theorem t46 (h : Hp) (S : Nat → aD → Option Value) : gZ (fun l al => G.bA iF cB oC (o9 env aR8 bF7 h) (pY env Try.f46.results.toList) (G.collect B46 A46 []) l S al) (T46 h S) := by
 unfold T46
 exact dZ (mR fun _ => jX fun _ => oF (by kernel_rfl)) <| gZ.nil
theorem r46 : gB Try.prog 46 F46 := dD (C := C0) ok0 (pf := aR8) aM4 (fn := Try.f46) (body := B46) (kinds := [Kd.v, Kd.i .i64]) (A := A46) (T := T46) (by kernel_rfl) (by kernel_rfl) (by kernel_rfl) (by kernel_rfl) (fun h S => t46 h S)
noncomputable def aR9 : PF := FQ 46 F46 aR8
theorem aNE : eT Try.prog aR9 := iP r46 aM4
noncomputable def aNF := pE 46 F46 aUD
noncomputable def C63 : dK := cfg aNF
theorem bF8 : C63.Ok := fU (C := C62) bF6 r46
noncomputable def B38 : Code := (Try.f38.body).getD .skip
def A38 : fC := (Am 0 [(0, .v), (1, .v)] Ao (An Ao (An (An Ao (An (Am 1 [(1, .v), (2, .v), (5, .v), (6, .v), (7, .i .i64)] (An (An Ao Az) (An Az Ao)) Ao) Ao)) (Am 5 [(1, .v), (2, .v), (5, .v), (6, .v)] (An Ao (An (Am 2 [(1, .v), (2, .v), (5, .v), (6, .v), (8, .i .i64)] (An (An Ao Az) (Am 3 [(1, .v), (2, .v), (5, .v), (6, .v), (8, .i .i64)] (An (An Ao Az) Ao) Ao)) Ao) Ao)) (Am 4 [(6, .v)] Ao Ao)))))
noncomputable def a4Y (S : Sg) (r6 : Value) (h : Hp) : aJ :=
 some (r6, h)
noncomputable def aNG (S : Sg) (r1 r2 : Value) (r5 r6 : Value) (r8 : Int) (h : Hp) : aJ :=
 aQ (bT (F46 [r1, (Value.int .i64 r8)] h) fun v => some (v, h)) fun v0 h0 =>
 aU .i64 v0 fun i1 =>
 dB r5 fun i2 =>
 sI .i64 (l8 env .rem 3 (Value.int .i64 i1) (Value.int .i64 i2)) fun i3 =>
 eB 1 r5 i3 fun v4 =>
 aM h0 v4 fun v5 =>
 aU .i64 v5 fun i6 =>
 aQ (bF env h0 22 1 (List.toArray [(0, (Value.int .i64 i6))])) fun v7 h7 =>
 aQ (dW env h7 #[22, 22] (List.toArray [r6, v7])) fun v8 h8 =>
 aQ (bF env (Hp.mk (Hp.next h8) (Hp.next h8) T.nil) 22 0 (List.toArray [])) fun v9 h9 =>
 jA v9 (Hp.next h8) h9 fun w10 n10 =>
 bT (fM env (Hp.mk n10 n10 (Hp.aF h8)) 22 r5 none (some (Value.int .i64 i3)) none) fun v11 =>
 aQ (dW env (Hp.mk n10 n10 (aV w10 (Hp.aF h8))) #[22, 22] (List.toArray [v9, v11])) fun v12 h12 =>
 jA v12 n10 h12 fun w13 n13 =>
 wrap64 (Int.add i3 (Int.ofNat 1)) fun i14 =>
 bT (fM env (Hp.mk n13 n13 (Hp.aF h8)) 22 r5 (some (Value.int .i64 i14)) none none) fun v15 =>
 aQ (dW env (Hp.mk n13 (Hp.ro h8) (aV w13 (aV w10 (Hp.aF h8)))) #[22, 22] (List.toArray [v12, v15])) fun v16 h16 =>
 wrap64 (Int.add r8 (Int.ofNat 1)) fun i17 =>
 S 2 (AL.v r1 (AL.v r2 (AL.v v16 (AL.v v8 (AL.i i17 AL.n))))) h16
noncomputable def aEZ (S : Sg) (r1 r2 : Value) (r5 r6 : Value) (r8 : Int) (h : Hp) : aJ :=
 aT 3 r2 fun v0 =>
 aM h v0 fun v1 =>
 dB v1 fun i2 =>
 bZ (mH r8 i2) fun b3 =>
 dA b3
 (dB r5 fun i4 =>
 bZ (mH (Int.ofNat 0) i4) fun b5 =>
 dA b5
 (S 3 (AL.v r1 (AL.v r2 (AL.v r5 (AL.v r6 (AL.i r8 AL.n))))) h)
 (S 4 (AL.v r6 AL.n) h))
 (S 4 (AL.v r6 AL.n) h)
noncomputable def a5A (S : Sg) (r1 r2 : Value) (r5 r6 : Value) (h : Hp) : aJ :=
 S 2 (AL.v r1 (AL.v r2 (AL.v r5 (AL.v r6 (AL.i (Int.ofNat 0) AL.n))))) h
noncomputable def aE0 (S : Sg) (r1 r2 : Value) (r5 r6 : Value) (r7 : Int) (h : Hp) : aJ :=
 aT 2 r2 fun v0 =>
 aM h v0 fun v1 =>
 dB v1 fun i2 =>
 bZ (mH r7 i2) fun b3 =>
 dA b3
 (aQ (bF env h 22 1 (List.toArray [(0, (Value.int .i64 r7))])) fun v4 h4 =>
 aQ (dW env h4 #[22, 22] (List.toArray [r5, v4])) fun v5 h5 =>
 wrap64 (Int.add r7 (Int.ofNat 1)) fun i6 =>
 S 1 (AL.v r1 (AL.v r2 (AL.v v5 (AL.v r6 (AL.i i6 AL.n))))) h5)
 (S 5 (AL.v r1 (AL.v r2 (AL.v r5 (AL.v r6 AL.n)))) h)
noncomputable def aNH (S : Sg) (r0 r1 : Value) (h : Hp) : aJ :=
 bO h 25 (Array.toList (Value.cells r0)) fun a0 h0 =>
 S 1 (AL.v r1 (AL.v a0 (AL.v (Value.slice none 0 0) (AL.v (Value.slice none 0 0) (AL.i (Int.ofNat 0) AL.n))))) h0
noncomputable def ZN (S : Sg) : Sg := cZ 0 (uV fun r0 => uV fun r1 => uN (aNH S r0 r1)) (cZ 1 (uV fun r1 => uV fun r2 => uV fun r5 => uV fun r6 => uI fun r7 => uN (aE0 S r1 r2 r5 r6 r7)) (cZ 5 (uV fun r1 => uV fun r2 => uV fun r5 => uV fun r6 => uN (a5A S r1 r2 r5 r6)) (cZ 2 (uV fun r1 => uV fun r2 => uV fun r5 => uV fun r6 => uI fun r8 => uN (aEZ S r1 r2 r5 r6 r8)) (cZ 3 (uV fun r1 => uV fun r2 => uV fun r5 => uV fun r6 => uI fun r8 => uN (aNG S r1 r2 r5 r6 r8)) (cZ 4 (uV fun r6 => uN (a4Y S r6)) (jT))))))
noncomputable def F38 (args : List Value) (h : Hp) : aJ := bG [Kd.v, Kd.v] args fun al => aI ZN 1000000 0 al h
def bF9 : Nat := 2 + (57 - 2)
theorem t38 (S : Sg) : jB (fun l vs h => bA (kF env aNF bF9) (kG env Try.f38.results.toList) (collect B38 A38 []) l S vs h) (ZN S) := by
 unfold ZN
 exact dV (dY fun _ => dY fun _ => jU fun _ => by kernel_rfl) <| dV (dY fun _ => dY fun _ => dY fun _ => dY fun _ => kL fun _ => jU fun _ => by kernel_rfl) <| dV (dY fun _ => dY fun _ => dY fun _ => dY fun _ => jU fun _ => by kernel_rfl) <| dV (dY fun _ => dY fun _ => dY fun _ => dY fun _ => kL fun _ => jU fun _ => by kernel_rfl) <| dV (dY fun _ => dY fun _ => dY fun _ => dY fun _ => kL fun _ => jU fun _ => by kernel_rfl) <| dV (dY fun _ => jU fun _ => by kernel_rfl) <| Go.bK.jB.nil
theorem r38 : ∀ args h v h', F38 args h = some (v, h') → fB (C63) (.call 38 args.toArray h) (.ret v h') := by
 intro args h v h' e
 exact bI (C := C63) (fn := Try.f38) (body := B38) (np := 2) (A := A38) (T := ZN) (kinds := [Kd.v, Kd.v]) (by kernel_rfl) (by kernel_rfl) (by kernel_rfl) (by kernel_rfl) (dI dM) (by kernel_rfl) (fun S => t38 S) e
noncomputable def aNI := jR 38 F38 aNF
noncomputable def C64 : dK := cfg aNI
theorem bGA : C64.Ok := dG (C := C63) bF8 r38
noncomputable def B57 : Code := (Try.f57.body).getD .skip
def A57 : fC := (Am 0 [(0, .v), (1, .v)] Ao (An Ao (An (An Ao (An (Am 1 [(2, .v), (3, .v), (5, .v), (6, .i .i64)] (An (An Ao Az) (An (An (An Ao Az) Ao) Ao)) Ao) Ao)) (Am 2 [(5, .v)] Ao Ao))))
noncomputable def a5C (S : Sg) (r5 : Value) (h : Hp) : aJ :=
 some (r5, h)
noncomputable def aE1 (S : Sg) (r2 r3 r5 : Value) (r6 : Int) (h : Hp) : aJ :=
 aT 1 r2 fun v0 =>
 aM h v0 fun v1 =>
 dB v1 fun i2 =>
 bZ (mH r6 i2) fun b3 =>
 dA b3
 (aT 1 r3 fun v4 =>
 aM h v4 fun v5 =>
 eB 1 v5 r6 fun v6 =>
 aM h v6 fun v7 =>
 aU .i64 v7 fun i8 =>
 bS (mY i8 (Int.negSucc 0)) fun b9 =>
 dA b9
 (aT 1 r3 fun v10 =>
 aM h v10 fun v11 =>
 eB 1 v11 r6 fun v12 =>
 aM h v12 fun v13 =>
 aU .i64 v13 fun i14 =>
 aT 1 r2 fun v15 =>
 aM h v15 fun v16 =>
 eB 1 v16 r6 fun v17 =>
 aM h v17 fun v18 =>
 aU .i64 v18 fun i19 =>
 bS (mY i14 i19) fun b20 =>
 dA b20
 (aQ (bF env h 22 1 (List.toArray [(0, (Value.int .i64 r6))])) fun v21 h21 =>
 aQ (dW env h21 #[22, 22] (List.toArray [r5, v21])) fun v22 h22 =>
 wrap64 (Int.add r6 (Int.ofNat 1)) fun i23 =>
 S 1 (AL.v r2 (AL.v r3 (AL.v v22 (AL.i i23 AL.n)))) h22)
 (wrap64 (Int.add r6 (Int.ofNat 1)) fun i24 =>
 S 1 (AL.v r2 (AL.v r3 (AL.v r5 (AL.i i24 AL.n)))) h))
 (wrap64 (Int.add r6 (Int.ofNat 1)) fun i25 =>
 S 1 (AL.v r2 (AL.v r3 (AL.v r5 (AL.i i25 AL.n)))) h))
 (S 2 (AL.v r5 AL.n) h)
noncomputable def aNJ (S : Sg) (r0 r1 : Value) (h : Hp) : aJ :=
 bO h 59 (Array.toList (Value.cells r0)) fun a0 h0 =>
 bO h0 59 (Array.toList (Value.cells r1)) fun a1 h1 =>
 S 1 (AL.v a0 (AL.v a1 (AL.v (Value.slice none 0 0) (AL.i (Int.ofNat 0) AL.n)))) h1
noncomputable def T57 (S : Sg) : Sg := cZ 0 (uV fun r0 => uV fun r1 => uN (aNJ S r0 r1)) (cZ 1 (uV fun r2 => uV fun r3 => uV fun r5 => uI fun r6 => uN (aE1 S r2 r3 r5 r6)) (cZ 2 (uV fun r5 => uN (a5C S r5)) (jT)))
noncomputable def F57 (args : List Value) (h : Hp) : aJ := bG [Kd.v, Kd.v] args fun al => aI T57 1000000 0 al h
def bGB : Nat := 2 + (38 - 2)
theorem t57 (S : Sg) : jB (fun l vs h => bA (kF env aNI bGB) (kG env Try.f57.results.toList) (collect B57 A57 []) l S vs h) (T57 S) := by
 unfold T57
 exact dV (dY fun _ => dY fun _ => jU fun _ => by kernel_rfl) <| dV (dY fun _ => dY fun _ => dY fun _ => kL fun _ => jU fun _ => by kernel_rfl) <| dV (dY fun _ => jU fun _ => by kernel_rfl) <| Go.bK.jB.nil
theorem r57 : ∀ args h v h', F57 args h = some (v, h') → fB (C64) (.call 57 args.toArray h) (.ret v h') := by
 intro args h v h' e
 exact bI (C := C64) (fn := Try.f57) (body := B57) (np := 2) (A := A57) (T := T57) (kinds := [Kd.v, Kd.v]) (by kernel_rfl) (by kernel_rfl) (by kernel_rfl) (by kernel_rfl) (dI dM) (by kernel_rfl) (fun S => t57 S) e
noncomputable def aUE := jR 57 F57 aNI
noncomputable def C65 : dK := cfg aUE
theorem bGC : C65.Ok := dG (C := C64) bGA r57
noncomputable def B43 : Code := (Try.f43.body).getD .skip
noncomputable def A43 : G.fC (List KI) := (Gm 0 [.reg 0 .v, .reg 1 (.i .i64)] Gz (Gn (Gn Gz (Gn (Gm 1 [.reg 0 .v, .reg 1 (.i .i64), .reg 5 (.i .i64)] (Gn (Gn Gz Gy) (Gn (Gn (Gn Gz (Gn Gy Gz)) Gz) Gz)) Gz) Gz)) (Gm 2 [] Gz Gz)))
noncomputable def a5D (h : Hp) (S : Nat → aD → Option Value) : Option Value :=
 some (Value.bool false)
noncomputable def aE2 (h : Hp) (S : Nat → aD → Option Value) (r0 : Value) (r1 r5 : Int) : Option Value :=
 dB r0 fun i0 =>
 bZ (mH r5 i0) fun b1 =>
 dA b1
 (eB 1 r0 r5 fun v2 =>
 aM h v2 fun v3 =>
 aU .i64 v3 fun i4 =>
 bZ (mY i4 r1) fun b5 =>
 dA b5
 (some (Value.bool true))
 (wrap64 (Int.add r5 (Int.ofNat 1)) fun i6 =>
 S 1 (aD.v r0 (aD.i r1 (aD.i i6 aD.n)))))
 (S 2 aD.n)
noncomputable def a5E (h : Hp) (S : Nat → aD → Option Value) (r0 : Value) (r1 : Int) : Option Value :=
 S 1 (aD.v r0 (aD.i r1 (aD.i (Int.ofNat 0) aD.n)))
noncomputable def T43 (h : Hp) (S : Nat → aD → Option Value) : Nat → aD → Option Value := dR 0 (wV fun r0 => wI fun r1 => wN (a5E h S r0 r1)) (dR 1 (wV fun r0 => wI fun r1 => wI fun r5 => wN (aE2 h S r0 r1 r5)) (dR 2 (wN (a5D h S)) (kR)))
noncomputable def F43 (args : List Value) (h : Hp) : Option Value := plainO (dU [Kd.v, Kd.i .i64] args fun al => G.aI (T43 h) 1000000 0 al)
def bGD : Nat := 2 + (18 - 2)
theorem t43 (h : Hp) (S : Nat → aD → Option Value) : gZ (fun l al => G.bA iF cB oC (o9 env aR9 bGD h) (pY env Try.f43.results.toList) (G.collect B43 A43 []) l S al) (T43 h S) := by
 unfold T43
 exact dZ (mR fun _ => jX fun _ => oF (by kernel_rfl)) <| dZ (mR fun _ => jX fun _ => jX fun _ => oF (by kernel_rfl)) <| dZ (oF (by kernel_rfl)) <| gZ.nil
theorem r43 : gB Try.prog 43 F43 := dD (C := C0) ok0 (pf := aR9) aNE (fn := Try.f43) (body := B43) (kinds := [Kd.v, Kd.i .i64]) (A := A43) (T := T43) (by kernel_rfl) (by kernel_rfl) (by kernel_rfl) (by kernel_rfl) (fun h S => t43 h S)
noncomputable def aSA : PF := FQ 43 F43 aR9
theorem aNL : eT Try.prog aSA := iP r43 aNE
noncomputable def aNM := pE 43 F43 aUE
noncomputable def C66 : dK := cfg aNM
theorem bGE : C66.Ok := fU (C := C65) bGC r43
noncomputable def B61 : Code := (Try.f61.body).getD .skip
def A61 : fC := (Am 0 [(0, .v), (1, .v)] Ao (An Ao (An (An Ao (An (Am 1 [(1, .v), (2, .v), (5, .v), (6, .i .i64)] (An (An Ao Az) (An (An (An Ao (An (An Ao (An (Am 2 [(1, .v), (2, .v), (5, .v), (6, .i .i64), (7, .i .i64), (8, .i .i64)] (An (An Ao Az) (An (An (An Ao (An (An Ao Az) (An (An Ao Az) (Am 3 [(1, .v), (2, .v), (5, .v), (6, .i .i64), (7, .i .i64), (8, .i .i64), (10, .v)] Ao Az)))) Ao) (Am 4 [(1, .v), (2, .v), (5, .v), (6, .i .i64), (7, .i .i64), (8, .i .i64)] Ao Ao))) Ao) Ao)) (Am 5 [(1, .v), (2, .v), (5, .v), (6, .i .i64), (7, .i .i64)] Ao Ao))) Ao) (Am 6 [(1, .v), (2, .v), (5, .v), (6, .i .i64)] Ao Ao))) Ao) Ao)) (Am 7 [(5, .v)] Ao Ao))))
noncomputable def a5F (S : Sg) (r5 : Value) (h : Hp) : aJ :=
 some (r5, h)
noncomputable def aNN (S : Sg) (r1 r2 r5 : Value) (r6 : Int) (h : Hp) : aJ :=
 wrap64 (Int.add r6 (Int.ofNat 1)) fun i0 =>
 S 1 (AL.v r1 (AL.v r2 (AL.v r5 (AL.i i0 AL.n)))) h
noncomputable def aNO (S : Sg) (r1 r2 r5 : Value) (r6 r7 : Int) (h : Hp) : aJ :=
 aQ (bF env h 22 1 (List.toArray [(0, (Value.int .i64 r7))])) fun v0 h0 =>
 aQ (dW env h0 #[22, 22] (List.toArray [r5, v0])) fun v1 h1 =>
 S 6 (AL.v r1 (AL.v r2 (AL.v v1 (AL.i r6 AL.n)))) h1
noncomputable def aNP (S : Sg) (r1 r2 r5 : Value) (r6 r7 r8 : Int) (h : Hp) : aJ :=
 wrap64 (Int.add r8 (Int.ofNat 1)) fun i0 =>
 S 2 (AL.v r1 (AL.v r2 (AL.v r5 (AL.i r6 (AL.i r7 (AL.i i0 AL.n)))))) h
noncomputable def aNQ (S : Sg) (r1 r2 r5 : Value) (r6 r7 r8 : Int) (oG : Value) (h : Hp) : aJ :=
 aT 1 oG fun v0 =>
 aM h v0 fun v1 =>
 eB 1 v1 (Int.ofNat 0) fun v2 =>
 aM h v2 fun v3 =>
 aU .i64 v3 fun i4 =>
 bZ (mY i4 r6) fun b5 =>
 dA b5
 (aT 2 oG fun v6 =>
 aM h v6 fun v7 =>
 aU .i64 v7 fun i8 =>
 wrap64 (Int.sub r7 i8) fun i9 =>
 S 4 (AL.v r1 (AL.v r2 (AL.v r5 (AL.i r6 (AL.i i9 (AL.i r8 AL.n)))))) h)
 (S 4 (AL.v r1 (AL.v r2 (AL.v r5 (AL.i r6 (AL.i r7 (AL.i r8 AL.n)))))) h)
noncomputable def aE3 (S : Sg) (r1 r2 r5 : Value) (r6 r7 r8 : Int) (h : Hp) : aJ :=
 dB r1 fun i0 =>
 bZ (mH r8 i0) fun b1 =>
 dA b1
 (aT 2 r2 fun v2 =>
 aM (Hp.mk (Hp.next h) (Hp.next h) (Hp.aF h)) v2 fun v3 =>
 eB 1 r1 r8 fun v4 =>
 aM (Hp.mk (Hp.next h) (Hp.next h) (Hp.aF h)) v4 fun v5 =>
 aU .i64 v5 fun i6 =>
 eB 3 v3 i6 fun v7 =>
 bC 3 (Hp.mk (Hp.next h) (Hp.next h) (Hp.aF h)) v7 fun v8 =>
 aT 3 r2 fun v9 =>
 aM (Hp.mk (Hp.next h) (Hp.next h) (Hp.aF h)) v9 fun v10 =>
 eB 3 v10 r8 fun v11 =>
 bC 3 (Hp.mk (Hp.next h) (Hp.next h) (Hp.aF h)) v11 fun v12 =>
 bO (Hp.mk (Hp.next h) (Hp.next h) T.nil) 59 [(Value.string (ByteArray.mk #[])), (Value.slice none 0 0), (Value.int .i64 (Int.ofNat 0))] fun a13 ZF =>
 jA a13 (Hp.next h) ZF fun w14 n14 =>
 bO (Hp.mk n14 n14 T.nil) 59 [(Value.string (ByteArray.mk #[])), (Value.slice none 0 0), (Value.int .i64 (Int.ofNat 0))] fun a15 h15 =>
 jA a15 n14 h15 fun w16 n16 =>
 FE env 59 a13 v8 n16 (Hp.next h) (aV w16 (aV w14 (Hp.aF h))) (fun b => (eY [] b || (eY [] b || (eY [] b || (eY [] b || (eY [] b || (eY [] b || (eY [] b || (eY [] b || (eY w14 b || (eY w16 b || false))))))))))) fun w17 =>
 fA 3 (Hp.mk n16 (Hp.ro h) (aV w17 (aV w16 (aV w14 (Hp.aF h))))) a15 v12 fun h18 =>
 bC 3 h18 a13 fun v19 =>
 bC 3 h18 a15 fun v20 =>
 aQ (dJ F57 [v19, v20] h18) fun v21 h21 =>
 aQ (bT (F43 [v21, (Value.int .i64 (Int.ofNat 0))] h21) fun v => some (v, h21)) fun v22 h22 =>
 dS v22 fun b23 =>
 bS b23 fun b24 =>
 dA b24
 (S 4 (AL.v r1 (AL.v r2 (AL.v r5 (AL.i r6 (AL.i r7 (AL.i r8 AL.n)))))) h22)
 (aT 1 a13 fun v25 =>
 aM h22 v25 fun v26 =>
 eB 1 v26 (Int.ofNat 0) fun v27 =>
 aM h22 v27 fun v28 =>
 aU .i64 v28 fun i29 =>
 bZ (mY i29 r6) fun b30 =>
 dA b30
 (aT 2 a13 fun v31 =>
 aM h22 v31 fun v32 =>
 aU .i64 v32 fun i33 =>
 wrap64 (Int.add r7 i33) fun i34 =>
 S 3 (AL.v r1 (AL.v r2 (AL.v r5 (AL.i r6 (AL.i i34 (AL.i r8 (AL.v a15 AL.n))))))) h22)
 (S 3 (AL.v r1 (AL.v r2 (AL.v r5 (AL.i r6 (AL.i r7 (AL.i r8 (AL.v a15 AL.n))))))) h22)))
 (S 5 (AL.v r1 (AL.v r2 (AL.v r5 (AL.i r6 (AL.i r7 AL.n))))) h)
noncomputable def aE4 (S : Sg) (r1 r2 r5 : Value) (r6 : Int) (h : Hp) : aJ :=
 aT 1 r2 fun v0 =>
 aM h v0 fun v1 =>
 dB v1 fun i2 =>
 bZ (mH r6 i2) fun b3 =>
 dA b3
 (aT 1 r2 fun v4 =>
 aM h v4 fun v5 =>
 eB 1 v5 r6 fun v6 =>
 aM h v6 fun v7 =>
 aU .i64 v7 fun i8 =>
 S 2 (AL.v r1 (AL.v r2 (AL.v r5 (AL.i r6 (AL.i i8 (AL.i (Int.ofNat 0) AL.n)))))) h)
 (S 7 (AL.v r5 AL.n) h)
noncomputable def aNR (S : Sg) (r0 r1 : Value) (h : Hp) : aJ :=
 bO h 25 (Array.toList (Value.cells r0)) fun a0 h0 =>
 S 1 (AL.v r1 (AL.v a0 (AL.v (Value.slice none 0 0) (AL.i (Int.ofNat 0) AL.n)))) h0
noncomputable def MI (S : Sg) : Sg := cZ 0 (uV fun r0 => uV fun r1 => uN (aNR S r0 r1)) (cZ 1 (uV fun r1 => uV fun r2 => uV fun r5 => uI fun r6 => uN (aE4 S r1 r2 r5 r6)) (cZ 2 (uV fun r1 => uV fun r2 => uV fun r5 => uI fun r6 => uI fun r7 => uI fun r8 => uN (aE3 S r1 r2 r5 r6 r7 r8)) (cZ 3 (uV fun r1 => uV fun r2 => uV fun r5 => uI fun r6 => uI fun r7 => uI fun r8 => uV fun oG => uN (aNQ S r1 r2 r5 r6 r7 r8 oG)) (cZ 4 (uV fun r1 => uV fun r2 => uV fun r5 => uI fun r6 => uI fun r7 => uI fun r8 => uN (aNP S r1 r2 r5 r6 r7 r8)) (cZ 5 (uV fun r1 => uV fun r2 => uV fun r5 => uI fun r6 => uI fun r7 => uN (aNO S r1 r2 r5 r6 r7)) (cZ 6 (uV fun r1 => uV fun r2 => uV fun r5 => uI fun r6 => uN (aNN S r1 r2 r5 r6)) (cZ 7 (uV fun r5 => uN (a5F S r5)) (jT))))))))
noncomputable def F61 (args : List Value) (h : Hp) : aJ := bG [Kd.v, Kd.v] args fun al => aI MI 1000000 0 al h
def bGG : Nat := 2 + (72 - 2)
theorem t61 (S : Sg) : jB (fun l vs h => bA (kF env aNM bGG) (kG env Try.f61.results.toList) (collect B61 A61 []) l S vs h) (MI S) := by
 unfold MI
 exact dV (dY fun _ => dY fun _ => jU fun _ => by kernel_rfl) <| dV (dY fun _ => dY fun _ => dY fun _ => kL fun _ => jU fun _ => by kernel_rfl) <| dV (dY fun _ => dY fun _ => dY fun _ => kL fun _ => kL fun _ => kL fun _ => jU fun _ => by kernel_rfl) <| dV (dY fun _ => dY fun _ => dY fun _ => kL fun _ => kL fun _ => kL fun _ => dY fun _ => jU fun _ => by kernel_rfl) <| dV (dY fun _ => dY fun _ => dY fun _ => kL fun _ => kL fun _ => kL fun _ => jU fun _ => by kernel_rfl) <| dV (dY fun _ => dY fun _ => dY fun _ => kL fun _ => kL fun _ => jU fun _ => by kernel_rfl) <| dV (dY fun _ => dY fun _ => dY fun _ => kL fun _ => jU fun _ => by kernel_rfl) <| dV (dY fun _ => jU fun _ => by kernel_rfl) <| Go.bK.jB.nil
theorem r61 : ∀ args h v h', F61 args h = some (v, h') → fB (C66) (.call 61 args.toArray h) (.ret v h') := by
 intro args h v h' e
 exact bI (C := C66) (fn := Try.f61) (body := B61) (np := 2) (A := A61) (T := MI) (kinds := [Kd.v, Kd.v]) (by kernel_rfl) (by kernel_rfl) (by kernel_rfl) (by kernel_rfl) (dI dM) (by kernel_rfl) (fun S => t61 S) e
noncomputable def aNS := jR 61 F61 aNM
noncomputable def C67 : dK := cfg aNS
theorem bGH : C67.Ok := dG (C := C66) bGE r61
noncomputable def B78 : Code := (Try.f78.body).getD .skip
def A78 : fC := (Am 0 [(0, .v)] Ao (An Ao (An Ao (An (An Ao (An (Am 1 [(0, .v), (4, .v), (5, .i .i64), (6, .i .i64)] (An (An Ao Az) (An (An (An Ao Az) Ao) Ao)) Ao) Ao)) (Am 2 [(4, .v), (5, .i .i64)] Ao Ao)))))
noncomputable def a5I (S : Sg) (r4 : Value) (r5 : Int) (h : Hp) : aJ :=
 some (Value.tuple (List.toArray [r4, (Value.int .i64 r5)]), h)
noncomputable def aE5 (S : Sg) (r0 r4 : Value) (r5 r6 : Int) (h : Hp) : aJ :=
 dB r0 fun i0 =>
 bZ (mH r6 i0) fun b1 =>
 dA b1
 (eB 1 r0 r6 fun v2 =>
 aM h v2 fun v3 =>
 aU .i64 v3 fun i4 =>
 wrap64 (Int.sub (Int.ofNat 0) i4) fun i5 =>
 aF4 (Int.ofNat 0) i5 fun i6 =>
 aQ (bF env h 22 1 (List.toArray [(0, (Value.int .i64 i6))])) fun v7 h7 =>
 aQ (dW env h7 #[22, 22] (List.toArray [r4, v7])) fun v8 h8 =>
 wrap64 (Int.add r5 i6) fun i9 =>
 wrap64 (Int.add r6 (Int.ofNat 1)) fun i10 =>
 S 1 (AL.v r0 (AL.v v8 (AL.i i9 (AL.i i10 AL.n)))) h8)
 (S 2 (AL.v r4 (AL.i r5 AL.n)) h)
noncomputable def a5J (S : Sg) (r0 : Value) (h : Hp) : aJ :=
 S 1 (AL.v r0 (AL.v (Value.slice none 0 0) (AL.i (Int.ofNat 0) (AL.i (Int.ofNat 0) AL.n)))) h
noncomputable def T78 (S : Sg) : Sg := cZ 0 (uV fun r0 => uN (a5J S r0)) (cZ 1 (uV fun r0 => uV fun r4 => uI fun r5 => uI fun r6 => uN (aE5 S r0 r4 r5 r6)) (cZ 2 (uV fun r4 => uI fun r5 => uN (a5I S r4 r5)) (jT)))
noncomputable def F78 (args : List Value) (h : Hp) : aJ := bG [Kd.v] args fun al => aI T78 1000000 0 al h
def bGI : Nat := 1 + (29 - 1)
theorem t78 (S : Sg) : jB (fun l vs h => bA (kF env aNS bGI) (kG env Try.f78.results.toList) (collect B78 A78 []) l S vs h) (T78 S) := by
 unfold T78
 exact dV (dY fun _ => jU fun _ => by kernel_rfl) <| dV (dY fun _ => dY fun _ => kL fun _ => kL fun _ => jU fun _ => by kernel_rfl) <| dV (dY fun _ => kL fun _ => jU fun _ => by kernel_rfl) <| Go.bK.jB.nil
theorem r78 : ∀ args h v h', F78 args h = some (v, h') → fB (C67) (.call 78 args.toArray h) (.ret v h') := by
 intro args h v h' e
 exact bI (C := C67) (fn := Try.f78) (body := B78) (np := 1) (A := A78) (T := T78) (kinds := [Kd.v]) (by kernel_rfl) (by kernel_rfl) (by kernel_rfl) (by kernel_rfl) (dI dM) (by kernel_rfl) (fun S => t78 S) e
noncomputable def aNT := jR 78 F78 aNS
noncomputable def C68 : dK := cfg aNT
theorem bGJ : C68.Ok := dG (C := C67) bGH r78
noncomputable def B39 : Code := (Try.f39.body).getD .skip
def A39 : fC := (Am 0 [(0, .v), (1, .v)] Ao (An Ao Az))
noncomputable def aNU (S : Sg) (r0 r1 : Value) (h : Hp) : aJ :=
 bO h 25 (Array.toList (Value.cells r0)) fun a0 h0 =>
 bC 4 h0 a0 fun v1 =>
 aQ (dJ F61 [v1, r1] h0) fun v2 h2 =>
 aQ (dJ F78 [v2] h2) fun v3 h3 =>
 gY v3 0 fun v4 =>
 gY v3 1 fun v5 =>
 aU .i64 v5 fun i6 =>
 bZ (mY i6 (Int.ofNat 0)) fun b7 =>
 some ((Value.bool b7), h3)
noncomputable def T39 (S : Sg) : Sg := cZ 0 (uV fun r0 => uV fun r1 => uN (aNU S r0 r1)) (jT)
noncomputable def F39 (args : List Value) (h : Hp) : aJ := bG [Kd.v, Kd.v] args fun al => aI T39 1000000 0 al h
def bGK : Nat := 2 + (16 - 2)
theorem t39 (S : Sg) : jB (fun l vs h => bA (kF env aNT bGK) (kG env Try.f39.results.toList) (collect B39 A39 []) l S vs h) (T39 S) := by
 unfold T39
 exact dV (dY fun _ => dY fun _ => jU fun _ => by kernel_rfl) <| Go.bK.jB.nil
theorem r39 : ∀ args h v h', F39 args h = some (v, h') → fB (C68) (.call 39 args.toArray h) (.ret v h') := by
 intro args h v h' e
 exact bI (C := C68) (fn := Try.f39) (body := B39) (np := 2) (A := A39) (T := T39) (kinds := [Kd.v, Kd.v]) (by kernel_rfl) (by kernel_rfl) (by kernel_rfl) (by kernel_rfl) (dI dM) (by kernel_rfl) (fun S => t39 S) e
noncomputable def aNV := jR 39 F39 aNT
noncomputable def C69 : dK := cfg aNV
theorem bGL : C69.Ok := dG (C := C68) bGJ r39
noncomputable def B40 : Code := (Try.f40.body).getD .skip
def A40 : fC := (Am 0 [(0, .v), (1, .v)] Ao (An Ao (An (An Ao Az) (An (An Ao (An (Am 1 [(1, .v), (2, .v), (7, .i .i64), (8, .i .i64)] (An (An Ao Az) (Am 2 [(1, .v), (2, .v), (7, .i .i64), (8, .i .i64)] (An (An Ao Az) Ao) Ao)) Ao) Ao)) (Am 6 [(1, .v), (7, .i .i64)] (An Ao (An (Am 3 [(1, .v), (7, .i .i64), (9, .i .i64)] (An (An Ao Az) (Am 4 [(1, .v), (7, .i .i64), (9, .i .i64)] (An (An Ao Az) Ao) Ao)) Ao) Ao)) (Am 5 [(7, .i .i64)] Ao Ao))))))
noncomputable def a5L (S : Sg) (r7 : Int) (h : Hp) : aJ :=
 some ((Value.int .i64 r7), h)
noncomputable def aNW (S : Sg) (r1 : Value) (r7 r9 : Int) (h : Hp) : aJ :=
 bT (fM env h 22 r1 none (some (Value.int .i64 r9)) none) fun v0 =>
 eB 1 r1 r9 fun v1 =>
 aM h v1 fun v2 =>
 aU .i64 v2 fun i3 =>
 aQ (bT (F43 [v0, (Value.int .i64 i3)] h) fun v => some (v, h)) fun v4 h4 =>
 dS v4 fun b5 =>
 dA b5
 (wrap64 (Int.add r9 (Int.ofNat 1)) fun i6 =>
 S 3 (AL.v r1 (AL.i (Int.ofNat 5) (AL.i i6 AL.n))) h4)
 (wrap64 (Int.add r9 (Int.ofNat 1)) fun i7 =>
 S 3 (AL.v r1 (AL.i r7 (AL.i i7 AL.n))) h4)
noncomputable def TU (S : Sg) (r1 : Value) (r7 r9 : Int) (h : Hp) : aJ :=
 dB r1 fun i0 =>
 bZ (mH r9 i0) fun b1 =>
 dA b1
 (bZ (mY r7 (Int.ofNat 0)) fun b2 =>
 dA b2
 (S 4 (AL.v r1 (AL.i r7 (AL.i r9 AL.n))) h)
 (S 5 (AL.i r7 AL.n) h))
 (S 5 (AL.i r7 AL.n) h)
noncomputable def a5M (S : Sg) (r1 : Value) (r7 : Int) (h : Hp) : aJ :=
 S 3 (AL.v r1 (AL.i r7 (AL.i (Int.ofNat 0) AL.n))) h
noncomputable def aNX (S : Sg) (r1 r2 : Value) (r7 r8 : Int) (h : Hp) : aJ :=
 eB 1 r1 r8 fun v0 =>
 aM h v0 fun v1 =>
 aU .i64 v1 fun i2 =>
 aT 2 r2 fun v3 =>
 aM h v3 fun v4 =>
 dB v4 fun i5 =>
 wrap64 (Int.sub i5 (Int.ofNat 1)) fun i6 =>
 aQ (bT (F55 [(Value.int .i64 i2), (Value.int .i64 (Int.ofNat 0)), (Value.int .i64 i6)] h) fun v => some (v, h)) fun v7 h7 =>
 dS v7 fun b8 =>
 bS b8 fun b9 =>
 dA b9
 (wrap64 (Int.add r8 (Int.ofNat 1)) fun i10 =>
 S 1 (AL.v r1 (AL.v r2 (AL.i (Int.ofNat 4) (AL.i i10 AL.n)))) h7)
 (wrap64 (Int.add r8 (Int.ofNat 1)) fun i11 =>
 S 1 (AL.v r1 (AL.v r2 (AL.i r7 (AL.i i11 AL.n)))) h7)
noncomputable def ZO (S : Sg) (r1 r2 : Value) (r7 r8 : Int) (h : Hp) : aJ :=
 dB r1 fun i0 =>
 bZ (mH r8 i0) fun b1 =>
 dA b1
 (bZ (mY r7 (Int.ofNat 0)) fun b2 =>
 dA b2
 (S 2 (AL.v r1 (AL.v r2 (AL.i r7 (AL.i r8 AL.n)))) h)
 (S 6 (AL.v r1 (AL.i r7 AL.n)) h))
 (S 6 (AL.v r1 (AL.i r7 AL.n)) h)
noncomputable def aNY (S : Sg) (r0 r1 : Value) (h : Hp) : aJ :=
 bO h 25 (Array.toList (Value.cells r0)) fun a0 h0 =>
 bC 4 h0 a0 fun v1 =>
 aQ (dJ F17 [v1] h0) fun v2 h2 =>
 gY v2 0 fun v3 =>
 aU .i64 v3 fun i4 =>
 gY v2 1 fun v5 =>
 aU .i64 v5 fun i6 =>
 gY v2 2 fun v7 =>
 aU .i64 v7 fun i8 =>
 bZ (mY i8 (Int.ofNat 0)) fun b9 =>
 dA b9
 (dB r1 fun i10 =>
 aT 3 a0 fun v11 =>
 aM h2 v11 fun v12 =>
 dB v12 fun i13 =>
 bS (mY i10 i13) fun b14 =>
 dA b14
 (S 1 (AL.v r1 (AL.v a0 (AL.i (Int.ofNat 3) (AL.i (Int.ofNat 0) AL.n)))) h2)
 (S 1 (AL.v r1 (AL.v a0 (AL.i i8 (AL.i (Int.ofNat 0) AL.n)))) h2))
 (S 1 (AL.v r1 (AL.v a0 (AL.i i8 (AL.i (Int.ofNat 0) AL.n)))) h2)
noncomputable def TV (S : Sg) : Sg := cZ 0 (uV fun r0 => uV fun r1 => uN (aNY S r0 r1)) (cZ 1 (uV fun r1 => uV fun r2 => uI fun r7 => uI fun r8 => uN (ZO S r1 r2 r7 r8)) (cZ 2 (uV fun r1 => uV fun r2 => uI fun r7 => uI fun r8 => uN (aNX S r1 r2 r7 r8)) (cZ 6 (uV fun r1 => uI fun r7 => uN (a5M S r1 r7)) (cZ 3 (uV fun r1 => uI fun r7 => uI fun r9 => uN (TU S r1 r7 r9)) (cZ 4 (uV fun r1 => uI fun r7 => uI fun r9 => uN (aNW S r1 r7 r9)) (cZ 5 (uI fun r7 => uN (a5L S r7)) (jT)))))))
noncomputable def F40 (args : List Value) (h : Hp) : aJ := bG [Kd.v, Kd.v] args fun al => aI TV 1000000 0 al h
def bGM : Nat := 2 + (65 - 2)
theorem t40 (S : Sg) : jB (fun l vs h => bA (kF env aNV bGM) (kG env Try.f40.results.toList) (collect B40 A40 []) l S vs h) (TV S) := by
 unfold TV
 exact dV (dY fun _ => dY fun _ => jU fun _ => by kernel_rfl) <| dV (dY fun _ => dY fun _ => kL fun _ => kL fun _ => jU fun _ => by kernel_rfl) <| dV (dY fun _ => dY fun _ => kL fun _ => kL fun _ => jU fun _ => by kernel_rfl) <| dV (dY fun _ => kL fun _ => jU fun _ => by kernel_rfl) <| dV (dY fun _ => kL fun _ => kL fun _ => jU fun _ => by kernel_rfl) <| dV (dY fun _ => kL fun _ => kL fun _ => jU fun _ => by kernel_rfl) <| dV (kL fun _ => jU fun _ => by kernel_rfl) <| Go.bK.jB.nil
theorem r40 : ∀ args h v h', F40 args h = some (v, h') → fB (C69) (.call 40 args.toArray h) (.ret v h') := by
 intro args h v h' e
 exact bI (C := C69) (fn := Try.f40) (body := B40) (np := 2) (A := A40) (T := TV) (kinds := [Kd.v, Kd.v]) (by kernel_rfl) (by kernel_rfl) (by kernel_rfl) (by kernel_rfl) (dI dM) (by kernel_rfl) (fun S => t40 S) e
noncomputable def aNZ := jR 40 F40 aNV
noncomputable def C70 : dK := cfg aNZ
theorem bGN : C70.Ok := dG (C := C69) bGL r40
noncomputable def B56 : Code := (Try.f56.body).getD .skip
def A56 : fC := (Am 0 [(0, .v), (1, .v), (2, .v)] Ao (An Ao (An Ao (An (An Ao (An (Am 1 [(3, .v), (7, .i .i64), (8, .v), (9, .i .i64)] (An (An Ao Az) (An Az Ao)) Ao) Ao)) (Am 2 [(7, .i .i64)] Ao Ao)))))
noncomputable def a5O (S : Sg) (r7 : Int) (h : Hp) : aJ :=
 some ((Value.int .i64 r7), h)
noncomputable def aE6 (S : Sg) (r3 : Value) (r7 : Int) (r8 : Value) (r9 : Int) (h : Hp) : aJ :=
 dB r8 fun i0 =>
 bZ (mH r9 i0) fun b1 =>
 dA b1
 (aT 0 r3 fun v2 =>
 aM h v2 fun v3 =>
 eB 1 r8 r9 fun v4 =>
 aM h v4 fun v5 =>
 aU .i64 v5 fun i6 =>
 eB 1 v3 i6 fun v7 =>
 aM h v7 fun v8 =>
 aU .i64 v8 fun i9 =>
 wrap64 (Int.add r7 i9) fun i10 =>
 wrap64 (Int.add r9 (Int.ofNat 1)) fun i11 =>
 S 1 (AL.v r3 (AL.i i10 (AL.v r8 (AL.i i11 AL.n)))) h)
 (S 2 (AL.i r7 AL.n) h)
noncomputable def aN0 (S : Sg) (r0 r1 r2 : Value) (h : Hp) : aJ :=
 bO h 25 (Array.toList (Value.cells r0)) fun a0 h0 =>
 bO h0 59 (Array.toList (Value.cells r1)) fun a1 h1 =>
 bO h1 59 (Array.toList (Value.cells r2)) fun a2 h2 =>
 bC 3 h2 a1 fun v3 =>
 bC 3 h2 a2 fun v4 =>
 aQ (dJ F57 [v3, v4] h2) fun v5 h5 =>
 S 1 (AL.v a0 (AL.i (Int.ofNat 0) (AL.v v5 (AL.i (Int.ofNat 0) AL.n)))) h5
noncomputable def T56 (S : Sg) : Sg := cZ 0 (uV fun r0 => uV fun r1 => uV fun r2 => uN (aN0 S r0 r1 r2)) (cZ 1 (uV fun r3 => uI fun r7 => uV fun r8 => uI fun r9 => uN (aE6 S r3 r7 r8 r9)) (cZ 2 (uI fun r7 => uN (a5O S r7)) (jT)))
noncomputable def F56 (args : List Value) (h : Hp) : aJ := bG [Kd.v, Kd.v, Kd.v] args fun al => aI T56 1000000 0 al h
def bGO : Nat := 3 + (30 - 3)
theorem t56 (S : Sg) : jB (fun l vs h => bA (kF env aNZ bGO) (kG env Try.f56.results.toList) (collect B56 A56 []) l S vs h) (T56 S) := by
 unfold T56
 exact dV (dY fun _ => dY fun _ => dY fun _ => jU fun _ => by kernel_rfl) <| dV (dY fun _ => kL fun _ => dY fun _ => kL fun _ => jU fun _ => by kernel_rfl) <| dV (kL fun _ => jU fun _ => by kernel_rfl) <| Go.bK.jB.nil
theorem r56 : ∀ args h v h', F56 args h = some (v, h') → fB (C70) (.call 56 args.toArray h) (.ret v h') := by
 intro args h v h' e
 exact bI (C := C70) (fn := Try.f56) (body := B56) (np := 3) (A := A56) (T := T56) (kinds := [Kd.v, Kd.v, Kd.v]) (by kernel_rfl) (by kernel_rfl) (by kernel_rfl) (by kernel_rfl) (dI dM) (by kernel_rfl) (fun S => t56 S) e
noncomputable def aN1 := jR 56 F56 aNZ
noncomputable def C71 : dK := cfg aN1
theorem bGP : C71.Ok := dG (C := C70) bGN r56
noncomputable def B41 : Code := (Try.f41.body).getD .skip
def A41 : fC := (Am 0 [(0, .v), (1, .v)] Ao (An Ao (An (An Ao (An (Am 1 [(1, .v), (2, .v), (5, .i .i64), (6, .i .i64)] (An (An Ao Az) (An Az Ao)) Ao) Ao)) (Am 2 [(5, .i .i64)] Ao Ao))))
noncomputable def a5Q (S : Sg) (r5 : Int) (h : Hp) : aJ :=
 some ((Value.int .i64 r5), h)
noncomputable def aE7 (S : Sg) (r1 r2 : Value) (r5 r6 : Int) (h : Hp) : aJ :=
 dB r1 fun i0 =>
 bZ (mH r6 i0) fun b1 =>
 dA b1
 (bC 4 h r2 fun v2 =>
 aT 2 r2 fun v3 =>
 aM h v3 fun v4 =>
 eB 1 r1 r6 fun v5 =>
 aM h v5 fun v6 =>
 aU .i64 v6 fun i7 =>
 eB 3 v4 i7 fun v8 =>
 bC 3 h v8 fun v9 =>
 aT 3 r2 fun v10 =>
 aM h v10 fun v11 =>
 eB 3 v11 r6 fun v12 =>
 bC 3 h v12 fun v13 =>
 aQ (dJ F56 [v2, v9, v13] h) fun v14 h14 =>
 aU .i64 v14 fun i15 =>
 wrap64 (Int.add r5 i15) fun i16 =>
 wrap64 (Int.add r6 (Int.ofNat 1)) fun i17 =>
 S 1 (AL.v r1 (AL.v r2 (AL.i i16 (AL.i i17 AL.n)))) h14)
 (S 2 (AL.i r5 AL.n) h)
noncomputable def aN2 (S : Sg) (r0 r1 : Value) (h : Hp) : aJ :=
 bO h 25 (Array.toList (Value.cells r0)) fun a0 h0 =>
 S 1 (AL.v r1 (AL.v a0 (AL.i (Int.ofNat 0) (AL.i (Int.ofNat 0) AL.n)))) h0
noncomputable def T41 (S : Sg) : Sg := cZ 0 (uV fun r0 => uV fun r1 => uN (aN2 S r0 r1)) (cZ 1 (uV fun r1 => uV fun r2 => uI fun r5 => uI fun r6 => uN (aE7 S r1 r2 r5 r6)) (cZ 2 (uI fun r5 => uN (a5Q S r5)) (jT)))
noncomputable def F41 (args : List Value) (h : Hp) : aJ := bG [Kd.v, Kd.v] args fun al => aI T41 1000000 0 al h
def bGQ : Nat := 2 + (31 - 2)
theorem t41 (S : Sg) : jB (fun l vs h => bA (kF env aN1 bGQ) (kG env Try.f41.results.toList) (collect B41 A41 []) l S vs h) (T41 S) := by
 unfold T41
 exact dV (dY fun _ => dY fun _ => jU fun _ => by kernel_rfl) <| dV (dY fun _ => dY fun _ => kL fun _ => kL fun _ => jU fun _ => by kernel_rfl) <| dV (kL fun _ => jU fun _ => by kernel_rfl) <| Go.bK.jB.nil
theorem r41 : ∀ args h v h', F41 args h = some (v, h') → fB (C71) (.call 41 args.toArray h) (.ret v h') := by
 intro args h v h' e
 exact bI (C := C71) (fn := Try.f41) (body := B41) (np := 2) (A := A41) (T := T41) (kinds := [Kd.v, Kd.v]) (by kernel_rfl) (by kernel_rfl) (by kernel_rfl) (by kernel_rfl) (dI dM) (by kernel_rfl) (fun S => t41 S) e
noncomputable def aUF := jR 41 F41 aN1
noncomputable def C72 : dK := cfg aUF
theorem bGR : C72.Ok := dG (C := C71) bGP r41
noncomputable def B42 : Code := (Try.f42.body).getD .skip
noncomputable def A42 : G.fC (List KI) := (Gm 0 [.reg 0 .v, .reg 1 .v] Gz (Gn Gz (Gn (Gn Gz (Gn (Gm 1 [.reg 0 .v, .reg 1 .v, .reg 5 (.i .i64), .reg 6 (.i .i64)] (Gn (Gn Gz Gy) (Gn (Gn (Gn Gz (Gn Gy Gz)) Gz) Gz)) Gz) Gz)) (Gm 2 [.reg 0 .v, .reg 1 .v] Gz Gz))))
noncomputable def aN3 (h : Hp) (S : Nat → aD → Option Value) (r0 r1 : Value) : Option Value :=
 dB r0 fun i0 =>
 dB r1 fun i1 =>
 bZ (mH i0 i1) fun b2 =>
 some (Value.bool b2)
noncomputable def aE8 (h : Hp) (S : Nat → aD → Option Value) (r0 r1 : Value) (r5 r6 : Int) : Option Value :=
 bZ (mH r6 r5) fun b0 =>
 dA b0
 (eB 1 r0 r6 fun v1 =>
 aM h v1 fun v2 =>
 aU .i64 v2 fun i3 =>
 eB 1 r1 r6 fun v4 =>
 aM h v4 fun v5 =>
 aU .i64 v5 fun i6 =>
 bS (mY i3 i6) fun b7 =>
 dA b7
 (eB 1 r0 r6 fun v8 =>
 aM h v8 fun v9 =>
 aU .i64 v9 fun i10 =>
 eB 1 r1 r6 fun v11 =>
 aM h v11 fun v12 =>
 aU .i64 v12 fun i13 =>
 bZ (mH i10 i13) fun b14 =>
 some (Value.bool b14))
 (wrap64 (Int.add r6 (Int.ofNat 1)) fun i15 =>
 S 1 (aD.v r0 (aD.v r1 (aD.i r5 (aD.i i15 aD.n))))))
 (S 2 (aD.v r0 (aD.v r1 aD.n)))
noncomputable def aN4 (h : Hp) (S : Nat → aD → Option Value) (r0 r1 : Value) : Option Value :=
 dB r0 fun i0 =>
 dB r1 fun i1 =>
 aIU i0 i1 fun i2 =>
 S 1 (aD.v r0 (aD.v r1 (aD.i i2 (aD.i (Int.ofNat 0) aD.n))))
noncomputable def T42 (h : Hp) (S : Nat → aD → Option Value) : Nat → aD → Option Value := dR 0 (wV fun r0 => wV fun r1 => wN (aN4 h S r0 r1)) (dR 1 (wV fun r0 => wV fun r1 => wI fun r5 => wI fun r6 => wN (aE8 h S r0 r1 r5 r6)) (dR 2 (wV fun r0 => wV fun r1 => wN (aN3 h S r0 r1)) (kR)))
noncomputable def F42 (args : List Value) (h : Hp) : Option Value := plainO (dU [Kd.v, Kd.v] args fun al => G.aI (T42 h) 1000000 0 al)
def bGS : Nat := 2 + (40 - 2)
theorem t42 (h : Hp) (S : Nat → aD → Option Value) : gZ (fun l al => G.bA iF cB oC (o9 env aSA bGS h) (pY env Try.f42.results.toList) (G.collect B42 A42 []) l S al) (T42 h S) := by
 unfold T42
 exact dZ (mR fun _ => mR fun _ => oF (by kernel_rfl)) <| dZ (mR fun _ => mR fun _ => jX fun _ => jX fun _ => oF (by kernel_rfl)) <| dZ (mR fun _ => mR fun _ => oF (by kernel_rfl)) <| gZ.nil
theorem r42 : gB Try.prog 42 F42 := dD (C := C0) ok0 (pf := aSA) aNL (fn := Try.f42) (body := B42) (kinds := [Kd.v, Kd.v]) (A := A42) (T := T42) (by kernel_rfl) (by kernel_rfl) (by kernel_rfl) (by kernel_rfl) (fun h S => t42 h S)
noncomputable def bGT : PF := FQ 42 F42 aSA
theorem bGU : eT Try.prog bGT := iP r42 aNL
noncomputable def aN5 := pE 42 F42 aUF
noncomputable def C73 : dK := cfg aN5
theorem a5S : C73.Ok := fU (C := C72) bGR r42
noncomputable def B8 : Code := (Try.f8.body).getD .skip
def A8 : fC := (Am 0 [(0, .v), (1, .v)] Ao (An Ao (An (An Ao (An Az Ao)) (An Ao (An Ao (Am 3 [(2, .v), (5, .v), (6, .i .i64), (7, .i .i64), (8, .v), (9, .b)] (An Ao (An Az Ao)) (An (An Ao (An Az Ao)) (Am 2 [(2, .v), (5, .v), (6, .i .i64), (8, .v), (9, .b)] Ao (An (An Ao (An Az Ao)) (Am 1 [(2, .v), (5, .v), (6, .i .i64), (8, .v), (9, .b)] Ao Ao))))))))))
noncomputable def aWS (S : Sg) (r2 r5 : Value) (r6 : Int) (r8 : Value) (r9 : Bool) (h : Hp) : aJ :=
 bS r9 fun b0 =>
 dA b0
 (aQ (bT (WK [] h) fun v => some (v, h)) fun v1 h1 =>
 dS v1 fun b2 =>
 some ((Value.bool b2), h1))
 (bC 4 h r2 fun v3 =>
 aQ (dJ F41 [v3, r8] h) fun v4 h4 =>
 aU .i64 v4 fun i5 =>
 bZ (mH r6 i5) fun b6 =>
 dA b6
 (aQ (bT (WK [] h4) fun v => some (v, h4)) fun v7 h7 =>
 dS v7 fun b8 =>
 some ((Value.bool b8), h7))
 (bC 4 h4 r2 fun v9 =>
 aQ (dJ F41 [v9, r8] h4) fun v10 h10 =>
 aU .i64 v10 fun i11 =>
 bZ (mY i11 r6) fun b12 =>
 dA b12
 (aQ (bT (F42 [r8, r5] h10) fun v => some (v, h10)) fun v13 ZF =>
 dS v13 fun b14 =>
 bS b14 fun b15 =>
 dA b15
 (aQ (bT (WK [] ZF) fun v => some (v, ZF)) fun v16 h16 =>
 dS v16 fun b17 =>
 some ((Value.bool b17), h16))
 (some ((Value.bool false), ZF)))
 (some ((Value.bool false), h10))))
noncomputable def aWT (S : Sg) (r2 r5 : Value) (r6 : Int) (r8 : Value) (r9 : Bool) (h : Hp) : aJ :=
 bC 4 h r2 fun v0 =>
 aQ (dJ F24 [v0, r5] h) fun v1 h1 =>
 gY v1 0 fun v2 =>
 aU .i64 v2 fun i3 =>
 gY v1 1 fun v4 =>
 aU .i64 v4 fun i5 =>
 bS (mY i5 (Int.ofNat 0)) fun b6 =>
 dA b6
 (some ((Value.bool false), h1))
 (bS (mY i3 r6) fun b7 =>
 dA b7
 (some ((Value.bool false), h1))
 (S 1 (AL.v r2 (AL.v r5 (AL.i r6 (AL.v r8 (AL.b r9 AL.n))))) h1))
noncomputable def aWU (S : Sg) (r2 r5 : Value) (r6 r7 : Int) (r8 : Value) (r9 : Bool) (h : Hp) : aJ :=
 bS (mY r7 (Int.ofNat 0)) fun b0 =>
 dA b0
 (bZ (mY r7 (Int.ofNat 9)) fun b1 =>
 dA b1
 (dB r5 fun i2 =>
 bZ (mY i2 (Int.ofNat 0)) fun b3 =>
 dA b3
 (bZ (mY r6 (Int.ofNat 0)) fun b4 =>
 dA b4
 (bS r9 fun b5 =>
 dA b5
 (aQ (bT (WK [] h) fun v => some (v, h)) fun v6 h6 =>
 dS v6 fun b7 =>
 some ((Value.bool b7), h6))
 (some ((Value.bool false), h)))
 (some ((Value.bool false), h)))
 (some ((Value.bool false), h)))
 (some ((Value.bool false), h)))
 (bC 4 h r2 fun v8 =>
 aQ (dJ F40 [v8, r5] h) fun v9 h9 =>
 aU .i64 v9 fun i10 =>
 bS (mY i10 (Int.ofNat 0)) fun b11 =>
 dA b11
 (some ((Value.bool false), h9))
 (bC 4 h9 r2 fun v12 =>
 aQ (dJ F39 [v12, r5] h9) fun v13 ZF =>
 dS v13 fun b14 =>
 bS b14 fun b15 =>
 dA b15
 (some ((Value.bool false), ZF))
 (bC 4 ZF r2 fun v16 =>
 aQ (dJ F41 [v16, r5] ZF) fun v17 h17 =>
 aU .i64 v17 fun i18 =>
 bS (mY i18 r6) fun b19 =>
 dA b19
 (some ((Value.bool false), h17))
 (S 2 (AL.v r2 (AL.v r5 (AL.i r6 (AL.v r8 (AL.b r9 AL.n))))) h17))))
noncomputable def aWV (S : Sg) (r0 r1 : Value) (h : Hp) : aJ :=
 bO h 25 (Array.toList (Value.cells r0)) fun a0 h0 =>
 bC 4 h0 a0 fun v1 =>
 aQ (dJ F26 [v1] h0) fun v2 h2 =>
 gY v2 0 fun v3 =>
 gY v2 1 fun v4 =>
 aU .i64 v4 fun i5 =>
 gY v2 2 fun v6 =>
 aU .i64 v6 fun i7 =>
 bC 4 h2 a0 fun v8 =>
 aQ (dJ F37 [v8] h2) fun v9 h9 =>
 dS v9 fun b10 =>
 bS b10 fun b11 =>
 dA b11
 (bS (mY i7 (Int.ofNat 0)) fun b12 =>
 dA b12
 (dB v3 fun i13 =>
 bZ (mY i13 (Int.ofNat 0)) fun b14 =>
 dA b14
 (bZ (mY i5 (Int.ofNat 0)) fun b15 =>
 dA b15
 (aQ (bT (WK [] h9) fun v => some (v, h9)) fun v16 h16 =>
 dS v16 fun b17 =>
 some ((Value.bool b17), h16))
 (some ((Value.bool false), h9)))
 (some ((Value.bool false), h9)))
 (some ((Value.bool false), h9)))
 (bC 4 h9 a0 fun v18 =>
 aQ (dJ F38 [v18, r1] h9) fun v19 h19 =>
 dB v19 fun i20 =>
 aT 3 a0 fun v21 =>
 aM h19 v21 fun v22 =>
 dB v22 fun i23 =>
 bZ (mY i20 i23) fun b24 =>
 dA b24
 (bC 4 h19 a0 fun v25 =>
 aQ (dJ F39 [v25, v19] h19) fun v26 h26 =>
 dS v26 fun b27 =>
 S 3 (AL.v a0 (AL.v v3 (AL.i i5 (AL.i i7 (AL.v v19 (AL.b b27 AL.n)))))) h26)
 (S 3 (AL.v a0 (AL.v v3 (AL.i i5 (AL.i i7 (AL.v v19 (AL.b false AL.n)))))) h19))
noncomputable def T8 (S : Sg) : Sg := cZ 0 (uV fun r0 => uV fun r1 => uN (aWV S r0 r1)) (cZ 3 (uV fun r2 => uV fun r5 => uI fun r6 => uI fun r7 => uV fun r8 => uB fun r9 => uN (aWU S r2 r5 r6 r7 r8 r9)) (cZ 2 (uV fun r2 => uV fun r5 => uI fun r6 => uV fun r8 => uB fun r9 => uN (aWT S r2 r5 r6 r8 r9)) (cZ 1 (uV fun r2 => uV fun r5 => uI fun r6 => uV fun r8 => uB fun r9 => uN (aWS S r2 r5 r6 r8 r9)) (jT))))
noncomputable def F8 (args : List Value) (h : Hp) : aJ := bG [Kd.v, Kd.v] args fun al => aI T8 1000000 0 al h
def nt8 : Nat := 2 + (124 - 2)
theorem t8 (S : Sg) : jB (fun l vs h => bA (kF env aN5 nt8) (kG env Try.f8.results.toList) (collect B8 A8 []) l S vs h) (T8 S) := by
 unfold T8
 exact dV (dY fun _ => dY fun _ => jU fun _ => by kernel_rfl) <| dV (dY fun _ => dY fun _ => kL fun _ => kL fun _ => dY fun _ => rwB fun _ => jU fun _ => by kernel_rfl) <| dV (dY fun _ => dY fun _ => kL fun _ => dY fun _ => rwB fun _ => jU fun _ => by kernel_rfl) <| dV (dY fun _ => dY fun _ => kL fun _ => dY fun _ => rwB fun _ => jU fun _ => by kernel_rfl) <| Go.bK.jB.nil
theorem r8 : ∀ args h v h', F8 args h = some (v, h') → fB (C73) (.call 8 args.toArray h) (.ret v h') := by
 intro args h v h' e
 exact bI (C := C73) (fn := Try.f8) (body := B8) (np := 2) (A := A8) (T := T8) (kinds := [Kd.v, Kd.v]) (by kernel_rfl) (by kernel_rfl) (by kernel_rfl) (by kernel_rfl) (dI dM) (by kernel_rfl) (fun S => t8 S) e
noncomputable def aUG := jR 8 F8 aN5
noncomputable def C74 : dK := cfg aUG
theorem bGV : C74.Ok := dG (C := C73) a5S r8
noncomputable abbrev aWW := aUG
theorem bMZ : (cfg aWW).Ok := bGV
end Go.Proofs.Ytdpicdnpiihaaaa.K.L
