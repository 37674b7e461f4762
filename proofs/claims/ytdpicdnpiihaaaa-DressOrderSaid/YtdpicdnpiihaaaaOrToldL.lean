/- Functions told for the laws. -/
import Derived.Test.YtdpicdnpiihaaaaOrAwake
import Derived.Test.YtdpicdnpiihaaaaOrEngD
open Go Go.bI Go.bI.Y
set_option maxRecDepth 100000
set_option linter.unusedVariables false
namespace Go.Proofs.Ytdpicdnpiihaaaa.K.L
noncomputable def D9 : List Value → Hp → Option Value := ND (.bool true)
theorem a1V : fV Try.prog 21 D9 := aVT
noncomputable def aQ9 : PF := EI 21 D9 a1G
theorem aLO : eF Try.prog aQ9 := iN a1V aVS
noncomputable def aTH := oO 21 D9 aLN
noncomputable def C39 : dP := cfg aTH
theorem bFP : C39.Ok := fQ (C := C38) a1T a1V
noncomputable def B65 : Code := (Try.f65.body).getD .skip
noncomputable def A65 : G.eU (List KI) := (Gm 0 [.reg 0 .v] Gz Gy)
noncomputable def aLP (h : Hp) (S : Nat → aD → Option Value) (r0 : Value) : Option Value :=
 pG (Array.toList (Value.cells r0)) fun c0 =>
 BB c0 3 fun v1 =>
 bS v1 fun i2 =>
 rR .i64 (VI (mY env .shl 3 (Value.int .i64 (Int.ofNat 1)) (Value.int .i64 i2)) (Value.int .i64 (Int.ofNat 1)) (Value.int .i64 i2)) fun i3 =>
 wrap64 (Int.sub i3 (Int.ofNat 1)) fun i4 =>
 some (Value.int .i64 i4)
noncomputable def T65 (h : Hp) (S : Nat → aD → Option Value) : Nat → aD → Option Value := dQ 0 (wV fun r0 => wN (aLP h S r0)) (kR)
noncomputable def F65 (args : List Value) (h : Hp) : Option Value := plainO (dU [Kd.v] args fun al => G.aN (T65 h) 1000000 0 al)
def bFQ : Nat := 1 + (9 - 1)
theorem t65 (h : Hp) (S : Nat → aD → Option Value) : gY (fun l al => G.aX iD dD oG (oN env aQ9 bFQ h) (pO env Try.f65.results.toList) (G.collect B65 A65 []) l S al) (T65 h S) := by
 unfold T65
 exact dV (mJ fun _ => oC (by kernel_rfl)) <| gY.nil
theorem r65 : fV Try.prog 65 F65 := dK (C := C0) ok0 (pf := aQ9) aLO (fn := Try.f65) (body := B65) (kinds := [Kd.v]) (A := A65) (T := T65) (by kernel_rfl) (by kernel_rfl) (by kernel_rfl) (by kernel_rfl) (fun h S => t65 h S)
noncomputable def aRA : PF := EI 65 F65 aQ9
theorem aLQ : eF Try.prog aRA := iN r65 aLO
noncomputable def aLR := oO 65 F65 aTH
noncomputable def C40 : dP := cfg aLR
theorem bFR : C40.Ok := fQ (C := C39) bFP r65
noncomputable def B96 : Code := (Try.f96.body).getD .skip
def A96 : eU := (Am 0 [(0, .v)] Ao (An (An Ao (An Az Ao)) Az))
noncomputable def aLS (S : Sg) (r0 : Value) (h : Hp) : aF :=
 bR (qQ env .eql 79 (Operand.tmp 3) (Operand.const (Value.slice none 0 0)) r0 (Value.slice none 0 0)) fun v0 =>
 dH v0 fun b1 =>
 bU b1
 (some ((Value.slice none 0 0), h))
 (aK (aU env h 79 0 (List.toArray [])) fun v2 h2 =>
 aK (cB env h2 #[79, 79] (List.toArray [v2, r0])) fun v3 h3 =>
 some (v3, h3))
noncomputable def T96 (S : Sg) : Sg := bV 0 (uV fun r0 => uN (aLS S r0)) (jL)
noncomputable def F96 (args : List Value) (h : Hp) : aF := bB [Kd.v] args fun al => aN T96 1000000 0 al h
def bFS : Nat := 1 + (8 - 1)
theorem t96 (S : Sg) : iR (fun l vs h => aX (kF env aLR bFS) (j5 env Try.f96.results.toList) (collect B96 A96 []) l S vs h) (T96 S) := by
 unfold T96
 exact dG (dA fun _ => iO fun _ => by kernel_rfl) <| Go.bI.iR.nil
theorem r96 : ∀ args h v h', F96 args h = some (v, h') → eG (C40) (.call 96 args.toArray h) (.ret v h') := by
 intro args h v h' e
 exact bE (C := C40) (fn := Try.f96) (body := B96) (np := 1) (A := A96) (T := T96) (kinds := [Kd.v]) (by kernel_rfl) (by kernel_rfl) (by kernel_rfl) (by kernel_rfl) (dJ dL) (by kernel_rfl) (fun S => t96 S) e
noncomputable def aTI := jF 96 F96 aLR
noncomputable def C41 : dP := cfg aTI
theorem bFT : C41.Ok := dB (C := C40) bFR r96
noncomputable def a1Z : Code := (Try.f112.body).getD .skip
noncomputable def a19 : G.eU (List KI) := (Gm 0 [.reg 0 (.i .u32)] Gz (Gn (Gn Gz (Gn Gy Gz)) (Gm 2 [.reg 0 (.i .u32), .reg 2 (.i .i64)] (Gn Gz (Gn Gy Gz)) (Gm 1 [.reg 0 (.i .u32), .reg 2 (.i .i64)] Gz Gz))))
noncomputable def aVU (h : Hp) (S : Nat → aD → Option Value) (r0 r2 : Int) : Option Value :=
 uP (vT .u8 r0) fun i0 =>
 bR (kE env 9 (Value.string (ByteArray.mk #[0, 1, 2, 2, 3, 3, 3, 3, 4, 4, 4, 4, 4, 4, 4, 4, 5, 5, 5, 5, 5, 5, 5, 5, 5, 5, 5, 5, 5, 5, 5, 5, 6, 6, 6, 6, 6, 6, 6, 6, 6, 6, 6, 6, 6, 6, 6, 6, 6, 6, 6, 6, 6, 6, 6, 6, 6, 6, 6, 6, 6, 6, 6, 6, 7, 7, 7, 7, 7, 7, 7, 7, 7, 7, 7, 7, 7, 7, 7, 7, 7, 7, 7, 7, 7, 7, 7, 7, 7, 7, 7, 7, 7, 7, 7, 7, 7, 7, 7, 7, 7, 7, 7, 7, 7, 7, 7, 7, 7, 7, 7, 7, 7, 7, 7, 7, 7, 7, 7, 7, 7, 7, 7, 7, 7, 7, 7, 7, 8, 8, 8, 8, 8, 8, 8, 8, 8, 8, 8, 8, 8, 8, 8, 8, 8, 8, 8, 8, 8, 8, 8, 8, 8, 8, 8, 8, 8, 8, 8, 8, 8, 8, 8, 8, 8, 8, 8, 8, 8, 8, 8, 8, 8, 8, 8, 8, 8, 8, 8, 8, 8, 8, 8, 8, 8, 8, 8, 8, 8, 8, 8, 8, 8, 8, 8, 8, 8, 8, 8, 8, 8, 8, 8, 8, 8, 8, 8, 8, 8, 8, 8, 8, 8, 8, 8, 8, 8, 8, 8, 8, 8, 8, 8, 8, 8, 8, 8, 8, 8, 8, 8, 8, 8, 8, 8, 8, 8, 8, 8, 8, 8, 8, 8, 8, 8, 8, 8, 8, 8, 8, 8, 8, 8, 8, 8, 8])) (Value.int .u8 i0)) fun v1 =>
 aS .u8 v1 fun i2 =>
 wrap64 i2 fun i3 =>
 wrap64 (Int.add r2 i3) fun i4 =>
 some (Value.int .i64 i4)
noncomputable def aVV (h : Hp) (S : Nat → aD → Option Value) (r0 r2 : Int) : Option Value :=
 bA (lM r0 (Int.ofNat 256)) fun b0 =>
 bU b0
 (VT .u32 r0 (Int.ofNat 8) (D6 (mY env .shr 143 (Value.int .u32 r0) (Value.int .u64 (Int.ofNat 8))) (Value.int .u32 r0) (Value.int .u64 (Int.ofNat 8))) fun i1 =>
 wrap64 (Int.add r2 (Int.ofNat 8)) fun i2 =>
 S 1 (aD.i i1 (aD.i i2 aD.n)))
 (S 1 (aD.i r0 (aD.i r2 aD.n)))
noncomputable def aVW (h : Hp) (S : Nat → aD → Option Value) (r0 : Int) : Option Value :=
 bA (lM r0 (Int.ofNat 65536)) fun b0 =>
 bU b0
 (VT .u32 r0 (Int.ofNat 16) (D6 (mY env .shr 143 (Value.int .u32 r0) (Value.int .u64 (Int.ofNat 16))) (Value.int .u32 r0) (Value.int .u64 (Int.ofNat 16))) fun i1 =>
 S 2 (aD.i i1 (aD.i (Int.ofNat 16) aD.n)))
 (S 2 (aD.i r0 (aD.i (Int.ofNat 0) aD.n)))
noncomputable def aRB (h : Hp) (S : Nat → aD → Option Value) : Nat → aD → Option Value := dQ 0 (wI fun r0 => wN (aVW h S r0)) (dQ 2 (wI fun r0 => wI fun r2 => wN (aVV h S r0 r2)) (dQ 1 (wI fun r0 => wI fun r2 => wN (aVU h S r0 r2)) (kR)))
noncomputable def aVX (args : List Value) (h : Hp) : Option Value := plainO (dU [Kd.i .u32] args fun al => G.aN (aRB h) 1000000 0 al)
def a2A : Nat := 1 + (19 - 1)
theorem t112 (h : Hp) (S : Nat → aD → Option Value) : gY (fun l al => G.aX iD dD oG (oN env aRA a2A h) (pO env Try.f112.results.toList) (G.collect a1Z a19 []) l S al) (aRB h S) := by
 unfold aRB
 exact dV (kC fun _ => oC (by kernel_rfl)) <| dV (kC fun _ => kC fun _ => oC (by kernel_rfl)) <| dV (kC fun _ => kC fun _ => oC (by kernel_rfl)) <| gY.nil
theorem a2B : fV Try.prog 112 aVX := dK (C := C0) ok0 (pf := aRA) aLQ (fn := Try.f112) (body := a1Z) (kinds := [Kd.i .u32]) (A := a19) (T := aRB) (by kernel_rfl) (by kernel_rfl) (by kernel_rfl) (by kernel_rfl) (fun h S => t112 h S)
noncomputable def aRC : PF := EI 112 aVX aRA
theorem aLT : eF Try.prog aRC := iN a2B aLQ
noncomputable def aTJ := oO 112 aVX aTI
noncomputable def C42 : dP := cfg aTJ
theorem bFU : C42.Ok := fQ (C := C41) bFT a2B
noncomputable def a2C : Code := (Try.f113.body).getD .skip
noncomputable def a2D : G.eU (List KI) := (Gm 0 [.reg 0 (.i .u64)] Gz (Gn (Gn Gz (Gn Gy Gz)) (Gm 3 [.reg 0 (.i .u64), .reg 2 (.i .i64)] (Gn Gz (Gn Gy Gz)) (Gm 2 [.reg 0 (.i .u64), .reg 2 (.i .i64)] (Gn Gz (Gn Gy Gz)) (Gm 1 [.reg 0 (.i .u64), .reg 2 (.i .i64)] Gz Gz)))))
noncomputable def aVY (h : Hp) (S : Nat → aD → Option Value) (r0 r2 : Int) : Option Value :=
 uP (vT .u8 r0) fun i0 =>
 bR (kE env 9 (Value.string (ByteArray.mk #[0, 1, 2, 2, 3, 3, 3, 3, 4, 4, 4, 4, 4, 4, 4, 4, 5, 5, 5, 5, 5, 5, 5, 5, 5, 5, 5, 5, 5, 5, 5, 5, 6, 6, 6, 6, 6, 6, 6, 6, 6, 6, 6, 6, 6, 6, 6, 6, 6, 6, 6, 6, 6, 6, 6, 6, 6, 6, 6, 6, 6, 6, 6, 6, 7, 7, 7, 7, 7, 7, 7, 7, 7, 7, 7, 7, 7, 7, 7, 7, 7, 7, 7, 7, 7, 7, 7, 7, 7, 7, 7, 7, 7, 7, 7, 7, 7, 7, 7, 7, 7, 7, 7, 7, 7, 7, 7, 7, 7, 7, 7, 7, 7, 7, 7, 7, 7, 7, 7, 7, 7, 7, 7, 7, 7, 7, 7, 7, 8, 8, 8, 8, 8, 8, 8, 8, 8, 8, 8, 8, 8, 8, 8, 8, 8, 8, 8, 8, 8, 8, 8, 8, 8, 8, 8, 8, 8, 8, 8, 8, 8, 8, 8, 8, 8, 8, 8, 8, 8, 8, 8, 8, 8, 8, 8, 8, 8, 8, 8, 8, 8, 8, 8, 8, 8, 8, 8, 8, 8, 8, 8, 8, 8, 8, 8, 8, 8, 8, 8, 8, 8, 8, 8, 8, 8, 8, 8, 8, 8, 8, 8, 8, 8, 8, 8, 8, 8, 8, 8, 8, 8, 8, 8, 8, 8, 8, 8, 8, 8, 8, 8, 8, 8, 8, 8, 8, 8, 8, 8, 8, 8, 8, 8, 8, 8, 8, 8, 8, 8, 8, 8, 8, 8, 8, 8, 8])) (Value.int .u8 i0)) fun v1 =>
 aS .u8 v1 fun i2 =>
 wrap64 i2 fun i3 =>
 wrap64 (Int.add r2 i3) fun i4 =>
 some (Value.int .i64 i4)
noncomputable def aVZ (h : Hp) (S : Nat → aD → Option Value) (r0 r2 : Int) : Option Value :=
 bA (lM r0 (Int.ofNat 256)) fun b0 =>
 bU b0
 (VT .u64 r0 (Int.ofNat 8) (D6 (mY env .shr 145 (Value.int .u64 r0) (Value.int .u64 (Int.ofNat 8))) (Value.int .u64 r0) (Value.int .u64 (Int.ofNat 8))) fun i1 =>
 wrap64 (Int.add r2 (Int.ofNat 8)) fun i2 =>
 S 1 (aD.i i1 (aD.i i2 aD.n)))
 (S 1 (aD.i r0 (aD.i r2 aD.n)))
noncomputable def aV0 (h : Hp) (S : Nat → aD → Option Value) (r0 r2 : Int) : Option Value :=
 bA (lM r0 (Int.ofNat 65536)) fun b0 =>
 bU b0
 (VT .u64 r0 (Int.ofNat 16) (D6 (mY env .shr 145 (Value.int .u64 r0) (Value.int .u64 (Int.ofNat 16))) (Value.int .u64 r0) (Value.int .u64 (Int.ofNat 16))) fun i1 =>
 wrap64 (Int.add r2 (Int.ofNat 16)) fun i2 =>
 S 2 (aD.i i1 (aD.i i2 aD.n)))
 (S 2 (aD.i r0 (aD.i r2 aD.n)))
noncomputable def aV1 (h : Hp) (S : Nat → aD → Option Value) (r0 : Int) : Option Value :=
 bA (lM r0 (Int.ofNat 4294967296)) fun b0 =>
 bU b0
 (VT .u64 r0 (Int.ofNat 32) (D6 (mY env .shr 145 (Value.int .u64 r0) (Value.int .u64 (Int.ofNat 32))) (Value.int .u64 r0) (Value.int .u64 (Int.ofNat 32))) fun i1 =>
 S 3 (aD.i i1 (aD.i (Int.ofNat 32) aD.n)))
 (S 3 (aD.i r0 (aD.i (Int.ofNat 0) aD.n)))
noncomputable def aRD (h : Hp) (S : Nat → aD → Option Value) : Nat → aD → Option Value := dQ 0 (wI fun r0 => wN (aV1 h S r0)) (dQ 3 (wI fun r0 => wI fun r2 => wN (aV0 h S r0 r2)) (dQ 2 (wI fun r0 => wI fun r2 => wN (aVZ h S r0 r2)) (dQ 1 (wI fun r0 => wI fun r2 => wN (aVY h S r0 r2)) (kR))))
noncomputable def aRE (args : List Value) (h : Hp) : Option Value := plainO (dU [Kd.i .u64] args fun al => G.aN (aRD h) 1000000 0 al)
def a2E : Nat := 1 + (25 - 1)
theorem t113 (h : Hp) (S : Nat → aD → Option Value) : gY (fun l al => G.aX iD dD oG (oN env aRC a2E h) (pO env Try.f113.results.toList) (G.collect a2C a2D []) l S al) (aRD h S) := by
 unfold aRD
 exact dV (kC fun _ => oC (by kernel_rfl)) <| dV (kC fun _ => kC fun _ => oC (by kernel_rfl)) <| dV (kC fun _ => kC fun _ => oC (by kernel_rfl)) <| dV (kC fun _ => kC fun _ => oC (by kernel_rfl)) <| gY.nil
theorem a2F : fV Try.prog 113 aRE := dK (C := C0) ok0 (pf := aRC) aLT (fn := Try.f113) (body := a2C) (kinds := [Kd.i .u64]) (A := a2D) (T := aRD) (by kernel_rfl) (by kernel_rfl) (by kernel_rfl) (by kernel_rfl) (fun h S => t113 h S)
noncomputable def aRF : PF := EI 113 aRE aRC
theorem aLU : eF Try.prog aRF := iN a2F aLT
noncomputable def aTK := oO 113 aRE aTJ
noncomputable def C43 : dP := cfg aTK
theorem bFV : C43.Ok := fQ (C := C42) bFU a2F
noncomputable def B97 : Code := (Try.f97.body).getD .skip
noncomputable def A97 : G.eU (List KI) := (Gm 0 [.reg 0 (.i .u64)] Gz (Gn (Gn Gy Gz) Gy))
noncomputable def a2G (h : Hp) (S : Nat → aD → Option Value) (r0 : Int) : Option Value :=
 bR (aRE [(Value.int .u64 r0)] h) fun v0 =>
 aS .i64 v0 fun i1 =>
 some (Value.int .i64 i1)
noncomputable def T97 (h : Hp) (S : Nat → aD → Option Value) : Nat → aD → Option Value := dQ 0 (wI fun r0 => wN (a2G h S r0)) (kR)
noncomputable def F97 (args : List Value) (h : Hp) : Option Value := plainO (dU [Kd.i .u64] args fun al => G.aN (T97 h) 1000000 0 al)
def bFW : Nat := 1 + (8 - 1)
theorem t97 (h : Hp) (S : Nat → aD → Option Value) : gY (fun l al => G.aX iD dD oG (oN env aRF bFW h) (pO env Try.f97.results.toList) (G.collect B97 A97 []) l S al) (T97 h S) := by
 unfold T97
 exact dV (kC fun _ => oC (by kernel_rfl)) <| gY.nil
theorem r97 : fV Try.prog 97 F97 := dK (C := C0) ok0 (pf := aRF) aLU (fn := Try.f97) (body := B97) (kinds := [Kd.i .u64]) (A := A97) (T := T97) (by kernel_rfl) (by kernel_rfl) (by kernel_rfl) (by kernel_rfl) (fun h S => t97 h S)
noncomputable def aRG : PF := EI 97 F97 aRF
theorem aLV : eF Try.prog aRG := iN r97 aLU
noncomputable def aTL := oO 97 F97 aTK
noncomputable def C44 : dP := cfg aTL
theorem bFX : C44.Ok := fQ (C := C43) bFV r97
noncomputable def B98 : Code := (Try.f98.body).getD .skip
noncomputable def A98 : G.eU (List KI) := (Gm 0 [.reg 0 (.i .i64), .reg 1 (.i .i64)] Gz Gy)
noncomputable def a2H (h : Hp) (S : Nat → aD → Option Value) (r0 r1 : Int) : Option Value :=
 VT .i64 r0 r1 (D6 (mY env .shr 3 (Value.int .i64 r0) (Value.int .i64 r1)) (Value.int .i64 r0) (Value.int .i64 r1)) fun i0 =>
 aPZ .i64 i0 (Int.ofNat 1) (Q5 (mY env .and 3 (Value.int .i64 i0) (Value.int .i64 (Int.ofNat 1))) (Value.int .i64 i0) (Value.int .i64 (Int.ofNat 1))) fun i1 =>
 bH (jV i1 (Int.ofNat 1)) fun b2 =>
 some (Value.bool b2)
noncomputable def T98 (h : Hp) (S : Nat → aD → Option Value) : Nat → aD → Option Value := dQ 0 (wI fun r0 => wI fun r1 => wN (a2H h S r0 r1)) (kR)
noncomputable def F98 (args : List Value) (h : Hp) : Option Value := plainO (dU [Kd.i .i64, Kd.i .i64] args fun al => G.aN (T98 h) 1000000 0 al)
def bFY : Nat := 2 + (10 - 2)
theorem t98 (h : Hp) (S : Nat → aD → Option Value) : gY (fun l al => G.aX iD dD oG (oN env aRG bFY h) (pO env Try.f98.results.toList) (G.collect B98 A98 []) l S al) (T98 h S) := by
 unfold T98
 exact dV (kC fun _ => kC fun _ => oC (by kernel_rfl)) <| gY.nil
theorem r98 : fV Try.prog 98 F98 := dK (C := C0) ok0 (pf := aRG) aLV (fn := Try.f98) (body := B98) (kinds := [Kd.i .i64, Kd.i .i64]) (A := A98) (T := T98) (by kernel_rfl) (by kernel_rfl) (by kernel_rfl) (by kernel_rfl) (fun h S => t98 h S)
noncomputable def aRH : PF := EI 98 F98 aRG
theorem aLW : eF Try.prog aRH := iN r98 aLV
noncomputable def aLX := oO 98 F98 aTL
noncomputable def C45 : dP := cfg aLX
theorem bFZ : C45.Ok := fQ (C := C44) bFX r98
noncomputable def B69 : Code := (Try.f69.body).getD .skip
def A69 : eU := (Am 0 [(0, .i .i64)] Ao (An Ao (An (An Ao (An (Am 1 [(0, .i .i64), (3, .v), (7, .i .i64), (8, .i .i64)] (An Ao (An Az (An (An (An Ao (An Ao Az)) Ao) Ao))) Ao) Ao)) (Am 2 [(3, .v)] Ao Ao))))
noncomputable def a2I (S : Sg) (r3 : Value) (h : Hp) : aF :=
 some (r3, h)
noncomputable def aEL (S : Sg) (r0 : Int) (r3 : Value) (r7 r8 : Int) (h : Hp) : aF :=
 bH (lM r8 r7) fun b0 =>
 bU b0
 (aK (bR (F98 [(Value.int .i64 r0), (Value.int .i64 r8)] h) fun v => some (v, h)) fun v1 h1 =>
 dH v1 fun b2 =>
 bU b2
 (aK (aU env h1 22 1 (List.toArray [(0, (Value.int .i64 r8))])) fun v3 h3 =>
 aK (cB env h3 #[22, 22] (List.toArray [r3, v3])) fun v4 h4 =>
 wrap64 (Int.add r8 (Int.ofNat 1)) fun i5 =>
 S 1 (AL.i r0 (AL.v v4 (AL.i r7 (AL.i i5 AL.n)))) h4)
 (wrap64 (Int.add r8 (Int.ofNat 1)) fun i6 =>
 S 1 (AL.i r0 (AL.v r3 (AL.i r7 (AL.i i6 AL.n)))) h1))
 (S 2 (AL.v r3 AL.n) h)
noncomputable def aLY (S : Sg) (r0 : Int) (h : Hp) : aF :=
 uP (vT .u64 r0) fun i0 =>
 aK (bR (F97 [(Value.int .u64 i0)] h) fun v => some (v, h)) fun v1 h1 =>
 aS .i64 v1 fun i2 =>
 S 1 (AL.i r0 (AL.v (Value.slice none 0 0) (AL.i i2 (AL.i (Int.ofNat 0) AL.n)))) h1
noncomputable def T69 (S : Sg) : Sg := bV 0 (uI fun r0 => uN (aLY S r0)) (bV 1 (uI fun r0 => uV fun r3 => uI fun r7 => uI fun r8 => uN (aEL S r0 r3 r7 r8)) (bV 2 (uV fun r3 => uN (a2I S r3)) (jL)))
noncomputable def F69 (args : List Value) (h : Hp) : aF := bB [Kd.i .i64] args fun al => aN T69 1000000 0 al h
def bF0 : Nat := 1 + (20 - 1)
theorem t69 (S : Sg) : iR (fun l vs h => aX (kF env aLX bF0) (j5 env Try.f69.results.toList) (collect B69 A69 []) l S vs h) (T69 S) := by
 unfold T69
 exact dG (gI fun _ => iO fun _ => by kernel_rfl) <| dG (gI fun _ => dA fun _ => gI fun _ => gI fun _ => iO fun _ => by kernel_rfl) <| dG (dA fun _ => iO fun _ => by kernel_rfl) <| Go.bI.iR.nil
theorem r69 : ∀ args h v h', F69 args h = some (v, h') → eG (C45) (.call 69 args.toArray h) (.ret v h') := by
 intro args h v h' e
 exact bE (C := C45) (fn := Try.f69) (body := B69) (np := 1) (A := A69) (T := T69) (kinds := [Kd.i .i64]) (by kernel_rfl) (by kernel_rfl) (by kernel_rfl) (by kernel_rfl) (dJ dL) (by kernel_rfl) (fun S => t69 S) e
noncomputable def aLZ := jF 69 F69 aLX
noncomputable def C46 : dP := cfg aLZ
theorem bF1 : C46.Ok := dB (C := C45) bFZ r69
noncomputable def B68 : Code := (Try.f68.body).getD .skip
def A68 : eU := (Am 0 [(0, .v), (1, .i .i64)] Ao (An Ao Az))
noncomputable def aL0 (S : Sg) (r0 : Value) (r1 : Int) (h : Hp) : aF :=
 bC h 71 (Array.toList (Value.cells r0)) fun a0 h0 =>
 aK (bQ F69 [(Value.int .i64 r1)] h0) fun v1 h1 =>
 bC h1 22 [(Value.slice none 0 0)] fun a2 h2 =>
 iB h2 a2 v1 fun h3 =>
 some ((Value.func (.func 94) (List.toArray []) (List.toArray [a2, a0])), h3)
noncomputable def T68 (S : Sg) : Sg := bV 0 (uV fun r0 => uI fun r1 => uN (aL0 S r0 r1)) (jL)
noncomputable def F68 (args : List Value) (h : Hp) : aF := bB [Kd.v, Kd.i .i64] args fun al => aN T68 1000000 0 al h
def bF2 : Nat := 2 + (9 - 2)
theorem t68 (S : Sg) : iR (fun l vs h => aX (kF env aLZ bF2) (j5 env Try.f68.results.toList) (collect B68 A68 []) l S vs h) (T68 S) := by
 unfold T68
 exact dG (dA fun _ => gI fun _ => iO fun _ => by kernel_rfl) <| Go.bI.iR.nil
theorem r68 : ∀ args h v h', F68 args h = some (v, h') → eG (C46) (.call 68 args.toArray h) (.ret v h') := by
 intro args h v h' e
 exact bE (C := C46) (fn := Try.f68) (body := B68) (np := 2) (A := A68) (T := T68) (kinds := [Kd.v, Kd.i .i64]) (by kernel_rfl) (by kernel_rfl) (by kernel_rfl) (by kernel_rfl) (dJ dL) (by kernel_rfl) (fun S => t68 S) e
noncomputable def aL1 := jF 68 F68 aLZ
noncomputable def C47 : dP := cfg aL1
theorem a2M : C47.Ok := dB (C := C46) bF1 r68
noncomputable def BU := hide [95, 94] aL1
noncomputable def EA : dP := aZJ C47 [95, 94]
theorem bF4 : EA.Ok := aQW a2M _
noncomputable def aCT : FY := fyN
theorem WM : zS EA aCT := aVD _
noncomputable def B95 : Code := (Try.f95.body).getD .skip
def A95 : eU := (Am 0 [(0, .i .i64), (1, .v), (2, .v), (3, .v), (4, .v), (5, .v)] Ao (An (An (An Ao (An Az Ao)) (An Ao (An (An Ao (An (Am 1 [(0, .i .i64), (1, .v), (3, .v), (5, .v), (22, .i .i64), (23, .i .i64)] (An Ao (An Az (An (An (An Ao (An (An Ao (An (Am 2 [(0, .i .i64), (1, .v), (3, .v), (5, .v), (8, .i .i64), (22, .i .i64), (23, .i .i64), (28, .v), (29, .i .i64), (30, .i .i64)] (An Ao (An Az (An (An (An Ao (An Ao Az)) Ao) Ao))) Ao) Ao)) (Am 3 [(0, .i .i64), (1, .v), (3, .v), (5, .v), (8, .i .i64), (22, .i .i64), (23, .i .i64)] Ao (An Ao (An Az Ao))))) Ao) (Am 4 [(0, .i .i64), (1, .v), (3, .v), (5, .v), (22, .i .i64), (23, .i .i64)] Ao Ao)))) Ao) Ao)) (Am 5 [] Ao Ao)))) Ao))
def aV2 : Nat := 6 + (54 - 6)
noncomputable def a2N (R : YF → List Value → Hp → aF) (yf : YF) : RG := rgN
theorem g95 (R : YF → List Value → Hp → aF) (hR : ROk EA 95 R) (yf : YF) (hY : JX EA yf) : BR EA aV2 (a2N R yf) (qD B95 A95) := by
 rw [show qD B95 A95 = [] from by kernel_rfl]
 intro x hx
 exact absurd hx (by simp)
noncomputable def aL2 (R : YF → List Value → Hp → aF) (yf : YF) (S : rW) (z : Z) (h : Hp) : aF :=
 bR (xR (Z.ds (Z.lose z)) h) fun h0 =>
 some ((Value.bool true), h0)
noncomputable def aL3 (R : YF → List Value → Hp → aF) (yf : YF) (S : rW) (r0 : Int) (r1 r3 r5 : Value) (TU WN : Int) (z : Z) (h : Hp) : aF :=
 wrap64 (Int.add WN (Int.ofNat 1)) fun i0 =>
 S 1 (AL.i r0 (AL.v r1 (AL.v r3 (AL.v r5 (AL.i TU (AL.i i0 AL.n)))))) (Z.lose z) h
noncomputable def aL4 (R : YF → List Value → Hp → aF) (yf : YF) (S : rW) (r0 : Int) (r1 r3 r5 : Value) (r8 TU WN : Int) (z : Z) (h : Hp) : aF :=
 aJ (Hp.mk (Hp.next h) (Hp.next h) (Hp.aC h)) r3 fun v0 =>
 aJ (Hp.mk (Hp.next h) (Hp.next h) (Hp.aC h)) r1 fun v1 =>
 dN 1 v1 r0 fun v2 =>
 aJ (Hp.mk (Hp.next h) (Hp.next h) (Hp.aC h)) v2 fun v3 =>
 aS .i64 v3 fun i4 =>
 bR (jX env 76 (List.toArray [(0, (Value.int .i64 r8)), (1, (Value.int .i64 i4))])) fun v5 =>
 eP v5 (Hp.next h) (Hp.mk (Hp.next h) (Hp.next h) T.nil) fun w6 n6 =>
 dN 2 v0 r0 fun v7 =>
 dY 2 (Hp.mk n6 (Hp.ro h) (aG w6 (Hp.aC h))) v7 v5 fun h8 =>
 aJ h8 r5 fun v9 =>
 wrap64 (Int.add r0 (Int.ofNat 1)) fun i10 =>
 aK (EN BU (fyC 95 R aCT) yf v9 [(Value.int .i64 i10)] h8) fun v11 h11 =>
 dH v11 fun b12 =>
 bA b12 fun b13 =>
 bU b13
 (bR (xR (Z.ds (Z.lose z)) h11) fun ZB =>
 some ((Value.bool false), ZB))
 (S 4 (AL.i r0 (AL.v r1 (AL.v r3 (AL.v r5 (AL.i TU (AL.i WN AL.n)))))) (Z.lose z) h11)
noncomputable def aEM (R : YF → List Value → Hp → aF) (yf : YF) (S : rW) (r0 : Int) (r1 r3 r5 : Value) (r8 TU WN : Int) (r28 : Value) (r29 r30 : Int) (z : Z) (h : Hp) : aF :=
 bH (lM r30 r29) fun b0 =>
 bU b0
 (dN 2 r28 r30 fun v1 =>
 aT 2 h v1 fun v2 =>
 bC h 76 [(Value.int .i64 (Int.ofNat 0)), (Value.int .i64 (Int.ofNat 0))] fun a3 h3 =>
 dY 2 h3 a3 v2 fun h4 =>
 aO 0 a3 fun v5 =>
 aJ h4 v5 fun v6 =>
 aS .i64 v6 fun i7 =>
 bH (jV i7 r8) fun b8 =>
 bU b8
 (S 4 (AL.i r0 (AL.v r1 (AL.v r3 (AL.v r5 (AL.i TU (AL.i WN AL.n)))))) (Z.lose z) h4)
 (wrap64 (Int.add r30 (Int.ofNat 1)) fun i9 =>
 S 2 (AL.i r0 (AL.v r1 (AL.v r3 (AL.v r5 (AL.i r8 (AL.i TU (AL.i WN (AL.v r28 (AL.i r29 (AL.i i9 AL.n)))))))))) (Z.lose z) h4))
 (S 3 (AL.i r0 (AL.v r1 (AL.v r3 (AL.v r5 (AL.i r8 (AL.i TU (AL.i WN AL.n))))))) (Z.lose z) h)
noncomputable def aEN (R : YF → List Value → Hp → aF) (yf : YF) (S : rW) (r0 : Int) (r1 r3 r5 : Value) (TU WN : Int) (z : Z) (h : Hp) : aF :=
 bH (lM WN TU) fun b0 =>
 bU b0
 (aJ h r3 fun v1 =>
 bR (jG env h 79 v1 none (some (Value.int .i64 r0)) none) fun v2 =>
 bS v2 fun i3 =>
 S 2 (AL.i r0 (AL.v r1 (AL.v r3 (AL.v r5 (AL.i WN (AL.i TU (AL.i WN (AL.v v2 (AL.i i3 (AL.i (Int.ofNat 0) AL.n)))))))))) (Z.lose z) h)
 (S 5 AL.n (Z.lose z) h)
noncomputable def ZI (R : YF → List Value → Hp → aF) (yf : YF) (S : rW) (r0 : Int) (r1 r2 : Value) (r3 r4 r5 : Value) (z : Z) (h : Hp) : aF :=
 aJ h r1 fun v0 =>
 bS v0 fun i1 =>
 bH (jV r0 i1) fun b2 =>
 bU b2
 (aJ (Hp.mk (Hp.next h) (Hp.next h) (Hp.aC h)) r2 fun v3 =>
 aJ (Hp.mk (Hp.next h) (Hp.next h) (Hp.aC h)) r3 fun v4 =>
 aK (bQ F96 [v4] (Hp.mk (Hp.next h) (Hp.next h) (Hp.aC h))) fun v5 h5 =>
 eP v5 (Hp.next h) h5 fun w6 n6 =>
 aK (EN BU (fyC 95 R aCT) yf v3 [v5] (Hp.mk n6 (Hp.ro h) (aG w6 (Hp.aC h)))) fun v7 h7 =>
 dH v7 fun b8 =>
 bR (xR (Z.ds (Z.lose z)) h7) fun h9 =>
 some ((Value.bool b8), h9))
 (aO 0 r4 fun v10 =>
 aO 2 v10 fun v11 =>
 aJ h v11 fun v12 =>
 bS v12 fun i13 =>
 S 1 (AL.i r0 (AL.v r1 (AL.v r3 (AL.v r5 (AL.i i13 (AL.i (Int.ofNat 0) AL.n)))))) (Z.lose z) h)
noncomputable def MX (R : YF → List Value → Hp → aF) (yf : YF) (S : rW) : rW := Y.bV 0 (Y.uI fun r0 => Y.uV fun r1 => Y.uV fun r2 => Y.uV fun r3 => Y.uV fun r4 => Y.uV fun r5 => Y.uN (ZI R yf S r0 r1 r2 r3 r4 r5)) (Y.bV 1 (Y.uI fun r0 => Y.uV fun r1 => Y.uV fun r3 => Y.uV fun r5 => Y.uI fun TU => Y.uI fun WN => Y.uN (aEN R yf S r0 r1 r3 r5 TU WN)) (Y.bV 2 (Y.uI fun r0 => Y.uV fun r1 => Y.uV fun r3 => Y.uV fun r5 => Y.uI fun r8 => Y.uI fun TU => Y.uI fun WN => Y.uV fun r28 => Y.uI fun r29 => Y.uI fun r30 => Y.uN (aEM R yf S r0 r1 r3 r5 r8 TU WN r28 r29 r30)) (Y.bV 3 (Y.uI fun r0 => Y.uV fun r1 => Y.uV fun r3 => Y.uV fun r5 => Y.uI fun r8 => Y.uI fun TU => Y.uI fun WN => Y.uN (aL4 R yf S r0 r1 r3 r5 r8 TU WN)) (Y.bV 4 (Y.uI fun r0 => Y.uV fun r1 => Y.uV fun r3 => Y.uV fun r5 => Y.uI fun TU => Y.uI fun WN => Y.uN (aL3 R yf S r0 r1 r3 r5 TU WN)) (Y.bV 5 (Y.uN (aL2 R yf S)) (Y.jL))))))
theorem t95 (R : YF → List Value → Hp → aF) (yf : YF) (S : rW) : Y.iR (fun l vs z h => Y.aX (a2N R yf) (fyC 95 R aCT) yf none aV2 0 (aEB env BU (fyC 95 R aCT) aV2 yf) (PD env Try.f95.results.toList) (PD env Try.f95.results.toList) Y1 (Y.collect B95 A95 []) l S vs z h) (MX R yf S) := by
 unfold MX
 exact BS (Y4 fun _ => D8 fun _ => D8 fun _ => D8 fun _ => D8 fun _ => D8 fun _ => ywN fun _ _ => by kernel_rfl) <| BS (Y4 fun _ => D8 fun _ => D8 fun _ => D8 fun _ => Y4 fun _ => Y4 fun _ => ywN fun _ _ => by kernel_rfl) <| BS (Y4 fun _ => D8 fun _ => D8 fun _ => D8 fun _ => Y4 fun _ => Y4 fun _ => Y4 fun _ => D8 fun _ => Y4 fun _ => Y4 fun _ => ywN fun _ _ => by kernel_rfl) <| BS (Y4 fun _ => D8 fun _ => D8 fun _ => D8 fun _ => Y4 fun _ => Y4 fun _ => Y4 fun _ => ywN fun _ _ => by kernel_rfl) <| BS (Y4 fun _ => D8 fun _ => D8 fun _ => D8 fun _ => Y4 fun _ => Y4 fun _ => ywN fun _ _ => by kernel_rfl) <| BS (ywN fun _ _ => by kernel_rfl) <| Y.iR.nil
noncomputable def J2 (R : YF → List Value → Hp → aF) (yf : YF) (args : List Value) (h : Hp) : aF := bB [Kd.i .i64, Kd.v, Kd.v, Kd.v, Kd.v, Kd.v] args fun al => lH (MX R yf) 1000000 0 al ⟨some (jK args 0 bI.T.nil), []⟩ h
theorem bF5 (R : YF → List Value → Hp → aF) (hR : ROk EA 95 R) (yf : YF) (hY : JX EA yf) : ∀ args h v h', J2 R yf args h = some (v, h') → eG EA (.call 95 args.toArray h) (.ret v h') := by
 intro args h v h' e
 exact FQ (C := EA) (fn := Try.f95) (body := B95) (np := 6) (A := A95) (T := MX R yf) (kinds := [Kd.i .i64, Kd.v, Kd.v, Kd.v, Kd.v, Kd.v]) (O9 (C := EA) dL (WI (fun a h => by kernel_rfl) (by kernel_rfl) hR WM) hY) hY (WI (fun a h => by kernel_rfl) (by kernel_rfl) hR WM) (by kernel_rfl) (by kernel_rfl) (by kernel_rfl) (by kernel_rfl) (g95 R hR yf hY) (by kernel_rfl) (fun S => t95 R yf S) e
noncomputable def a2P : YF → List Value → Hp → aF := IG J2 64
theorem bF6 (yf : YF) (hY : JX EA yf) : ∀ args h v h', a2P yf args h = some (v, h') → eG EA (.call 95 args.toArray h) (.ret v h') := aEC (G := J2) (fun R hR yf hY => bF5 R hR yf hY) 64 yf hY
noncomputable def J3 : FY := fyC 95 a2P aCT
theorem J4 : zS EA J3 := WI (fun a h => by kernel_rfl) (by kernel_rfl) (fun yf hY => bF6 yf hY) WM
noncomputable def B94 : Code := (Try.f94.body).getD .skip
def A94 : eU := (Am 0 [(0, .v), (1, .v), (2, .v)] Ao (An Ao (An Ao Az)))
def aV3 : Nat := 3 + (12 - 3)
noncomputable def a2Q (yf : YF) : RG := rgN
theorem g94 (yf : YF) (hY : JX EA yf) : BR EA aV3 (a2Q yf) (qD B94 A94) := by
 rw [show qD B94 A94 = [] from by kernel_rfl]
 intro x hx
 exact absurd hx (by simp)
noncomputable def aL5 (yf : YF) (S : rW) (r0 r1 r2 : Value) (z : Z) (h : Hp) : aF :=
 bC h 90 (Array.toList (Value.cells r0)) fun a0 h0 =>
 aJ h0 r1 fun v1 =>
 bS v1 fun i2 =>
 aK (o9 env h0 79 (Value.int .i64 i2) (Value.int .i64 i2)) fun v3 h3 =>
 bC h3 79 [(Value.slice none 0 0)] fun a4 h4 =>
 iB h4 a4 v3 fun h5 =>
 bC h5 105 [Value.nilFunc] fun a6 h6 =>
 iB h6 a6 (Value.func (.func 95) (List.toArray []) (List.toArray [r1, a0, a4, r2, a6])) fun h7 =>
 aJ h7 a6 fun v8 =>
 aK (EN BU J3 yf v8 [(Value.int .i64 (Int.ofNat 0))] h7) fun v9 h9 =>
 dH v9 fun b10 =>
 bR (xR (Z.ds (Z.lose z)) h9) fun h11 =>
 some (Value.tuple (List.toArray []), h11)
noncomputable def T94 (yf : YF) (S : rW) : rW := Y.bV 0 (Y.uV fun r0 => Y.uV fun r1 => Y.uV fun r2 => Y.uN (aL5 yf S r0 r1 r2)) (Y.jL)
theorem t94 (yf : YF) (S : rW) : Y.iR (fun l vs z h => Y.aX (a2Q yf) J3 yf none aV3 0 (aEB env BU J3 aV3 yf) (PD env Try.f94.results.toList) (PD env Try.f94.results.toList) Y1 (Y.collect B94 A94 []) l S vs z h) (T94 yf S) := by
 unfold T94
 exact BS (D8 fun _ => D8 fun _ => D8 fun _ => ywN fun _ _ => by kernel_rfl) <| Y.iR.nil
noncomputable def aG3 (yf : YF) (args : List Value) (h : Hp) : aF := bB [Kd.v, Kd.v, Kd.v] args fun al => lH (T94 yf) 1000000 0 al ⟨some (jK args 0 bI.T.nil), []⟩ h
theorem bF7 (yf : YF) (hY : JX EA yf) : ∀ args h v h', aG3 yf args h = some (v, h') → eG EA (.call 94 args.toArray h) (.ret v h') := by
 intro args h v h' e
 exact FQ (C := EA) (fn := Try.f94) (body := B94) (np := 3) (A := A94) (T := T94 yf) (kinds := [Kd.v, Kd.v, Kd.v]) (O9 (C := EA) dL J4 hY) hY J4 (by kernel_rfl) (by kernel_rfl) (by kernel_rfl) (by kernel_rfl) (g94 yf hY) (by kernel_rfl) (fun S => t94 yf S) e
noncomputable def vD : FY := fyC 94 aG3 J3
theorem DL : zS EA vD := WI (fun a h => by kernel_rfl) (by kernel_rfl) (fun yf hY => bF7 yf hY) J4
noncomputable def aL6 : Code := (Try.f101.body).getD .skip
def aL7 : eU := (Am 0 [(0, .v), (1, .v)] Ao (An Ao (An Ao (An (An Ao (An (An (Am 1 [(3, .v), (6, .v), (7, .v)] Ao Ao) Ao) Ao)) (Am 2 [(6, .v), (7, .v)] Ao Ao)))))
def IK : Nat := 2 + (23 - 2)
noncomputable def lU : QX := (qD aL6 aL7).getD 0 ⟨0, [], #[], .skip, .skip⟩
noncomputable def MZ : eU := (Am 0 [(10, .v), (3, .v), (6, .v), (7, .v)] Ao Ao)
noncomputable def IL : eU := (Am 1 [(3, .v), (6, .v), (7, .v), (8, .v)] (An Ao Az) Ao)
noncomputable def aEO (yf : YF) : RG := rgN
theorem aV5 (yf : YF) (hY : JX EA yf) : BR EA IK (aEO yf) (qD (QX.a lU) MZ ++ qD (QX.b lU) IL) := by
 rw [show qD (QX.a lU) MZ ++ qD (QX.b lU) IL = [] from by kernel_rfl]
 intro x hx
 exact absurd hx (by simp)
noncomputable def PN (yf : YF) (l0 : Nat) (S : rW) (r3 r6 : Value) (r7 r8 : Value) (z : Z) (h : Hp) : aF :=
 aJ h r7 fun v0 =>
 dH v0 fun b1 =>
 bA b1 fun b2 =>
 bU b2
 (iB h r6 r8 fun h3 =>
 iB h3 r7 (Value.bool true) fun h4 =>
 some (Value.bool true, h4))
 (aJ h r3 fun v5 =>
 aJ h r6 fun v6 =>
 aK (EN BU vD yf v5 [r8, v6] h) fun v7 h7 =>
 aS .i64 v7 fun i8 =>
 bH (lM i8 (Int.ofNat 0)) fun b9 =>
 bU b9
 (iB h7 r6 r8 fun h10 =>
 iB h10 r7 (Value.bool true) fun h11 =>
 some (Value.bool true, h11))
 (some (Value.bool true, h7)))
noncomputable def aL8 (yf : YF) (l0 : Nat) (S : rW) (mK r3 : Value) (r6 r7 : Value) (z : Z) (h : Hp) : aF :=
 EM l0 h fun h0 =>
 S 1 (AL.v r3 (AL.v r6 (AL.v r7 (AL.v mK AL.n)))) (Z.lose z) h0
noncomputable def vE (yf : YF) (l0 : Nat) (S : rW) : rW := Y.bV 0 (Y.uV fun mK => Y.uV fun r3 => Y.uV fun r6 => Y.uV fun r7 => Y.uN (aL8 yf l0 S mK r3 r6 r7)) (Y.bV 1 (Y.uV fun r3 => Y.uV fun r6 => Y.uV fun r7 => Y.uV fun r8 => Y.uN (PN yf l0 S r3 r6 r7 r8)) (Y.jL))
theorem aV6 (yf : YF) (l0 : Nat) (S : rW) : Y.iR (fun l vs z h => Y.aX (aEO yf) vD yf (some l0) IK l0 (aEB env BU vD IK yf) Y.aVA Y.aVB Y.aVC (Y.collect (QX.a lU) MZ [Y.Frame.gate (QX.b lU) IL] ++ Y.collect (QX.b lU) IL []) l S vs z h) (vE yf l0 S) := by
 unfold vE
 exact BS (D8 fun _ => D8 fun _ => D8 fun _ => D8 fun _ => ywN fun _ _ => by kernel_rfl) <| BS (D8 fun _ => D8 fun _ => D8 fun _ => D8 fun _ => ywN fun _ _ => by kernel_rfl) <| Y.iR.nil
noncomputable def aEP (yf : YF) (l : Nat) (al : AL) (z : Z) (args : List Value) (h : Hp) : aF := FR [(10, Kd.v)] args al ⟨z.tm, []⟩ fun al z => lH (vE yf l) 1000000 0 al z h
theorem aRI (yf : YF) (hY : JX EA yf) (ρ : RG) (hρ : ∀ l al z args h, ρ (QX.j lU) l al z args h = aEP yf l al z args h) : TP EA IK ρ (QX.j lU) (QX.keep lU) (QX.ps lU) (QX.a lU) (QX.b lU) :=
 Y2 (C := EA) (kinds := [Kd.v]) (Aa := MZ) (Ab := IL) (T := vE yf) (fun _ => O9 (C := EA) dL DL hY) hY DL (by kernel_rfl) (of_decide_eq_true (by kernel_rfl)) (by kernel_rfl) (aV5 yf hY) (by kernel_rfl) (fun gl S => aV6 yf gl S) hρ
noncomputable def ZJ (yf : YF) : RG := rgC 1 (aEP yf) (rgN)
theorem bF8 (yf : YF) (hY : JX EA yf) : BR EA IK (ZJ yf) (qD aL6 aL7) := by
 rw [show qD aL6 aL7 = [lU] from by kernel_rfl]
 intro x hx
 rcases List.mem_cons.1 hx with rfl | hx
 ·exact aRI yf hY _ (fun l al z args h => by kernel_rfl)
 exact absurd hx (by simp)
noncomputable def aCU (yf : YF) (S : rW) (r6 r7 : Value) (z : Z) (h : Hp) : aF :=
 aJ h r6 fun v0 =>
 aJ h r7 fun v1 =>
 dH v1 fun b2 =>
 bR (xR (Z.ds (Z.lose z)) h) fun h3 =>
 some (Value.tuple (List.toArray [v0, (Value.bool b2)]), h3)
noncomputable def aCV (yf : YF) (S : rW) (r0 r1 : Value) (z : Z) (h : Hp) : aF :=
 bC h 133 (Array.toList (Value.cells r1)) fun a0 h0 =>
 bC h0 79 [(Value.slice none 0 0)] fun a1 h1 =>
 bC h1 4 [(Value.bool false)] fun a2 h2 =>
 iB h2 a2 (Value.bool false) fun h3 =>
 bR (Z.tm (Z.put (Z.put (Z.put (Z.put (Z.put (Z.put z 3 a0) 4 (Value.slice none 0 0)) 5 (Value.bool false)) 6 a1) 7 a2) 9 r0)) fun tm4 =>
 aJN vD yf none (fun d => LX.mk tm4 IK (QX.ps lU) (QX.a lU) (QX.b lU) d) r0 h3 (fun l args h => ZJ yf 1 l (AL.v a0 (AL.v a1 (AL.v a2 AL.n))) (Z.put (Z.put (Z.put (Z.put (Z.put (Z.put z 3 a0) 4 (Value.slice none 0 0)) 5 (Value.bool false)) 6 a1) 7 a2) 9 r0) args h) fun e4 mk4 h4 =>
 exK e4
 (S 2 (AL.v a1 (AL.v a2 AL.n)) (Z.mark (Z.put (Z.put (Z.put (Z.put (Z.put (Z.put z 3 a0) 4 (Value.slice none 0 0)) 5 (Value.bool false)) 6 a1) 7 a2) 9 r0) mk4) h4)
 (bR (xR (Z.ds (Z.mark (Z.put (Z.put (Z.put (Z.put (Z.put (Z.put z 3 a0) 4 (Value.slice none 0 0)) 5 (Value.bool false)) 6 a1) 7 a2) 9 r0) mk4)) h4) fun h5 =>
 some (Value.tuple (List.toArray [(Value.slice none 0 0), (Value.bool false)]), h5))
 fun i4 => none
noncomputable def WO (yf : YF) (S : rW) : rW := Y.bV 0 (Y.uV fun r0 => Y.uV fun r1 => Y.uN (aCV yf S r0 r1)) (Y.bV 2 (Y.uV fun r6 => Y.uV fun r7 => Y.uN (aCU yf S r6 r7)) (Y.jL))
theorem t101 (yf : YF) (S : rW) : Y.iR (fun l vs z h => Y.aX (ZJ yf) vD yf none IK 0 (aQT env BU vD IK yf) (PD env Try.f101.results.toList) (PD env Try.f101.results.toList) Y1 (Y.collect aL6 aL7 []) l S vs z h) (WO yf S) := by
 unfold WO
 exact BS (D8 fun _ => D8 fun _ => ywN fun _ _ => by kernel_rfl) <| BS (D8 fun _ => D8 fun _ => ywN fun _ _ => by kernel_rfl) <| Y.iR.nil
noncomputable def aL9 (yf : YF) (args : List Value) (h : Hp) : aF := bB [Kd.v, Kd.v] args fun al => lH (WO yf) 1000000 0 al ⟨some (jK args 0 bI.T.nil), []⟩ h
theorem a2R (yf : YF) (hY : JX EA yf) : ∀ args h v h', aL9 yf args h = some (v, h') → eG EA (.call 101 args.toArray h) (.ret v h') := by
 intro args h v h' e
 exact FQ (C := EA) (fn := Try.f101) (body := aL6) (np := 2) (A := aL7) (T := WO yf) (kinds := [Kd.v, Kd.v]) (aEA (C := EA) dL DL hY) hY DL (by kernel_rfl) (by kernel_rfl) (by kernel_rfl) (by kernel_rfl) (bF8 yf hY) (by kernel_rfl) (fun S => t101 yf S) e
noncomputable def aCW (args : List Value) (h : Hp) : aF := aL9 yN args h
theorem bF9 : ∀ args h v h', aCW args h = some (v, h') → eG EA (.call 101 args.toArray h) (.ret v h') := a2R yN (aZH _)
noncomputable def aMA := jF 101 aCW aL1
noncomputable def C48 : dP := cfg aMA
theorem bGA : C48.Ok := aJY (C := C47) a2M bF4 rfl bF9
noncomputable def B76 : Code := (Try.f76.body).getD .skip
def A76 : eU := (Am 0 [(0, .v), (1, .i .i64)] Ao (An Ao (An (An Ao (An Az Ao)) Az)))
noncomputable def aMB (S : Sg) (r0 : Value) (r1 : Int) (h : Hp) : aF :=
 bC h 71 (Array.toList (Value.cells r0)) fun a0 h0 =>
 aT 5 (Hp.mk (Hp.next h0) (Hp.next h0) (Hp.aC h0)) a0 fun v1 =>
 aK (bQ F68 [v1, (Value.int .i64 r1)] (Hp.mk (Hp.next h0) (Hp.next h0) (Hp.aC h0))) fun v2 h2 =>
 eP v2 (Hp.next h0) h2 fun w3 n3 =>
 aT 5 (Hp.mk n3 n3 (Hp.aC h0)) a0 fun v4 =>
 eP (Value.func (.func 102) (List.toArray [v4]) (List.toArray [])) n3 (Hp.mk n3 n3 T.nil) fun w5 n5 =>
 aT 5 (Hp.mk n5 n5 (Hp.aC h0)) a0 fun v6 =>
 eP (Value.func (.func 54) (List.toArray [v6]) (List.toArray [])) n5 (Hp.mk n5 n5 T.nil) fun w7 n7 =>
 bR (jX env 135 (List.toArray [(0, (Value.func (.func 102) (List.toArray [v4]) (List.toArray []))), (1, (Value.func (.func 54) (List.toArray [v6]) (List.toArray [])))])) fun v8 =>
 eP v8 n7 (Hp.mk n7 n7 T.nil) fun w9 n9 =>
 eP (Value.func (.func 103) (List.toArray [v8]) (List.toArray [])) n9 (Hp.mk n9 n9 T.nil) fun TV n10 =>
 aK (bQ aCW [v2, (Value.func (.func 103) (List.toArray [v8]) (List.toArray []))] (Hp.mk n10 n10 (aG TV (aG w9 (aG w7 (aG w5 (aG w3 (Hp.aC h0)))))))) fun v11 h11 =>
 eP v11 n10 h11 fun QY n12 =>
 eB v11 0 fun v13 =>
 eB v11 1 fun v14 =>
 dH v14 fun b15 =>
 bA b15 fun b16 =>
 bU b16
 (some (Value.tuple (List.toArray [(Value.slice none 0 0), (Value.int .i64 (Int.ofNat 9))]), (Hp.mk n12 (Hp.ro h0) (aG QY (aG TV (aG w9 (aG w7 (aG w5 (aG w3 (Hp.aC h0))))))))))
 (some (Value.tuple (List.toArray [v13, (Value.int .i64 (Int.ofNat 0))]), (Hp.mk n12 (Hp.ro h0) (aG QY (aG TV (aG w9 (aG w7 (aG w5 (aG w3 (Hp.aC h0))))))))))
noncomputable def T76 (S : Sg) : Sg := bV 0 (uV fun r0 => uI fun r1 => uN (aMB S r0 r1)) (jL)
noncomputable def F76 (args : List Value) (h : Hp) : aF := bB [Kd.v, Kd.i .i64] args fun al => aN T76 1000000 0 al h
def bGB : Nat := 2 + (24 - 2)
theorem t76 (S : Sg) : iR (fun l vs h => aX (aGO env aMA bGB) (j5 env Try.f76.results.toList) (collect B76 A76 []) l S vs h) (T76 S) := by
 unfold T76
 exact dG (dA fun _ => gI fun _ => iO fun _ => by kernel_rfl) <| Go.bI.iR.nil
theorem r76 : ∀ args h v h', F76 args h = some (v, h') → eG (C48) (.call 76 args.toArray h) (.ret v h') := by
 intro args h v h' e
 exact bE (C := C48) (fn := Try.f76) (body := B76) (np := 2) (A := A76) (T := T76) (kinds := [Kd.v, Kd.i .i64]) (by kernel_rfl) (by kernel_rfl) (by kernel_rfl) (by kernel_rfl) (MV dL) (by kernel_rfl) (fun S => t76 S) e
noncomputable def aMC := jF 76 F76 aMA
noncomputable def C49 : dP := cfg aMC
theorem bGC : C49.Ok := dB (C := C48) bGA r76
noncomputable def B64 : Code := (Try.f64.body).getD .skip
def A64 : eU := (Am 0 [(0, .v), (1, .i .i64)] Ao (An Ao (An (An Ao (An Az Ao)) Az)))
noncomputable def aMD (S : Sg) (r0 : Value) (r1 : Int) (h : Hp) : aF :=
 bC h 71 (Array.toList (Value.cells r0)) fun a0 h0 =>
 aT 5 h0 a0 fun v1 =>
 aK (bQ F76 [v1, (Value.int .i64 r1)] h0) fun v2 h2 =>
 eB v2 0 fun v3 =>
 eB v2 1 fun v4 =>
 aS .i64 v4 fun i5 =>
 bA (jV i5 (Int.ofNat 0)) fun b6 =>
 bU b6
 (some (Value.tuple (List.toArray [(Value.slice none 0 0), (Value.int .i64 (Int.ofNat 9))]), h2))
 (aT 5 h2 a0 fun v7 =>
 aK (bQ F62 [v7, v3] h2) fun v8 h8 =>
 dH v8 fun b9 =>
 bA b9 fun b10 =>
 bU b10
 (some (Value.tuple (List.toArray [(Value.slice none 0 0), (Value.int .i64 (Int.ofNat 9))]), h8))
 (some (Value.tuple (List.toArray [v3, (Value.int .i64 (Int.ofNat 0))]), h8)))
noncomputable def T64 (S : Sg) : Sg := bV 0 (uV fun r0 => uI fun r1 => uN (aMD S r0 r1)) (jL)
noncomputable def F64 (args : List Value) (h : Hp) : aF := bB [Kd.v, Kd.i .i64] args fun al => aN T64 1000000 0 al h
def bGD : Nat := 2 + (23 - 2)
theorem t64 (S : Sg) : iR (fun l vs h => aX (aGO env aMC bGD) (j5 env Try.f64.results.toList) (collect B64 A64 []) l S vs h) (T64 S) := by
 unfold T64
 exact dG (dA fun _ => gI fun _ => iO fun _ => by kernel_rfl) <| Go.bI.iR.nil
theorem r64 : ∀ args h v h', F64 args h = some (v, h') → eG (C49) (.call 64 args.toArray h) (.ret v h') := by
 intro args h v h' e
 exact bE (C := C49) (fn := Try.f64) (body := B64) (np := 2) (A := A64) (T := T64) (kinds := [Kd.v, Kd.i .i64]) (by kernel_rfl) (by kernel_rfl) (by kernel_rfl) (by kernel_rfl) (MV dL) (by kernel_rfl) (fun S => t64 S) e
noncomputable def aME := jF 64 F64 aMC
noncomputable def C50 : dP := cfg aME
theorem bGE : C50.Ok := dB (C := C49) bGC r64
noncomputable def B66 : Code := (Try.f66.body).getD .skip
def A66 : eU := (Am 0 [(0, .v)] Ao (An Ao (An (An Ao (An (Am 1 [(3, .v), (6, .v), (7, .i .i64), (8, .i .i64)] (An Ao (An Az (An (An Az Ao) Ao))) Ao) Ao)) (Am 2 [(3, .v)] Ao Ao))))
noncomputable def a2U (S : Sg) (r3 : Value) (h : Hp) : aF :=
 some (r3, h)
noncomputable def aEQ (S : Sg) (r3 r6 : Value) (r7 r8 : Int) (h : Hp) : aF :=
 bH (lM r8 r7) fun b0 =>
 bU b0
 (dN 2 r6 r8 fun v1 =>
 aT 2 h v1 fun v2 =>
 bC h 76 [(Value.int .i64 (Int.ofNat 0)), (Value.int .i64 (Int.ofNat 0))] fun a3 h3 =>
 dY 2 h3 a3 v2 fun h4 =>
 aO 0 a3 fun v5 =>
 aJ h4 v5 fun v6 =>
 aS .i64 v6 fun i7 =>
 aK (aU env h4 22 1 (List.toArray [(0, (Value.int .i64 i7))])) fun v8 h8 =>
 aK (cB env h8 #[22, 22] (List.toArray [r3, v8])) fun v9 h9 =>
 wrap64 (Int.add r8 (Int.ofNat 1)) fun i10 =>
 S 1 (AL.v v9 (AL.v r6 (AL.i r7 (AL.i i10 AL.n)))) h9)
 (S 2 (AL.v r3 AL.n) h)
noncomputable def aMF (S : Sg) (r0 : Value) (h : Hp) : aF :=
 bS r0 fun i0 =>
 S 1 (AL.v (Value.slice none 0 0) (AL.v r0 (AL.i i0 (AL.i (Int.ofNat 0) AL.n)))) h
noncomputable def T66 (S : Sg) : Sg := bV 0 (uV fun r0 => uN (aMF S r0)) (bV 1 (uV fun r3 => uV fun r6 => uI fun r7 => uI fun r8 => uN (aEQ S r3 r6 r7 r8)) (bV 2 (uV fun r3 => uN (a2U S r3)) (jL)))
noncomputable def F66 (args : List Value) (h : Hp) : aF := bB [Kd.v] args fun al => aN T66 1000000 0 al h
def bGF : Nat := 1 + (19 - 1)
theorem t66 (S : Sg) : iR (fun l vs h => aX (kF env aME bGF) (j5 env Try.f66.results.toList) (collect B66 A66 []) l S vs h) (T66 S) := by
 unfold T66
 exact dG (dA fun _ => iO fun _ => by kernel_rfl) <| dG (dA fun _ => dA fun _ => gI fun _ => gI fun _ => iO fun _ => by kernel_rfl) <| dG (dA fun _ => iO fun _ => by kernel_rfl) <| Go.bI.iR.nil
theorem r66 : ∀ args h v h', F66 args h = some (v, h') → eG (C50) (.call 66 args.toArray h) (.ret v h') := by
 intro args h v h' e
 exact bE (C := C50) (fn := Try.f66) (body := B66) (np := 1) (A := A66) (T := T66) (kinds := [Kd.v]) (by kernel_rfl) (by kernel_rfl) (by kernel_rfl) (by kernel_rfl) (dJ dL) (by kernel_rfl) (fun S => t66 S) e
noncomputable def aMG := jF 66 F66 aME
noncomputable def C51 : dP := cfg aMG
theorem bGG : C51.Ok := dB (C := C50) bGE r66
noncomputable def B26 : Code := (Try.f26.body).getD .skip
def A26 : eU := (Am 0 [(0, .v)] Ao (An Ao (An (An Ao (An Az Ao)) (An Ao (An (An Ao (An Az Ao)) Az)))))
noncomputable def aMH (S : Sg) (r0 : Value) (h : Hp) : aF :=
 bC h 25 (Array.toList (Value.cells r0)) fun a0 h0 =>
 aT 4 h0 a0 fun v1 =>
 aK (bQ F63 [v1] h0) fun v2 h2 =>
 eB v2 0 fun v3 =>
 eB v2 1 fun v4 =>
 aS .i64 v4 fun i5 =>
 bC h2 71 [(Value.slice none 0 0), (Value.slice none 0 0), (Value.slice none 0 0), (Value.slice none 0 0), (Value.map none)] fun a6 h6 =>
 dY 5 h6 a6 v3 fun h7 =>
 bA (jV i5 (Int.ofNat 0)) fun b8 =>
 bU b8
 (some (Value.tuple (List.toArray [(Value.slice none 0 0), (Value.int .i64 (Int.ofNat 0)), (Value.int .i64 i5)]), h7))
 (aT 5 (Hp.mk (Hp.next h7) (Hp.next h7) (Hp.aC h7)) a6 fun v9 =>
 aT 5 (Hp.mk (Hp.next h7) (Hp.next h7) (Hp.aC h7)) a6 fun v10 =>
 aK (bR (F65 [v10] (Hp.mk (Hp.next h7) (Hp.next h7) (Hp.aC h7))) fun v => some (v, (Hp.mk (Hp.next h7) (Hp.next h7) (Hp.aC h7)))) fun v11 h11 =>
 aS .i64 v11 fun i12 =>
 aK (bQ F64 [v9, (Value.int .i64 i12)] (Hp.mk (Hp.next h7) (Hp.next h7) (Hp.aC h7))) fun v13 zT =>
 eP v13 (Hp.next h7) zT fun DN n14 =>
 eB v13 0 fun v15 =>
 eB v13 1 fun v16 =>
 aS .i64 v16 fun i17 =>
 bA (jV i17 (Int.ofNat 0)) fun b18 =>
 bU b18
 (some (Value.tuple (List.toArray [(Value.slice none 0 0), (Value.int .i64 (Int.ofNat 0)), (Value.int .i64 i17)]), (Hp.mk n14 (Hp.ro h7) (aG DN (Hp.aC h7)))))
 (aK (bQ F66 [v15] (Hp.mk (Hp.next (Hp.mk n14 (Hp.ro h7) (aG DN (Hp.aC h7)))) (Hp.next (Hp.mk n14 (Hp.ro h7) (aG DN (Hp.aC h7)))) (Hp.aC (Hp.mk n14 (Hp.ro h7) (aG DN (Hp.aC h7)))))) fun v19 h19 =>
 eP v19 (Hp.next (Hp.mk n14 (Hp.ro h7) (aG DN (Hp.aC h7)))) h19 fun w20 n20 =>
 aT 5 (Hp.mk n20 n20 (Hp.aC (Hp.mk n14 (Hp.ro h7) (aG DN (Hp.aC h7))))) a6 fun v21 =>
 aK (bR (F54 [v21, v15] (Hp.mk n20 (Hp.ro (Hp.mk n14 (Hp.ro h7) (aG DN (Hp.aC h7)))) (aG w20 (Hp.aC (Hp.mk n14 (Hp.ro h7) (aG DN (Hp.aC h7))))))) fun v => some (v, (Hp.mk n20 (Hp.ro (Hp.mk n14 (Hp.ro h7) (aG DN (Hp.aC h7)))) (aG w20 (Hp.aC (Hp.mk n14 (Hp.ro h7) (aG DN (Hp.aC h7)))))))) fun v22 h22 =>
 aS .i64 v22 fun i23 =>
 some (Value.tuple (List.toArray [v19, (Value.int .i64 i23), (Value.int .i64 (Int.ofNat 0))]), h22)))
noncomputable def T26 (S : Sg) : Sg := bV 0 (uV fun r0 => uN (aMH S r0)) (jL)
noncomputable def F26 (args : List Value) (h : Hp) : aF := bB [Kd.v] args fun al => aN T26 1000000 0 al h
def bGH : Nat := 1 + (30 - 1)
theorem t26 (S : Sg) : iR (fun l vs h => aX (aGO env aMG bGH) (j5 env Try.f26.results.toList) (collect B26 A26 []) l S vs h) (T26 S) := by
 unfold T26
 exact dG (dA fun _ => iO fun _ => by kernel_rfl) <| Go.bI.iR.nil
theorem ZA : ∀ args h v h', F26 args h = some (v, h') → eG (C51) (.call 26 args.toArray h) (.ret v h') := by
 intro args h v h' e
 exact bE (C := C51) (fn := Try.f26) (body := B26) (np := 1) (A := A26) (T := T26) (kinds := [Kd.v]) (by kernel_rfl) (by kernel_rfl) (by kernel_rfl) (by kernel_rfl) (MV dL) (by kernel_rfl) (fun S => t26 S) e
noncomputable def aTO := jF 26 F26 aMG
noncomputable def C52 : dP := cfg aTO
theorem bGI : C52.Ok := dB (C := C51) bGG ZA
noncomputable def B55 : Code := (Try.f55.body).getD .skip
noncomputable def A55 : G.eU (List KI) := (Gm 0 [.reg 0 (.i .i64), .reg 1 (.i .i64), .reg 2 (.i .i64)] Gz Gy)
noncomputable def aMJ (h : Hp) (S : Nat → aD → Option Value) (r0 r1 r2 : Int) : Option Value :=
 bA (lM r0 r1) fun b0 =>
 bU b0
 (bA (lM r2 r0) fun b1 =>
 some (Value.bool b1))
 (some (Value.bool false))
noncomputable def T55 (h : Hp) (S : Nat → aD → Option Value) : Nat → aD → Option Value := dQ 0 (wI fun r0 => wI fun r1 => wI fun r2 => wN (aMJ h S r0 r1 r2)) (kR)
noncomputable def F55 (args : List Value) (h : Hp) : Option Value := plainO (dU [Kd.i .i64, Kd.i .i64, Kd.i .i64] args fun al => G.aN (T55 h) 1000000 0 al)
def bGJ : Nat := 3 + (15 - 3)
theorem t55 (h : Hp) (S : Nat → aD → Option Value) : gY (fun l al => G.aX iD dD oG (oN env aRH bGJ h) (pO env Try.f55.results.toList) (G.collect B55 A55 []) l S al) (T55 h S) := by
 unfold T55
 exact dV (kC fun _ => kC fun _ => kC fun _ => oC (by kernel_rfl)) <| gY.nil
theorem r55 : fV Try.prog 55 F55 := dK (C := C0) ok0 (pf := aRH) aLW (fn := Try.f55) (body := B55) (kinds := [Kd.i .i64, Kd.i .i64, Kd.i .i64]) (A := A55) (T := T55) (by kernel_rfl) (by kernel_rfl) (by kernel_rfl) (by kernel_rfl) (fun h S => t55 h S)
noncomputable def aRJ : PF := EI 55 F55 aRH
theorem aMK : eF Try.prog aRJ := iN r55 aLW
noncomputable def aTP := oO 55 F55 aTO
noncomputable def C53 : dP := cfg aTP
theorem bGK : C53.Ok := fQ (C := C52) bGI r55
noncomputable def B50 : Code := (Try.f50.body).getD .skip
noncomputable def A50 : G.eU (List KI) := (Gm 0 [.reg 0 .v, .reg 1 (.i .i64), .reg 2 (.i .i64)] Gz (Gn (Gn Gz (Gn Gy Gz)) (Gn (Gn Gz (Gn (Gm 1 [.reg 0 .v, .reg 2 (.i .i64), .reg 8 (.i .i64)] (Gn (Gn Gz Gy) (Gn (Gn (Gn Gz (Gn Gy Gz)) Gz) Gz)) Gz) Gz)) (Gm 2 [] Gz Gz))))
noncomputable def a2Y (h : Hp) (S : Nat → aD → Option Value) : Option Value :=
 some (Value.tuple (List.toArray [(Value.int .i64 (Int.ofNat 0)), (Value.int .i64 (Int.ofNat 0))]))
noncomputable def aER (h : Hp) (S : Nat → aD → Option Value) (r0 : Value) (r2 r8 : Int) : Option Value :=
 bS r0 fun i0 =>
 bH (lM r8 i0) fun b1 =>
 bU b1
 (dN 1 r0 r8 fun v2 =>
 aJ h v2 fun v3 =>
 aS .i64 v3 fun i4 =>
 bR (F55 [(Value.int .i64 i4), (Value.int .i64 (Int.ofNat 0)), (Value.int .i64 r2)] h) fun v5 =>
 dH v5 fun b6 =>
 bA b6 fun b7 =>
 bU b7
 (some (Value.tuple (List.toArray [(Value.int .i64 r8), (Value.int .i64 (Int.ofNat 7))])))
 (wrap64 (Int.add r8 (Int.ofNat 1)) fun i8 =>
 S 1 (aD.v r0 (aD.i r2 (aD.i i8 aD.n)))))
 (S 2 aD.n)
noncomputable def aML (h : Hp) (S : Nat → aD → Option Value) (r0 : Value) (r1 r2 : Int) : Option Value :=
 bS r0 fun i0 =>
 bR (F55 [(Value.int .i64 i0), (Value.int .i64 (Int.ofNat 1)), (Value.int .i64 r1)] h) fun v1 =>
 dH v1 fun b2 =>
 bA b2 fun b3 =>
 bU b3
 (some (Value.tuple (List.toArray [(Value.int .i64 (Int.ofNat 0)), (Value.int .i64 (Int.ofNat 3))])))
 (S 1 (aD.v r0 (aD.i r2 (aD.i (Int.ofNat 0) aD.n))))
noncomputable def T50 (h : Hp) (S : Nat → aD → Option Value) : Nat → aD → Option Value := dQ 0 (wV fun r0 => wI fun r1 => wI fun r2 => wN (aML h S r0 r1 r2)) (dQ 1 (wV fun r0 => wI fun r2 => wI fun r8 => wN (aER h S r0 r2 r8)) (dQ 2 (wN (a2Y h S)) (kR)))
noncomputable def F50 (args : List Value) (h : Hp) : Option Value := plainO (dU [Kd.v, Kd.i .i64, Kd.i .i64] args fun al => G.aN (T50 h) 1000000 0 al)
def bGL : Nat := 3 + (28 - 3)
theorem t50 (h : Hp) (S : Nat → aD → Option Value) : gY (fun l al => G.aX iD dD oG (oN env aRJ bGL h) (pO env Try.f50.results.toList) (G.collect B50 A50 []) l S al) (T50 h S) := by
 unfold T50
 exact dV (mJ fun _ => kC fun _ => kC fun _ => oC (by kernel_rfl)) <| dV (mJ fun _ => kC fun _ => kC fun _ => oC (by kernel_rfl)) <| dV (oC (by kernel_rfl)) <| gY.nil
theorem r50 : fV Try.prog 50 F50 := dK (C := C0) ok0 (pf := aRJ) aMK (fn := Try.f50) (body := B50) (kinds := [Kd.v, Kd.i .i64, Kd.i .i64]) (A := A50) (T := T50) (by kernel_rfl) (by kernel_rfl) (by kernel_rfl) (by kernel_rfl) (fun h S => t50 h S)
noncomputable def aRK : PF := EI 50 F50 aRJ
theorem aMM : eF Try.prog aRK := iN r50 aMK
noncomputable def aTR := oO 50 F50 aTP
noncomputable def C54 : dP := cfg aTR
theorem bGM : C54.Ok := fQ (C := C53) bGK r50
noncomputable def a2Z : Code := (Try.f117.body).getD .skip
noncomputable def a3A : G.eU (List KI) := (Gm 0 [.reg 0 (.i .i64), .reg 1 (.i .i64), .reg 2 (.i .i64)] Gz Gy)
noncomputable def aCX (h : Hp) (S : Nat → aD → Option Value) (r0 r1 r2 : Int) : Option Value :=
 bA (lM r0 r1) fun b0 =>
 bU b0
 (bA (lM r2 r0) fun b1 =>
 some (Value.bool b1))
 (some (Value.bool false))
noncomputable def aMN (h : Hp) (S : Nat → aD → Option Value) : Nat → aD → Option Value := dQ 0 (wI fun r0 => wI fun r1 => wI fun r2 => wN (aCX h S r0 r1 r2)) (kR)
noncomputable def aG4 (args : List Value) (h : Hp) : Option Value := plainO (dU [Kd.i .i64, Kd.i .i64, Kd.i .i64] args fun al => G.aN (aMN h) 1000000 0 al)
def a3B : Nat := 3 + (15 - 3)
theorem t117 (h : Hp) (S : Nat → aD → Option Value) : gY (fun l al => G.aX iD dD oG (oN env aRK a3B h) (pO env Try.f117.results.toList) (G.collect a2Z a3A []) l S al) (aMN h S) := by
 unfold aMN
 exact dV (kC fun _ => kC fun _ => kC fun _ => oC (by kernel_rfl)) <| gY.nil
theorem a3C : fV Try.prog 117 aG4 := dK (C := C0) ok0 (pf := aRK) aMM (fn := Try.f117) (body := a2Z) (kinds := [Kd.i .i64, Kd.i .i64, Kd.i .i64]) (A := a3A) (T := aMN) (by kernel_rfl) (by kernel_rfl) (by kernel_rfl) (by kernel_rfl) (fun h S => t117 h S)
noncomputable def aRL : PF := EI 117 aG4 aRK
theorem aMO : eF Try.prog aRL := iN a3C aMM
noncomputable def aTS := oO 117 aG4 aTR
noncomputable def C55 : dP := cfg aTS
theorem bGN : C55.Ok := fQ (C := C54) bGM a3C
noncomputable def a3D : Code := (Try.f109.body).getD .skip
noncomputable def a3E : G.eU (List KI) := (Gm 0 [.reg 0 .v] Gz (Gn (Gn Gz (Gn Gy Gz)) (Gn (Gn Gz (Gn (Gm 1 [.reg 0 .v, .reg 3 (.i .i64)] (Gn (Gn Gz Gy) (Gn (Gn (Gn Gz (Gn Gz (Gm 2 [.reg 0 .v, .reg 3 (.i .i64), .reg 4 .b, .reg 5 .b] Gz (Gn Gy Gz)))) Gz) (Gm 3 [.reg 0 .v, .reg 3 (.i .i64)] Gz Gz))) Gz) Gz)) (Gm 4 [] Gz Gz))))
noncomputable def aV8 (h : Hp) (S : Nat → aD → Option Value) : Option Value :=
 some (Value.bool true)
noncomputable def aCY (h : Hp) (S : Nat → aD → Option Value) (r0 : Value) (r3 : Int) : Option Value :=
 wrap64 (Int.add r3 (Int.ofNat 1)) fun i0 =>
 S 1 (aD.v r0 (aD.i i0 aD.n))
noncomputable def WQ (h : Hp) (S : Nat → aD → Option Value) (r0 : Value) (r3 : Int) (r4 r5 : Bool) : Option Value :=
 bA r4 fun b0 =>
 bU b0
 (bH (jV r3 (Int.ofNat 0)) fun b1 =>
 bU b1
 (some (Value.bool false))
 (bA r5 fun b2 =>
 bU b2
 (some (Value.bool false))
 (S 3 (aD.v r0 (aD.i r3 aD.n)))))
 (S 3 (aD.v r0 (aD.i r3 aD.n)))
noncomputable def PO (h : Hp) (S : Nat → aD → Option Value) (r0 : Value) (r3 : Int) : Option Value :=
 KU r0 fun i0 =>
 bH (lM r3 i0) fun b1 =>
 bU b1
 (bR (kE env 9 r0 (Value.int .i64 r3)) fun v2 =>
 aS .u8 v2 fun i3 =>
 wrap64 i3 fun i4 =>
 bR (aG4 [(Value.int .i64 i4), (Value.int .i64 (Int.ofNat 97)), (Value.int .i64 (Int.ofNat 122))] h) fun v5 =>
 dH v5 fun b6 =>
 bR (kE env 9 r0 (Value.int .i64 r3)) fun v7 =>
 aS .u8 v7 fun i8 =>
 wrap64 i8 fun i9 =>
 bR (aG4 [(Value.int .i64 i9), (Value.int .i64 (Int.ofNat 48)), (Value.int .i64 (Int.ofNat 57))] h) fun v10 =>
 dH v10 fun b11 =>
 bU b11
 (S 2 (aD.v r0 (aD.i r3 (aD.b b6 (aD.b true aD.n)))))
 (bR (kE env 9 r0 (Value.int .i64 r3)) fun v12 =>
 aS .u8 v12 fun i13 =>
 bH (jV i13 (Int.ofNat 46)) fun b14 =>
 S 2 (aD.v r0 (aD.i r3 (aD.b b6 (aD.b b14 aD.n))))))
 (S 4 aD.n)
noncomputable def aCZ (h : Hp) (S : Nat → aD → Option Value) (r0 : Value) : Option Value :=
 KU r0 fun i0 =>
 bH (jV i0 (Int.ofNat 0)) fun b1 =>
 bU b1
 (some (Value.bool false))
 (KU r0 fun i2 =>
 bH (lM (Int.ofNat 16) i2) fun b3 =>
 bU b3
 (some (Value.bool false))
 (S 1 (aD.v r0 (aD.i (Int.ofNat 0) aD.n))))
noncomputable def zU (h : Hp) (S : Nat → aD → Option Value) : Nat → aD → Option Value := dQ 0 (wV fun r0 => wN (aCZ h S r0)) (dQ 1 (wV fun r0 => wI fun r3 => wN (PO h S r0 r3)) (dQ 2 (wV fun r0 => wI fun r3 => wB fun r4 => wB fun r5 => wN (WQ h S r0 r3 r4 r5)) (dQ 3 (wV fun r0 => wI fun r3 => wN (aCY h S r0 r3)) (dQ 4 (wN (aV8 h S)) (kR)))))
noncomputable def aMP (args : List Value) (h : Hp) : Option Value := plainO (dU [Kd.v] args fun al => G.aN (zU h) 1000000 0 al)
def a3F : Nat := 1 + (46 - 1)
theorem t109 (h : Hp) (S : Nat → aD → Option Value) : gY (fun l al => G.aX iD dD oG (oN env aRL a3F h) (pO env Try.f109.results.toList) (G.collect a3D a3E []) l S al) (zU h S) := by
 unfold zU
 exact dV (mJ fun _ => oC (by kernel_rfl)) <| dV (mJ fun _ => kC fun _ => oC (by kernel_rfl)) <| dV (mJ fun _ => kC fun _ => rpB fun _ => rpB fun _ => oC (by kernel_rfl)) <| dV (mJ fun _ => kC fun _ => oC (by kernel_rfl)) <| dV (oC (by kernel_rfl)) <| gY.nil
theorem a3G : fV Try.prog 109 aMP := dK (C := C0) ok0 (pf := aRL) aMO (fn := Try.f109) (body := a3D) (kinds := [Kd.v]) (A := a3E) (T := zU) (by kernel_rfl) (by kernel_rfl) (by kernel_rfl) (by kernel_rfl) (fun h S => t109 h S)
noncomputable def aRM : PF := EI 109 aMP aRL
theorem aMQ : eF Try.prog aRM := iN a3G aMO
noncomputable def aTT := oO 109 aMP aTS
noncomputable def C56 : dP := cfg aTT
theorem bGO : C56.Ok := fQ (C := C55) bGN a3G
noncomputable def a3H : Code := (Try.f110.body).getD .skip
noncomputable def a3I : G.eU (List KI) := (Gm 0 [.reg 0 .v, .reg 1 .v] Gz (Gn (Gn Gz (Gn (Gm 1 [.reg 0 .v, .reg 1 .v, .reg 5 (.i .i64)] (Gn (Gn Gz Gy) (Gn (Gn (Gn Gz (Gn Gy Gz)) Gz) Gz)) Gz) Gz)) (Gm 2 [] Gz Gz)))
noncomputable def aV9 (h : Hp) (S : Nat → aD → Option Value) : Option Value :=
 some (Value.int .i64 (Int.negSucc 0))
noncomputable def PP (h : Hp) (S : Nat → aD → Option Value) (r0 r1 : Value) (r5 : Int) : Option Value :=
 bS r0 fun i0 =>
 bH (lM r5 i0) fun b1 =>
 bU b1
 (dN 1 r0 r5 fun v2 =>
 aJ h v2 fun v3 =>
 bR (qQ env .eql 9 (Operand.tmp 15) (Operand.tmp 16) v3 r1) fun v4 =>
 dH v4 fun b5 =>
 bU b5
 (some (Value.int .i64 r5))
 (wrap64 (Int.add r5 (Int.ofNat 1)) fun i6 =>
 S 1 (aD.v r0 (aD.v r1 (aD.i i6 aD.n)))))
 (S 2 aD.n)
noncomputable def aC0 (h : Hp) (S : Nat → aD → Option Value) (r0 r1 : Value) : Option Value :=
 S 1 (aD.v r0 (aD.v r1 (aD.i (Int.ofNat 0) aD.n)))
noncomputable def RB (h : Hp) (S : Nat → aD → Option Value) : Nat → aD → Option Value := dQ 0 (wV fun r0 => wV fun r1 => wN (aC0 h S r0 r1)) (dQ 1 (wV fun r0 => wV fun r1 => wI fun r5 => wN (PP h S r0 r1 r5)) (dQ 2 (wN (aV9 h S)) (kR)))
noncomputable def aMR (args : List Value) (h : Hp) : Option Value := plainO (dU [Kd.v, Kd.v] args fun al => G.aN (RB h) 1000000 0 al)
def a3J : Nat := 2 + (19 - 2)
theorem t110 (h : Hp) (S : Nat → aD → Option Value) : gY (fun l al => G.aX iD dD oG (oN env aRM a3J h) (pO env Try.f110.results.toList) (G.collect a3H a3I []) l S al) (RB h S) := by
 unfold RB
 exact dV (mJ fun _ => mJ fun _ => oC (by kernel_rfl)) <| dV (mJ fun _ => mJ fun _ => kC fun _ => oC (by kernel_rfl)) <| dV (oC (by kernel_rfl)) <| gY.nil
theorem a3K : fV Try.prog 110 aMR := dK (C := C0) ok0 (pf := aRM) aMQ (fn := Try.f110) (body := a3H) (kinds := [Kd.v, Kd.v]) (A := a3I) (T := RB) (by kernel_rfl) (by kernel_rfl) (by kernel_rfl) (by kernel_rfl) (fun h S => t110 h S)
noncomputable def aRN : PF := EI 110 aMR aRM
theorem aMS : eF Try.prog aRN := iN a3K aMQ
noncomputable def aTU := oO 110 aMR aTT
noncomputable def C57 : dP := cfg aTU
theorem bGP : C57.Ok := fQ (C := C56) bGO a3K
noncomputable def B88 : Code := (Try.f88.body).getD .skip
noncomputable def A88 : G.eU (List KI) := (Gm 0 [.reg 0 .v, .reg 1 .v] Gz (Gn (Gn Gz (Gn Gy Gz)) (Gn (Gn Gz (Gn Gy Gz)) Gy)))
noncomputable def aMT (h : Hp) (S : Nat → aD → Option Value) (r0 r1 : Value) : Option Value :=
 bR (aMP [r0] h) fun v0 =>
 dH v0 fun b1 =>
 bA b1 fun b2 =>
 bU b2
 (some (Value.int .i64 (Int.ofNat 6)))
 (bR (aMR [r1, r0] h) fun v3 =>
 aS .i64 v3 fun i4 =>
 bA (lM i4 (Int.ofNat 0)) fun b5 =>
 bU b5
 (some (Value.int .i64 (Int.ofNat 5)))
 (some (Value.int .i64 (Int.ofNat 0))))
noncomputable def T88 (h : Hp) (S : Nat → aD → Option Value) : Nat → aD → Option Value := dQ 0 (wV fun r0 => wV fun r1 => wN (aMT h S r0 r1)) (kR)
noncomputable def F88 (args : List Value) (h : Hp) : Option Value := plainO (dU [Kd.v, Kd.v] args fun al => G.aN (T88 h) 1000000 0 al)
def bGQ : Nat := 2 + (12 - 2)
theorem t88 (h : Hp) (S : Nat → aD → Option Value) : gY (fun l al => G.aX iD dD oG (oN env aRN bGQ h) (pO env Try.f88.results.toList) (G.collect B88 A88 []) l S al) (T88 h S) := by
 unfold T88
 exact dV (mJ fun _ => mJ fun _ => oC (by kernel_rfl)) <| gY.nil
theorem r88 : fV Try.prog 88 F88 := dK (C := C0) ok0 (pf := aRN) aMS (fn := Try.f88) (body := B88) (kinds := [Kd.v, Kd.v]) (A := A88) (T := T88) (by kernel_rfl) (by kernel_rfl) (by kernel_rfl) (by kernel_rfl) (fun h S => t88 h S)
noncomputable def aRO : PF := EI 88 F88 aRN
theorem aMU : eF Try.prog aRO := iN r88 aMS
noncomputable def aTV := oO 88 F88 aTU
noncomputable def C58 : dP := cfg aTV
theorem bGR : C58.Ok := fQ (C := C57) bGP r88
noncomputable def B89 : Code := (Try.f89.body).getD .skip
noncomputable def A89 : G.eU (List KI) := (Gm 0 [.reg 0 .v, .reg 1 .v, .reg 2 .b] Gz (Gn (Gn Gz (Gn Gy Gz)) (Gn (Gn Gz (Gn (G.eU.node (some (1, [.reg 2 .b, .loc 3 3, .loc 4 4, .reg 7 (.i .i64), .cells 3 [.v, .v, .v, .v], .cells 4 [.v, .v, .i .i64]])) (Gn (Gn Gz Gy) (Gn (Gn (Gn Gz (G.eU.node (some (2, [.reg 2 .b, .loc 3 3, .loc 4 4, .reg 7 (.i .i64), .reg 8 .b, .cells 3 [.v, .v, .v, .v], .cells 4 [.v, .v, .i .i64]])) Gz (Gn Gy Gz))) Gz) (G.eU.node (some (3, [.reg 2 .b, .loc 3 3, .loc 4 4, .reg 7 (.i .i64), .cells 3 [.v, .v, .v, .v], .cells 4 [.v, .v, .i .i64]])) Gz Gz))) Gz) Gz)) (G.eU.node (some (8, [.reg 2 .b, .loc 4 4, .cells 4 [.v, .v, .i .i64]])) (Gn Gz (Gn (G.eU.node (some (4, [.reg 2 .b, .loc 4 4, .reg 9 (.i .i64), .cells 4 [.v, .v, .i .i64]])) (Gn (Gn Gz Gy) (Gn (Gn (Gn Gz (G.eU.node (some (5, [.reg 2 .b, .loc 4 4, .reg 9 (.i .i64), .reg 10 .b, .cells 4 [.v, .v, .i .i64]])) Gz (Gn Gy Gz))) Gz) (G.eU.node (some (6, [.reg 2 .b, .loc 4 4, .reg 9 (.i .i64), .cells 4 [.v, .v, .i .i64]])) Gz Gz))) Gz) Gz)) (G.eU.node (some (7, [.loc 4 4, .cells 4 [.v, .v, .i .i64]])) (Gn Gz (Gn Gy Gz)) Gy)))))
noncomputable def aMV (h : Hp) (S : Nat → aD → Option Value) (mZ lI : Value) (mP : Int) : Option Value :=
 bR (F55 [(Value.int .i64 mP), (Value.int .i64 (Int.ofNat 0)), (Value.int .i64 (Int.ofNat 50))] h) fun v0 =>
 dH v0 fun b1 =>
 bA b1 fun b2 =>
 bU b2
 (some (Value.int .i64 (Int.ofNat 7)))
 (some (Value.int .i64 (Int.ofNat 0)))
noncomputable def aMW (h : Hp) (S : Nat → aD → Option Value) (r2 : Bool) (r9 : Int) (mZ lI : Value) (mP : Int) : Option Value :=
 wrap64 (Int.add r9 (Int.ofNat 1)) fun i0 =>
 S 4 (aD.b r2 (aD.i i0 (aD.v mZ (aD.v lI (aD.i mP aD.n)))))
noncomputable def aMX (h : Hp) (S : Nat → aD → Option Value) (r2 : Bool) (r9 : Int) (mK : Bool) (mZ lI : Value) (mP : Int) : Option Value :=
 bA mK fun b0 =>
 bU b0
 (dN 1 lI r9 fun v1 =>
 aJ h v1 fun v2 =>
 aS .i64 v2 fun i3 =>
 bR (F55 [(Value.int .i64 i3), (Value.int .i64 (Int.ofNat 0)), (Value.int .i64 (Int.ofNat 5))] h) fun v4 =>
 dH v4 fun b5 =>
 bA b5 fun b6 =>
 bU b6
 (some (Value.int .i64 (Int.ofNat 7)))
 (S 6 (aD.b r2 (aD.i r9 (aD.v mZ (aD.v lI (aD.i mP aD.n)))))))
 (S 6 (aD.b r2 (aD.i r9 (aD.v mZ (aD.v lI (aD.i mP aD.n))))))
noncomputable def aES (h : Hp) (S : Nat → aD → Option Value) (r2 : Bool) (r9 : Int) (mZ lI : Value) (mP : Int) : Option Value :=
 bS lI fun i0 =>
 bH (lM r9 i0) fun b1 =>
 bU b1
 (bU r2
 (dN 1 lI r9 fun v2 =>
 aJ h v2 fun v3 =>
 aS .i64 v3 fun i4 =>
 bH (jV i4 (Int.negSucc 0)) fun b5 =>
 S 5 (aD.b r2 (aD.i r9 (aD.b b5 (aD.v mZ (aD.v lI (aD.i mP aD.n)))))))
 (S 5 (aD.b r2 (aD.i r9 (aD.b false (aD.v mZ (aD.v lI (aD.i mP aD.n))))))))
 (S 7 (aD.v mZ (aD.v lI (aD.i mP aD.n))))
noncomputable def aMY (h : Hp) (S : Nat → aD → Option Value) (r2 : Bool) (mZ lI : Value) (mP : Int) : Option Value :=
 S 4 (aD.b r2 (aD.i (Int.ofNat 1) (aD.v mZ (aD.v lI (aD.i mP aD.n)))))
noncomputable def aET (h : Hp) (S : Nat → aD → Option Value) (r2 : Bool) (r7 : Int) (u7 sZ : Value) (vB vC : Value) (mZ lI : Value) (mP : Int) : Option Value :=
 wrap64 (Int.add r7 (Int.ofNat 1)) fun i0 =>
 S 1 (aD.b r2 (aD.i i0 (aD.v u7 (aD.v sZ (aD.v vB (aD.v vC (aD.v mZ (aD.v lI (aD.i mP aD.n)))))))))
noncomputable def aEU (h : Hp) (S : Nat → aD → Option Value) (r2 : Bool) (r7 : Int) (r8 : Bool) (u7 sZ : Value) (vB vC : Value) (mZ lI : Value) (mP : Int) : Option Value :=
 bH (jV r7 (Int.ofNat 0)) fun b0 =>
 bU b0
 (bA r8 fun b1 =>
 bU b1
 (dN 1 lI r7 fun v2 =>
 aJ h v2 fun v3 =>
 aS .i64 v3 fun i4 =>
 bS sZ fun i5 =>
 wrap64 (Int.sub i5 (Int.ofNat 1)) fun i6 =>
 bR (F55 [(Value.int .i64 i4), (Value.int .i64 (Int.ofNat 0)), (Value.int .i64 i6)] h) fun v7 =>
 dH v7 fun b8 =>
 bA b8 fun b9 =>
 bU b9
 (some (Value.int .i64 (Int.ofNat 4)))
 (S 3 (aD.b r2 (aD.i r7 (aD.v u7 (aD.v sZ (aD.v vB (aD.v vC (aD.v mZ (aD.v lI (aD.i mP aD.n)))))))))))
 (S 3 (aD.b r2 (aD.i r7 (aD.v u7 (aD.v sZ (aD.v vB (aD.v vC (aD.v mZ (aD.v lI (aD.i mP aD.n)))))))))))
 (S 3 (aD.b r2 (aD.i r7 (aD.v u7 (aD.v sZ (aD.v vB (aD.v vC (aD.v mZ (aD.v lI (aD.i mP aD.n))))))))))
noncomputable def aEV (h : Hp) (S : Nat → aD → Option Value) (r2 : Bool) (r7 : Int) (u7 sZ : Value) (vB vC : Value) (mZ lI : Value) (mP : Int) : Option Value :=
 bS lI fun i0 =>
 bH (lM r7 i0) fun b1 =>
 bU b1
 (bU r2
 (dN 1 lI r7 fun v2 =>
 aJ h v2 fun v3 =>
 aS .i64 v3 fun i4 =>
 bH (jV i4 (Int.negSucc 0)) fun b5 =>
 S 2 (aD.b r2 (aD.i r7 (aD.b b5 (aD.v u7 (aD.v sZ (aD.v vB (aD.v vC (aD.v mZ (aD.v lI (aD.i mP aD.n)))))))))))
 (S 2 (aD.b r2 (aD.i r7 (aD.b false (aD.v u7 (aD.v sZ (aD.v vB (aD.v vC (aD.v mZ (aD.v lI (aD.i mP aD.n))))))))))))
 (S 8 (aD.b r2 (aD.v mZ (aD.v lI (aD.i mP aD.n)))))
noncomputable def aMZ (h : Hp) (S : Nat → aD → Option Value) (r0 r1 : Value) (r2 : Bool) : Option Value :=
 pG (Array.toList (Value.cells r0)) fun c0 =>
 pG (Array.toList (Value.cells r1)) fun c1 =>
 BB c1 1 fun v2 =>
 bS v2 fun i3 =>
 BB c0 0 fun v4 =>
 bS v4 fun i5 =>
 bA (jV i3 i5) fun b6 =>
 bU b6
 (some (Value.int .i64 (Int.ofNat 3)))
 (mI c0 fun a7 c7 =>
 mI c7 fun a8 c8 =>
 mI c8 fun a9 c9 =>
 mI c9 fun a10 c10 =>
 aJG c10 (mI c1 fun a11 c11 =>
 mI c11 fun a12 c12 =>
 mI c12 fun a13 c13 =>
 aS .i64 a13 fun i14 =>
 aJG c13 (S 1 (aD.b r2 (aD.i (Int.ofNat 0) (aD.v a7 (aD.v a8 (aD.v a9 (aD.v a10 (aD.v a11 (aD.v a12 (aD.i i14 aD.n))))))))))))
noncomputable def EO (h : Hp) (S : Nat → aD → Option Value) : Nat → aD → Option Value := dQ 0 (wV fun r0 => wV fun r1 => wB fun r2 => wN (aMZ h S r0 r1 r2)) (dQ 1 (wB fun r2 => wI fun r7 => wV fun u7 => wV fun sZ => wV fun vB => wV fun vC => wV fun mZ => wV fun lI => wI fun mP => wN (aEV h S r2 r7 u7 sZ vB vC mZ lI mP)) (dQ 2 (wB fun r2 => wI fun r7 => wB fun r8 => wV fun u7 => wV fun sZ => wV fun vB => wV fun vC => wV fun mZ => wV fun lI => wI fun mP => wN (aEU h S r2 r7 r8 u7 sZ vB vC mZ lI mP)) (dQ 3 (wB fun r2 => wI fun r7 => wV fun u7 => wV fun sZ => wV fun vB => wV fun vC => wV fun mZ => wV fun lI => wI fun mP => wN (aET h S r2 r7 u7 sZ vB vC mZ lI mP)) (dQ 8 (wB fun r2 => wV fun mZ => wV fun lI => wI fun mP => wN (aMY h S r2 mZ lI mP)) (dQ 4 (wB fun r2 => wI fun r9 => wV fun mZ => wV fun lI => wI fun mP => wN (aES h S r2 r9 mZ lI mP)) (dQ 5 (wB fun r2 => wI fun r9 => wB fun mK => wV fun mZ => wV fun lI => wI fun mP => wN (aMX h S r2 r9 mK mZ lI mP)) (dQ 6 (wB fun r2 => wI fun r9 => wV fun mZ => wV fun lI => wI fun mP => wN (aMW h S r2 r9 mZ lI mP)) (dQ 7 (wV fun mZ => wV fun lI => wI fun mP => wN (aMV h S mZ lI mP)) (kR)))))))))
noncomputable def F89 (args : List Value) (h : Hp) : Option Value := plainO (dU [Kd.v, Kd.v, Kd.b] args fun al => G.aN (EO h) 1000000 0 al)
def bGS : Nat := 3 + (84 - 3)
theorem t89 (h : Hp) (S : Nat → aD → Option Value) : gY (fun l al => G.aX iD dD oG (oN env aRO bGS h) (pO env Try.f89.results.toList) (G.collect B89 A89 []) l S al) (EO h S) := by
 unfold EO
 exact dV (mJ fun _ => mJ fun _ => rpB fun _ => oC (by kernel_rfl)) <| dV (rpB fun _ => kC fun _ => mJ fun _ => mJ fun _ => mJ fun _ => mJ fun _ => mJ fun _ => mJ fun _ => kC fun _ => oC (by kernel_rfl)) <| dV (rpB fun _ => kC fun _ => rpB fun _ => mJ fun _ => mJ fun _ => mJ fun _ => mJ fun _ => mJ fun _ => mJ fun _ => kC fun _ => oC (by kernel_rfl)) <| dV (rpB fun _ => kC fun _ => mJ fun _ => mJ fun _ => mJ fun _ => mJ fun _ => mJ fun _ => mJ fun _ => kC fun _ => oC (by kernel_rfl)) <| dV (rpB fun _ => mJ fun _ => mJ fun _ => kC fun _ => oC (by kernel_rfl)) <| dV (rpB fun _ => kC fun _ => mJ fun _ => mJ fun _ => kC fun _ => oC (by kernel_rfl)) <| dV (rpB fun _ => kC fun _ => rpB fun _ => mJ fun _ => mJ fun _ => kC fun _ => oC (by kernel_rfl)) <| dV (rpB fun _ => kC fun _ => mJ fun _ => mJ fun _ => kC fun _ => oC (by kernel_rfl)) <| dV (mJ fun _ => mJ fun _ => kC fun _ => oC (by kernel_rfl)) <| gY.nil
theorem r89 : fV Try.prog 89 F89 := dK (C := C0) ok0 (pf := aRO) aMU (fn := Try.f89) (body := B89) (kinds := [Kd.v, Kd.v, Kd.b]) (A := A89) (T := EO) (by kernel_rfl) (by kernel_rfl) (by kernel_rfl) (by kernel_rfl) (fun h S => t89 h S)
noncomputable def aRP : PF := EI 89 F89 aRO
theorem aM0 : eF Try.prog aRP := iN r89 aMU
noncomputable def aM1 := oO 89 F89 aTV
noncomputable def C59 : dP := cfg aM1
theorem bGT : C59.Ok := fQ (C := C58) bGR r89
noncomputable def B51 : Code := (Try.f51.body).getD .skip
def A51 : eU := (Am 0 [(0, .v), (1, .v), (2, .i .i64), (3, .b)] Ao (An (An Ao (An Az Ao)) (An Ao (An (An Ao (An (Am 1 [(1, .v), (3, .b), (4, .v), (10, .v), (11, .i .i64)] (An (An Ao Az) (An (An (An Ao (An (An Ao Az) (Am 2 [(1, .v), (3, .b), (4, .v), (10, .v), (11, .i .i64), (12, .i .i64)] (An Ao (An Az Ao)) Ao))) Ao) (Am 3 [(1, .v), (3, .b), (4, .v), (10, .v), (11, .i .i64)] Ao Ao))) Ao) Ao)) (Am 4 [] Ao Ao)))))
noncomputable def a3O (S : Sg) (h : Hp) : aF :=
 some (Value.tuple (List.toArray [(Value.int .i64 (Int.ofNat 0)), (Value.int .i64 (Int.ofNat 0))]), h)
noncomputable def aM2 (S : Sg) (r1 : Value) (r3 : Bool) (r4 mK : Value) (jB : Int) (h : Hp) : aF :=
 wrap64 (Int.add jB (Int.ofNat 1)) fun i0 =>
 S 1 (AL.v r1 (AL.b r3 (AL.v r4 (AL.v mK (AL.i i0 AL.n))))) h
noncomputable def aM3 (S : Sg) (r1 : Value) (r3 : Bool) (r4 mK : Value) (jB mO : Int) (h : Hp) : aF :=
 bA (jV mO (Int.ofNat 0)) fun b0 =>
 bU b0
 (some (Value.tuple (List.toArray [(Value.int .i64 jB), (Value.int .i64 mO)]), h))
 (dN 3 r1 jB fun v1 =>
 aO 0 v1 fun v2 =>
 aJ h v2 fun v3 =>
 aK (aU env h 120 1 (List.toArray [(0, v3)])) fun v4 h4 =>
 aK (cB env h4 #[120, 120] (List.toArray [mK, v4])) fun v5 h5 =>
 S 3 (AL.v r1 (AL.b r3 (AL.v r4 (AL.v v5 (AL.i jB AL.n))))) h5)
noncomputable def aEX (S : Sg) (r1 : Value) (r3 : Bool) (r4 mK : Value) (jB : Int) (h : Hp) : aF :=
 bS r1 fun i0 =>
 bH (lM jB i0) fun b1 =>
 bU b1
 (dN 3 r1 jB fun v2 =>
 aO 0 v2 fun v3 =>
 aJ h v3 fun v4 =>
 aK (bR (F88 [v4, mK] h) fun v => some (v, h)) fun v5 h5 =>
 aS .i64 v5 fun i6 =>
 bH (jV i6 (Int.ofNat 0)) fun b7 =>
 bU b7
 (aT 4 h5 r4 fun v8 =>
 dN 3 r1 jB fun v9 =>
 aT 3 h5 v9 fun v10 =>
 aK (bR (F89 [v8, v10, (Value.bool r3)] h5) fun v => some (v, h5)) fun v11 h11 =>
 aS .i64 v11 fun i12 =>
 S 2 (AL.v r1 (AL.b r3 (AL.v r4 (AL.v mK (AL.i jB (AL.i i12 AL.n)))))) h11)
 (S 2 (AL.v r1 (AL.b r3 (AL.v r4 (AL.v mK (AL.i jB (AL.i i6 AL.n)))))) h5))
 (S 4 AL.n h)
noncomputable def aM4 (S : Sg) (r0 r1 : Value) (r2 : Int) (r3 : Bool) (h : Hp) : aF :=
 bC h 25 (Array.toList (Value.cells r0)) fun a0 h0 =>
 bS r1 fun i1 =>
 bH (lM r2 i1) fun b2 =>
 bU b2
 (some (Value.tuple (List.toArray [(Value.int .i64 (Int.ofNat 0)), (Value.int .i64 (Int.ofNat 3))]), h0))
 (S 1 (AL.v r1 (AL.b r3 (AL.v a0 (AL.v (Value.slice none 0 0) (AL.i (Int.ofNat 0) AL.n))))) h0)
noncomputable def T51 (S : Sg) : Sg := bV 0 (uV fun r0 => uV fun r1 => uI fun r2 => uB fun r3 => uN (aM4 S r0 r1 r2 r3)) (bV 1 (uV fun r1 => uB fun r3 => uV fun r4 => uV fun mK => uI fun jB => uN (aEX S r1 r3 r4 mK jB)) (bV 2 (uV fun r1 => uB fun r3 => uV fun r4 => uV fun mK => uI fun jB => uI fun mO => uN (aM3 S r1 r3 r4 mK jB mO)) (bV 3 (uV fun r1 => uB fun r3 => uV fun r4 => uV fun mK => uI fun jB => uN (aM2 S r1 r3 r4 mK jB)) (bV 4 (uN fun h => a3O S  h) (jL)))))
noncomputable def F51 (args : List Value) (h : Hp) : aF := bB [Kd.v, Kd.v, Kd.i .i64, Kd.b] args fun al => aN T51 1000000 0 al h
def bGU : Nat := 4 + (51 - 4)
theorem t51 (S : Sg) : iR (fun l vs h => aX (kF env aM1 bGU) (j5 env Try.f51.results.toList) (collect B51 A51 []) l S vs h) (T51 S) := by
 unfold T51
 exact dG (dA fun _ => dA fun _ => gI fun _ => rwB fun _ => iO fun _ => by kernel_rfl) <| dG (dA fun _ => rwB fun _ => dA fun _ => dA fun _ => gI fun _ => iO fun _ => by kernel_rfl) <| dG (dA fun _ => rwB fun _ => dA fun _ => dA fun _ => gI fun _ => gI fun _ => iO fun _ => by kernel_rfl) <| dG (dA fun _ => rwB fun _ => dA fun _ => dA fun _ => gI fun _ => iO fun _ => by kernel_rfl) <| dG (iO fun _ => by kernel_rfl) <| Go.bI.iR.nil
theorem r51 : ∀ args h v h', F51 args h = some (v, h') → eG (C59) (.call 51 args.toArray h) (.ret v h') := by
 intro args h v h' e
 exact bE (C := C59) (fn := Try.f51) (body := B51) (np := 4) (A := A51) (T := T51) (kinds := [Kd.v, Kd.v, Kd.i .i64, Kd.b]) (by kernel_rfl) (by kernel_rfl) (by kernel_rfl) (by kernel_rfl) (dJ dL) (by kernel_rfl) (fun S => t51 S) e
noncomputable def aM5 := jF 51 F51 aM1
noncomputable def C60 : dP := cfg aM5
theorem bGV : C60.Ok := dB (C := C59) bGT r51
noncomputable def B17 : Code := (Try.f17.body).getD .skip
def A17 : eU := (Am 0 [(0, .v)] Ao (An Ao (An (An Ao (An Az Ao)) (An Ao (An (An Ao (An Az Ao)) (An Ao (An (An Ao (An Az Ao)) (An Ao (An (An Ao (An Az Ao)) Az)))))))))
noncomputable def aM6 (S : Sg) (r0 : Value) (h : Hp) : aF :=
 bC h 25 (Array.toList (Value.cells r0)) fun a0 h0 =>
 aO 0 a0 fun v1 =>
 aJ h0 v1 fun v2 =>
 aK (bR (F50 [v2, (Value.int .i64 (Int.ofNat 4)), (Value.int .i64 (Int.ofNat 100))] h0) fun v => some (v, h0)) fun v3 h3 =>
 eB v3 0 fun v4 =>
 aS .i64 v4 fun i5 =>
 eB v3 1 fun v6 =>
 aS .i64 v6 fun i7 =>
 bA (jV i7 (Int.ofNat 0)) fun b8 =>
 bU b8
 (some (Value.tuple (List.toArray [(Value.int .i64 (Int.ofNat 1)), (Value.int .i64 i5), (Value.int .i64 i7)]), h3))
 (aO 1 a0 fun v9 =>
 aJ h3 v9 fun v10 =>
 aK (bR (F50 [v10, (Value.int .i64 (Int.ofNat 4)), (Value.int .i64 (Int.ofNat 50))] h3) fun v => some (v, h3)) fun v11 h11 =>
 eB v11 0 fun v12 =>
 aS .i64 v12 fun i13 =>
 eB v11 1 fun v14 =>
 aS .i64 v14 fun i15 =>
 bA (jV i15 (Int.ofNat 0)) fun b16 =>
 bU b16
 (some (Value.tuple (List.toArray [(Value.int .i64 (Int.ofNat 2)), (Value.int .i64 i13), (Value.int .i64 i15)]), h11))
 (aT 4 h11 a0 fun v17 =>
 aO 2 a0 fun v18 =>
 aJ h11 v18 fun v19 =>
 aK (bQ F51 [v17, v19, (Value.int .i64 (Int.ofNat 6)), (Value.bool false)] h11) fun v20 h20 =>
 eB v20 0 fun v21 =>
 aS .i64 v21 fun i22 =>
 eB v20 1 fun v23 =>
 aS .i64 v23 fun i24 =>
 bA (jV i24 (Int.ofNat 0)) fun b25 =>
 bU b25
 (some (Value.tuple (List.toArray [(Value.int .i64 (Int.ofNat 3)), (Value.int .i64 i22), (Value.int .i64 i24)]), h20))
 (aT 4 h20 a0 fun v26 =>
 aO 3 a0 fun v27 =>
 aJ h20 v27 fun v28 =>
 aK (bQ F51 [v26, v28, (Value.int .i64 (Int.ofNat 5)), (Value.bool true)] h20) fun v29 h29 =>
 eB v29 0 fun v30 =>
 aS .i64 v30 fun i31 =>
 eB v29 1 fun v32 =>
 aS .i64 v32 fun i33 =>
 bA (jV i33 (Int.ofNat 0)) fun b34 =>
 bU b34
 (some (Value.tuple (List.toArray [(Value.int .i64 (Int.ofNat 4)), (Value.int .i64 i31), (Value.int .i64 i33)]), h29))
 (some (Value.tuple (List.toArray [(Value.int .i64 (Int.ofNat 0)), (Value.int .i64 (Int.ofNat 0)), (Value.int .i64 (Int.ofNat 0))]), h29)))))
noncomputable def T17 (S : Sg) : Sg := bV 0 (uV fun r0 => uN (aM6 S r0)) (jL)
noncomputable def F17 (args : List Value) (h : Hp) : aF := bB [Kd.v] args fun al => aN T17 1000000 0 al h
def bGW : Nat := 1 + (49 - 1)
theorem t17 (S : Sg) : iR (fun l vs h => aX (kF env aM5 bGW) (j5 env Try.f17.results.toList) (collect B17 A17 []) l S vs h) (T17 S) := by
 unfold T17
 exact dG (dA fun _ => iO fun _ => by kernel_rfl) <| Go.bI.iR.nil
theorem sI : ∀ args h v h', F17 args h = some (v, h') → eG (C60) (.call 17 args.toArray h) (.ret v h') := by
 intro args h v h' e
 exact bE (C := C60) (fn := Try.f17) (body := B17) (np := 1) (A := A17) (T := T17) (kinds := [Kd.v]) (by kernel_rfl) (by kernel_rfl) (by kernel_rfl) (by kernel_rfl) (dJ dL) (by kernel_rfl) (fun S => t17 S) e
noncomputable def aM7 := jF 17 F17 aM5
noncomputable def C61 : dP := cfg aM7
theorem bGX : C61.Ok := dB (C := C60) bGV sI
noncomputable def B37 : Code := (Try.f37.body).getD .skip
def A37 : eU := (Am 0 [(0, .v)] Ao (An Ao Az))
noncomputable def aM8 (S : Sg) (r0 : Value) (h : Hp) : aF :=
 bC h 25 (Array.toList (Value.cells r0)) fun a0 h0 =>
 aT 4 h0 a0 fun v1 =>
 aK (bQ F17 [v1] h0) fun v2 h2 =>
 eB v2 0 fun v3 =>
 aS .i64 v3 fun i4 =>
 eB v2 1 fun v5 =>
 aS .i64 v5 fun i6 =>
 eB v2 2 fun v7 =>
 aS .i64 v7 fun i8 =>
 bH (jV i8 (Int.ofNat 0)) fun b9 =>
 some ((Value.bool b9), h2)
noncomputable def T37 (S : Sg) : Sg := bV 0 (uV fun r0 => uN (aM8 S r0)) (jL)
noncomputable def F37 (args : List Value) (h : Hp) : aF := bB [Kd.v] args fun al => aN T37 1000000 0 al h
def bGY : Nat := 1 + (14 - 1)
theorem t37 (S : Sg) : iR (fun l vs h => aX (kF env aM7 bGY) (j5 env Try.f37.results.toList) (collect B37 A37 []) l S vs h) (T37 S) := by
 unfold T37
 exact dG (dA fun _ => iO fun _ => by kernel_rfl) <| Go.bI.iR.nil
theorem r37 : ∀ args h v h', F37 args h = some (v, h') → eG (C61) (.call 37 args.toArray h) (.ret v h') := by
 intro args h v h' e
 exact bE (C := C61) (fn := Try.f37) (body := B37) (np := 1) (A := A37) (T := T37) (kinds := [Kd.v]) (by kernel_rfl) (by kernel_rfl) (by kernel_rfl) (by kernel_rfl) (dJ dL) (by kernel_rfl) (fun S => t37 S) e
noncomputable def aTW := jF 37 F37 aM7
noncomputable def C62 : dP := cfg aTW
theorem bGZ : C62.Ok := dB (C := C61) bGX r37
noncomputable def B46 : Code := (Try.f46.body).getD .skip
noncomputable def A46 : G.eU (List KI) := (Gm 0 [.reg 0 .v, .reg 1 (.i .i64)] Gz (Gn (Gn Gz (Gn Gy Gz)) Gy))
noncomputable def a3R (h : Hp) (S : Nat → aD → Option Value) (r0 : Value) (r1 : Int) : Option Value :=
 bS r0 fun i0 =>
 bH (jV i0 (Int.ofNat 0)) fun b1 =>
 bU b1
 (some (Value.int .i64 (Int.ofNat 0)))
 (bS r0 fun i2 =>
 rR .i64 (mY env .rem 3 (Value.int .i64 r1) (Value.int .i64 i2)) fun i3 =>
 dN 1 r0 i3 fun v4 =>
 aJ h v4 fun v5 =>
 aS .u8 v5 fun i6 =>
 wrap64 i6 fun i7 =>
 some (Value.int .i64 i7))
noncomputable def T46 (h : Hp) (S : Nat → aD → Option Value) : Nat → aD → Option Value := dQ 0 (wV fun r0 => wI fun r1 => wN (a3R h S r0 r1)) (kR)
noncomputable def F46 (args : List Value) (h : Hp) : Option Value := plainO (dU [Kd.v, Kd.i .i64] args fun al => G.aN (T46 h) 1000000 0 al)
def bG0 : Nat := 2 + (16 - 2)
theorem t46 (h : Hp) (S : Nat → aD → Option Value) : gY (fun l al => G.aX iD dD oG (oN env aRP bG0 h) (pO env Try.f46.results.toList) (G.collect B46 A46 []) l S al) (T46 h S) := by
 unfold T46
 exact dV (mJ fun _ => kC fun _ => oC (by kernel_rfl)) <| gY.nil
theorem r46 : fV Try.prog 46 F46 := dK (C := C0) ok0 (pf := aRP) aM0 (fn := Try.f46) (body := B46) (kinds := [Kd.v, Kd.i .i64]) (A := A46) (T := T46) (by kernel_rfl) (by kernel_rfl) (by kernel_rfl) (by kernel_rfl) (fun h S => t46 h S)
noncomputable def aRQ : PF := EI 46 F46 aRP
theorem aM9 : eF Try.prog aRQ := iN r46 aM0
noncomputable def aNA := oO 46 F46 aTW
noncomputable def C63 : dP := cfg aNA
theorem bG1 : C63.Ok := fQ (C := C62) bGZ r46
noncomputable def B38 : Code := (Try.f38.body).getD .skip
def A38 : eU := (Am 0 [(0, .v), (1, .v)] Ao (An Ao (An (An Ao (An (Am 1 [(1, .v), (2, .v), (5, .v), (6, .v), (7, .i .i64)] (An (An Ao Az) (An Az Ao)) Ao) Ao)) (Am 5 [(1, .v), (2, .v), (5, .v), (6, .v)] (An Ao (An (Am 2 [(1, .v), (2, .v), (5, .v), (6, .v), (8, .i .i64)] (An (An Ao Az) (Am 3 [(1, .v), (2, .v), (5, .v), (6, .v), (8, .i .i64)] (An (An Ao Az) Ao) Ao)) Ao) Ao)) (Am 4 [(6, .v)] Ao Ao)))))
noncomputable def a3T (S : Sg) (r6 : Value) (h : Hp) : aF :=
 some (r6, h)
noncomputable def a3U (S : Sg) (r1 r2 : Value) (r5 r6 : Value) (r8 : Int) (h : Hp) : aF :=
 aK (bR (F46 [r1, (Value.int .i64 r8)] h) fun v => some (v, h)) fun v0 h0 =>
 aS .i64 v0 fun i1 =>
 bS r5 fun i2 =>
 rR .i64 (mY env .rem 3 (Value.int .i64 i1) (Value.int .i64 i2)) fun i3 =>
 dN 1 r5 i3 fun v4 =>
 aJ h0 v4 fun v5 =>
 aS .i64 v5 fun i6 =>
 aK (aU env h0 22 1 (List.toArray [(0, (Value.int .i64 i6))])) fun v7 h7 =>
 aK (cB env h7 #[22, 22] (List.toArray [r6, v7])) fun v8 h8 =>
 aK (aU env (Hp.mk (Hp.next h8) (Hp.next h8) T.nil) 22 0 (List.toArray [])) fun v9 h9 =>
 eP v9 (Hp.next h8) h9 fun TV n10 =>
 bR (jG env (Hp.mk n10 n10 (Hp.aC h8)) 22 r5 none (some (Value.int .i64 i3)) none) fun v11 =>
 aK (cB env (Hp.mk n10 n10 (aG TV (Hp.aC h8))) #[22, 22] (List.toArray [v9, v11])) fun v12 h12 =>
 eP v12 n10 h12 fun w13 n13 =>
 wrap64 (Int.add i3 (Int.ofNat 1)) fun i14 =>
 bR (jG env (Hp.mk n13 n13 (Hp.aC h8)) 22 r5 (some (Value.int .i64 i14)) none none) fun v15 =>
 aK (cB env (Hp.mk n13 (Hp.ro h8) (aG w13 (aG TV (Hp.aC h8)))) #[22, 22] (List.toArray [v12, v15])) fun v16 h16 =>
 wrap64 (Int.add r8 (Int.ofNat 1)) fun i17 =>
 S 2 (AL.v r1 (AL.v r2 (AL.v v16 (AL.v v8 (AL.i i17 AL.n))))) h16
noncomputable def a3V (S : Sg) (r1 r2 : Value) (r5 r6 : Value) (r8 : Int) (h : Hp) : aF :=
 aO 3 r2 fun v0 =>
 aJ h v0 fun v1 =>
 bS v1 fun i2 =>
 bH (lM r8 i2) fun b3 =>
 bU b3
 (bS r5 fun i4 =>
 bH (lM (Int.ofNat 0) i4) fun b5 =>
 bU b5
 (S 3 (AL.v r1 (AL.v r2 (AL.v r5 (AL.v r6 (AL.i r8 AL.n))))) h)
 (S 4 (AL.v r6 AL.n) h))
 (S 4 (AL.v r6 AL.n) h)
noncomputable def a3W (S : Sg) (r1 r2 : Value) (r5 r6 : Value) (h : Hp) : aF :=
 S 2 (AL.v r1 (AL.v r2 (AL.v r5 (AL.v r6 (AL.i (Int.ofNat 0) AL.n))))) h
noncomputable def a3X (S : Sg) (r1 r2 : Value) (r5 r6 : Value) (r7 : Int) (h : Hp) : aF :=
 aO 2 r2 fun v0 =>
 aJ h v0 fun v1 =>
 bS v1 fun i2 =>
 bH (lM r7 i2) fun b3 =>
 bU b3
 (aK (aU env h 22 1 (List.toArray [(0, (Value.int .i64 r7))])) fun v4 h4 =>
 aK (cB env h4 #[22, 22] (List.toArray [r5, v4])) fun v5 h5 =>
 wrap64 (Int.add r7 (Int.ofNat 1)) fun i6 =>
 S 1 (AL.v r1 (AL.v r2 (AL.v v5 (AL.v r6 (AL.i i6 AL.n))))) h5)
 (S 5 (AL.v r1 (AL.v r2 (AL.v r5 (AL.v r6 AL.n)))) h)
noncomputable def a3Y (S : Sg) (r0 r1 : Value) (h : Hp) : aF :=
 bC h 25 (Array.toList (Value.cells r0)) fun a0 h0 =>
 S 1 (AL.v r1 (AL.v a0 (AL.v (Value.slice none 0 0) (AL.v (Value.slice none 0 0) (AL.i (Int.ofNat 0) AL.n))))) h0
noncomputable def T38 (S : Sg) : Sg := bV 0 (uV fun r0 => uV fun r1 => uN (a3Y S r0 r1)) (bV 1 (uV fun r1 => uV fun r2 => uV fun r5 => uV fun r6 => uI fun r7 => uN (a3X S r1 r2 r5 r6 r7)) (bV 5 (uV fun r1 => uV fun r2 => uV fun r5 => uV fun r6 => uN (a3W S r1 r2 r5 r6)) (bV 2 (uV fun r1 => uV fun r2 => uV fun r5 => uV fun r6 => uI fun r8 => uN (a3V S r1 r2 r5 r6 r8)) (bV 3 (uV fun r1 => uV fun r2 => uV fun r5 => uV fun r6 => uI fun r8 => uN (a3U S r1 r2 r5 r6 r8)) (bV 4 (uV fun r6 => uN (a3T S r6)) (jL))))))
noncomputable def F38 (args : List Value) (h : Hp) : aF := bB [Kd.v, Kd.v] args fun al => aN T38 1000000 0 al h
def bG3 : Nat := 2 + (57 - 2)
theorem t38 (S : Sg) : iR (fun l vs h => aX (kF env aNA bG3) (j5 env Try.f38.results.toList) (collect B38 A38 []) l S vs h) (T38 S) := by
 unfold T38
 exact dG (dA fun _ => dA fun _ => iO fun _ => by kernel_rfl) <| dG (dA fun _ => dA fun _ => dA fun _ => dA fun _ => gI fun _ => iO fun _ => by kernel_rfl) <| dG (dA fun _ => dA fun _ => dA fun _ => dA fun _ => iO fun _ => by kernel_rfl) <| dG (dA fun _ => dA fun _ => dA fun _ => dA fun _ => gI fun _ => iO fun _ => by kernel_rfl) <| dG (dA fun _ => dA fun _ => dA fun _ => dA fun _ => gI fun _ => iO fun _ => by kernel_rfl) <| dG (dA fun _ => iO fun _ => by kernel_rfl) <| Go.bI.iR.nil
theorem r38 : ∀ args h v h', F38 args h = some (v, h') → eG (C63) (.call 38 args.toArray h) (.ret v h') := by
 intro args h v h' e
 exact bE (C := C63) (fn := Try.f38) (body := B38) (np := 2) (A := A38) (T := T38) (kinds := [Kd.v, Kd.v]) (by kernel_rfl) (by kernel_rfl) (by kernel_rfl) (by kernel_rfl) (dJ dL) (by kernel_rfl) (fun S => t38 S) e
noncomputable def aNB := jF 38 F38 aNA
noncomputable def C64 : dP := cfg aNB
theorem bG4 : C64.Ok := dB (C := C63) bG1 r38
noncomputable def B57 : Code := (Try.f57.body).getD .skip
def A57 : eU := (Am 0 [(0, .v), (1, .v)] Ao (An Ao (An (An Ao (An (Am 1 [(2, .v), (3, .v), (5, .v), (6, .i .i64)] (An (An Ao Az) (An (An (An Ao Az) Ao) Ao)) Ao) Ao)) (Am 2 [(5, .v)] Ao Ao))))
noncomputable def a3Z (S : Sg) (r5 : Value) (h : Hp) : aF :=
 some (r5, h)
noncomputable def a4A (S : Sg) (r2 r3 r5 : Value) (r6 : Int) (h : Hp) : aF :=
 aO 1 r2 fun v0 =>
 aJ h v0 fun v1 =>
 bS v1 fun i2 =>
 bH (lM r6 i2) fun b3 =>
 bU b3
 (aO 1 r3 fun v4 =>
 aJ h v4 fun v5 =>
 dN 1 v5 r6 fun v6 =>
 aJ h v6 fun v7 =>
 aS .i64 v7 fun i8 =>
 bA (jV i8 (Int.negSucc 0)) fun b9 =>
 bU b9
 (aO 1 r3 fun v10 =>
 aJ h v10 fun v11 =>
 dN 1 v11 r6 fun v12 =>
 aJ h v12 fun v13 =>
 aS .i64 v13 fun i14 =>
 aO 1 r2 fun v15 =>
 aJ h v15 fun v16 =>
 dN 1 v16 r6 fun v17 =>
 aJ h v17 fun v18 =>
 aS .i64 v18 fun i19 =>
 bA (jV i14 i19) fun b20 =>
 bU b20
 (aK (aU env h 22 1 (List.toArray [(0, (Value.int .i64 r6))])) fun v21 h21 =>
 aK (cB env h21 #[22, 22] (List.toArray [r5, v21])) fun v22 h22 =>
 wrap64 (Int.add r6 (Int.ofNat 1)) fun i23 =>
 S 1 (AL.v r2 (AL.v r3 (AL.v v22 (AL.i i23 AL.n)))) h22)
 (wrap64 (Int.add r6 (Int.ofNat 1)) fun i24 =>
 S 1 (AL.v r2 (AL.v r3 (AL.v r5 (AL.i i24 AL.n)))) h))
 (wrap64 (Int.add r6 (Int.ofNat 1)) fun i25 =>
 S 1 (AL.v r2 (AL.v r3 (AL.v r5 (AL.i i25 AL.n)))) h))
 (S 2 (AL.v r5 AL.n) h)
noncomputable def a4B (S : Sg) (r0 r1 : Value) (h : Hp) : aF :=
 bC h 59 (Array.toList (Value.cells r0)) fun a0 h0 =>
 bC h0 59 (Array.toList (Value.cells r1)) fun a1 h1 =>
 S 1 (AL.v a0 (AL.v a1 (AL.v (Value.slice none 0 0) (AL.i (Int.ofNat 0) AL.n)))) h1
noncomputable def T57 (S : Sg) : Sg := bV 0 (uV fun r0 => uV fun r1 => uN (a4B S r0 r1)) (bV 1 (uV fun r2 => uV fun r3 => uV fun r5 => uI fun r6 => uN (a4A S r2 r3 r5 r6)) (bV 2 (uV fun r5 => uN (a3Z S r5)) (jL)))
noncomputable def F57 (args : List Value) (h : Hp) : aF := bB [Kd.v, Kd.v] args fun al => aN T57 1000000 0 al h
def bG5 : Nat := 2 + (38 - 2)
theorem t57 (S : Sg) : iR (fun l vs h => aX (kF env aNB bG5) (j5 env Try.f57.results.toList) (collect B57 A57 []) l S vs h) (T57 S) := by
 unfold T57
 exact dG (dA fun _ => dA fun _ => iO fun _ => by kernel_rfl) <| dG (dA fun _ => dA fun _ => dA fun _ => gI fun _ => iO fun _ => by kernel_rfl) <| dG (dA fun _ => iO fun _ => by kernel_rfl) <| Go.bI.iR.nil
theorem r57 : ∀ args h v h', F57 args h = some (v, h') → eG (C64) (.call 57 args.toArray h) (.ret v h') := by
 intro args h v h' e
 exact bE (C := C64) (fn := Try.f57) (body := B57) (np := 2) (A := A57) (T := T57) (kinds := [Kd.v, Kd.v]) (by kernel_rfl) (by kernel_rfl) (by kernel_rfl) (by kernel_rfl) (dJ dL) (by kernel_rfl) (fun S => t57 S) e
noncomputable def aTX := jF 57 F57 aNB
noncomputable def C65 : dP := cfg aTX
theorem bG6 : C65.Ok := dB (C := C64) bG4 r57
noncomputable def B43 : Code := (Try.f43.body).getD .skip
noncomputable def A43 : G.eU (List KI) := (Gm 0 [.reg 0 .v, .reg 1 (.i .i64)] Gz (Gn (Gn Gz (Gn (Gm 1 [.reg 0 .v, .reg 1 (.i .i64), .reg 5 (.i .i64)] (Gn (Gn Gz Gy) (Gn (Gn (Gn Gz (Gn Gy Gz)) Gz) Gz)) Gz) Gz)) (Gm 2 [] Gz Gz)))
noncomputable def a4C (h : Hp) (S : Nat → aD → Option Value) : Option Value :=
 some (Value.bool false)
noncomputable def a4D (h : Hp) (S : Nat → aD → Option Value) (r0 : Value) (r1 r5 : Int) : Option Value :=
 bS r0 fun i0 =>
 bH (lM r5 i0) fun b1 =>
 bU b1
 (dN 1 r0 r5 fun v2 =>
 aJ h v2 fun v3 =>
 aS .i64 v3 fun i4 =>
 bH (jV i4 r1) fun b5 =>
 bU b5
 (some (Value.bool true))
 (wrap64 (Int.add r5 (Int.ofNat 1)) fun i6 =>
 S 1 (aD.v r0 (aD.i r1 (aD.i i6 aD.n)))))
 (S 2 aD.n)
noncomputable def a4E (h : Hp) (S : Nat → aD → Option Value) (r0 : Value) (r1 : Int) : Option Value :=
 S 1 (aD.v r0 (aD.i r1 (aD.i (Int.ofNat 0) aD.n)))
noncomputable def T43 (h : Hp) (S : Nat → aD → Option Value) : Nat → aD → Option Value := dQ 0 (wV fun r0 => wI fun r1 => wN (a4E h S r0 r1)) (dQ 1 (wV fun r0 => wI fun r1 => wI fun r5 => wN (a4D h S r0 r1 r5)) (dQ 2 (wN (a4C h S)) (kR)))
noncomputable def F43 (args : List Value) (h : Hp) : Option Value := plainO (dU [Kd.v, Kd.i .i64] args fun al => G.aN (T43 h) 1000000 0 al)
def bG7 : Nat := 2 + (18 - 2)
theorem t43 (h : Hp) (S : Nat → aD → Option Value) : gY (fun l al => G.aX iD dD oG (oN env aRQ bG7 h) (pO env Try.f43.results.toList) (G.collect B43 A43 []) l S al) (T43 h S) := by
 unfold T43
 exact dV (mJ fun _ => kC fun _ => oC (by kernel_rfl)) <| dV (mJ fun _ => kC fun _ => kC fun _ => oC (by kernel_rfl)) <| dV (oC (by kernel_rfl)) <| gY.nil
theorem r43 : fV Try.prog 43 F43 := dK (C := C0) ok0 (pf := aRQ) aM9 (fn := Try.f43) (body := B43) (kinds := [Kd.v, Kd.i .i64]) (A := A43) (T := T43) (by kernel_rfl) (by kernel_rfl) (by kernel_rfl) (by kernel_rfl) (fun h S => t43 h S)
noncomputable def aRR : PF := EI 43 F43 aRQ
theorem aNC : eF Try.prog aRR := iN r43 aM9
noncomputable def aND := oO 43 F43 aTX
noncomputable def C66 : dP := cfg aND
theorem bG8 : C66.Ok := fQ (C := C65) bG6 r43
noncomputable def B61 : Code := (Try.f61.body).getD .skip
def A61 : eU := (Am 0 [(0, .v), (1, .v)] Ao (An Ao (An (An Ao (An (Am 1 [(1, .v), (2, .v), (5, .v), (6, .i .i64)] (An (An Ao Az) (An (An (An Ao (An (An Ao (An (Am 2 [(1, .v), (2, .v), (5, .v), (6, .i .i64), (7, .i .i64), (8, .i .i64)] (An (An Ao Az) (An (An (An Ao (An (An Ao Az) (An (An Ao Az) (Am 3 [(1, .v), (2, .v), (5, .v), (6, .i .i64), (7, .i .i64), (8, .i .i64), (10, .v)] Ao Az)))) Ao) (Am 4 [(1, .v), (2, .v), (5, .v), (6, .i .i64), (7, .i .i64), (8, .i .i64)] Ao Ao))) Ao) Ao)) (Am 5 [(1, .v), (2, .v), (5, .v), (6, .i .i64), (7, .i .i64)] Ao Ao))) Ao) (Am 6 [(1, .v), (2, .v), (5, .v), (6, .i .i64)] Ao Ao))) Ao) Ao)) (Am 7 [(5, .v)] Ao Ao))))
noncomputable def a4G (S : Sg) (r5 : Value) (h : Hp) : aF :=
 some (r5, h)
noncomputable def a4H (S : Sg) (r1 r2 r5 : Value) (r6 : Int) (h : Hp) : aF :=
 wrap64 (Int.add r6 (Int.ofNat 1)) fun i0 =>
 S 1 (AL.v r1 (AL.v r2 (AL.v r5 (AL.i i0 AL.n)))) h
noncomputable def a4I (S : Sg) (r1 r2 r5 : Value) (r6 r7 : Int) (h : Hp) : aF :=
 aK (aU env h 22 1 (List.toArray [(0, (Value.int .i64 r7))])) fun v0 h0 =>
 aK (cB env h0 #[22, 22] (List.toArray [r5, v0])) fun v1 h1 =>
 S 6 (AL.v r1 (AL.v r2 (AL.v v1 (AL.i r6 AL.n)))) h1
noncomputable def a4J (S : Sg) (r1 r2 r5 : Value) (r6 r7 r8 : Int) (h : Hp) : aF :=
 wrap64 (Int.add r8 (Int.ofNat 1)) fun i0 =>
 S 2 (AL.v r1 (AL.v r2 (AL.v r5 (AL.i r6 (AL.i r7 (AL.i i0 AL.n)))))) h
noncomputable def a4K (S : Sg) (r1 r2 r5 : Value) (r6 r7 r8 : Int) (mK : Value) (h : Hp) : aF :=
 aO 1 mK fun v0 =>
 aJ h v0 fun v1 =>
 dN 1 v1 (Int.ofNat 0) fun v2 =>
 aJ h v2 fun v3 =>
 aS .i64 v3 fun i4 =>
 bH (jV i4 r6) fun b5 =>
 bU b5
 (aO 2 mK fun v6 =>
 aJ h v6 fun v7 =>
 aS .i64 v7 fun i8 =>
 wrap64 (Int.sub r7 i8) fun i9 =>
 S 4 (AL.v r1 (AL.v r2 (AL.v r5 (AL.i r6 (AL.i i9 (AL.i r8 AL.n)))))) h)
 (S 4 (AL.v r1 (AL.v r2 (AL.v r5 (AL.i r6 (AL.i r7 (AL.i r8 AL.n)))))) h)
noncomputable def a4L (S : Sg) (r1 r2 r5 : Value) (r6 r7 r8 : Int) (h : Hp) : aF :=
 bS r1 fun i0 =>
 bH (lM r8 i0) fun b1 =>
 bU b1
 (aO 2 r2 fun v2 =>
 aJ (Hp.mk (Hp.next h) (Hp.next h) (Hp.aC h)) v2 fun v3 =>
 dN 1 r1 r8 fun v4 =>
 aJ (Hp.mk (Hp.next h) (Hp.next h) (Hp.aC h)) v4 fun v5 =>
 aS .i64 v5 fun i6 =>
 dN 3 v3 i6 fun v7 =>
 aT 3 (Hp.mk (Hp.next h) (Hp.next h) (Hp.aC h)) v7 fun v8 =>
 aO 3 r2 fun v9 =>
 aJ (Hp.mk (Hp.next h) (Hp.next h) (Hp.aC h)) v9 fun v10 =>
 dN 3 v10 r8 fun v11 =>
 aT 3 (Hp.mk (Hp.next h) (Hp.next h) (Hp.aC h)) v11 fun v12 =>
 bC (Hp.mk (Hp.next h) (Hp.next h) T.nil) 59 [(Value.string (ByteArray.mk #[])), (Value.slice none 0 0), (Value.int .i64 (Int.ofNat 0))] fun a13 zT =>
 eP a13 (Hp.next h) zT fun DN n14 =>
 bC (Hp.mk n14 n14 T.nil) 59 [(Value.string (ByteArray.mk #[])), (Value.slice none 0 0), (Value.int .i64 (Int.ofNat 0))] fun a15 h15 =>
 eP a15 n14 h15 fun w16 n16 =>
 uH env 59 a13 v8 n16 (Hp.next h) (aG w16 (aG DN (Hp.aC h))) (fun b => (fI [] b || (fI [] b || (fI [] b || (fI [] b || (fI [] b || (fI [] b || (fI [] b || (fI [] b || (fI DN b || (fI w16 b || false))))))))))) fun w17 =>
 dY 3 (Hp.mk n16 (Hp.ro h) (aG w17 (aG w16 (aG DN (Hp.aC h))))) a15 v12 fun h18 =>
 aT 3 h18 a13 fun v19 =>
 aT 3 h18 a15 fun v20 =>
 aK (bQ F57 [v19, v20] h18) fun v21 h21 =>
 aK (bR (F43 [v21, (Value.int .i64 (Int.ofNat 0))] h21) fun v => some (v, h21)) fun v22 h22 =>
 dH v22 fun b23 =>
 bA b23 fun b24 =>
 bU b24
 (S 4 (AL.v r1 (AL.v r2 (AL.v r5 (AL.i r6 (AL.i r7 (AL.i r8 AL.n)))))) h22)
 (aO 1 a13 fun v25 =>
 aJ h22 v25 fun v26 =>
 dN 1 v26 (Int.ofNat 0) fun v27 =>
 aJ h22 v27 fun v28 =>
 aS .i64 v28 fun i29 =>
 bH (jV i29 r6) fun b30 =>
 bU b30
 (aO 2 a13 fun v31 =>
 aJ h22 v31 fun v32 =>
 aS .i64 v32 fun i33 =>
 wrap64 (Int.add r7 i33) fun i34 =>
 S 3 (AL.v r1 (AL.v r2 (AL.v r5 (AL.i r6 (AL.i i34 (AL.i r8 (AL.v a15 AL.n))))))) h22)
 (S 3 (AL.v r1 (AL.v r2 (AL.v r5 (AL.i r6 (AL.i r7 (AL.i r8 (AL.v a15 AL.n))))))) h22)))
 (S 5 (AL.v r1 (AL.v r2 (AL.v r5 (AL.i r6 (AL.i r7 AL.n))))) h)
noncomputable def a4N (S : Sg) (r1 r2 r5 : Value) (r6 : Int) (h : Hp) : aF :=
 aO 1 r2 fun v0 =>
 aJ h v0 fun v1 =>
 bS v1 fun i2 =>
 bH (lM r6 i2) fun b3 =>
 bU b3
 (aO 1 r2 fun v4 =>
 aJ h v4 fun v5 =>
 dN 1 v5 r6 fun v6 =>
 aJ h v6 fun v7 =>
 aS .i64 v7 fun i8 =>
 S 2 (AL.v r1 (AL.v r2 (AL.v r5 (AL.i r6 (AL.i i8 (AL.i (Int.ofNat 0) AL.n)))))) h)
 (S 7 (AL.v r5 AL.n) h)
noncomputable def a4O (S : Sg) (r0 r1 : Value) (h : Hp) : aF :=
 bC h 25 (Array.toList (Value.cells r0)) fun a0 h0 =>
 S 1 (AL.v r1 (AL.v a0 (AL.v (Value.slice none 0 0) (AL.i (Int.ofNat 0) AL.n)))) h0
noncomputable def T61 (S : Sg) : Sg := bV 0 (uV fun r0 => uV fun r1 => uN (a4O S r0 r1)) (bV 1 (uV fun r1 => uV fun r2 => uV fun r5 => uI fun r6 => uN (a4N S r1 r2 r5 r6)) (bV 2 (uV fun r1 => uV fun r2 => uV fun r5 => uI fun r6 => uI fun r7 => uI fun r8 => uN (a4L S r1 r2 r5 r6 r7 r8)) (bV 3 (uV fun r1 => uV fun r2 => uV fun r5 => uI fun r6 => uI fun r7 => uI fun r8 => uV fun mK => uN (a4K S r1 r2 r5 r6 r7 r8 mK)) (bV 4 (uV fun r1 => uV fun r2 => uV fun r5 => uI fun r6 => uI fun r7 => uI fun r8 => uN (a4J S r1 r2 r5 r6 r7 r8)) (bV 5 (uV fun r1 => uV fun r2 => uV fun r5 => uI fun r6 => uI fun r7 => uN (a4I S r1 r2 r5 r6 r7)) (bV 6 (uV fun r1 => uV fun r2 => uV fun r5 => uI fun r6 => uN (a4H S r1 r2 r5 r6)) (bV 7 (uV fun r5 => uN (a4G S r5)) (jL))))))))
noncomputable def F61 (args : List Value) (h : Hp) : aF := bB [Kd.v, Kd.v] args fun al => aN T61 1000000 0 al h
def bHD : Nat := 2 + (72 - 2)
theorem t61 (S : Sg) : iR (fun l vs h => aX (kF env aND bHD) (j5 env Try.f61.results.toList) (collect B61 A61 []) l S vs h) (T61 S) := by
 unfold T61
 exact dG (dA fun _ => dA fun _ => iO fun _ => by kernel_rfl) <| dG (dA fun _ => dA fun _ => dA fun _ => gI fun _ => iO fun _ => by kernel_rfl) <| dG (dA fun _ => dA fun _ => dA fun _ => gI fun _ => gI fun _ => gI fun _ => iO fun _ => by kernel_rfl) <| dG (dA fun _ => dA fun _ => dA fun _ => gI fun _ => gI fun _ => gI fun _ => dA fun _ => iO fun _ => by kernel_rfl) <| dG (dA fun _ => dA fun _ => dA fun _ => gI fun _ => gI fun _ => gI fun _ => iO fun _ => by kernel_rfl) <| dG (dA fun _ => dA fun _ => dA fun _ => gI fun _ => gI fun _ => iO fun _ => by kernel_rfl) <| dG (dA fun _ => dA fun _ => dA fun _ => gI fun _ => iO fun _ => by kernel_rfl) <| dG (dA fun _ => iO fun _ => by kernel_rfl) <| Go.bI.iR.nil
theorem r61 : ∀ args h v h', F61 args h = some (v, h') → eG (C66) (.call 61 args.toArray h) (.ret v h') := by
 intro args h v h' e
 exact bE (C := C66) (fn := Try.f61) (body := B61) (np := 2) (A := A61) (T := T61) (kinds := [Kd.v, Kd.v]) (by kernel_rfl) (by kernel_rfl) (by kernel_rfl) (by kernel_rfl) (dJ dL) (by kernel_rfl) (fun S => t61 S) e
noncomputable def aNE := jF 61 F61 aND
noncomputable def C67 : dP := cfg aNE
theorem bHE : C67.Ok := dB (C := C66) bG8 r61
noncomputable def B78 : Code := (Try.f78.body).getD .skip
def A78 : eU := (Am 0 [(0, .v)] Ao (An Ao (An Ao (An (An Ao (An (Am 1 [(0, .v), (4, .v), (5, .i .i64), (6, .i .i64)] (An (An Ao Az) (An (An (An Ao Az) Ao) Ao)) Ao) Ao)) (Am 2 [(4, .v), (5, .i .i64)] Ao Ao)))))
noncomputable def a4P (S : Sg) (r4 : Value) (r5 : Int) (h : Hp) : aF :=
 some (Value.tuple (List.toArray [r4, (Value.int .i64 r5)]), h)
noncomputable def a4Q (S : Sg) (r0 r4 : Value) (r5 r6 : Int) (h : Hp) : aF :=
 bS r0 fun i0 =>
 bH (lM r6 i0) fun b1 =>
 bU b1
 (dN 1 r0 r6 fun v2 =>
 aJ h v2 fun v3 =>
 aS .i64 v3 fun i4 =>
 wrap64 (Int.sub (Int.ofNat 0) i4) fun i5 =>
 aF9 (Int.ofNat 0) i5 fun i6 =>
 aK (aU env h 22 1 (List.toArray [(0, (Value.int .i64 i6))])) fun v7 h7 =>
 aK (cB env h7 #[22, 22] (List.toArray [r4, v7])) fun v8 h8 =>
 wrap64 (Int.add r5 i6) fun i9 =>
 wrap64 (Int.add r6 (Int.ofNat 1)) fun i10 =>
 S 1 (AL.v r0 (AL.v v8 (AL.i i9 (AL.i i10 AL.n)))) h8)
 (S 2 (AL.v r4 (AL.i r5 AL.n)) h)
noncomputable def a4R (S : Sg) (r0 : Value) (h : Hp) : aF :=
 S 1 (AL.v r0 (AL.v (Value.slice none 0 0) (AL.i (Int.ofNat 0) (AL.i (Int.ofNat 0) AL.n)))) h
noncomputable def T78 (S : Sg) : Sg := bV 0 (uV fun r0 => uN (a4R S r0)) (bV 1 (uV fun r0 => uV fun r4 => uI fun r5 => uI fun r6 => uN (a4Q S r0 r4 r5 r6)) (bV 2 (uV fun r4 => uI fun r5 => uN (a4P S r4 r5)) (jL)))
noncomputable def F78 (args : List Value) (h : Hp) : aF := bB [Kd.v] args fun al => aN T78 1000000 0 al h
def bHG : Nat := 1 + (29 - 1)
theorem t78 (S : Sg) : iR (fun l vs h => aX (kF env aNE bHG) (j5 env Try.f78.results.toList) (collect B78 A78 []) l S vs h) (T78 S) := by
 unfold T78
 exact dG (dA fun _ => iO fun _ => by kernel_rfl) <| dG (dA fun _ => dA fun _ => gI fun _ => gI fun _ => iO fun _ => by kernel_rfl) <| dG (dA fun _ => gI fun _ => iO fun _ => by kernel_rfl) <| Go.bI.iR.nil
theorem r78 : ∀ args h v h', F78 args h = some (v, h') → eG (C67) (.call 78 args.toArray h) (.ret v h') := by
 intro args h v h' e
 exact bE (C := C67) (fn := Try.f78) (body := B78) (np := 1) (A := A78) (T := T78) (kinds := [Kd.v]) (by kernel_rfl) (by kernel_rfl) (by kernel_rfl) (by kernel_rfl) (dJ dL) (by kernel_rfl) (fun S => t78 S) e
noncomputable def aNF := jF 78 F78 aNE
noncomputable def C68 : dP := cfg aNF
theorem bHH : C68.Ok := dB (C := C67) bHE r78
noncomputable def B39 : Code := (Try.f39.body).getD .skip
def A39 : eU := (Am 0 [(0, .v), (1, .v)] Ao (An Ao Az))
noncomputable def a4S (S : Sg) (r0 r1 : Value) (h : Hp) : aF :=
 bC h 25 (Array.toList (Value.cells r0)) fun a0 h0 =>
 aT 4 h0 a0 fun v1 =>
 aK (bQ F61 [v1, r1] h0) fun v2 h2 =>
 aK (bQ F78 [v2] h2) fun v3 h3 =>
 eB v3 0 fun v4 =>
 eB v3 1 fun v5 =>
 aS .i64 v5 fun i6 =>
 bH (jV i6 (Int.ofNat 0)) fun b7 =>
 some ((Value.bool b7), h3)
noncomputable def T39 (S : Sg) : Sg := bV 0 (uV fun r0 => uV fun r1 => uN (a4S S r0 r1)) (jL)
noncomputable def F39 (args : List Value) (h : Hp) : aF := bB [Kd.v, Kd.v] args fun al => aN T39 1000000 0 al h
def bHI : Nat := 2 + (16 - 2)
theorem t39 (S : Sg) : iR (fun l vs h => aX (kF env aNF bHI) (j5 env Try.f39.results.toList) (collect B39 A39 []) l S vs h) (T39 S) := by
 unfold T39
 exact dG (dA fun _ => dA fun _ => iO fun _ => by kernel_rfl) <| Go.bI.iR.nil
theorem r39 : ∀ args h v h', F39 args h = some (v, h') → eG (C68) (.call 39 args.toArray h) (.ret v h') := by
 intro args h v h' e
 exact bE (C := C68) (fn := Try.f39) (body := B39) (np := 2) (A := A39) (T := T39) (kinds := [Kd.v, Kd.v]) (by kernel_rfl) (by kernel_rfl) (by kernel_rfl) (by kernel_rfl) (dJ dL) (by kernel_rfl) (fun S => t39 S) e
noncomputable def aNG := jF 39 F39 aNF
noncomputable def C69 : dP := cfg aNG
theorem bHJ : C69.Ok := dB (C := C68) bHH r39
noncomputable def B40 : Code := (Try.f40.body).getD .skip
def A40 : eU := (Am 0 [(0, .v), (1, .v)] Ao (An Ao (An (An Ao Az) (An (An Ao (An (Am 1 [(1, .v), (2, .v), (7, .i .i64), (8, .i .i64)] (An (An Ao Az) (Am 2 [(1, .v), (2, .v), (7, .i .i64), (8, .i .i64)] (An (An Ao Az) Ao) Ao)) Ao) Ao)) (Am 6 [(1, .v), (7, .i .i64)] (An Ao (An (Am 3 [(1, .v), (7, .i .i64), (9, .i .i64)] (An (An Ao Az) (Am 4 [(1, .v), (7, .i .i64), (9, .i .i64)] (An (An Ao Az) Ao) Ao)) Ao) Ao)) (Am 5 [(7, .i .i64)] Ao Ao))))))
noncomputable def a4T (S : Sg) (r7 : Int) (h : Hp) : aF :=
 some ((Value.int .i64 r7), h)
noncomputable def a4U (S : Sg) (r1 : Value) (r7 r9 : Int) (h : Hp) : aF :=
 bR (jG env h 22 r1 none (some (Value.int .i64 r9)) none) fun v0 =>
 dN 1 r1 r9 fun v1 =>
 aJ h v1 fun v2 =>
 aS .i64 v2 fun i3 =>
 aK (bR (F43 [v0, (Value.int .i64 i3)] h) fun v => some (v, h)) fun v4 h4 =>
 dH v4 fun b5 =>
 bU b5
 (wrap64 (Int.add r9 (Int.ofNat 1)) fun i6 =>
 S 3 (AL.v r1 (AL.i (Int.ofNat 5) (AL.i i6 AL.n))) h4)
 (wrap64 (Int.add r9 (Int.ofNat 1)) fun i7 =>
 S 3 (AL.v r1 (AL.i r7 (AL.i i7 AL.n))) h4)
noncomputable def a4V (S : Sg) (r1 : Value) (r7 r9 : Int) (h : Hp) : aF :=
 bS r1 fun i0 =>
 bH (lM r9 i0) fun b1 =>
 bU b1
 (bH (jV r7 (Int.ofNat 0)) fun b2 =>
 bU b2
 (S 4 (AL.v r1 (AL.i r7 (AL.i r9 AL.n))) h)
 (S 5 (AL.i r7 AL.n) h))
 (S 5 (AL.i r7 AL.n) h)
noncomputable def a4W (S : Sg) (r1 : Value) (r7 : Int) (h : Hp) : aF :=
 S 3 (AL.v r1 (AL.i r7 (AL.i (Int.ofNat 0) AL.n))) h
noncomputable def a4X (S : Sg) (r1 r2 : Value) (r7 r8 : Int) (h : Hp) : aF :=
 dN 1 r1 r8 fun v0 =>
 aJ h v0 fun v1 =>
 aS .i64 v1 fun i2 =>
 aO 2 r2 fun v3 =>
 aJ h v3 fun v4 =>
 bS v4 fun i5 =>
 wrap64 (Int.sub i5 (Int.ofNat 1)) fun i6 =>
 aK (bR (F55 [(Value.int .i64 i2), (Value.int .i64 (Int.ofNat 0)), (Value.int .i64 i6)] h) fun v => some (v, h)) fun v7 h7 =>
 dH v7 fun b8 =>
 bA b8 fun b9 =>
 bU b9
 (wrap64 (Int.add r8 (Int.ofNat 1)) fun i10 =>
 S 1 (AL.v r1 (AL.v r2 (AL.i (Int.ofNat 4) (AL.i i10 AL.n)))) h7)
 (wrap64 (Int.add r8 (Int.ofNat 1)) fun i11 =>
 S 1 (AL.v r1 (AL.v r2 (AL.i r7 (AL.i i11 AL.n)))) h7)
noncomputable def a4Y (S : Sg) (r1 r2 : Value) (r7 r8 : Int) (h : Hp) : aF :=
 bS r1 fun i0 =>
 bH (lM r8 i0) fun b1 =>
 bU b1
 (bH (jV r7 (Int.ofNat 0)) fun b2 =>
 bU b2
 (S 2 (AL.v r1 (AL.v r2 (AL.i r7 (AL.i r8 AL.n)))) h)
 (S 6 (AL.v r1 (AL.i r7 AL.n)) h))
 (S 6 (AL.v r1 (AL.i r7 AL.n)) h)
noncomputable def a4Z (S : Sg) (r0 r1 : Value) (h : Hp) : aF :=
 bC h 25 (Array.toList (Value.cells r0)) fun a0 h0 =>
 aT 4 h0 a0 fun v1 =>
 aK (bQ F17 [v1] h0) fun v2 h2 =>
 eB v2 0 fun v3 =>
 aS .i64 v3 fun i4 =>
 eB v2 1 fun v5 =>
 aS .i64 v5 fun i6 =>
 eB v2 2 fun v7 =>
 aS .i64 v7 fun i8 =>
 bH (jV i8 (Int.ofNat 0)) fun b9 =>
 bU b9
 (bS r1 fun i10 =>
 aO 3 a0 fun v11 =>
 aJ h2 v11 fun v12 =>
 bS v12 fun i13 =>
 bA (jV i10 i13) fun b14 =>
 bU b14
 (S 1 (AL.v r1 (AL.v a0 (AL.i (Int.ofNat 3) (AL.i (Int.ofNat 0) AL.n)))) h2)
 (S 1 (AL.v r1 (AL.v a0 (AL.i i8 (AL.i (Int.ofNat 0) AL.n)))) h2))
 (S 1 (AL.v r1 (AL.v a0 (AL.i i8 (AL.i (Int.ofNat 0) AL.n)))) h2)
noncomputable def T40 (S : Sg) : Sg := bV 0 (uV fun r0 => uV fun r1 => uN (a4Z S r0 r1)) (bV 1 (uV fun r1 => uV fun r2 => uI fun r7 => uI fun r8 => uN (a4Y S r1 r2 r7 r8)) (bV 2 (uV fun r1 => uV fun r2 => uI fun r7 => uI fun r8 => uN (a4X S r1 r2 r7 r8)) (bV 6 (uV fun r1 => uI fun r7 => uN (a4W S r1 r7)) (bV 3 (uV fun r1 => uI fun r7 => uI fun r9 => uN (a4V S r1 r7 r9)) (bV 4 (uV fun r1 => uI fun r7 => uI fun r9 => uN (a4U S r1 r7 r9)) (bV 5 (uI fun r7 => uN (a4T S r7)) (jL)))))))
noncomputable def F40 (args : List Value) (h : Hp) : aF := bB [Kd.v, Kd.v] args fun al => aN T40 1000000 0 al h
def bHL : Nat := 2 + (65 - 2)
theorem t40 (S : Sg) : iR (fun l vs h => aX (kF env aNG bHL) (j5 env Try.f40.results.toList) (collect B40 A40 []) l S vs h) (T40 S) := by
 unfold T40
 exact dG (dA fun _ => dA fun _ => iO fun _ => by kernel_rfl) <| dG (dA fun _ => dA fun _ => gI fun _ => gI fun _ => iO fun _ => by kernel_rfl) <| dG (dA fun _ => dA fun _ => gI fun _ => gI fun _ => iO fun _ => by kernel_rfl) <| dG (dA fun _ => gI fun _ => iO fun _ => by kernel_rfl) <| dG (dA fun _ => gI fun _ => gI fun _ => iO fun _ => by kernel_rfl) <| dG (dA fun _ => gI fun _ => gI fun _ => iO fun _ => by kernel_rfl) <| dG (gI fun _ => iO fun _ => by kernel_rfl) <| Go.bI.iR.nil
theorem r40 : ∀ args h v h', F40 args h = some (v, h') → eG (C69) (.call 40 args.toArray h) (.ret v h') := by
 intro args h v h' e
 exact bE (C := C69) (fn := Try.f40) (body := B40) (np := 2) (A := A40) (T := T40) (kinds := [Kd.v, Kd.v]) (by kernel_rfl) (by kernel_rfl) (by kernel_rfl) (by kernel_rfl) (dJ dL) (by kernel_rfl) (fun S => t40 S) e
noncomputable def aNH := jF 40 F40 aNG
noncomputable def C70 : dP := cfg aNH
theorem bHM : C70.Ok := dB (C := C69) bHJ r40
noncomputable def B56 : Code := (Try.f56.body).getD .skip
def A56 : eU := (Am 0 [(0, .v), (1, .v), (2, .v)] Ao (An Ao (An Ao (An (An Ao (An (Am 1 [(3, .v), (7, .i .i64), (8, .v), (9, .i .i64)] (An (An Ao Az) (An Az Ao)) Ao) Ao)) (Am 2 [(7, .i .i64)] Ao Ao)))))
noncomputable def a5A (S : Sg) (r7 : Int) (h : Hp) : aF :=
 some ((Value.int .i64 r7), h)
noncomputable def a5B (S : Sg) (r3 : Value) (r7 : Int) (r8 : Value) (r9 : Int) (h : Hp) : aF :=
 bS r8 fun i0 =>
 bH (lM r9 i0) fun b1 =>
 bU b1
 (aO 0 r3 fun v2 =>
 aJ h v2 fun v3 =>
 dN 1 r8 r9 fun v4 =>
 aJ h v4 fun v5 =>
 aS .i64 v5 fun i6 =>
 dN 1 v3 i6 fun v7 =>
 aJ h v7 fun v8 =>
 aS .i64 v8 fun i9 =>
 wrap64 (Int.add r7 i9) fun i10 =>
 wrap64 (Int.add r9 (Int.ofNat 1)) fun i11 =>
 S 1 (AL.v r3 (AL.i i10 (AL.v r8 (AL.i i11 AL.n)))) h)
 (S 2 (AL.i r7 AL.n) h)
noncomputable def a5C (S : Sg) (r0 r1 r2 : Value) (h : Hp) : aF :=
 bC h 25 (Array.toList (Value.cells r0)) fun a0 h0 =>
 bC h0 59 (Array.toList (Value.cells r1)) fun a1 h1 =>
 bC h1 59 (Array.toList (Value.cells r2)) fun a2 h2 =>
 aT 3 h2 a1 fun v3 =>
 aT 3 h2 a2 fun v4 =>
 aK (bQ F57 [v3, v4] h2) fun v5 h5 =>
 S 1 (AL.v a0 (AL.i (Int.ofNat 0) (AL.v v5 (AL.i (Int.ofNat 0) AL.n)))) h5
noncomputable def T56 (S : Sg) : Sg := bV 0 (uV fun r0 => uV fun r1 => uV fun r2 => uN (a5C S r0 r1 r2)) (bV 1 (uV fun r3 => uI fun r7 => uV fun r8 => uI fun r9 => uN (a5B S r3 r7 r8 r9)) (bV 2 (uI fun r7 => uN (a5A S r7)) (jL)))
noncomputable def F56 (args : List Value) (h : Hp) : aF := bB [Kd.v, Kd.v, Kd.v] args fun al => aN T56 1000000 0 al h
def bHO : Nat := 3 + (30 - 3)
theorem t56 (S : Sg) : iR (fun l vs h => aX (kF env aNH bHO) (j5 env Try.f56.results.toList) (collect B56 A56 []) l S vs h) (T56 S) := by
 unfold T56
 exact dG (dA fun _ => dA fun _ => dA fun _ => iO fun _ => by kernel_rfl) <| dG (dA fun _ => gI fun _ => dA fun _ => gI fun _ => iO fun _ => by kernel_rfl) <| dG (gI fun _ => iO fun _ => by kernel_rfl) <| Go.bI.iR.nil
theorem r56 : ∀ args h v h', F56 args h = some (v, h') → eG (C70) (.call 56 args.toArray h) (.ret v h') := by
 intro args h v h' e
 exact bE (C := C70) (fn := Try.f56) (body := B56) (np := 3) (A := A56) (T := T56) (kinds := [Kd.v, Kd.v, Kd.v]) (by kernel_rfl) (by kernel_rfl) (by kernel_rfl) (by kernel_rfl) (dJ dL) (by kernel_rfl) (fun S => t56 S) e
noncomputable def aNI := jF 56 F56 aNH
noncomputable def C71 : dP := cfg aNI
theorem bHP : C71.Ok := dB (C := C70) bHM r56
noncomputable def B41 : Code := (Try.f41.body).getD .skip
def A41 : eU := (Am 0 [(0, .v), (1, .v)] Ao (An Ao (An (An Ao (An (Am 1 [(1, .v), (2, .v), (5, .i .i64), (6, .i .i64)] (An (An Ao Az) (An Az Ao)) Ao) Ao)) (Am 2 [(5, .i .i64)] Ao Ao))))
noncomputable def a5D (S : Sg) (r5 : Int) (h : Hp) : aF :=
 some ((Value.int .i64 r5), h)
noncomputable def a5E (S : Sg) (r1 r2 : Value) (r5 r6 : Int) (h : Hp) : aF :=
 bS r1 fun i0 =>
 bH (lM r6 i0) fun b1 =>
 bU b1
 (aT 4 h r2 fun v2 =>
 aO 2 r2 fun v3 =>
 aJ h v3 fun v4 =>
 dN 1 r1 r6 fun v5 =>
 aJ h v5 fun v6 =>
 aS .i64 v6 fun i7 =>
 dN 3 v4 i7 fun v8 =>
 aT 3 h v8 fun v9 =>
 aO 3 r2 fun v10 =>
 aJ h v10 fun v11 =>
 dN 3 v11 r6 fun v12 =>
 aT 3 h v12 fun v13 =>
 aK (bQ F56 [v2, v9, v13] h) fun v14 ZB =>
 aS .i64 v14 fun i15 =>
 wrap64 (Int.add r5 i15) fun i16 =>
 wrap64 (Int.add r6 (Int.ofNat 1)) fun i17 =>
 S 1 (AL.v r1 (AL.v r2 (AL.i i16 (AL.i i17 AL.n)))) ZB)
 (S 2 (AL.i r5 AL.n) h)
noncomputable def a5F (S : Sg) (r0 r1 : Value) (h : Hp) : aF :=
 bC h 25 (Array.toList (Value.cells r0)) fun a0 h0 =>
 S 1 (AL.v r1 (AL.v a0 (AL.i (Int.ofNat 0) (AL.i (Int.ofNat 0) AL.n)))) h0
noncomputable def T41 (S : Sg) : Sg := bV 0 (uV fun r0 => uV fun r1 => uN (a5F S r0 r1)) (bV 1 (uV fun r1 => uV fun r2 => uI fun r5 => uI fun r6 => uN (a5E S r1 r2 r5 r6)) (bV 2 (uI fun r5 => uN (a5D S r5)) (jL)))
noncomputable def F41 (args : List Value) (h : Hp) : aF := bB [Kd.v, Kd.v] args fun al => aN T41 1000000 0 al h
def bHQ : Nat := 2 + (31 - 2)
theorem t41 (S : Sg) : iR (fun l vs h => aX (kF env aNI bHQ) (j5 env Try.f41.results.toList) (collect B41 A41 []) l S vs h) (T41 S) := by
 unfold T41
 exact dG (dA fun _ => dA fun _ => iO fun _ => by kernel_rfl) <| dG (dA fun _ => dA fun _ => gI fun _ => gI fun _ => iO fun _ => by kernel_rfl) <| dG (gI fun _ => iO fun _ => by kernel_rfl) <| Go.bI.iR.nil
theorem r41 : ∀ args h v h', F41 args h = some (v, h') → eG (C71) (.call 41 args.toArray h) (.ret v h') := by
 intro args h v h' e
 exact bE (C := C71) (fn := Try.f41) (body := B41) (np := 2) (A := A41) (T := T41) (kinds := [Kd.v, Kd.v]) (by kernel_rfl) (by kernel_rfl) (by kernel_rfl) (by kernel_rfl) (dJ dL) (by kernel_rfl) (fun S => t41 S) e
noncomputable def aTY := jF 41 F41 aNI
noncomputable def C72 : dP := cfg aTY
theorem bHR : C72.Ok := dB (C := C71) bHP r41
noncomputable def B42 : Code := (Try.f42.body).getD .skip
noncomputable def A42 : G.eU (List KI) := (Gm 0 [.reg 0 .v, .reg 1 .v] Gz (Gn Gz (Gn (Gn Gz (Gn (Gm 1 [.reg 0 .v, .reg 1 .v, .reg 5 (.i .i64), .reg 6 (.i .i64)] (Gn (Gn Gz Gy) (Gn (Gn (Gn Gz (Gn Gy Gz)) Gz) Gz)) Gz) Gz)) (Gm 2 [.reg 0 .v, .reg 1 .v] Gz Gz))))
noncomputable def a5H (h : Hp) (S : Nat → aD → Option Value) (r0 r1 : Value) : Option Value :=
 bS r0 fun i0 =>
 bS r1 fun i1 =>
 bH (lM i0 i1) fun b2 =>
 some (Value.bool b2)
noncomputable def a5I (h : Hp) (S : Nat → aD → Option Value) (r0 r1 : Value) (r5 r6 : Int) : Option Value :=
 bH (lM r6 r5) fun b0 =>
 bU b0
 (dN 1 r0 r6 fun v1 =>
 aJ h v1 fun v2 =>
 aS .i64 v2 fun i3 =>
 dN 1 r1 r6 fun v4 =>
 aJ h v4 fun v5 =>
 aS .i64 v5 fun i6 =>
 bA (jV i3 i6) fun b7 =>
 bU b7
 (dN 1 r0 r6 fun v8 =>
 aJ h v8 fun v9 =>
 aS .i64 v9 fun i10 =>
 dN 1 r1 r6 fun v11 =>
 aJ h v11 fun v12 =>
 aS .i64 v12 fun i13 =>
 bH (lM i10 i13) fun b14 =>
 some (Value.bool b14))
 (wrap64 (Int.add r6 (Int.ofNat 1)) fun i15 =>
 S 1 (aD.v r0 (aD.v r1 (aD.i r5 (aD.i i15 aD.n))))))
 (S 2 (aD.v r0 (aD.v r1 aD.n)))
noncomputable def a5J (h : Hp) (S : Nat → aD → Option Value) (r0 r1 : Value) : Option Value :=
 bS r0 fun i0 =>
 bS r1 fun i1 =>
 aUR i0 i1 fun i2 =>
 S 1 (aD.v r0 (aD.v r1 (aD.i i2 (aD.i (Int.ofNat 0) aD.n))))
noncomputable def T42 (h : Hp) (S : Nat → aD → Option Value) : Nat → aD → Option Value := dQ 0 (wV fun r0 => wV fun r1 => wN (a5J h S r0 r1)) (dQ 1 (wV fun r0 => wV fun r1 => wI fun r5 => wI fun r6 => wN (a5I h S r0 r1 r5 r6)) (dQ 2 (wV fun r0 => wV fun r1 => wN (a5H h S r0 r1)) (kR)))
noncomputable def F42 (args : List Value) (h : Hp) : Option Value := plainO (dU [Kd.v, Kd.v] args fun al => G.aN (T42 h) 1000000 0 al)
def bHS : Nat := 2 + (40 - 2)
theorem t42 (h : Hp) (S : Nat → aD → Option Value) : gY (fun l al => G.aX iD dD oG (oN env aRR bHS h) (pO env Try.f42.results.toList) (G.collect B42 A42 []) l S al) (T42 h S) := by
 unfold T42
 exact dV (mJ fun _ => mJ fun _ => oC (by kernel_rfl)) <| dV (mJ fun _ => mJ fun _ => kC fun _ => kC fun _ => oC (by kernel_rfl)) <| dV (mJ fun _ => mJ fun _ => oC (by kernel_rfl)) <| gY.nil
theorem r42 : fV Try.prog 42 F42 := dK (C := C0) ok0 (pf := aRR) aNC (fn := Try.f42) (body := B42) (kinds := [Kd.v, Kd.v]) (A := A42) (T := T42) (by kernel_rfl) (by kernel_rfl) (by kernel_rfl) (by kernel_rfl) (fun h S => t42 h S)
noncomputable def aRS : PF := EI 42 F42 aRR
theorem aNJ : eF Try.prog aRS := iN r42 aNC
noncomputable def aNK := oO 42 F42 aTY
noncomputable def C73 : dP := cfg aNK
theorem bHT : C73.Ok := fQ (C := C72) bHR r42
noncomputable def B8 : Code := (Try.f8.body).getD .skip
def A8 : eU := (Am 0 [(0, .v), (1, .v)] Ao (An Ao (An (An Ao (An Az Ao)) (An Ao (An Ao (Am 3 [(2, .v), (5, .v), (6, .i .i64), (7, .i .i64), (8, .v), (9, .b)] (An Ao (An Az Ao)) (An (An Ao (An Az Ao)) (Am 2 [(2, .v), (5, .v), (6, .i .i64), (8, .v), (9, .b)] Ao (An (An Ao (An Az Ao)) (Am 1 [(2, .v), (5, .v), (6, .i .i64), (8, .v), (9, .b)] Ao Ao))))))))))
noncomputable def bHU (S : Sg) (r2 r5 : Value) (r6 : Int) (r8 : Value) (r9 : Bool) (h : Hp) : aF :=
 bA r9 fun b0 =>
 bU b0
 (aK (bR (D9 [] h) fun v => some (v, h)) fun v1 h1 =>
 dH v1 fun b2 =>
 some ((Value.bool b2), h1))
 (aT 4 h r2 fun v3 =>
 aK (bQ F41 [v3, r8] h) fun v4 h4 =>
 aS .i64 v4 fun i5 =>
 bH (lM r6 i5) fun b6 =>
 bU b6
 (aK (bR (D9 [] h4) fun v => some (v, h4)) fun v7 h7 =>
 dH v7 fun b8 =>
 some ((Value.bool b8), h7))
 (aT 4 h4 r2 fun v9 =>
 aK (bQ F41 [v9, r8] h4) fun v10 h10 =>
 aS .i64 v10 fun i11 =>
 bH (jV i11 r6) fun b12 =>
 bU b12
 (aK (bR (F42 [r8, r5] h10) fun v => some (v, h10)) fun v13 zT =>
 dH v13 fun b14 =>
 bA b14 fun b15 =>
 bU b15
 (aK (bR (D9 [] zT) fun v => some (v, zT)) fun v16 h16 =>
 dH v16 fun b17 =>
 some ((Value.bool b17), h16))
 (some ((Value.bool false), zT)))
 (some ((Value.bool false), h10))))
noncomputable def bHV (S : Sg) (r2 r5 : Value) (r6 : Int) (r8 : Value) (r9 : Bool) (h : Hp) : aF :=
 aT 4 h r2 fun v0 =>
 aK (bQ F24 [v0, r5] h) fun v1 h1 =>
 eB v1 0 fun v2 =>
 aS .i64 v2 fun i3 =>
 eB v1 1 fun v4 =>
 aS .i64 v4 fun i5 =>
 bA (jV i5 (Int.ofNat 0)) fun b6 =>
 bU b6
 (some ((Value.bool false), h1))
 (bA (jV i3 r6) fun b7 =>
 bU b7
 (some ((Value.bool false), h1))
 (S 1 (AL.v r2 (AL.v r5 (AL.i r6 (AL.v r8 (AL.b r9 AL.n))))) h1))
noncomputable def bHW (S : Sg) (r2 r5 : Value) (r6 r7 : Int) (r8 : Value) (r9 : Bool) (h : Hp) : aF :=
 bA (jV r7 (Int.ofNat 0)) fun b0 =>
 bU b0
 (bH (jV r7 (Int.ofNat 9)) fun b1 =>
 bU b1
 (bS r5 fun i2 =>
 bH (jV i2 (Int.ofNat 0)) fun b3 =>
 bU b3
 (bH (jV r6 (Int.ofNat 0)) fun b4 =>
 bU b4
 (bA r9 fun b5 =>
 bU b5
 (aK (bR (D9 [] h) fun v => some (v, h)) fun v6 h6 =>
 dH v6 fun b7 =>
 some ((Value.bool b7), h6))
 (some ((Value.bool false), h)))
 (some ((Value.bool false), h)))
 (some ((Value.bool false), h)))
 (some ((Value.bool false), h)))
 (aT 4 h r2 fun v8 =>
 aK (bQ F40 [v8, r5] h) fun v9 h9 =>
 aS .i64 v9 fun i10 =>
 bA (jV i10 (Int.ofNat 0)) fun b11 =>
 bU b11
 (some ((Value.bool false), h9))
 (aT 4 h9 r2 fun v12 =>
 aK (bQ F39 [v12, r5] h9) fun v13 zT =>
 dH v13 fun b14 =>
 bA b14 fun b15 =>
 bU b15
 (some ((Value.bool false), zT))
 (aT 4 zT r2 fun v16 =>
 aK (bQ F41 [v16, r5] zT) fun v17 h17 =>
 aS .i64 v17 fun i18 =>
 bA (jV i18 r6) fun b19 =>
 bU b19
 (some ((Value.bool false), h17))
 (S 2 (AL.v r2 (AL.v r5 (AL.i r6 (AL.v r8 (AL.b r9 AL.n))))) h17))))
noncomputable def bHX (S : Sg) (r0 r1 : Value) (h : Hp) : aF :=
 bC h 25 (Array.toList (Value.cells r0)) fun a0 h0 =>
 aT 4 h0 a0 fun v1 =>
 aK (bQ F26 [v1] h0) fun v2 h2 =>
 eB v2 0 fun v3 =>
 eB v2 1 fun v4 =>
 aS .i64 v4 fun i5 =>
 eB v2 2 fun v6 =>
 aS .i64 v6 fun i7 =>
 aT 4 h2 a0 fun v8 =>
 aK (bQ F37 [v8] h2) fun v9 h9 =>
 dH v9 fun b10 =>
 bA b10 fun b11 =>
 bU b11
 (bA (jV i7 (Int.ofNat 0)) fun b12 =>
 bU b12
 (bS v3 fun i13 =>
 bH (jV i13 (Int.ofNat 0)) fun b14 =>
 bU b14
 (bH (jV i5 (Int.ofNat 0)) fun b15 =>
 bU b15
 (aK (bR (D9 [] h9) fun v => some (v, h9)) fun v16 h16 =>
 dH v16 fun b17 =>
 some ((Value.bool b17), h16))
 (some ((Value.bool false), h9)))
 (some ((Value.bool false), h9)))
 (some ((Value.bool false), h9)))
 (aT 4 h9 a0 fun v18 =>
 aK (bQ F38 [v18, r1] h9) fun v19 h19 =>
 bS v19 fun i20 =>
 aO 3 a0 fun v21 =>
 aJ h19 v21 fun v22 =>
 bS v22 fun i23 =>
 bH (jV i20 i23) fun b24 =>
 bU b24
 (aT 4 h19 a0 fun v25 =>
 aK (bQ F39 [v25, v19] h19) fun v26 h26 =>
 dH v26 fun b27 =>
 S 3 (AL.v a0 (AL.v v3 (AL.i i5 (AL.i i7 (AL.v v19 (AL.b b27 AL.n)))))) h26)
 (S 3 (AL.v a0 (AL.v v3 (AL.i i5 (AL.i i7 (AL.v v19 (AL.b false AL.n)))))) h19))
noncomputable def T8 (S : Sg) : Sg := bV 0 (uV fun r0 => uV fun r1 => uN (bHX S r0 r1)) (bV 3 (uV fun r2 => uV fun r5 => uI fun r6 => uI fun r7 => uV fun r8 => uB fun r9 => uN (bHW S r2 r5 r6 r7 r8 r9)) (bV 2 (uV fun r2 => uV fun r5 => uI fun r6 => uV fun r8 => uB fun r9 => uN (bHV S r2 r5 r6 r8 r9)) (bV 1 (uV fun r2 => uV fun r5 => uI fun r6 => uV fun r8 => uB fun r9 => uN (bHU S r2 r5 r6 r8 r9)) (jL))))
noncomputable def F8 (args : List Value) (h : Hp) : aF := bB [Kd.v, Kd.v] args fun al => aN T8 1000000 0 al h
def nt8 : Nat := 2 + (124 - 2)
theorem t8 (S : Sg) : iR (fun l vs h => aX (kF env aNK nt8) (j5 env Try.f8.results.toList) (collect B8 A8 []) l S vs h) (T8 S) := by
 unfold T8
 exact dG (dA fun _ => dA fun _ => iO fun _ => by kernel_rfl) <| dG (dA fun _ => dA fun _ => gI fun _ => gI fun _ => dA fun _ => rwB fun _ => iO fun _ => by kernel_rfl) <| dG (dA fun _ => dA fun _ => gI fun _ => dA fun _ => rwB fun _ => iO fun _ => by kernel_rfl) <| dG (dA fun _ => dA fun _ => gI fun _ => dA fun _ => rwB fun _ => iO fun _ => by kernel_rfl) <| Go.bI.iR.nil
theorem r8 : ∀ args h v h', F8 args h = some (v, h') → eG (C73) (.call 8 args.toArray h) (.ret v h') := by
 intro args h v h' e
 exact bE (C := C73) (fn := Try.f8) (body := B8) (np := 2) (A := A8) (T := T8) (kinds := [Kd.v, Kd.v]) (by kernel_rfl) (by kernel_rfl) (by kernel_rfl) (by kernel_rfl) (dJ dL) (by kernel_rfl) (fun S => t8 S) e
noncomputable def aEZ := jF 8 F8 aNK
noncomputable def C74 : dP := cfg aEZ
theorem a5K : C74.Ok := dB (C := C73) bHT r8
noncomputable abbrev aWC := aEZ
theorem bOA : (cfg aWC).Ok := a5K
end Go.Proofs.Ytdpicdnpiihaaaa.K.L
