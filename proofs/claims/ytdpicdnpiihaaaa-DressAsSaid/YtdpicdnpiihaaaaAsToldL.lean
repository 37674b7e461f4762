/- Functions told for the laws. -/
import Derived.Test.YtdpicdnpiihaaaaAsAwake
import Derived.Test.YtdpicdnpiihaaaaAsEngD
open Go Go.bG Go.bG.Y
set_option maxRecDepth 100000
set_option linter.unusedVariables false
namespace Go.Proofs.Ytdpicdnpiihaaaa.K.L
noncomputable def JE : List Value → Hp → Option Value := MF (.bool true)
theorem aZ4 : fT Try.prog 21 JE := aT3
noncomputable def aPH : PF := EW 21 JE aZP
theorem aJ7 : eB Try.prog aPH := iK aZ4 aT2
noncomputable def aRO := oU 21 JE aJ6
noncomputable def C39 : dL := cfg aRO
theorem bC1 : C39.Ok := fK (C := C38) aZ2 aZ4
noncomputable def B65 : Code := (Try.f65.body).getD .skip
noncomputable def A65 : G.eO (List KI) := (Gm 0 [.reg 0 .v] Gz Gy)
noncomputable def aJ8 (h : Hp) (S : Nat → aC → Option Value) (r0 : Value) : Option Value :=
 oL (Array.toList (Value.cells r0)) fun c0 =>
 z8 c0 3 fun v1 =>
 bU v1 fun i2 =>
 qF .i64 (TZ (lG env .shl 3 (Value.int .i64 (Int.ofNat 1)) (Value.int .i64 i2)) (Value.int .i64 (Int.ofNat 1)) (Value.int .i64 i2)) fun i3 =>
 wrap64 (Int.sub i3 (Int.ofNat 1)) fun i4 =>
 some (Value.int .i64 i4)
noncomputable def T65 (h : Hp) (S : Nat → aC → Option Value) : Nat → aC → Option Value := dR 0 (wV fun r0 => wN (aJ8 h S r0)) (kH)
noncomputable def F65 (args : List Value) (h : Hp) : Option Value := plainO (dS [Kd.v] args fun al => G.aK (T65 h) 1000000 0 al)
def bC2 : Nat := 1 + (9 - 1)
theorem t65 (h : Hp) (S : Nat → aC → Option Value) : gV (fun l al => G.aY iD bZ nT (oQ env aPH bC2 h) (pM env Try.f65.results.toList) (G.collect B65 A65 []) l S al) (T65 h S) := by
 unfold T65
 exact dV (mO fun _ => nV (by kernel_rfl)) <| gV.nil
theorem r65 : fT Try.prog 65 F65 := dF (C := C0) ok0 (pf := aPH) aJ7 (fn := Try.f65) (body := B65) (kinds := [Kd.v]) (A := A65) (T := T65) (by kernel_rfl) (by kernel_rfl) (by kernel_rfl) (by kernel_rfl) (fun h S => t65 h S)
noncomputable def aPI : PF := EW 65 F65 aPH
theorem aJ9 : eB Try.prog aPI := iK r65 aJ7
noncomputable def aKA := oU 65 F65 aRO
noncomputable def C40 : dL := cfg aKA
theorem bC3 : C40.Ok := fK (C := C39) bC1 r65
noncomputable def B96 : Code := (Try.f96.body).getD .skip
def A96 : eO := (Am 0 [(0, .v)] Ao (An (An Ao (An Az Ao)) Az))
noncomputable def aKB (S : Sg) (r0 : Value) (h : Hp) : aF :=
 bP (pR env .eql 79 (Operand.tmp 3) (Operand.const (Value.slice none 0 0)) r0 (Value.slice none 0 0)) fun v0 =>
 dH v0 fun b1 =>
 bY b1
 (some ((Value.slice none 0 0), h))
 (aO (bB env h 79 0 (List.toArray [])) fun v2 h2 =>
 aO (fH env h2 #[79, 79] (List.toArray [v2, r0])) fun v3 h3 =>
 some (v3, h3))
noncomputable def T96 (S : Sg) : Sg := bW 0 (uV fun r0 => uN (aKB S r0)) (jN)
noncomputable def F96 (args : List Value) (h : Hp) : aF := bC [Kd.v] args fun al => aK T96 1000000 0 al h
def bC4 : Nat := 1 + (8 - 1)
theorem t96 (S : Sg) : iQ (fun l vs h => aY (jV env aKA bC4) (jW env Try.f96.results.toList) (collect B96 A96 []) l S vs h) (T96 S) := by
 unfold T96
 exact dJ (dN fun _ => jC fun _ => by kernel_rfl) <| Go.bG.iQ.nil
theorem r96 : ∀ args h v h', F96 args h = some (v, h') → eF (C40) (.call 96 args.toArray h) (.ret v h') := by
 intro args h v h' e
 exact bD (C := C40) (fn := Try.f96) (body := B96) (np := 1) (A := A96) (T := T96) (kinds := [Kd.v]) (by kernel_rfl) (by kernel_rfl) (by kernel_rfl) (by kernel_rfl) (dG dK) (by kernel_rfl) (fun S => t96 S) e
noncomputable def aRP := jI 96 F96 aKA
noncomputable def C41 : dL := cfg aRP
theorem bC5 : C41.Ok := dB (C := C40) bC3 r96
noncomputable def aZ9 : Code := (Try.f112.body).getD .skip
noncomputable def a0A : G.eO (List KI) := (Gm 0 [.reg 0 (.i .u32)] Gz (Gn (Gn Gz (Gn Gy Gz)) (Gm 2 [.reg 0 (.i .u32), .reg 2 (.i .i64)] (Gn Gz (Gn Gy Gz)) (Gm 1 [.reg 0 (.i .u32), .reg 2 (.i .i64)] Gz Gz))))
noncomputable def aT4 (h : Hp) (S : Nat → aC → Option Value) (r0 r2 : Int) : Option Value :=
 tT (vD .u8 r0) fun i0 =>
 bP (jP env 9 (Value.string (ByteArray.mk #[0, 1, 2, 2, 3, 3, 3, 3, 4, 4, 4, 4, 4, 4, 4, 4, 5, 5, 5, 5, 5, 5, 5, 5, 5, 5, 5, 5, 5, 5, 5, 5, 6, 6, 6, 6, 6, 6, 6, 6, 6, 6, 6, 6, 6, 6, 6, 6, 6, 6, 6, 6, 6, 6, 6, 6, 6, 6, 6, 6, 6, 6, 6, 6, 7, 7, 7, 7, 7, 7, 7, 7, 7, 7, 7, 7, 7, 7, 7, 7, 7, 7, 7, 7, 7, 7, 7, 7, 7, 7, 7, 7, 7, 7, 7, 7, 7, 7, 7, 7, 7, 7, 7, 7, 7, 7, 7, 7, 7, 7, 7, 7, 7, 7, 7, 7, 7, 7, 7, 7, 7, 7, 7, 7, 7, 7, 7, 7, 8, 8, 8, 8, 8, 8, 8, 8, 8, 8, 8, 8, 8, 8, 8, 8, 8, 8, 8, 8, 8, 8, 8, 8, 8, 8, 8, 8, 8, 8, 8, 8, 8, 8, 8, 8, 8, 8, 8, 8, 8, 8, 8, 8, 8, 8, 8, 8, 8, 8, 8, 8, 8, 8, 8, 8, 8, 8, 8, 8, 8, 8, 8, 8, 8, 8, 8, 8, 8, 8, 8, 8, 8, 8, 8, 8, 8, 8, 8, 8, 8, 8, 8, 8, 8, 8, 8, 8, 8, 8, 8, 8, 8, 8, 8, 8, 8, 8, 8, 8, 8, 8, 8, 8, 8, 8, 8, 8, 8, 8, 8, 8, 8, 8, 8, 8, 8, 8, 8, 8, 8, 8, 8, 8, 8, 8, 8, 8])) (Value.int .u8 i0)) fun v1 =>
 aR .u8 v1 fun i2 =>
 wrap64 i2 fun i3 =>
 wrap64 (Int.add r2 i3) fun i4 =>
 some (Value.int .i64 i4)
noncomputable def aT5 (h : Hp) (S : Nat → aC → Option Value) (r0 r2 : Int) : Option Value :=
 bI (lV r0 (Int.ofNat 256)) fun b0 =>
 bY b0
 (UK .u32 r0 (Int.ofNat 8) (DD (lG env .shr 143 (Value.int .u32 r0) (Value.int .u64 (Int.ofNat 8))) (Value.int .u32 r0) (Value.int .u64 (Int.ofNat 8))) fun i1 =>
 wrap64 (Int.add r2 (Int.ofNat 8)) fun i2 =>
 S 1 (aC.i i1 (aC.i i2 aC.n)))
 (S 1 (aC.i r0 (aC.i r2 aC.n)))
noncomputable def aT6 (h : Hp) (S : Nat → aC → Option Value) (r0 : Int) : Option Value :=
 bI (lV r0 (Int.ofNat 65536)) fun b0 =>
 bY b0
 (UK .u32 r0 (Int.ofNat 16) (DD (lG env .shr 143 (Value.int .u32 r0) (Value.int .u64 (Int.ofNat 16))) (Value.int .u32 r0) (Value.int .u64 (Int.ofNat 16))) fun i1 =>
 S 2 (aC.i i1 (aC.i (Int.ofNat 16) aC.n)))
 (S 2 (aC.i r0 (aC.i (Int.ofNat 0) aC.n)))
noncomputable def aPJ (h : Hp) (S : Nat → aC → Option Value) : Nat → aC → Option Value := dR 0 (wI fun r0 => wN (aT6 h S r0)) (dR 2 (wI fun r0 => wI fun r2 => wN (aT5 h S r0 r2)) (dR 1 (wI fun r0 => wI fun r2 => wN (aT4 h S r0 r2)) (kH)))
noncomputable def aT7 (args : List Value) (h : Hp) : Option Value := plainO (dS [Kd.i .u32] args fun al => G.aK (aPJ h) 1000000 0 al)
def a0B : Nat := 1 + (19 - 1)
theorem t112 (h : Hp) (S : Nat → aC → Option Value) : gV (fun l al => G.aY iD bZ nT (oQ env aPI a0B h) (pM env Try.f112.results.toList) (G.collect aZ9 a0A []) l S al) (aPJ h S) := by
 unfold aPJ
 exact dV (jR fun _ => nV (by kernel_rfl)) <| dV (jR fun _ => jR fun _ => nV (by kernel_rfl)) <| dV (jR fun _ => jR fun _ => nV (by kernel_rfl)) <| gV.nil
theorem a0C : fT Try.prog 112 aT7 := dF (C := C0) ok0 (pf := aPI) aJ9 (fn := Try.f112) (body := aZ9) (kinds := [Kd.i .u32]) (A := a0A) (T := aPJ) (by kernel_rfl) (by kernel_rfl) (by kernel_rfl) (by kernel_rfl) (fun h S => t112 h S)
noncomputable def aPK : PF := EW 112 aT7 aPI
theorem aKC : eB Try.prog aPK := iK a0C aJ9
noncomputable def aRQ := oU 112 aT7 aRP
noncomputable def C42 : dL := cfg aRQ
theorem bC6 : C42.Ok := fK (C := C41) bC5 a0C
noncomputable def a0D : Code := (Try.f113.body).getD .skip
noncomputable def a0E : G.eO (List KI) := (Gm 0 [.reg 0 (.i .u64)] Gz (Gn (Gn Gz (Gn Gy Gz)) (Gm 3 [.reg 0 (.i .u64), .reg 2 (.i .i64)] (Gn Gz (Gn Gy Gz)) (Gm 2 [.reg 0 (.i .u64), .reg 2 (.i .i64)] (Gn Gz (Gn Gy Gz)) (Gm 1 [.reg 0 (.i .u64), .reg 2 (.i .i64)] Gz Gz)))))
noncomputable def aT8 (h : Hp) (S : Nat → aC → Option Value) (r0 r2 : Int) : Option Value :=
 tT (vD .u8 r0) fun i0 =>
 bP (jP env 9 (Value.string (ByteArray.mk #[0, 1, 2, 2, 3, 3, 3, 3, 4, 4, 4, 4, 4, 4, 4, 4, 5, 5, 5, 5, 5, 5, 5, 5, 5, 5, 5, 5, 5, 5, 5, 5, 6, 6, 6, 6, 6, 6, 6, 6, 6, 6, 6, 6, 6, 6, 6, 6, 6, 6, 6, 6, 6, 6, 6, 6, 6, 6, 6, 6, 6, 6, 6, 6, 7, 7, 7, 7, 7, 7, 7, 7, 7, 7, 7, 7, 7, 7, 7, 7, 7, 7, 7, 7, 7, 7, 7, 7, 7, 7, 7, 7, 7, 7, 7, 7, 7, 7, 7, 7, 7, 7, 7, 7, 7, 7, 7, 7, 7, 7, 7, 7, 7, 7, 7, 7, 7, 7, 7, 7, 7, 7, 7, 7, 7, 7, 7, 7, 8, 8, 8, 8, 8, 8, 8, 8, 8, 8, 8, 8, 8, 8, 8, 8, 8, 8, 8, 8, 8, 8, 8, 8, 8, 8, 8, 8, 8, 8, 8, 8, 8, 8, 8, 8, 8, 8, 8, 8, 8, 8, 8, 8, 8, 8, 8, 8, 8, 8, 8, 8, 8, 8, 8, 8, 8, 8, 8, 8, 8, 8, 8, 8, 8, 8, 8, 8, 8, 8, 8, 8, 8, 8, 8, 8, 8, 8, 8, 8, 8, 8, 8, 8, 8, 8, 8, 8, 8, 8, 8, 8, 8, 8, 8, 8, 8, 8, 8, 8, 8, 8, 8, 8, 8, 8, 8, 8, 8, 8, 8, 8, 8, 8, 8, 8, 8, 8, 8, 8, 8, 8, 8, 8, 8, 8, 8, 8])) (Value.int .u8 i0)) fun v1 =>
 aR .u8 v1 fun i2 =>
 wrap64 i2 fun i3 =>
 wrap64 (Int.add r2 i3) fun i4 =>
 some (Value.int .i64 i4)
noncomputable def aT9 (h : Hp) (S : Nat → aC → Option Value) (r0 r2 : Int) : Option Value :=
 bI (lV r0 (Int.ofNat 256)) fun b0 =>
 bY b0
 (UK .u64 r0 (Int.ofNat 8) (DD (lG env .shr 145 (Value.int .u64 r0) (Value.int .u64 (Int.ofNat 8))) (Value.int .u64 r0) (Value.int .u64 (Int.ofNat 8))) fun i1 =>
 wrap64 (Int.add r2 (Int.ofNat 8)) fun i2 =>
 S 1 (aC.i i1 (aC.i i2 aC.n)))
 (S 1 (aC.i r0 (aC.i r2 aC.n)))
noncomputable def aUA (h : Hp) (S : Nat → aC → Option Value) (r0 r2 : Int) : Option Value :=
 bI (lV r0 (Int.ofNat 65536)) fun b0 =>
 bY b0
 (UK .u64 r0 (Int.ofNat 16) (DD (lG env .shr 145 (Value.int .u64 r0) (Value.int .u64 (Int.ofNat 16))) (Value.int .u64 r0) (Value.int .u64 (Int.ofNat 16))) fun i1 =>
 wrap64 (Int.add r2 (Int.ofNat 16)) fun i2 =>
 S 2 (aC.i i1 (aC.i i2 aC.n)))
 (S 2 (aC.i r0 (aC.i r2 aC.n)))
noncomputable def aUB (h : Hp) (S : Nat → aC → Option Value) (r0 : Int) : Option Value :=
 bI (lV r0 (Int.ofNat 4294967296)) fun b0 =>
 bY b0
 (UK .u64 r0 (Int.ofNat 32) (DD (lG env .shr 145 (Value.int .u64 r0) (Value.int .u64 (Int.ofNat 32))) (Value.int .u64 r0) (Value.int .u64 (Int.ofNat 32))) fun i1 =>
 S 3 (aC.i i1 (aC.i (Int.ofNat 32) aC.n)))
 (S 3 (aC.i r0 (aC.i (Int.ofNat 0) aC.n)))
noncomputable def aPL (h : Hp) (S : Nat → aC → Option Value) : Nat → aC → Option Value := dR 0 (wI fun r0 => wN (aUB h S r0)) (dR 3 (wI fun r0 => wI fun r2 => wN (aUA h S r0 r2)) (dR 2 (wI fun r0 => wI fun r2 => wN (aT9 h S r0 r2)) (dR 1 (wI fun r0 => wI fun r2 => wN (aT8 h S r0 r2)) (kH))))
noncomputable def aPM (args : List Value) (h : Hp) : Option Value := plainO (dS [Kd.i .u64] args fun al => G.aK (aPL h) 1000000 0 al)
def a0F : Nat := 1 + (25 - 1)
theorem t113 (h : Hp) (S : Nat → aC → Option Value) : gV (fun l al => G.aY iD bZ nT (oQ env aPK a0F h) (pM env Try.f113.results.toList) (G.collect a0D a0E []) l S al) (aPL h S) := by
 unfold aPL
 exact dV (jR fun _ => nV (by kernel_rfl)) <| dV (jR fun _ => jR fun _ => nV (by kernel_rfl)) <| dV (jR fun _ => jR fun _ => nV (by kernel_rfl)) <| dV (jR fun _ => jR fun _ => nV (by kernel_rfl)) <| gV.nil
theorem a0G : fT Try.prog 113 aPM := dF (C := C0) ok0 (pf := aPK) aKC (fn := Try.f113) (body := a0D) (kinds := [Kd.i .u64]) (A := a0E) (T := aPL) (by kernel_rfl) (by kernel_rfl) (by kernel_rfl) (by kernel_rfl) (fun h S => t113 h S)
noncomputable def aPN : PF := EW 113 aPM aPK
theorem aKD : eB Try.prog aPN := iK a0G aKC
noncomputable def aRR := oU 113 aPM aRQ
noncomputable def C43 : dL := cfg aRR
theorem bC7 : C43.Ok := fK (C := C42) bC6 a0G
noncomputable def B97 : Code := (Try.f97.body).getD .skip
noncomputable def A97 : G.eO (List KI) := (Gm 0 [.reg 0 (.i .u64)] Gz (Gn (Gn Gy Gz) Gy))
noncomputable def a0H (h : Hp) (S : Nat → aC → Option Value) (r0 : Int) : Option Value :=
 bP (aPM [(Value.int .u64 r0)] h) fun v0 =>
 aR .i64 v0 fun i1 =>
 some (Value.int .i64 i1)
noncomputable def T97 (h : Hp) (S : Nat → aC → Option Value) : Nat → aC → Option Value := dR 0 (wI fun r0 => wN (a0H h S r0)) (kH)
noncomputable def F97 (args : List Value) (h : Hp) : Option Value := plainO (dS [Kd.i .u64] args fun al => G.aK (T97 h) 1000000 0 al)
def bC8 : Nat := 1 + (8 - 1)
theorem t97 (h : Hp) (S : Nat → aC → Option Value) : gV (fun l al => G.aY iD bZ nT (oQ env aPN bC8 h) (pM env Try.f97.results.toList) (G.collect B97 A97 []) l S al) (T97 h S) := by
 unfold T97
 exact dV (jR fun _ => nV (by kernel_rfl)) <| gV.nil
theorem r97 : fT Try.prog 97 F97 := dF (C := C0) ok0 (pf := aPN) aKD (fn := Try.f97) (body := B97) (kinds := [Kd.i .u64]) (A := A97) (T := T97) (by kernel_rfl) (by kernel_rfl) (by kernel_rfl) (by kernel_rfl) (fun h S => t97 h S)
noncomputable def aPO : PF := EW 97 F97 aPN
theorem aKE : eB Try.prog aPO := iK r97 aKD
noncomputable def aRS := oU 97 F97 aRR
noncomputable def C44 : dL := cfg aRS
theorem bC9 : C44.Ok := fK (C := C43) bC7 r97
noncomputable def B98 : Code := (Try.f98.body).getD .skip
noncomputable def A98 : G.eO (List KI) := (Gm 0 [.reg 0 (.i .i64), .reg 1 (.i .i64)] Gz Gy)
noncomputable def a0I (h : Hp) (S : Nat → aC → Option Value) (r0 r1 : Int) : Option Value :=
 UK .i64 r0 r1 (DD (lG env .shr 3 (Value.int .i64 r0) (Value.int .i64 r1)) (Value.int .i64 r0) (Value.int .i64 r1)) fun i0 =>
 aN7 .i64 i0 (Int.ofNat 1) (PO (lG env .and 3 (Value.int .i64 i0) (Value.int .i64 (Int.ofNat 1))) (Value.int .i64 i0) (Value.int .i64 (Int.ofNat 1))) fun i1 =>
 bQ (lD i1 (Int.ofNat 1)) fun b2 =>
 some (Value.bool b2)
noncomputable def T98 (h : Hp) (S : Nat → aC → Option Value) : Nat → aC → Option Value := dR 0 (wI fun r0 => wI fun r1 => wN (a0I h S r0 r1)) (kH)
noncomputable def F98 (args : List Value) (h : Hp) : Option Value := plainO (dS [Kd.i .i64, Kd.i .i64] args fun al => G.aK (T98 h) 1000000 0 al)
def bDA : Nat := 2 + (10 - 2)
theorem t98 (h : Hp) (S : Nat → aC → Option Value) : gV (fun l al => G.aY iD bZ nT (oQ env aPO bDA h) (pM env Try.f98.results.toList) (G.collect B98 A98 []) l S al) (T98 h S) := by
 unfold T98
 exact dV (jR fun _ => jR fun _ => nV (by kernel_rfl)) <| gV.nil
theorem r98 : fT Try.prog 98 F98 := dF (C := C0) ok0 (pf := aPO) aKE (fn := Try.f98) (body := B98) (kinds := [Kd.i .i64, Kd.i .i64]) (A := A98) (T := T98) (by kernel_rfl) (by kernel_rfl) (by kernel_rfl) (by kernel_rfl) (fun h S => t98 h S)
noncomputable def aPP : PF := EW 98 F98 aPO
theorem aKF : eB Try.prog aPP := iK r98 aKE
noncomputable def aKG := oU 98 F98 aRS
noncomputable def C45 : dL := cfg aKG
theorem bDB : C45.Ok := fK (C := C44) bC9 r98
noncomputable def B69 : Code := (Try.f69.body).getD .skip
def A69 : eO := (Am 0 [(0, .i .i64)] Ao (An Ao (An (An Ao (An (Am 1 [(0, .i .i64), (3, .v), (7, .i .i64), (8, .i .i64)] (An Ao (An Az (An (An (An Ao (An Ao Az)) Ao) Ao))) Ao) Ao)) (Am 2 [(3, .v)] Ao Ao))))
noncomputable def a0J (S : Sg) (r3 : Value) (h : Hp) : aF :=
 some (r3, h)
noncomputable def aC8 (S : Sg) (r0 : Int) (r3 : Value) (r7 r8 : Int) (h : Hp) : aF :=
 bQ (lV r8 r7) fun b0 =>
 bY b0
 (aO (bP (F98 [(Value.int .i64 r0), (Value.int .i64 r8)] h) fun v => some (v, h)) fun v1 h1 =>
 dH v1 fun b2 =>
 bY b2
 (aO (bB env h1 22 1 (List.toArray [(0, (Value.int .i64 r8))])) fun v3 h3 =>
 aO (fH env h3 #[22, 22] (List.toArray [r3, v3])) fun v4 h4 =>
 wrap64 (Int.add r8 (Int.ofNat 1)) fun i5 =>
 S 1 (AL.i r0 (AL.v v4 (AL.i r7 (AL.i i5 AL.n)))) h4)
 (wrap64 (Int.add r8 (Int.ofNat 1)) fun i6 =>
 S 1 (AL.i r0 (AL.v r3 (AL.i r7 (AL.i i6 AL.n)))) h1))
 (S 2 (AL.v r3 AL.n) h)
noncomputable def aKH (S : Sg) (r0 : Int) (h : Hp) : aF :=
 tT (vD .u64 r0) fun i0 =>
 aO (bP (F97 [(Value.int .u64 i0)] h) fun v => some (v, h)) fun v1 h1 =>
 aR .i64 v1 fun i2 =>
 S 1 (AL.i r0 (AL.v (Value.slice none 0 0) (AL.i i2 (AL.i (Int.ofNat 0) AL.n)))) h1
noncomputable def T69 (S : Sg) : Sg := bW 0 (uI fun r0 => uN (aKH S r0)) (bW 1 (uI fun r0 => uV fun r3 => uI fun r7 => uI fun r8 => uN (aC8 S r0 r3 r7 r8)) (bW 2 (uV fun r3 => uN (a0J S r3)) (jN)))
noncomputable def F69 (args : List Value) (h : Hp) : aF := bC [Kd.i .i64] args fun al => aK T69 1000000 0 al h
def bDC : Nat := 1 + (20 - 1)
theorem t69 (S : Sg) : iQ (fun l vs h => aY (jV env aKG bDC) (jW env Try.f69.results.toList) (collect B69 A69 []) l S vs h) (T69 S) := by
 unfold T69
 exact dJ (jL fun _ => jC fun _ => by kernel_rfl) <| dJ (jL fun _ => dN fun _ => jL fun _ => jL fun _ => jC fun _ => by kernel_rfl) <| dJ (dN fun _ => jC fun _ => by kernel_rfl) <| Go.bG.iQ.nil
theorem r69 : ∀ args h v h', F69 args h = some (v, h') → eF (C45) (.call 69 args.toArray h) (.ret v h') := by
 intro args h v h' e
 exact bD (C := C45) (fn := Try.f69) (body := B69) (np := 1) (A := A69) (T := T69) (kinds := [Kd.i .i64]) (by kernel_rfl) (by kernel_rfl) (by kernel_rfl) (by kernel_rfl) (dG dK) (by kernel_rfl) (fun S => t69 S) e
noncomputable def aKI := jI 69 F69 aKG
noncomputable def C46 : dL := cfg aKI
theorem bDD : C46.Ok := dB (C := C45) bDB r69
noncomputable def B68 : Code := (Try.f68.body).getD .skip
def A68 : eO := (Am 0 [(0, .v), (1, .i .i64)] Ao (An Ao Az))
noncomputable def aKJ (S : Sg) (r0 : Value) (r1 : Int) (h : Hp) : aF :=
 bF h 71 (Array.toList (Value.cells r0)) fun a0 h0 =>
 aO (cZ F69 [(Value.int .i64 r1)] h0) fun v1 h1 =>
 bF h1 22 [(Value.slice none 0 0)] fun a2 h2 =>
 jQ h2 a2 v1 fun h3 =>
 some ((Value.func (.func 94) (List.toArray []) (List.toArray [a2, a0])), h3)
noncomputable def T68 (S : Sg) : Sg := bW 0 (uV fun r0 => uI fun r1 => uN (aKJ S r0 r1)) (jN)
noncomputable def F68 (args : List Value) (h : Hp) : aF := bC [Kd.v, Kd.i .i64] args fun al => aK T68 1000000 0 al h
def bDE : Nat := 2 + (9 - 2)
theorem t68 (S : Sg) : iQ (fun l vs h => aY (jV env aKI bDE) (jW env Try.f68.results.toList) (collect B68 A68 []) l S vs h) (T68 S) := by
 unfold T68
 exact dJ (dN fun _ => jL fun _ => jC fun _ => by kernel_rfl) <| Go.bG.iQ.nil
theorem r68 : ∀ args h v h', F68 args h = some (v, h') → eF (C46) (.call 68 args.toArray h) (.ret v h') := by
 intro args h v h' e
 exact bD (C := C46) (fn := Try.f68) (body := B68) (np := 2) (A := A68) (T := T68) (kinds := [Kd.v, Kd.i .i64]) (by kernel_rfl) (by kernel_rfl) (by kernel_rfl) (by kernel_rfl) (dG dK) (by kernel_rfl) (fun S => t68 S) e
noncomputable def aKK := jI 68 F68 aKI
noncomputable def C47 : dL := cfg aKK
theorem a0N : C47.Ok := dB (C := C46) bDD r68
noncomputable def BF := hide [95, 94] aKK
noncomputable def DJ : dL := aXQ C47 [95, 94]
theorem bDG : DJ.Ok := aO5 a0N _
noncomputable def aBJ : FY := fyN
theorem VB : zA DJ aBJ := aTM _
noncomputable def B95 : Code := (Try.f95.body).getD .skip
def A95 : eO := (Am 0 [(0, .i .i64), (1, .v), (2, .v), (3, .v), (4, .v), (5, .v)] Ao (An (An (An Ao (An Az Ao)) (An Ao (An (An Ao (An (Am 1 [(0, .i .i64), (1, .v), (3, .v), (5, .v), (22, .i .i64), (23, .i .i64)] (An Ao (An Az (An (An (An Ao (An (An Ao (An (Am 2 [(0, .i .i64), (1, .v), (3, .v), (5, .v), (8, .i .i64), (22, .i .i64), (23, .i .i64), (28, .v), (29, .i .i64), (30, .i .i64)] (An Ao (An Az (An (An (An Ao (An Ao Az)) Ao) Ao))) Ao) Ao)) (Am 3 [(0, .i .i64), (1, .v), (3, .v), (5, .v), (8, .i .i64), (22, .i .i64), (23, .i .i64)] Ao (An Ao (An Az Ao))))) Ao) (Am 4 [(0, .i .i64), (1, .v), (3, .v), (5, .v), (22, .i .i64), (23, .i .i64)] Ao Ao)))) Ao) Ao)) (Am 5 [] Ao Ao)))) Ao))
def aUC : Nat := 6 + (54 - 6)
noncomputable def a0O (R : YF → List Value → Hp → aF) (yf : YF) : RG := rgN
theorem g95 (R : YF → List Value → Hp → aF) (hR : ROk DJ 95 R) (yf : YF) (hY : JC DJ yf) : BB DJ aUC (a0O R yf) (pO B95 A95) := by
 rw [show pO B95 A95 = [] from by kernel_rfl]
 intro x hx
 exact absurd hx (by simp)
noncomputable def aKL (R : YF → List Value → Hp → aF) (yf : YF) (S : rG) (z : Z) (h : Hp) : aF :=
 bP (xC (Z.ds (Z.lose z)) h) fun h0 =>
 some ((Value.bool true), h0)
noncomputable def aKM (R : YF → List Value → Hp → aF) (yf : YF) (S : rG) (r0 : Int) (r1 r3 r5 : Value) (SA VC : Int) (z : Z) (h : Hp) : aF :=
 wrap64 (Int.add VC (Int.ofNat 1)) fun i0 =>
 S 1 (AL.i r0 (AL.v r1 (AL.v r3 (AL.v r5 (AL.i SA (AL.i i0 AL.n)))))) (Z.lose z) h
noncomputable def aKN (R : YF → List Value → Hp → aF) (yf : YF) (S : rG) (r0 : Int) (r1 r3 r5 : Value) (r8 SA VC : Int) (z : Z) (h : Hp) : aF :=
 aI (Hp.mk (Hp.next h) (Hp.next h) (Hp.aD h)) r3 fun v0 =>
 aI (Hp.mk (Hp.next h) (Hp.next h) (Hp.aD h)) r1 fun v1 =>
 dM 1 v1 r0 fun v2 =>
 aI (Hp.mk (Hp.next h) (Hp.next h) (Hp.aD h)) v2 fun v3 =>
 aR .i64 v3 fun i4 =>
 bP (jF env 76 (List.toArray [(0, (Value.int .i64 r8)), (1, (Value.int .i64 i4))])) fun v5 =>
 jG v5 (Hp.next h) (Hp.mk (Hp.next h) (Hp.next h) T.nil) fun w6 n6 =>
 dM 2 v0 r0 fun v7 =>
 dZ 2 (Hp.mk n6 (Hp.ro h) (aW w6 (Hp.aD h))) v7 v5 fun h8 =>
 aI h8 r5 fun v9 =>
 wrap64 (Int.add r0 (Int.ofNat 1)) fun i10 =>
 aO (D5 BF (fyC 95 R aBJ) yf v9 [(Value.int .i64 i10)] h8) fun v11 h11 =>
 dH v11 fun b12 =>
 bI b12 fun b13 =>
 bY b13
 (bP (xC (Z.ds (Z.lose z)) h11) fun h14 =>
 some ((Value.bool false), h14))
 (S 4 (AL.i r0 (AL.v r1 (AL.v r3 (AL.v r5 (AL.i SA (AL.i VC AL.n)))))) (Z.lose z) h11)
noncomputable def aC9 (R : YF → List Value → Hp → aF) (yf : YF) (S : rG) (r0 : Int) (r1 r3 r5 : Value) (r8 SA VC : Int) (r28 : Value) (r29 r30 : Int) (z : Z) (h : Hp) : aF :=
 bQ (lV r30 r29) fun b0 =>
 bY b0
 (dM 2 r28 r30 fun v1 =>
 aX 2 h v1 fun v2 =>
 bF h 76 [(Value.int .i64 (Int.ofNat 0)), (Value.int .i64 (Int.ofNat 0))] fun a3 h3 =>
 dZ 2 h3 a3 v2 fun h4 =>
 aP 0 a3 fun v5 =>
 aI h4 v5 fun v6 =>
 aR .i64 v6 fun i7 =>
 bQ (lD i7 r8) fun b8 =>
 bY b8
 (S 4 (AL.i r0 (AL.v r1 (AL.v r3 (AL.v r5 (AL.i SA (AL.i VC AL.n)))))) (Z.lose z) h4)
 (wrap64 (Int.add r30 (Int.ofNat 1)) fun i9 =>
 S 2 (AL.i r0 (AL.v r1 (AL.v r3 (AL.v r5 (AL.i r8 (AL.i SA (AL.i VC (AL.v r28 (AL.i r29 (AL.i i9 AL.n)))))))))) (Z.lose z) h4))
 (S 3 (AL.i r0 (AL.v r1 (AL.v r3 (AL.v r5 (AL.i r8 (AL.i SA (AL.i VC AL.n))))))) (Z.lose z) h)
noncomputable def aDA (R : YF → List Value → Hp → aF) (yf : YF) (S : rG) (r0 : Int) (r1 r3 r5 : Value) (SA VC : Int) (z : Z) (h : Hp) : aF :=
 bQ (lV VC SA) fun b0 =>
 bY b0
 (aI h r3 fun v1 =>
 bP (gY env h 79 v1 none (some (Value.int .i64 r0)) none) fun v2 =>
 bU v2 fun i3 =>
 S 2 (AL.i r0 (AL.v r1 (AL.v r3 (AL.v r5 (AL.i VC (AL.i SA (AL.i VC (AL.v v2 (AL.i i3 (AL.i (Int.ofNat 0) AL.n)))))))))) (Z.lose z) h)
 (S 5 AL.n (Z.lose z) h)
noncomputable def YG (R : YF → List Value → Hp → aF) (yf : YF) (S : rG) (r0 : Int) (r1 r2 : Value) (r3 r4 r5 : Value) (z : Z) (h : Hp) : aF :=
 aI h r1 fun v0 =>
 bU v0 fun i1 =>
 bQ (lD r0 i1) fun b2 =>
 bY b2
 (aI (Hp.mk (Hp.next h) (Hp.next h) (Hp.aD h)) r2 fun v3 =>
 aI (Hp.mk (Hp.next h) (Hp.next h) (Hp.aD h)) r3 fun v4 =>
 aO (cZ F96 [v4] (Hp.mk (Hp.next h) (Hp.next h) (Hp.aD h))) fun v5 h5 =>
 jG v5 (Hp.next h) h5 fun w6 n6 =>
 aO (D5 BF (fyC 95 R aBJ) yf v3 [v5] (Hp.mk n6 (Hp.ro h) (aW w6 (Hp.aD h)))) fun v7 h7 =>
 dH v7 fun b8 =>
 bP (xC (Z.ds (Z.lose z)) h7) fun h9 =>
 some ((Value.bool b8), h9))
 (aP 0 r4 fun v10 =>
 aP 2 v10 fun v11 =>
 aI h v11 fun v12 =>
 bU v12 fun i13 =>
 S 1 (AL.i r0 (AL.v r1 (AL.v r3 (AL.v r5 (AL.i i13 (AL.i (Int.ofNat 0) AL.n)))))) (Z.lose z) h)
noncomputable def LP (R : YF → List Value → Hp → aF) (yf : YF) (S : rG) : rG := Y.bW 0 (Y.uI fun r0 => Y.uV fun r1 => Y.uV fun r2 => Y.uV fun r3 => Y.uV fun r4 => Y.uV fun r5 => Y.uN (YG R yf S r0 r1 r2 r3 r4 r5)) (Y.bW 1 (Y.uI fun r0 => Y.uV fun r1 => Y.uV fun r3 => Y.uV fun r5 => Y.uI fun SA => Y.uI fun VC => Y.uN (aDA R yf S r0 r1 r3 r5 SA VC)) (Y.bW 2 (Y.uI fun r0 => Y.uV fun r1 => Y.uV fun r3 => Y.uV fun r5 => Y.uI fun r8 => Y.uI fun SA => Y.uI fun VC => Y.uV fun r28 => Y.uI fun r29 => Y.uI fun r30 => Y.uN (aC9 R yf S r0 r1 r3 r5 r8 SA VC r28 r29 r30)) (Y.bW 3 (Y.uI fun r0 => Y.uV fun r1 => Y.uV fun r3 => Y.uV fun r5 => Y.uI fun r8 => Y.uI fun SA => Y.uI fun VC => Y.uN (aKN R yf S r0 r1 r3 r5 r8 SA VC)) (Y.bW 4 (Y.uI fun r0 => Y.uV fun r1 => Y.uV fun r3 => Y.uV fun r5 => Y.uI fun SA => Y.uI fun VC => Y.uN (aKM R yf S r0 r1 r3 r5 SA VC)) (Y.bW 5 (Y.uN (aKL R yf S)) (Y.jN))))))
theorem t95 (R : YF → List Value → Hp → aF) (yf : YF) (S : rG) : Y.iQ (fun l vs z h => Y.aY (a0O R yf) (fyC 95 R aBJ) yf none aUC 0 (aCZ env BF (fyC 95 R aBJ) aUC yf) (OA env Try.f95.results.toList) (OA env Try.f95.results.toList) XY (Y.collect B95 A95 []) l S vs z h) (LP R yf S) := by
 unfold LP
 exact BD (X3 fun _ => DI fun _ => DI fun _ => DI fun _ => DI fun _ => DI fun _ => ywN fun _ _ => by kernel_rfl) <| BD (X3 fun _ => DI fun _ => DI fun _ => DI fun _ => X3 fun _ => X3 fun _ => ywN fun _ _ => by kernel_rfl) <| BD (X3 fun _ => DI fun _ => DI fun _ => DI fun _ => X3 fun _ => X3 fun _ => X3 fun _ => DI fun _ => X3 fun _ => X3 fun _ => ywN fun _ _ => by kernel_rfl) <| BD (X3 fun _ => DI fun _ => DI fun _ => DI fun _ => X3 fun _ => X3 fun _ => X3 fun _ => ywN fun _ _ => by kernel_rfl) <| BD (X3 fun _ => DI fun _ => DI fun _ => DI fun _ => X3 fun _ => X3 fun _ => ywN fun _ _ => by kernel_rfl) <| BD (ywN fun _ _ => by kernel_rfl) <| Y.iQ.nil
noncomputable def JF (R : YF → List Value → Hp → aF) (yf : YF) (args : List Value) (h : Hp) : aF := bC [Kd.i .i64, Kd.v, Kd.v, Kd.v, Kd.v, Kd.v] args fun al => kP (LP R yf) 1000000 0 al ⟨some (jA args 0 bG.T.nil), []⟩ h
theorem bDH (R : YF → List Value → Hp → aF) (hR : ROk DJ 95 R) (yf : YF) (hY : JC DJ yf) : ∀ args h v h', JF R yf args h = some (v, h') → eF DJ (.call 95 args.toArray h) (.ret v h') := by
 intro args h v h' e
 exact E5 (C := DJ) (fn := Try.f95) (body := B95) (np := 6) (A := A95) (T := LP R yf) (kinds := [Kd.i .i64, Kd.v, Kd.v, Kd.v, Kd.v, Kd.v]) (N9 (C := DJ) dK (U7 (fun a h => by kernel_rfl) (by kernel_rfl) hR VB) hY) hY (U7 (fun a h => by kernel_rfl) (by kernel_rfl) hR VB) (by kernel_rfl) (by kernel_rfl) (by kernel_rfl) (by kernel_rfl) (g95 R hR yf hY) (by kernel_rfl) (fun S => t95 R yf S) e
noncomputable def a0Q : YF → List Value → Hp → aF := GY JF 64
theorem bDI (yf : YF) (hY : JC DJ yf) : ∀ args h v h', a0Q yf args h = some (v, h') → eF DJ (.call 95 args.toArray h) (.ret v h') := aC0 (G := JF) (fun R hR yf hY => bDH R hR yf hY) 64 yf hY
noncomputable def JG : FY := fyC 95 a0Q aBJ
theorem JH : zA DJ JG := U7 (fun a h => by kernel_rfl) (by kernel_rfl) (fun yf hY => bDI yf hY) VB
noncomputable def B94 : Code := (Try.f94.body).getD .skip
def A94 : eO := (Am 0 [(0, .v), (1, .v), (2, .v)] Ao (An Ao (An Ao Az)))
def aUD : Nat := 3 + (12 - 3)
noncomputable def a0R (yf : YF) : RG := rgN
theorem g94 (yf : YF) (hY : JC DJ yf) : BB DJ aUD (a0R yf) (pO B94 A94) := by
 rw [show pO B94 A94 = [] from by kernel_rfl]
 intro x hx
 exact absurd hx (by simp)
noncomputable def aKO (yf : YF) (S : rG) (r0 r1 r2 : Value) (z : Z) (h : Hp) : aF :=
 bF h 90 (Array.toList (Value.cells r0)) fun a0 h0 =>
 aI h0 r1 fun v1 =>
 bU v1 fun i2 =>
 aO (oI env h0 79 (Value.int .i64 i2) (Value.int .i64 i2)) fun v3 h3 =>
 bF h3 79 [(Value.slice none 0 0)] fun a4 h4 =>
 jQ h4 a4 v3 fun h5 =>
 bF h5 105 [Value.nilFunc] fun a6 h6 =>
 jQ h6 a6 (Value.func (.func 95) (List.toArray []) (List.toArray [r1, a0, a4, r2, a6])) fun h7 =>
 aI h7 a6 fun v8 =>
 aO (D5 BF JG yf v8 [(Value.int .i64 (Int.ofNat 0))] h7) fun v9 h9 =>
 dH v9 fun b10 =>
 bP (xC (Z.ds (Z.lose z)) h9) fun h11 =>
 some (Value.tuple (List.toArray []), h11)
noncomputable def T94 (yf : YF) (S : rG) : rG := Y.bW 0 (Y.uV fun r0 => Y.uV fun r1 => Y.uV fun r2 => Y.uN (aKO yf S r0 r1 r2)) (Y.jN)
theorem t94 (yf : YF) (S : rG) : Y.iQ (fun l vs z h => Y.aY (a0R yf) JG yf none aUD 0 (aCZ env BF JG aUD yf) (OA env Try.f94.results.toList) (OA env Try.f94.results.toList) XY (Y.collect B94 A94 []) l S vs z h) (T94 yf S) := by
 unfold T94
 exact BD (DI fun _ => DI fun _ => DI fun _ => ywN fun _ _ => by kernel_rfl) <| Y.iQ.nil
noncomputable def aFM (yf : YF) (args : List Value) (h : Hp) : aF := bC [Kd.v, Kd.v, Kd.v] args fun al => kP (T94 yf) 1000000 0 al ⟨some (jA args 0 bG.T.nil), []⟩ h
theorem bDJ (yf : YF) (hY : JC DJ yf) : ∀ args h v h', aFM yf args h = some (v, h') → eF DJ (.call 94 args.toArray h) (.ret v h') := by
 intro args h v h' e
 exact E5 (C := DJ) (fn := Try.f94) (body := B94) (np := 3) (A := A94) (T := T94 yf) (kinds := [Kd.v, Kd.v, Kd.v]) (N9 (C := DJ) dK JH hY) hY JH (by kernel_rfl) (by kernel_rfl) (by kernel_rfl) (by kernel_rfl) (g94 yf hY) (by kernel_rfl) (fun S => t94 yf S) e
noncomputable def uK : FY := fyC 94 aFM JG
theorem CQ : zA DJ uK := U7 (fun a h => by kernel_rfl) (by kernel_rfl) (fun yf hY => bDJ yf hY) JH
noncomputable def aKP : Code := (Try.f101.body).getD .skip
def aKQ : eO := (Am 0 [(0, .v), (1, .v)] Ao (An Ao (An Ao (An (An Ao (An (An (Am 1 [(3, .v), (6, .v), (7, .v)] Ao Ao) Ao) Ao)) (Am 2 [(6, .v), (7, .v)] Ao Ao)))))
def G5 : Nat := 2 + (23 - 2)
noncomputable def lC : PK := (pO aKP aKQ).getD 0 ⟨0, [], #[], .skip, .skip⟩
noncomputable def LQ : eO := (Am 0 [(10, .v), (3, .v), (6, .v), (7, .v)] Ao Ao)
noncomputable def G6 : eO := (Am 1 [(3, .v), (6, .v), (7, .v), (8, .v)] (An Ao Az) Ao)
noncomputable def aDB (yf : YF) : RG := rgN
theorem aUF (yf : YF) (hY : JC DJ yf) : BB DJ G5 (aDB yf) (pO (PK.a lC) LQ ++ pO (PK.b lC) G6) := by
 rw [show pO (PK.a lC) LQ ++ pO (PK.b lC) G6 = [] from by kernel_rfl]
 intro x hx
 exact absurd hx (by simp)
noncomputable def OI (yf : YF) (l0 : Nat) (S : rG) (r3 r6 : Value) (r7 r8 : Value) (z : Z) (h : Hp) : aF :=
 aI h r7 fun v0 =>
 dH v0 fun b1 =>
 bI b1 fun b2 =>
 bY b2
 (jQ h r6 r8 fun h3 =>
 jQ h3 r7 (Value.bool true) fun h4 =>
 some (Value.bool true, h4))
 (aI h r3 fun v5 =>
 aI h r6 fun v6 =>
 aO (D5 BF uK yf v5 [r8, v6] h) fun v7 h7 =>
 aR .i64 v7 fun i8 =>
 bQ (lV i8 (Int.ofNat 0)) fun b9 =>
 bY b9
 (jQ h7 r6 r8 fun h10 =>
 jQ h10 r7 (Value.bool true) fun h11 =>
 some (Value.bool true, h11))
 (some (Value.bool true, h7)))
noncomputable def aKR (yf : YF) (l0 : Nat) (S : rG) (nW r3 : Value) (r6 r7 : Value) (z : Z) (h : Hp) : aF :=
 DZ l0 h fun h0 =>
 S 1 (AL.v r3 (AL.v r6 (AL.v r7 (AL.v nW AL.n)))) (Z.lose z) h0
noncomputable def uL (yf : YF) (l0 : Nat) (S : rG) : rG := Y.bW 0 (Y.uV fun nW => Y.uV fun r3 => Y.uV fun r6 => Y.uV fun r7 => Y.uN (aKR yf l0 S nW r3 r6 r7)) (Y.bW 1 (Y.uV fun r3 => Y.uV fun r6 => Y.uV fun r7 => Y.uV fun r8 => Y.uN (OI yf l0 S r3 r6 r7 r8)) (Y.jN))
theorem aUG (yf : YF) (l0 : Nat) (S : rG) : Y.iQ (fun l vs z h => Y.aY (aDB yf) uK yf (some l0) G5 l0 (aCZ env BF uK G5 yf) Y.aTJ Y.aTK Y.aTL (Y.collect (PK.a lC) LQ [Y.Frame.gate (PK.b lC) G6] ++ Y.collect (PK.b lC) G6 []) l S vs z h) (uL yf l0 S) := by
 unfold uL
 exact BD (DI fun _ => DI fun _ => DI fun _ => DI fun _ => ywN fun _ _ => by kernel_rfl) <| BD (DI fun _ => DI fun _ => DI fun _ => DI fun _ => ywN fun _ _ => by kernel_rfl) <| Y.iQ.nil
noncomputable def aDC (yf : YF) (l : Nat) (al : AL) (z : Z) (args : List Value) (h : Hp) : aF := E8 [(10, Kd.v)] args al ⟨z.tm, []⟩ fun al z => kP (uL yf l) 1000000 0 al z h
theorem aPQ (yf : YF) (hY : JC DJ yf) (ρ : RG) (hρ : ∀ l al z args h, ρ (PK.j lC) l al z args h = aDC yf l al z args h) : RQ DJ G5 ρ (PK.j lC) (PK.keep lC) (PK.ps lC) (PK.a lC) (PK.b lC) :=
 XZ (C := DJ) (kinds := [Kd.v]) (Aa := LQ) (Ab := G6) (T := uL yf) (fun _ => N9 (C := DJ) dK CQ hY) hY CQ (by kernel_rfl) (of_decide_eq_true (by kernel_rfl)) (by kernel_rfl) (aUF yf hY) (by kernel_rfl) (fun gl S => aUG yf gl S) hρ
noncomputable def YH (yf : YF) : RG := rgC 1 (aDC yf) (rgN)
theorem bDK (yf : YF) (hY : JC DJ yf) : BB DJ G5 (YH yf) (pO aKP aKQ) := by
 rw [show pO aKP aKQ = [lC] from by kernel_rfl]
 intro x hx
 rcases List.mem_cons.1 hx with rfl | hx
 ·exact aPQ yf hY _ (fun l al z args h => by kernel_rfl)
 exact absurd hx (by simp)
noncomputable def aBK (yf : YF) (S : rG) (r6 r7 : Value) (z : Z) (h : Hp) : aF :=
 aI h r6 fun v0 =>
 aI h r7 fun v1 =>
 dH v1 fun b2 =>
 bP (xC (Z.ds (Z.lose z)) h) fun h3 =>
 some (Value.tuple (List.toArray [v0, (Value.bool b2)]), h3)
noncomputable def aBL (yf : YF) (S : rG) (r0 r1 : Value) (z : Z) (h : Hp) : aF :=
 bF h 133 (Array.toList (Value.cells r1)) fun a0 h0 =>
 bF h0 79 [(Value.slice none 0 0)] fun a1 h1 =>
 bF h1 4 [(Value.bool false)] fun a2 h2 =>
 jQ h2 a2 (Value.bool false) fun h3 =>
 bP (Z.tm (Z.put (Z.put (Z.put (Z.put (Z.put (Z.put z 3 a0) 4 (Value.slice none 0 0)) 5 (Value.bool false)) 6 a1) 7 a2) 9 r0)) fun tm4 =>
 aH3 uK yf none (fun d => LX.mk tm4 G5 (PK.ps lC) (PK.a lC) (PK.b lC) d) r0 h3 (fun l args h => YH yf 1 l (AL.v a0 (AL.v a1 (AL.v a2 AL.n))) (Z.put (Z.put (Z.put (Z.put (Z.put (Z.put z 3 a0) 4 (Value.slice none 0 0)) 5 (Value.bool false)) 6 a1) 7 a2) 9 r0) args h) fun e4 mk4 h4 =>
 exK e4
 (S 2 (AL.v a1 (AL.v a2 AL.n)) (Z.mark (Z.put (Z.put (Z.put (Z.put (Z.put (Z.put z 3 a0) 4 (Value.slice none 0 0)) 5 (Value.bool false)) 6 a1) 7 a2) 9 r0) mk4) h4)
 (bP (xC (Z.ds (Z.mark (Z.put (Z.put (Z.put (Z.put (Z.put (Z.put z 3 a0) 4 (Value.slice none 0 0)) 5 (Value.bool false)) 6 a1) 7 a2) 9 r0) mk4)) h4) fun h5 =>
 some (Value.tuple (List.toArray [(Value.slice none 0 0), (Value.bool false)]), h5))
 fun i4 => none
noncomputable def VD (yf : YF) (S : rG) : rG := Y.bW 0 (Y.uV fun r0 => Y.uV fun r1 => Y.uN (aBL yf S r0 r1)) (Y.bW 2 (Y.uV fun r6 => Y.uV fun r7 => Y.uN (aBK yf S r6 r7)) (Y.jN))
theorem t101 (yf : YF) (S : rG) : Y.iQ (fun l vs z h => Y.aY (YH yf) uK yf none G5 0 (aO2 env BF uK G5 yf) (OA env Try.f101.results.toList) (OA env Try.f101.results.toList) XY (Y.collect aKP aKQ []) l S vs z h) (VD yf S) := by
 unfold VD
 exact BD (DI fun _ => DI fun _ => ywN fun _ _ => by kernel_rfl) <| BD (DI fun _ => DI fun _ => ywN fun _ _ => by kernel_rfl) <| Y.iQ.nil
noncomputable def aKS (yf : YF) (args : List Value) (h : Hp) : aF := bC [Kd.v, Kd.v] args fun al => kP (VD yf) 1000000 0 al ⟨some (jA args 0 bG.T.nil), []⟩ h
theorem a0S (yf : YF) (hY : JC DJ yf) : ∀ args h v h', aKS yf args h = some (v, h') → eF DJ (.call 101 args.toArray h) (.ret v h') := by
 intro args h v h' e
 exact E5 (C := DJ) (fn := Try.f101) (body := aKP) (np := 2) (A := aKQ) (T := VD yf) (kinds := [Kd.v, Kd.v]) (aCY (C := DJ) dK CQ hY) hY CQ (by kernel_rfl) (by kernel_rfl) (by kernel_rfl) (by kernel_rfl) (bDK yf hY) (by kernel_rfl) (fun S => t101 yf S) e
noncomputable def aBM (args : List Value) (h : Hp) : aF := aKS yN args h
theorem bDL : ∀ args h v h', aBM args h = some (v, h') → eF DJ (.call 101 args.toArray h) (.ret v h') := a0S yN (aXO _)
noncomputable def aKT := jI 101 aBM aKK
noncomputable def C48 : dL := cfg aKT
theorem bDM : C48.Ok := aIE (C := C47) a0N bDG rfl bDL
noncomputable def B76 : Code := (Try.f76.body).getD .skip
def A76 : eO := (Am 0 [(0, .v), (1, .i .i64)] Ao (An Ao (An (An Ao (An Az Ao)) Az)))
noncomputable def aKU (S : Sg) (r0 : Value) (r1 : Int) (h : Hp) : aF :=
 bF h 71 (Array.toList (Value.cells r0)) fun a0 h0 =>
 aX 5 (Hp.mk (Hp.next h0) (Hp.next h0) (Hp.aD h0)) a0 fun v1 =>
 aO (cZ F68 [v1, (Value.int .i64 r1)] (Hp.mk (Hp.next h0) (Hp.next h0) (Hp.aD h0))) fun v2 h2 =>
 jG v2 (Hp.next h0) h2 fun w3 n3 =>
 aX 5 (Hp.mk n3 n3 (Hp.aD h0)) a0 fun v4 =>
 jG (Value.func (.func 102) (List.toArray [v4]) (List.toArray [])) n3 (Hp.mk n3 n3 T.nil) fun w5 n5 =>
 aX 5 (Hp.mk n5 n5 (Hp.aD h0)) a0 fun v6 =>
 jG (Value.func (.func 54) (List.toArray [v6]) (List.toArray [])) n5 (Hp.mk n5 n5 T.nil) fun w7 n7 =>
 bP (jF env 135 (List.toArray [(0, (Value.func (.func 102) (List.toArray [v4]) (List.toArray []))), (1, (Value.func (.func 54) (List.toArray [v6]) (List.toArray [])))])) fun v8 =>
 jG v8 n7 (Hp.mk n7 n7 T.nil) fun w9 n9 =>
 jG (Value.func (.func 103) (List.toArray [v8]) (List.toArray [])) n9 (Hp.mk n9 n9 T.nil) fun w10 n10 =>
 aO (cZ aBM [v2, (Value.func (.func 103) (List.toArray [v8]) (List.toArray []))] (Hp.mk n10 n10 (aW w10 (aW w9 (aW w7 (aW w5 (aW w3 (Hp.aD h0)))))))) fun v11 h11 =>
 jG v11 n10 h11 fun w12 n12 =>
 fU v11 0 fun v13 =>
 fU v11 1 fun v14 =>
 dH v14 fun b15 =>
 bI b15 fun b16 =>
 bY b16
 (some (Value.tuple (List.toArray [(Value.slice none 0 0), (Value.int .i64 (Int.ofNat 9))]), (Hp.mk n12 (Hp.ro h0) (aW w12 (aW w10 (aW w9 (aW w7 (aW w5 (aW w3 (Hp.aD h0))))))))))
 (some (Value.tuple (List.toArray [v13, (Value.int .i64 (Int.ofNat 0))]), (Hp.mk n12 (Hp.ro h0) (aW w12 (aW w10 (aW w9 (aW w7 (aW w5 (aW w3 (Hp.aD h0))))))))))
noncomputable def T76 (S : Sg) : Sg := bW 0 (uV fun r0 => uI fun r1 => uN (aKU S r0 r1)) (jN)
noncomputable def F76 (args : List Value) (h : Hp) : aF := bC [Kd.v, Kd.i .i64] args fun al => aK T76 1000000 0 al h
def bDN : Nat := 2 + (24 - 2)
theorem t76 (S : Sg) : iQ (fun l vs h => aY (aHZ env aKT bDN) (jW env Try.f76.results.toList) (collect B76 A76 []) l S vs h) (T76 S) := by
 unfold T76
 exact dJ (dN fun _ => jL fun _ => jC fun _ => by kernel_rfl) <| Go.bG.iQ.nil
theorem r76 : ∀ args h v h', F76 args h = some (v, h') → eF (C48) (.call 76 args.toArray h) (.ret v h') := by
 intro args h v h' e
 exact bD (C := C48) (fn := Try.f76) (body := B76) (np := 2) (A := A76) (T := T76) (kinds := [Kd.v, Kd.i .i64]) (by kernel_rfl) (by kernel_rfl) (by kernel_rfl) (by kernel_rfl) (UZ dK) (by kernel_rfl) (fun S => t76 S) e
noncomputable def aKV := jI 76 F76 aKT
noncomputable def C49 : dL := cfg aKV
theorem bDO : C49.Ok := dB (C := C48) bDM r76
noncomputable def B64 : Code := (Try.f64.body).getD .skip
def A64 : eO := (Am 0 [(0, .v), (1, .i .i64)] Ao (An Ao (An (An Ao (An Az Ao)) Az)))
noncomputable def aKW (S : Sg) (r0 : Value) (r1 : Int) (h : Hp) : aF :=
 bF h 71 (Array.toList (Value.cells r0)) fun a0 h0 =>
 aX 5 h0 a0 fun v1 =>
 aO (cZ F76 [v1, (Value.int .i64 r1)] h0) fun v2 h2 =>
 fU v2 0 fun v3 =>
 fU v2 1 fun v4 =>
 aR .i64 v4 fun i5 =>
 bI (lD i5 (Int.ofNat 0)) fun b6 =>
 bY b6
 (some (Value.tuple (List.toArray [(Value.slice none 0 0), (Value.int .i64 (Int.ofNat 9))]), h2))
 (aX 5 h2 a0 fun v7 =>
 aO (cZ F62 [v7, v3] h2) fun v8 h8 =>
 dH v8 fun b9 =>
 bI b9 fun b10 =>
 bY b10
 (some (Value.tuple (List.toArray [(Value.slice none 0 0), (Value.int .i64 (Int.ofNat 9))]), h8))
 (some (Value.tuple (List.toArray [v3, (Value.int .i64 (Int.ofNat 0))]), h8)))
noncomputable def T64 (S : Sg) : Sg := bW 0 (uV fun r0 => uI fun r1 => uN (aKW S r0 r1)) (jN)
noncomputable def F64 (args : List Value) (h : Hp) : aF := bC [Kd.v, Kd.i .i64] args fun al => aK T64 1000000 0 al h
def bDP : Nat := 2 + (23 - 2)
theorem t64 (S : Sg) : iQ (fun l vs h => aY (aHZ env aKV bDP) (jW env Try.f64.results.toList) (collect B64 A64 []) l S vs h) (T64 S) := by
 unfold T64
 exact dJ (dN fun _ => jL fun _ => jC fun _ => by kernel_rfl) <| Go.bG.iQ.nil
theorem r64 : ∀ args h v h', F64 args h = some (v, h') → eF (C49) (.call 64 args.toArray h) (.ret v h') := by
 intro args h v h' e
 exact bD (C := C49) (fn := Try.f64) (body := B64) (np := 2) (A := A64) (T := T64) (kinds := [Kd.v, Kd.i .i64]) (by kernel_rfl) (by kernel_rfl) (by kernel_rfl) (by kernel_rfl) (UZ dK) (by kernel_rfl) (fun S => t64 S) e
noncomputable def aKX := jI 64 F64 aKV
noncomputable def C50 : dL := cfg aKX
theorem bDQ : C50.Ok := dB (C := C49) bDO r64
noncomputable def B66 : Code := (Try.f66.body).getD .skip
def A66 : eO := (Am 0 [(0, .v)] Ao (An Ao (An (An Ao (An (Am 1 [(3, .v), (6, .v), (7, .i .i64), (8, .i .i64)] (An Ao (An Az (An (An Az Ao) Ao))) Ao) Ao)) (Am 2 [(3, .v)] Ao Ao))))
noncomputable def a0W (S : Sg) (r3 : Value) (h : Hp) : aF :=
 some (r3, h)
noncomputable def aDD (S : Sg) (r3 r6 : Value) (r7 r8 : Int) (h : Hp) : aF :=
 bQ (lV r8 r7) fun b0 =>
 bY b0
 (dM 2 r6 r8 fun v1 =>
 aX 2 h v1 fun v2 =>
 bF h 76 [(Value.int .i64 (Int.ofNat 0)), (Value.int .i64 (Int.ofNat 0))] fun a3 h3 =>
 dZ 2 h3 a3 v2 fun h4 =>
 aP 0 a3 fun v5 =>
 aI h4 v5 fun v6 =>
 aR .i64 v6 fun i7 =>
 aO (bB env h4 22 1 (List.toArray [(0, (Value.int .i64 i7))])) fun v8 h8 =>
 aO (fH env h8 #[22, 22] (List.toArray [r3, v8])) fun v9 h9 =>
 wrap64 (Int.add r8 (Int.ofNat 1)) fun i10 =>
 S 1 (AL.v v9 (AL.v r6 (AL.i r7 (AL.i i10 AL.n)))) h9)
 (S 2 (AL.v r3 AL.n) h)
noncomputable def aKY (S : Sg) (r0 : Value) (h : Hp) : aF :=
 bU r0 fun i0 =>
 S 1 (AL.v (Value.slice none 0 0) (AL.v r0 (AL.i i0 (AL.i (Int.ofNat 0) AL.n)))) h
noncomputable def T66 (S : Sg) : Sg := bW 0 (uV fun r0 => uN (aKY S r0)) (bW 1 (uV fun r3 => uV fun r6 => uI fun r7 => uI fun r8 => uN (aDD S r3 r6 r7 r8)) (bW 2 (uV fun r3 => uN (a0W S r3)) (jN)))
noncomputable def F66 (args : List Value) (h : Hp) : aF := bC [Kd.v] args fun al => aK T66 1000000 0 al h
def bDR : Nat := 1 + (19 - 1)
theorem t66 (S : Sg) : iQ (fun l vs h => aY (jV env aKX bDR) (jW env Try.f66.results.toList) (collect B66 A66 []) l S vs h) (T66 S) := by
 unfold T66
 exact dJ (dN fun _ => jC fun _ => by kernel_rfl) <| dJ (dN fun _ => dN fun _ => jL fun _ => jL fun _ => jC fun _ => by kernel_rfl) <| dJ (dN fun _ => jC fun _ => by kernel_rfl) <| Go.bG.iQ.nil
theorem r66 : ∀ args h v h', F66 args h = some (v, h') → eF (C50) (.call 66 args.toArray h) (.ret v h') := by
 intro args h v h' e
 exact bD (C := C50) (fn := Try.f66) (body := B66) (np := 1) (A := A66) (T := T66) (kinds := [Kd.v]) (by kernel_rfl) (by kernel_rfl) (by kernel_rfl) (by kernel_rfl) (dG dK) (by kernel_rfl) (fun S => t66 S) e
noncomputable def aKZ := jI 66 F66 aKX
noncomputable def C51 : dL := cfg aKZ
theorem bDS : C51.Ok := dB (C := C50) bDQ r66
noncomputable def B26 : Code := (Try.f26.body).getD .skip
def A26 : eO := (Am 0 [(0, .v)] Ao (An Ao (An (An Ao (An Az Ao)) (An Ao (An (An Ao (An Az Ao)) Az)))))
noncomputable def aK0 (S : Sg) (r0 : Value) (h : Hp) : aF :=
 bF h 25 (Array.toList (Value.cells r0)) fun a0 h0 =>
 aX 4 h0 a0 fun v1 =>
 aO (cZ F63 [v1] h0) fun v2 h2 =>
 fU v2 0 fun v3 =>
 fU v2 1 fun v4 =>
 aR .i64 v4 fun i5 =>
 bF h2 71 [(Value.slice none 0 0), (Value.slice none 0 0), (Value.slice none 0 0), (Value.slice none 0 0), (Value.map none)] fun a6 h6 =>
 dZ 5 h6 a6 v3 fun h7 =>
 bI (lD i5 (Int.ofNat 0)) fun b8 =>
 bY b8
 (some (Value.tuple (List.toArray [(Value.slice none 0 0), (Value.int .i64 (Int.ofNat 0)), (Value.int .i64 i5)]), h7))
 (aX 5 (Hp.mk (Hp.next h7) (Hp.next h7) (Hp.aD h7)) a6 fun v9 =>
 aX 5 (Hp.mk (Hp.next h7) (Hp.next h7) (Hp.aD h7)) a6 fun v10 =>
 aO (bP (F65 [v10] (Hp.mk (Hp.next h7) (Hp.next h7) (Hp.aD h7))) fun v => some (v, (Hp.mk (Hp.next h7) (Hp.next h7) (Hp.aD h7)))) fun v11 h11 =>
 aR .i64 v11 fun i12 =>
 aO (cZ F64 [v9, (Value.int .i64 i12)] (Hp.mk (Hp.next h7) (Hp.next h7) (Hp.aD h7))) fun v13 RZ =>
 jG v13 (Hp.next h7) RZ fun w14 n14 =>
 fU v13 0 fun v15 =>
 fU v13 1 fun v16 =>
 aR .i64 v16 fun i17 =>
 bI (lD i17 (Int.ofNat 0)) fun b18 =>
 bY b18
 (some (Value.tuple (List.toArray [(Value.slice none 0 0), (Value.int .i64 (Int.ofNat 0)), (Value.int .i64 i17)]), (Hp.mk n14 (Hp.ro h7) (aW w14 (Hp.aD h7)))))
 (aO (cZ F66 [v15] (Hp.mk (Hp.next (Hp.mk n14 (Hp.ro h7) (aW w14 (Hp.aD h7)))) (Hp.next (Hp.mk n14 (Hp.ro h7) (aW w14 (Hp.aD h7)))) (Hp.aD (Hp.mk n14 (Hp.ro h7) (aW w14 (Hp.aD h7)))))) fun v19 h19 =>
 jG v19 (Hp.next (Hp.mk n14 (Hp.ro h7) (aW w14 (Hp.aD h7)))) h19 fun w20 n20 =>
 aX 5 (Hp.mk n20 n20 (Hp.aD (Hp.mk n14 (Hp.ro h7) (aW w14 (Hp.aD h7))))) a6 fun v21 =>
 aO (bP (F54 [v21, v15] (Hp.mk n20 (Hp.ro (Hp.mk n14 (Hp.ro h7) (aW w14 (Hp.aD h7)))) (aW w20 (Hp.aD (Hp.mk n14 (Hp.ro h7) (aW w14 (Hp.aD h7))))))) fun v => some (v, (Hp.mk n20 (Hp.ro (Hp.mk n14 (Hp.ro h7) (aW w14 (Hp.aD h7)))) (aW w20 (Hp.aD (Hp.mk n14 (Hp.ro h7) (aW w14 (Hp.aD h7)))))))) fun v22 h22 =>
 aR .i64 v22 fun i23 =>
 some (Value.tuple (List.toArray [v19, (Value.int .i64 i23), (Value.int .i64 (Int.ofNat 0))]), h22)))
noncomputable def T26 (S : Sg) : Sg := bW 0 (uV fun r0 => uN (aK0 S r0)) (jN)
noncomputable def F26 (args : List Value) (h : Hp) : aF := bC [Kd.v] args fun al => aK T26 1000000 0 al h
def bDT : Nat := 1 + (30 - 1)
theorem t26 (S : Sg) : iQ (fun l vs h => aY (aHZ env aKZ bDT) (jW env Try.f26.results.toList) (collect B26 A26 []) l S vs h) (T26 S) := by
 unfold T26
 exact dJ (dN fun _ => jC fun _ => by kernel_rfl) <| Go.bG.iQ.nil
theorem X9 : ∀ args h v h', F26 args h = some (v, h') → eF (C51) (.call 26 args.toArray h) (.ret v h') := by
 intro args h v h' e
 exact bD (C := C51) (fn := Try.f26) (body := B26) (np := 1) (A := A26) (T := T26) (kinds := [Kd.v]) (by kernel_rfl) (by kernel_rfl) (by kernel_rfl) (by kernel_rfl) (UZ dK) (by kernel_rfl) (fun S => t26 S) e
noncomputable def aRW := jI 26 F26 aKZ
noncomputable def C52 : dL := cfg aRW
theorem bDU : C52.Ok := dB (C := C51) bDS X9
noncomputable def B55 : Code := (Try.f55.body).getD .skip
noncomputable def A55 : G.eO (List KI) := (Gm 0 [.reg 0 (.i .i64), .reg 1 (.i .i64), .reg 2 (.i .i64)] Gz Gy)
noncomputable def aK1 (h : Hp) (S : Nat → aC → Option Value) (r0 r1 r2 : Int) : Option Value :=
 bI (lV r0 r1) fun b0 =>
 bY b0
 (bI (lV r2 r0) fun b1 =>
 some (Value.bool b1))
 (some (Value.bool false))
noncomputable def T55 (h : Hp) (S : Nat → aC → Option Value) : Nat → aC → Option Value := dR 0 (wI fun r0 => wI fun r1 => wI fun r2 => wN (aK1 h S r0 r1 r2)) (kH)
noncomputable def F55 (args : List Value) (h : Hp) : Option Value := plainO (dS [Kd.i .i64, Kd.i .i64, Kd.i .i64] args fun al => G.aK (T55 h) 1000000 0 al)
def bDV : Nat := 3 + (15 - 3)
theorem t55 (h : Hp) (S : Nat → aC → Option Value) : gV (fun l al => G.aY iD bZ nT (oQ env aPP bDV h) (pM env Try.f55.results.toList) (G.collect B55 A55 []) l S al) (T55 h S) := by
 unfold T55
 exact dV (jR fun _ => jR fun _ => jR fun _ => nV (by kernel_rfl)) <| gV.nil
theorem r55 : fT Try.prog 55 F55 := dF (C := C0) ok0 (pf := aPP) aKF (fn := Try.f55) (body := B55) (kinds := [Kd.i .i64, Kd.i .i64, Kd.i .i64]) (A := A55) (T := T55) (by kernel_rfl) (by kernel_rfl) (by kernel_rfl) (by kernel_rfl) (fun h S => t55 h S)
noncomputable def aPR : PF := EW 55 F55 aPP
theorem aK2 : eB Try.prog aPR := iK r55 aKF
noncomputable def aRX := oU 55 F55 aRW
noncomputable def C53 : dL := cfg aRX
theorem bDW : C53.Ok := fK (C := C52) bDU r55
noncomputable def B50 : Code := (Try.f50.body).getD .skip
noncomputable def A50 : G.eO (List KI) := (Gm 0 [.reg 0 .v, .reg 1 (.i .i64), .reg 2 (.i .i64)] Gz (Gn (Gn Gz (Gn Gy Gz)) (Gn (Gn Gz (Gn (Gm 1 [.reg 0 .v, .reg 2 (.i .i64), .reg 8 (.i .i64)] (Gn (Gn Gz Gy) (Gn (Gn (Gn Gz (Gn Gy Gz)) Gz) Gz)) Gz) Gz)) (Gm 2 [] Gz Gz))))
noncomputable def a00 (h : Hp) (S : Nat → aC → Option Value) : Option Value :=
 some (Value.tuple (List.toArray [(Value.int .i64 (Int.ofNat 0)), (Value.int .i64 (Int.ofNat 0))]))
noncomputable def aDF (h : Hp) (S : Nat → aC → Option Value) (r0 : Value) (r2 r8 : Int) : Option Value :=
 bU r0 fun i0 =>
 bQ (lV r8 i0) fun b1 =>
 bY b1
 (dM 1 r0 r8 fun v2 =>
 aI h v2 fun v3 =>
 aR .i64 v3 fun i4 =>
 bP (F55 [(Value.int .i64 i4), (Value.int .i64 (Int.ofNat 0)), (Value.int .i64 r2)] h) fun v5 =>
 dH v5 fun b6 =>
 bI b6 fun b7 =>
 bY b7
 (some (Value.tuple (List.toArray [(Value.int .i64 r8), (Value.int .i64 (Int.ofNat 7))])))
 (wrap64 (Int.add r8 (Int.ofNat 1)) fun i8 =>
 S 1 (aC.v r0 (aC.i r2 (aC.i i8 aC.n)))))
 (S 2 aC.n)
noncomputable def aK3 (h : Hp) (S : Nat → aC → Option Value) (r0 : Value) (r1 r2 : Int) : Option Value :=
 bU r0 fun i0 =>
 bP (F55 [(Value.int .i64 i0), (Value.int .i64 (Int.ofNat 1)), (Value.int .i64 r1)] h) fun v1 =>
 dH v1 fun b2 =>
 bI b2 fun b3 =>
 bY b3
 (some (Value.tuple (List.toArray [(Value.int .i64 (Int.ofNat 0)), (Value.int .i64 (Int.ofNat 3))])))
 (S 1 (aC.v r0 (aC.i r2 (aC.i (Int.ofNat 0) aC.n))))
noncomputable def T50 (h : Hp) (S : Nat → aC → Option Value) : Nat → aC → Option Value := dR 0 (wV fun r0 => wI fun r1 => wI fun r2 => wN (aK3 h S r0 r1 r2)) (dR 1 (wV fun r0 => wI fun r2 => wI fun r8 => wN (aDF h S r0 r2 r8)) (dR 2 (wN (a00 h S)) (kH)))
noncomputable def F50 (args : List Value) (h : Hp) : Option Value := plainO (dS [Kd.v, Kd.i .i64, Kd.i .i64] args fun al => G.aK (T50 h) 1000000 0 al)
def bDX : Nat := 3 + (28 - 3)
theorem t50 (h : Hp) (S : Nat → aC → Option Value) : gV (fun l al => G.aY iD bZ nT (oQ env aPR bDX h) (pM env Try.f50.results.toList) (G.collect B50 A50 []) l S al) (T50 h S) := by
 unfold T50
 exact dV (mO fun _ => jR fun _ => jR fun _ => nV (by kernel_rfl)) <| dV (mO fun _ => jR fun _ => jR fun _ => nV (by kernel_rfl)) <| dV (nV (by kernel_rfl)) <| gV.nil
theorem r50 : fT Try.prog 50 F50 := dF (C := C0) ok0 (pf := aPR) aK2 (fn := Try.f50) (body := B50) (kinds := [Kd.v, Kd.i .i64, Kd.i .i64]) (A := A50) (T := T50) (by kernel_rfl) (by kernel_rfl) (by kernel_rfl) (by kernel_rfl) (fun h S => t50 h S)
noncomputable def aPS : PF := EW 50 F50 aPR
theorem aK4 : eB Try.prog aPS := iK r50 aK2
noncomputable def aRZ := oU 50 F50 aRX
noncomputable def C54 : dL := cfg aRZ
theorem bDY : C54.Ok := fK (C := C53) bDW r50
noncomputable def a01 : Code := (Try.f117.body).getD .skip
noncomputable def a02 : G.eO (List KI) := (Gm 0 [.reg 0 (.i .i64), .reg 1 (.i .i64), .reg 2 (.i .i64)] Gz Gy)
noncomputable def aBN (h : Hp) (S : Nat → aC → Option Value) (r0 r1 r2 : Int) : Option Value :=
 bI (lV r0 r1) fun b0 =>
 bY b0
 (bI (lV r2 r0) fun b1 =>
 some (Value.bool b1))
 (some (Value.bool false))
noncomputable def aK5 (h : Hp) (S : Nat → aC → Option Value) : Nat → aC → Option Value := dR 0 (wI fun r0 => wI fun r1 => wI fun r2 => wN (aBN h S r0 r1 r2)) (kH)
noncomputable def aFN (args : List Value) (h : Hp) : Option Value := plainO (dS [Kd.i .i64, Kd.i .i64, Kd.i .i64] args fun al => G.aK (aK5 h) 1000000 0 al)
def a03 : Nat := 3 + (15 - 3)
theorem t117 (h : Hp) (S : Nat → aC → Option Value) : gV (fun l al => G.aY iD bZ nT (oQ env aPS a03 h) (pM env Try.f117.results.toList) (G.collect a01 a02 []) l S al) (aK5 h S) := by
 unfold aK5
 exact dV (jR fun _ => jR fun _ => jR fun _ => nV (by kernel_rfl)) <| gV.nil
theorem a04 : fT Try.prog 117 aFN := dF (C := C0) ok0 (pf := aPS) aK4 (fn := Try.f117) (body := a01) (kinds := [Kd.i .i64, Kd.i .i64, Kd.i .i64]) (A := a02) (T := aK5) (by kernel_rfl) (by kernel_rfl) (by kernel_rfl) (by kernel_rfl) (fun h S => t117 h S)
noncomputable def aPT : PF := EW 117 aFN aPS
theorem aK6 : eB Try.prog aPT := iK a04 aK4
noncomputable def aR0 := oU 117 aFN aRZ
noncomputable def C55 : dL := cfg aR0
theorem bDZ : C55.Ok := fK (C := C54) bDY a04
noncomputable def a05 : Code := (Try.f109.body).getD .skip
noncomputable def a06 : G.eO (List KI) := (Gm 0 [.reg 0 .v] Gz (Gn (Gn Gz (Gn Gy Gz)) (Gn (Gn Gz (Gn (Gm 1 [.reg 0 .v, .reg 3 (.i .i64)] (Gn (Gn Gz Gy) (Gn (Gn (Gn Gz (Gn Gz (Gm 2 [.reg 0 .v, .reg 3 (.i .i64), .reg 4 .b, .reg 5 .b] Gz (Gn Gy Gz)))) Gz) (Gm 3 [.reg 0 .v, .reg 3 (.i .i64)] Gz Gz))) Gz) Gz)) (Gm 4 [] Gz Gz))))
noncomputable def aUH (h : Hp) (S : Nat → aC → Option Value) : Option Value :=
 some (Value.bool true)
noncomputable def aBO (h : Hp) (S : Nat → aC → Option Value) (r0 : Value) (r3 : Int) : Option Value :=
 wrap64 (Int.add r3 (Int.ofNat 1)) fun i0 =>
 S 1 (aC.v r0 (aC.i i0 aC.n))
noncomputable def VE (h : Hp) (S : Nat → aC → Option Value) (r0 : Value) (r3 : Int) (r4 r5 : Bool) : Option Value :=
 bI r4 fun b0 =>
 bY b0
 (bQ (lD r3 (Int.ofNat 0)) fun b1 =>
 bY b1
 (some (Value.bool false))
 (bI r5 fun b2 =>
 bY b2
 (some (Value.bool false))
 (S 3 (aC.v r0 (aC.i r3 aC.n)))))
 (S 3 (aC.v r0 (aC.i r3 aC.n)))
noncomputable def OJ (h : Hp) (S : Nat → aC → Option Value) (r0 : Value) (r3 : Int) : Option Value :=
 JY r0 fun i0 =>
 bQ (lV r3 i0) fun b1 =>
 bY b1
 (bP (jP env 9 r0 (Value.int .i64 r3)) fun v2 =>
 aR .u8 v2 fun i3 =>
 wrap64 i3 fun i4 =>
 bP (aFN [(Value.int .i64 i4), (Value.int .i64 (Int.ofNat 97)), (Value.int .i64 (Int.ofNat 122))] h) fun v5 =>
 dH v5 fun b6 =>
 bP (jP env 9 r0 (Value.int .i64 r3)) fun v7 =>
 aR .u8 v7 fun i8 =>
 wrap64 i8 fun i9 =>
 bP (aFN [(Value.int .i64 i9), (Value.int .i64 (Int.ofNat 48)), (Value.int .i64 (Int.ofNat 57))] h) fun v10 =>
 dH v10 fun b11 =>
 bY b11
 (S 2 (aC.v r0 (aC.i r3 (aC.b b6 (aC.b true aC.n)))))
 (bP (jP env 9 r0 (Value.int .i64 r3)) fun v12 =>
 aR .u8 v12 fun i13 =>
 bQ (lD i13 (Int.ofNat 46)) fun b14 =>
 S 2 (aC.v r0 (aC.i r3 (aC.b b6 (aC.b b14 aC.n))))))
 (S 4 aC.n)
noncomputable def aBP (h : Hp) (S : Nat → aC → Option Value) (r0 : Value) : Option Value :=
 JY r0 fun i0 =>
 bQ (lD i0 (Int.ofNat 0)) fun b1 =>
 bY b1
 (some (Value.bool false))
 (JY r0 fun i2 =>
 bQ (lV (Int.ofNat 16) i2) fun b3 =>
 bY b3
 (some (Value.bool false))
 (S 1 (aC.v r0 (aC.i (Int.ofNat 0) aC.n))))
noncomputable def zB (h : Hp) (S : Nat → aC → Option Value) : Nat → aC → Option Value := dR 0 (wV fun r0 => wN (aBP h S r0)) (dR 1 (wV fun r0 => wI fun r3 => wN (OJ h S r0 r3)) (dR 2 (wV fun r0 => wI fun r3 => wB fun r4 => wB fun r5 => wN (VE h S r0 r3 r4 r5)) (dR 3 (wV fun r0 => wI fun r3 => wN (aBO h S r0 r3)) (dR 4 (wN (aUH h S)) (kH)))))
noncomputable def aK7 (args : List Value) (h : Hp) : Option Value := plainO (dS [Kd.v] args fun al => G.aK (zB h) 1000000 0 al)
def a07 : Nat := 1 + (46 - 1)
theorem t109 (h : Hp) (S : Nat → aC → Option Value) : gV (fun l al => G.aY iD bZ nT (oQ env aPT a07 h) (pM env Try.f109.results.toList) (G.collect a05 a06 []) l S al) (zB h S) := by
 unfold zB
 exact dV (mO fun _ => nV (by kernel_rfl)) <| dV (mO fun _ => jR fun _ => nV (by kernel_rfl)) <| dV (mO fun _ => jR fun _ => rpB fun _ => rpB fun _ => nV (by kernel_rfl)) <| dV (mO fun _ => jR fun _ => nV (by kernel_rfl)) <| dV (nV (by kernel_rfl)) <| gV.nil
theorem a08 : fT Try.prog 109 aK7 := dF (C := C0) ok0 (pf := aPT) aK6 (fn := Try.f109) (body := a05) (kinds := [Kd.v]) (A := a06) (T := zB) (by kernel_rfl) (by kernel_rfl) (by kernel_rfl) (by kernel_rfl) (fun h S => t109 h S)
noncomputable def aPU : PF := EW 109 aK7 aPT
theorem aK8 : eB Try.prog aPU := iK a08 aK6
noncomputable def aR1 := oU 109 aK7 aR0
noncomputable def C56 : dL := cfg aR1
theorem bD0 : C56.Ok := fK (C := C55) bDZ a08
noncomputable def a09 : Code := (Try.f110.body).getD .skip
noncomputable def a1A : G.eO (List KI) := (Gm 0 [.reg 0 .v, .reg 1 .v] Gz (Gn (Gn Gz (Gn (Gm 1 [.reg 0 .v, .reg 1 .v, .reg 5 (.i .i64)] (Gn (Gn Gz Gy) (Gn (Gn (Gn Gz (Gn Gy Gz)) Gz) Gz)) Gz) Gz)) (Gm 2 [] Gz Gz)))
noncomputable def aUI (h : Hp) (S : Nat → aC → Option Value) : Option Value :=
 some (Value.int .i64 (Int.negSucc 0))
noncomputable def OL (h : Hp) (S : Nat → aC → Option Value) (r0 r1 : Value) (r5 : Int) : Option Value :=
 bU r0 fun i0 =>
 bQ (lV r5 i0) fun b1 =>
 bY b1
 (dM 1 r0 r5 fun v2 =>
 aI h v2 fun v3 =>
 bP (pR env .eql 9 (Operand.tmp 15) (Operand.tmp 16) v3 r1) fun v4 =>
 dH v4 fun b5 =>
 bY b5
 (some (Value.int .i64 r5))
 (wrap64 (Int.add r5 (Int.ofNat 1)) fun i6 =>
 S 1 (aC.v r0 (aC.v r1 (aC.i i6 aC.n)))))
 (S 2 aC.n)
noncomputable def aBQ (h : Hp) (S : Nat → aC → Option Value) (r0 r1 : Value) : Option Value :=
 S 1 (aC.v r0 (aC.v r1 (aC.i (Int.ofNat 0) aC.n)))
noncomputable def PW (h : Hp) (S : Nat → aC → Option Value) : Nat → aC → Option Value := dR 0 (wV fun r0 => wV fun r1 => wN (aBQ h S r0 r1)) (dR 1 (wV fun r0 => wV fun r1 => wI fun r5 => wN (OL h S r0 r1 r5)) (dR 2 (wN (aUI h S)) (kH)))
noncomputable def aK9 (args : List Value) (h : Hp) : Option Value := plainO (dS [Kd.v, Kd.v] args fun al => G.aK (PW h) 1000000 0 al)
def a1B : Nat := 2 + (19 - 2)
theorem t110 (h : Hp) (S : Nat → aC → Option Value) : gV (fun l al => G.aY iD bZ nT (oQ env aPU a1B h) (pM env Try.f110.results.toList) (G.collect a09 a1A []) l S al) (PW h S) := by
 unfold PW
 exact dV (mO fun _ => mO fun _ => nV (by kernel_rfl)) <| dV (mO fun _ => mO fun _ => jR fun _ => nV (by kernel_rfl)) <| dV (nV (by kernel_rfl)) <| gV.nil
theorem a1C : fT Try.prog 110 aK9 := dF (C := C0) ok0 (pf := aPU) aK8 (fn := Try.f110) (body := a09) (kinds := [Kd.v, Kd.v]) (A := a1A) (T := PW) (by kernel_rfl) (by kernel_rfl) (by kernel_rfl) (by kernel_rfl) (fun h S => t110 h S)
noncomputable def aPV : PF := EW 110 aK9 aPU
theorem aLA : eB Try.prog aPV := iK a1C aK8
noncomputable def aR2 := oU 110 aK9 aR1
noncomputable def C57 : dL := cfg aR2
theorem bD1 : C57.Ok := fK (C := C56) bD0 a1C
noncomputable def B88 : Code := (Try.f88.body).getD .skip
noncomputable def A88 : G.eO (List KI) := (Gm 0 [.reg 0 .v, .reg 1 .v] Gz (Gn (Gn Gz (Gn Gy Gz)) (Gn (Gn Gz (Gn Gy Gz)) Gy)))
noncomputable def aLB (h : Hp) (S : Nat → aC → Option Value) (r0 r1 : Value) : Option Value :=
 bP (aK7 [r0] h) fun v0 =>
 dH v0 fun b1 =>
 bI b1 fun b2 =>
 bY b2
 (some (Value.int .i64 (Int.ofNat 6)))
 (bP (aK9 [r1, r0] h) fun v3 =>
 aR .i64 v3 fun i4 =>
 bI (lV i4 (Int.ofNat 0)) fun b5 =>
 bY b5
 (some (Value.int .i64 (Int.ofNat 5)))
 (some (Value.int .i64 (Int.ofNat 0))))
noncomputable def T88 (h : Hp) (S : Nat → aC → Option Value) : Nat → aC → Option Value := dR 0 (wV fun r0 => wV fun r1 => wN (aLB h S r0 r1)) (kH)
noncomputable def F88 (args : List Value) (h : Hp) : Option Value := plainO (dS [Kd.v, Kd.v] args fun al => G.aK (T88 h) 1000000 0 al)
def bD2 : Nat := 2 + (12 - 2)
theorem t88 (h : Hp) (S : Nat → aC → Option Value) : gV (fun l al => G.aY iD bZ nT (oQ env aPV bD2 h) (pM env Try.f88.results.toList) (G.collect B88 A88 []) l S al) (T88 h S) := by
 unfold T88
 exact dV (mO fun _ => mO fun _ => nV (by kernel_rfl)) <| gV.nil
theorem r88 : fT Try.prog 88 F88 := dF (C := C0) ok0 (pf := aPV) aLA (fn := Try.f88) (body := B88) (kinds := [Kd.v, Kd.v]) (A := A88) (T := T88) (by kernel_rfl) (by kernel_rfl) (by kernel_rfl) (by kernel_rfl) (fun h S => t88 h S)
noncomputable def aPW : PF := EW 88 F88 aPV
theorem aLC : eB Try.prog aPW := iK r88 aLA
noncomputable def aR3 := oU 88 F88 aR2
noncomputable def C58 : dL := cfg aR3
theorem bD3 : C58.Ok := fK (C := C57) bD1 r88
noncomputable def B89 : Code := (Try.f89.body).getD .skip
noncomputable def A89 : G.eO (List KI) := (Gm 0 [.reg 0 .v, .reg 1 .v, .reg 2 .b] Gz (Gn (Gn Gz (Gn Gy Gz)) (Gn (Gn Gz (Gn (G.eO.node (some (1, [.reg 2 .b, .loc 3 3, .loc 4 4, .reg 7 (.i .i64), .cells 3 [.v, .v, .v, .v], .cells 4 [.v, .v, .i .i64]])) (Gn (Gn Gz Gy) (Gn (Gn (Gn Gz (G.eO.node (some (2, [.reg 2 .b, .loc 3 3, .loc 4 4, .reg 7 (.i .i64), .reg 8 .b, .cells 3 [.v, .v, .v, .v], .cells 4 [.v, .v, .i .i64]])) Gz (Gn Gy Gz))) Gz) (G.eO.node (some (3, [.reg 2 .b, .loc 3 3, .loc 4 4, .reg 7 (.i .i64), .cells 3 [.v, .v, .v, .v], .cells 4 [.v, .v, .i .i64]])) Gz Gz))) Gz) Gz)) (G.eO.node (some (8, [.reg 2 .b, .loc 4 4, .cells 4 [.v, .v, .i .i64]])) (Gn Gz (Gn (G.eO.node (some (4, [.reg 2 .b, .loc 4 4, .reg 9 (.i .i64), .cells 4 [.v, .v, .i .i64]])) (Gn (Gn Gz Gy) (Gn (Gn (Gn Gz (G.eO.node (some (5, [.reg 2 .b, .loc 4 4, .reg 9 (.i .i64), .reg 10 .b, .cells 4 [.v, .v, .i .i64]])) Gz (Gn Gy Gz))) Gz) (G.eO.node (some (6, [.reg 2 .b, .loc 4 4, .reg 9 (.i .i64), .cells 4 [.v, .v, .i .i64]])) Gz Gz))) Gz) Gz)) (G.eO.node (some (7, [.loc 4 4, .cells 4 [.v, .v, .i .i64]])) (Gn Gz (Gn Gy Gz)) Gy)))))
noncomputable def aLD (h : Hp) (S : Nat → aC → Option Value) (mD kQ : Value) (lW : Int) : Option Value :=
 bP (F55 [(Value.int .i64 lW), (Value.int .i64 (Int.ofNat 0)), (Value.int .i64 (Int.ofNat 50))] h) fun v0 =>
 dH v0 fun b1 =>
 bI b1 fun b2 =>
 bY b2
 (some (Value.int .i64 (Int.ofNat 7)))
 (some (Value.int .i64 (Int.ofNat 0)))
noncomputable def aLE (h : Hp) (S : Nat → aC → Option Value) (r2 : Bool) (r9 : Int) (mD kQ : Value) (lW : Int) : Option Value :=
 wrap64 (Int.add r9 (Int.ofNat 1)) fun i0 =>
 S 4 (aC.b r2 (aC.i i0 (aC.v mD (aC.v kQ (aC.i lW aC.n)))))
noncomputable def aLF (h : Hp) (S : Nat → aC → Option Value) (r2 : Bool) (r9 : Int) (nW : Bool) (mD kQ : Value) (lW : Int) : Option Value :=
 bI nW fun b0 =>
 bY b0
 (dM 1 kQ r9 fun v1 =>
 aI h v1 fun v2 =>
 aR .i64 v2 fun i3 =>
 bP (F55 [(Value.int .i64 i3), (Value.int .i64 (Int.ofNat 0)), (Value.int .i64 (Int.ofNat 5))] h) fun v4 =>
 dH v4 fun b5 =>
 bI b5 fun b6 =>
 bY b6
 (some (Value.int .i64 (Int.ofNat 7)))
 (S 6 (aC.b r2 (aC.i r9 (aC.v mD (aC.v kQ (aC.i lW aC.n)))))))
 (S 6 (aC.b r2 (aC.i r9 (aC.v mD (aC.v kQ (aC.i lW aC.n))))))
noncomputable def aDG (h : Hp) (S : Nat → aC → Option Value) (r2 : Bool) (r9 : Int) (mD kQ : Value) (lW : Int) : Option Value :=
 bU kQ fun i0 =>
 bQ (lV r9 i0) fun b1 =>
 bY b1
 (bY r2
 (dM 1 kQ r9 fun v2 =>
 aI h v2 fun v3 =>
 aR .i64 v3 fun i4 =>
 bQ (lD i4 (Int.negSucc 0)) fun b5 =>
 S 5 (aC.b r2 (aC.i r9 (aC.b b5 (aC.v mD (aC.v kQ (aC.i lW aC.n)))))))
 (S 5 (aC.b r2 (aC.i r9 (aC.b false (aC.v mD (aC.v kQ (aC.i lW aC.n))))))))
 (S 7 (aC.v mD (aC.v kQ (aC.i lW aC.n))))
noncomputable def aLG (h : Hp) (S : Nat → aC → Option Value) (r2 : Bool) (mD kQ : Value) (lW : Int) : Option Value :=
 S 4 (aC.b r2 (aC.i (Int.ofNat 1) (aC.v mD (aC.v kQ (aC.i lW aC.n)))))
noncomputable def aDH (h : Hp) (S : Nat → aC → Option Value) (r2 : Bool) (r7 : Int) (uG sD : Value) (uH uJ : Value) (mD kQ : Value) (lW : Int) : Option Value :=
 wrap64 (Int.add r7 (Int.ofNat 1)) fun i0 =>
 S 1 (aC.b r2 (aC.i i0 (aC.v uG (aC.v sD (aC.v uH (aC.v uJ (aC.v mD (aC.v kQ (aC.i lW aC.n)))))))))
noncomputable def aDI (h : Hp) (S : Nat → aC → Option Value) (r2 : Bool) (r7 : Int) (r8 : Bool) (uG sD : Value) (uH uJ : Value) (mD kQ : Value) (lW : Int) : Option Value :=
 bQ (lD r7 (Int.ofNat 0)) fun b0 =>
 bY b0
 (bI r8 fun b1 =>
 bY b1
 (dM 1 kQ r7 fun v2 =>
 aI h v2 fun v3 =>
 aR .i64 v3 fun i4 =>
 bU sD fun i5 =>
 wrap64 (Int.sub i5 (Int.ofNat 1)) fun i6 =>
 bP (F55 [(Value.int .i64 i4), (Value.int .i64 (Int.ofNat 0)), (Value.int .i64 i6)] h) fun v7 =>
 dH v7 fun b8 =>
 bI b8 fun b9 =>
 bY b9
 (some (Value.int .i64 (Int.ofNat 4)))
 (S 3 (aC.b r2 (aC.i r7 (aC.v uG (aC.v sD (aC.v uH (aC.v uJ (aC.v mD (aC.v kQ (aC.i lW aC.n)))))))))))
 (S 3 (aC.b r2 (aC.i r7 (aC.v uG (aC.v sD (aC.v uH (aC.v uJ (aC.v mD (aC.v kQ (aC.i lW aC.n)))))))))))
 (S 3 (aC.b r2 (aC.i r7 (aC.v uG (aC.v sD (aC.v uH (aC.v uJ (aC.v mD (aC.v kQ (aC.i lW aC.n))))))))))
noncomputable def aDJ (h : Hp) (S : Nat → aC → Option Value) (r2 : Bool) (r7 : Int) (uG sD : Value) (uH uJ : Value) (mD kQ : Value) (lW : Int) : Option Value :=
 bU kQ fun i0 =>
 bQ (lV r7 i0) fun b1 =>
 bY b1
 (bY r2
 (dM 1 kQ r7 fun v2 =>
 aI h v2 fun v3 =>
 aR .i64 v3 fun i4 =>
 bQ (lD i4 (Int.negSucc 0)) fun b5 =>
 S 2 (aC.b r2 (aC.i r7 (aC.b b5 (aC.v uG (aC.v sD (aC.v uH (aC.v uJ (aC.v mD (aC.v kQ (aC.i lW aC.n)))))))))))
 (S 2 (aC.b r2 (aC.i r7 (aC.b false (aC.v uG (aC.v sD (aC.v uH (aC.v uJ (aC.v mD (aC.v kQ (aC.i lW aC.n))))))))))))
 (S 8 (aC.b r2 (aC.v mD (aC.v kQ (aC.i lW aC.n)))))
noncomputable def aLH (h : Hp) (S : Nat → aC → Option Value) (r0 r1 : Value) (r2 : Bool) : Option Value :=
 oL (Array.toList (Value.cells r0)) fun c0 =>
 oL (Array.toList (Value.cells r1)) fun c1 =>
 z8 c1 1 fun v2 =>
 bU v2 fun i3 =>
 z8 c0 0 fun v4 =>
 bU v4 fun i5 =>
 bI (lD i3 i5) fun b6 =>
 bY b6
 (some (Value.int .i64 (Int.ofNat 3)))
 (lT c0 fun a7 c7 =>
 lT c7 fun a8 c8 =>
 lT c8 fun a9 c9 =>
 lT c9 fun a10 c10 =>
 aHV c10 (lT c1 fun a11 c11 =>
 lT c11 fun a12 c12 =>
 lT c12 fun a13 c13 =>
 aR .i64 a13 fun i14 =>
 aHV c13 (S 1 (aC.b r2 (aC.i (Int.ofNat 0) (aC.v a7 (aC.v a8 (aC.v a9 (aC.v a10 (aC.v a11 (aC.v a12 (aC.i i14 aC.n))))))))))))
noncomputable def D6 (h : Hp) (S : Nat → aC → Option Value) : Nat → aC → Option Value := dR 0 (wV fun r0 => wV fun r1 => wB fun r2 => wN (aLH h S r0 r1 r2)) (dR 1 (wB fun r2 => wI fun r7 => wV fun uG => wV fun sD => wV fun uH => wV fun uJ => wV fun mD => wV fun kQ => wI fun lW => wN (aDJ h S r2 r7 uG sD uH uJ mD kQ lW)) (dR 2 (wB fun r2 => wI fun r7 => wB fun r8 => wV fun uG => wV fun sD => wV fun uH => wV fun uJ => wV fun mD => wV fun kQ => wI fun lW => wN (aDI h S r2 r7 r8 uG sD uH uJ mD kQ lW)) (dR 3 (wB fun r2 => wI fun r7 => wV fun uG => wV fun sD => wV fun uH => wV fun uJ => wV fun mD => wV fun kQ => wI fun lW => wN (aDH h S r2 r7 uG sD uH uJ mD kQ lW)) (dR 8 (wB fun r2 => wV fun mD => wV fun kQ => wI fun lW => wN (aLG h S r2 mD kQ lW)) (dR 4 (wB fun r2 => wI fun r9 => wV fun mD => wV fun kQ => wI fun lW => wN (aDG h S r2 r9 mD kQ lW)) (dR 5 (wB fun r2 => wI fun r9 => wB fun nW => wV fun mD => wV fun kQ => wI fun lW => wN (aLF h S r2 r9 nW mD kQ lW)) (dR 6 (wB fun r2 => wI fun r9 => wV fun mD => wV fun kQ => wI fun lW => wN (aLE h S r2 r9 mD kQ lW)) (dR 7 (wV fun mD => wV fun kQ => wI fun lW => wN (aLD h S mD kQ lW)) (kH)))))))))
noncomputable def F89 (args : List Value) (h : Hp) : Option Value := plainO (dS [Kd.v, Kd.v, Kd.b] args fun al => G.aK (D6 h) 1000000 0 al)
def bD4 : Nat := 3 + (84 - 3)
theorem t89 (h : Hp) (S : Nat → aC → Option Value) : gV (fun l al => G.aY iD bZ nT (oQ env aPW bD4 h) (pM env Try.f89.results.toList) (G.collect B89 A89 []) l S al) (D6 h S) := by
 unfold D6
 exact dV (mO fun _ => mO fun _ => rpB fun _ => nV (by kernel_rfl)) <| dV (rpB fun _ => jR fun _ => mO fun _ => mO fun _ => mO fun _ => mO fun _ => mO fun _ => mO fun _ => jR fun _ => nV (by kernel_rfl)) <| dV (rpB fun _ => jR fun _ => rpB fun _ => mO fun _ => mO fun _ => mO fun _ => mO fun _ => mO fun _ => mO fun _ => jR fun _ => nV (by kernel_rfl)) <| dV (rpB fun _ => jR fun _ => mO fun _ => mO fun _ => mO fun _ => mO fun _ => mO fun _ => mO fun _ => jR fun _ => nV (by kernel_rfl)) <| dV (rpB fun _ => mO fun _ => mO fun _ => jR fun _ => nV (by kernel_rfl)) <| dV (rpB fun _ => jR fun _ => mO fun _ => mO fun _ => jR fun _ => nV (by kernel_rfl)) <| dV (rpB fun _ => jR fun _ => rpB fun _ => mO fun _ => mO fun _ => jR fun _ => nV (by kernel_rfl)) <| dV (rpB fun _ => jR fun _ => mO fun _ => mO fun _ => jR fun _ => nV (by kernel_rfl)) <| dV (mO fun _ => mO fun _ => jR fun _ => nV (by kernel_rfl)) <| gV.nil
theorem r89 : fT Try.prog 89 F89 := dF (C := C0) ok0 (pf := aPW) aLC (fn := Try.f89) (body := B89) (kinds := [Kd.v, Kd.v, Kd.b]) (A := A89) (T := D6) (by kernel_rfl) (by kernel_rfl) (by kernel_rfl) (by kernel_rfl) (fun h S => t89 h S)
noncomputable def aPX : PF := EW 89 F89 aPW
theorem aLI : eB Try.prog aPX := iK r89 aLC
noncomputable def aLJ := oU 89 F89 aR3
noncomputable def C59 : dL := cfg aLJ
theorem bD5 : C59.Ok := fK (C := C58) bD3 r89
noncomputable def B51 : Code := (Try.f51.body).getD .skip
def A51 : eO := (Am 0 [(0, .v), (1, .v), (2, .i .i64), (3, .b)] Ao (An (An Ao (An Az Ao)) (An Ao (An (An Ao (An (Am 1 [(1, .v), (3, .b), (4, .v), (10, .v), (11, .i .i64)] (An (An Ao Az) (An (An (An Ao (An (An Ao Az) (Am 2 [(1, .v), (3, .b), (4, .v), (10, .v), (11, .i .i64), (12, .i .i64)] (An Ao (An Az Ao)) Ao))) Ao) (Am 3 [(1, .v), (3, .b), (4, .v), (10, .v), (11, .i .i64)] Ao Ao))) Ao) Ao)) (Am 4 [] Ao Ao)))))
noncomputable def a1H (S : Sg) (h : Hp) : aF :=
 some (Value.tuple (List.toArray [(Value.int .i64 (Int.ofNat 0)), (Value.int .i64 (Int.ofNat 0))]), h)
noncomputable def aLK (S : Sg) (r1 : Value) (r3 : Bool) (r4 nW : Value) (qC : Int) (h : Hp) : aF :=
 wrap64 (Int.add qC (Int.ofNat 1)) fun i0 =>
 S 1 (AL.v r1 (AL.b r3 (AL.v r4 (AL.v nW (AL.i i0 AL.n))))) h
noncomputable def aLL (S : Sg) (r1 : Value) (r3 : Bool) (r4 nW : Value) (qC xD : Int) (h : Hp) : aF :=
 bI (lD xD (Int.ofNat 0)) fun b0 =>
 bY b0
 (some (Value.tuple (List.toArray [(Value.int .i64 qC), (Value.int .i64 xD)]), h))
 (dM 3 r1 qC fun v1 =>
 aP 0 v1 fun v2 =>
 aI h v2 fun v3 =>
 aO (bB env h 120 1 (List.toArray [(0, v3)])) fun v4 h4 =>
 aO (fH env h4 #[120, 120] (List.toArray [nW, v4])) fun v5 h5 =>
 S 3 (AL.v r1 (AL.b r3 (AL.v r4 (AL.v v5 (AL.i qC AL.n))))) h5)
noncomputable def aDK (S : Sg) (r1 : Value) (r3 : Bool) (r4 nW : Value) (qC : Int) (h : Hp) : aF :=
 bU r1 fun i0 =>
 bQ (lV qC i0) fun b1 =>
 bY b1
 (dM 3 r1 qC fun v2 =>
 aP 0 v2 fun v3 =>
 aI h v3 fun v4 =>
 aO (bP (F88 [v4, nW] h) fun v => some (v, h)) fun v5 h5 =>
 aR .i64 v5 fun i6 =>
 bQ (lD i6 (Int.ofNat 0)) fun b7 =>
 bY b7
 (aX 4 h5 r4 fun v8 =>
 dM 3 r1 qC fun v9 =>
 aX 3 h5 v9 fun v10 =>
 aO (bP (F89 [v8, v10, (Value.bool r3)] h5) fun v => some (v, h5)) fun v11 h11 =>
 aR .i64 v11 fun i12 =>
 S 2 (AL.v r1 (AL.b r3 (AL.v r4 (AL.v nW (AL.i qC (AL.i i12 AL.n)))))) h11)
 (S 2 (AL.v r1 (AL.b r3 (AL.v r4 (AL.v nW (AL.i qC (AL.i i6 AL.n)))))) h5))
 (S 4 AL.n h)
noncomputable def aLM (S : Sg) (r0 r1 : Value) (r2 : Int) (r3 : Bool) (h : Hp) : aF :=
 bF h 25 (Array.toList (Value.cells r0)) fun a0 h0 =>
 bU r1 fun i1 =>
 bQ (lV r2 i1) fun b2 =>
 bY b2
 (some (Value.tuple (List.toArray [(Value.int .i64 (Int.ofNat 0)), (Value.int .i64 (Int.ofNat 3))]), h0))
 (S 1 (AL.v r1 (AL.b r3 (AL.v a0 (AL.v (Value.slice none 0 0) (AL.i (Int.ofNat 0) AL.n))))) h0)
noncomputable def T51 (S : Sg) : Sg := bW 0 (uV fun r0 => uV fun r1 => uI fun r2 => uB fun r3 => uN (aLM S r0 r1 r2 r3)) (bW 1 (uV fun r1 => uB fun r3 => uV fun r4 => uV fun nW => uI fun qC => uN (aDK S r1 r3 r4 nW qC)) (bW 2 (uV fun r1 => uB fun r3 => uV fun r4 => uV fun nW => uI fun qC => uI fun xD => uN (aLL S r1 r3 r4 nW qC xD)) (bW 3 (uV fun r1 => uB fun r3 => uV fun r4 => uV fun nW => uI fun qC => uN (aLK S r1 r3 r4 nW qC)) (bW 4 (uN fun h => a1H S  h) (jN)))))
noncomputable def F51 (args : List Value) (h : Hp) : aF := bC [Kd.v, Kd.v, Kd.i .i64, Kd.b] args fun al => aK T51 1000000 0 al h
def bD6 : Nat := 4 + (51 - 4)
theorem t51 (S : Sg) : iQ (fun l vs h => aY (jV env aLJ bD6) (jW env Try.f51.results.toList) (collect B51 A51 []) l S vs h) (T51 S) := by
 unfold T51
 exact dJ (dN fun _ => dN fun _ => jL fun _ => rwB fun _ => jC fun _ => by kernel_rfl) <| dJ (dN fun _ => rwB fun _ => dN fun _ => dN fun _ => jL fun _ => jC fun _ => by kernel_rfl) <| dJ (dN fun _ => rwB fun _ => dN fun _ => dN fun _ => jL fun _ => jL fun _ => jC fun _ => by kernel_rfl) <| dJ (dN fun _ => rwB fun _ => dN fun _ => dN fun _ => jL fun _ => jC fun _ => by kernel_rfl) <| dJ (jC fun _ => by kernel_rfl) <| Go.bG.iQ.nil
theorem r51 : ∀ args h v h', F51 args h = some (v, h') → eF (C59) (.call 51 args.toArray h) (.ret v h') := by
 intro args h v h' e
 exact bD (C := C59) (fn := Try.f51) (body := B51) (np := 4) (A := A51) (T := T51) (kinds := [Kd.v, Kd.v, Kd.i .i64, Kd.b]) (by kernel_rfl) (by kernel_rfl) (by kernel_rfl) (by kernel_rfl) (dG dK) (by kernel_rfl) (fun S => t51 S) e
noncomputable def aLN := jI 51 F51 aLJ
noncomputable def C60 : dL := cfg aLN
theorem bD7 : C60.Ok := dB (C := C59) bD5 r51
noncomputable def B17 : Code := (Try.f17.body).getD .skip
def A17 : eO := (Am 0 [(0, .v)] Ao (An Ao (An (An Ao (An Az Ao)) (An Ao (An (An Ao (An Az Ao)) (An Ao (An (An Ao (An Az Ao)) (An Ao (An (An Ao (An Az Ao)) Az)))))))))
noncomputable def aLO (S : Sg) (r0 : Value) (h : Hp) : aF :=
 bF h 25 (Array.toList (Value.cells r0)) fun a0 h0 =>
 aP 0 a0 fun v1 =>
 aI h0 v1 fun v2 =>
 aO (bP (F50 [v2, (Value.int .i64 (Int.ofNat 4)), (Value.int .i64 (Int.ofNat 100))] h0) fun v => some (v, h0)) fun v3 h3 =>
 fU v3 0 fun v4 =>
 aR .i64 v4 fun i5 =>
 fU v3 1 fun v6 =>
 aR .i64 v6 fun i7 =>
 bI (lD i7 (Int.ofNat 0)) fun b8 =>
 bY b8
 (some (Value.tuple (List.toArray [(Value.int .i64 (Int.ofNat 1)), (Value.int .i64 i5), (Value.int .i64 i7)]), h3))
 (aP 1 a0 fun v9 =>
 aI h3 v9 fun v10 =>
 aO (bP (F50 [v10, (Value.int .i64 (Int.ofNat 4)), (Value.int .i64 (Int.ofNat 50))] h3) fun v => some (v, h3)) fun v11 h11 =>
 fU v11 0 fun v12 =>
 aR .i64 v12 fun i13 =>
 fU v11 1 fun v14 =>
 aR .i64 v14 fun i15 =>
 bI (lD i15 (Int.ofNat 0)) fun b16 =>
 bY b16
 (some (Value.tuple (List.toArray [(Value.int .i64 (Int.ofNat 2)), (Value.int .i64 i13), (Value.int .i64 i15)]), h11))
 (aX 4 h11 a0 fun v17 =>
 aP 2 a0 fun v18 =>
 aI h11 v18 fun v19 =>
 aO (cZ F51 [v17, v19, (Value.int .i64 (Int.ofNat 6)), (Value.bool false)] h11) fun v20 h20 =>
 fU v20 0 fun v21 =>
 aR .i64 v21 fun i22 =>
 fU v20 1 fun v23 =>
 aR .i64 v23 fun i24 =>
 bI (lD i24 (Int.ofNat 0)) fun b25 =>
 bY b25
 (some (Value.tuple (List.toArray [(Value.int .i64 (Int.ofNat 3)), (Value.int .i64 i22), (Value.int .i64 i24)]), h20))
 (aX 4 h20 a0 fun v26 =>
 aP 3 a0 fun v27 =>
 aI h20 v27 fun v28 =>
 aO (cZ F51 [v26, v28, (Value.int .i64 (Int.ofNat 5)), (Value.bool true)] h20) fun v29 h29 =>
 fU v29 0 fun v30 =>
 aR .i64 v30 fun i31 =>
 fU v29 1 fun v32 =>
 aR .i64 v32 fun i33 =>
 bI (lD i33 (Int.ofNat 0)) fun b34 =>
 bY b34
 (some (Value.tuple (List.toArray [(Value.int .i64 (Int.ofNat 4)), (Value.int .i64 i31), (Value.int .i64 i33)]), h29))
 (some (Value.tuple (List.toArray [(Value.int .i64 (Int.ofNat 0)), (Value.int .i64 (Int.ofNat 0)), (Value.int .i64 (Int.ofNat 0))]), h29)))))
noncomputable def T17 (S : Sg) : Sg := bW 0 (uV fun r0 => uN (aLO S r0)) (jN)
noncomputable def F17 (args : List Value) (h : Hp) : aF := bC [Kd.v] args fun al => aK T17 1000000 0 al h
def bD8 : Nat := 1 + (49 - 1)
theorem t17 (S : Sg) : iQ (fun l vs h => aY (jV env aLN bD8) (jW env Try.f17.results.toList) (collect B17 A17 []) l S vs h) (T17 S) := by
 unfold T17
 exact dJ (dN fun _ => jC fun _ => by kernel_rfl) <| Go.bG.iQ.nil
theorem zF : ∀ args h v h', F17 args h = some (v, h') → eF (C60) (.call 17 args.toArray h) (.ret v h') := by
 intro args h v h' e
 exact bD (C := C60) (fn := Try.f17) (body := B17) (np := 1) (A := A17) (T := T17) (kinds := [Kd.v]) (by kernel_rfl) (by kernel_rfl) (by kernel_rfl) (by kernel_rfl) (dG dK) (by kernel_rfl) (fun S => t17 S) e
noncomputable def aLP := jI 17 F17 aLN
noncomputable def C61 : dL := cfg aLP
theorem bD9 : C61.Ok := dB (C := C60) bD7 zF
noncomputable def B37 : Code := (Try.f37.body).getD .skip
def A37 : eO := (Am 0 [(0, .v)] Ao (An Ao Az))
noncomputable def aLQ (S : Sg) (r0 : Value) (h : Hp) : aF :=
 bF h 25 (Array.toList (Value.cells r0)) fun a0 h0 =>
 aX 4 h0 a0 fun v1 =>
 aO (cZ F17 [v1] h0) fun v2 h2 =>
 fU v2 0 fun v3 =>
 aR .i64 v3 fun i4 =>
 fU v2 1 fun v5 =>
 aR .i64 v5 fun i6 =>
 fU v2 2 fun v7 =>
 aR .i64 v7 fun i8 =>
 bQ (lD i8 (Int.ofNat 0)) fun b9 =>
 some ((Value.bool b9), h2)
noncomputable def T37 (S : Sg) : Sg := bW 0 (uV fun r0 => uN (aLQ S r0)) (jN)
noncomputable def F37 (args : List Value) (h : Hp) : aF := bC [Kd.v] args fun al => aK T37 1000000 0 al h
def bEA : Nat := 1 + (14 - 1)
theorem t37 (S : Sg) : iQ (fun l vs h => aY (jV env aLP bEA) (jW env Try.f37.results.toList) (collect B37 A37 []) l S vs h) (T37 S) := by
 unfold T37
 exact dJ (dN fun _ => jC fun _ => by kernel_rfl) <| Go.bG.iQ.nil
theorem r37 : ∀ args h v h', F37 args h = some (v, h') → eF (C61) (.call 37 args.toArray h) (.ret v h') := by
 intro args h v h' e
 exact bD (C := C61) (fn := Try.f37) (body := B37) (np := 1) (A := A37) (T := T37) (kinds := [Kd.v]) (by kernel_rfl) (by kernel_rfl) (by kernel_rfl) (by kernel_rfl) (dG dK) (by kernel_rfl) (fun S => t37 S) e
noncomputable def aR4 := jI 37 F37 aLP
noncomputable def C62 : dL := cfg aR4
theorem bEB : C62.Ok := dB (C := C61) bD9 r37
noncomputable def B46 : Code := (Try.f46.body).getD .skip
noncomputable def A46 : G.eO (List KI) := (Gm 0 [.reg 0 .v, .reg 1 (.i .i64)] Gz (Gn (Gn Gz (Gn Gy Gz)) Gy))
noncomputable def a1K (h : Hp) (S : Nat → aC → Option Value) (r0 : Value) (r1 : Int) : Option Value :=
 bU r0 fun i0 =>
 bQ (lD i0 (Int.ofNat 0)) fun b1 =>
 bY b1
 (some (Value.int .i64 (Int.ofNat 0)))
 (bU r0 fun i2 =>
 qF .i64 (lG env .rem 3 (Value.int .i64 r1) (Value.int .i64 i2)) fun i3 =>
 dM 1 r0 i3 fun v4 =>
 aI h v4 fun v5 =>
 aR .u8 v5 fun i6 =>
 wrap64 i6 fun i7 =>
 some (Value.int .i64 i7))
noncomputable def T46 (h : Hp) (S : Nat → aC → Option Value) : Nat → aC → Option Value := dR 0 (wV fun r0 => wI fun r1 => wN (a1K h S r0 r1)) (kH)
noncomputable def F46 (args : List Value) (h : Hp) : Option Value := plainO (dS [Kd.v, Kd.i .i64] args fun al => G.aK (T46 h) 1000000 0 al)
def bEC : Nat := 2 + (16 - 2)
theorem t46 (h : Hp) (S : Nat → aC → Option Value) : gV (fun l al => G.aY iD bZ nT (oQ env aPX bEC h) (pM env Try.f46.results.toList) (G.collect B46 A46 []) l S al) (T46 h S) := by
 unfold T46
 exact dV (mO fun _ => jR fun _ => nV (by kernel_rfl)) <| gV.nil
theorem r46 : fT Try.prog 46 F46 := dF (C := C0) ok0 (pf := aPX) aLI (fn := Try.f46) (body := B46) (kinds := [Kd.v, Kd.i .i64]) (A := A46) (T := T46) (by kernel_rfl) (by kernel_rfl) (by kernel_rfl) (by kernel_rfl) (fun h S => t46 h S)
noncomputable def aPY : PF := EW 46 F46 aPX
theorem aLR : eB Try.prog aPY := iK r46 aLI
noncomputable def aLS := oU 46 F46 aR4
noncomputable def C63 : dL := cfg aLS
theorem bED : C63.Ok := fK (C := C62) bEB r46
noncomputable def B38 : Code := (Try.f38.body).getD .skip
def A38 : eO := (Am 0 [(0, .v), (1, .v)] Ao (An Ao (An (An Ao (An (Am 1 [(1, .v), (2, .v), (5, .v), (6, .v), (7, .i .i64)] (An (An Ao Az) (An Az Ao)) Ao) Ao)) (Am 5 [(1, .v), (2, .v), (5, .v), (6, .v)] (An Ao (An (Am 2 [(1, .v), (2, .v), (5, .v), (6, .v), (8, .i .i64)] (An (An Ao Az) (Am 3 [(1, .v), (2, .v), (5, .v), (6, .v), (8, .i .i64)] (An (An Ao Az) Ao) Ao)) Ao) Ao)) (Am 4 [(6, .v)] Ao Ao)))))
noncomputable def a1L (S : Sg) (r6 : Value) (h : Hp) : aF :=
 some (r6, h)
noncomputable def a1M (S : Sg) (r1 r2 : Value) (r5 r6 : Value) (r8 : Int) (h : Hp) : aF :=
 aO (bP (F46 [r1, (Value.int .i64 r8)] h) fun v => some (v, h)) fun v0 h0 =>
 aR .i64 v0 fun i1 =>
 bU r5 fun i2 =>
 qF .i64 (lG env .rem 3 (Value.int .i64 i1) (Value.int .i64 i2)) fun i3 =>
 dM 1 r5 i3 fun v4 =>
 aI h0 v4 fun v5 =>
 aR .i64 v5 fun i6 =>
 aO (bB env h0 22 1 (List.toArray [(0, (Value.int .i64 i6))])) fun v7 h7 =>
 aO (fH env h7 #[22, 22] (List.toArray [r6, v7])) fun v8 h8 =>
 aO (bB env (Hp.mk (Hp.next h8) (Hp.next h8) T.nil) 22 0 (List.toArray [])) fun v9 h9 =>
 jG v9 (Hp.next h8) h9 fun w10 n10 =>
 bP (gY env (Hp.mk n10 n10 (Hp.aD h8)) 22 r5 none (some (Value.int .i64 i3)) none) fun v11 =>
 aO (fH env (Hp.mk n10 n10 (aW w10 (Hp.aD h8))) #[22, 22] (List.toArray [v9, v11])) fun v12 h12 =>
 jG v12 n10 h12 fun w13 n13 =>
 wrap64 (Int.add i3 (Int.ofNat 1)) fun i14 =>
 bP (gY env (Hp.mk n13 n13 (Hp.aD h8)) 22 r5 (some (Value.int .i64 i14)) none none) fun v15 =>
 aO (fH env (Hp.mk n13 (Hp.ro h8) (aW w13 (aW w10 (Hp.aD h8)))) #[22, 22] (List.toArray [v12, v15])) fun v16 h16 =>
 wrap64 (Int.add r8 (Int.ofNat 1)) fun i17 =>
 S 2 (AL.v r1 (AL.v r2 (AL.v v16 (AL.v v8 (AL.i i17 AL.n))))) h16
noncomputable def a1N (S : Sg) (r1 r2 : Value) (r5 r6 : Value) (r8 : Int) (h : Hp) : aF :=
 aP 3 r2 fun v0 =>
 aI h v0 fun v1 =>
 bU v1 fun i2 =>
 bQ (lV r8 i2) fun b3 =>
 bY b3
 (bU r5 fun i4 =>
 bQ (lV (Int.ofNat 0) i4) fun b5 =>
 bY b5
 (S 3 (AL.v r1 (AL.v r2 (AL.v r5 (AL.v r6 (AL.i r8 AL.n))))) h)
 (S 4 (AL.v r6 AL.n) h))
 (S 4 (AL.v r6 AL.n) h)
noncomputable def a1O (S : Sg) (r1 r2 : Value) (r5 r6 : Value) (h : Hp) : aF :=
 S 2 (AL.v r1 (AL.v r2 (AL.v r5 (AL.v r6 (AL.i (Int.ofNat 0) AL.n))))) h
noncomputable def a1P (S : Sg) (r1 r2 : Value) (r5 r6 : Value) (r7 : Int) (h : Hp) : aF :=
 aP 2 r2 fun v0 =>
 aI h v0 fun v1 =>
 bU v1 fun i2 =>
 bQ (lV r7 i2) fun b3 =>
 bY b3
 (aO (bB env h 22 1 (List.toArray [(0, (Value.int .i64 r7))])) fun v4 h4 =>
 aO (fH env h4 #[22, 22] (List.toArray [r5, v4])) fun v5 h5 =>
 wrap64 (Int.add r7 (Int.ofNat 1)) fun i6 =>
 S 1 (AL.v r1 (AL.v r2 (AL.v v5 (AL.v r6 (AL.i i6 AL.n))))) h5)
 (S 5 (AL.v r1 (AL.v r2 (AL.v r5 (AL.v r6 AL.n)))) h)
noncomputable def a1Q (S : Sg) (r0 r1 : Value) (h : Hp) : aF :=
 bF h 25 (Array.toList (Value.cells r0)) fun a0 h0 =>
 S 1 (AL.v r1 (AL.v a0 (AL.v (Value.slice none 0 0) (AL.v (Value.slice none 0 0) (AL.i (Int.ofNat 0) AL.n))))) h0
noncomputable def T38 (S : Sg) : Sg := bW 0 (uV fun r0 => uV fun r1 => uN (a1Q S r0 r1)) (bW 1 (uV fun r1 => uV fun r2 => uV fun r5 => uV fun r6 => uI fun r7 => uN (a1P S r1 r2 r5 r6 r7)) (bW 5 (uV fun r1 => uV fun r2 => uV fun r5 => uV fun r6 => uN (a1O S r1 r2 r5 r6)) (bW 2 (uV fun r1 => uV fun r2 => uV fun r5 => uV fun r6 => uI fun r8 => uN (a1N S r1 r2 r5 r6 r8)) (bW 3 (uV fun r1 => uV fun r2 => uV fun r5 => uV fun r6 => uI fun r8 => uN (a1M S r1 r2 r5 r6 r8)) (bW 4 (uV fun r6 => uN (a1L S r6)) (jN))))))
noncomputable def F38 (args : List Value) (h : Hp) : aF := bC [Kd.v, Kd.v] args fun al => aK T38 1000000 0 al h
def bEG : Nat := 2 + (57 - 2)
theorem t38 (S : Sg) : iQ (fun l vs h => aY (jV env aLS bEG) (jW env Try.f38.results.toList) (collect B38 A38 []) l S vs h) (T38 S) := by
 unfold T38
 exact dJ (dN fun _ => dN fun _ => jC fun _ => by kernel_rfl) <| dJ (dN fun _ => dN fun _ => dN fun _ => dN fun _ => jL fun _ => jC fun _ => by kernel_rfl) <| dJ (dN fun _ => dN fun _ => dN fun _ => dN fun _ => jC fun _ => by kernel_rfl) <| dJ (dN fun _ => dN fun _ => dN fun _ => dN fun _ => jL fun _ => jC fun _ => by kernel_rfl) <| dJ (dN fun _ => dN fun _ => dN fun _ => dN fun _ => jL fun _ => jC fun _ => by kernel_rfl) <| dJ (dN fun _ => jC fun _ => by kernel_rfl) <| Go.bG.iQ.nil
theorem r38 : ∀ args h v h', F38 args h = some (v, h') → eF (C63) (.call 38 args.toArray h) (.ret v h') := by
 intro args h v h' e
 exact bD (C := C63) (fn := Try.f38) (body := B38) (np := 2) (A := A38) (T := T38) (kinds := [Kd.v, Kd.v]) (by kernel_rfl) (by kernel_rfl) (by kernel_rfl) (by kernel_rfl) (dG dK) (by kernel_rfl) (fun S => t38 S) e
noncomputable def aLT := jI 38 F38 aLS
noncomputable def C64 : dL := cfg aLT
theorem bEH : C64.Ok := dB (C := C63) bED r38
noncomputable def B57 : Code := (Try.f57.body).getD .skip
def A57 : eO := (Am 0 [(0, .v), (1, .v)] Ao (An Ao (An (An Ao (An (Am 1 [(2, .v), (3, .v), (5, .v), (6, .i .i64)] (An (An Ao Az) (An (An (An Ao Az) Ao) Ao)) Ao) Ao)) (Am 2 [(5, .v)] Ao Ao))))
noncomputable def a1R (S : Sg) (r5 : Value) (h : Hp) : aF :=
 some (r5, h)
noncomputable def a1S (S : Sg) (r2 r3 r5 : Value) (r6 : Int) (h : Hp) : aF :=
 aP 1 r2 fun v0 =>
 aI h v0 fun v1 =>
 bU v1 fun i2 =>
 bQ (lV r6 i2) fun b3 =>
 bY b3
 (aP 1 r3 fun v4 =>
 aI h v4 fun v5 =>
 dM 1 v5 r6 fun v6 =>
 aI h v6 fun v7 =>
 aR .i64 v7 fun i8 =>
 bI (lD i8 (Int.negSucc 0)) fun b9 =>
 bY b9
 (aP 1 r3 fun v10 =>
 aI h v10 fun v11 =>
 dM 1 v11 r6 fun v12 =>
 aI h v12 fun v13 =>
 aR .i64 v13 fun i14 =>
 aP 1 r2 fun v15 =>
 aI h v15 fun v16 =>
 dM 1 v16 r6 fun v17 =>
 aI h v17 fun v18 =>
 aR .i64 v18 fun i19 =>
 bI (lD i14 i19) fun b20 =>
 bY b20
 (aO (bB env h 22 1 (List.toArray [(0, (Value.int .i64 r6))])) fun v21 h21 =>
 aO (fH env h21 #[22, 22] (List.toArray [r5, v21])) fun v22 h22 =>
 wrap64 (Int.add r6 (Int.ofNat 1)) fun i23 =>
 S 1 (AL.v r2 (AL.v r3 (AL.v v22 (AL.i i23 AL.n)))) h22)
 (wrap64 (Int.add r6 (Int.ofNat 1)) fun i24 =>
 S 1 (AL.v r2 (AL.v r3 (AL.v r5 (AL.i i24 AL.n)))) h))
 (wrap64 (Int.add r6 (Int.ofNat 1)) fun i25 =>
 S 1 (AL.v r2 (AL.v r3 (AL.v r5 (AL.i i25 AL.n)))) h))
 (S 2 (AL.v r5 AL.n) h)
noncomputable def a1T (S : Sg) (r0 r1 : Value) (h : Hp) : aF :=
 bF h 59 (Array.toList (Value.cells r0)) fun a0 h0 =>
 bF h0 59 (Array.toList (Value.cells r1)) fun a1 h1 =>
 S 1 (AL.v a0 (AL.v a1 (AL.v (Value.slice none 0 0) (AL.i (Int.ofNat 0) AL.n)))) h1
noncomputable def T57 (S : Sg) : Sg := bW 0 (uV fun r0 => uV fun r1 => uN (a1T S r0 r1)) (bW 1 (uV fun r2 => uV fun r3 => uV fun r5 => uI fun r6 => uN (a1S S r2 r3 r5 r6)) (bW 2 (uV fun r5 => uN (a1R S r5)) (jN)))
noncomputable def F57 (args : List Value) (h : Hp) : aF := bC [Kd.v, Kd.v] args fun al => aK T57 1000000 0 al h
def bEI : Nat := 2 + (38 - 2)
theorem t57 (S : Sg) : iQ (fun l vs h => aY (jV env aLT bEI) (jW env Try.f57.results.toList) (collect B57 A57 []) l S vs h) (T57 S) := by
 unfold T57
 exact dJ (dN fun _ => dN fun _ => jC fun _ => by kernel_rfl) <| dJ (dN fun _ => dN fun _ => dN fun _ => jL fun _ => jC fun _ => by kernel_rfl) <| dJ (dN fun _ => jC fun _ => by kernel_rfl) <| Go.bG.iQ.nil
theorem r57 : ∀ args h v h', F57 args h = some (v, h') → eF (C64) (.call 57 args.toArray h) (.ret v h') := by
 intro args h v h' e
 exact bD (C := C64) (fn := Try.f57) (body := B57) (np := 2) (A := A57) (T := T57) (kinds := [Kd.v, Kd.v]) (by kernel_rfl) (by kernel_rfl) (by kernel_rfl) (by kernel_rfl) (dG dK) (by kernel_rfl) (fun S => t57 S) e
noncomputable def aR5 := jI 57 F57 aLT
noncomputable def C65 : dL := cfg aR5
theorem bEJ : C65.Ok := dB (C := C64) bEH r57
noncomputable def B43 : Code := (Try.f43.body).getD .skip
noncomputable def A43 : G.eO (List KI) := (Gm 0 [.reg 0 .v, .reg 1 (.i .i64)] Gz (Gn (Gn Gz (Gn (Gm 1 [.reg 0 .v, .reg 1 (.i .i64), .reg 5 (.i .i64)] (Gn (Gn Gz Gy) (Gn (Gn (Gn Gz (Gn Gy Gz)) Gz) Gz)) Gz) Gz)) (Gm 2 [] Gz Gz)))
noncomputable def a1U (h : Hp) (S : Nat → aC → Option Value) : Option Value :=
 some (Value.bool false)
noncomputable def aDM (h : Hp) (S : Nat → aC → Option Value) (r0 : Value) (r1 r5 : Int) : Option Value :=
 bU r0 fun i0 =>
 bQ (lV r5 i0) fun b1 =>
 bY b1
 (dM 1 r0 r5 fun v2 =>
 aI h v2 fun v3 =>
 aR .i64 v3 fun i4 =>
 bQ (lD i4 r1) fun b5 =>
 bY b5
 (some (Value.bool true))
 (wrap64 (Int.add r5 (Int.ofNat 1)) fun i6 =>
 S 1 (aC.v r0 (aC.i r1 (aC.i i6 aC.n)))))
 (S 2 aC.n)
noncomputable def a1V (h : Hp) (S : Nat → aC → Option Value) (r0 : Value) (r1 : Int) : Option Value :=
 S 1 (aC.v r0 (aC.i r1 (aC.i (Int.ofNat 0) aC.n)))
noncomputable def T43 (h : Hp) (S : Nat → aC → Option Value) : Nat → aC → Option Value := dR 0 (wV fun r0 => wI fun r1 => wN (a1V h S r0 r1)) (dR 1 (wV fun r0 => wI fun r1 => wI fun r5 => wN (aDM h S r0 r1 r5)) (dR 2 (wN (a1U h S)) (kH)))
noncomputable def F43 (args : List Value) (h : Hp) : Option Value := plainO (dS [Kd.v, Kd.i .i64] args fun al => G.aK (T43 h) 1000000 0 al)
def bEK : Nat := 2 + (18 - 2)
theorem t43 (h : Hp) (S : Nat → aC → Option Value) : gV (fun l al => G.aY iD bZ nT (oQ env aPY bEK h) (pM env Try.f43.results.toList) (G.collect B43 A43 []) l S al) (T43 h S) := by
 unfold T43
 exact dV (mO fun _ => jR fun _ => nV (by kernel_rfl)) <| dV (mO fun _ => jR fun _ => jR fun _ => nV (by kernel_rfl)) <| dV (nV (by kernel_rfl)) <| gV.nil
theorem r43 : fT Try.prog 43 F43 := dF (C := C0) ok0 (pf := aPY) aLR (fn := Try.f43) (body := B43) (kinds := [Kd.v, Kd.i .i64]) (A := A43) (T := T43) (by kernel_rfl) (by kernel_rfl) (by kernel_rfl) (by kernel_rfl) (fun h S => t43 h S)
noncomputable def aPZ : PF := EW 43 F43 aPY
theorem aLV : eB Try.prog aPZ := iK r43 aLR
noncomputable def aLW := oU 43 F43 aR5
noncomputable def C66 : dL := cfg aLW
theorem bEL : C66.Ok := fK (C := C65) bEJ r43
noncomputable def B61 : Code := (Try.f61.body).getD .skip
def A61 : eO := (Am 0 [(0, .v), (1, .v)] Ao (An Ao (An (An Ao (An (Am 1 [(1, .v), (2, .v), (5, .v), (6, .i .i64)] (An (An Ao Az) (An (An (An Ao (An (An Ao (An (Am 2 [(1, .v), (2, .v), (5, .v), (6, .i .i64), (7, .i .i64), (8, .i .i64)] (An (An Ao Az) (An (An (An Ao (An (An Ao Az) (An (An Ao Az) (Am 3 [(1, .v), (2, .v), (5, .v), (6, .i .i64), (7, .i .i64), (8, .i .i64), (10, .v)] Ao Az)))) Ao) (Am 4 [(1, .v), (2, .v), (5, .v), (6, .i .i64), (7, .i .i64), (8, .i .i64)] Ao Ao))) Ao) Ao)) (Am 5 [(1, .v), (2, .v), (5, .v), (6, .i .i64), (7, .i .i64)] Ao Ao))) Ao) (Am 6 [(1, .v), (2, .v), (5, .v), (6, .i .i64)] Ao Ao))) Ao) Ao)) (Am 7 [(5, .v)] Ao Ao))))
noncomputable def a1W (S : Sg) (r5 : Value) (h : Hp) : aF :=
 some (r5, h)
noncomputable def a1X (S : Sg) (r1 r2 r5 : Value) (r6 : Int) (h : Hp) : aF :=
 wrap64 (Int.add r6 (Int.ofNat 1)) fun i0 =>
 S 1 (AL.v r1 (AL.v r2 (AL.v r5 (AL.i i0 AL.n)))) h
noncomputable def a1Y (S : Sg) (r1 r2 r5 : Value) (r6 r7 : Int) (h : Hp) : aF :=
 aO (bB env h 22 1 (List.toArray [(0, (Value.int .i64 r7))])) fun v0 h0 =>
 aO (fH env h0 #[22, 22] (List.toArray [r5, v0])) fun v1 h1 =>
 S 6 (AL.v r1 (AL.v r2 (AL.v v1 (AL.i r6 AL.n)))) h1
noncomputable def a1Z (S : Sg) (r1 r2 r5 : Value) (r6 r7 r8 : Int) (h : Hp) : aF :=
 wrap64 (Int.add r8 (Int.ofNat 1)) fun i0 =>
 S 2 (AL.v r1 (AL.v r2 (AL.v r5 (AL.i r6 (AL.i r7 (AL.i i0 AL.n)))))) h
noncomputable def a19 (S : Sg) (r1 r2 r5 : Value) (r6 r7 r8 : Int) (nW : Value) (h : Hp) : aF :=
 aP 1 nW fun v0 =>
 aI h v0 fun v1 =>
 dM 1 v1 (Int.ofNat 0) fun v2 =>
 aI h v2 fun v3 =>
 aR .i64 v3 fun i4 =>
 bQ (lD i4 r6) fun b5 =>
 bY b5
 (aP 2 nW fun v6 =>
 aI h v6 fun v7 =>
 aR .i64 v7 fun i8 =>
 wrap64 (Int.sub r7 i8) fun i9 =>
 S 4 (AL.v r1 (AL.v r2 (AL.v r5 (AL.i r6 (AL.i i9 (AL.i r8 AL.n)))))) h)
 (S 4 (AL.v r1 (AL.v r2 (AL.v r5 (AL.i r6 (AL.i r7 (AL.i r8 AL.n)))))) h)
noncomputable def a2A (S : Sg) (r1 r2 r5 : Value) (r6 r7 r8 : Int) (h : Hp) : aF :=
 bU r1 fun i0 =>
 bQ (lV r8 i0) fun b1 =>
 bY b1
 (aP 2 r2 fun v2 =>
 aI (Hp.mk (Hp.next h) (Hp.next h) (Hp.aD h)) v2 fun v3 =>
 dM 1 r1 r8 fun v4 =>
 aI (Hp.mk (Hp.next h) (Hp.next h) (Hp.aD h)) v4 fun v5 =>
 aR .i64 v5 fun i6 =>
 dM 3 v3 i6 fun v7 =>
 aX 3 (Hp.mk (Hp.next h) (Hp.next h) (Hp.aD h)) v7 fun v8 =>
 aP 3 r2 fun v9 =>
 aI (Hp.mk (Hp.next h) (Hp.next h) (Hp.aD h)) v9 fun v10 =>
 dM 3 v10 r8 fun v11 =>
 aX 3 (Hp.mk (Hp.next h) (Hp.next h) (Hp.aD h)) v11 fun v12 =>
 bF (Hp.mk (Hp.next h) (Hp.next h) T.nil) 59 [(Value.string (ByteArray.mk #[])), (Value.slice none 0 0), (Value.int .i64 (Int.ofNat 0))] fun a13 RZ =>
 jG a13 (Hp.next h) RZ fun w14 n14 =>
 bF (Hp.mk n14 n14 T.nil) 59 [(Value.string (ByteArray.mk #[])), (Value.slice none 0 0), (Value.int .i64 (Int.ofNat 0))] fun a15 h15 =>
 jG a15 n14 h15 fun w16 n16 =>
 EJ env 59 a13 v8 n16 (Hp.next h) (aW w16 (aW w14 (Hp.aD h))) (fun b => (gZ [] b || (gZ [] b || (gZ [] b || (gZ [] b || (gZ [] b || (gZ [] b || (gZ [] b || (gZ [] b || (gZ w14 b || (gZ w16 b || false))))))))))) fun w17 =>
 dZ 3 (Hp.mk n16 (Hp.ro h) (aW w17 (aW w16 (aW w14 (Hp.aD h))))) a15 v12 fun h18 =>
 aX 3 h18 a13 fun v19 =>
 aX 3 h18 a15 fun v20 =>
 aO (cZ F57 [v19, v20] h18) fun v21 h21 =>
 aO (bP (F43 [v21, (Value.int .i64 (Int.ofNat 0))] h21) fun v => some (v, h21)) fun v22 h22 =>
 dH v22 fun b23 =>
 bI b23 fun b24 =>
 bY b24
 (S 4 (AL.v r1 (AL.v r2 (AL.v r5 (AL.i r6 (AL.i r7 (AL.i r8 AL.n)))))) h22)
 (aP 1 a13 fun v25 =>
 aI h22 v25 fun v26 =>
 dM 1 v26 (Int.ofNat 0) fun v27 =>
 aI h22 v27 fun v28 =>
 aR .i64 v28 fun i29 =>
 bQ (lD i29 r6) fun b30 =>
 bY b30
 (aP 2 a13 fun v31 =>
 aI h22 v31 fun v32 =>
 aR .i64 v32 fun i33 =>
 wrap64 (Int.add r7 i33) fun i34 =>
 S 3 (AL.v r1 (AL.v r2 (AL.v r5 (AL.i r6 (AL.i i34 (AL.i r8 (AL.v a15 AL.n))))))) h22)
 (S 3 (AL.v r1 (AL.v r2 (AL.v r5 (AL.i r6 (AL.i r7 (AL.i r8 (AL.v a15 AL.n))))))) h22)))
 (S 5 (AL.v r1 (AL.v r2 (AL.v r5 (AL.i r6 (AL.i r7 AL.n))))) h)
noncomputable def a2C (S : Sg) (r1 r2 r5 : Value) (r6 : Int) (h : Hp) : aF :=
 aP 1 r2 fun v0 =>
 aI h v0 fun v1 =>
 bU v1 fun i2 =>
 bQ (lV r6 i2) fun b3 =>
 bY b3
 (aP 1 r2 fun v4 =>
 aI h v4 fun v5 =>
 dM 1 v5 r6 fun v6 =>
 aI h v6 fun v7 =>
 aR .i64 v7 fun i8 =>
 S 2 (AL.v r1 (AL.v r2 (AL.v r5 (AL.i r6 (AL.i i8 (AL.i (Int.ofNat 0) AL.n)))))) h)
 (S 7 (AL.v r5 AL.n) h)
noncomputable def a2D (S : Sg) (r0 r1 : Value) (h : Hp) : aF :=
 bF h 25 (Array.toList (Value.cells r0)) fun a0 h0 =>
 S 1 (AL.v r1 (AL.v a0 (AL.v (Value.slice none 0 0) (AL.i (Int.ofNat 0) AL.n)))) h0
noncomputable def T61 (S : Sg) : Sg := bW 0 (uV fun r0 => uV fun r1 => uN (a2D S r0 r1)) (bW 1 (uV fun r1 => uV fun r2 => uV fun r5 => uI fun r6 => uN (a2C S r1 r2 r5 r6)) (bW 2 (uV fun r1 => uV fun r2 => uV fun r5 => uI fun r6 => uI fun r7 => uI fun r8 => uN (a2A S r1 r2 r5 r6 r7 r8)) (bW 3 (uV fun r1 => uV fun r2 => uV fun r5 => uI fun r6 => uI fun r7 => uI fun r8 => uV fun nW => uN (a19 S r1 r2 r5 r6 r7 r8 nW)) (bW 4 (uV fun r1 => uV fun r2 => uV fun r5 => uI fun r6 => uI fun r7 => uI fun r8 => uN (a1Z S r1 r2 r5 r6 r7 r8)) (bW 5 (uV fun r1 => uV fun r2 => uV fun r5 => uI fun r6 => uI fun r7 => uN (a1Y S r1 r2 r5 r6 r7)) (bW 6 (uV fun r1 => uV fun r2 => uV fun r5 => uI fun r6 => uN (a1X S r1 r2 r5 r6)) (bW 7 (uV fun r5 => uN (a1W S r5)) (jN))))))))
noncomputable def F61 (args : List Value) (h : Hp) : aF := bC [Kd.v, Kd.v] args fun al => aK T61 1000000 0 al h
def bEO : Nat := 2 + (72 - 2)
theorem t61 (S : Sg) : iQ (fun l vs h => aY (jV env aLW bEO) (jW env Try.f61.results.toList) (collect B61 A61 []) l S vs h) (T61 S) := by
 unfold T61
 exact dJ (dN fun _ => dN fun _ => jC fun _ => by kernel_rfl) <| dJ (dN fun _ => dN fun _ => dN fun _ => jL fun _ => jC fun _ => by kernel_rfl) <| dJ (dN fun _ => dN fun _ => dN fun _ => jL fun _ => jL fun _ => jL fun _ => jC fun _ => by kernel_rfl) <| dJ (dN fun _ => dN fun _ => dN fun _ => jL fun _ => jL fun _ => jL fun _ => dN fun _ => jC fun _ => by kernel_rfl) <| dJ (dN fun _ => dN fun _ => dN fun _ => jL fun _ => jL fun _ => jL fun _ => jC fun _ => by kernel_rfl) <| dJ (dN fun _ => dN fun _ => dN fun _ => jL fun _ => jL fun _ => jC fun _ => by kernel_rfl) <| dJ (dN fun _ => dN fun _ => dN fun _ => jL fun _ => jC fun _ => by kernel_rfl) <| dJ (dN fun _ => jC fun _ => by kernel_rfl) <| Go.bG.iQ.nil
theorem r61 : ∀ args h v h', F61 args h = some (v, h') → eF (C66) (.call 61 args.toArray h) (.ret v h') := by
 intro args h v h' e
 exact bD (C := C66) (fn := Try.f61) (body := B61) (np := 2) (A := A61) (T := T61) (kinds := [Kd.v, Kd.v]) (by kernel_rfl) (by kernel_rfl) (by kernel_rfl) (by kernel_rfl) (dG dK) (by kernel_rfl) (fun S => t61 S) e
noncomputable def aLX := jI 61 F61 aLW
noncomputable def C67 : dL := cfg aLX
theorem bEP : C67.Ok := dB (C := C66) bEL r61
noncomputable def B78 : Code := (Try.f78.body).getD .skip
def A78 : eO := (Am 0 [(0, .v)] Ao (An Ao (An Ao (An (An Ao (An (Am 1 [(0, .v), (4, .v), (5, .i .i64), (6, .i .i64)] (An (An Ao Az) (An (An (An Ao Az) Ao) Ao)) Ao) Ao)) (Am 2 [(4, .v), (5, .i .i64)] Ao Ao)))))
noncomputable def a2E (S : Sg) (r4 : Value) (r5 : Int) (h : Hp) : aF :=
 some (Value.tuple (List.toArray [r4, (Value.int .i64 r5)]), h)
noncomputable def a2F (S : Sg) (r0 r4 : Value) (r5 r6 : Int) (h : Hp) : aF :=
 bU r0 fun i0 =>
 bQ (lV r6 i0) fun b1 =>
 bY b1
 (dM 1 r0 r6 fun v2 =>
 aI h v2 fun v3 =>
 aR .i64 v3 fun i4 =>
 wrap64 (Int.sub (Int.ofNat 0) i4) fun i5 =>
 aES (Int.ofNat 0) i5 fun i6 =>
 aO (bB env h 22 1 (List.toArray [(0, (Value.int .i64 i6))])) fun v7 h7 =>
 aO (fH env h7 #[22, 22] (List.toArray [r4, v7])) fun v8 h8 =>
 wrap64 (Int.add r5 i6) fun i9 =>
 wrap64 (Int.add r6 (Int.ofNat 1)) fun i10 =>
 S 1 (AL.v r0 (AL.v v8 (AL.i i9 (AL.i i10 AL.n)))) h8)
 (S 2 (AL.v r4 (AL.i r5 AL.n)) h)
noncomputable def a2G (S : Sg) (r0 : Value) (h : Hp) : aF :=
 S 1 (AL.v r0 (AL.v (Value.slice none 0 0) (AL.i (Int.ofNat 0) (AL.i (Int.ofNat 0) AL.n)))) h
noncomputable def T78 (S : Sg) : Sg := bW 0 (uV fun r0 => uN (a2G S r0)) (bW 1 (uV fun r0 => uV fun r4 => uI fun r5 => uI fun r6 => uN (a2F S r0 r4 r5 r6)) (bW 2 (uV fun r4 => uI fun r5 => uN (a2E S r4 r5)) (jN)))
noncomputable def F78 (args : List Value) (h : Hp) : aF := bC [Kd.v] args fun al => aK T78 1000000 0 al h
def bER : Nat := 1 + (29 - 1)
theorem t78 (S : Sg) : iQ (fun l vs h => aY (jV env aLX bER) (jW env Try.f78.results.toList) (collect B78 A78 []) l S vs h) (T78 S) := by
 unfold T78
 exact dJ (dN fun _ => jC fun _ => by kernel_rfl) <| dJ (dN fun _ => dN fun _ => jL fun _ => jL fun _ => jC fun _ => by kernel_rfl) <| dJ (dN fun _ => jL fun _ => jC fun _ => by kernel_rfl) <| Go.bG.iQ.nil
theorem r78 : ∀ args h v h', F78 args h = some (v, h') → eF (C67) (.call 78 args.toArray h) (.ret v h') := by
 intro args h v h' e
 exact bD (C := C67) (fn := Try.f78) (body := B78) (np := 1) (A := A78) (T := T78) (kinds := [Kd.v]) (by kernel_rfl) (by kernel_rfl) (by kernel_rfl) (by kernel_rfl) (dG dK) (by kernel_rfl) (fun S => t78 S) e
noncomputable def aLY := jI 78 F78 aLX
noncomputable def C68 : dL := cfg aLY
theorem bES : C68.Ok := dB (C := C67) bEP r78
noncomputable def B39 : Code := (Try.f39.body).getD .skip
def A39 : eO := (Am 0 [(0, .v), (1, .v)] Ao (An Ao Az))
noncomputable def a2H (S : Sg) (r0 r1 : Value) (h : Hp) : aF :=
 bF h 25 (Array.toList (Value.cells r0)) fun a0 h0 =>
 aX 4 h0 a0 fun v1 =>
 aO (cZ F61 [v1, r1] h0) fun v2 h2 =>
 aO (cZ F78 [v2] h2) fun v3 h3 =>
 fU v3 0 fun v4 =>
 fU v3 1 fun v5 =>
 aR .i64 v5 fun i6 =>
 bQ (lD i6 (Int.ofNat 0)) fun b7 =>
 some ((Value.bool b7), h3)
noncomputable def T39 (S : Sg) : Sg := bW 0 (uV fun r0 => uV fun r1 => uN (a2H S r0 r1)) (jN)
noncomputable def F39 (args : List Value) (h : Hp) : aF := bC [Kd.v, Kd.v] args fun al => aK T39 1000000 0 al h
def bET : Nat := 2 + (16 - 2)
theorem t39 (S : Sg) : iQ (fun l vs h => aY (jV env aLY bET) (jW env Try.f39.results.toList) (collect B39 A39 []) l S vs h) (T39 S) := by
 unfold T39
 exact dJ (dN fun _ => dN fun _ => jC fun _ => by kernel_rfl) <| Go.bG.iQ.nil
theorem r39 : ∀ args h v h', F39 args h = some (v, h') → eF (C68) (.call 39 args.toArray h) (.ret v h') := by
 intro args h v h' e
 exact bD (C := C68) (fn := Try.f39) (body := B39) (np := 2) (A := A39) (T := T39) (kinds := [Kd.v, Kd.v]) (by kernel_rfl) (by kernel_rfl) (by kernel_rfl) (by kernel_rfl) (dG dK) (by kernel_rfl) (fun S => t39 S) e
noncomputable def aLZ := jI 39 F39 aLY
noncomputable def C69 : dL := cfg aLZ
theorem bEU : C69.Ok := dB (C := C68) bES r39
noncomputable def B40 : Code := (Try.f40.body).getD .skip
def A40 : eO := (Am 0 [(0, .v), (1, .v)] Ao (An Ao (An (An Ao Az) (An (An Ao (An (Am 1 [(1, .v), (2, .v), (7, .i .i64), (8, .i .i64)] (An (An Ao Az) (Am 2 [(1, .v), (2, .v), (7, .i .i64), (8, .i .i64)] (An (An Ao Az) Ao) Ao)) Ao) Ao)) (Am 6 [(1, .v), (7, .i .i64)] (An Ao (An (Am 3 [(1, .v), (7, .i .i64), (9, .i .i64)] (An (An Ao Az) (Am 4 [(1, .v), (7, .i .i64), (9, .i .i64)] (An (An Ao Az) Ao) Ao)) Ao) Ao)) (Am 5 [(7, .i .i64)] Ao Ao))))))
noncomputable def a2I (S : Sg) (r7 : Int) (h : Hp) : aF :=
 some ((Value.int .i64 r7), h)
noncomputable def a2J (S : Sg) (r1 : Value) (r7 r9 : Int) (h : Hp) : aF :=
 bP (gY env h 22 r1 none (some (Value.int .i64 r9)) none) fun v0 =>
 dM 1 r1 r9 fun v1 =>
 aI h v1 fun v2 =>
 aR .i64 v2 fun i3 =>
 aO (bP (F43 [v0, (Value.int .i64 i3)] h) fun v => some (v, h)) fun v4 h4 =>
 dH v4 fun b5 =>
 bY b5
 (wrap64 (Int.add r9 (Int.ofNat 1)) fun i6 =>
 S 3 (AL.v r1 (AL.i (Int.ofNat 5) (AL.i i6 AL.n))) h4)
 (wrap64 (Int.add r9 (Int.ofNat 1)) fun i7 =>
 S 3 (AL.v r1 (AL.i r7 (AL.i i7 AL.n))) h4)
noncomputable def a2K (S : Sg) (r1 : Value) (r7 r9 : Int) (h : Hp) : aF :=
 bU r1 fun i0 =>
 bQ (lV r9 i0) fun b1 =>
 bY b1
 (bQ (lD r7 (Int.ofNat 0)) fun b2 =>
 bY b2
 (S 4 (AL.v r1 (AL.i r7 (AL.i r9 AL.n))) h)
 (S 5 (AL.i r7 AL.n) h))
 (S 5 (AL.i r7 AL.n) h)
noncomputable def a2L (S : Sg) (r1 : Value) (r7 : Int) (h : Hp) : aF :=
 S 3 (AL.v r1 (AL.i r7 (AL.i (Int.ofNat 0) AL.n))) h
noncomputable def a2M (S : Sg) (r1 r2 : Value) (r7 r8 : Int) (h : Hp) : aF :=
 dM 1 r1 r8 fun v0 =>
 aI h v0 fun v1 =>
 aR .i64 v1 fun i2 =>
 aP 2 r2 fun v3 =>
 aI h v3 fun v4 =>
 bU v4 fun i5 =>
 wrap64 (Int.sub i5 (Int.ofNat 1)) fun i6 =>
 aO (bP (F55 [(Value.int .i64 i2), (Value.int .i64 (Int.ofNat 0)), (Value.int .i64 i6)] h) fun v => some (v, h)) fun v7 h7 =>
 dH v7 fun b8 =>
 bI b8 fun b9 =>
 bY b9
 (wrap64 (Int.add r8 (Int.ofNat 1)) fun i10 =>
 S 1 (AL.v r1 (AL.v r2 (AL.i (Int.ofNat 4) (AL.i i10 AL.n)))) h7)
 (wrap64 (Int.add r8 (Int.ofNat 1)) fun i11 =>
 S 1 (AL.v r1 (AL.v r2 (AL.i r7 (AL.i i11 AL.n)))) h7)
noncomputable def a2N (S : Sg) (r1 r2 : Value) (r7 r8 : Int) (h : Hp) : aF :=
 bU r1 fun i0 =>
 bQ (lV r8 i0) fun b1 =>
 bY b1
 (bQ (lD r7 (Int.ofNat 0)) fun b2 =>
 bY b2
 (S 2 (AL.v r1 (AL.v r2 (AL.i r7 (AL.i r8 AL.n)))) h)
 (S 6 (AL.v r1 (AL.i r7 AL.n)) h))
 (S 6 (AL.v r1 (AL.i r7 AL.n)) h)
noncomputable def a2O (S : Sg) (r0 r1 : Value) (h : Hp) : aF :=
 bF h 25 (Array.toList (Value.cells r0)) fun a0 h0 =>
 aX 4 h0 a0 fun v1 =>
 aO (cZ F17 [v1] h0) fun v2 h2 =>
 fU v2 0 fun v3 =>
 aR .i64 v3 fun i4 =>
 fU v2 1 fun v5 =>
 aR .i64 v5 fun i6 =>
 fU v2 2 fun v7 =>
 aR .i64 v7 fun i8 =>
 bQ (lD i8 (Int.ofNat 0)) fun b9 =>
 bY b9
 (bU r1 fun i10 =>
 aP 3 a0 fun v11 =>
 aI h2 v11 fun v12 =>
 bU v12 fun i13 =>
 bI (lD i10 i13) fun b14 =>
 bY b14
 (S 1 (AL.v r1 (AL.v a0 (AL.i (Int.ofNat 3) (AL.i (Int.ofNat 0) AL.n)))) h2)
 (S 1 (AL.v r1 (AL.v a0 (AL.i i8 (AL.i (Int.ofNat 0) AL.n)))) h2))
 (S 1 (AL.v r1 (AL.v a0 (AL.i i8 (AL.i (Int.ofNat 0) AL.n)))) h2)
noncomputable def T40 (S : Sg) : Sg := bW 0 (uV fun r0 => uV fun r1 => uN (a2O S r0 r1)) (bW 1 (uV fun r1 => uV fun r2 => uI fun r7 => uI fun r8 => uN (a2N S r1 r2 r7 r8)) (bW 2 (uV fun r1 => uV fun r2 => uI fun r7 => uI fun r8 => uN (a2M S r1 r2 r7 r8)) (bW 6 (uV fun r1 => uI fun r7 => uN (a2L S r1 r7)) (bW 3 (uV fun r1 => uI fun r7 => uI fun r9 => uN (a2K S r1 r7 r9)) (bW 4 (uV fun r1 => uI fun r7 => uI fun r9 => uN (a2J S r1 r7 r9)) (bW 5 (uI fun r7 => uN (a2I S r7)) (jN)))))))
noncomputable def F40 (args : List Value) (h : Hp) : aF := bC [Kd.v, Kd.v] args fun al => aK T40 1000000 0 al h
def bEW : Nat := 2 + (65 - 2)
theorem t40 (S : Sg) : iQ (fun l vs h => aY (jV env aLZ bEW) (jW env Try.f40.results.toList) (collect B40 A40 []) l S vs h) (T40 S) := by
 unfold T40
 exact dJ (dN fun _ => dN fun _ => jC fun _ => by kernel_rfl) <| dJ (dN fun _ => dN fun _ => jL fun _ => jL fun _ => jC fun _ => by kernel_rfl) <| dJ (dN fun _ => dN fun _ => jL fun _ => jL fun _ => jC fun _ => by kernel_rfl) <| dJ (dN fun _ => jL fun _ => jC fun _ => by kernel_rfl) <| dJ (dN fun _ => jL fun _ => jL fun _ => jC fun _ => by kernel_rfl) <| dJ (dN fun _ => jL fun _ => jL fun _ => jC fun _ => by kernel_rfl) <| dJ (jL fun _ => jC fun _ => by kernel_rfl) <| Go.bG.iQ.nil
theorem r40 : ∀ args h v h', F40 args h = some (v, h') → eF (C69) (.call 40 args.toArray h) (.ret v h') := by
 intro args h v h' e
 exact bD (C := C69) (fn := Try.f40) (body := B40) (np := 2) (A := A40) (T := T40) (kinds := [Kd.v, Kd.v]) (by kernel_rfl) (by kernel_rfl) (by kernel_rfl) (by kernel_rfl) (dG dK) (by kernel_rfl) (fun S => t40 S) e
noncomputable def aL0 := jI 40 F40 aLZ
noncomputable def C70 : dL := cfg aL0
theorem bEX : C70.Ok := dB (C := C69) bEU r40
noncomputable def B56 : Code := (Try.f56.body).getD .skip
def A56 : eO := (Am 0 [(0, .v), (1, .v), (2, .v)] Ao (An Ao (An Ao (An (An Ao (An (Am 1 [(3, .v), (7, .i .i64), (8, .v), (9, .i .i64)] (An (An Ao Az) (An Az Ao)) Ao) Ao)) (Am 2 [(7, .i .i64)] Ao Ao)))))
noncomputable def a2P (S : Sg) (r7 : Int) (h : Hp) : aF :=
 some ((Value.int .i64 r7), h)
noncomputable def a2Q (S : Sg) (r3 : Value) (r7 : Int) (r8 : Value) (r9 : Int) (h : Hp) : aF :=
 bU r8 fun i0 =>
 bQ (lV r9 i0) fun b1 =>
 bY b1
 (aP 0 r3 fun v2 =>
 aI h v2 fun v3 =>
 dM 1 r8 r9 fun v4 =>
 aI h v4 fun v5 =>
 aR .i64 v5 fun i6 =>
 dM 1 v3 i6 fun v7 =>
 aI h v7 fun v8 =>
 aR .i64 v8 fun i9 =>
 wrap64 (Int.add r7 i9) fun i10 =>
 wrap64 (Int.add r9 (Int.ofNat 1)) fun i11 =>
 S 1 (AL.v r3 (AL.i i10 (AL.v r8 (AL.i i11 AL.n)))) h)
 (S 2 (AL.i r7 AL.n) h)
noncomputable def a2R (S : Sg) (r0 r1 r2 : Value) (h : Hp) : aF :=
 bF h 25 (Array.toList (Value.cells r0)) fun a0 h0 =>
 bF h0 59 (Array.toList (Value.cells r1)) fun a1 h1 =>
 bF h1 59 (Array.toList (Value.cells r2)) fun a2 h2 =>
 aX 3 h2 a1 fun v3 =>
 aX 3 h2 a2 fun v4 =>
 aO (cZ F57 [v3, v4] h2) fun v5 h5 =>
 S 1 (AL.v a0 (AL.i (Int.ofNat 0) (AL.v v5 (AL.i (Int.ofNat 0) AL.n)))) h5
noncomputable def T56 (S : Sg) : Sg := bW 0 (uV fun r0 => uV fun r1 => uV fun r2 => uN (a2R S r0 r1 r2)) (bW 1 (uV fun r3 => uI fun r7 => uV fun r8 => uI fun r9 => uN (a2Q S r3 r7 r8 r9)) (bW 2 (uI fun r7 => uN (a2P S r7)) (jN)))
noncomputable def F56 (args : List Value) (h : Hp) : aF := bC [Kd.v, Kd.v, Kd.v] args fun al => aK T56 1000000 0 al h
def bEZ : Nat := 3 + (30 - 3)
theorem t56 (S : Sg) : iQ (fun l vs h => aY (jV env aL0 bEZ) (jW env Try.f56.results.toList) (collect B56 A56 []) l S vs h) (T56 S) := by
 unfold T56
 exact dJ (dN fun _ => dN fun _ => dN fun _ => jC fun _ => by kernel_rfl) <| dJ (dN fun _ => jL fun _ => dN fun _ => jL fun _ => jC fun _ => by kernel_rfl) <| dJ (jL fun _ => jC fun _ => by kernel_rfl) <| Go.bG.iQ.nil
theorem r56 : ∀ args h v h', F56 args h = some (v, h') → eF (C70) (.call 56 args.toArray h) (.ret v h') := by
 intro args h v h' e
 exact bD (C := C70) (fn := Try.f56) (body := B56) (np := 3) (A := A56) (T := T56) (kinds := [Kd.v, Kd.v, Kd.v]) (by kernel_rfl) (by kernel_rfl) (by kernel_rfl) (by kernel_rfl) (dG dK) (by kernel_rfl) (fun S => t56 S) e
noncomputable def aL1 := jI 56 F56 aL0
noncomputable def C71 : dL := cfg aL1
theorem bE0 : C71.Ok := dB (C := C70) bEX r56
noncomputable def B41 : Code := (Try.f41.body).getD .skip
def A41 : eO := (Am 0 [(0, .v), (1, .v)] Ao (An Ao (An (An Ao (An (Am 1 [(1, .v), (2, .v), (5, .i .i64), (6, .i .i64)] (An (An Ao Az) (An Az Ao)) Ao) Ao)) (Am 2 [(5, .i .i64)] Ao Ao))))
noncomputable def a2S (S : Sg) (r5 : Int) (h : Hp) : aF :=
 some ((Value.int .i64 r5), h)
noncomputable def a2T (S : Sg) (r1 r2 : Value) (r5 r6 : Int) (h : Hp) : aF :=
 bU r1 fun i0 =>
 bQ (lV r6 i0) fun b1 =>
 bY b1
 (aX 4 h r2 fun v2 =>
 aP 2 r2 fun v3 =>
 aI h v3 fun v4 =>
 dM 1 r1 r6 fun v5 =>
 aI h v5 fun v6 =>
 aR .i64 v6 fun i7 =>
 dM 3 v4 i7 fun v8 =>
 aX 3 h v8 fun v9 =>
 aP 3 r2 fun v10 =>
 aI h v10 fun v11 =>
 dM 3 v11 r6 fun v12 =>
 aX 3 h v12 fun v13 =>
 aO (cZ F56 [v2, v9, v13] h) fun v14 h14 =>
 aR .i64 v14 fun i15 =>
 wrap64 (Int.add r5 i15) fun i16 =>
 wrap64 (Int.add r6 (Int.ofNat 1)) fun i17 =>
 S 1 (AL.v r1 (AL.v r2 (AL.i i16 (AL.i i17 AL.n)))) h14)
 (S 2 (AL.i r5 AL.n) h)
noncomputable def a2U (S : Sg) (r0 r1 : Value) (h : Hp) : aF :=
 bF h 25 (Array.toList (Value.cells r0)) fun a0 h0 =>
 S 1 (AL.v r1 (AL.v a0 (AL.i (Int.ofNat 0) (AL.i (Int.ofNat 0) AL.n)))) h0
noncomputable def T41 (S : Sg) : Sg := bW 0 (uV fun r0 => uV fun r1 => uN (a2U S r0 r1)) (bW 1 (uV fun r1 => uV fun r2 => uI fun r5 => uI fun r6 => uN (a2T S r1 r2 r5 r6)) (bW 2 (uI fun r5 => uN (a2S S r5)) (jN)))
noncomputable def F41 (args : List Value) (h : Hp) : aF := bC [Kd.v, Kd.v] args fun al => aK T41 1000000 0 al h
def bE1 : Nat := 2 + (31 - 2)
theorem t41 (S : Sg) : iQ (fun l vs h => aY (jV env aL1 bE1) (jW env Try.f41.results.toList) (collect B41 A41 []) l S vs h) (T41 S) := by
 unfold T41
 exact dJ (dN fun _ => dN fun _ => jC fun _ => by kernel_rfl) <| dJ (dN fun _ => dN fun _ => jL fun _ => jL fun _ => jC fun _ => by kernel_rfl) <| dJ (jL fun _ => jC fun _ => by kernel_rfl) <| Go.bG.iQ.nil
theorem r41 : ∀ args h v h', F41 args h = some (v, h') → eF (C71) (.call 41 args.toArray h) (.ret v h') := by
 intro args h v h' e
 exact bD (C := C71) (fn := Try.f41) (body := B41) (np := 2) (A := A41) (T := T41) (kinds := [Kd.v, Kd.v]) (by kernel_rfl) (by kernel_rfl) (by kernel_rfl) (by kernel_rfl) (dG dK) (by kernel_rfl) (fun S => t41 S) e
noncomputable def aR6 := jI 41 F41 aL1
noncomputable def C72 : dL := cfg aR6
theorem bE2 : C72.Ok := dB (C := C71) bE0 r41
noncomputable def B42 : Code := (Try.f42.body).getD .skip
noncomputable def A42 : G.eO (List KI) := (Gm 0 [.reg 0 .v, .reg 1 .v] Gz (Gn Gz (Gn (Gn Gz (Gn (Gm 1 [.reg 0 .v, .reg 1 .v, .reg 5 (.i .i64), .reg 6 (.i .i64)] (Gn (Gn Gz Gy) (Gn (Gn (Gn Gz (Gn Gy Gz)) Gz) Gz)) Gz) Gz)) (Gm 2 [.reg 0 .v, .reg 1 .v] Gz Gz))))
noncomputable def a2W (h : Hp) (S : Nat → aC → Option Value) (r0 r1 : Value) : Option Value :=
 bU r0 fun i0 =>
 bU r1 fun i1 =>
 bQ (lV i0 i1) fun b2 =>
 some (Value.bool b2)
noncomputable def a2X (h : Hp) (S : Nat → aC → Option Value) (r0 r1 : Value) (r5 r6 : Int) : Option Value :=
 bQ (lV r6 r5) fun b0 =>
 bY b0
 (dM 1 r0 r6 fun v1 =>
 aI h v1 fun v2 =>
 aR .i64 v2 fun i3 =>
 dM 1 r1 r6 fun v4 =>
 aI h v4 fun v5 =>
 aR .i64 v5 fun i6 =>
 bI (lD i3 i6) fun b7 =>
 bY b7
 (dM 1 r0 r6 fun v8 =>
 aI h v8 fun v9 =>
 aR .i64 v9 fun i10 =>
 dM 1 r1 r6 fun v11 =>
 aI h v11 fun v12 =>
 aR .i64 v12 fun i13 =>
 bQ (lV i10 i13) fun b14 =>
 some (Value.bool b14))
 (wrap64 (Int.add r6 (Int.ofNat 1)) fun i15 =>
 S 1 (aC.v r0 (aC.v r1 (aC.i r5 (aC.i i15 aC.n))))))
 (S 2 (aC.v r0 (aC.v r1 aC.n)))
noncomputable def a2Y (h : Hp) (S : Nat → aC → Option Value) (r0 r1 : Value) : Option Value :=
 bU r0 fun i0 =>
 bU r1 fun i1 =>
 aER i0 i1 fun i2 =>
 S 1 (aC.v r0 (aC.v r1 (aC.i i2 (aC.i (Int.ofNat 0) aC.n))))
noncomputable def T42 (h : Hp) (S : Nat → aC → Option Value) : Nat → aC → Option Value := dR 0 (wV fun r0 => wV fun r1 => wN (a2Y h S r0 r1)) (dR 1 (wV fun r0 => wV fun r1 => wI fun r5 => wI fun r6 => wN (a2X h S r0 r1 r5 r6)) (dR 2 (wV fun r0 => wV fun r1 => wN (a2W h S r0 r1)) (kH)))
noncomputable def F42 (args : List Value) (h : Hp) : Option Value := plainO (dS [Kd.v, Kd.v] args fun al => G.aK (T42 h) 1000000 0 al)
def bE3 : Nat := 2 + (40 - 2)
theorem t42 (h : Hp) (S : Nat → aC → Option Value) : gV (fun l al => G.aY iD bZ nT (oQ env aPZ bE3 h) (pM env Try.f42.results.toList) (G.collect B42 A42 []) l S al) (T42 h S) := by
 unfold T42
 exact dV (mO fun _ => mO fun _ => nV (by kernel_rfl)) <| dV (mO fun _ => mO fun _ => jR fun _ => jR fun _ => nV (by kernel_rfl)) <| dV (mO fun _ => mO fun _ => nV (by kernel_rfl)) <| gV.nil
theorem r42 : fT Try.prog 42 F42 := dF (C := C0) ok0 (pf := aPZ) aLV (fn := Try.f42) (body := B42) (kinds := [Kd.v, Kd.v]) (A := A42) (T := T42) (by kernel_rfl) (by kernel_rfl) (by kernel_rfl) (by kernel_rfl) (fun h S => t42 h S)
noncomputable def bE4 : PF := EW 42 F42 aPZ
theorem bE5 : eB Try.prog bE4 := iK r42 aLV
noncomputable def aL2 := oU 42 F42 aR6
noncomputable def C73 : dL := cfg aL2
theorem bE6 : C73.Ok := fK (C := C72) bE2 r42
noncomputable def B8 : Code := (Try.f8.body).getD .skip
def A8 : eO := (Am 0 [(0, .v), (1, .v)] Ao (An Ao (An (An Ao (An Az Ao)) (An Ao (An Ao (Am 3 [(2, .v), (5, .v), (6, .i .i64), (7, .i .i64), (8, .v), (9, .b)] (An Ao (An Az Ao)) (An (An Ao (An Az Ao)) (Am 2 [(2, .v), (5, .v), (6, .i .i64), (8, .v), (9, .b)] Ao (An (An Ao (An Az Ao)) (Am 1 [(2, .v), (5, .v), (6, .i .i64), (8, .v), (9, .b)] Ao Ao))))))))))
noncomputable def bE7 (S : Sg) (r2 r5 : Value) (r6 : Int) (r8 : Value) (r9 : Bool) (h : Hp) : aF :=
 bI r9 fun b0 =>
 bY b0
 (aO (bP (JE [] h) fun v => some (v, h)) fun v1 h1 =>
 dH v1 fun b2 =>
 some ((Value.bool b2), h1))
 (aX 4 h r2 fun v3 =>
 aO (cZ F41 [v3, r8] h) fun v4 h4 =>
 aR .i64 v4 fun i5 =>
 bQ (lV r6 i5) fun b6 =>
 bY b6
 (aO (bP (JE [] h4) fun v => some (v, h4)) fun v7 h7 =>
 dH v7 fun b8 =>
 some ((Value.bool b8), h7))
 (aX 4 h4 r2 fun v9 =>
 aO (cZ F41 [v9, r8] h4) fun v10 h10 =>
 aR .i64 v10 fun i11 =>
 bQ (lD i11 r6) fun b12 =>
 bY b12
 (aO (bP (F42 [r8, r5] h10) fun v => some (v, h10)) fun v13 RZ =>
 dH v13 fun b14 =>
 bI b14 fun b15 =>
 bY b15
 (aO (bP (JE [] RZ) fun v => some (v, RZ)) fun v16 h16 =>
 dH v16 fun b17 =>
 some ((Value.bool b17), h16))
 (some ((Value.bool false), RZ)))
 (some ((Value.bool false), h10))))
noncomputable def bE8 (S : Sg) (r2 r5 : Value) (r6 : Int) (r8 : Value) (r9 : Bool) (h : Hp) : aF :=
 aX 4 h r2 fun v0 =>
 aO (cZ F24 [v0, r5] h) fun v1 h1 =>
 fU v1 0 fun v2 =>
 aR .i64 v2 fun i3 =>
 fU v1 1 fun v4 =>
 aR .i64 v4 fun i5 =>
 bI (lD i5 (Int.ofNat 0)) fun b6 =>
 bY b6
 (some ((Value.bool false), h1))
 (bI (lD i3 r6) fun b7 =>
 bY b7
 (some ((Value.bool false), h1))
 (S 1 (AL.v r2 (AL.v r5 (AL.i r6 (AL.v r8 (AL.b r9 AL.n))))) h1))
noncomputable def bE9 (S : Sg) (r2 r5 : Value) (r6 r7 : Int) (r8 : Value) (r9 : Bool) (h : Hp) : aF :=
 bI (lD r7 (Int.ofNat 0)) fun b0 =>
 bY b0
 (bQ (lD r7 (Int.ofNat 9)) fun b1 =>
 bY b1
 (bU r5 fun i2 =>
 bQ (lD i2 (Int.ofNat 0)) fun b3 =>
 bY b3
 (bQ (lD r6 (Int.ofNat 0)) fun b4 =>
 bY b4
 (bI r9 fun b5 =>
 bY b5
 (aO (bP (JE [] h) fun v => some (v, h)) fun v6 h6 =>
 dH v6 fun b7 =>
 some ((Value.bool b7), h6))
 (some ((Value.bool false), h)))
 (some ((Value.bool false), h)))
 (some ((Value.bool false), h)))
 (some ((Value.bool false), h)))
 (aX 4 h r2 fun v8 =>
 aO (cZ F40 [v8, r5] h) fun v9 h9 =>
 aR .i64 v9 fun i10 =>
 bI (lD i10 (Int.ofNat 0)) fun b11 =>
 bY b11
 (some ((Value.bool false), h9))
 (aX 4 h9 r2 fun v12 =>
 aO (cZ F39 [v12, r5] h9) fun v13 RZ =>
 dH v13 fun b14 =>
 bI b14 fun b15 =>
 bY b15
 (some ((Value.bool false), RZ))
 (aX 4 RZ r2 fun v16 =>
 aO (cZ F41 [v16, r5] RZ) fun v17 h17 =>
 aR .i64 v17 fun i18 =>
 bI (lD i18 r6) fun b19 =>
 bY b19
 (some ((Value.bool false), h17))
 (S 2 (AL.v r2 (AL.v r5 (AL.i r6 (AL.v r8 (AL.b r9 AL.n))))) h17))))
noncomputable def bFA (S : Sg) (r0 r1 : Value) (h : Hp) : aF :=
 bF h 25 (Array.toList (Value.cells r0)) fun a0 h0 =>
 aX 4 h0 a0 fun v1 =>
 aO (cZ F26 [v1] h0) fun v2 h2 =>
 fU v2 0 fun v3 =>
 fU v2 1 fun v4 =>
 aR .i64 v4 fun i5 =>
 fU v2 2 fun v6 =>
 aR .i64 v6 fun i7 =>
 aX 4 h2 a0 fun v8 =>
 aO (cZ F37 [v8] h2) fun v9 h9 =>
 dH v9 fun b10 =>
 bI b10 fun b11 =>
 bY b11
 (bI (lD i7 (Int.ofNat 0)) fun b12 =>
 bY b12
 (bU v3 fun i13 =>
 bQ (lD i13 (Int.ofNat 0)) fun b14 =>
 bY b14
 (bQ (lD i5 (Int.ofNat 0)) fun b15 =>
 bY b15
 (aO (bP (JE [] h9) fun v => some (v, h9)) fun v16 h16 =>
 dH v16 fun b17 =>
 some ((Value.bool b17), h16))
 (some ((Value.bool false), h9)))
 (some ((Value.bool false), h9)))
 (some ((Value.bool false), h9)))
 (aX 4 h9 a0 fun v18 =>
 aO (cZ F38 [v18, r1] h9) fun v19 h19 =>
 bU v19 fun i20 =>
 aP 3 a0 fun v21 =>
 aI h19 v21 fun v22 =>
 bU v22 fun i23 =>
 bQ (lD i20 i23) fun b24 =>
 bY b24
 (aX 4 h19 a0 fun v25 =>
 aO (cZ F39 [v25, v19] h19) fun v26 h26 =>
 dH v26 fun b27 =>
 S 3 (AL.v a0 (AL.v v3 (AL.i i5 (AL.i i7 (AL.v v19 (AL.b b27 AL.n)))))) h26)
 (S 3 (AL.v a0 (AL.v v3 (AL.i i5 (AL.i i7 (AL.v v19 (AL.b false AL.n)))))) h19))
noncomputable def T8 (S : Sg) : Sg := bW 0 (uV fun r0 => uV fun r1 => uN (bFA S r0 r1)) (bW 3 (uV fun r2 => uV fun r5 => uI fun r6 => uI fun r7 => uV fun r8 => uB fun r9 => uN (bE9 S r2 r5 r6 r7 r8 r9)) (bW 2 (uV fun r2 => uV fun r5 => uI fun r6 => uV fun r8 => uB fun r9 => uN (bE8 S r2 r5 r6 r8 r9)) (bW 1 (uV fun r2 => uV fun r5 => uI fun r6 => uV fun r8 => uB fun r9 => uN (bE7 S r2 r5 r6 r8 r9)) (jN))))
noncomputable def F8 (args : List Value) (h : Hp) : aF := bC [Kd.v, Kd.v] args fun al => aK T8 1000000 0 al h
def nt8 : Nat := 2 + (124 - 2)
theorem t8 (S : Sg) : iQ (fun l vs h => aY (jV env aL2 nt8) (jW env Try.f8.results.toList) (collect B8 A8 []) l S vs h) (T8 S) := by
 unfold T8
 exact dJ (dN fun _ => dN fun _ => jC fun _ => by kernel_rfl) <| dJ (dN fun _ => dN fun _ => jL fun _ => jL fun _ => dN fun _ => rwB fun _ => jC fun _ => by kernel_rfl) <| dJ (dN fun _ => dN fun _ => jL fun _ => dN fun _ => rwB fun _ => jC fun _ => by kernel_rfl) <| dJ (dN fun _ => dN fun _ => jL fun _ => dN fun _ => rwB fun _ => jC fun _ => by kernel_rfl) <| Go.bG.iQ.nil
theorem r8 : ∀ args h v h', F8 args h = some (v, h') → eF (C73) (.call 8 args.toArray h) (.ret v h') := by
 intro args h v h' e
 exact bD (C := C73) (fn := Try.f8) (body := B8) (np := 2) (A := A8) (T := T8) (kinds := [Kd.v, Kd.v]) (by kernel_rfl) (by kernel_rfl) (by kernel_rfl) (by kernel_rfl) (dG dK) (by kernel_rfl) (fun S => t8 S) e
noncomputable def aDN := jI 8 F8 aL2
noncomputable def C74 : dL := cfg aDN
theorem aUL : C74.Ok := dB (C := C73) bE6 r8
noncomputable abbrev aUM := aDN
theorem bK4 : (cfg aUM).Ok := aUL
end Go.Proofs.Ytdpicdnpiihaaaa.K.L
