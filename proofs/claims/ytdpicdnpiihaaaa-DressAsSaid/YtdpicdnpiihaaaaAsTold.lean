/- Functions told. -/
import Derived.Test.YtdpicdnpiihaaaaAsTab
import Derived.Test.YtdpicdnpiihaaaaAsEngC
import Derived.Test.YtdpicdnpiihaaaaAsEngD
open Go Go.bG Go.bG.Y
set_option maxRecDepth 100000
set_option linter.unusedVariables false
namespace Go.Proofs.Ytdpicdnpiihaaaa.K
noncomputable def B82 : Code := (Try.f82.body).getD .skip
noncomputable def A82 : G.eO (List KI) := (Gm 0 [.reg 0 (.i .i64), .reg 1 (.i .i64), .reg 2 .v] Gz (Gn (Gn Gz (Gn (Gm 1 [.reg 0 (.i .i64), .reg 1 (.i .i64), .reg 9 .v, .reg 10 (.i .i64), .reg 11 (.i .i64)] (Gn Gz (Gn Gy (Gn (Gn (Gn Gz (Gn Gz (Gn Gy Gz))) Gz) Gz))) Gz) Gz)) (Gm 2 [] Gz Gz)))
noncomputable def aIJ (h : Hp) (S : Nat → aC → Option Value) : Option Value :=
 some (Value.bool true)
noncomputable def X4 (h : Hp) (S : Nat → aC → Option Value) (r0 r1 : Int) (r9 : Value) (nW qC : Int) : Option Value :=
 bQ (lV qC nW) fun b0 =>
 bY b0
 (dM 1 r9 qC fun v1 =>
 aI h v1 fun v2 =>
 aR .i64 v2 fun i3 =>
 bQ (lV i3 r0) fun b4 =>
 bY b4
 (some (Value.bool false))
 (bQ (lV r1 i3) fun b5 =>
 bY b5
 (some (Value.bool false))
 (wrap64 (Int.add qC (Int.ofNat 1)) fun i6 =>
 S 1 (aC.i r0 (aC.i r1 (aC.v r9 (aC.i nW (aC.i i6 aC.n))))))))
 (S 2 aC.n)
noncomputable def aIK (h : Hp) (S : Nat → aC → Option Value) (r0 r1 : Int) (r2 : Value) : Option Value :=
 bU r2 fun i0 =>
 S 1 (aC.i r0 (aC.i r1 (aC.v r2 (aC.i i0 (aC.i (Int.ofNat 0) aC.n)))))
noncomputable def T82 (h : Hp) (S : Nat → aC → Option Value) : Nat → aC → Option Value := dR 0 (wI fun r0 => wI fun r1 => wV fun r2 => wN (aIK h S r0 r1 r2)) (dR 1 (wI fun r0 => wI fun r1 => wV fun r9 => wI fun nW => wI fun qC => wN (X4 h S r0 r1 r9 nW qC)) (dR 2 (wN (aIJ h S)) (kH)))
noncomputable def F82 (args : List Value) (h : Hp) : Option Value := plainO (dS [Kd.i .i64, Kd.i .i64, Kd.v] args fun al => G.aK (T82 h) 1000000 0 al)
def bA5 : Nat := 3 + (24 - 3)
theorem t82 (h : Hp) (S : Nat → aC → Option Value) : gV (fun l al => G.aY iD bZ nT (oQ env pf0 bA5 h) (pM env Try.f82.results.toList) (G.collect B82 A82 []) l S al) (T82 h S) := by
 unfold T82
 exact dV (jR fun _ => jR fun _ => mO fun _ => nV (by kernel_rfl)) <| dV (jR fun _ => jR fun _ => mO fun _ => jR fun _ => jR fun _ => nV (by kernel_rfl)) <| dV (nV (by kernel_rfl)) <| gV.nil
theorem r82 : fT Try.prog 82 F82 := dF (C := C0) ok0 (pf := pf0) aQ0 (fn := Try.f82) (body := B82) (kinds := [Kd.i .i64, Kd.i .i64, Kd.v]) (A := A82) (T := T82) (by kernel_rfl) (by kernel_rfl) (by kernel_rfl) (by kernel_rfl) (fun h S => t82 h S)
noncomputable def pf1 : PF := EW 82 F82 pf0
theorem aQ1 : eB Try.prog pf1 := iK r82 aQ0
noncomputable def aTO := oU 82 F82 aXR
noncomputable def C1 : dL := cfg aTO
theorem ok1 : C1.Ok := fK (C := C0) ok0 r82
noncomputable def B81 : Code := (Try.f81.body).getD .skip
def A81 : eO := (Am 0 [(0, .v), (1, .i .i64), (2, .v)] Ao (An (An Ao (An Az Ao)) Az))
noncomputable def aIL (S : Sg) (r0 : Value) (r1 : Int) (r2 : Value) (h : Hp) : aF :=
 aI h r2 fun v0 =>
 aR .i64 v0 fun i1 =>
 aO (bB env h 22 1 (List.toArray [(0, (Value.int .i64 r1))])) fun v2 h2 =>
 aO (bP (F82 [(Value.int .i64 (Int.ofNat 0)), (Value.int .i64 i1), v2] h2) fun v => some (v, h2)) fun v3 h3 =>
 dH v3 fun b4 =>
 bI b4 fun b5 =>
 bY b5
 (some ((Value.int .i64 (Int.ofNat 7)), h3))
 (some ((Value.int .i64 (Int.ofNat 0)), h3))
noncomputable def T81 (S : Sg) : Sg := bW 0 (uV fun r0 => uI fun r1 => uV fun r2 => uN (aIL S r0 r1 r2)) (jN)
noncomputable def F81 (args : List Value) (h : Hp) : aF := bC [Kd.v, Kd.i .i64, Kd.v] args fun al => aK T81 1000000 0 al h
def bA6 : Nat := 3 + (11 - 3)
theorem t81 (S : Sg) : iQ (fun l vs h => aY (jV env aTO bA6) (jW env Try.f81.results.toList) (collect B81 A81 []) l S vs h) (T81 S) := by
 unfold T81
 exact dJ (dN fun _ => jL fun _ => dN fun _ => jC fun _ => by kernel_rfl) <| Go.bG.iQ.nil
theorem r81 : ∀ args h v h', F81 args h = some (v, h') → eF (C1) (.call 81 args.toArray h) (.ret v h') := by
 intro args h v h' e
 exact bD (C := C1) (fn := Try.f81) (body := B81) (np := 3) (A := A81) (T := T81) (kinds := [Kd.v, Kd.i .i64, Kd.v]) (by kernel_rfl) (by kernel_rfl) (by kernel_rfl) (by kernel_rfl) (dG dK) (by kernel_rfl) (fun S => t81 S) e
noncomputable def aA5 := jI 81 F81 aTO
noncomputable def C2 : dL := cfg aA5
theorem ok2 : C2.Ok := dB (C := C1) ok1 r81
noncomputable def aXT : Code := (Try.f104.body).getD .skip
def aXU : eO := (Am 0 [(0, .v), (1, .v)] Ao (An (An Ao (An (Am 1 [(0, .v), (1, .v), (9, .v), (10, .i .i64), (11, .i .i64)] (An Ao (An Az (An (An (An Ao (An Ao (An Ao (An Az Ao)))) Ao) Ao))) Ao) Ao)) (Am 2 [] Ao Ao)))
noncomputable def aTP (S : Sg) (h : Hp) : aF :=
 some (Value.tuple (List.toArray [(Value.int .i64 (Int.ofNat 0)), (Value.int .i64 (Int.ofNat 0))]), h)
noncomputable def OB (S : Sg) (r0 r1 r9 : Value) (nW qC : Int) (h : Hp) : aF :=
 bQ (lV qC nW) fun b0 =>
 bY b0
 (dM 1 r9 qC fun v1 =>
 aI h v1 fun v2 =>
 aR .i64 v2 fun i3 =>
 bP (gY env h 22 r0 none (some (Value.int .i64 qC)) none) fun v4 =>
 aO (qG aA5 r1 [v4, (Value.int .i64 i3)] h) fun v5 h5 =>
 aR .i64 v5 fun i6 =>
 bI (lD i6 (Int.ofNat 0)) fun b7 =>
 bY b7
 (some (Value.tuple (List.toArray [(Value.int .i64 qC), (Value.int .i64 i6)]), h5))
 (wrap64 (Int.add qC (Int.ofNat 1)) fun i8 =>
 S 1 (AL.v r0 (AL.v r1 (AL.v r9 (AL.i nW (AL.i i8 AL.n))))) h5))
 (S 2 AL.n h)
noncomputable def aA6 (S : Sg) (r0 r1 : Value) (h : Hp) : aF :=
 bU r0 fun i0 =>
 S 1 (AL.v r0 (AL.v r1 (AL.v r0 (AL.i i0 (AL.i (Int.ofNat 0) AL.n))))) h
noncomputable def X5 (S : Sg) : Sg := bW 0 (uV fun r0 => uV fun r1 => uN (aA6 S r0 r1)) (bW 1 (uV fun r0 => uV fun r1 => uV fun r9 => uI fun nW => uI fun qC => uN (OB S r0 r1 r9 nW qC)) (bW 2 (uN fun h => aTP S  h) (jN)))
noncomputable def aO7 (args : List Value) (h : Hp) : aF := bC [Kd.v, Kd.v] args fun al => aK X5 1000000 0 al h
def aXV : Nat := 2 + (27 - 2)
theorem t104 (S : Sg) : iQ (fun l vs h => aY (jV env aA5 aXV) (jW env Try.f104.results.toList) (collect aXT aXU []) l S vs h) (X5 S) := by
 unfold X5
 exact dJ (dN fun _ => dN fun _ => jC fun _ => by kernel_rfl) <| dJ (dN fun _ => dN fun _ => dN fun _ => jL fun _ => jL fun _ => jC fun _ => by kernel_rfl) <| dJ (jC fun _ => by kernel_rfl) <| Go.bG.iQ.nil
theorem bA7 : ∀ args h v h', aO7 args h = some (v, h') → eF (C2) (.call 104 args.toArray h) (.ret v h') := by
 intro args h v h' e
 exact bD (C := C2) (fn := Try.f104) (body := aXT) (np := 2) (A := aXU) (T := X5) (kinds := [Kd.v, Kd.v]) (by kernel_rfl) (by kernel_rfl) (by kernel_rfl) (by kernel_rfl) (dG dK) (by kernel_rfl) (fun S => t104 S) e
noncomputable def aTQ := jI 104 aO7 aA5
noncomputable def C3 : dL := cfg aTQ
theorem ok3 : C3.Ok := dB (C := C2) ok2 bA7
noncomputable def B80 : Code := (Try.f80.body).getD .skip
def A80 : eO := (Am 0 [(0, .v), (1, .i .i64), (2, .v)] Ao (An (An Ao (An Az Ao)) Az))
noncomputable def aIM (S : Sg) (r0 : Value) (r1 : Int) (r2 : Value) (h : Hp) : aF :=
 bU r0 fun i0 =>
 bQ (lV r1 i0) fun b1 =>
 bY b1
 (some (Value.tuple (List.toArray [(Value.int .i64 (Int.ofNat 0)), (Value.int .i64 (Int.ofNat 3))]), h))
 (aO (cZ aO7 [r0, r2] h) fun v2 h2 =>
 fU v2 0 fun v3 =>
 aR .i64 v3 fun i4 =>
 fU v2 1 fun v5 =>
 aR .i64 v5 fun i6 =>
 some (Value.tuple (List.toArray [(Value.int .i64 i4), (Value.int .i64 i6)]), h2))
noncomputable def T80 (S : Sg) : Sg := bW 0 (uV fun r0 => uI fun r1 => uV fun r2 => uN (aIM S r0 r1 r2)) (jN)
noncomputable def F80 (args : List Value) (h : Hp) : aF := bC [Kd.v, Kd.i .i64, Kd.v] args fun al => aK T80 1000000 0 al h
def bA8 : Nat := 3 + (17 - 3)
theorem t80 (S : Sg) : iQ (fun l vs h => aY (jV env aTQ bA8) (jW env Try.f80.results.toList) (collect B80 A80 []) l S vs h) (T80 S) := by
 unfold T80
 exact dJ (dN fun _ => jL fun _ => dN fun _ => jC fun _ => by kernel_rfl) <| Go.bG.iQ.nil
theorem r80 : ∀ args h v h', F80 args h = some (v, h') → eF (C3) (.call 80 args.toArray h) (.ret v h') := by
 intro args h v h' e
 exact bD (C := C3) (fn := Try.f80) (body := B80) (np := 3) (A := A80) (T := T80) (kinds := [Kd.v, Kd.i .i64, Kd.v]) (by kernel_rfl) (by kernel_rfl) (by kernel_rfl) (by kernel_rfl) (dG dK) (by kernel_rfl) (fun S => t80 S) e
noncomputable def aTR := jI 80 F80 aTQ
noncomputable def C4 : dL := cfg aTR
theorem ok4 : C4.Ok := dB (C := C3) ok3 r80
noncomputable def B48 : Code := (Try.f48.body).getD .skip
def A48 : eO := (Am 0 [(0, .v), (1, .i .i64), (2, .i .i64)] Ao (An (An Ao (An Az Ao)) Az))
noncomputable def aIN (S : Sg) (r0 : Value) (r1 r2 : Int) (h : Hp) : aF :=
 bF h 3 [(Value.int .i64 r2)] fun a0 h0 =>
 bU r0 fun i1 =>
 bQ (lD i1 (Int.ofNat 0)) fun b2 =>
 bY b2
 (some (Value.tuple (List.toArray [(Value.int .i64 (Int.ofNat 0)), (Value.int .i64 (Int.ofNat 3))]), h0))
 (aO (cZ F80 [r0, (Value.int .i64 r1), (Value.func (.func 81) (List.toArray []) (List.toArray [a0]))] h0) fun v3 h3 =>
 fU v3 0 fun v4 =>
 aR .i64 v4 fun i5 =>
 fU v3 1 fun v6 =>
 aR .i64 v6 fun i7 =>
 some (Value.tuple (List.toArray [(Value.int .i64 i5), (Value.int .i64 i7)]), h3))
noncomputable def T48 (S : Sg) : Sg := bW 0 (uV fun r0 => uI fun r1 => uI fun r2 => uN (aIN S r0 r1 r2)) (jN)
noncomputable def F48 (args : List Value) (h : Hp) : aF := bC [Kd.v, Kd.i .i64, Kd.i .i64] args fun al => aK T48 1000000 0 al h
def bA9 : Nat := 3 + (17 - 3)
theorem t48 (S : Sg) : iQ (fun l vs h => aY (jV env aTR bA9) (jW env Try.f48.results.toList) (collect B48 A48 []) l S vs h) (T48 S) := by
 unfold T48
 exact dJ (dN fun _ => jL fun _ => jL fun _ => jC fun _ => by kernel_rfl) <| Go.bG.iQ.nil
theorem r48 : ∀ args h v h', F48 args h = some (v, h') → eF (C4) (.call 48 args.toArray h) (.ret v h') := by
 intro args h v h' e
 exact bD (C := C4) (fn := Try.f48) (body := B48) (np := 3) (A := A48) (T := T48) (kinds := [Kd.v, Kd.i .i64, Kd.i .i64]) (by kernel_rfl) (by kernel_rfl) (by kernel_rfl) (by kernel_rfl) (dG dK) (by kernel_rfl) (fun S => t48 S) e
noncomputable def aXZ := jI 48 F48 aTR
noncomputable def C5 : dL := cfg aXZ
theorem ok5 : C5.Ok := dB (C := C4) ok4 r48
noncomputable def B87 : Code := (Try.f87.body).getD .skip
noncomputable def A87 : G.eO (List KI) := (Gm 0 [.reg 0 .v, .reg 1 .v] Gz Gy)
noncomputable def aIO (h : Hp) (S : Nat → aC → Option Value) (r0 r1 : Value) : Option Value :=
 oL (Array.toList (Value.cells r0)) fun c0 =>
 z8 c0 0 fun v1 =>
 aP 0 r1 fun v2 =>
 aI h v2 fun v3 =>
 bP (pR env .eql 9 (Operand.tmp 5) (Operand.tmp 7) v1 v3) fun v4 =>
 dH v4 fun b5 =>
 some (Value.bool b5)
noncomputable def T87 (h : Hp) (S : Nat → aC → Option Value) : Nat → aC → Option Value := dR 0 (wV fun r0 => wV fun r1 => wN (aIO h S r0 r1)) (kH)
noncomputable def F87 (args : List Value) (h : Hp) : Option Value := plainO (dS [Kd.v, Kd.v] args fun al => G.aK (T87 h) 1000000 0 al)
def bBA : Nat := 2 + (9 - 2)
theorem t87 (h : Hp) (S : Nat → aC → Option Value) : gV (fun l al => G.aY iD bZ nT (oQ env pf1 bBA h) (pM env Try.f87.results.toList) (G.collect B87 A87 []) l S al) (T87 h S) := by
 unfold T87
 exact dV (mO fun _ => mO fun _ => nV (by kernel_rfl)) <| gV.nil
theorem r87 : fT Try.prog 87 F87 := dF (C := C0) ok0 (pf := pf1) aQ1 (fn := Try.f87) (body := B87) (kinds := [Kd.v, Kd.v]) (A := A87) (T := T87) (by kernel_rfl) (by kernel_rfl) (by kernel_rfl) (by kernel_rfl) (fun h S => t87 h S)
noncomputable def pf2 : PF := EW 87 F87 pf1
theorem aQ2 : eB Try.prog pf2 := iK r87 aQ1
noncomputable def aX2 := oU 87 F87 aXZ
noncomputable def C6 : dL := cfg aX2
theorem ok6 : C6.Ok := fK (C := C5) ok5 r87
noncomputable def aX3 : Code := (Try.f106.body).getD .skip
noncomputable def aX4 : G.eO (List KI) := (Gm 0 [.reg 0 (.i .u8)] Gz Gy)
noncomputable def aA7 (h : Hp) (S : Nat → aC → Option Value) (r0 : Int) : Option Value :=
 bI (lV r0 (Int.ofNat 97)) fun b0 =>
 bY b0
 (bI (lV (Int.ofNat 122) r0) fun b1 =>
 some (Value.bool b1))
 (some (Value.bool false))
noncomputable def aIP (h : Hp) (S : Nat → aC → Option Value) : Nat → aC → Option Value := dR 0 (wI fun r0 => wN (aA7 h S r0)) (kH)
noncomputable def aFH (args : List Value) (h : Hp) : Option Value := plainO (dS [Kd.i .u8] args fun al => G.aK (aIP h) 1000000 0 al)
def aX5 : Nat := 1 + (9 - 1)
theorem t106 (h : Hp) (S : Nat → aC → Option Value) : gV (fun l al => G.aY iD bZ nT (oQ env pf2 aX5 h) (pM env Try.f106.results.toList) (G.collect aX3 aX4 []) l S al) (aIP h S) := by
 unfold aIP
 exact dV (jR fun _ => nV (by kernel_rfl)) <| gV.nil
theorem aX6 : fT Try.prog 106 aFH := dF (C := C0) ok0 (pf := pf2) aQ2 (fn := Try.f106) (body := aX3) (kinds := [Kd.i .u8]) (A := aX4) (T := aIP) (by kernel_rfl) (by kernel_rfl) (by kernel_rfl) (by kernel_rfl) (fun h S => t106 h S)
noncomputable def pf3 : PF := EW 106 aFH pf2
theorem aQ3 : eB Try.prog pf3 := iK aX6 aQ2
noncomputable def aX7 := oU 106 aFH aX2
noncomputable def C7 : dL := cfg aX7
theorem ok7 : C7.Ok := fK (C := C6) ok6 aX6
noncomputable def aX8 : Code := (Try.f107.body).getD .skip
noncomputable def aX9 : G.eO (List KI) := (Gm 0 [.reg 0 (.i .u8)] Gz Gy)
noncomputable def aA8 (h : Hp) (S : Nat → aC → Option Value) (r0 : Int) : Option Value :=
 bI (lV r0 (Int.ofNat 48)) fun b0 =>
 bY b0
 (bI (lV (Int.ofNat 57) r0) fun b1 =>
 some (Value.bool b1))
 (some (Value.bool false))
noncomputable def aIQ (h : Hp) (S : Nat → aC → Option Value) : Nat → aC → Option Value := dR 0 (wI fun r0 => wN (aA8 h S r0)) (kH)
noncomputable def aIR (args : List Value) (h : Hp) : Option Value := plainO (dS [Kd.i .u8] args fun al => G.aK (aIQ h) 1000000 0 al)
def aYA : Nat := 1 + (9 - 1)
theorem t107 (h : Hp) (S : Nat → aC → Option Value) : gV (fun l al => G.aY iD bZ nT (oQ env pf3 aYA h) (pM env Try.f107.results.toList) (G.collect aX8 aX9 []) l S al) (aIQ h S) := by
 unfold aIQ
 exact dV (jR fun _ => nV (by kernel_rfl)) <| gV.nil
theorem aYB : fT Try.prog 107 aIR := dF (C := C0) ok0 (pf := pf3) aQ3 (fn := Try.f107) (body := aX8) (kinds := [Kd.i .u8]) (A := aX9) (T := aIQ) (by kernel_rfl) (by kernel_rfl) (by kernel_rfl) (by kernel_rfl) (fun h S => t107 h S)
noncomputable def pf4 : PF := EW 107 aIR pf3
theorem aQ4 : eB Try.prog pf4 := iK aYB aQ3
noncomputable def aTS := oU 107 aIR aX7
noncomputable def C8 : dL := cfg aTS
theorem ok8 : C8.Ok := fK (C := C7) ok7 aYB
noncomputable def B85 : Code := (Try.f85.body).getD .skip
def A85 : eO := (Am 0 [(0, .v)] Ao (An (An Ao (An Az Ao)) (An (An Ao (An (Am 1 [(0, .v), (16, .i .i64), (17, .i .i64)] (An Ao (An Az (An (An (An Ao (An Ao (An Az Ao))) Ao) Ao))) Ao) Ao)) (Am 2 [] Ao Ao))))
noncomputable def aIS (S : Sg) (h : Hp) : aF :=
 some ((Value.bool true), h)
noncomputable def X6 (S : Sg) (r0 : Value) (r16 zF : Int) (h : Hp) : aF :=
 bQ (lV zF r16) fun b0 =>
 bY b0
 (bP (jP env 9 r0 (Value.int .i64 zF)) fun v1 =>
 aR .u8 v1 fun i2 =>
 aO (bP (aFH [(Value.int .u8 i2)] h) fun v => some (v, h)) fun v3 h3 =>
 dH v3 fun b4 =>
 bI b4 fun b5 =>
 bY b5
 (bP (jP env 9 r0 (Value.int .i64 zF)) fun v6 =>
 aR .u8 v6 fun i7 =>
 aO (bP (aIR [(Value.int .u8 i7)] h3) fun v => some (v, h3)) fun v8 h8 =>
 dH v8 fun b9 =>
 bI b9 fun b10 =>
 bY b10
 (bP (jP env 9 r0 (Value.int .i64 zF)) fun v11 =>
 aR .u8 v11 fun i12 =>
 bI (lD i12 (Int.ofNat 46)) fun b13 =>
 bY b13
 (some ((Value.bool false), h8))
 (wrap64 (Int.add zF (Int.ofNat 1)) fun i14 =>
 S 1 (AL.v r0 (AL.i r16 (AL.i i14 AL.n))) h8))
 (wrap64 (Int.add zF (Int.ofNat 1)) fun i15 =>
 S 1 (AL.v r0 (AL.i r16 (AL.i i15 AL.n))) h8))
 (wrap64 (Int.add zF (Int.ofNat 1)) fun i16 =>
 S 1 (AL.v r0 (AL.i r16 (AL.i i16 AL.n))) h3))
 (S 2 AL.n h)
noncomputable def aIT (S : Sg) (r0 : Value) (h : Hp) : aF :=
 JY r0 fun i0 =>
 aO (bB env h 22 1 (List.toArray [(0, (Value.int .i64 i0))])) fun v1 h1 =>
 aO (bP (F82 [(Value.int .i64 (Int.ofNat 1)), (Value.int .i64 (Int.ofNat 16)), v1] h1) fun v => some (v, h1)) fun v2 h2 =>
 dH v2 fun b3 =>
 bI b3 fun b4 =>
 bY b4
 (some ((Value.bool false), h2))
 (bP (jP env 9 r0 (Value.int .i64 (Int.ofNat 0))) fun v5 =>
 aR .u8 v5 fun i6 =>
 aO (bP (aFH [(Value.int .u8 i6)] h2) fun v => some (v, h2)) fun v7 h7 =>
 dH v7 fun b8 =>
 bI b8 fun b9 =>
 bY b9
 (some ((Value.bool false), h7))
 (JY r0 fun i10 =>
 S 1 (AL.v r0 (AL.i i10 (AL.i (Int.ofNat 0) AL.n))) h7))
noncomputable def T85 (S : Sg) : Sg := bW 0 (uV fun r0 => uN (aIT S r0)) (bW 1 (uV fun r0 => uI fun r16 => uI fun zF => uN (X6 S r0 r16 zF)) (bW 2 (uN fun h => aIS S  h) (jN)))
noncomputable def F85 (args : List Value) (h : Hp) : aF := bC [Kd.v] args fun al => aK T85 1000000 0 al h
def bBB : Nat := 1 + (39 - 1)
theorem t85 (S : Sg) : iQ (fun l vs h => aY (jV env aTS bBB) (jW env Try.f85.results.toList) (collect B85 A85 []) l S vs h) (T85 S) := by
 unfold T85
 exact dJ (dN fun _ => jC fun _ => by kernel_rfl) <| dJ (dN fun _ => jL fun _ => jL fun _ => jC fun _ => by kernel_rfl) <| dJ (jC fun _ => by kernel_rfl) <| Go.bG.iQ.nil
theorem r85 : ∀ args h v h', F85 args h = some (v, h') → eF (C8) (.call 85 args.toArray h) (.ret v h') := by
 intro args h v h' e
 exact bD (C := C8) (fn := Try.f85) (body := B85) (np := 1) (A := A85) (T := T85) (kinds := [Kd.v]) (by kernel_rfl) (by kernel_rfl) (by kernel_rfl) (by kernel_rfl) (dG dK) (by kernel_rfl) (fun S => t85 S) e
noncomputable def aIU := jI 85 F85 aTS
noncomputable def C9 : dL := cfg aIU
theorem ok9 : C9.Ok := dB (C := C8) ok8 r85
noncomputable def aYD : Code := (Try.f108.body).getD .skip
def aYE : eO := (Am 0 [(0, .v), (1, .v)] Ao (An (An Ao (An (Am 1 [(0, .v), (1, .v), (7, .i .i64), (8, .i .i64)] (An Ao (An Az (An (An (An Ao (An Ao (An Az Ao))) Ao) Ao))) Ao) Ao)) (Am 2 [] Ao Ao)))
noncomputable def aTT (S : Sg) (h : Hp) : aF :=
 some ((Value.int .i64 (Int.negSucc 0)), h)
noncomputable def OC (S : Sg) (r0 r1 : Value) (r7 r8 : Int) (h : Hp) : aF :=
 bQ (lV r8 r7) fun b0 =>
 bY b0
 (dM 3 r0 r8 fun v1 =>
 aX 3 h v1 fun v2 =>
 aO (qG aIU r1 [v2] h) fun v3 h3 =>
 dH v3 fun b4 =>
 bY b4
 (some ((Value.int .i64 r8), h3))
 (wrap64 (Int.add r8 (Int.ofNat 1)) fun i5 =>
 S 1 (AL.v r0 (AL.v r1 (AL.i r7 (AL.i i5 AL.n)))) h3))
 (S 2 AL.n h)
noncomputable def aA9 (S : Sg) (r0 r1 : Value) (h : Hp) : aF :=
 bU r0 fun i0 =>
 S 1 (AL.v r0 (AL.v r1 (AL.i i0 (AL.i (Int.ofNat 0) AL.n)))) h
noncomputable def X7 (S : Sg) : Sg := bW 0 (uV fun r0 => uV fun r1 => uN (aA9 S r0 r1)) (bW 1 (uV fun r0 => uV fun r1 => uI fun r7 => uI fun r8 => uN (OC S r0 r1 r7 r8)) (bW 2 (uN fun h => aTT S  h) (jN)))
noncomputable def aO9 (args : List Value) (h : Hp) : aF := bC [Kd.v, Kd.v] args fun al => aK X7 1000000 0 al h
def aYF : Nat := 2 + (19 - 2)
theorem t108 (S : Sg) : iQ (fun l vs h => aY (jV env aIU aYF) (jW env Try.f108.results.toList) (collect aYD aYE []) l S vs h) (X7 S) := by
 unfold X7
 exact dJ (dN fun _ => dN fun _ => jC fun _ => by kernel_rfl) <| dJ (dN fun _ => dN fun _ => jL fun _ => jL fun _ => jC fun _ => by kernel_rfl) <| dJ (jC fun _ => by kernel_rfl) <| Go.bG.iQ.nil
theorem bBC : ∀ args h v h', aO9 args h = some (v, h') → eF (C9) (.call 108 args.toArray h) (.ret v h') := by
 intro args h v h' e
 exact bD (C := C9) (fn := Try.f108) (body := aYD) (np := 2) (A := aYE) (T := X7) (kinds := [Kd.v, Kd.v]) (by kernel_rfl) (by kernel_rfl) (by kernel_rfl) (by kernel_rfl) (dG dK) (by kernel_rfl) (fun S => t108 S) e
noncomputable def aIV := jI 108 aO9 aIU
noncomputable def C10 : dL := cfg aIV
theorem bBD : C10.Ok := dB (C := C9) ok9 bBC
noncomputable def B86 : Code := (Try.f86.body).getD .skip
def A86 : eO := (Am 0 [(0, .v), (1, .v)] Ao Az)
noncomputable def aIW (S : Sg) (r0 r1 : Value) (h : Hp) : aF :=
 aO (cZ aO9 [r0, r1] h) fun v0 h0 =>
 aR .i64 v0 fun i1 =>
 bI (lV i1 (Int.ofNat 0)) fun b2 =>
 some ((Value.bool b2), h0)
noncomputable def T86 (S : Sg) : Sg := bW 0 (uV fun r0 => uV fun r1 => uN (aIW S r0 r1)) (jN)
noncomputable def F86 (args : List Value) (h : Hp) : aF := bC [Kd.v, Kd.v] args fun al => aK T86 1000000 0 al h
def bBE : Nat := 2 + (9 - 2)
theorem t86 (S : Sg) : iQ (fun l vs h => aY (jV env aIV bBE) (jW env Try.f86.results.toList) (collect B86 A86 []) l S vs h) (T86 S) := by
 unfold T86
 exact dJ (dN fun _ => dN fun _ => jC fun _ => by kernel_rfl) <| Go.bG.iQ.nil
theorem r86 : ∀ args h v h', F86 args h = some (v, h') → eF (C10) (.call 86 args.toArray h) (.ret v h') := by
 intro args h v h' e
 exact bD (C := C10) (fn := Try.f86) (body := B86) (np := 2) (A := A86) (T := T86) (kinds := [Kd.v, Kd.v]) (by kernel_rfl) (by kernel_rfl) (by kernel_rfl) (by kernel_rfl) (dG dK) (by kernel_rfl) (fun S => t86 S) e
noncomputable def aIX := jI 86 F86 aIV
noncomputable def C11 : dL := cfg aIX
theorem bBF : C11.Ok := dB (C := C10) bBD r86
noncomputable def B84 : Code := (Try.f84.body).getD .skip
def A84 : eO := (Am 0 [(0, .v), (1, .v), (2, .v), (3, .v)] Ao (An (An (An Ao (An Az (An Ao (An Az (An Ao (An Az (An Ao (An Az (An (An Ao Az) (An Az Ao)))))))))) Ao) Az))
noncomputable def aIY (S : Sg) (r0 r1 : Value) (r2 r3 : Value) (h : Hp) : aF :=
 bF h 59 (Array.toList (Value.cells r1)) fun a0 h0 =>
 aP 0 a0 fun v1 =>
 aI h0 v1 fun v2 =>
 aO (cZ F85 [v2] h0) fun v3 h3 =>
 dH v3 fun b4 =>
 bI b4 fun b5 =>
 bY b5
 (some ((Value.int .i64 (Int.ofNat 6)), h3))
 (aO (cZ F86 [r0, (Value.func (.func 87) (List.toArray []) (List.toArray [a0]))] h3) fun v6 h6 =>
 dH v6 fun b7 =>
 bY b7
 (some ((Value.int .i64 (Int.ofNat 5)), h6))
 (aP 1 a0 fun v8 =>
 aI h6 v8 fun v9 =>
 bU v9 fun i10 =>
 aP 0 r2 fun v11 =>
 aI h6 v11 fun v12 =>
 bU v12 fun i13 =>
 bI (lD i10 i13) fun b14 =>
 bY b14
 (some ((Value.int .i64 (Int.ofNat 3)), h6))
 (aI h6 r3 fun v15 =>
 aR .i64 v15 fun i16 =>
 aP 1 r2 fun v17 =>
 aI h6 v17 fun v18 =>
 bU v18 fun i19 =>
 wrap64 (Int.sub i19 (Int.ofNat 1)) fun i20 =>
 aP 1 a0 fun v21 =>
 aI h6 v21 fun v22 =>
 dM 1 v22 (Int.ofNat 0) fun v23 =>
 aI h6 v23 fun v24 =>
 aR .i64 v24 fun i25 =>
 aO (bB env h6 22 1 (List.toArray [(0, (Value.int .i64 i25))])) fun v26 h26 =>
 aO (bP (F82 [(Value.int .i64 i16), (Value.int .i64 i20), v26] h26) fun v => some (v, h26)) fun v27 h27 =>
 dH v27 fun b28 =>
 bI b28 fun b29 =>
 bY b29
 (some ((Value.int .i64 (Int.ofNat 4)), h27))
 (aI h27 r3 fun v30 =>
 aR .i64 v30 fun i31 =>
 aP 1 a0 fun v32 =>
 aI h27 v32 fun v33 =>
 bP (gY env h27 22 v33 (some (Value.int .i64 (Int.ofNat 1))) none none) fun v34 =>
 aO (bP (F82 [(Value.int .i64 i31), (Value.int .i64 (Int.ofNat 5)), v34] h27) fun v => some (v, h27)) fun v35 h35 =>
 dH v35 fun b36 =>
 bI b36 fun b37 =>
 bY b37
 (bY b37
 (some ((Value.int .i64 (Int.ofNat 7)), h35))
 (some ((Value.int .i64 (Int.ofNat 0)), h35)))
 (aP 2 a0 fun v38 =>
 aI h35 v38 fun v39 =>
 aR .i64 v39 fun i40 =>
 aO (bB env h35 22 1 (List.toArray [(0, (Value.int .i64 i40))])) fun v41 h41 =>
 aO (bP (F82 [(Value.int .i64 (Int.ofNat 0)), (Value.int .i64 (Int.ofNat 50)), v41] h41) fun v => some (v, h41)) fun v42 h42 =>
 dH v42 fun b43 =>
 bI b43 fun b44 =>
 bY b44
 (some ((Value.int .i64 (Int.ofNat 7)), h42))
 (some ((Value.int .i64 (Int.ofNat 0)), h42)))))))
noncomputable def T84 (S : Sg) : Sg := bW 0 (uV fun r0 => uV fun r1 => uV fun r2 => uV fun r3 => uN (aIY S r0 r1 r2 r3)) (jN)
noncomputable def F84 (args : List Value) (h : Hp) : aF := bC [Kd.v, Kd.v, Kd.v, Kd.v] args fun al => aK T84 1000000 0 al h
def bBH : Nat := 4 + (49 - 4)
theorem t84 (S : Sg) : iQ (fun l vs h => aY (jV env aIX bBH) (jW env Try.f84.results.toList) (collect B84 A84 []) l S vs h) (T84 S) := by
 unfold T84
 exact dJ (dN fun _ => dN fun _ => dN fun _ => dN fun _ => jC fun _ => by kernel_rfl) <| Go.bG.iQ.nil
theorem r84 : ∀ args h v h', F84 args h = some (v, h') → eF (C11) (.call 84 args.toArray h) (.ret v h') := by
 intro args h v h' e
 exact bD (C := C11) (fn := Try.f84) (body := B84) (np := 4) (A := A84) (T := T84) (kinds := [Kd.v, Kd.v, Kd.v, Kd.v]) (by kernel_rfl) (by kernel_rfl) (by kernel_rfl) (by kernel_rfl) (dG dK) (by kernel_rfl) (fun S => t84 S) e
noncomputable def OD := jI 84 F84 aIX
noncomputable def C12 : dL := cfg OD
theorem bBI : C12.Ok := dB (C := C11) bBF r84
noncomputable def aYJ : Code := (Try.f105.body).getD .skip
def aYK : eO := (Am 0 [(0, .v), (1, .v)] Ao (An (An Ao (An (Am 1 [(0, .v), (1, .v), (9, .v), (10, .i .i64), (11, .i .i64)] (An Ao (An Az (An (An (An Ao (An Ao (An Ao (An Az Ao)))) Ao) Ao))) Ao) Ao)) (Am 2 [] Ao Ao)))
noncomputable def aTV (S : Sg) (h : Hp) : aF :=
 some (Value.tuple (List.toArray [(Value.int .i64 (Int.ofNat 0)), (Value.int .i64 (Int.ofNat 0))]), h)
noncomputable def OE (S : Sg) (r0 r1 r9 : Value) (nW qC : Int) (h : Hp) : aF :=
 bQ (lV qC nW) fun b0 =>
 bY b0
 (dM 3 r9 qC fun v1 =>
 aX 3 h v1 fun v2 =>
 bF h 59 [(Value.string (ByteArray.mk #[])), (Value.slice none 0 0), (Value.int .i64 (Int.ofNat 0))] fun a3 h3 =>
 dZ 3 h3 a3 v2 fun h4 =>
 bP (gY env h4 23 r0 none (some (Value.int .i64 qC)) none) fun v5 =>
 aX 3 h4 a3 fun v6 =>
 aO (qG OD r1 [v5, v6] h4) fun v7 h7 =>
 aR .i64 v7 fun i8 =>
 bI (lD i8 (Int.ofNat 0)) fun b9 =>
 bY b9
 (some (Value.tuple (List.toArray [(Value.int .i64 qC), (Value.int .i64 i8)]), h7))
 (wrap64 (Int.add qC (Int.ofNat 1)) fun i10 =>
 S 1 (AL.v r0 (AL.v r1 (AL.v r9 (AL.i nW (AL.i i10 AL.n))))) h7))
 (S 2 AL.n h)
noncomputable def aBA (S : Sg) (r0 r1 : Value) (h : Hp) : aF :=
 bU r0 fun i0 =>
 S 1 (AL.v r0 (AL.v r1 (AL.v r0 (AL.i i0 (AL.i (Int.ofNat 0) AL.n))))) h
noncomputable def X8 (S : Sg) : Sg := bW 0 (uV fun r0 => uV fun r1 => uN (aBA S r0 r1)) (bW 1 (uV fun r0 => uV fun r1 => uV fun r9 => uI fun nW => uI fun qC => uN (OE S r0 r1 r9 nW qC)) (bW 2 (uN fun h => aTV S  h) (jN)))
noncomputable def aPA (args : List Value) (h : Hp) : aF := bC [Kd.v, Kd.v] args fun al => aK X8 1000000 0 al h
def aYL : Nat := 2 + (27 - 2)
theorem t105 (S : Sg) : iQ (fun l vs h => aY (jV env OD aYL) (jW env Try.f105.results.toList) (collect aYJ aYK []) l S vs h) (X8 S) := by
 unfold X8
 exact dJ (dN fun _ => dN fun _ => jC fun _ => by kernel_rfl) <| dJ (dN fun _ => dN fun _ => dN fun _ => jL fun _ => jL fun _ => jC fun _ => by kernel_rfl) <| dJ (jC fun _ => by kernel_rfl) <| Go.bG.iQ.nil
theorem bBJ : ∀ args h v h', aPA args h = some (v, h') → eF (C12) (.call 105 args.toArray h) (.ret v h') := by
 intro args h v h' e
 exact bD (C := C12) (fn := Try.f105) (body := aYJ) (np := 2) (A := aYK) (T := X8) (kinds := [Kd.v, Kd.v]) (by kernel_rfl) (by kernel_rfl) (by kernel_rfl) (by kernel_rfl) (dG dK) (by kernel_rfl) (fun S => t105 S) e
noncomputable def aIZ := jI 105 aPA OD
noncomputable def C13 : dL := cfg aIZ
theorem bBK : C13.Ok := dB (C := C12) bBI bBJ
noncomputable def B83 : Code := (Try.f83.body).getD .skip
def A83 : eO := (Am 0 [(0, .v), (1, .i .i64), (2, .v)] Ao (An (An Ao (An Az Ao)) Az))
noncomputable def aI0 (S : Sg) (r0 : Value) (r1 : Int) (r2 : Value) (h : Hp) : aF :=
 bU r0 fun i0 =>
 bQ (lV r1 i0) fun b1 =>
 bY b1
 (some (Value.tuple (List.toArray [(Value.int .i64 (Int.ofNat 0)), (Value.int .i64 (Int.ofNat 3))]), h))
 (aO (cZ aPA [r0, r2] h) fun v2 h2 =>
 fU v2 0 fun v3 =>
 aR .i64 v3 fun i4 =>
 fU v2 1 fun v5 =>
 aR .i64 v5 fun i6 =>
 some (Value.tuple (List.toArray [(Value.int .i64 i4), (Value.int .i64 i6)]), h2))
noncomputable def T83 (S : Sg) : Sg := bW 0 (uV fun r0 => uI fun r1 => uV fun r2 => uN (aI0 S r0 r1 r2)) (jN)
noncomputable def F83 (args : List Value) (h : Hp) : aF := bC [Kd.v, Kd.i .i64, Kd.v] args fun al => aK T83 1000000 0 al h
def bBL : Nat := 3 + (17 - 3)
theorem t83 (S : Sg) : iQ (fun l vs h => aY (jV env aIZ bBL) (jW env Try.f83.results.toList) (collect B83 A83 []) l S vs h) (T83 S) := by
 unfold T83
 exact dJ (dN fun _ => jL fun _ => dN fun _ => jC fun _ => by kernel_rfl) <| Go.bG.iQ.nil
theorem r83 : ∀ args h v h', F83 args h = some (v, h') → eF (C13) (.call 83 args.toArray h) (.ret v h') := by
 intro args h v h' e
 exact bD (C := C13) (fn := Try.f83) (body := B83) (np := 3) (A := A83) (T := T83) (kinds := [Kd.v, Kd.i .i64, Kd.v]) (by kernel_rfl) (by kernel_rfl) (by kernel_rfl) (by kernel_rfl) (dG dK) (by kernel_rfl) (fun S => t83 S) e
noncomputable def aI1 := jI 83 F83 aIZ
noncomputable def C14 : dL := cfg aI1
theorem bBM : C14.Ok := dB (C := C13) bBK r83
noncomputable def B49 : Code := (Try.f49.body).getD .skip
def A49 : eO := (Am 0 [(0, .v), (1, .v), (2, .i .i64), (3, .i .i64)] Ao Az)
noncomputable def aI2 (S : Sg) (r0 r1 : Value) (r2 r3 : Int) (h : Hp) : aF :=
 bF h 25 (Array.toList (Value.cells r0)) fun a0 h0 =>
 bF h0 3 [(Value.int .i64 r3)] fun a1 h1 =>
 aO (cZ F83 [r1, (Value.int .i64 r2), (Value.func (.func 84) (List.toArray []) (List.toArray [a0, a1]))] h1) fun v2 h2 =>
 fU v2 0 fun v3 =>
 aR .i64 v3 fun i4 =>
 fU v2 1 fun v5 =>
 aR .i64 v5 fun i6 =>
 some (Value.tuple (List.toArray [(Value.int .i64 i4), (Value.int .i64 i6)]), h2)
noncomputable def T49 (S : Sg) : Sg := bW 0 (uV fun r0 => uV fun r1 => uI fun r2 => uI fun r3 => uN (aI2 S r0 r1 r2 r3)) (jN)
noncomputable def F49 (args : List Value) (h : Hp) : aF := bC [Kd.v, Kd.v, Kd.i .i64, Kd.i .i64] args fun al => aK T49 1000000 0 al h
def bBN : Nat := 4 + (16 - 4)
theorem t49 (S : Sg) : iQ (fun l vs h => aY (jV env aI1 bBN) (jW env Try.f49.results.toList) (collect B49 A49 []) l S vs h) (T49 S) := by
 unfold T49
 exact dJ (dN fun _ => dN fun _ => jL fun _ => jL fun _ => jC fun _ => by kernel_rfl) <| Go.bG.iQ.nil
theorem r49 : ∀ args h v h', F49 args h = some (v, h') → eF (C14) (.call 49 args.toArray h) (.ret v h') := by
 intro args h v h' e
 exact bD (C := C14) (fn := Try.f49) (body := B49) (np := 4) (A := A49) (T := T49) (kinds := [Kd.v, Kd.v, Kd.i .i64, Kd.i .i64]) (by kernel_rfl) (by kernel_rfl) (by kernel_rfl) (by kernel_rfl) (dG dK) (by kernel_rfl) (fun S => t49 S) e
noncomputable def aI3 := jI 49 F49 aI1
noncomputable def C15 : dL := cfg aI3
theorem bBO : C15.Ok := dB (C := C14) bBM r49
noncomputable def B16 : Code := (Try.f16.body).getD .skip
def A16 : eO := (Am 0 [(0, .v)] Ao (An (An Ao (An Ao (An Az Ao))) (An (An Ao (An Ao (An Az Ao))) (An (An Ao (An Ao (An Az Ao))) (An (An Ao (An Ao (An Az Ao))) Az)))))
noncomputable def aI4 (S : Sg) (r0 : Value) (h : Hp) : aF :=
 bF h 25 (Array.toList (Value.cells r0)) fun a0 h0 =>
 aP 0 a0 fun v1 =>
 aI h0 v1 fun v2 =>
 aO (cZ F48 [v2, (Value.int .i64 (Int.ofNat 4)), (Value.int .i64 (Int.ofNat 100))] h0) fun v3 h3 =>
 fU v3 0 fun v4 =>
 aR .i64 v4 fun i5 =>
 fU v3 1 fun v6 =>
 aR .i64 v6 fun i7 =>
 bI (lD i7 (Int.ofNat 0)) fun b8 =>
 bY b8
 (some (Value.tuple (List.toArray [(Value.int .i64 (Int.ofNat 1)), (Value.int .i64 i5), (Value.int .i64 i7)]), h3))
 (aP 1 a0 fun v9 =>
 aI h3 v9 fun v10 =>
 aO (cZ F48 [v10, (Value.int .i64 (Int.ofNat 4)), (Value.int .i64 (Int.ofNat 50))] h3) fun v11 h11 =>
 fU v11 0 fun v12 =>
 aR .i64 v12 fun i13 =>
 fU v11 1 fun v14 =>
 aR .i64 v14 fun i15 =>
 bI (lD i15 (Int.ofNat 0)) fun b16 =>
 bY b16
 (some (Value.tuple (List.toArray [(Value.int .i64 (Int.ofNat 2)), (Value.int .i64 i13), (Value.int .i64 i15)]), h11))
 (aX 4 h11 a0 fun v17 =>
 aP 2 a0 fun v18 =>
 aI h11 v18 fun v19 =>
 aO (cZ F49 [v17, v19, (Value.int .i64 (Int.ofNat 6)), (Value.int .i64 (Int.ofNat 0))] h11) fun v20 h20 =>
 fU v20 0 fun v21 =>
 aR .i64 v21 fun i22 =>
 fU v20 1 fun v23 =>
 aR .i64 v23 fun i24 =>
 bI (lD i24 (Int.ofNat 0)) fun b25 =>
 bY b25
 (some (Value.tuple (List.toArray [(Value.int .i64 (Int.ofNat 3)), (Value.int .i64 i22), (Value.int .i64 i24)]), h20))
 (aX 4 h20 a0 fun v26 =>
 aP 3 a0 fun v27 =>
 aI h20 v27 fun v28 =>
 aO (cZ F49 [v26, v28, (Value.int .i64 (Int.ofNat 5)), (Value.int .i64 (Int.negSucc 0))] h20) fun v29 h29 =>
 fU v29 0 fun v30 =>
 aR .i64 v30 fun i31 =>
 fU v29 1 fun v32 =>
 aR .i64 v32 fun i33 =>
 bI (lD i33 (Int.ofNat 0)) fun b34 =>
 bY b34
 (some (Value.tuple (List.toArray [(Value.int .i64 (Int.ofNat 4)), (Value.int .i64 i31), (Value.int .i64 i33)]), h29))
 (some (Value.tuple (List.toArray [(Value.int .i64 (Int.ofNat 0)), (Value.int .i64 (Int.ofNat 0)), (Value.int .i64 (Int.ofNat 0))]), h29)))))
noncomputable def T16 (S : Sg) : Sg := bW 0 (uV fun r0 => uN (aI4 S r0)) (jN)
noncomputable def F16 (args : List Value) (h : Hp) : aF := bC [Kd.v] args fun al => aK T16 1000000 0 al h
def bBR : Nat := 1 + (55 - 1)
theorem t16 (S : Sg) : iQ (fun l vs h => aY (jV env aI3 bBR) (jW env Try.f16.results.toList) (collect B16 A16 []) l S vs h) (T16 S) := by
 unfold T16
 exact dJ (dN fun _ => jC fun _ => by kernel_rfl) <| Go.bG.iQ.nil
theorem r16 : ∀ args h v h', F16 args h = some (v, h') → eF (C15) (.call 16 args.toArray h) (.ret v h') := by
 intro args h v h' e
 exact bD (C := C15) (fn := Try.f16) (body := B16) (np := 1) (A := A16) (T := T16) (kinds := [Kd.v]) (by kernel_rfl) (by kernel_rfl) (by kernel_rfl) (by kernel_rfl) (dG dK) (by kernel_rfl) (fun S => t16 S) e
noncomputable def aI5 := jI 16 F16 aI3
noncomputable def C16 : dL := cfg aI5
theorem ok16 : C16.Ok := dB (C := C15) bBO r16
noncomputable def B93 : Code := (Try.f93.body).getD .skip
def A93 : eO := (Am 0 [(0, .v), (1, .v)] Ao (An Ao (An (An Ao (An (Am 1 [(0, .v), (5, .v), (8, .v), (9, .i .i64), (10, .i .i64)] (An Ao (An Az (An (An (An Ao (An Ao Az)) Ao) Ao))) Ao) Ao)) (Am 2 [(5, .v)] Ao Ao))))
noncomputable def aYS (S : Sg) (r5 : Value) (h : Hp) : aF :=
 some (r5, h)
noncomputable def aC1 (S : Sg) (r0 r5 r8 : Value) (r9 nW : Int) (h : Hp) : aF :=
 bQ (lV nW r9) fun b0 =>
 bY b0
 (dM 1 r8 nW fun v1 =>
 aI h v1 fun v2 =>
 aR .i64 v2 fun i3 =>
 bI (lD i3 (Int.negSucc 0)) fun b4 =>
 bY b4
 (dM 1 r0 nW fun v5 =>
 aI h v5 fun v6 =>
 aR .i64 v6 fun i7 =>
 bI (lD i3 i7) fun b8 =>
 bY b8
 (aO (bB env h 22 1 (List.toArray [(0, (Value.int .i64 nW))])) fun v9 h9 =>
 aO (fH env h9 #[22, 22] (List.toArray [r5, v9])) fun v10 h10 =>
 wrap64 (Int.add nW (Int.ofNat 1)) fun i11 =>
 S 1 (AL.v r0 (AL.v v10 (AL.v r8 (AL.i r9 (AL.i i11 AL.n))))) h10)
 (wrap64 (Int.add nW (Int.ofNat 1)) fun i12 =>
 S 1 (AL.v r0 (AL.v r5 (AL.v r8 (AL.i r9 (AL.i i12 AL.n))))) h))
 (wrap64 (Int.add nW (Int.ofNat 1)) fun i13 =>
 S 1 (AL.v r0 (AL.v r5 (AL.v r8 (AL.i r9 (AL.i i13 AL.n))))) h))
 (S 2 (AL.v r5 AL.n) h)
noncomputable def aI6 (S : Sg) (r0 r1 : Value) (h : Hp) : aF :=
 bU r1 fun i0 =>
 S 1 (AL.v r0 (AL.v (Value.slice none 0 0) (AL.v r1 (AL.i i0 (AL.i (Int.ofNat 0) AL.n))))) h
noncomputable def T93 (S : Sg) : Sg := bW 0 (uV fun r0 => uV fun r1 => uN (aI6 S r0 r1)) (bW 1 (uV fun r0 => uV fun r5 => uV fun r8 => uI fun r9 => uI fun nW => uN (aC1 S r0 r5 r8 r9 nW)) (bW 2 (uV fun r5 => uN (aYS S r5)) (jN)))
noncomputable def F93 (args : List Value) (h : Hp) : aF := bC [Kd.v, Kd.v] args fun al => aK T93 1000000 0 al h
def bBS : Nat := 2 + (31 - 2)
theorem t93 (S : Sg) : iQ (fun l vs h => aY (jV env aI5 bBS) (jW env Try.f93.results.toList) (collect B93 A93 []) l S vs h) (T93 S) := by
 unfold T93
 exact dJ (dN fun _ => dN fun _ => jC fun _ => by kernel_rfl) <| dJ (dN fun _ => dN fun _ => dN fun _ => jL fun _ => jL fun _ => jC fun _ => by kernel_rfl) <| dJ (dN fun _ => jC fun _ => by kernel_rfl) <| Go.bG.iQ.nil
theorem r93 : ∀ args h v h', F93 args h = some (v, h') → eF (C16) (.call 93 args.toArray h) (.ret v h') := by
 intro args h v h' e
 exact bD (C := C16) (fn := Try.f93) (body := B93) (np := 2) (A := A93) (T := T93) (kinds := [Kd.v, Kd.v]) (by kernel_rfl) (by kernel_rfl) (by kernel_rfl) (by kernel_rfl) (dG dK) (by kernel_rfl) (fun S => t93 S) e
noncomputable def aI7 := jI 93 F93 aI5
noncomputable def C17 : dL := cfg aI7
theorem bBT : C17.Ok := dB (C := C16) ok16 r93
noncomputable def B63 : Code := (Try.f63.body).getD .skip
def A63 : eO := (Am 0 [(0, .v)] Ao (An (An Ao (An Ao (An Az Ao))) (An Ao (An (An Ao (An (Am 1 [(1, .v), (2, .v), (7, .v), (24, .v), (25, .i .i64), (26, .i .i64)] (An Ao (An Az (An (An (An Ao (An Ao (An (Am 2 [(1, .v), (2, .v), (7, .v), (8, .i .i64), (9, .v), (24, .v), (25, .i .i64), (26, .i .i64), (32, .v), (33, .i .i64), (34, .i .i64)] (An Ao (An Az (An (An Az Ao) Ao))) Ao) Ao))) Ao) (Am 3 [(1, .v), (2, .v), (7, .v), (24, .v), (25, .i .i64), (26, .i .i64)] Ao Ao)))) Ao) Ao)) (Am 4 [(1, .v), (2, .v), (7, .v)] Ao Ao)))))
noncomputable def aI8 (S : Sg) (r1 r2 r7 : Value) (h : Hp) : aF :=
 aX 4 h r1 fun v0 =>
 bP (jF env 71 (List.toArray [(0, v0), (1, r7)])) fun v1 =>
 dZ 5 h r2 v1 fun h2 =>
 aX 5 h2 r2 fun v3 => some (Value.tuple (List.toArray [v3, (Value.int .i64 (Int.ofNat 0))]), h2)
noncomputable def aI9 (S : Sg) (r1 r2 : Value) (r7 r24 : Value) (r25 X9 : Int) (h : Hp) : aF :=
 wrap64 (Int.add X9 (Int.ofNat 1)) fun i0 =>
 S 1 (AL.v r1 (AL.v r2 (AL.v r7 (AL.v r24 (AL.i r25 (AL.i i0 AL.n)))))) h
noncomputable def aC2 (S : Sg) (r1 r2 r7 : Value) (r8 : Int) (r9 r24 : Value) (r25 X9 : Int) (r32 : Value) (r33 r34 : Int) (h : Hp) : aF :=
 bQ (lV r34 r33) fun b0 =>
 bY b0
 (dM 3 r32 r34 fun v1 =>
 aX 3 h v1 fun v2 =>
 bF h 59 [(Value.string (ByteArray.mk #[])), (Value.slice none 0 0), (Value.int .i64 (Int.ofNat 0))] fun a3 h3 =>
 dZ 3 h3 a3 v2 fun h4 =>
 bP (jF env 76 (List.toArray [(0, (Value.int .i64 r8)), (1, (Value.int .i64 r34))])) fun v5 =>
 aP 1 r9 fun v6 =>
 aI h4 v6 fun v7 =>
 aP 1 a3 fun v8 =>
 aI h4 v8 fun v9 =>
 aO (cZ F93 [v7, v9] h4) fun v10 h10 =>
 bP (mU env h10 69 r7 v5 v10) fun h11 =>
 wrap64 (Int.add r34 (Int.ofNat 1)) fun i12 =>
 S 2 (AL.v r1 (AL.v r2 (AL.v r7 (AL.i r8 (AL.v r9 (AL.v r24 (AL.i r25 (AL.i X9 (AL.v r32 (AL.i r33 (AL.i i12 AL.n))))))))))) h11)
 (S 3 (AL.v r1 (AL.v r2 (AL.v r7 (AL.v r24 (AL.i r25 (AL.i X9 AL.n)))))) h)
noncomputable def aC3 (S : Sg) (r1 r2 : Value) (r7 r24 : Value) (r25 X9 : Int) (h : Hp) : aF :=
 bQ (lV X9 r25) fun b0 =>
 bY b0
 (dM 3 r24 X9 fun v1 =>
 aX 3 h v1 fun v2 =>
 bF h 59 [(Value.string (ByteArray.mk #[])), (Value.slice none 0 0), (Value.int .i64 (Int.ofNat 0))] fun a3 h3 =>
 dZ 3 h3 a3 v2 fun h4 =>
 aP 3 r1 fun v5 =>
 aI h4 v5 fun v6 =>
 bU v6 fun i7 =>
 S 2 (AL.v r1 (AL.v r2 (AL.v r7 (AL.i X9 (AL.v a3 (AL.v r24 (AL.i r25 (AL.i X9 (AL.v v6 (AL.i i7 (AL.i (Int.ofNat 0) AL.n))))))))))) h4)
 (S 4 (AL.v r1 (AL.v r2 (AL.v r7 AL.n))) h)
noncomputable def aJA (S : Sg) (r0 : Value) (h : Hp) : aF :=
 bF h 25 (Array.toList (Value.cells r0)) fun a0 h0 =>
 bF h0 71 [(Value.slice none 0 0), (Value.slice none 0 0), (Value.slice none 0 0), (Value.slice none 0 0), (Value.map none)] fun a1 h1 =>
 aX 4 h1 a0 fun v2 =>
 aO (cZ F16 [v2] h1) fun v3 h3 =>
 fU v3 0 fun v4 =>
 aR .i64 v4 fun i5 =>
 fU v3 1 fun v6 =>
 aR .i64 v6 fun i7 =>
 fU v3 2 fun v8 =>
 aR .i64 v8 fun i9 =>
 bI (lD i9 (Int.ofNat 0)) fun b10 =>
 bY b10
 (bP (jF env 71 (List.toArray [])) fun v11 =>
 dZ 5 h3 a1 v11 fun h12 =>
 aX 5 h12 a1 fun v13 => some (Value.tuple (List.toArray [v13, (Value.int .i64 i9)]), h12))
 (let a14 := Value.map (some (Hp.next h3)); let h14 := Hp.add h3 (.map []);
 aP 2 a0 fun v15 =>
 aI h14 v15 fun v16 =>
 bU v16 fun i17 =>
 S 1 (AL.v a0 (AL.v a1 (AL.v a14 (AL.v v16 (AL.i i17 (AL.i (Int.ofNat 0) AL.n)))))) h14)
noncomputable def Y6 (S : Sg) : Sg := bW 0 (uV fun r0 => uN (aJA S r0)) (bW 1 (uV fun r1 => uV fun r2 => uV fun r7 => uV fun r24 => uI fun r25 => uI fun X9 => uN (aC3 S r1 r2 r7 r24 r25 X9)) (bW 2 (uV fun r1 => uV fun r2 => uV fun r7 => uI fun r8 => uV fun r9 => uV fun r24 => uI fun r25 => uI fun X9 => uV fun r32 => uI fun r33 => uI fun r34 => uN (aC2 S r1 r2 r7 r8 r9 r24 r25 X9 r32 r33 r34)) (bW 3 (uV fun r1 => uV fun r2 => uV fun r7 => uV fun r24 => uI fun r25 => uI fun X9 => uN (aI9 S r1 r2 r7 r24 r25 X9)) (bW 4 (uV fun r1 => uV fun r2 => uV fun r7 => uN (aI8 S r1 r2 r7)) (jN)))))
noncomputable def F63 (args : List Value) (h : Hp) : aF := bC [Kd.v] args fun al => aK Y6 1000000 0 al h
def bBV : Nat := 1 + (53 - 1)
theorem t63 (S : Sg) : iQ (fun l vs h => aY (jV env aI7 bBV) (jW env Try.f63.results.toList) (collect B63 A63 []) l S vs h) (Y6 S) := by
 unfold Y6
 exact dJ (dN fun _ => jC fun _ => by kernel_rfl) <| dJ (dN fun _ => dN fun _ => dN fun _ => dN fun _ => jL fun _ => jL fun _ => jC fun _ => by kernel_rfl) <| dJ (dN fun _ => dN fun _ => dN fun _ => jL fun _ => dN fun _ => dN fun _ => jL fun _ => jL fun _ => dN fun _ => jL fun _ => jL fun _ => jC fun _ => by kernel_rfl) <| dJ (dN fun _ => dN fun _ => dN fun _ => dN fun _ => jL fun _ => jL fun _ => jC fun _ => by kernel_rfl) <| dJ (dN fun _ => dN fun _ => dN fun _ => jC fun _ => by kernel_rfl) <| Go.bG.iQ.nil
theorem r63 : ∀ args h v h', F63 args h = some (v, h') → eF (C17) (.call 63 args.toArray h) (.ret v h') := by
 intro args h v h' e
 exact bD (C := C17) (fn := Try.f63) (body := B63) (np := 1) (A := A63) (T := Y6) (kinds := [Kd.v]) (by kernel_rfl) (by kernel_rfl) (by kernel_rfl) (by kernel_rfl) (dG dK) (by kernel_rfl) (fun S => t63 S) e
noncomputable def aQ5 := jI 63 F63 aI7
noncomputable def C18 : dL := cfg aQ5
theorem bBW : C18.Ok := dB (C := C17) bBT r63
noncomputable def B53 : Code := (Try.f53.body).getD .skip
noncomputable def A53 : G.eO (List KI) := (Gm 0 [.reg 0 (.i .i64), .reg 1 .v] Gz Gy)
noncomputable def aJC (h : Hp) (S : Nat → aC → Option Value) (r0 : Int) (r1 : Value) : Option Value :=
 wrap64 (Int.sub r0 (Int.ofNat 1)) fun i0 =>
 bP (F82 [(Value.int .i64 (Int.ofNat 0)), (Value.int .i64 i0), r1] h) fun v1 =>
 dH v1 fun b2 =>
 some (Value.bool b2)
noncomputable def T53 (h : Hp) (S : Nat → aC → Option Value) : Nat → aC → Option Value := dR 0 (wI fun r0 => wV fun r1 => wN (aJC h S r0 r1)) (kH)
noncomputable def F53 (args : List Value) (h : Hp) : Option Value := plainO (dS [Kd.i .i64, Kd.v] args fun al => G.aK (T53 h) 1000000 0 al)
def bBX : Nat := 2 + (9 - 2)
theorem t53 (h : Hp) (S : Nat → aC → Option Value) : gV (fun l al => G.aY iD bZ nT (oQ env pf4 bBX h) (pM env Try.f53.results.toList) (G.collect B53 A53 []) l S al) (T53 h S) := by
 unfold T53
 exact dV (jR fun _ => mO fun _ => nV (by kernel_rfl)) <| gV.nil
theorem r53 : fT Try.prog 53 F53 := dF (C := C0) ok0 (pf := pf4) aQ4 (fn := Try.f53) (body := B53) (kinds := [Kd.i .i64, Kd.v]) (A := A53) (T := T53) (by kernel_rfl) (by kernel_rfl) (by kernel_rfl) (by kernel_rfl) (fun h S => t53 h S)
noncomputable def pf5 : PF := EW 53 F53 pf4
theorem aQ7 : eB Try.prog pf5 := iK r53 aQ4
noncomputable def aJD := oU 53 F53 aQ5
noncomputable def C19 : dL := cfg aJD
theorem bBY : C19.Ok := fK (C := C18) bBW r53
noncomputable def B52 : Code := (Try.f52.body).getD .skip
def A52 : eO := (Am 0 [(0, .v), (1, .i .i64)] Ao (An Ao (An (An Ao (An Az Ao)) (An (An Ao (An Az Ao)) Az))))
noncomputable def aJE (S : Sg) (r0 : Value) (r1 : Int) (h : Hp) : aF :=
 bF h 25 (Array.toList (Value.cells r0)) fun a0 h0 =>
 bF h0 71 [(Value.slice none 0 0), (Value.slice none 0 0), (Value.slice none 0 0), (Value.slice none 0 0), (Value.map none)] fun a1 h1 =>
 aX 4 h1 a0 fun v2 =>
 aO (cZ F63 [v2] h1) fun v3 h3 =>
 fU v3 0 fun v4 =>
 fU v3 1 fun v5 =>
 aR .i64 v5 fun i6 =>
 bF h3 71 [(Value.slice none 0 0), (Value.slice none 0 0), (Value.slice none 0 0), (Value.slice none 0 0), (Value.map none)] fun a7 h7 =>
 dZ 5 h7 a7 v4 fun h8 =>
 bI (lD i6 (Int.ofNat 0)) fun b9 =>
 bY b9
 (bP (jF env 71 (List.toArray [])) fun v10 =>
 dZ 5 h8 a1 v10 fun h11 =>
 aX 5 h11 a1 fun v12 => some (Value.tuple (List.toArray [v12, (Value.int .i64 i6)]), h11))
 (aP 0 a7 fun v13 =>
 aP 3 v13 fun v14 =>
 aI h8 v14 fun v15 =>
 bU v15 fun i16 =>
 aO (bB env h8 22 1 (List.toArray [(0, (Value.int .i64 r1))])) fun v17 h17 =>
 aO (bP (F53 [(Value.int .i64 i16), v17] h17) fun v => some (v, h17)) fun v18 h18 =>
 dH v18 fun b19 =>
 bI b19 fun b20 =>
 bY b20
 (bP (jF env 71 (List.toArray [])) fun v21 =>
 dZ 5 h18 a1 v21 fun h22 =>
 aX 5 h22 a1 fun v23 => some (Value.tuple (List.toArray [v23, (Value.int .i64 (Int.ofNat 4))]), h22))
 (aX 5 h18 a7 fun v24 =>
 dZ 5 h18 a1 v24 fun h25 =>
 aX 5 h25 a1 fun v26 => some (Value.tuple (List.toArray [v26, (Value.int .i64 (Int.ofNat 0))]), h25)))
noncomputable def T52 (S : Sg) : Sg := bW 0 (uV fun r0 => uI fun r1 => uN (aJE S r0 r1)) (jN)
noncomputable def F52 (args : List Value) (h : Hp) : aF := bC [Kd.v, Kd.i .i64] args fun al => aK T52 1000000 0 al h
def bBZ : Nat := 2 + (27 - 2)
theorem t52 (S : Sg) : iQ (fun l vs h => aY (jV env aJD bBZ) (jW env Try.f52.results.toList) (collect B52 A52 []) l S vs h) (T52 S) := by
 unfold T52
 exact dJ (dN fun _ => jL fun _ => jC fun _ => by kernel_rfl) <| Go.bG.iQ.nil
theorem r52 : ∀ args h v h', F52 args h = some (v, h') → eF (C19) (.call 52 args.toArray h) (.ret v h') := by
 intro args h v h' e
 exact bD (C := C19) (fn := Try.f52) (body := B52) (np := 2) (A := A52) (T := T52) (kinds := [Kd.v, Kd.i .i64]) (by kernel_rfl) (by kernel_rfl) (by kernel_rfl) (by kernel_rfl) (dG dK) (by kernel_rfl) (fun S => t52 S) e
noncomputable def aQ9 := jI 52 F52 aJD
noncomputable def C20 : dL := cfg aQ9
theorem bB0 : C20.Ok := dB (C := C19) bBY r52
noncomputable def B54 : Code := (Try.f54.body).getD .skip
noncomputable def A54 : G.eO (List KI) := (Gm 0 [.reg 0 .v, .reg 1 .v] Gz (Gn Gz (Gn (Gn Gz (Gn (Gm 1 [.loc 2 2, .reg 5 (.i .i64), .reg 10 .v, .reg 11 (.i .i64), .reg 12 (.i .i64), .list 2] (Gn Gz (Gn Gy (Gn (Gn (Gn Gz (Gn Gz (Gn (Gm 2 [.loc 2 2, .reg 5 (.i .i64), .reg 10 .v, .reg 11 (.i .i64), .reg 12 (.i .i64), .reg 19 .v, .reg 20 (.i .i64), .reg 21 (.i .i64), .list 2] (Gn Gz (Gn Gy (Gn (Gn Gy Gz) Gz))) Gz) Gz))) Gz) (Gm 3 [.loc 2 2, .reg 5 (.i .i64), .reg 10 .v, .reg 11 (.i .i64), .reg 12 (.i .i64), .list 2] Gz Gz)))) Gz) Gz)) (Gm 4 [.reg 5 (.i .i64)] Gz Gz))))
noncomputable def aYW (h : Hp) (S : Nat → aC → Option Value) (r5 : Int) : Option Value :=
 some (Value.int .i64 r5)
noncomputable def aJF (h : Hp) (S : Nat → aC → Option Value) (r5 : Int) (nW : Value) (qC xD : Int) (c2 : List Value) : Option Value :=
 wrap64 (Int.add xD (Int.ofNat 1)) fun i0 =>
 S 1 (aC.i r5 (aC.v nW (aC.i qC (aC.i i0 (aC.l c2 aC.n)))))
noncomputable def aC4 (h : Hp) (S : Nat → aC → Option Value) (r5 : Int) (nW : Value) (qC xD : Int) (r19 : Value) (r20 r21 : Int) (c2 : List Value) : Option Value :=
 bQ (lV r21 r20) fun b0 =>
 bY b0
 (dM 1 r19 r21 fun v1 =>
 aI h v1 fun v2 =>
 aR .i64 v2 fun i3 =>
 z8 c2 0 fun v4 =>
 dM 1 v4 i3 fun v5 =>
 aI h v5 fun v6 =>
 aR .i64 v6 fun i7 =>
 wrap64 (Int.add r5 i7) fun i8 =>
 wrap64 (Int.add r21 (Int.ofNat 1)) fun i9 =>
 S 2 (aC.i i8 (aC.v nW (aC.i qC (aC.i xD (aC.v r19 (aC.i r20 (aC.i i9 (aC.l c2 aC.n)))))))))
 (S 3 (aC.i r5 (aC.v nW (aC.i qC (aC.i xD (aC.l c2 aC.n))))))
noncomputable def aC5 (h : Hp) (S : Nat → aC → Option Value) (r5 : Int) (nW : Value) (qC xD : Int) (c2 : List Value) : Option Value :=
 bQ (lV xD qC) fun b0 =>
 bY b0
 (dM 2 nW xD fun v1 =>
 aX 2 h v1 fun v2 =>
 aOM v2 fun l3 => bY (Nat.beq (PP l3) 2) (UF 0 l3 [(Value.int .i64 (Int.ofNat 0)), (Value.int .i64 (Int.ofNat 0))] fun c3 =>
 z8 c2 4 fun v4 =>
 yQ c3 0 fun d5 => wU d5 2 fun l5 =>
 bP (kC env h 69 v4 (Value.agg (Array.mk l5)) false) fun v6 =>
 bU v6 fun i7 =>
 S 2 (aC.i r5 (aC.v nW (aC.i qC (aC.i xD (aC.v v6 (aC.i i7 (aC.i (Int.ofNat 0) (aC.l c2 aC.n))))))))) none)
 (S 4 (aC.i r5 aC.n))
noncomputable def aJG (h : Hp) (S : Nat → aC → Option Value) (r0 r1 : Value) : Option Value :=
 oL (Array.toList (Value.cells r0)) fun c0 =>
 bU r1 fun i1 =>
 S 1 (aC.i (Int.ofNat 0) (aC.v r1 (aC.i i1 (aC.i (Int.ofNat 0) (aC.l c0 aC.n)))))
noncomputable def T54 (h : Hp) (S : Nat → aC → Option Value) : Nat → aC → Option Value := dR 0 (wV fun r0 => wV fun r1 => wN (aJG h S r0 r1)) (dR 1 (wI fun r5 => wV fun nW => wI fun qC => wI fun xD => wL fun c2 => wN (aC5 h S r5 nW qC xD c2)) (dR 2 (wI fun r5 => wV fun nW => wI fun qC => wI fun xD => wV fun r19 => wI fun r20 => wI fun r21 => wL fun c2 => wN (aC4 h S r5 nW qC xD r19 r20 r21 c2)) (dR 3 (wI fun r5 => wV fun nW => wI fun qC => wI fun xD => wL fun c2 => wN (aJF h S r5 nW qC xD c2)) (dR 4 (wI fun r5 => wN (aYW h S r5)) (kH)))))
noncomputable def F54 (args : List Value) (h : Hp) : Option Value := plainO (dS [Kd.v, Kd.v] args fun al => G.aK (T54 h) 1000000 0 al)
def bB1 : Nat := 2 + (36 - 2)
theorem t54 (h : Hp) (S : Nat → aC → Option Value) : gV (fun l al => G.aY iD bZ nT (oQ env pf5 bB1 h) (pM env Try.f54.results.toList) (G.collect B54 A54 []) l S al) (T54 h S) := by
 unfold T54
 exact dV (mO fun _ => mO fun _ => nV (by kernel_rfl)) <| dV (jR fun _ => mO fun _ => jR fun _ => jR fun _ => rpL fun _ => nV (by kernel_rfl)) <| dV (jR fun _ => mO fun _ => jR fun _ => jR fun _ => mO fun _ => jR fun _ => jR fun _ => rpL fun _ => nV (by kernel_rfl)) <| dV (jR fun _ => mO fun _ => jR fun _ => jR fun _ => rpL fun _ => nV (by kernel_rfl)) <| dV (jR fun _ => nV (by kernel_rfl)) <| gV.nil
theorem r54 : fT Try.prog 54 F54 := dF (C := C0) ok0 (pf := pf5) aQ7 (fn := Try.f54) (body := B54) (kinds := [Kd.v, Kd.v]) (A := A54) (T := T54) (by kernel_rfl) (by kernel_rfl) (by kernel_rfl) (by kernel_rfl) (fun h S => t54 h S)
noncomputable def pf6 : PF := EW 54 F54 pf5
theorem aRC : eB Try.prog pf6 := iK r54 aQ7
noncomputable def aJH := oU 54 F54 aQ9
noncomputable def C21 : dL := cfg aJH
theorem bB2 : C21.Ok := fK (C := C20) bB0 r54
noncomputable def B18 : Code := (Try.f18.body).getD .skip
def A18 : eO := (Am 0 [(0, .v), (1, .i .i64), (2, .i .i64)] Ao (An Ao (An (An Ao (An Az Ao)) (An (An Ao (An Az Ao)) (An Ao Az)))))
noncomputable def aJI (S : Sg) (r0 : Value) (r1 r2 : Int) (h : Hp) : aF :=
 bF h 25 (Array.toList (Value.cells r0)) fun a0 h0 =>
 aX 4 h0 a0 fun v1 =>
 aO (cZ F52 [v1, (Value.int .i64 r2)] h0) fun v2 h2 =>
 fU v2 0 fun v3 =>
 fU v2 1 fun v4 =>
 aR .i64 v4 fun i5 =>
 bF h2 71 [(Value.slice none 0 0), (Value.slice none 0 0), (Value.slice none 0 0), (Value.slice none 0 0), (Value.map none)] fun a6 h6 =>
 dZ 5 h6 a6 v3 fun h7 =>
 bI (lD i5 (Int.ofNat 0)) fun b8 =>
 bY b8
 (some (Value.tuple (List.toArray [(Value.int .i64 (Int.ofNat 0)), (Value.slice none 0 0), (Value.int .i64 i5)]), h7))
 (aP 0 a6 fun v9 =>
 aP 2 v9 fun v10 =>
 aI h7 v10 fun v11 =>
 bU v11 fun i12 =>
 aO (bB env h7 22 1 (List.toArray [(0, (Value.int .i64 r1))])) fun v13 RZ =>
 aO (bP (F53 [(Value.int .i64 i12), v13] RZ) fun v => some (v, RZ)) fun v14 h14 =>
 dH v14 fun b15 =>
 bI b15 fun b16 =>
 bY b16
 (some (Value.tuple (List.toArray [(Value.int .i64 (Int.ofNat 0)), (Value.slice none 0 0), (Value.int .i64 (Int.ofNat 4))]), h14))
 (bP (jF env 76 (List.toArray [(0, (Value.int .i64 r1)), (1, (Value.int .i64 r2))])) fun v17 =>
 bF h14 76 [(Value.int .i64 (Int.ofNat 0)), (Value.int .i64 (Int.ofNat 0))] fun a18 h18 =>
 dZ 2 h18 a18 v17 fun h19 =>
 aX 5 (Hp.mk (Hp.next h19) (Hp.next h19) (Hp.aD h19)) a6 fun v20 =>
 aX 2 (Hp.mk (Hp.next h19) (Hp.next h19) (Hp.aD h19)) a18 fun v21 =>
 aO (bB env (Hp.mk (Hp.next h19) (Hp.next h19) T.nil) 79 1 (List.toArray [(0, v21)])) fun v22 h22 =>
 jG v22 (Hp.next h19) h22 fun w23 n23 =>
 aO (bP (F54 [v20, v22] (Hp.mk n23 n23 (aW w23 (Hp.aD h19)))) fun v => some (v, (Hp.mk n23 n23 (aW w23 (Hp.aD h19))))) fun v24 h24 =>
 aR .i64 v24 fun i25 =>
 aP 4 a6 fun v26 =>
 aI (Hp.mk n23 n23 (Hp.aD h19)) v26 fun v27 =>
 aX 2 (Hp.mk n23 n23 (Hp.aD h19)) a18 fun v28 =>
 bP (kC env (Hp.mk n23 n23 (Hp.aD h19)) 69 v27 v28 false) fun v29 =>
 some (Value.tuple (List.toArray [(Value.int .i64 i25), v29, (Value.int .i64 (Int.ofNat 0))]), (Hp.mk n23 (Hp.ro h19) (aW w23 (Hp.aD h19))))))
noncomputable def T18 (S : Sg) : Sg := bW 0 (uV fun r0 => uI fun r1 => uI fun r2 => uN (aJI S r0 r1 r2)) (jN)
noncomputable def F18 (args : List Value) (h : Hp) : aF := bC [Kd.v, Kd.i .i64, Kd.i .i64] args fun al => aK T18 1000000 0 al h
def bB5 : Nat := 3 + (39 - 3)
theorem t18 (S : Sg) : iQ (fun l vs h => aY (jV env aJH bB5) (jW env Try.f18.results.toList) (collect B18 A18 []) l S vs h) (T18 S) := by
 unfold T18
 exact dJ (dN fun _ => jL fun _ => jL fun _ => jC fun _ => by kernel_rfl) <| Go.bG.iQ.nil
theorem PV : ∀ args h v h', F18 args h = some (v, h') → eF (C21) (.call 18 args.toArray h) (.ret v h') := by
 intro args h v h' e
 exact bD (C := C21) (fn := Try.f18) (body := B18) (np := 3) (A := A18) (T := T18) (kinds := [Kd.v, Kd.i .i64, Kd.i .i64]) (by kernel_rfl) (by kernel_rfl) (by kernel_rfl) (by kernel_rfl) (dG dK) (by kernel_rfl) (fun S => t18 S) e
noncomputable def aRD := jI 18 F18 aJH
noncomputable def C22 : dL := cfg aRD
theorem bB6 : C22.Ok := dB (C := C21) bB2 PV
noncomputable def aYZ : Code := (Try.f111.body).getD .skip
noncomputable def aY0 : G.eO (List KI) := (Gm 0 [.reg 0 .v, .reg 1 (.i .i64)] Gz (Gn (Gn Gz (Gn (Gm 1 [.reg 0 .v, .reg 1 (.i .i64), .reg 7 (.i .i64), .reg 8 (.i .i64)] (Gn Gz (Gn Gy (Gn (Gn (Gn Gz (Gn Gz (Gn Gy Gz))) Gz) Gz))) Gz) Gz)) (Gm 2 [] Gz Gz)))
noncomputable def aTX (h : Hp) (S : Nat → aC → Option Value) : Option Value :=
 some (Value.int .i64 (Int.negSucc 0))
noncomputable def U8 (h : Hp) (S : Nat → aC → Option Value) (r0 : Value) (r1 r7 r8 : Int) : Option Value :=
 bQ (lV r8 r7) fun b0 =>
 bY b0
 (dM 1 r0 r8 fun v1 =>
 aI h v1 fun v2 =>
 aR .i64 v2 fun i3 =>
 bQ (lD r1 i3) fun b4 =>
 bY b4
 (some (Value.int .i64 r8))
 (wrap64 (Int.add r8 (Int.ofNat 1)) fun i5 =>
 S 1 (aC.v r0 (aC.i r1 (aC.i r7 (aC.i i5 aC.n))))))
 (S 2 aC.n)
noncomputable def aBD (h : Hp) (S : Nat → aC → Option Value) (r0 : Value) (r1 : Int) : Option Value :=
 bU r0 fun i0 =>
 S 1 (aC.v r0 (aC.i r1 (aC.i i0 (aC.i (Int.ofNat 0) aC.n))))
noncomputable def U9 (h : Hp) (S : Nat → aC → Option Value) : Nat → aC → Option Value := dR 0 (wV fun r0 => wI fun r1 => wN (aBD h S r0 r1)) (dR 1 (wV fun r0 => wI fun r1 => wI fun r7 => wI fun r8 => wN (U8 h S r0 r1 r7 r8)) (dR 2 (wN (aTX h S)) (kH)))
noncomputable def aJJ (args : List Value) (h : Hp) : Option Value := plainO (dS [Kd.v, Kd.i .i64] args fun al => G.aK (U9 h) 1000000 0 al)
def aY1 : Nat := 2 + (19 - 2)
theorem t111 (h : Hp) (S : Nat → aC → Option Value) : gV (fun l al => G.aY iD bZ nT (oQ env pf6 aY1 h) (pM env Try.f111.results.toList) (G.collect aYZ aY0 []) l S al) (U9 h S) := by
 unfold U9
 exact dV (mO fun _ => jR fun _ => nV (by kernel_rfl)) <| dV (mO fun _ => jR fun _ => jR fun _ => jR fun _ => nV (by kernel_rfl)) <| dV (nV (by kernel_rfl)) <| gV.nil
theorem aY2 : fT Try.prog 111 aJJ := dF (C := C0) ok0 (pf := pf6) aRC (fn := Try.f111) (body := aYZ) (kinds := [Kd.v, Kd.i .i64]) (A := aY0) (T := U9) (by kernel_rfl) (by kernel_rfl) (by kernel_rfl) (by kernel_rfl) (fun h S => t111 h S)
noncomputable def pf7 : PF := EW 111 aJJ pf6
theorem aRE : eB Try.prog pf7 := iK aY2 aRC
noncomputable def aRF := oU 111 aJJ aRD
noncomputable def C23 : dL := cfg aRF
theorem bB7 : C23.Ok := fK (C := C22) bB6 aY2
noncomputable def B90 : Code := (Try.f90.body).getD .skip
noncomputable def A90 : G.eO (List KI) := (Gm 0 [.reg 0 .v, .reg 1 (.i .i64)] Gz Gy)
noncomputable def aJK (h : Hp) (S : Nat → aC → Option Value) (r0 : Value) (r1 : Int) : Option Value :=
 bP (aJJ [r0, (Value.int .i64 r1)] h) fun v0 =>
 aR .i64 v0 fun i1 =>
 bI (lV i1 (Int.ofNat 0)) fun b2 =>
 some (Value.bool b2)
noncomputable def T90 (h : Hp) (S : Nat → aC → Option Value) : Nat → aC → Option Value := dR 0 (wV fun r0 => wI fun r1 => wN (aJK h S r0 r1)) (kH)
noncomputable def F90 (args : List Value) (h : Hp) : Option Value := plainO (dS [Kd.v, Kd.i .i64] args fun al => G.aK (T90 h) 1000000 0 al)
def bB8 : Nat := 2 + (9 - 2)
theorem t90 (h : Hp) (S : Nat → aC → Option Value) : gV (fun l al => G.aY iD bZ nT (oQ env pf7 bB8 h) (pM env Try.f90.results.toList) (G.collect B90 A90 []) l S al) (T90 h S) := by
 unfold T90
 exact dV (mO fun _ => jR fun _ => nV (by kernel_rfl)) <| gV.nil
theorem r90 : fT Try.prog 90 F90 := dF (C := C0) ok0 (pf := pf7) aRE (fn := Try.f90) (body := B90) (kinds := [Kd.v, Kd.i .i64]) (A := A90) (T := T90) (by kernel_rfl) (by kernel_rfl) (by kernel_rfl) (by kernel_rfl) (fun h S => t90 h S)
noncomputable def pf8 : PF := EW 90 F90 pf7
theorem aRG : eB Try.prog pf8 := iK r90 aRE
noncomputable def aRH := oU 90 F90 aRF
noncomputable def C24 : dL := cfg aRH
theorem bB9 : C24.Ok := fK (C := C23) bB7 r90
noncomputable def B92 : Code := (Try.f92.body).getD .skip
noncomputable def A92 : G.eO (List KI) := (Gm 0 [.reg 0 .v, .reg 1 .v] Gz Gy)
noncomputable def aJL (h : Hp) (S : Nat → aC → Option Value) (r0 r1 : Value) : Option Value :=
 oL (Array.toList (Value.cells r0)) fun c0 =>
 oL (Array.toList (Value.cells r1)) fun c1 =>
 z8 c0 4 fun v2 =>
 yQ c1 0 fun d3 => wU d3 2 fun l3 =>
 bP (kC env h 69 v2 (Value.agg (Array.mk l3)) false) fun v4 =>
 bP (F90 [v4, (Value.int .i64 (Int.ofNat 0))] h) fun v5 =>
 dH v5 fun b6 =>
 some (Value.bool b6)
noncomputable def T92 (h : Hp) (S : Nat → aC → Option Value) : Nat → aC → Option Value := dR 0 (wV fun r0 => wV fun r1 => wN (aJL h S r0 r1)) (kH)
noncomputable def F92 (args : List Value) (h : Hp) : Option Value := plainO (dS [Kd.v, Kd.v] args fun al => G.aK (T92 h) 1000000 0 al)
def bCA : Nat := 2 + (10 - 2)
theorem t92 (h : Hp) (S : Nat → aC → Option Value) : gV (fun l al => G.aY iD bZ nT (oQ env pf8 bCA h) (pM env Try.f92.results.toList) (G.collect B92 A92 []) l S al) (T92 h S) := by
 unfold T92
 exact dV (mO fun _ => mO fun _ => nV (by kernel_rfl)) <| gV.nil
theorem r92 : fT Try.prog 92 F92 := dF (C := C0) ok0 (pf := pf8) aRG (fn := Try.f92) (body := B92) (kinds := [Kd.v, Kd.v]) (A := A92) (T := T92) (by kernel_rfl) (by kernel_rfl) (by kernel_rfl) (by kernel_rfl) (fun h S => t92 h S)
noncomputable def pf9 : PF := EW 92 F92 pf8
theorem aRI : eB Try.prog pf9 := iK r92 aRG
noncomputable def aJM := oU 92 F92 aRH
noncomputable def C25 : dL := cfg aJM
theorem bCB : C25.Ok := fK (C := C24) bB9 r92
noncomputable def B60 : Code := (Try.f60.body).getD .skip
def A60 : eO := (Am 0 [(0, .v), (1, .v)] Ao (An Ao (An Ao (An (An Ao (An (Am 1 [(2, .v), (4, .v), (5, .v), (15, .v), (16, .i .i64), (17, .i .i64)] (An Ao (An Az (An (An (An Ao (An Ao (An (An Ao Az) Ao))) Ao) Ao))) Ao) Ao)) (Am 2 [(4, .v), (5, .v)] Ao Ao)))))
noncomputable def aJN (S : Sg) (r4 r5 : Value) (h : Hp) : aF :=
 aX 4 h r5 fun v0 =>
 dZ 4 h r4 v0 fun h1 =>
 aX 4 h1 r4 fun v2 => some (v2, h1)
noncomputable def aC6 (S : Sg) (r2 r4 : Value) (r5 KD : Value) (r16 zF : Int) (h : Hp) : aF :=
 bQ (lV zF r16) fun b0 =>
 bY b0
 (dM 2 KD zF fun v1 =>
 aX 2 h v1 fun v2 =>
 bF h 76 [(Value.int .i64 (Int.ofNat 0)), (Value.int .i64 (Int.ofNat 0))] fun a3 h3 =>
 dZ 2 h3 a3 v2 fun h4 =>
 aX 5 h4 r2 fun v5 =>
 aX 2 h4 a3 fun v6 =>
 aO (bP (F92 [v5, v6] h4) fun v => some (v, h4)) fun v7 h7 =>
 dH v7 fun b8 =>
 bY b8
 (aP 0 r2 fun v9 =>
 aP 2 v9 fun v10 =>
 aI (Hp.mk (Hp.next h7) (Hp.next h7) (Hp.aD h7)) v10 fun v11 =>
 aP 0 a3 fun v12 =>
 aI (Hp.mk (Hp.next h7) (Hp.next h7) (Hp.aD h7)) v12 fun v13 =>
 aR .i64 v13 fun i14 =>
 dM 3 v11 i14 fun v15 =>
 aX 3 (Hp.mk (Hp.next h7) (Hp.next h7) (Hp.aD h7)) v15 fun v16 =>
 aP 0 r2 fun v17 =>
 aP 3 v17 fun v18 =>
 aI (Hp.mk (Hp.next h7) (Hp.next h7) (Hp.aD h7)) v18 fun v19 =>
 aP 1 a3 fun v20 =>
 aI (Hp.mk (Hp.next h7) (Hp.next h7) (Hp.aD h7)) v20 fun v21 =>
 aR .i64 v21 fun i22 =>
 dM 3 v19 i22 fun v23 =>
 aX 3 (Hp.mk (Hp.next h7) (Hp.next h7) (Hp.aD h7)) v23 fun v24 =>
 bF (Hp.mk (Hp.next h7) (Hp.next h7) T.nil) 59 [(Value.string (ByteArray.mk #[])), (Value.slice none 0 0), (Value.int .i64 (Int.ofNat 0))] fun a25 h25 =>
 jG a25 (Hp.next h7) h25 fun w26 n26 =>
 bF (Hp.mk n26 n26 T.nil) 59 [(Value.string (ByteArray.mk #[])), (Value.slice none 0 0), (Value.int .i64 (Int.ofNat 0))] fun a27 h27 =>
 jG a27 n26 h27 fun w28 n28 =>
 EJ env 59 a25 v16 n28 (Hp.next h7) (aW w28 (aW w26 (Hp.aD h7))) (fun b => (gZ [] b || (gZ [] b || (gZ [] b || (gZ [] b || (gZ [] b || (gZ [] b || (gZ [] b || (gZ w26 b || (gZ w28 b || false)))))))))) fun w29 =>
 dZ 3 (Hp.mk n28 (Hp.ro h7) (aW w29 (aW w28 (aW w26 (Hp.aD h7))))) a27 v24 fun h30 =>
 aP 1 a25 fun v31 =>
 aI h30 v31 fun v32 =>
 dM 1 v32 (Int.ofNat 0) fun v33 =>
 aI h30 v33 fun v34 =>
 aR .i64 v34 fun i35 =>
 AA 4 1 r5 i35 fun v36 =>
 aI h30 v36 fun v37 =>
 aR .i64 v37 fun i38 =>
 aP 2 a25 fun v39 =>
 aI h30 v39 fun v40 =>
 aR .i64 v40 fun i41 =>
 wrap64 (Int.add i38 i41) fun i42 =>
 AA 4 1 r5 i35 fun v43 =>
 jQ h30 v43 (Value.int .i64 i42) fun h44 =>
 aP 1 a27 fun v45 =>
 aI h44 v45 fun v46 =>
 dM 1 v46 (Int.ofNat 0) fun v47 =>
 aI h44 v47 fun v48 =>
 aR .i64 v48 fun i49 =>
 AA 4 1 r5 i49 fun v50 =>
 aI h44 v50 fun v51 =>
 aR .i64 v51 fun i52 =>
 aP 2 a27 fun v53 =>
 aI h44 v53 fun v54 =>
 aR .i64 v54 fun i55 =>
 wrap64 (Int.sub i52 i55) fun i56 =>
 AA 4 1 r5 i49 fun v57 =>
 jQ h44 v57 (Value.int .i64 i56) fun h58 =>
 wrap64 (Int.add zF (Int.ofNat 1)) fun i59 =>
 S 1 (AL.v r2 (AL.v r4 (AL.v r5 (AL.v KD (AL.i r16 (AL.i i59 AL.n)))))) h58)
 (wrap64 (Int.add zF (Int.ofNat 1)) fun i60 =>
 S 1 (AL.v r2 (AL.v r4 (AL.v r5 (AL.v KD (AL.i r16 (AL.i i60 AL.n)))))) h7))
 (S 2 (AL.v r4 (AL.v r5 AL.n)) h)
noncomputable def aJO (S : Sg) (r0 r1 : Value) (h : Hp) : aF :=
 bF h 71 (Array.toList (Value.cells r0)) fun a0 h0 =>
 bF h0 87 [(Value.int .i64 (Int.ofNat 0)), (Value.int .i64 (Int.ofNat 0)), (Value.int .i64 (Int.ofNat 0)), (Value.int .i64 (Int.ofNat 0))] fun a1 h1 =>
 bF h1 87 [(Value.int .i64 (Int.ofNat 0)), (Value.int .i64 (Int.ofNat 0)), (Value.int .i64 (Int.ofNat 0)), (Value.int .i64 (Int.ofNat 0))] fun a2 h2 =>
 bP (gY env h2 87 a2 none none none) fun v3 =>
 aP 0 a0 fun v4 =>
 aP 1 v4 fun v5 =>
 aI h2 v5 fun v6 =>
 aO (copyV env h2 #[22, 22] (List.toArray [v3, v6])) fun v7 h7 =>
 bU r1 fun i8 =>
 S 1 (AL.v a0 (AL.v a1 (AL.v a2 (AL.v r1 (AL.i i8 (AL.i (Int.ofNat 0) AL.n)))))) h7
noncomputable def T60 (S : Sg) : Sg := bW 0 (uV fun r0 => uV fun r1 => uN (aJO S r0 r1)) (bW 1 (uV fun r2 => uV fun r4 => uV fun r5 => uV fun KD => uI fun r16 => uI fun zF => uN (aC6 S r2 r4 r5 KD r16 zF)) (bW 2 (uV fun r4 => uV fun r5 => uN (aJN S r4 r5)) (jN)))
noncomputable def F60 (args : List Value) (h : Hp) : aF := bC [Kd.v, Kd.v] args fun al => aK T60 1000000 0 al h
def bCC : Nat := 2 + (60 - 2)
theorem t60 (S : Sg) : iQ (fun l vs h => aY (jV env aJM bCC) (jW env Try.f60.results.toList) (collect B60 A60 []) l S vs h) (T60 S) := by
 unfold T60
 exact dJ (dN fun _ => dN fun _ => jC fun _ => by kernel_rfl) <| dJ (dN fun _ => dN fun _ => dN fun _ => dN fun _ => jL fun _ => jL fun _ => jC fun _ => by kernel_rfl) <| dJ (dN fun _ => dN fun _ => jC fun _ => by kernel_rfl) <| Go.bG.iQ.nil
theorem r60 : ∀ args h v h', F60 args h = some (v, h') → eF (C25) (.call 60 args.toArray h) (.ret v h') := by
 intro args h v h' e
 exact bD (C := C25) (fn := Try.f60) (body := B60) (np := 2) (A := A60) (T := T60) (kinds := [Kd.v, Kd.v]) (by kernel_rfl) (by kernel_rfl) (by kernel_rfl) (by kernel_rfl) (dG dK) (by kernel_rfl) (fun S => t60 S) e
noncomputable def aRK := jI 60 F60 aJM
noncomputable def C26 : dL := cfg aRK
theorem bCD : C26.Ok := dB (C := C25) bCB r60
noncomputable def B77 : Code := (Try.f77.body).getD .skip
noncomputable def A77 : G.eO (List KI) := (Gm 0 [.reg 0 .v] Gz (Gn Gz (Gn (Gn Gz (Gn (G.eO.node (some (1, [.loc 2 2, .loc 3 3, .reg 6 .v, .reg 7 (.i .i64), .cells 2 [.i .i64, .i .i64, .i .i64, .i .i64], .cells 3 [.i .i64, .i .i64, .i .i64, .i .i64]])) (Gn Gz (Gn Gy (Gn (Gn Gy Gz) Gz))) Gz) Gz)) (G.eO.node (some (2, [.loc 2 2, .loc 3 3, .cells 2 [.i .i64, .i .i64, .i .i64, .i .i64], .cells 3 [.i .i64, .i .i64, .i .i64, .i .i64]])) Gz Gz))))
noncomputable def aY9 (h : Hp) (S : Nat → aC → Option Value) (YA YB : Int) (YC YD : Int) (uG sD : Int) (uH uJ : Int) : Option Value :=
 aOM (Value.agg (Array.mk [(Value.int .i64 uG), (Value.int .i64 sD), (Value.int .i64 uH), (Value.int .i64 uJ)])) fun l0 => bY (Nat.beq (PP l0) 4) (UF 0 l0 [(Value.int .i64 YA), (Value.int .i64 YB), (Value.int .i64 YC), (Value.int .i64 YD)] fun c0 =>
 yQ c0 0 fun d1 => wU d1 4 fun l1 => some (Value.agg (Array.mk l1))) none
noncomputable def aC7 (h : Hp) (S : Nat → aC → Option Value) (r6 : Value) (r7 YA : Int) (YB YC : Int) (YD uG : Int) (sD uH uJ : Int) : Option Value :=
 bQ (lV r7 (Int.ofNat 4)) fun b0 =>
 bY b0
 (bP (jP env 87 r6 (Value.int .i64 r7)) fun v1 =>
 aR .i64 v1 fun i2 =>
 wrap64 (Int.sub 0 i2) fun i3 =>
 aES (Int.ofNat 0) i3 fun i4 =>
 UB r7 (fun n5 => bY (Nat.ble (Nat.succ n5) 4) (gQ (Nat.add 0 (Nat.mul n5 1)) fun o5 =>
 CG [(Value.int .i64 uG), (Value.int .i64 sD), (Value.int .i64 uH), (Value.int .i64 uJ)] o5 (Value.int .i64 i4) fun c6 =>
 wrap64 (Int.add r7 (Int.ofNat 1)) fun i7 =>
 lT c6 fun a8 c8 =>
 aR .i64 a8 fun i9 =>
 lT c8 fun a10 c10 =>
 aR .i64 a10 fun i11 =>
 lT c10 fun a12 c12 =>
 aR .i64 a12 fun i13 =>
 lT c12 fun a14 c14 =>
 aR .i64 a14 fun i15 =>
 aHV c14 (S 1 (aC.v r6 (aC.i i7 (aC.i YA (aC.i YB (aC.i YC (aC.i YD (aC.i i9 (aC.i i11 (aC.i i13 (aC.i i15 aC.n)))))))))))) none) (fun _ => none))
 (S 2 (aC.i YA (aC.i YB (aC.i YC (aC.i YD (aC.i uG (aC.i sD (aC.i uH (aC.i uJ aC.n)))))))))
noncomputable def aJQ (h : Hp) (S : Nat → aC → Option Value) (r0 : Value) : Option Value :=
 oL (Array.toList (Value.cells r0)) fun c0 =>
 yQ c0 0 fun d1 => wU d1 4 fun l1 =>
 S 1 (aC.v (Value.agg (Array.mk l1)) (aC.i (Int.ofNat 0) (aC.i (Int.ofNat 0) (aC.i (Int.ofNat 0) (aC.i (Int.ofNat 0) (aC.i (Int.ofNat 0) (aC.i (Int.ofNat 0) (aC.i (Int.ofNat 0) (aC.i (Int.ofNat 0) (aC.i (Int.ofNat 0) aC.n))))))))))
noncomputable def T77 (h : Hp) (S : Nat → aC → Option Value) : Nat → aC → Option Value := dR 0 (wV fun r0 => wN (aJQ h S r0)) (dR 1 (wV fun r6 => wI fun r7 => wI fun YA => wI fun YB => wI fun YC => wI fun YD => wI fun uG => wI fun sD => wI fun uH => wI fun uJ => wN (aC7 h S r6 r7 YA YB YC YD uG sD uH uJ)) (dR 2 (wI fun YA => wI fun YB => wI fun YC => wI fun YD => wI fun uG => wI fun sD => wI fun uH => wI fun uJ => wN (aY9 h S YA YB YC YD uG sD uH uJ)) (kH)))
noncomputable def F77 (args : List Value) (h : Hp) : Option Value := plainO (dS [Kd.v] args fun al => G.aK (T77 h) 1000000 0 al)
def bCF : Nat := 1 + (18 - 1)
theorem t77 (h : Hp) (S : Nat → aC → Option Value) : gV (fun l al => G.aY iD bZ nT (oQ env pf9 bCF h) (pM env Try.f77.results.toList) (G.collect B77 A77 []) l S al) (T77 h S) := by
 unfold T77
 exact dV (mO fun _ => nV (by kernel_rfl)) <| dV (mO fun _ => jR fun _ => jR fun _ => jR fun _ => jR fun _ => jR fun _ => jR fun _ => jR fun _ => jR fun _ => jR fun _ => nV (by kernel_rfl)) <| dV (jR fun _ => jR fun _ => jR fun _ => jR fun _ => jR fun _ => jR fun _ => jR fun _ => jR fun _ => nV (by kernel_rfl)) <| gV.nil
theorem r77 : fT Try.prog 77 F77 := dF (C := C0) ok0 (pf := pf9) aRI (fn := Try.f77) (body := B77) (kinds := [Kd.v]) (A := A77) (T := T77) (by kernel_rfl) (by kernel_rfl) (by kernel_rfl) (by kernel_rfl) (fun h S => t77 h S)
noncomputable def aPC : PF := EW 77 F77 pf9
theorem aJS : eB Try.prog aPC := iK r77 aRI
noncomputable def aJT := oU 77 F77 aRK
noncomputable def C27 : dL := cfg aJT
theorem bCG : C27.Ok := fK (C := C26) bCD r77
noncomputable def aZA : Code := (Try.f102.body).getD .skip
def aZB : eO := (Am 0 [(0, .v), (1, .v)] Ao (An Ao (An (An Ao (An (Am 1 [(5, .i .i64), (11, .v), (12, .i .i64)] (An Ao (An Az (An (An Az Ao) Ao))) Ao) Ao)) (Am 2 [(5, .i .i64)] Ao Ao))))
noncomputable def aTZ (S : Sg) (r5 : Int) (h : Hp) : aF :=
 some ((Value.int .i64 r5), h)
noncomputable def VA (S : Sg) (r5 : Int) (qC : Value) (xD : Int) (h : Hp) : aF :=
 bQ (lV xD (Int.ofNat 4)) fun b0 =>
 bY b0
 (bP (jP env 87 qC (Value.int .i64 xD)) fun v1 =>
 aR .i64 v1 fun i2 =>
 wrap64 (Int.add r5 i2) fun i3 =>
 wrap64 (Int.add xD (Int.ofNat 1)) fun i4 =>
 S 1 (AL.i i3 (AL.v qC (AL.i i4 AL.n))) h)
 (S 2 (AL.i r5 AL.n) h)
noncomputable def aBE (S : Sg) (r0 r1 : Value) (h : Hp) : aF :=
 bF h 71 (Array.toList (Value.cells r0)) fun a0 h0 =>
 aX 5 h0 a0 fun v1 =>
 aO (cZ F60 [v1, r1] h0) fun v2 h2 =>
 aO (bP (F77 [v2] h2) fun v => some (v, h2)) fun v3 h3 =>
 S 1 (AL.i (Int.ofNat 0) (AL.v v3 (AL.i (Int.ofNat 0) AL.n))) h3
noncomputable def OG (S : Sg) : Sg := bW 0 (uV fun r0 => uV fun r1 => uN (aBE S r0 r1)) (bW 1 (uI fun r5 => uV fun qC => uI fun xD => uN (VA S r5 qC xD)) (bW 2 (uI fun r5 => uN (aTZ S r5)) (jN)))
noncomputable def aBF (args : List Value) (h : Hp) : aF := bC [Kd.v, Kd.v] args fun al => aK OG 1000000 0 al h
def aZC : Nat := 2 + (20 - 2)
theorem t102 (S : Sg) : iQ (fun l vs h => aY (jV env aJT aZC) (jW env Try.f102.results.toList) (collect aZA aZB []) l S vs h) (OG S) := by
 unfold OG
 exact dJ (dN fun _ => dN fun _ => jC fun _ => by kernel_rfl) <| dJ (jL fun _ => dN fun _ => jL fun _ => jC fun _ => by kernel_rfl) <| dJ (jL fun _ => jC fun _ => by kernel_rfl) <| Go.bG.iQ.nil
theorem bCH : ∀ args h v h', aBF args h = some (v, h') → eF (C27) (.call 102 args.toArray h) (.ret v h') := by
 intro args h v h' e
 exact bD (C := C27) (fn := Try.f102) (body := aZA) (np := 2) (A := aZB) (T := OG) (kinds := [Kd.v, Kd.v]) (by kernel_rfl) (by kernel_rfl) (by kernel_rfl) (by kernel_rfl) (dG dK) (by kernel_rfl) (fun S => t102 S) e
noncomputable def aRL := jI 102 aBF aJT
noncomputable def C28 : dL := cfg aRL
theorem bCI : C28.Ok := dB (C := C27) bCG bCH
noncomputable def aZD : Code := (Try.f120.body).getD .skip
noncomputable def aZE : G.eO (List KI) := (Gm 0 [.reg 0 (.i .i64)] Gz Gy)
noncomputable def aT0 (h : Hp) (S : Nat → aC → Option Value) (r0 : Int) : Option Value :=
 bI (lD r0 r0) fun b0 =>
 some (Value.bool b0)
noncomputable def aPD (h : Hp) (S : Nat → aC → Option Value) : Nat → aC → Option Value := dR 0 (wI fun r0 => wN (aT0 h S r0)) (kH)
noncomputable def aFJ (args : List Value) (h : Hp) : Option Value := plainO (dS [Kd.i .i64] args fun al => G.aK (aPD h) 1000000 0 al)
def aZF : Nat := 1 + (6 - 1)
theorem t120 (h : Hp) (S : Nat → aC → Option Value) : gV (fun l al => G.aY iD bZ nT (oQ env aPC aZF h) (pM env Try.f120.results.toList) (G.collect aZD aZE []) l S al) (aPD h S) := by
 unfold aPD
 exact dV (jR fun _ => nV (by kernel_rfl)) <| gV.nil
theorem aZG : fT Try.prog 120 aFJ := dF (C := C0) ok0 (pf := aPC) aJS (fn := Try.f120) (body := aZD) (kinds := [Kd.i .i64]) (A := aZE) (T := aPD) (by kernel_rfl) (by kernel_rfl) (by kernel_rfl) (by kernel_rfl) (fun h S => t120 h S)
noncomputable def aPE : PF := EW 120 aFJ aPC
theorem aJU : eB Try.prog aPE := iK aZG aJS
noncomputable def aRM := oU 120 aFJ aRL
noncomputable def C29 : dL := cfg aRM
theorem bCJ : C29.Ok := fK (C := C28) bCI aZG
noncomputable def aZH : Code := (Try.f116.body).getD .skip
noncomputable def aZI : G.eO (List KI) := (Gm 0 [.reg 0 (.i .i64), .reg 1 (.i .i64)] Gz (Gn Gz (Gn Gz (Gn (Gn Gz (Gn (Gn (Gn Gz (Gn Gy Gz)) Gy) Gz)) (Gn (Gn Gz (Gn Gy Gz)) (Gn (Gn Gz (Gn Gy Gz)) (Gn (Gn Gz (Gn Gy Gz)) Gy)))))))
noncomputable def aBG (h : Hp) (S : Nat → aC → Option Value) (r0 r1 : Int) : Option Value :=
 bP (aFJ [(Value.int .i64 r0)] h) fun v0 =>
 dH v0 fun b1 =>
 bP (aFJ [(Value.int .i64 r1)] h) fun v2 =>
 dH v2 fun b3 =>
 bY b1
 (bY b3
 (some (Value.int .i64 (Int.ofNat 0)))
 (some (Value.int .i64 (Int.negSucc 0))))
 (bY b3
 (some (Value.int .i64 (Int.ofNat 1)))
 (bQ (lV r0 r1) fun b4 =>
 bY b4
 (some (Value.int .i64 (Int.negSucc 0)))
 (bQ (lV r1 r0) fun b5 =>
 bY b5
 (some (Value.int .i64 (Int.ofNat 1)))
 (some (Value.int .i64 (Int.ofNat 0))))))
noncomputable def aJV (h : Hp) (S : Nat → aC → Option Value) : Nat → aC → Option Value := dR 0 (wI fun r0 => wI fun r1 => wN (aBG h S r0 r1)) (kH)
noncomputable def aFK (args : List Value) (h : Hp) : Option Value := plainO (dS [Kd.i .i64, Kd.i .i64] args fun al => G.aK (aJV h) 1000000 0 al)
def aZJ : Nat := 2 + (20 - 2)
theorem t116 (h : Hp) (S : Nat → aC → Option Value) : gV (fun l al => G.aY iD bZ nT (oQ env aPE aZJ h) (pM env Try.f116.results.toList) (G.collect aZH aZI []) l S al) (aJV h S) := by
 unfold aJV
 exact dV (jR fun _ => jR fun _ => nV (by kernel_rfl)) <| gV.nil
theorem aZK : fT Try.prog 116 aFK := dF (C := C0) ok0 (pf := aPE) aJU (fn := Try.f116) (body := aZH) (kinds := [Kd.i .i64, Kd.i .i64]) (A := aZI) (T := aJV) (by kernel_rfl) (by kernel_rfl) (by kernel_rfl) (by kernel_rfl) (fun h S => t116 h S)
noncomputable def aPF : PF := EW 116 aFK aPE
theorem aJW : eB Try.prog aPF := iK aZK aJU
noncomputable def aRN := oU 116 aFK aRM
noncomputable def C30 : dL := cfg aRN
theorem bCK : C30.Ok := fK (C := C29) bCJ aZK
noncomputable def aZL : Code := (Try.f115.body).getD .skip
noncomputable def aZM : G.eO (List KI) := (Gm 0 [.reg 0 .v] Gz (Gn Gz (Gn (Gn Gz (Gn (Gm 1 [.reg 3 (.i .i64), .reg 6 .v, .reg 7 (.i .i64), .reg 8 (.i .i64)] (Gn Gz (Gn Gy (Gn (Gn (Gn Gz (Gn Gz (Gn Gy Gz))) Gz) Gz))) Gz) Gz)) (Gm 2 [.reg 3 (.i .i64)] Gz Gz))))
noncomputable def aT1 (h : Hp) (S : Nat → aC → Option Value) (r3 : Int) : Option Value :=
 some (Value.int .i64 r3)
noncomputable def OH (h : Hp) (S : Nat → aC → Option Value) (r3 : Int) (r6 : Value) (r7 r8 : Int) : Option Value :=
 bQ (lV r8 r7) fun b0 =>
 bY b0
 (dM 1 r6 r8 fun v1 =>
 aI h v1 fun v2 =>
 aR .i64 v2 fun i3 =>
 bI (lD i3 r3) fun b4 =>
 bY b4
 (some (Value.int .i64 i3))
 (wrap64 (Int.add r8 (Int.ofNat 1)) fun i5 =>
 S 1 (aC.i r3 (aC.v r6 (aC.i r7 (aC.i i5 aC.n))))))
 (S 2 (aC.i r3 aC.n))
noncomputable def aBH (h : Hp) (S : Nat → aC → Option Value) (r0 : Value) : Option Value :=
 bU r0 fun i0 =>
 S 1 (aC.i (Int.ofNat 0) (aC.v r0 (aC.i i0 (aC.i (Int.ofNat 0) aC.n))))
noncomputable def YE (h : Hp) (S : Nat → aC → Option Value) : Nat → aC → Option Value := dR 0 (wV fun r0 => wN (aBH h S r0)) (dR 1 (wI fun r3 => wV fun r6 => wI fun r7 => wI fun r8 => wN (OH h S r3 r6 r7 r8)) (dR 2 (wI fun r3 => wN (aT1 h S r3)) (kH)))
noncomputable def aJX (args : List Value) (h : Hp) : Option Value := plainO (dS [Kd.v] args fun al => G.aK (YE h) 1000000 0 al)
def aZN : Nat := 1 + (18 - 1)
theorem t115 (h : Hp) (S : Nat → aC → Option Value) : gV (fun l al => G.aY iD bZ nT (oQ env aPF aZN h) (pM env Try.f115.results.toList) (G.collect aZL aZM []) l S al) (YE h S) := by
 unfold YE
 exact dV (mO fun _ => nV (by kernel_rfl)) <| dV (jR fun _ => mO fun _ => jR fun _ => jR fun _ => nV (by kernel_rfl)) <| dV (jR fun _ => nV (by kernel_rfl)) <| gV.nil
theorem aZO : fT Try.prog 115 aJX := dF (C := C0) ok0 (pf := aPF) aJW (fn := Try.f115) (body := aZL) (kinds := [Kd.v]) (A := aZM) (T := YE) (by kernel_rfl) (by kernel_rfl) (by kernel_rfl) (by kernel_rfl) (fun h S => t115 h S)
noncomputable def aZP : PF := EW 115 aJX aPF
theorem aT2 : eB Try.prog aZP := iK aZO aJW
noncomputable def GZ := oU 115 aJX aRN
noncomputable def C31 : dL := cfg GZ
theorem bCL : C31.Ok := fK (C := C30) bCK aZO
noncomputable def aZQ : Code := (Try.f103.body).getD .skip
def aZR : eO := (Am 0 [(0, .v), (1, .v), (2, .v)] Ao Az)
noncomputable def aBI (S : Sg) (r0 r1 r2 : Value) (h : Hp) : aF :=
 bF h 135 (Array.toList (Value.cells r0)) fun a0 h0 =>
 aP 0 a0 fun v1 =>
 aI (Hp.mk (Hp.next h0) (Hp.next h0) (Hp.aD h0)) v1 fun v2 =>
 aO (qG GZ v2 [r1] (Hp.mk (Hp.next h0) (Hp.next h0) (Hp.aD h0))) fun v3 h3 =>
 aR .i64 v3 fun i4 =>
 aP 0 a0 fun v5 =>
 aI (Hp.mk (Hp.next h0) (Hp.next h0) (Hp.aD h0)) v5 fun v6 =>
 aO (qG GZ v6 [r2] (Hp.mk (Hp.next h0) (Hp.next h0) (Hp.aD h0))) fun v7 h7 =>
 aR .i64 v7 fun i8 =>
 aO (bP (aFK [(Value.int .i64 i4), (Value.int .i64 i8)] (Hp.mk (Hp.next h0) (Hp.next h0) (Hp.aD h0))) fun v => some (v, (Hp.mk (Hp.next h0) (Hp.next h0) (Hp.aD h0)))) fun v9 h9 =>
 aR .i64 v9 fun i10 =>
 aP 1 a0 fun v11 =>
 aI (Hp.mk (Hp.next h0) (Hp.next h0) (Hp.aD h0)) v11 fun v12 =>
 aO (qG GZ v12 [r1] (Hp.mk (Hp.next h0) (Hp.next h0) (Hp.aD h0))) fun v13 RZ =>
 aR .i64 v13 fun i14 =>
 aP 1 a0 fun v15 =>
 aI (Hp.mk (Hp.next h0) (Hp.next h0) (Hp.aD h0)) v15 fun v16 =>
 aO (qG GZ v16 [r2] (Hp.mk (Hp.next h0) (Hp.ro h0) (Hp.aD h0))) fun v17 h17 =>
 aR .i64 v17 fun i18 =>
 aO (bP (aFK [(Value.int .i64 i14), (Value.int .i64 i18)] h17) fun v => some (v, h17)) fun v19 h19 =>
 aR .i64 v19 fun i20 =>
 aO (bB env h19 22 2 (List.toArray [(0, (Value.int .i64 i10)), (1, (Value.int .i64 i20))])) fun v21 h21 =>
 aO (bP (aJX [v21] h21) fun v => some (v, h21)) fun v22 h22 =>
 aR .i64 v22 fun i23 =>
 some ((Value.int .i64 i23), h22)
noncomputable def aJY (S : Sg) : Sg := bW 0 (uV fun r0 => uV fun r1 => uV fun r2 => uN (aBI S r0 r1 r2)) (jN)
noncomputable def aFL (args : List Value) (h : Hp) : aF := bC [Kd.v, Kd.v, Kd.v] args fun al => aK aJY 1000000 0 al h
def aZS : Nat := 3 + (27 - 3)
theorem t103 (S : Sg) : iQ (fun l vs h => aY (jV env GZ aZS) (jW env Try.f103.results.toList) (collect aZQ aZR []) l S vs h) (aJY S) := by
 unfold aJY
 exact dJ (dN fun _ => dN fun _ => dN fun _ => jC fun _ => by kernel_rfl) <| Go.bG.iQ.nil
theorem bCM : ∀ args h v h', aFL args h = some (v, h') → eF (C31) (.call 103 args.toArray h) (.ret v h') := by
 intro args h v h' e
 exact bD (C := C31) (fn := Try.f103) (body := aZQ) (np := 3) (A := aZR) (T := aJY) (kinds := [Kd.v, Kd.v, Kd.v]) (by kernel_rfl) (by kernel_rfl) (by kernel_rfl) (by kernel_rfl) (dG dK) (by kernel_rfl) (fun S => t103 S) e
noncomputable def aJZ := jI 103 aFL GZ
noncomputable def C32 : dL := cfg aJZ
theorem ok32 : C32.Ok := dB (C := C31) bCL bCM
noncomputable def B58 : Code := (Try.f58.body).getD .skip
def A58 : eO := (Am 0 [(0, .v), (1, .v)] Ao (An Ao (An (An (An Ao (An Az (An Ao (An Az (An Ao (An Az Ao)))))) Ao) (An Ao (An (An Ao (An (Am 1 [(1, .v), (4, .v), (7, .v), (9, .v), (40, .v), (41, .i .i64), (42, .i .i64)] (An Ao (An Az (An (An (An Ao (An (An Ao (An Az Ao)) Ao)) Ao) Ao))) Ao) Ao)) (Am 2 [(4, .v), (7, .v), (9, .v)] Ao Ao))))))
noncomputable def aZT (S : Sg) (r4 r7 r9 : Value) (h : Hp) : aF :=
 aX 5 h r7 fun v0 =>
 dZ 5 h r4 v0 fun h1 =>
 aX 5 h1 r4 fun v2 => some (Value.tuple (List.toArray [v2, r9, (Value.int .i64 (Int.ofNat 0))]), h1)
noncomputable def aZU (S : Sg) (r1 r4 : Value) (r7 r9 r40 : Value) (r41 r42 : Int) (h : Hp) : aF :=
 bQ (lV r42 r41) fun b0 =>
 bY b0
 (dM 1 r40 r42 fun v1 =>
 aI h v1 fun v2 =>
 aR .i64 v2 fun i3 =>
 bP (gY env h 22 r1 none (some (Value.int .i64 r42)) none) fun v4 =>
 aO (bP (F90 [v4, (Value.int .i64 i3)] h) fun v => some (v, h)) fun v5 h5 =>
 dH v5 fun b6 =>
 bY b6
 (bP (jF env 71 (List.toArray [])) fun v7 =>
 dZ 5 h5 r4 v7 fun h8 =>
 aX 5 h8 r4 fun v9 => some (Value.tuple (List.toArray [v9, (Value.slice none 0 0), (Value.int .i64 (Int.ofNat 5))]), h8))
 (bP (jF env 76 (List.toArray [(0, (Value.int .i64 i3)), (1, (Value.int .i64 r42))])) fun v10 =>
 aO (bB env h5 79 1 (List.toArray [(0, v10)])) fun v11 h11 =>
 aO (fH env h11 #[79, 79] (List.toArray [r9, v11])) fun v12 h12 =>
 wrap64 (Int.add r42 (Int.ofNat 1)) fun i13 =>
 S 1 (AL.v r1 (AL.v r4 (AL.v r7 (AL.v v12 (AL.v r40 (AL.i r41 (AL.i i13 AL.n))))))) h12))
 (S 2 (AL.v r4 (AL.v r7 (AL.v r9 AL.n))) h)
noncomputable def aZV (S : Sg) (r0 r1 : Value) (h : Hp) : aF :=
 bF h 25 (Array.toList (Value.cells r0)) fun a0 h0 =>
 bF h0 71 [(Value.slice none 0 0), (Value.slice none 0 0), (Value.slice none 0 0), (Value.slice none 0 0), (Value.map none)] fun a1 h1 =>
 aX 4 h1 a0 fun v2 =>
 aO (cZ F63 [v2] h1) fun v3 h3 =>
 fU v3 0 fun v4 =>
 fU v3 1 fun v5 =>
 aR .i64 v5 fun i6 =>
 bF h3 71 [(Value.slice none 0 0), (Value.slice none 0 0), (Value.slice none 0 0), (Value.slice none 0 0), (Value.map none)] fun a7 h7 =>
 dZ 5 h7 a7 v4 fun h8 =>
 bI (lD i6 (Int.ofNat 0)) fun b9 =>
 bY b9
 (bP (jF env 71 (List.toArray [])) fun v10 =>
 dZ 5 h8 a1 v10 fun h11 =>
 aX 5 h11 a1 fun v12 => some (Value.tuple (List.toArray [v12, (Value.slice none 0 0), (Value.int .i64 i6)]), h11))
 (bU r1 fun i13 =>
 aP 0 a7 fun v14 =>
 aP 3 v14 fun v15 =>
 aI h8 v15 fun v16 =>
 bU v16 fun i17 =>
 bI (lD i13 i17) fun b18 =>
 bY b18
 (bP (jF env 71 (List.toArray [])) fun v19 =>
 dZ 5 h8 a1 v19 fun h20 =>
 aX 5 h20 a1 fun v21 => some (Value.tuple (List.toArray [v21, (Value.slice none 0 0), (Value.int .i64 (Int.ofNat 3))]), h20))
 (aP 0 a7 fun v22 =>
 aP 2 v22 fun v23 =>
 aI h8 v23 fun v24 =>
 bU v24 fun i25 =>
 aO (bP (F53 [(Value.int .i64 i25), r1] h8) fun v => some (v, h8)) fun v26 h26 =>
 dH v26 fun b27 =>
 bI b27 fun b28 =>
 bY b28
 (bP (jF env 71 (List.toArray [])) fun v29 =>
 dZ 5 h26 a1 v29 fun h30 =>
 aX 5 h30 a1 fun v31 => some (Value.tuple (List.toArray [v31, (Value.slice none 0 0), (Value.int .i64 (Int.ofNat 4))]), h30))
 (bU r1 fun i32 =>
 S 1 (AL.v r1 (AL.v a1 (AL.v a7 (AL.v (Value.slice none 0 0) (AL.v r1 (AL.i i32 (AL.i (Int.ofNat 0) AL.n))))))) h26)))
noncomputable def T58 (S : Sg) : Sg := bW 0 (uV fun r0 => uV fun r1 => uN (aZV S r0 r1)) (bW 1 (uV fun r1 => uV fun r4 => uV fun r7 => uV fun r9 => uV fun r40 => uI fun r41 => uI fun r42 => uN (aZU S r1 r4 r7 r9 r40 r41 r42)) (bW 2 (uV fun r4 => uV fun r7 => uV fun r9 => uN (aZT S r4 r7 r9)) (jN)))
noncomputable def F58 (args : List Value) (h : Hp) : aF := bC [Kd.v, Kd.v] args fun al => aK T58 1000000 0 al h
def bCN : Nat := 2 + (62 - 2)
theorem t58 (S : Sg) : iQ (fun l vs h => aY (jV env aJZ bCN) (jW env Try.f58.results.toList) (collect B58 A58 []) l S vs h) (T58 S) := by
 unfold T58
 exact dJ (dN fun _ => dN fun _ => jC fun _ => by kernel_rfl) <| dJ (dN fun _ => dN fun _ => dN fun _ => dN fun _ => dN fun _ => jL fun _ => jL fun _ => jC fun _ => by kernel_rfl) <| dJ (dN fun _ => dN fun _ => dN fun _ => jC fun _ => by kernel_rfl) <| Go.bG.iQ.nil
theorem r58 : ∀ args h v h', F58 args h = some (v, h') → eF (C32) (.call 58 args.toArray h) (.ret v h') := by
 intro args h v h' e
 exact bD (C := C32) (fn := Try.f58) (body := B58) (np := 2) (A := A58) (T := T58) (kinds := [Kd.v, Kd.v]) (by kernel_rfl) (by kernel_rfl) (by kernel_rfl) (by kernel_rfl) (dG dK) (by kernel_rfl) (fun S => t58 S) e
noncomputable def aJ0 := jI 58 F58 aJZ
noncomputable def C33 : dL := cfg aJ0
theorem bCO : C33.Ok := dB (C := C32) ok32 r58
noncomputable def B91 : Code := (Try.f91.body).getD .skip
def A91 : eO := (Am 0 [(0, .v)] Ao (An (An Ao (An Az Ao)) Az))
noncomputable def aZX (S : Sg) (r0 : Value) (h : Hp) : aF :=
 bP (pR env .eql 22 (Operand.tmp 3) (Operand.const (Value.slice none 0 0)) r0 (Value.slice none 0 0)) fun v0 =>
 dH v0 fun b1 =>
 bY b1
 (some ((Value.slice none 0 0), h))
 (aO (bB env h 22 0 (List.toArray [])) fun v2 h2 =>
 aO (fH env h2 #[22, 22] (List.toArray [v2, r0])) fun v3 h3 =>
 some (v3, h3))
noncomputable def T91 (S : Sg) : Sg := bW 0 (uV fun r0 => uN (aZX S r0)) (jN)
noncomputable def F91 (args : List Value) (h : Hp) : aF := bC [Kd.v] args fun al => aK T91 1000000 0 al h
def bCQ : Nat := 1 + (8 - 1)
theorem t91 (S : Sg) : iQ (fun l vs h => aY (jV env aJ0 bCQ) (jW env Try.f91.results.toList) (collect B91 A91 []) l S vs h) (T91 S) := by
 unfold T91
 exact dJ (dN fun _ => jC fun _ => by kernel_rfl) <| Go.bG.iQ.nil
theorem r91 : ∀ args h v h', F91 args h = some (v, h') → eF (C33) (.call 91 args.toArray h) (.ret v h') := by
 intro args h v h' e
 exact bD (C := C33) (fn := Try.f91) (body := B91) (np := 1) (A := A91) (T := T91) (kinds := [Kd.v]) (by kernel_rfl) (by kernel_rfl) (by kernel_rfl) (by kernel_rfl) (dG dK) (by kernel_rfl) (fun S => t91 S) e
noncomputable def aJ1 := jI 91 F91 aJ0
noncomputable def C34 : dL := cfg aJ1
theorem bCR : C34.Ok := dB (C := C33) bCO r91
noncomputable def B59 : Code := (Try.f59.body).getD .skip
def A59 : eO := (Am 0 [(0, .v), (1, .v)] Ao Az)
noncomputable def aZY (S : Sg) (r0 r1 : Value) (h : Hp) : aF :=
 bF h 71 (Array.toList (Value.cells r0)) fun a0 h0 =>
 bF h0 87 (Array.toList (Value.cells r1)) fun a1 h1 =>
 aP 0 a0 fun v2 =>
 aP 1 v2 fun v3 =>
 aI h1 v3 fun v4 =>
 bU v4 fun i5 =>
 bP (gY env h1 87 a1 none (some (Value.int .i64 i5)) none) fun v6 =>
 aO (cZ F91 [v6] h1) fun v7 h7 =>
 some (v7, h7)
noncomputable def T59 (S : Sg) : Sg := bW 0 (uV fun r0 => uV fun r1 => uN (aZY S r0 r1)) (jN)
noncomputable def F59 (args : List Value) (h : Hp) : aF := bC [Kd.v, Kd.v] args fun al => aK T59 1000000 0 al h
def bCT : Nat := 2 + (11 - 2)
theorem t59 (S : Sg) : iQ (fun l vs h => aY (jV env aJ1 bCT) (jW env Try.f59.results.toList) (collect B59 A59 []) l S vs h) (T59 S) := by
 unfold T59
 exact dJ (dN fun _ => dN fun _ => jC fun _ => by kernel_rfl) <| Go.bG.iQ.nil
theorem r59 : ∀ args h v h', F59 args h = some (v, h') → eF (C34) (.call 59 args.toArray h) (.ret v h') := by
 intro args h v h' e
 exact bD (C := C34) (fn := Try.f59) (body := B59) (np := 2) (A := A59) (T := T59) (kinds := [Kd.v, Kd.v]) (by kernel_rfl) (by kernel_rfl) (by kernel_rfl) (by kernel_rfl) (dG dK) (by kernel_rfl) (fun S => t59 S) e
noncomputable def aJ2 := jI 59 F59 aJ1
noncomputable def C35 : dL := cfg aJ2
theorem bCU : C35.Ok := dB (C := C34) bCR r59
noncomputable def B22 : Code := (Try.f22.body).getD .skip
def A22 : eO := (Am 0 [(0, .v), (1, .v)] Ao (An Ao (An (An Ao (An Az Ao)) Az)))
noncomputable def aZZ (S : Sg) (r0 r1 : Value) (h : Hp) : aF :=
 bF h 25 (Array.toList (Value.cells r0)) fun a0 h0 =>
 aX 4 h0 a0 fun v1 =>
 aO (cZ F58 [v1, r1] h0) fun v2 h2 =>
 fU v2 0 fun v3 =>
 fU v2 1 fun v4 =>
 fU v2 2 fun v5 =>
 aR .i64 v5 fun i6 =>
 bF h2 71 [(Value.slice none 0 0), (Value.slice none 0 0), (Value.slice none 0 0), (Value.slice none 0 0), (Value.map none)] fun a7 h7 =>
 dZ 5 h7 a7 v3 fun h8 =>
 bI (lD i6 (Int.ofNat 0)) fun b9 =>
 bY b9
 (some (Value.tuple (List.toArray [(Value.slice none 0 0), (Value.int .i64 i6)]), h8))
 (aX 5 h8 a7 fun v10 =>
 aX 5 h8 a7 fun v11 =>
 aO (aO (cZ F60 [v11, v4] (Hp.mk (Hp.next h8) (Hp.next h8) (Hp.aD h8))) fun v _ => bY (kW v) (some (v, h8)) none) fun v12 h12 =>
 aO (cZ F59 [v10, v12] h12) fun v13 RZ =>
 some (Value.tuple (List.toArray [v13, (Value.int .i64 (Int.ofNat 0))]), RZ))
noncomputable def T22 (S : Sg) : Sg := bW 0 (uV fun r0 => uV fun r1 => uN (aZZ S r0 r1)) (jN)
noncomputable def F22 (args : List Value) (h : Hp) : aF := bC [Kd.v, Kd.v] args fun al => aK T22 1000000 0 al h
def bCV : Nat := 2 + (24 - 2)
theorem t22 (S : Sg) : iQ (fun l vs h => aY (jV env aJ2 bCV) (jW env Try.f22.results.toList) (collect B22 A22 []) l S vs h) (T22 S) := by
 unfold T22
 exact dJ (dN fun _ => dN fun _ => jC fun _ => by kernel_rfl) <| Go.bG.iQ.nil
theorem SA : ∀ args h v h', F22 args h = some (v, h') → eF (C35) (.call 22 args.toArray h) (.ret v h') := by
 intro args h v h' e
 exact bD (C := C35) (fn := Try.f22) (body := B22) (np := 2) (A := A22) (T := T22) (kinds := [Kd.v, Kd.v]) (by kernel_rfl) (by kernel_rfl) (by kernel_rfl) (by kernel_rfl) (dG dK) (by kernel_rfl) (fun S => t22 S) e
noncomputable def aJ3 := jI 22 F22 aJ2
noncomputable def C36 : dL := cfg aJ3
theorem bCW : C36.Ok := dB (C := C35) bCU SA
noncomputable def B62 : Code := (Try.f62.body).getD .skip
def A62 : eO := (Am 0 [(0, .v), (1, .v)] Ao Az)
noncomputable def aJ4 (S : Sg) (r0 r1 : Value) (h : Hp) : aF :=
 bF h 71 (Array.toList (Value.cells r0)) fun a0 h0 =>
 aX 5 h0 a0 fun v1 =>
 aO (cZ F60 [v1, r1] h0) fun v2 h2 =>
 aO (bP (F77 [v2] h2) fun v => some (v, h2)) fun v3 h3 =>
 bP (jF env 87 (List.toArray [])) fun v4 =>
 bP (pR env .eql 87 (Operand.tmp 8) (Operand.tmp 9) v3 v4) fun v5 =>
 dH v5 fun b6 =>
 some ((Value.bool b6), h3)
noncomputable def T62 (S : Sg) : Sg := bW 0 (uV fun r0 => uV fun r1 => uN (aJ4 S r0 r1)) (jN)
noncomputable def F62 (args : List Value) (h : Hp) : aF := bC [Kd.v, Kd.v] args fun al => aK T62 1000000 0 al h
def bCX : Nat := 2 + (11 - 2)
theorem t62 (S : Sg) : iQ (fun l vs h => aY (jV env aJ3 bCX) (jW env Try.f62.results.toList) (collect B62 A62 []) l S vs h) (T62 S) := by
 unfold T62
 exact dJ (dN fun _ => dN fun _ => jC fun _ => by kernel_rfl) <| Go.bG.iQ.nil
theorem r62 : ∀ args h v h', F62 args h = some (v, h') → eF (C36) (.call 62 args.toArray h) (.ret v h') := by
 intro args h v h' e
 exact bD (C := C36) (fn := Try.f62) (body := B62) (np := 2) (A := A62) (T := T62) (kinds := [Kd.v, Kd.v]) (by kernel_rfl) (by kernel_rfl) (by kernel_rfl) (by kernel_rfl) (dG dK) (by kernel_rfl) (fun S => t62 S) e
noncomputable def aJ5 := jI 62 F62 aJ3
noncomputable def C37 : dL := cfg aJ5
theorem bCY : C37.Ok := dB (C := C36) bCW r62
noncomputable def B24 : Code := (Try.f24.body).getD .skip
def A24 : eO := (Am 0 [(0, .v), (1, .v)] Ao (An Ao (An (An Ao (An Az Ao)) (An (An Ao (An Az Ao)) Az))))
noncomputable def aZ1 (S : Sg) (r0 r1 : Value) (h : Hp) : aF :=
 bF h 25 (Array.toList (Value.cells r0)) fun a0 h0 =>
 aX 4 h0 a0 fun v1 =>
 aO (cZ F58 [v1, r1] h0) fun v2 h2 =>
 fU v2 0 fun v3 =>
 fU v2 1 fun v4 =>
 fU v2 2 fun v5 =>
 aR .i64 v5 fun i6 =>
 bF h2 71 [(Value.slice none 0 0), (Value.slice none 0 0), (Value.slice none 0 0), (Value.slice none 0 0), (Value.map none)] fun a7 h7 =>
 dZ 5 h7 a7 v3 fun h8 =>
 bI (lD i6 (Int.ofNat 0)) fun b9 =>
 bY b9
 (some (Value.tuple (List.toArray [(Value.int .i64 (Int.ofNat 0)), (Value.int .i64 i6)]), h8))
 (aX 5 h8 a7 fun v10 =>
 aO (cZ F62 [v10, v4] h8) fun v11 h11 =>
 dH v11 fun b12 =>
 bI b12 fun b13 =>
 bY b13
 (some (Value.tuple (List.toArray [(Value.int .i64 (Int.ofNat 0)), (Value.int .i64 (Int.ofNat 9))]), h11))
 (aX 5 h11 a7 fun v14 =>
 aO (bP (F54 [v14, v4] h11) fun v => some (v, h11)) fun v15 h15 =>
 aR .i64 v15 fun i16 =>
 some (Value.tuple (List.toArray [(Value.int .i64 i16), (Value.int .i64 (Int.ofNat 0))]), h15)))
noncomputable def T24 (S : Sg) : Sg := bW 0 (uV fun r0 => uV fun r1 => uN (aZ1 S r0 r1)) (jN)
noncomputable def F24 (args : List Value) (h : Hp) : aF := bC [Kd.v, Kd.v] args fun al => aK T24 1000000 0 al h
def bC0 : Nat := 2 + (26 - 2)
theorem t24 (S : Sg) : iQ (fun l vs h => aY (jV env aJ5 bC0) (jW env Try.f24.results.toList) (collect B24 A24 []) l S vs h) (T24 S) := by
 unfold T24
 exact dJ (dN fun _ => dN fun _ => jC fun _ => by kernel_rfl) <| Go.bG.iQ.nil
theorem r24 : ∀ args h v h', F24 args h = some (v, h') → eF (C37) (.call 24 args.toArray h) (.ret v h') := by
 intro args h v h' e
 exact bD (C := C37) (fn := Try.f24) (body := B24) (np := 2) (A := A24) (T := T24) (kinds := [Kd.v, Kd.v]) (by kernel_rfl) (by kernel_rfl) (by kernel_rfl) (by kernel_rfl) (dG dK) (by kernel_rfl) (fun S => t24 S) e
noncomputable def aJ6 := jI 24 F24 aJ5
noncomputable def C38 : dL := cfg aJ6
theorem aZ2 : C38.Ok := dB (C := C37) bCY r24
noncomputable abbrev aZ3 := aJ6
theorem okE : (cfg aZ3).Ok := aZ2
end Go.Proofs.Ytdpicdnpiihaaaa.K
