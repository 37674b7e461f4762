/- Functions told. -/
import Derived.Test.YtdpicdnpiihaaaaBoTab
import Derived.Test.YtdpicdnpiihaaaaBoEngC
import Derived.Test.YtdpicdnpiihaaaaBoEngD
open Go Go.bK Go.bK.Y
set_option maxRecDepth 100000
set_option linter.unusedVariables false
namespace Go.Proofs.Ytdpicdnpiihaaaa.K
noncomputable def B82 : Code := (Try.f82.body).getD .skip
noncomputable def A82 : G.eT (List KI) := (Gm 0 [.reg 0 (.i .i64), .reg 1 (.i .i64), .reg 2 .v] Gz (Gn (Gn Gz (Gn (Gm 1 [.reg 0 (.i .i64), .reg 1 (.i .i64), .reg 9 .v, .reg 10 (.i .i64), .reg 11 (.i .i64)] (Gn Gz (Gn Gy (Gn (Gn (Gn Gz (Gn Gz (Gn Gy Gz))) Gz) Gz))) Gz) Gz)) (Gm 2 [] Gz Gz)))
noncomputable def aIZ (h : Hp) (S : Nat → aD → Option Value) : Option Value :=
 some (Value.bool true)
noncomputable def YQ (h : Hp) (S : Nat → aD → Option Value) (r0 r1 : Int) (r9 : Value) (mD kH : Int) : Option Value :=
 bQ (lI kH mD) fun b0 =>
 bY b0
 (dS 1 r9 kH fun v1 =>
 aI h v1 fun v2 =>
 aS .i64 v2 fun i3 =>
 bQ (lI i3 r0) fun b4 =>
 bY b4
 (some (Value.bool false))
 (bQ (lI r1 i3) fun b5 =>
 bY b5
 (some (Value.bool false))
 (wrap64 (Int.add kH (Int.ofNat 1)) fun i6 =>
 S 1 (aD.i r0 (aD.i r1 (aD.v r9 (aD.i mD (aD.i i6 aD.n))))))))
 (S 2 aD.n)
noncomputable def aI0 (h : Hp) (S : Nat → aD → Option Value) (r0 r1 : Int) (r2 : Value) : Option Value :=
 bW r2 fun i0 =>
 S 1 (aD.i r0 (aD.i r1 (aD.v r2 (aD.i i0 (aD.i (Int.ofNat 0) aD.n)))))
noncomputable def T82 (h : Hp) (S : Nat → aD → Option Value) : Nat → aD → Option Value := dU 0 (wI fun r0 => wI fun r1 => wV fun r2 => wN (aI0 h S r0 r1 r2)) (dU 1 (wI fun r0 => wI fun r1 => wV fun r9 => wI fun mD => wI fun kH => wN (YQ h S r0 r1 r9 mD kH)) (dU 2 (wN (aIZ h S)) (kP)))
noncomputable def F82 (args : List Value) (h : Hp) : Option Value := plainO (dV [Kd.i .i64, Kd.i .i64, Kd.v] args fun al => G.aK (T82 h) 1000000 0 al)
def bB4 : Nat := 3 + (24 - 3)
theorem t82 (h : Hp) (S : Nat → aD → Option Value) : gW (fun l al => G.aY iF dB oM (pJ env pf0 bB4 h) (qE env Try.f82.results.toList) (G.collect B82 A82 []) l S al) (T82 h S) := by
 unfold T82
 exact dX (jX fun _ => jX fun _ => nA fun _ => oO (by kernel_rfl)) <| dX (jX fun _ => jX fun _ => nA fun _ => jX fun _ => jX fun _ => oO (by kernel_rfl)) <| dX (oO (by kernel_rfl)) <| gW.nil
theorem r82 : fZ Try.prog 82 F82 := dI (C := C0) ok0 (pf := pf0) aRM (fn := Try.f82) (body := B82) (kinds := [Kd.i .i64, Kd.i .i64, Kd.v]) (A := A82) (T := T82) (by kernel_rfl) (by kernel_rfl) (by kernel_rfl) (by kernel_rfl) (fun h S => t82 h S)
noncomputable def pf1 : PF := FH 82 F82 pf0
theorem aRN : eO Try.prog pf1 := iN r82 aRM
noncomputable def aT8 := pK 82 F82 aYC
noncomputable def C1 : dO := cfg aT8
theorem ok1 : C1.Ok := fT (C := C0) ok0 r82
noncomputable def B81 : Code := (Try.f81.body).getD .skip
def A81 : eT := (Am 0 [(0, .v), (1, .i .i64), (2, .v)] Ao (An (An Ao (An Az Ao)) Az))
noncomputable def aI1 (S : Sg) (r0 : Value) (r1 : Int) (r2 : Value) (h : Hp) : aF :=
 aI h r2 fun v0 =>
 aS .i64 v0 fun i1 =>
 aN (bA env h 22 1 (List.toArray [(0, (Value.int .i64 r1))])) fun v2 h2 =>
 aN (bS (F82 [(Value.int .i64 (Int.ofNat 0)), (Value.int .i64 i1), v2] h2) fun v => some (v, h2)) fun v3 h3 =>
 dM v3 fun b4 =>
 bE b4 fun b5 =>
 bY b5
 (some ((Value.int .i64 (Int.ofNat 7)), h3))
 (some ((Value.int .i64 (Int.ofNat 0)), h3))
noncomputable def T81 (S : Sg) : Sg := cK 0 (uV fun r0 => uI fun r1 => uV fun r2 => uN (aI1 S r0 r1 r2)) (jI)
noncomputable def F81 (args : List Value) (h : Hp) : aF := bB [Kd.v, Kd.i .i64, Kd.v] args fun al => aK T81 1000000 0 al h
def bB5 : Nat := 3 + (11 - 3)
theorem t81 (S : Sg) : iO (fun l vs h => aY (jZ env aT8 bB5) (jV env Try.f81.results.toList) (collect B81 A81 []) l S vs h) (T81 S) := by
 unfold T81
 exact dK (dN fun _ => jG fun _ => dN fun _ => iZ fun _ => by kernel_rfl) <| Go.bK.iO.nil
theorem r81 : ∀ args h v h', F81 args h = some (v, h') → eF (C1) (.call 81 args.toArray h) (.ret v h') := by
 intro args h v h' e
 exact bC (C := C1) (fn := Try.f81) (body := B81) (np := 3) (A := A81) (T := T81) (kinds := [Kd.v, Kd.i .i64, Kd.v]) (by kernel_rfl) (by kernel_rfl) (by kernel_rfl) (by kernel_rfl) (dH dL) (by kernel_rfl) (fun S => t81 S) e
noncomputable def aBS := jF 81 F81 aT8
noncomputable def C2 : dO := cfg aBS
theorem ok2 : C2.Ok := dA (C := C1) ok1 r81
noncomputable def aYE : Code := (Try.f104.body).getD .skip
def aYF : eT := (Am 0 [(0, .v), (1, .v)] Ao (An (An Ao (An (Am 1 [(0, .v), (1, .v), (9, .v), (10, .i .i64), (11, .i .i64)] (An Ao (An Az (An (An (An Ao (An Ao (An Ao (An Az Ao)))) Ao) Ao))) Ao) Ao)) (Am 2 [] Ao Ao)))
noncomputable def aT9 (S : Sg) (h : Hp) : aF :=
 some (Value.tuple (List.toArray [(Value.int .i64 (Int.ofNat 0)), (Value.int .i64 (Int.ofNat 0))]), h)
noncomputable def OY (S : Sg) (r0 r1 r9 : Value) (mD kH : Int) (h : Hp) : aF :=
 bQ (lI kH mD) fun b0 =>
 bY b0
 (dS 1 r9 kH fun v1 =>
 aI h v1 fun v2 =>
 aS .i64 v2 fun i3 =>
 bS (jA env h 22 r0 none (some (Value.int .i64 kH)) none) fun v4 =>
 aN (qR aBS r1 [v4, (Value.int .i64 i3)] h) fun v5 h5 =>
 aS .i64 v5 fun i6 =>
 bE (kF i6 (Int.ofNat 0)) fun b7 =>
 bY b7
 (some (Value.tuple (List.toArray [(Value.int .i64 kH), (Value.int .i64 i6)]), h5))
 (wrap64 (Int.add kH (Int.ofNat 1)) fun i8 =>
 S 1 (AL.v r0 (AL.v r1 (AL.v r9 (AL.i mD (AL.i i8 AL.n))))) h5))
 (S 2 AL.n h)
noncomputable def aBT (S : Sg) (r0 r1 : Value) (h : Hp) : aF :=
 bW r0 fun i0 =>
 S 1 (AL.v r0 (AL.v r1 (AL.v r0 (AL.i i0 (AL.i (Int.ofNat 0) AL.n))))) h
noncomputable def YR (S : Sg) : Sg := cK 0 (uV fun r0 => uV fun r1 => uN (aBT S r0 r1)) (cK 1 (uV fun r0 => uV fun r1 => uV fun r9 => uI fun mD => uI fun kH => uN (OY S r0 r1 r9 mD kH)) (cK 2 (uN fun h => aT9 S  h) (jI)))
noncomputable def aPR (args : List Value) (h : Hp) : aF := bB [Kd.v, Kd.v] args fun al => aK YR 1000000 0 al h
def aYG : Nat := 2 + (27 - 2)
theorem t104 (S : Sg) : iO (fun l vs h => aY (jZ env aBS aYG) (jV env Try.f104.results.toList) (collect aYE aYF []) l S vs h) (YR S) := by
 unfold YR
 exact dK (dN fun _ => dN fun _ => iZ fun _ => by kernel_rfl) <| dK (dN fun _ => dN fun _ => dN fun _ => jG fun _ => jG fun _ => iZ fun _ => by kernel_rfl) <| dK (iZ fun _ => by kernel_rfl) <| Go.bK.iO.nil
theorem bB6 : ∀ args h v h', aPR args h = some (v, h') → eF (C2) (.call 104 args.toArray h) (.ret v h') := by
 intro args h v h' e
 exact bC (C := C2) (fn := Try.f104) (body := aYE) (np := 2) (A := aYF) (T := YR) (kinds := [Kd.v, Kd.v]) (by kernel_rfl) (by kernel_rfl) (by kernel_rfl) (by kernel_rfl) (dH dL) (by kernel_rfl) (fun S => t104 S) e
noncomputable def aUA := jF 104 aPR aBS
noncomputable def C3 : dO := cfg aUA
theorem ok3 : C3.Ok := dA (C := C2) ok2 bB6
noncomputable def B80 : Code := (Try.f80.body).getD .skip
def A80 : eT := (Am 0 [(0, .v), (1, .i .i64), (2, .v)] Ao (An (An Ao (An Az Ao)) Az))
noncomputable def aI2 (S : Sg) (r0 : Value) (r1 : Int) (r2 : Value) (h : Hp) : aF :=
 bW r0 fun i0 =>
 bQ (lI r1 i0) fun b1 =>
 bY b1
 (some (Value.tuple (List.toArray [(Value.int .i64 (Int.ofNat 0)), (Value.int .i64 (Int.ofNat 3))]), h))
 (aN (bV aPR [r0, r2] h) fun v2 h2 =>
 fF v2 0 fun v3 =>
 aS .i64 v3 fun i4 =>
 fF v2 1 fun v5 =>
 aS .i64 v5 fun i6 =>
 some (Value.tuple (List.toArray [(Value.int .i64 i4), (Value.int .i64 i6)]), h2))
noncomputable def T80 (S : Sg) : Sg := cK 0 (uV fun r0 => uI fun r1 => uV fun r2 => uN (aI2 S r0 r1 r2)) (jI)
noncomputable def F80 (args : List Value) (h : Hp) : aF := bB [Kd.v, Kd.i .i64, Kd.v] args fun al => aK T80 1000000 0 al h
def bB7 : Nat := 3 + (17 - 3)
theorem t80 (S : Sg) : iO (fun l vs h => aY (jZ env aUA bB7) (jV env Try.f80.results.toList) (collect B80 A80 []) l S vs h) (T80 S) := by
 unfold T80
 exact dK (dN fun _ => jG fun _ => dN fun _ => iZ fun _ => by kernel_rfl) <| Go.bK.iO.nil
theorem r80 : ∀ args h v h', F80 args h = some (v, h') → eF (C3) (.call 80 args.toArray h) (.ret v h') := by
 intro args h v h' e
 exact bC (C := C3) (fn := Try.f80) (body := B80) (np := 3) (A := A80) (T := T80) (kinds := [Kd.v, Kd.i .i64, Kd.v]) (by kernel_rfl) (by kernel_rfl) (by kernel_rfl) (by kernel_rfl) (dH dL) (by kernel_rfl) (fun S => t80 S) e
noncomputable def aUB := jF 80 F80 aUA
noncomputable def C4 : dO := cfg aUB
theorem ok4 : C4.Ok := dA (C := C3) ok3 r80
noncomputable def B48 : Code := (Try.f48.body).getD .skip
def A48 : eT := (Am 0 [(0, .v), (1, .i .i64), (2, .i .i64)] Ao (An (An Ao (An Az Ao)) Az))
noncomputable def aI3 (S : Sg) (r0 : Value) (r1 r2 : Int) (h : Hp) : aF :=
 bD h 3 [(Value.int .i64 r2)] fun a0 h0 =>
 bW r0 fun i1 =>
 bQ (kF i1 (Int.ofNat 0)) fun b2 =>
 bY b2
 (some (Value.tuple (List.toArray [(Value.int .i64 (Int.ofNat 0)), (Value.int .i64 (Int.ofNat 3))]), h0))
 (aN (bV F80 [r0, (Value.int .i64 r1), (Value.func (.func 81) (List.toArray []) (List.toArray [a0]))] h0) fun v3 h3 =>
 fF v3 0 fun v4 =>
 aS .i64 v4 fun i5 =>
 fF v3 1 fun v6 =>
 aS .i64 v6 fun i7 =>
 some (Value.tuple (List.toArray [(Value.int .i64 i5), (Value.int .i64 i7)]), h3))
noncomputable def T48 (S : Sg) : Sg := cK 0 (uV fun r0 => uI fun r1 => uI fun r2 => uN (aI3 S r0 r1 r2)) (jI)
noncomputable def F48 (args : List Value) (h : Hp) : aF := bB [Kd.v, Kd.i .i64, Kd.i .i64] args fun al => aK T48 1000000 0 al h
def bB8 : Nat := 3 + (17 - 3)
theorem t48 (S : Sg) : iO (fun l vs h => aY (jZ env aUB bB8) (jV env Try.f48.results.toList) (collect B48 A48 []) l S vs h) (T48 S) := by
 unfold T48
 exact dK (dN fun _ => jG fun _ => jG fun _ => iZ fun _ => by kernel_rfl) <| Go.bK.iO.nil
theorem r48 : ∀ args h v h', F48 args h = some (v, h') → eF (C4) (.call 48 args.toArray h) (.ret v h') := by
 intro args h v h' e
 exact bC (C := C4) (fn := Try.f48) (body := B48) (np := 3) (A := A48) (T := T48) (kinds := [Kd.v, Kd.i .i64, Kd.i .i64]) (by kernel_rfl) (by kernel_rfl) (by kernel_rfl) (by kernel_rfl) (dH dL) (by kernel_rfl) (fun S => t48 S) e
noncomputable def aYK := jF 48 F48 aUB
noncomputable def C5 : dO := cfg aYK
theorem ok5 : C5.Ok := dA (C := C4) ok4 r48
noncomputable def B87 : Code := (Try.f87.body).getD .skip
noncomputable def A87 : G.eT (List KI) := (Gm 0 [.reg 0 .v, .reg 1 .v] Gz Gy)
noncomputable def aI4 (h : Hp) (S : Nat → aD → Option Value) (r0 r1 : Value) : Option Value :=
 o9 (Array.toList (Value.cells r0)) fun c0 =>
 A7 c0 0 fun v1 =>
 aR 0 r1 fun v2 =>
 aI h v2 fun v3 =>
 bS (qP env .eql 9 (Operand.tmp 5) (Operand.tmp 7) v1 v3) fun v4 =>
 dM v4 fun b5 =>
 some (Value.bool b5)
noncomputable def T87 (h : Hp) (S : Nat → aD → Option Value) : Nat → aD → Option Value := dU 0 (wV fun r0 => wV fun r1 => wN (aI4 h S r0 r1)) (kP)
noncomputable def F87 (args : List Value) (h : Hp) : Option Value := plainO (dV [Kd.v, Kd.v] args fun al => G.aK (T87 h) 1000000 0 al)
def bB9 : Nat := 2 + (9 - 2)
theorem t87 (h : Hp) (S : Nat → aD → Option Value) : gW (fun l al => G.aY iF dB oM (pJ env pf1 bB9 h) (qE env Try.f87.results.toList) (G.collect B87 A87 []) l S al) (T87 h S) := by
 unfold T87
 exact dX (nA fun _ => nA fun _ => oO (by kernel_rfl)) <| gW.nil
theorem r87 : fZ Try.prog 87 F87 := dI (C := C0) ok0 (pf := pf1) aRN (fn := Try.f87) (body := B87) (kinds := [Kd.v, Kd.v]) (A := A87) (T := T87) (by kernel_rfl) (by kernel_rfl) (by kernel_rfl) (by kernel_rfl) (fun h S => t87 h S)
noncomputable def pf2 : PF := FH 87 F87 pf1
theorem aRO : eO Try.prog pf2 := iN r87 aRN
noncomputable def aYN := pK 87 F87 aYK
noncomputable def C6 : dO := cfg aYN
theorem ok6 : C6.Ok := fT (C := C5) ok5 r87
noncomputable def aYO : Code := (Try.f106.body).getD .skip
noncomputable def aYP : G.eT (List KI) := (Gm 0 [.reg 0 (.i .u8)] Gz Gy)
noncomputable def aBU (h : Hp) (S : Nat → aD → Option Value) (r0 : Int) : Option Value :=
 bE (lI r0 (Int.ofNat 97)) fun b0 =>
 bY b0
 (bE (lI (Int.ofNat 122) r0) fun b1 =>
 some (Value.bool b1))
 (some (Value.bool false))
noncomputable def aI5 (h : Hp) (S : Nat → aD → Option Value) : Nat → aD → Option Value := dU 0 (wI fun r0 => wN (aBU h S r0)) (kP)
noncomputable def aF2 (args : List Value) (h : Hp) : Option Value := plainO (dV [Kd.i .u8] args fun al => G.aK (aI5 h) 1000000 0 al)
def aYQ : Nat := 1 + (9 - 1)
theorem t106 (h : Hp) (S : Nat → aD → Option Value) : gW (fun l al => G.aY iF dB oM (pJ env pf2 aYQ h) (qE env Try.f106.results.toList) (G.collect aYO aYP []) l S al) (aI5 h S) := by
 unfold aI5
 exact dX (jX fun _ => oO (by kernel_rfl)) <| gW.nil
theorem aYR : fZ Try.prog 106 aF2 := dI (C := C0) ok0 (pf := pf2) aRO (fn := Try.f106) (body := aYO) (kinds := [Kd.i .u8]) (A := aYP) (T := aI5) (by kernel_rfl) (by kernel_rfl) (by kernel_rfl) (by kernel_rfl) (fun h S => t106 h S)
noncomputable def pf3 : PF := FH 106 aF2 pf2
theorem aRP : eO Try.prog pf3 := iN aYR aRO
noncomputable def aYS := pK 106 aF2 aYN
noncomputable def C7 : dO := cfg aYS
theorem ok7 : C7.Ok := fT (C := C6) ok6 aYR
noncomputable def aYT : Code := (Try.f107.body).getD .skip
noncomputable def aYU : G.eT (List KI) := (Gm 0 [.reg 0 (.i .u8)] Gz Gy)
noncomputable def aBV (h : Hp) (S : Nat → aD → Option Value) (r0 : Int) : Option Value :=
 bE (lI r0 (Int.ofNat 48)) fun b0 =>
 bY b0
 (bE (lI (Int.ofNat 57) r0) fun b1 =>
 some (Value.bool b1))
 (some (Value.bool false))
noncomputable def aI6 (h : Hp) (S : Nat → aD → Option Value) : Nat → aD → Option Value := dU 0 (wI fun r0 => wN (aBV h S r0)) (kP)
noncomputable def aI7 (args : List Value) (h : Hp) : Option Value := plainO (dV [Kd.i .u8] args fun al => G.aK (aI6 h) 1000000 0 al)
def aYV : Nat := 1 + (9 - 1)
theorem t107 (h : Hp) (S : Nat → aD → Option Value) : gW (fun l al => G.aY iF dB oM (pJ env pf3 aYV h) (qE env Try.f107.results.toList) (G.collect aYT aYU []) l S al) (aI6 h S) := by
 unfold aI6
 exact dX (jX fun _ => oO (by kernel_rfl)) <| gW.nil
theorem aYW : fZ Try.prog 107 aI7 := dI (C := C0) ok0 (pf := pf3) aRP (fn := Try.f107) (body := aYT) (kinds := [Kd.i .u8]) (A := aYU) (T := aI6) (by kernel_rfl) (by kernel_rfl) (by kernel_rfl) (by kernel_rfl) (fun h S => t107 h S)
noncomputable def pf4 : PF := FH 107 aI7 pf3
theorem aRQ : eO Try.prog pf4 := iN aYW aRP
noncomputable def aUC := pK 107 aI7 aYS
noncomputable def C8 : dO := cfg aUC
theorem ok8 : C8.Ok := fT (C := C7) ok7 aYW
noncomputable def B85 : Code := (Try.f85.body).getD .skip
def A85 : eT := (Am 0 [(0, .v)] Ao (An (An Ao (An Az Ao)) (An (An Ao (An (Am 1 [(0, .v), (16, .i .i64), (17, .i .i64)] (An Ao (An Az (An (An (An Ao (An Ao (An Az Ao))) Ao) Ao))) Ao) Ao)) (Am 2 [] Ao Ao))))
noncomputable def aI8 (S : Sg) (h : Hp) : aF :=
 some ((Value.bool true), h)
noncomputable def YS (S : Sg) (r0 : Value) (r16 IQ : Int) (h : Hp) : aF :=
 bQ (lI IQ r16) fun b0 =>
 bY b0
 (bS (jU env 9 r0 (Value.int .i64 IQ)) fun v1 =>
 aS .u8 v1 fun i2 =>
 aN (bS (aF2 [(Value.int .u8 i2)] h) fun v => some (v, h)) fun v3 h3 =>
 dM v3 fun b4 =>
 bE b4 fun b5 =>
 bY b5
 (bS (jU env 9 r0 (Value.int .i64 IQ)) fun v6 =>
 aS .u8 v6 fun i7 =>
 aN (bS (aI7 [(Value.int .u8 i7)] h3) fun v => some (v, h3)) fun v8 h8 =>
 dM v8 fun b9 =>
 bE b9 fun b10 =>
 bY b10
 (bS (jU env 9 r0 (Value.int .i64 IQ)) fun v11 =>
 aS .u8 v11 fun i12 =>
 bE (kF i12 (Int.ofNat 46)) fun b13 =>
 bY b13
 (some ((Value.bool false), h8))
 (wrap64 (Int.add IQ (Int.ofNat 1)) fun i14 =>
 S 1 (AL.v r0 (AL.i r16 (AL.i i14 AL.n))) h8))
 (wrap64 (Int.add IQ (Int.ofNat 1)) fun i15 =>
 S 1 (AL.v r0 (AL.i r16 (AL.i i15 AL.n))) h8))
 (wrap64 (Int.add IQ (Int.ofNat 1)) fun i16 =>
 S 1 (AL.v r0 (AL.i r16 (AL.i i16 AL.n))) h3))
 (S 2 AL.n h)
noncomputable def aI9 (S : Sg) (r0 : Value) (h : Hp) : aF :=
 KJ r0 fun i0 =>
 aN (bA env h 22 1 (List.toArray [(0, (Value.int .i64 i0))])) fun v1 h1 =>
 aN (bS (F82 [(Value.int .i64 (Int.ofNat 1)), (Value.int .i64 (Int.ofNat 16)), v1] h1) fun v => some (v, h1)) fun v2 h2 =>
 dM v2 fun b3 =>
 bE b3 fun b4 =>
 bY b4
 (some ((Value.bool false), h2))
 (bS (jU env 9 r0 (Value.int .i64 (Int.ofNat 0))) fun v5 =>
 aS .u8 v5 fun i6 =>
 aN (bS (aF2 [(Value.int .u8 i6)] h2) fun v => some (v, h2)) fun v7 h7 =>
 dM v7 fun b8 =>
 bE b8 fun b9 =>
 bY b9
 (some ((Value.bool false), h7))
 (KJ r0 fun i10 =>
 S 1 (AL.v r0 (AL.i i10 (AL.i (Int.ofNat 0) AL.n))) h7))
noncomputable def T85 (S : Sg) : Sg := cK 0 (uV fun r0 => uN (aI9 S r0)) (cK 1 (uV fun r0 => uI fun r16 => uI fun IQ => uN (YS S r0 r16 IQ)) (cK 2 (uN fun h => aI8 S  h) (jI)))
noncomputable def F85 (args : List Value) (h : Hp) : aF := bB [Kd.v] args fun al => aK T85 1000000 0 al h
def bCA : Nat := 1 + (39 - 1)
theorem t85 (S : Sg) : iO (fun l vs h => aY (jZ env aUC bCA) (jV env Try.f85.results.toList) (collect B85 A85 []) l S vs h) (T85 S) := by
 unfold T85
 exact dK (dN fun _ => iZ fun _ => by kernel_rfl) <| dK (dN fun _ => jG fun _ => jG fun _ => iZ fun _ => by kernel_rfl) <| dK (iZ fun _ => by kernel_rfl) <| Go.bK.iO.nil
theorem r85 : ∀ args h v h', F85 args h = some (v, h') → eF (C8) (.call 85 args.toArray h) (.ret v h') := by
 intro args h v h' e
 exact bC (C := C8) (fn := Try.f85) (body := B85) (np := 1) (A := A85) (T := T85) (kinds := [Kd.v]) (by kernel_rfl) (by kernel_rfl) (by kernel_rfl) (by kernel_rfl) (dH dL) (by kernel_rfl) (fun S => t85 S) e
noncomputable def aJA := jF 85 F85 aUC
noncomputable def C9 : dO := cfg aJA
theorem ok9 : C9.Ok := dA (C := C8) ok8 r85
noncomputable def aYY : Code := (Try.f108.body).getD .skip
def aYZ : eT := (Am 0 [(0, .v), (1, .v)] Ao (An (An Ao (An (Am 1 [(0, .v), (1, .v), (7, .i .i64), (8, .i .i64)] (An Ao (An Az (An (An (An Ao (An Ao (An Az Ao))) Ao) Ao))) Ao) Ao)) (Am 2 [] Ao Ao)))
noncomputable def aUD (S : Sg) (h : Hp) : aF :=
 some ((Value.int .i64 (Int.negSucc 0)), h)
noncomputable def OZ (S : Sg) (r0 r1 : Value) (r7 r8 : Int) (h : Hp) : aF :=
 bQ (lI r8 r7) fun b0 =>
 bY b0
 (dS 3 r0 r8 fun v1 =>
 aT 3 h v1 fun v2 =>
 aN (qR aJA r1 [v2] h) fun v3 h3 =>
 dM v3 fun b4 =>
 bY b4
 (some ((Value.int .i64 r8), h3))
 (wrap64 (Int.add r8 (Int.ofNat 1)) fun i5 =>
 S 1 (AL.v r0 (AL.v r1 (AL.i r7 (AL.i i5 AL.n)))) h3))
 (S 2 AL.n h)
noncomputable def aBW (S : Sg) (r0 r1 : Value) (h : Hp) : aF :=
 bW r0 fun i0 =>
 S 1 (AL.v r0 (AL.v r1 (AL.i i0 (AL.i (Int.ofNat 0) AL.n)))) h
noncomputable def YT (S : Sg) : Sg := cK 0 (uV fun r0 => uV fun r1 => uN (aBW S r0 r1)) (cK 1 (uV fun r0 => uV fun r1 => uI fun r7 => uI fun r8 => uN (OZ S r0 r1 r7 r8)) (cK 2 (uN fun h => aUD S  h) (jI)))
noncomputable def aPT (args : List Value) (h : Hp) : aF := bB [Kd.v, Kd.v] args fun al => aK YT 1000000 0 al h
def aY0 : Nat := 2 + (19 - 2)
theorem t108 (S : Sg) : iO (fun l vs h => aY (jZ env aJA aY0) (jV env Try.f108.results.toList) (collect aYY aYZ []) l S vs h) (YT S) := by
 unfold YT
 exact dK (dN fun _ => dN fun _ => iZ fun _ => by kernel_rfl) <| dK (dN fun _ => dN fun _ => jG fun _ => jG fun _ => iZ fun _ => by kernel_rfl) <| dK (iZ fun _ => by kernel_rfl) <| Go.bK.iO.nil
theorem bCB : ∀ args h v h', aPT args h = some (v, h') → eF (C9) (.call 108 args.toArray h) (.ret v h') := by
 intro args h v h' e
 exact bC (C := C9) (fn := Try.f108) (body := aYY) (np := 2) (A := aYZ) (T := YT) (kinds := [Kd.v, Kd.v]) (by kernel_rfl) (by kernel_rfl) (by kernel_rfl) (by kernel_rfl) (dH dL) (by kernel_rfl) (fun S => t108 S) e
noncomputable def aJB := jF 108 aPT aJA
noncomputable def C10 : dO := cfg aJB
theorem bCC : C10.Ok := dA (C := C9) ok9 bCB
noncomputable def B86 : Code := (Try.f86.body).getD .skip
def A86 : eT := (Am 0 [(0, .v), (1, .v)] Ao Az)
noncomputable def aJC (S : Sg) (r0 r1 : Value) (h : Hp) : aF :=
 aN (bV aPT [r0, r1] h) fun v0 h0 =>
 aS .i64 v0 fun i1 =>
 bE (lI i1 (Int.ofNat 0)) fun b2 =>
 some ((Value.bool b2), h0)
noncomputable def T86 (S : Sg) : Sg := cK 0 (uV fun r0 => uV fun r1 => uN (aJC S r0 r1)) (jI)
noncomputable def F86 (args : List Value) (h : Hp) : aF := bB [Kd.v, Kd.v] args fun al => aK T86 1000000 0 al h
def bCD : Nat := 2 + (9 - 2)
theorem t86 (S : Sg) : iO (fun l vs h => aY (jZ env aJB bCD) (jV env Try.f86.results.toList) (collect B86 A86 []) l S vs h) (T86 S) := by
 unfold T86
 exact dK (dN fun _ => dN fun _ => iZ fun _ => by kernel_rfl) <| Go.bK.iO.nil
theorem r86 : ∀ args h v h', F86 args h = some (v, h') → eF (C10) (.call 86 args.toArray h) (.ret v h') := by
 intro args h v h' e
 exact bC (C := C10) (fn := Try.f86) (body := B86) (np := 2) (A := A86) (T := T86) (kinds := [Kd.v, Kd.v]) (by kernel_rfl) (by kernel_rfl) (by kernel_rfl) (by kernel_rfl) (dH dL) (by kernel_rfl) (fun S => t86 S) e
noncomputable def aJD := jF 86 F86 aJB
noncomputable def C11 : dO := cfg aJD
theorem bCE : C11.Ok := dA (C := C10) bCC r86
noncomputable def B84 : Code := (Try.f84.body).getD .skip
def A84 : eT := (Am 0 [(0, .v), (1, .v), (2, .v), (3, .v)] Ao (An (An (An Ao (An Az (An Ao (An Az (An Ao (An Az (An Ao (An Az (An (An Ao Az) (An Az Ao)))))))))) Ao) Az))
noncomputable def aJE (S : Sg) (r0 r1 : Value) (r2 r3 : Value) (h : Hp) : aF :=
 bD h 59 (Array.toList (Value.cells r1)) fun a0 h0 =>
 aR 0 a0 fun v1 =>
 aI h0 v1 fun v2 =>
 aN (bV F85 [v2] h0) fun v3 h3 =>
 dM v3 fun b4 =>
 bE b4 fun b5 =>
 bY b5
 (some ((Value.int .i64 (Int.ofNat 6)), h3))
 (aN (bV F86 [r0, (Value.func (.func 87) (List.toArray []) (List.toArray [a0]))] h3) fun v6 h6 =>
 dM v6 fun b7 =>
 bY b7
 (some ((Value.int .i64 (Int.ofNat 5)), h6))
 (aR 1 a0 fun v8 =>
 aI h6 v8 fun v9 =>
 bW v9 fun i10 =>
 aR 0 r2 fun v11 =>
 aI h6 v11 fun v12 =>
 bW v12 fun i13 =>
 bE (kF i10 i13) fun b14 =>
 bY b14
 (some ((Value.int .i64 (Int.ofNat 3)), h6))
 (aI h6 r3 fun v15 =>
 aS .i64 v15 fun i16 =>
 aR 1 r2 fun v17 =>
 aI h6 v17 fun v18 =>
 bW v18 fun i19 =>
 wrap64 (Int.sub i19 (Int.ofNat 1)) fun i20 =>
 aR 1 a0 fun v21 =>
 aI h6 v21 fun v22 =>
 dS 1 v22 (Int.ofNat 0) fun v23 =>
 aI h6 v23 fun v24 =>
 aS .i64 v24 fun i25 =>
 aN (bA env h6 22 1 (List.toArray [(0, (Value.int .i64 i25))])) fun v26 h26 =>
 aN (bS (F82 [(Value.int .i64 i16), (Value.int .i64 i20), v26] h26) fun v => some (v, h26)) fun v27 h27 =>
 dM v27 fun b28 =>
 bE b28 fun b29 =>
 bY b29
 (some ((Value.int .i64 (Int.ofNat 4)), h27))
 (aI h27 r3 fun v30 =>
 aS .i64 v30 fun i31 =>
 aR 1 a0 fun v32 =>
 aI h27 v32 fun v33 =>
 bS (jA env h27 22 v33 (some (Value.int .i64 (Int.ofNat 1))) none none) fun v34 =>
 aN (bS (F82 [(Value.int .i64 i31), (Value.int .i64 (Int.ofNat 5)), v34] h27) fun v => some (v, h27)) fun v35 h35 =>
 dM v35 fun b36 =>
 bE b36 fun b37 =>
 bY b37
 (bY b37
 (some ((Value.int .i64 (Int.ofNat 7)), h35))
 (some ((Value.int .i64 (Int.ofNat 0)), h35)))
 (aR 2 a0 fun v38 =>
 aI h35 v38 fun v39 =>
 aS .i64 v39 fun i40 =>
 aN (bA env h35 22 1 (List.toArray [(0, (Value.int .i64 i40))])) fun v41 h41 =>
 aN (bS (F82 [(Value.int .i64 (Int.ofNat 0)), (Value.int .i64 (Int.ofNat 50)), v41] h41) fun v => some (v, h41)) fun v42 h42 =>
 dM v42 fun b43 =>
 bE b43 fun b44 =>
 bY b44
 (some ((Value.int .i64 (Int.ofNat 7)), h42))
 (some ((Value.int .i64 (Int.ofNat 0)), h42)))))))
noncomputable def T84 (S : Sg) : Sg := cK 0 (uV fun r0 => uV fun r1 => uV fun r2 => uV fun r3 => uN (aJE S r0 r1 r2 r3)) (jI)
noncomputable def F84 (args : List Value) (h : Hp) : aF := bB [Kd.v, Kd.v, Kd.v, Kd.v] args fun al => aK T84 1000000 0 al h
def bCI : Nat := 4 + (49 - 4)
theorem t84 (S : Sg) : iO (fun l vs h => aY (jZ env aJD bCI) (jV env Try.f84.results.toList) (collect B84 A84 []) l S vs h) (T84 S) := by
 unfold T84
 exact dK (dN fun _ => dN fun _ => dN fun _ => dN fun _ => iZ fun _ => by kernel_rfl) <| Go.bK.iO.nil
theorem r84 : ∀ args h v h', F84 args h = some (v, h') → eF (C11) (.call 84 args.toArray h) (.ret v h') := by
 intro args h v h' e
 exact bC (C := C11) (fn := Try.f84) (body := B84) (np := 4) (A := A84) (T := T84) (kinds := [Kd.v, Kd.v, Kd.v, Kd.v]) (by kernel_rfl) (by kernel_rfl) (by kernel_rfl) (by kernel_rfl) (dH dL) (by kernel_rfl) (fun S => t84 S) e
noncomputable def O0 := jF 84 F84 aJD
noncomputable def C12 : dO := cfg O0
theorem bCJ : C12.Ok := dA (C := C11) bCE r84
noncomputable def aY3 : Code := (Try.f105.body).getD .skip
def aY4 : eT := (Am 0 [(0, .v), (1, .v)] Ao (An (An Ao (An (Am 1 [(0, .v), (1, .v), (9, .v), (10, .i .i64), (11, .i .i64)] (An Ao (An Az (An (An (An Ao (An Ao (An Ao (An Az Ao)))) Ao) Ao))) Ao) Ao)) (Am 2 [] Ao Ao)))
noncomputable def aUF (S : Sg) (h : Hp) : aF :=
 some (Value.tuple (List.toArray [(Value.int .i64 (Int.ofNat 0)), (Value.int .i64 (Int.ofNat 0))]), h)
noncomputable def O1 (S : Sg) (r0 r1 r9 : Value) (mD kH : Int) (h : Hp) : aF :=
 bQ (lI kH mD) fun b0 =>
 bY b0
 (dS 3 r9 kH fun v1 =>
 aT 3 h v1 fun v2 =>
 bD h 59 [(Value.string (ByteArray.mk #[])), (Value.slice none 0 0), (Value.int .i64 (Int.ofNat 0))] fun a3 h3 =>
 dY 3 h3 a3 v2 fun h4 =>
 bS (jA env h4 23 r0 none (some (Value.int .i64 kH)) none) fun v5 =>
 aT 3 h4 a3 fun v6 =>
 aN (qR O0 r1 [v5, v6] h4) fun v7 h7 =>
 aS .i64 v7 fun i8 =>
 bE (kF i8 (Int.ofNat 0)) fun b9 =>
 bY b9
 (some (Value.tuple (List.toArray [(Value.int .i64 kH), (Value.int .i64 i8)]), h7))
 (wrap64 (Int.add kH (Int.ofNat 1)) fun i10 =>
 S 1 (AL.v r0 (AL.v r1 (AL.v r9 (AL.i mD (AL.i i10 AL.n))))) h7))
 (S 2 AL.n h)
noncomputable def aBX (S : Sg) (r0 r1 : Value) (h : Hp) : aF :=
 bW r0 fun i0 =>
 S 1 (AL.v r0 (AL.v r1 (AL.v r0 (AL.i i0 (AL.i (Int.ofNat 0) AL.n))))) h
noncomputable def YU (S : Sg) : Sg := cK 0 (uV fun r0 => uV fun r1 => uN (aBX S r0 r1)) (cK 1 (uV fun r0 => uV fun r1 => uV fun r9 => uI fun mD => uI fun kH => uN (O1 S r0 r1 r9 mD kH)) (cK 2 (uN fun h => aUF S  h) (jI)))
noncomputable def aPU (args : List Value) (h : Hp) : aF := bB [Kd.v, Kd.v] args fun al => aK YU 1000000 0 al h
def aY5 : Nat := 2 + (27 - 2)
theorem t105 (S : Sg) : iO (fun l vs h => aY (jZ env O0 aY5) (jV env Try.f105.results.toList) (collect aY3 aY4 []) l S vs h) (YU S) := by
 unfold YU
 exact dK (dN fun _ => dN fun _ => iZ fun _ => by kernel_rfl) <| dK (dN fun _ => dN fun _ => dN fun _ => jG fun _ => jG fun _ => iZ fun _ => by kernel_rfl) <| dK (iZ fun _ => by kernel_rfl) <| Go.bK.iO.nil
theorem bCK : ∀ args h v h', aPU args h = some (v, h') → eF (C12) (.call 105 args.toArray h) (.ret v h') := by
 intro args h v h' e
 exact bC (C := C12) (fn := Try.f105) (body := aY3) (np := 2) (A := aY4) (T := YU) (kinds := [Kd.v, Kd.v]) (by kernel_rfl) (by kernel_rfl) (by kernel_rfl) (by kernel_rfl) (dH dL) (by kernel_rfl) (fun S => t105 S) e
noncomputable def aJF := jF 105 aPU O0
noncomputable def C13 : dO := cfg aJF
theorem bCL : C13.Ok := dA (C := C12) bCJ bCK
noncomputable def B83 : Code := (Try.f83.body).getD .skip
def A83 : eT := (Am 0 [(0, .v), (1, .i .i64), (2, .v)] Ao (An (An Ao (An Az Ao)) Az))
noncomputable def aJG (S : Sg) (r0 : Value) (r1 : Int) (r2 : Value) (h : Hp) : aF :=
 bW r0 fun i0 =>
 bQ (lI r1 i0) fun b1 =>
 bY b1
 (some (Value.tuple (List.toArray [(Value.int .i64 (Int.ofNat 0)), (Value.int .i64 (Int.ofNat 3))]), h))
 (aN (bV aPU [r0, r2] h) fun v2 h2 =>
 fF v2 0 fun v3 =>
 aS .i64 v3 fun i4 =>
 fF v2 1 fun v5 =>
 aS .i64 v5 fun i6 =>
 some (Value.tuple (List.toArray [(Value.int .i64 i4), (Value.int .i64 i6)]), h2))
noncomputable def T83 (S : Sg) : Sg := cK 0 (uV fun r0 => uI fun r1 => uV fun r2 => uN (aJG S r0 r1 r2)) (jI)
noncomputable def F83 (args : List Value) (h : Hp) : aF := bB [Kd.v, Kd.i .i64, Kd.v] args fun al => aK T83 1000000 0 al h
def bCM : Nat := 3 + (17 - 3)
theorem t83 (S : Sg) : iO (fun l vs h => aY (jZ env aJF bCM) (jV env Try.f83.results.toList) (collect B83 A83 []) l S vs h) (T83 S) := by
 unfold T83
 exact dK (dN fun _ => jG fun _ => dN fun _ => iZ fun _ => by kernel_rfl) <| Go.bK.iO.nil
theorem r83 : ∀ args h v h', F83 args h = some (v, h') → eF (C13) (.call 83 args.toArray h) (.ret v h') := by
 intro args h v h' e
 exact bC (C := C13) (fn := Try.f83) (body := B83) (np := 3) (A := A83) (T := T83) (kinds := [Kd.v, Kd.i .i64, Kd.v]) (by kernel_rfl) (by kernel_rfl) (by kernel_rfl) (by kernel_rfl) (dH dL) (by kernel_rfl) (fun S => t83 S) e
noncomputable def aJH := jF 83 F83 aJF
noncomputable def C14 : dO := cfg aJH
theorem bCN : C14.Ok := dA (C := C13) bCL r83
noncomputable def B49 : Code := (Try.f49.body).getD .skip
def A49 : eT := (Am 0 [(0, .v), (1, .v), (2, .i .i64), (3, .i .i64)] Ao Az)
noncomputable def aJI (S : Sg) (r0 r1 : Value) (r2 r3 : Int) (h : Hp) : aF :=
 bD h 25 (Array.toList (Value.cells r0)) fun a0 h0 =>
 bD h0 3 [(Value.int .i64 r3)] fun a1 h1 =>
 aN (bV F83 [r1, (Value.int .i64 r2), (Value.func (.func 84) (List.toArray []) (List.toArray [a0, a1]))] h1) fun v2 h2 =>
 fF v2 0 fun v3 =>
 aS .i64 v3 fun i4 =>
 fF v2 1 fun v5 =>
 aS .i64 v5 fun i6 =>
 some (Value.tuple (List.toArray [(Value.int .i64 i4), (Value.int .i64 i6)]), h2)
noncomputable def T49 (S : Sg) : Sg := cK 0 (uV fun r0 => uV fun r1 => uI fun r2 => uI fun r3 => uN (aJI S r0 r1 r2 r3)) (jI)
noncomputable def F49 (args : List Value) (h : Hp) : aF := bB [Kd.v, Kd.v, Kd.i .i64, Kd.i .i64] args fun al => aK T49 1000000 0 al h
def bCO : Nat := 4 + (16 - 4)
theorem t49 (S : Sg) : iO (fun l vs h => aY (jZ env aJH bCO) (jV env Try.f49.results.toList) (collect B49 A49 []) l S vs h) (T49 S) := by
 unfold T49
 exact dK (dN fun _ => dN fun _ => jG fun _ => jG fun _ => iZ fun _ => by kernel_rfl) <| Go.bK.iO.nil
theorem r49 : ∀ args h v h', F49 args h = some (v, h') → eF (C14) (.call 49 args.toArray h) (.ret v h') := by
 intro args h v h' e
 exact bC (C := C14) (fn := Try.f49) (body := B49) (np := 4) (A := A49) (T := T49) (kinds := [Kd.v, Kd.v, Kd.i .i64, Kd.i .i64]) (by kernel_rfl) (by kernel_rfl) (by kernel_rfl) (by kernel_rfl) (dH dL) (by kernel_rfl) (fun S => t49 S) e
noncomputable def aJJ := jF 49 F49 aJH
noncomputable def C15 : dO := cfg aJJ
theorem bCP : C15.Ok := dA (C := C14) bCN r49
noncomputable def B16 : Code := (Try.f16.body).getD .skip
def A16 : eT := (Am 0 [(0, .v)] Ao (An (An Ao (An Ao (An Az Ao))) (An (An Ao (An Ao (An Az Ao))) (An (An Ao (An Ao (An Az Ao))) (An (An Ao (An Ao (An Az Ao))) Az)))))
noncomputable def aJK (S : Sg) (r0 : Value) (h : Hp) : aF :=
 bD h 25 (Array.toList (Value.cells r0)) fun a0 h0 =>
 aR 0 a0 fun v1 =>
 aI h0 v1 fun v2 =>
 aN (bV F48 [v2, (Value.int .i64 (Int.ofNat 4)), (Value.int .i64 (Int.ofNat 100))] h0) fun v3 h3 =>
 fF v3 0 fun v4 =>
 aS .i64 v4 fun i5 =>
 fF v3 1 fun v6 =>
 aS .i64 v6 fun i7 =>
 bE (kF i7 (Int.ofNat 0)) fun b8 =>
 bY b8
 (some (Value.tuple (List.toArray [(Value.int .i64 (Int.ofNat 1)), (Value.int .i64 i5), (Value.int .i64 i7)]), h3))
 (aR 1 a0 fun v9 =>
 aI h3 v9 fun v10 =>
 aN (bV F48 [v10, (Value.int .i64 (Int.ofNat 4)), (Value.int .i64 (Int.ofNat 50))] h3) fun v11 h11 =>
 fF v11 0 fun v12 =>
 aS .i64 v12 fun i13 =>
 fF v11 1 fun v14 =>
 aS .i64 v14 fun i15 =>
 bE (kF i15 (Int.ofNat 0)) fun b16 =>
 bY b16
 (some (Value.tuple (List.toArray [(Value.int .i64 (Int.ofNat 2)), (Value.int .i64 i13), (Value.int .i64 i15)]), h11))
 (aT 4 h11 a0 fun v17 =>
 aR 2 a0 fun v18 =>
 aI h11 v18 fun v19 =>
 aN (bV F49 [v17, v19, (Value.int .i64 (Int.ofNat 6)), (Value.int .i64 (Int.ofNat 0))] h11) fun v20 h20 =>
 fF v20 0 fun v21 =>
 aS .i64 v21 fun i22 =>
 fF v20 1 fun v23 =>
 aS .i64 v23 fun i24 =>
 bE (kF i24 (Int.ofNat 0)) fun b25 =>
 bY b25
 (some (Value.tuple (List.toArray [(Value.int .i64 (Int.ofNat 3)), (Value.int .i64 i22), (Value.int .i64 i24)]), h20))
 (aT 4 h20 a0 fun v26 =>
 aR 3 a0 fun v27 =>
 aI h20 v27 fun v28 =>
 aN (bV F49 [v26, v28, (Value.int .i64 (Int.ofNat 5)), (Value.int .i64 (Int.negSucc 0))] h20) fun v29 h29 =>
 fF v29 0 fun v30 =>
 aS .i64 v30 fun i31 =>
 fF v29 1 fun v32 =>
 aS .i64 v32 fun i33 =>
 bE (kF i33 (Int.ofNat 0)) fun b34 =>
 bY b34
 (some (Value.tuple (List.toArray [(Value.int .i64 (Int.ofNat 4)), (Value.int .i64 i31), (Value.int .i64 i33)]), h29))
 (some (Value.tuple (List.toArray [(Value.int .i64 (Int.ofNat 0)), (Value.int .i64 (Int.ofNat 0)), (Value.int .i64 (Int.ofNat 0))]), h29)))))
noncomputable def T16 (S : Sg) : Sg := cK 0 (uV fun r0 => uN (aJK S r0)) (jI)
noncomputable def F16 (args : List Value) (h : Hp) : aF := bB [Kd.v] args fun al => aK T16 1000000 0 al h
def bCS : Nat := 1 + (55 - 1)
theorem t16 (S : Sg) : iO (fun l vs h => aY (jZ env aJJ bCS) (jV env Try.f16.results.toList) (collect B16 A16 []) l S vs h) (T16 S) := by
 unfold T16
 exact dK (dN fun _ => iZ fun _ => by kernel_rfl) <| Go.bK.iO.nil
theorem r16 : ∀ args h v h', F16 args h = some (v, h') → eF (C15) (.call 16 args.toArray h) (.ret v h') := by
 intro args h v h' e
 exact bC (C := C15) (fn := Try.f16) (body := B16) (np := 1) (A := A16) (T := T16) (kinds := [Kd.v]) (by kernel_rfl) (by kernel_rfl) (by kernel_rfl) (by kernel_rfl) (dH dL) (by kernel_rfl) (fun S => t16 S) e
noncomputable def aJL := jF 16 F16 aJJ
noncomputable def C16 : dO := cfg aJL
theorem ok16 : C16.Ok := dA (C := C15) bCP r16
noncomputable def B93 : Code := (Try.f93.body).getD .skip
def A93 : eT := (Am 0 [(0, .v), (1, .v)] Ao (An Ao (An (An Ao (An (Am 1 [(0, .v), (5, .v), (8, .v), (9, .i .i64), (10, .i .i64)] (An Ao (An Az (An (An (An Ao (An Ao Az)) Ao) Ao))) Ao) Ao)) (Am 2 [(5, .v)] Ao Ao))))
noncomputable def aZC (S : Sg) (r5 : Value) (h : Hp) : aF :=
 some (r5, h)
noncomputable def aDP (S : Sg) (r0 r5 r8 : Value) (r9 mD : Int) (h : Hp) : aF :=
 bQ (lI mD r9) fun b0 =>
 bY b0
 (dS 1 r8 mD fun v1 =>
 aI h v1 fun v2 =>
 aS .i64 v2 fun i3 =>
 bE (kF i3 (Int.negSucc 0)) fun b4 =>
 bY b4
 (dS 1 r0 mD fun v5 =>
 aI h v5 fun v6 =>
 aS .i64 v6 fun i7 =>
 bE (kF i3 i7) fun b8 =>
 bY b8
 (aN (bA env h 22 1 (List.toArray [(0, (Value.int .i64 mD))])) fun v9 h9 =>
 aN (fC env h9 #[22, 22] (List.toArray [r5, v9])) fun v10 h10 =>
 wrap64 (Int.add mD (Int.ofNat 1)) fun i11 =>
 S 1 (AL.v r0 (AL.v v10 (AL.v r8 (AL.i r9 (AL.i i11 AL.n))))) h10)
 (wrap64 (Int.add mD (Int.ofNat 1)) fun i12 =>
 S 1 (AL.v r0 (AL.v r5 (AL.v r8 (AL.i r9 (AL.i i12 AL.n))))) h))
 (wrap64 (Int.add mD (Int.ofNat 1)) fun i13 =>
 S 1 (AL.v r0 (AL.v r5 (AL.v r8 (AL.i r9 (AL.i i13 AL.n))))) h))
 (S 2 (AL.v r5 AL.n) h)
noncomputable def aJM (S : Sg) (r0 r1 : Value) (h : Hp) : aF :=
 bW r1 fun i0 =>
 S 1 (AL.v r0 (AL.v (Value.slice none 0 0) (AL.v r1 (AL.i i0 (AL.i (Int.ofNat 0) AL.n))))) h
noncomputable def T93 (S : Sg) : Sg := cK 0 (uV fun r0 => uV fun r1 => uN (aJM S r0 r1)) (cK 1 (uV fun r0 => uV fun r5 => uV fun r8 => uI fun r9 => uI fun mD => uN (aDP S r0 r5 r8 r9 mD)) (cK 2 (uV fun r5 => uN (aZC S r5)) (jI)))
noncomputable def F93 (args : List Value) (h : Hp) : aF := bB [Kd.v, Kd.v] args fun al => aK T93 1000000 0 al h
def bCT : Nat := 2 + (31 - 2)
theorem t93 (S : Sg) : iO (fun l vs h => aY (jZ env aJL bCT) (jV env Try.f93.results.toList) (collect B93 A93 []) l S vs h) (T93 S) := by
 unfold T93
 exact dK (dN fun _ => dN fun _ => iZ fun _ => by kernel_rfl) <| dK (dN fun _ => dN fun _ => dN fun _ => jG fun _ => jG fun _ => iZ fun _ => by kernel_rfl) <| dK (dN fun _ => iZ fun _ => by kernel_rfl) <| Go.bK.iO.nil
theorem r93 : ∀ args h v h', F93 args h = some (v, h') → eF (C16) (.call 93 args.toArray h) (.ret v h') := by
 intro args h v h' e
 exact bC (C := C16) (fn := Try.f93) (body := B93) (np := 2) (A := A93) (T := T93) (kinds := [Kd.v, Kd.v]) (by kernel_rfl) (by kernel_rfl) (by kernel_rfl) (by kernel_rfl) (dH dL) (by kernel_rfl) (fun S => t93 S) e
noncomputable def aJN := jF 93 F93 aJL
noncomputable def C17 : dO := cfg aJN
theorem bCU : C17.Ok := dA (C := C16) ok16 r93
noncomputable def B63 : Code := (Try.f63.body).getD .skip
def A63 : eT := (Am 0 [(0, .v)] Ao (An (An Ao (An Ao (An Az Ao))) (An Ao (An (An Ao (An (Am 1 [(1, .v), (2, .v), (7, .v), (24, .v), (25, .i .i64), (26, .i .i64)] (An Ao (An Az (An (An (An Ao (An Ao (An (Am 2 [(1, .v), (2, .v), (7, .v), (8, .i .i64), (9, .v), (24, .v), (25, .i .i64), (26, .i .i64), (32, .v), (33, .i .i64), (34, .i .i64)] (An Ao (An Az (An (An Az Ao) Ao))) Ao) Ao))) Ao) (Am 3 [(1, .v), (2, .v), (7, .v), (24, .v), (25, .i .i64), (26, .i .i64)] Ao Ao)))) Ao) Ao)) (Am 4 [(1, .v), (2, .v), (7, .v)] Ao Ao)))))
noncomputable def aJO (S : Sg) (r1 r2 r7 : Value) (h : Hp) : aF :=
 aT 4 h r1 fun v0 =>
 bS (jQ env 71 (List.toArray [(0, v0), (1, r7)])) fun v1 =>
 dY 5 h r2 v1 fun h2 =>
 aT 5 h2 r2 fun v3 => some (Value.tuple (List.toArray [v3, (Value.int .i64 (Int.ofNat 0))]), h2)
noncomputable def aJP (S : Sg) (r1 r2 : Value) (r7 r24 : Value) (r25 YV : Int) (h : Hp) : aF :=
 wrap64 (Int.add YV (Int.ofNat 1)) fun i0 =>
 S 1 (AL.v r1 (AL.v r2 (AL.v r7 (AL.v r24 (AL.i r25 (AL.i i0 AL.n)))))) h
noncomputable def aDQ (S : Sg) (r1 r2 r7 : Value) (r8 : Int) (r9 r24 : Value) (r25 YV : Int) (r32 : Value) (r33 r34 : Int) (h : Hp) : aF :=
 bQ (lI r34 r33) fun b0 =>
 bY b0
 (dS 3 r32 r34 fun v1 =>
 aT 3 h v1 fun v2 =>
 bD h 59 [(Value.string (ByteArray.mk #[])), (Value.slice none 0 0), (Value.int .i64 (Int.ofNat 0))] fun a3 h3 =>
 dY 3 h3 a3 v2 fun h4 =>
 bS (jQ env 76 (List.toArray [(0, (Value.int .i64 r8)), (1, (Value.int .i64 r34))])) fun v5 =>
 aR 1 r9 fun v6 =>
 aI h4 v6 fun v7 =>
 aR 1 a3 fun v8 =>
 aI h4 v8 fun v9 =>
 aN (bV F93 [v7, v9] h4) fun v10 h10 =>
 bS (nH env h10 69 r7 v5 v10) fun h11 =>
 wrap64 (Int.add r34 (Int.ofNat 1)) fun i12 =>
 S 2 (AL.v r1 (AL.v r2 (AL.v r7 (AL.i r8 (AL.v r9 (AL.v r24 (AL.i r25 (AL.i YV (AL.v r32 (AL.i r33 (AL.i i12 AL.n))))))))))) h11)
 (S 3 (AL.v r1 (AL.v r2 (AL.v r7 (AL.v r24 (AL.i r25 (AL.i YV AL.n)))))) h)
noncomputable def aDR (S : Sg) (r1 r2 : Value) (r7 r24 : Value) (r25 YV : Int) (h : Hp) : aF :=
 bQ (lI YV r25) fun b0 =>
 bY b0
 (dS 3 r24 YV fun v1 =>
 aT 3 h v1 fun v2 =>
 bD h 59 [(Value.string (ByteArray.mk #[])), (Value.slice none 0 0), (Value.int .i64 (Int.ofNat 0))] fun a3 h3 =>
 dY 3 h3 a3 v2 fun h4 =>
 aR 3 r1 fun v5 =>
 aI h4 v5 fun v6 =>
 bW v6 fun i7 =>
 S 2 (AL.v r1 (AL.v r2 (AL.v r7 (AL.i YV (AL.v a3 (AL.v r24 (AL.i r25 (AL.i YV (AL.v v6 (AL.i i7 (AL.i (Int.ofNat 0) AL.n))))))))))) h4)
 (S 4 (AL.v r1 (AL.v r2 (AL.v r7 AL.n))) h)
noncomputable def aJQ (S : Sg) (r0 : Value) (h : Hp) : aF :=
 bD h 25 (Array.toList (Value.cells r0)) fun a0 h0 =>
 bD h0 71 [(Value.slice none 0 0), (Value.slice none 0 0), (Value.slice none 0 0), (Value.slice none 0 0), (Value.map none)] fun a1 h1 =>
 aT 4 h1 a0 fun v2 =>
 aN (bV F16 [v2] h1) fun v3 h3 =>
 fF v3 0 fun v4 =>
 aS .i64 v4 fun i5 =>
 fF v3 1 fun v6 =>
 aS .i64 v6 fun i7 =>
 fF v3 2 fun v8 =>
 aS .i64 v8 fun i9 =>
 bE (kF i9 (Int.ofNat 0)) fun b10 =>
 bY b10
 (bS (jQ env 71 (List.toArray [])) fun v11 =>
 dY 5 h3 a1 v11 fun h12 =>
 aT 5 h12 a1 fun v13 => some (Value.tuple (List.toArray [v13, (Value.int .i64 i9)]), h12))
 (let a14 := Value.map (some (Hp.next h3)); let h14 := Hp.add h3 (.map []);
 aR 2 a0 fun v15 =>
 aI h14 v15 fun v16 =>
 bW v16 fun i17 =>
 S 1 (AL.v a0 (AL.v a1 (AL.v a14 (AL.v v16 (AL.i i17 (AL.i (Int.ofNat 0) AL.n)))))) h14)
noncomputable def ZY (S : Sg) : Sg := cK 0 (uV fun r0 => uN (aJQ S r0)) (cK 1 (uV fun r1 => uV fun r2 => uV fun r7 => uV fun r24 => uI fun r25 => uI fun YV => uN (aDR S r1 r2 r7 r24 r25 YV)) (cK 2 (uV fun r1 => uV fun r2 => uV fun r7 => uI fun r8 => uV fun r9 => uV fun r24 => uI fun r25 => uI fun YV => uV fun r32 => uI fun r33 => uI fun r34 => uN (aDQ S r1 r2 r7 r8 r9 r24 r25 YV r32 r33 r34)) (cK 3 (uV fun r1 => uV fun r2 => uV fun r7 => uV fun r24 => uI fun r25 => uI fun YV => uN (aJP S r1 r2 r7 r24 r25 YV)) (cK 4 (uV fun r1 => uV fun r2 => uV fun r7 => uN (aJO S r1 r2 r7)) (jI)))))
noncomputable def F63 (args : List Value) (h : Hp) : aF := bB [Kd.v] args fun al => aK ZY 1000000 0 al h
def bCW : Nat := 1 + (53 - 1)
theorem t63 (S : Sg) : iO (fun l vs h => aY (jZ env aJN bCW) (jV env Try.f63.results.toList) (collect B63 A63 []) l S vs h) (ZY S) := by
 unfold ZY
 exact dK (dN fun _ => iZ fun _ => by kernel_rfl) <| dK (dN fun _ => dN fun _ => dN fun _ => dN fun _ => jG fun _ => jG fun _ => iZ fun _ => by kernel_rfl) <| dK (dN fun _ => dN fun _ => dN fun _ => jG fun _ => dN fun _ => dN fun _ => jG fun _ => jG fun _ => dN fun _ => jG fun _ => jG fun _ => iZ fun _ => by kernel_rfl) <| dK (dN fun _ => dN fun _ => dN fun _ => dN fun _ => jG fun _ => jG fun _ => iZ fun _ => by kernel_rfl) <| dK (dN fun _ => dN fun _ => dN fun _ => iZ fun _ => by kernel_rfl) <| Go.bK.iO.nil
theorem r63 : ∀ args h v h', F63 args h = some (v, h') → eF (C17) (.call 63 args.toArray h) (.ret v h') := by
 intro args h v h' e
 exact bC (C := C17) (fn := Try.f63) (body := B63) (np := 1) (A := A63) (T := ZY) (kinds := [Kd.v]) (by kernel_rfl) (by kernel_rfl) (by kernel_rfl) (by kernel_rfl) (dH dL) (by kernel_rfl) (fun S => t63 S) e
noncomputable def aRT := jF 63 F63 aJN
noncomputable def C18 : dO := cfg aRT
theorem bCX : C18.Ok := dA (C := C17) bCU r63
noncomputable def B53 : Code := (Try.f53.body).getD .skip
noncomputable def A53 : G.eT (List KI) := (Gm 0 [.reg 0 (.i .i64), .reg 1 .v] Gz Gy)
noncomputable def aZE (h : Hp) (S : Nat → aD → Option Value) (r0 : Int) (r1 : Value) : Option Value :=
 wrap64 (Int.sub r0 (Int.ofNat 1)) fun i0 =>
 bS (F82 [(Value.int .i64 (Int.ofNat 0)), (Value.int .i64 i0), r1] h) fun v1 =>
 dM v1 fun b2 =>
 some (Value.bool b2)
noncomputable def T53 (h : Hp) (S : Nat → aD → Option Value) : Nat → aD → Option Value := dU 0 (wI fun r0 => wV fun r1 => wN (aZE h S r0 r1)) (kP)
noncomputable def F53 (args : List Value) (h : Hp) : Option Value := plainO (dV [Kd.i .i64, Kd.v] args fun al => G.aK (T53 h) 1000000 0 al)
def bCY : Nat := 2 + (9 - 2)
theorem t53 (h : Hp) (S : Nat → aD → Option Value) : gW (fun l al => G.aY iF dB oM (pJ env pf4 bCY h) (qE env Try.f53.results.toList) (G.collect B53 A53 []) l S al) (T53 h S) := by
 unfold T53
 exact dX (jX fun _ => nA fun _ => oO (by kernel_rfl)) <| gW.nil
theorem r53 : fZ Try.prog 53 F53 := dI (C := C0) ok0 (pf := pf4) aRQ (fn := Try.f53) (body := B53) (kinds := [Kd.i .i64, Kd.v]) (A := A53) (T := T53) (by kernel_rfl) (by kernel_rfl) (by kernel_rfl) (by kernel_rfl) (fun h S => t53 h S)
noncomputable def pf5 : PF := FH 53 F53 pf4
theorem aRU : eO Try.prog pf5 := iN r53 aRQ
noncomputable def aJR := pK 53 F53 aRT
noncomputable def C19 : dO := cfg aJR
theorem bCZ : C19.Ok := fT (C := C18) bCX r53
noncomputable def B52 : Code := (Try.f52.body).getD .skip
def A52 : eT := (Am 0 [(0, .v), (1, .i .i64)] Ao (An Ao (An (An Ao (An Az Ao)) (An (An Ao (An Az Ao)) Az))))
noncomputable def aZF (S : Sg) (r0 : Value) (r1 : Int) (h : Hp) : aF :=
 bD h 25 (Array.toList (Value.cells r0)) fun a0 h0 =>
 bD h0 71 [(Value.slice none 0 0), (Value.slice none 0 0), (Value.slice none 0 0), (Value.slice none 0 0), (Value.map none)] fun a1 h1 =>
 aT 4 h1 a0 fun v2 =>
 aN (bV F63 [v2] h1) fun v3 h3 =>
 fF v3 0 fun v4 =>
 fF v3 1 fun v5 =>
 aS .i64 v5 fun i6 =>
 bD h3 71 [(Value.slice none 0 0), (Value.slice none 0 0), (Value.slice none 0 0), (Value.slice none 0 0), (Value.map none)] fun a7 h7 =>
 dY 5 h7 a7 v4 fun h8 =>
 bE (kF i6 (Int.ofNat 0)) fun b9 =>
 bY b9
 (bS (jQ env 71 (List.toArray [])) fun v10 =>
 dY 5 h8 a1 v10 fun h11 =>
 aT 5 h11 a1 fun v12 => some (Value.tuple (List.toArray [v12, (Value.int .i64 i6)]), h11))
 (aR 0 a7 fun v13 =>
 aR 3 v13 fun v14 =>
 aI h8 v14 fun v15 =>
 bW v15 fun i16 =>
 aN (bA env h8 22 1 (List.toArray [(0, (Value.int .i64 r1))])) fun v17 h17 =>
 aN (bS (F53 [(Value.int .i64 i16), v17] h17) fun v => some (v, h17)) fun v18 h18 =>
 dM v18 fun b19 =>
 bE b19 fun b20 =>
 bY b20
 (bS (jQ env 71 (List.toArray [])) fun v21 =>
 dY 5 h18 a1 v21 fun h22 =>
 aT 5 h22 a1 fun v23 => some (Value.tuple (List.toArray [v23, (Value.int .i64 (Int.ofNat 4))]), h22))
 (aT 5 h18 a7 fun v24 =>
 dY 5 h18 a1 v24 fun h25 =>
 aT 5 h25 a1 fun v26 => some (Value.tuple (List.toArray [v26, (Value.int .i64 (Int.ofNat 0))]), h25)))
noncomputable def T52 (S : Sg) : Sg := cK 0 (uV fun r0 => uI fun r1 => uN (aZF S r0 r1)) (jI)
noncomputable def F52 (args : List Value) (h : Hp) : aF := bB [Kd.v, Kd.i .i64] args fun al => aK T52 1000000 0 al h
def bC1 : Nat := 2 + (27 - 2)
theorem t52 (S : Sg) : iO (fun l vs h => aY (jZ env aJR bC1) (jV env Try.f52.results.toList) (collect B52 A52 []) l S vs h) (T52 S) := by
 unfold T52
 exact dK (dN fun _ => jG fun _ => iZ fun _ => by kernel_rfl) <| Go.bK.iO.nil
theorem r52 : ∀ args h v h', F52 args h = some (v, h') → eF (C19) (.call 52 args.toArray h) (.ret v h') := by
 intro args h v h' e
 exact bC (C := C19) (fn := Try.f52) (body := B52) (np := 2) (A := A52) (T := T52) (kinds := [Kd.v, Kd.i .i64]) (by kernel_rfl) (by kernel_rfl) (by kernel_rfl) (by kernel_rfl) (dH dL) (by kernel_rfl) (fun S => t52 S) e
noncomputable def aRW := jF 52 F52 aJR
noncomputable def C20 : dO := cfg aRW
theorem bC2 : C20.Ok := dA (C := C19) bCZ r52
noncomputable def B54 : Code := (Try.f54.body).getD .skip
noncomputable def A54 : G.eT (List KI) := (Gm 0 [.reg 0 .v, .reg 1 .v] Gz (Gn Gz (Gn (Gn Gz (Gn (Gm 1 [.loc 2 2, .reg 5 (.i .i64), .reg 10 .v, .reg 11 (.i .i64), .reg 12 (.i .i64), .list 2] (Gn Gz (Gn Gy (Gn (Gn (Gn Gz (Gn Gz (Gn (Gm 2 [.loc 2 2, .reg 5 (.i .i64), .reg 10 .v, .reg 11 (.i .i64), .reg 12 (.i .i64), .reg 19 .v, .reg 20 (.i .i64), .reg 21 (.i .i64), .list 2] (Gn Gz (Gn Gy (Gn (Gn Gy Gz) Gz))) Gz) Gz))) Gz) (Gm 3 [.loc 2 2, .reg 5 (.i .i64), .reg 10 .v, .reg 11 (.i .i64), .reg 12 (.i .i64), .list 2] Gz Gz)))) Gz) Gz)) (Gm 4 [.reg 5 (.i .i64)] Gz Gz))))
noncomputable def aZG (h : Hp) (S : Nat → aD → Option Value) (r5 : Int) : Option Value :=
 some (Value.int .i64 r5)
noncomputable def aJS (h : Hp) (S : Nat → aD → Option Value) (r5 : Int) (mD : Value) (kH rE : Int) (c2 : List Value) : Option Value :=
 wrap64 (Int.add rE (Int.ofNat 1)) fun i0 =>
 S 1 (aD.i r5 (aD.v mD (aD.i kH (aD.i i0 (aD.l c2 aD.n)))))
noncomputable def aDS (h : Hp) (S : Nat → aD → Option Value) (r5 : Int) (mD : Value) (kH rE : Int) (r19 : Value) (r20 r21 : Int) (c2 : List Value) : Option Value :=
 bQ (lI r21 r20) fun b0 =>
 bY b0
 (dS 1 r19 r21 fun v1 =>
 aI h v1 fun v2 =>
 aS .i64 v2 fun i3 =>
 A7 c2 0 fun v4 =>
 dS 1 v4 i3 fun v5 =>
 aI h v5 fun v6 =>
 aS .i64 v6 fun i7 =>
 wrap64 (Int.add r5 i7) fun i8 =>
 wrap64 (Int.add r21 (Int.ofNat 1)) fun i9 =>
 S 2 (aD.i i8 (aD.v mD (aD.i kH (aD.i rE (aD.v r19 (aD.i r20 (aD.i i9 (aD.l c2 aD.n)))))))))
 (S 3 (aD.i r5 (aD.v mD (aD.i kH (aD.i rE (aD.l c2 aD.n))))))
noncomputable def aDT (h : Hp) (S : Nat → aD → Option Value) (r5 : Int) (mD : Value) (kH rE : Int) (c2 : List Value) : Option Value :=
 bQ (lI rE kH) fun b0 =>
 bY b0
 (dS 2 mD rE fun v1 =>
 aT 2 h v1 fun v2 =>
 aO6 v2 fun l3 => bY (Nat.beq (QK l3) 2) (U6 0 l3 [(Value.int .i64 (Int.ofNat 0)), (Value.int .i64 (Int.ofNat 0))] fun c3 =>
 A7 c2 4 fun v4 =>
 zF c3 0 fun d5 => xH d5 2 fun l5 =>
 bS (kK env h 69 v4 (Value.agg (Array.mk l5)) false) fun v6 =>
 bW v6 fun i7 =>
 S 2 (aD.i r5 (aD.v mD (aD.i kH (aD.i rE (aD.v v6 (aD.i i7 (aD.i (Int.ofNat 0) (aD.l c2 aD.n))))))))) none)
 (S 4 (aD.i r5 aD.n))
noncomputable def aJT (h : Hp) (S : Nat → aD → Option Value) (r0 r1 : Value) : Option Value :=
 o9 (Array.toList (Value.cells r0)) fun c0 =>
 bW r1 fun i1 =>
 S 1 (aD.i (Int.ofNat 0) (aD.v r1 (aD.i i1 (aD.i (Int.ofNat 0) (aD.l c0 aD.n)))))
noncomputable def T54 (h : Hp) (S : Nat → aD → Option Value) : Nat → aD → Option Value := dU 0 (wV fun r0 => wV fun r1 => wN (aJT h S r0 r1)) (dU 1 (wI fun r5 => wV fun mD => wI fun kH => wI fun rE => wL fun c2 => wN (aDT h S r5 mD kH rE c2)) (dU 2 (wI fun r5 => wV fun mD => wI fun kH => wI fun rE => wV fun r19 => wI fun r20 => wI fun r21 => wL fun c2 => wN (aDS h S r5 mD kH rE r19 r20 r21 c2)) (dU 3 (wI fun r5 => wV fun mD => wI fun kH => wI fun rE => wL fun c2 => wN (aJS h S r5 mD kH rE c2)) (dU 4 (wI fun r5 => wN (aZG h S r5)) (kP)))))
noncomputable def F54 (args : List Value) (h : Hp) : Option Value := plainO (dV [Kd.v, Kd.v] args fun al => G.aK (T54 h) 1000000 0 al)
def bC3 : Nat := 2 + (36 - 2)
theorem t54 (h : Hp) (S : Nat → aD → Option Value) : gW (fun l al => G.aY iF dB oM (pJ env pf5 bC3 h) (qE env Try.f54.results.toList) (G.collect B54 A54 []) l S al) (T54 h S) := by
 unfold T54
 exact dX (nA fun _ => nA fun _ => oO (by kernel_rfl)) <| dX (jX fun _ => nA fun _ => jX fun _ => jX fun _ => rpL fun _ => oO (by kernel_rfl)) <| dX (jX fun _ => nA fun _ => jX fun _ => jX fun _ => nA fun _ => jX fun _ => jX fun _ => rpL fun _ => oO (by kernel_rfl)) <| dX (jX fun _ => nA fun _ => jX fun _ => jX fun _ => rpL fun _ => oO (by kernel_rfl)) <| dX (jX fun _ => oO (by kernel_rfl)) <| gW.nil
theorem r54 : fZ Try.prog 54 F54 := dI (C := C0) ok0 (pf := pf5) aRU (fn := Try.f54) (body := B54) (kinds := [Kd.v, Kd.v]) (A := A54) (T := T54) (by kernel_rfl) (by kernel_rfl) (by kernel_rfl) (by kernel_rfl) (fun h S => t54 h S)
noncomputable def pf6 : PF := FH 54 F54 pf5
theorem aRX : eO Try.prog pf6 := iN r54 aRU
noncomputable def aJU := pK 54 F54 aRW
noncomputable def C21 : dO := cfg aJU
theorem bC4 : C21.Ok := fT (C := C20) bC2 r54
noncomputable def B18 : Code := (Try.f18.body).getD .skip
def A18 : eT := (Am 0 [(0, .v), (1, .i .i64), (2, .i .i64)] Ao (An Ao (An (An Ao (An Az Ao)) (An (An Ao (An Az Ao)) (An Ao Az)))))
noncomputable def aZI (S : Sg) (r0 : Value) (r1 r2 : Int) (h : Hp) : aF :=
 bD h 25 (Array.toList (Value.cells r0)) fun a0 h0 =>
 aT 4 h0 a0 fun v1 =>
 aN (bV F52 [v1, (Value.int .i64 r2)] h0) fun v2 h2 =>
 fF v2 0 fun v3 =>
 fF v2 1 fun v4 =>
 aS .i64 v4 fun i5 =>
 bD h2 71 [(Value.slice none 0 0), (Value.slice none 0 0), (Value.slice none 0 0), (Value.slice none 0 0), (Value.map none)] fun a6 h6 =>
 dY 5 h6 a6 v3 fun h7 =>
 bE (kF i5 (Int.ofNat 0)) fun b8 =>
 bY b8
 (some (Value.tuple (List.toArray [(Value.int .i64 (Int.ofNat 0)), (Value.slice none 0 0), (Value.int .i64 i5)]), h7))
 (aR 0 a6 fun v9 =>
 aR 2 v9 fun v10 =>
 aI h7 v10 fun v11 =>
 bW v11 fun i12 =>
 aN (bA env h7 22 1 (List.toArray [(0, (Value.int .i64 r1))])) fun v13 O3 =>
 aN (bS (F53 [(Value.int .i64 i12), v13] O3) fun v => some (v, O3)) fun v14 h14 =>
 dM v14 fun b15 =>
 bE b15 fun b16 =>
 bY b16
 (some (Value.tuple (List.toArray [(Value.int .i64 (Int.ofNat 0)), (Value.slice none 0 0), (Value.int .i64 (Int.ofNat 4))]), h14))
 (bS (jQ env 76 (List.toArray [(0, (Value.int .i64 r1)), (1, (Value.int .i64 r2))])) fun v17 =>
 bD h14 76 [(Value.int .i64 (Int.ofNat 0)), (Value.int .i64 (Int.ofNat 0))] fun a18 h18 =>
 dY 2 h18 a18 v17 fun h19 =>
 aT 5 (Hp.mk (Hp.next h19) (Hp.next h19) (Hp.aC h19)) a6 fun v20 =>
 aT 2 (Hp.mk (Hp.next h19) (Hp.next h19) (Hp.aC h19)) a18 fun v21 =>
 aN (bA env (Hp.mk (Hp.next h19) (Hp.next h19) T.nil) 79 1 (List.toArray [(0, v21)])) fun v22 h22 =>
 iH v22 (Hp.next h19) h22 fun w23 n23 =>
 aN (bS (F54 [v20, v22] (Hp.mk n23 n23 (aP w23 (Hp.aC h19)))) fun v => some (v, (Hp.mk n23 n23 (aP w23 (Hp.aC h19))))) fun v24 h24 =>
 aS .i64 v24 fun i25 =>
 aR 4 a6 fun v26 =>
 aI (Hp.mk n23 n23 (Hp.aC h19)) v26 fun v27 =>
 aT 2 (Hp.mk n23 n23 (Hp.aC h19)) a18 fun v28 =>
 bS (kK env (Hp.mk n23 n23 (Hp.aC h19)) 69 v27 v28 false) fun v29 =>
 some (Value.tuple (List.toArray [(Value.int .i64 i25), v29, (Value.int .i64 (Int.ofNat 0))]), (Hp.mk n23 (Hp.ro h19) (aP w23 (Hp.aC h19))))))
noncomputable def T18 (S : Sg) : Sg := cK 0 (uV fun r0 => uI fun r1 => uI fun r2 => uN (aZI S r0 r1 r2)) (jI)
noncomputable def F18 (args : List Value) (h : Hp) : aF := bB [Kd.v, Kd.i .i64, Kd.i .i64] args fun al => aK T18 1000000 0 al h
def bC7 : Nat := 3 + (39 - 3)
theorem t18 (S : Sg) : iO (fun l vs h => aY (jZ env aJU bC7) (jV env Try.f18.results.toList) (collect B18 A18 []) l S vs h) (T18 S) := by
 unfold T18
 exact dK (dN fun _ => jG fun _ => jG fun _ => iZ fun _ => by kernel_rfl) <| Go.bK.iO.nil
theorem r18 : ∀ args h v h', F18 args h = some (v, h') → eF (C21) (.call 18 args.toArray h) (.ret v h') := by
 intro args h v h' e
 exact bC (C := C21) (fn := Try.f18) (body := B18) (np := 3) (A := A18) (T := T18) (kinds := [Kd.v, Kd.i .i64, Kd.i .i64]) (by kernel_rfl) (by kernel_rfl) (by kernel_rfl) (by kernel_rfl) (dH dL) (by kernel_rfl) (fun S => t18 S) e
noncomputable def aRY := jF 18 F18 aJU
noncomputable def C22 : dO := cfg aRY
theorem bC8 : C22.Ok := dA (C := C21) bC4 r18
noncomputable def aZJ : Code := (Try.f111.body).getD .skip
noncomputable def aZK : G.eT (List KI) := (Gm 0 [.reg 0 .v, .reg 1 (.i .i64)] Gz (Gn (Gn Gz (Gn (Gm 1 [.reg 0 .v, .reg 1 (.i .i64), .reg 7 (.i .i64), .reg 8 (.i .i64)] (Gn Gz (Gn Gy (Gn (Gn (Gn Gz (Gn Gz (Gn Gy Gz))) Gz) Gz))) Gz) Gz)) (Gm 2 [] Gz Gz)))
noncomputable def aUG (h : Hp) (S : Nat → aD → Option Value) : Option Value :=
 some (Value.int .i64 (Int.negSucc 0))
noncomputable def VV (h : Hp) (S : Nat → aD → Option Value) (r0 : Value) (r1 r7 r8 : Int) : Option Value :=
 bQ (lI r8 r7) fun b0 =>
 bY b0
 (dS 1 r0 r8 fun v1 =>
 aI h v1 fun v2 =>
 aS .i64 v2 fun i3 =>
 bQ (kF r1 i3) fun b4 =>
 bY b4
 (some (Value.int .i64 r8))
 (wrap64 (Int.add r8 (Int.ofNat 1)) fun i5 =>
 S 1 (aD.v r0 (aD.i r1 (aD.i r7 (aD.i i5 aD.n))))))
 (S 2 aD.n)
noncomputable def aB0 (h : Hp) (S : Nat → aD → Option Value) (r0 : Value) (r1 : Int) : Option Value :=
 bW r0 fun i0 =>
 S 1 (aD.v r0 (aD.i r1 (aD.i i0 (aD.i (Int.ofNat 0) aD.n))))
noncomputable def VW (h : Hp) (S : Nat → aD → Option Value) : Nat → aD → Option Value := dU 0 (wV fun r0 => wI fun r1 => wN (aB0 h S r0 r1)) (dU 1 (wV fun r0 => wI fun r1 => wI fun r7 => wI fun r8 => wN (VV h S r0 r1 r7 r8)) (dU 2 (wN (aUG h S)) (kP)))
noncomputable def aJV (args : List Value) (h : Hp) : Option Value := plainO (dV [Kd.v, Kd.i .i64] args fun al => G.aK (VW h) 1000000 0 al)
def aZL : Nat := 2 + (19 - 2)
theorem t111 (h : Hp) (S : Nat → aD → Option Value) : gW (fun l al => G.aY iF dB oM (pJ env pf6 aZL h) (qE env Try.f111.results.toList) (G.collect aZJ aZK []) l S al) (VW h S) := by
 unfold VW
 exact dX (nA fun _ => jX fun _ => oO (by kernel_rfl)) <| dX (nA fun _ => jX fun _ => jX fun _ => jX fun _ => oO (by kernel_rfl)) <| dX (oO (by kernel_rfl)) <| gW.nil
theorem aZM : fZ Try.prog 111 aJV := dI (C := C0) ok0 (pf := pf6) aRX (fn := Try.f111) (body := aZJ) (kinds := [Kd.v, Kd.i .i64]) (A := aZK) (T := VW) (by kernel_rfl) (by kernel_rfl) (by kernel_rfl) (by kernel_rfl) (fun h S => t111 h S)
noncomputable def pf7 : PF := FH 111 aJV pf6
theorem aRZ : eO Try.prog pf7 := iN aZM aRX
noncomputable def aR0 := pK 111 aJV aRY
noncomputable def C23 : dO := cfg aR0
theorem bC9 : C23.Ok := fT (C := C22) bC8 aZM
noncomputable def B90 : Code := (Try.f90.body).getD .skip
noncomputable def A90 : G.eT (List KI) := (Gm 0 [.reg 0 .v, .reg 1 (.i .i64)] Gz Gy)
noncomputable def aJW (h : Hp) (S : Nat → aD → Option Value) (r0 : Value) (r1 : Int) : Option Value :=
 bS (aJV [r0, (Value.int .i64 r1)] h) fun v0 =>
 aS .i64 v0 fun i1 =>
 bE (lI i1 (Int.ofNat 0)) fun b2 =>
 some (Value.bool b2)
noncomputable def T90 (h : Hp) (S : Nat → aD → Option Value) : Nat → aD → Option Value := dU 0 (wV fun r0 => wI fun r1 => wN (aJW h S r0 r1)) (kP)
noncomputable def F90 (args : List Value) (h : Hp) : Option Value := plainO (dV [Kd.v, Kd.i .i64] args fun al => G.aK (T90 h) 1000000 0 al)
def bDA : Nat := 2 + (9 - 2)
theorem t90 (h : Hp) (S : Nat → aD → Option Value) : gW (fun l al => G.aY iF dB oM (pJ env pf7 bDA h) (qE env Try.f90.results.toList) (G.collect B90 A90 []) l S al) (T90 h S) := by
 unfold T90
 exact dX (nA fun _ => jX fun _ => oO (by kernel_rfl)) <| gW.nil
theorem r90 : fZ Try.prog 90 F90 := dI (C := C0) ok0 (pf := pf7) aRZ (fn := Try.f90) (body := B90) (kinds := [Kd.v, Kd.i .i64]) (A := A90) (T := T90) (by kernel_rfl) (by kernel_rfl) (by kernel_rfl) (by kernel_rfl) (fun h S => t90 h S)
noncomputable def pf8 : PF := FH 90 F90 pf7
theorem aR1 : eO Try.prog pf8 := iN r90 aRZ
noncomputable def aR2 := pK 90 F90 aR0
noncomputable def C24 : dO := cfg aR2
theorem bDB : C24.Ok := fT (C := C23) bC9 r90
noncomputable def B92 : Code := (Try.f92.body).getD .skip
noncomputable def A92 : G.eT (List KI) := (Gm 0 [.reg 0 .v, .reg 1 .v] Gz Gy)
noncomputable def aJX (h : Hp) (S : Nat → aD → Option Value) (r0 r1 : Value) : Option Value :=
 o9 (Array.toList (Value.cells r0)) fun c0 =>
 o9 (Array.toList (Value.cells r1)) fun c1 =>
 A7 c0 4 fun v2 =>
 zF c1 0 fun d3 => xH d3 2 fun l3 =>
 bS (kK env h 69 v2 (Value.agg (Array.mk l3)) false) fun v4 =>
 bS (F90 [v4, (Value.int .i64 (Int.ofNat 0))] h) fun v5 =>
 dM v5 fun b6 =>
 some (Value.bool b6)
noncomputable def T92 (h : Hp) (S : Nat → aD → Option Value) : Nat → aD → Option Value := dU 0 (wV fun r0 => wV fun r1 => wN (aJX h S r0 r1)) (kP)
noncomputable def F92 (args : List Value) (h : Hp) : Option Value := plainO (dV [Kd.v, Kd.v] args fun al => G.aK (T92 h) 1000000 0 al)
def bDC : Nat := 2 + (10 - 2)
theorem t92 (h : Hp) (S : Nat → aD → Option Value) : gW (fun l al => G.aY iF dB oM (pJ env pf8 bDC h) (qE env Try.f92.results.toList) (G.collect B92 A92 []) l S al) (T92 h S) := by
 unfold T92
 exact dX (nA fun _ => nA fun _ => oO (by kernel_rfl)) <| gW.nil
theorem r92 : fZ Try.prog 92 F92 := dI (C := C0) ok0 (pf := pf8) aR1 (fn := Try.f92) (body := B92) (kinds := [Kd.v, Kd.v]) (A := A92) (T := T92) (by kernel_rfl) (by kernel_rfl) (by kernel_rfl) (by kernel_rfl) (fun h S => t92 h S)
noncomputable def pf9 : PF := FH 92 F92 pf8
theorem aR3 : eO Try.prog pf9 := iN r92 aR1
noncomputable def aJY := pK 92 F92 aR2
noncomputable def C25 : dO := cfg aJY
theorem bDD : C25.Ok := fT (C := C24) bDB r92
noncomputable def B60 : Code := (Try.f60.body).getD .skip
def A60 : eT := (Am 0 [(0, .v), (1, .v)] Ao (An Ao (An Ao (An (An Ao (An (Am 1 [(2, .v), (4, .v), (5, .v), (15, .v), (16, .i .i64), (17, .i .i64)] (An Ao (An Az (An (An (An Ao (An Ao (An (An Ao Az) Ao))) Ao) Ao))) Ao) Ao)) (Am 2 [(4, .v), (5, .v)] Ao Ao)))))
noncomputable def aJZ (S : Sg) (r4 r5 : Value) (h : Hp) : aF :=
 aT 4 h r5 fun v0 =>
 dY 4 h r4 v0 fun h1 =>
 aT 4 h1 r4 fun v2 => some (v2, h1)
noncomputable def aDU (S : Sg) (r2 r4 : Value) (r5 r15 : Value) (r16 IQ : Int) (h : Hp) : aF :=
 bQ (lI IQ r16) fun b0 =>
 bY b0
 (dS 2 r15 IQ fun v1 =>
 aT 2 h v1 fun v2 =>
 bD h 76 [(Value.int .i64 (Int.ofNat 0)), (Value.int .i64 (Int.ofNat 0))] fun a3 h3 =>
 dY 2 h3 a3 v2 fun h4 =>
 aT 5 h4 r2 fun v5 =>
 aT 2 h4 a3 fun v6 =>
 aN (bS (F92 [v5, v6] h4) fun v => some (v, h4)) fun v7 h7 =>
 dM v7 fun b8 =>
 bY b8
 (aR 0 r2 fun v9 =>
 aR 2 v9 fun v10 =>
 aI (Hp.mk (Hp.next h7) (Hp.next h7) (Hp.aC h7)) v10 fun v11 =>
 aR 0 a3 fun v12 =>
 aI (Hp.mk (Hp.next h7) (Hp.next h7) (Hp.aC h7)) v12 fun v13 =>
 aS .i64 v13 fun i14 =>
 dS 3 v11 i14 fun v15 =>
 aT 3 (Hp.mk (Hp.next h7) (Hp.next h7) (Hp.aC h7)) v15 fun v16 =>
 aR 0 r2 fun v17 =>
 aR 3 v17 fun v18 =>
 aI (Hp.mk (Hp.next h7) (Hp.next h7) (Hp.aC h7)) v18 fun v19 =>
 aR 1 a3 fun v20 =>
 aI (Hp.mk (Hp.next h7) (Hp.next h7) (Hp.aC h7)) v20 fun v21 =>
 aS .i64 v21 fun i22 =>
 dS 3 v19 i22 fun v23 =>
 aT 3 (Hp.mk (Hp.next h7) (Hp.next h7) (Hp.aC h7)) v23 fun v24 =>
 bD (Hp.mk (Hp.next h7) (Hp.next h7) T.nil) 59 [(Value.string (ByteArray.mk #[])), (Value.slice none 0 0), (Value.int .i64 (Int.ofNat 0))] fun a25 h25 =>
 iH a25 (Hp.next h7) h25 fun w26 n26 =>
 bD (Hp.mk n26 n26 T.nil) 59 [(Value.string (ByteArray.mk #[])), (Value.slice none 0 0), (Value.int .i64 (Int.ofNat 0))] fun a27 h27 =>
 iH a27 n26 h27 fun w28 n28 =>
 EW env 59 a25 v16 n28 (Hp.next h7) (aP w28 (aP w26 (Hp.aC h7))) (fun b => (iA [] b || (iA [] b || (iA [] b || (iA [] b || (iA [] b || (iA [] b || (iA [] b || (iA w26 b || (iA w28 b || false)))))))))) fun w29 =>
 dY 3 (Hp.mk n28 (Hp.ro h7) (aP w29 (aP w28 (aP w26 (Hp.aC h7))))) a27 v24 fun h30 =>
 aR 1 a25 fun v31 =>
 aI h30 v31 fun v32 =>
 dS 1 v32 (Int.ofNat 0) fun v33 =>
 aI h30 v33 fun v34 =>
 aS .i64 v34 fun i35 =>
 NS 4 1 r5 i35 fun v36 =>
 aI h30 v36 fun v37 =>
 aS .i64 v37 fun i38 =>
 aR 2 a25 fun v39 =>
 aI h30 v39 fun v40 =>
 aS .i64 v40 fun i41 =>
 wrap64 (Int.add i38 i41) fun i42 =>
 NS 4 1 r5 i35 fun v43 =>
 jW h30 v43 (Value.int .i64 i42) fun h44 =>
 aR 1 a27 fun v45 =>
 aI h44 v45 fun v46 =>
 dS 1 v46 (Int.ofNat 0) fun v47 =>
 aI h44 v47 fun v48 =>
 aS .i64 v48 fun i49 =>
 NS 4 1 r5 i49 fun v50 =>
 aI h44 v50 fun v51 =>
 aS .i64 v51 fun i52 =>
 aR 2 a27 fun v53 =>
 aI h44 v53 fun v54 =>
 aS .i64 v54 fun i55 =>
 wrap64 (Int.sub i52 i55) fun i56 =>
 NS 4 1 r5 i49 fun v57 =>
 jW h44 v57 (Value.int .i64 i56) fun h58 =>
 wrap64 (Int.add IQ (Int.ofNat 1)) fun i59 =>
 S 1 (AL.v r2 (AL.v r4 (AL.v r5 (AL.v r15 (AL.i r16 (AL.i i59 AL.n)))))) h58)
 (wrap64 (Int.add IQ (Int.ofNat 1)) fun i60 =>
 S 1 (AL.v r2 (AL.v r4 (AL.v r5 (AL.v r15 (AL.i r16 (AL.i i60 AL.n)))))) h7))
 (S 2 (AL.v r4 (AL.v r5 AL.n)) h)
noncomputable def aJ0 (S : Sg) (r0 r1 : Value) (h : Hp) : aF :=
 bD h 71 (Array.toList (Value.cells r0)) fun a0 h0 =>
 bD h0 87 [(Value.int .i64 (Int.ofNat 0)), (Value.int .i64 (Int.ofNat 0)), (Value.int .i64 (Int.ofNat 0)), (Value.int .i64 (Int.ofNat 0))] fun a1 h1 =>
 bD h1 87 [(Value.int .i64 (Int.ofNat 0)), (Value.int .i64 (Int.ofNat 0)), (Value.int .i64 (Int.ofNat 0)), (Value.int .i64 (Int.ofNat 0))] fun a2 h2 =>
 bS (jA env h2 87 a2 none none none) fun v3 =>
 aR 0 a0 fun v4 =>
 aR 1 v4 fun v5 =>
 aI h2 v5 fun v6 =>
 aN (copyV env h2 #[22, 22] (List.toArray [v3, v6])) fun v7 h7 =>
 bW r1 fun i8 =>
 S 1 (AL.v a0 (AL.v a1 (AL.v a2 (AL.v r1 (AL.i i8 (AL.i (Int.ofNat 0) AL.n)))))) h7
noncomputable def T60 (S : Sg) : Sg := cK 0 (uV fun r0 => uV fun r1 => uN (aJ0 S r0 r1)) (cK 1 (uV fun r2 => uV fun r4 => uV fun r5 => uV fun r15 => uI fun r16 => uI fun IQ => uN (aDU S r2 r4 r5 r15 r16 IQ)) (cK 2 (uV fun r4 => uV fun r5 => uN (aJZ S r4 r5)) (jI)))
noncomputable def F60 (args : List Value) (h : Hp) : aF := bB [Kd.v, Kd.v] args fun al => aK T60 1000000 0 al h
def bDE : Nat := 2 + (60 - 2)
theorem t60 (S : Sg) : iO (fun l vs h => aY (jZ env aJY bDE) (jV env Try.f60.results.toList) (collect B60 A60 []) l S vs h) (T60 S) := by
 unfold T60
 exact dK (dN fun _ => dN fun _ => iZ fun _ => by kernel_rfl) <| dK (dN fun _ => dN fun _ => dN fun _ => dN fun _ => jG fun _ => jG fun _ => iZ fun _ => by kernel_rfl) <| dK (dN fun _ => dN fun _ => iZ fun _ => by kernel_rfl) <| Go.bK.iO.nil
theorem r60 : ∀ args h v h', F60 args h = some (v, h') → eF (C25) (.call 60 args.toArray h) (.ret v h') := by
 intro args h v h' e
 exact bC (C := C25) (fn := Try.f60) (body := B60) (np := 2) (A := A60) (T := T60) (kinds := [Kd.v, Kd.v]) (by kernel_rfl) (by kernel_rfl) (by kernel_rfl) (by kernel_rfl) (dH dL) (by kernel_rfl) (fun S => t60 S) e
noncomputable def aR6 := jF 60 F60 aJY
noncomputable def C26 : dO := cfg aR6
theorem bDF : C26.Ok := dA (C := C25) bDD r60
noncomputable def B77 : Code := (Try.f77.body).getD .skip
noncomputable def A77 : G.eT (List KI) := (Gm 0 [.reg 0 .v] Gz (Gn Gz (Gn (Gn Gz (Gn (G.eT.node (some (1, [.loc 2 2, .loc 3 3, .reg 6 .v, .reg 7 (.i .i64), .cells 2 [.i .i64, .i .i64, .i .i64, .i .i64], .cells 3 [.i .i64, .i .i64, .i .i64, .i .i64]])) (Gn Gz (Gn Gy (Gn (Gn Gy Gz) Gz))) Gz) Gz)) (G.eT.node (some (2, [.loc 2 2, .loc 3 3, .cells 2 [.i .i64, .i .i64, .i .i64, .i .i64], .cells 3 [.i .i64, .i .i64, .i .i64, .i .i64]])) Gz Gz))))
noncomputable def aZT (h : Hp) (S : Nat → aD → Option Value) (YW YX : Int) (YY YZ : Int) (uX sV : Int) (uY uZ : Int) : Option Value :=
 aO6 (Value.agg (Array.mk [(Value.int .i64 uX), (Value.int .i64 sV), (Value.int .i64 uY), (Value.int .i64 uZ)])) fun l0 => bY (Nat.beq (QK l0) 4) (U6 0 l0 [(Value.int .i64 YW), (Value.int .i64 YX), (Value.int .i64 YY), (Value.int .i64 YZ)] fun c0 =>
 zF c0 0 fun d1 => xH d1 4 fun l1 => some (Value.agg (Array.mk l1))) none
noncomputable def aDV (h : Hp) (S : Nat → aD → Option Value) (r6 : Value) (r7 YW : Int) (YX YY : Int) (YZ uX : Int) (sV uY uZ : Int) : Option Value :=
 bQ (lI r7 (Int.ofNat 4)) fun b0 =>
 bY b0
 (bS (jU env 87 r6 (Value.int .i64 r7)) fun v1 =>
 aS .i64 v1 fun i2 =>
 wrap64 (Int.sub 0 i2) fun i3 =>
 aFD (Int.ofNat 0) i3 fun i4 =>
 U2 r7 (fun n5 => bY (Nat.ble (Nat.succ n5) 4) (gZ (Nat.add 0 (Nat.mul n5 1)) fun o5 =>
 CU [(Value.int .i64 uX), (Value.int .i64 sV), (Value.int .i64 uY), (Value.int .i64 uZ)] o5 (Value.int .i64 i4) fun c6 =>
 wrap64 (Int.add r7 (Int.ofNat 1)) fun i7 =>
 lZ c6 fun a8 c8 =>
 aS .i64 a8 fun i9 =>
 lZ c8 fun a10 c10 =>
 aS .i64 a10 fun i11 =>
 lZ c10 fun a12 c12 =>
 aS .i64 a12 fun i13 =>
 lZ c12 fun a14 c14 =>
 aS .i64 a14 fun i15 =>
 aID c14 (S 1 (aD.v r6 (aD.i i7 (aD.i YW (aD.i YX (aD.i YY (aD.i YZ (aD.i i9 (aD.i i11 (aD.i i13 (aD.i i15 aD.n)))))))))))) none) (fun _ => none))
 (S 2 (aD.i YW (aD.i YX (aD.i YY (aD.i YZ (aD.i uX (aD.i sV (aD.i uY (aD.i uZ aD.n)))))))))
noncomputable def aJ2 (h : Hp) (S : Nat → aD → Option Value) (r0 : Value) : Option Value :=
 o9 (Array.toList (Value.cells r0)) fun c0 =>
 zF c0 0 fun d1 => xH d1 4 fun l1 =>
 S 1 (aD.v (Value.agg (Array.mk l1)) (aD.i (Int.ofNat 0) (aD.i (Int.ofNat 0) (aD.i (Int.ofNat 0) (aD.i (Int.ofNat 0) (aD.i (Int.ofNat 0) (aD.i (Int.ofNat 0) (aD.i (Int.ofNat 0) (aD.i (Int.ofNat 0) (aD.i (Int.ofNat 0) aD.n))))))))))
noncomputable def T77 (h : Hp) (S : Nat → aD → Option Value) : Nat → aD → Option Value := dU 0 (wV fun r0 => wN (aJ2 h S r0)) (dU 1 (wV fun r6 => wI fun r7 => wI fun YW => wI fun YX => wI fun YY => wI fun YZ => wI fun uX => wI fun sV => wI fun uY => wI fun uZ => wN (aDV h S r6 r7 YW YX YY YZ uX sV uY uZ)) (dU 2 (wI fun YW => wI fun YX => wI fun YY => wI fun YZ => wI fun uX => wI fun sV => wI fun uY => wI fun uZ => wN (aZT h S YW YX YY YZ uX sV uY uZ)) (kP)))
noncomputable def F77 (args : List Value) (h : Hp) : Option Value := plainO (dV [Kd.v] args fun al => G.aK (T77 h) 1000000 0 al)
def bDH : Nat := 1 + (18 - 1)
theorem t77 (h : Hp) (S : Nat → aD → Option Value) : gW (fun l al => G.aY iF dB oM (pJ env pf9 bDH h) (qE env Try.f77.results.toList) (G.collect B77 A77 []) l S al) (T77 h S) := by
 unfold T77
 exact dX (nA fun _ => oO (by kernel_rfl)) <| dX (nA fun _ => jX fun _ => jX fun _ => jX fun _ => jX fun _ => jX fun _ => jX fun _ => jX fun _ => jX fun _ => jX fun _ => oO (by kernel_rfl)) <| dX (jX fun _ => jX fun _ => jX fun _ => jX fun _ => jX fun _ => jX fun _ => jX fun _ => jX fun _ => oO (by kernel_rfl)) <| gW.nil
theorem r77 : fZ Try.prog 77 F77 := dI (C := C0) ok0 (pf := pf9) aR3 (fn := Try.f77) (body := B77) (kinds := [Kd.v]) (A := A77) (T := T77) (by kernel_rfl) (by kernel_rfl) (by kernel_rfl) (by kernel_rfl) (fun h S => t77 h S)
noncomputable def aPY : PF := FH 77 F77 pf9
theorem aJ4 : eO Try.prog aPY := iN r77 aR3
noncomputable def aJ5 := pK 77 F77 aR6
noncomputable def C27 : dO := cfg aJ5
theorem bDI : C27.Ok := fT (C := C26) bDF r77
noncomputable def aZU : Code := (Try.f102.body).getD .skip
def aZV : eT := (Am 0 [(0, .v), (1, .v)] Ao (An Ao (An (An Ao (An (Am 1 [(5, .i .i64), (11, .v), (12, .i .i64)] (An Ao (An Az (An (An Az Ao) Ao))) Ao) Ao)) (Am 2 [(5, .i .i64)] Ao Ao))))
noncomputable def aUI (S : Sg) (r5 : Int) (h : Hp) : aF :=
 some ((Value.int .i64 r5), h)
noncomputable def VX (S : Sg) (r5 : Int) (kH : Value) (rE : Int) (h : Hp) : aF :=
 bQ (lI rE (Int.ofNat 4)) fun b0 =>
 bY b0
 (bS (jU env 87 kH (Value.int .i64 rE)) fun v1 =>
 aS .i64 v1 fun i2 =>
 wrap64 (Int.add r5 i2) fun i3 =>
 wrap64 (Int.add rE (Int.ofNat 1)) fun i4 =>
 S 1 (AL.i i3 (AL.v kH (AL.i i4 AL.n))) h)
 (S 2 (AL.i r5 AL.n) h)
noncomputable def aB1 (S : Sg) (r0 r1 : Value) (h : Hp) : aF :=
 bD h 71 (Array.toList (Value.cells r0)) fun a0 h0 =>
 aT 5 h0 a0 fun v1 =>
 aN (bV F60 [v1, r1] h0) fun v2 h2 =>
 aN (bS (F77 [v2] h2) fun v => some (v, h2)) fun v3 h3 =>
 S 1 (AL.i (Int.ofNat 0) (AL.v v3 (AL.i (Int.ofNat 0) AL.n))) h3
noncomputable def O4 (S : Sg) : Sg := cK 0 (uV fun r0 => uV fun r1 => uN (aB1 S r0 r1)) (cK 1 (uI fun r5 => uV fun kH => uI fun rE => uN (VX S r5 kH rE)) (cK 2 (uI fun r5 => uN (aUI S r5)) (jI)))
noncomputable def aB2 (args : List Value) (h : Hp) : aF := bB [Kd.v, Kd.v] args fun al => aK O4 1000000 0 al h
def aZW : Nat := 2 + (20 - 2)
theorem t102 (S : Sg) : iO (fun l vs h => aY (jZ env aJ5 aZW) (jV env Try.f102.results.toList) (collect aZU aZV []) l S vs h) (O4 S) := by
 unfold O4
 exact dK (dN fun _ => dN fun _ => iZ fun _ => by kernel_rfl) <| dK (jG fun _ => dN fun _ => jG fun _ => iZ fun _ => by kernel_rfl) <| dK (jG fun _ => iZ fun _ => by kernel_rfl) <| Go.bK.iO.nil
theorem bDJ : ∀ args h v h', aB2 args h = some (v, h') → eF (C27) (.call 102 args.toArray h) (.ret v h') := by
 intro args h v h' e
 exact bC (C := C27) (fn := Try.f102) (body := aZU) (np := 2) (A := aZV) (T := O4) (kinds := [Kd.v, Kd.v]) (by kernel_rfl) (by kernel_rfl) (by kernel_rfl) (by kernel_rfl) (dH dL) (by kernel_rfl) (fun S => t102 S) e
noncomputable def aR7 := jF 102 aB2 aJ5
noncomputable def C28 : dO := cfg aR7
theorem bDK : C28.Ok := dA (C := C27) bDI bDJ
noncomputable def aZX : Code := (Try.f120.body).getD .skip
noncomputable def aZY : G.eT (List KI) := (Gm 0 [.reg 0 (.i .i64)] Gz Gy)
noncomputable def aUJ (h : Hp) (S : Nat → aD → Option Value) (r0 : Int) : Option Value :=
 bE (kF r0 r0) fun b0 =>
 some (Value.bool b0)
noncomputable def aPZ (h : Hp) (S : Nat → aD → Option Value) : Nat → aD → Option Value := dU 0 (wI fun r0 => wN (aUJ h S r0)) (kP)
noncomputable def aF5 (args : List Value) (h : Hp) : Option Value := plainO (dV [Kd.i .i64] args fun al => G.aK (aPZ h) 1000000 0 al)
def aZZ : Nat := 1 + (6 - 1)
theorem t120 (h : Hp) (S : Nat → aD → Option Value) : gW (fun l al => G.aY iF dB oM (pJ env aPY aZZ h) (qE env Try.f120.results.toList) (G.collect aZX aZY []) l S al) (aPZ h S) := by
 unfold aPZ
 exact dX (jX fun _ => oO (by kernel_rfl)) <| gW.nil
theorem aZ0 : fZ Try.prog 120 aF5 := dI (C := C0) ok0 (pf := aPY) aJ4 (fn := Try.f120) (body := aZX) (kinds := [Kd.i .i64]) (A := aZY) (T := aPZ) (by kernel_rfl) (by kernel_rfl) (by kernel_rfl) (by kernel_rfl) (fun h S => t120 h S)
noncomputable def aP0 : PF := FH 120 aF5 aPY
theorem aJ6 : eO Try.prog aP0 := iN aZ0 aJ4
noncomputable def aR8 := pK 120 aF5 aR7
noncomputable def C29 : dO := cfg aR8
theorem bDL : C29.Ok := fT (C := C28) bDK aZ0
noncomputable def aZ1 : Code := (Try.f116.body).getD .skip
noncomputable def aZ2 : G.eT (List KI) := (Gm 0 [.reg 0 (.i .i64), .reg 1 (.i .i64)] Gz (Gn Gz (Gn Gz (Gn (Gn Gz (Gn (Gn (Gn Gz (Gn Gy Gz)) Gy) Gz)) (Gn (Gn Gz (Gn Gy Gz)) (Gn (Gn Gz (Gn Gy Gz)) (Gn (Gn Gz (Gn Gy Gz)) Gy)))))))
noncomputable def aB3 (h : Hp) (S : Nat → aD → Option Value) (r0 r1 : Int) : Option Value :=
 bS (aF5 [(Value.int .i64 r0)] h) fun v0 =>
 dM v0 fun b1 =>
 bS (aF5 [(Value.int .i64 r1)] h) fun v2 =>
 dM v2 fun b3 =>
 bY b1
 (bY b3
 (some (Value.int .i64 (Int.ofNat 0)))
 (some (Value.int .i64 (Int.negSucc 0))))
 (bY b3
 (some (Value.int .i64 (Int.ofNat 1)))
 (bQ (lI r0 r1) fun b4 =>
 bY b4
 (some (Value.int .i64 (Int.negSucc 0)))
 (bQ (lI r1 r0) fun b5 =>
 bY b5
 (some (Value.int .i64 (Int.ofNat 1)))
 (some (Value.int .i64 (Int.ofNat 0))))))
noncomputable def aJ7 (h : Hp) (S : Nat → aD → Option Value) : Nat → aD → Option Value := dU 0 (wI fun r0 => wI fun r1 => wN (aB3 h S r0 r1)) (kP)
noncomputable def aF6 (args : List Value) (h : Hp) : Option Value := plainO (dV [Kd.i .i64, Kd.i .i64] args fun al => G.aK (aJ7 h) 1000000 0 al)
def aZ3 : Nat := 2 + (20 - 2)
theorem t116 (h : Hp) (S : Nat → aD → Option Value) : gW (fun l al => G.aY iF dB oM (pJ env aP0 aZ3 h) (qE env Try.f116.results.toList) (G.collect aZ1 aZ2 []) l S al) (aJ7 h S) := by
 unfold aJ7
 exact dX (jX fun _ => jX fun _ => oO (by kernel_rfl)) <| gW.nil
theorem aZ4 : fZ Try.prog 116 aF6 := dI (C := C0) ok0 (pf := aP0) aJ6 (fn := Try.f116) (body := aZ1) (kinds := [Kd.i .i64, Kd.i .i64]) (A := aZ2) (T := aJ7) (by kernel_rfl) (by kernel_rfl) (by kernel_rfl) (by kernel_rfl) (fun h S => t116 h S)
noncomputable def aP1 : PF := FH 116 aF6 aP0
theorem aJ8 : eO Try.prog aP1 := iN aZ4 aJ6
noncomputable def aR9 := pK 116 aF6 aR8
noncomputable def C30 : dO := cfg aR9
theorem bDM : C30.Ok := fT (C := C29) bDL aZ4
noncomputable def aZ5 : Code := (Try.f115.body).getD .skip
noncomputable def aZ6 : G.eT (List KI) := (Gm 0 [.reg 0 .v] Gz (Gn Gz (Gn (Gn Gz (Gn (Gm 1 [.reg 3 (.i .i64), .reg 6 .v, .reg 7 (.i .i64), .reg 8 (.i .i64)] (Gn Gz (Gn Gy (Gn (Gn (Gn Gz (Gn Gz (Gn Gy Gz))) Gz) Gz))) Gz) Gz)) (Gm 2 [.reg 3 (.i .i64)] Gz Gz))))
noncomputable def aUK (h : Hp) (S : Nat → aD → Option Value) (r3 : Int) : Option Value :=
 some (Value.int .i64 r3)
noncomputable def O5 (h : Hp) (S : Nat → aD → Option Value) (r3 : Int) (r6 : Value) (r7 r8 : Int) : Option Value :=
 bQ (lI r8 r7) fun b0 =>
 bY b0
 (dS 1 r6 r8 fun v1 =>
 aI h v1 fun v2 =>
 aS .i64 v2 fun i3 =>
 bE (kF i3 r3) fun b4 =>
 bY b4
 (some (Value.int .i64 i3))
 (wrap64 (Int.add r8 (Int.ofNat 1)) fun i5 =>
 S 1 (aD.i r3 (aD.v r6 (aD.i r7 (aD.i i5 aD.n))))))
 (S 2 (aD.i r3 aD.n))
noncomputable def aB4 (h : Hp) (S : Nat → aD → Option Value) (r0 : Value) : Option Value :=
 bW r0 fun i0 =>
 S 1 (aD.i (Int.ofNat 0) (aD.v r0 (aD.i i0 (aD.i (Int.ofNat 0) aD.n))))
noncomputable def Y0 (h : Hp) (S : Nat → aD → Option Value) : Nat → aD → Option Value := dU 0 (wV fun r0 => wN (aB4 h S r0)) (dU 1 (wI fun r3 => wV fun r6 => wI fun r7 => wI fun r8 => wN (O5 h S r3 r6 r7 r8)) (dU 2 (wI fun r3 => wN (aUK h S r3)) (kP)))
noncomputable def aJ9 (args : List Value) (h : Hp) : Option Value := plainO (dV [Kd.v] args fun al => G.aK (Y0 h) 1000000 0 al)
def aZ7 : Nat := 1 + (18 - 1)
theorem t115 (h : Hp) (S : Nat → aD → Option Value) : gW (fun l al => G.aY iF dB oM (pJ env aP1 aZ7 h) (qE env Try.f115.results.toList) (G.collect aZ5 aZ6 []) l S al) (Y0 h S) := by
 unfold Y0
 exact dX (nA fun _ => oO (by kernel_rfl)) <| dX (jX fun _ => nA fun _ => jX fun _ => jX fun _ => oO (by kernel_rfl)) <| dX (jX fun _ => oO (by kernel_rfl)) <| gW.nil
theorem aZ8 : fZ Try.prog 115 aJ9 := dI (C := C0) ok0 (pf := aP1) aJ8 (fn := Try.f115) (body := aZ5) (kinds := [Kd.v]) (A := aZ6) (T := Y0) (by kernel_rfl) (by kernel_rfl) (by kernel_rfl) (by kernel_rfl) (fun h S => t115 h S)
noncomputable def aZ9 : PF := FH 115 aJ9 aP1
theorem aUL : eO Try.prog aZ9 := iN aZ8 aJ8
noncomputable def H9 := pK 115 aJ9 aR9
noncomputable def C31 : dO := cfg H9
theorem bDN : C31.Ok := fT (C := C30) bDM aZ8
noncomputable def a0A : Code := (Try.f103.body).getD .skip
def a0B : eT := (Am 0 [(0, .v), (1, .v), (2, .v)] Ao Az)
noncomputable def aB5 (S : Sg) (r0 r1 r2 : Value) (h : Hp) : aF :=
 bD h 135 (Array.toList (Value.cells r0)) fun a0 h0 =>
 aR 0 a0 fun v1 =>
 aI (Hp.mk (Hp.next h0) (Hp.next h0) (Hp.aC h0)) v1 fun v2 =>
 aN (qR H9 v2 [r1] (Hp.mk (Hp.next h0) (Hp.next h0) (Hp.aC h0))) fun v3 h3 =>
 aS .i64 v3 fun i4 =>
 aR 0 a0 fun v5 =>
 aI (Hp.mk (Hp.next h0) (Hp.next h0) (Hp.aC h0)) v5 fun v6 =>
 aN (qR H9 v6 [r2] (Hp.mk (Hp.next h0) (Hp.next h0) (Hp.aC h0))) fun v7 h7 =>
 aS .i64 v7 fun i8 =>
 aN (bS (aF6 [(Value.int .i64 i4), (Value.int .i64 i8)] (Hp.mk (Hp.next h0) (Hp.next h0) (Hp.aC h0))) fun v => some (v, (Hp.mk (Hp.next h0) (Hp.next h0) (Hp.aC h0)))) fun v9 h9 =>
 aS .i64 v9 fun i10 =>
 aR 1 a0 fun v11 =>
 aI (Hp.mk (Hp.next h0) (Hp.next h0) (Hp.aC h0)) v11 fun v12 =>
 aN (qR H9 v12 [r1] (Hp.mk (Hp.next h0) (Hp.next h0) (Hp.aC h0))) fun v13 O3 =>
 aS .i64 v13 fun i14 =>
 aR 1 a0 fun v15 =>
 aI (Hp.mk (Hp.next h0) (Hp.next h0) (Hp.aC h0)) v15 fun v16 =>
 aN (qR H9 v16 [r2] (Hp.mk (Hp.next h0) (Hp.ro h0) (Hp.aC h0))) fun v17 h17 =>
 aS .i64 v17 fun i18 =>
 aN (bS (aF6 [(Value.int .i64 i14), (Value.int .i64 i18)] h17) fun v => some (v, h17)) fun v19 h19 =>
 aS .i64 v19 fun i20 =>
 aN (bA env h19 22 2 (List.toArray [(0, (Value.int .i64 i10)), (1, (Value.int .i64 i20))])) fun v21 h21 =>
 aN (bS (aJ9 [v21] h21) fun v => some (v, h21)) fun v22 h22 =>
 aS .i64 v22 fun i23 =>
 some ((Value.int .i64 i23), h22)
noncomputable def aKA (S : Sg) : Sg := cK 0 (uV fun r0 => uV fun r1 => uV fun r2 => uN (aB5 S r0 r1 r2)) (jI)
noncomputable def aF7 (args : List Value) (h : Hp) : aF := bB [Kd.v, Kd.v, Kd.v] args fun al => aK aKA 1000000 0 al h
def a0C : Nat := 3 + (27 - 3)
theorem t103 (S : Sg) : iO (fun l vs h => aY (jZ env H9 a0C) (jV env Try.f103.results.toList) (collect a0A a0B []) l S vs h) (aKA S) := by
 unfold aKA
 exact dK (dN fun _ => dN fun _ => dN fun _ => iZ fun _ => by kernel_rfl) <| Go.bK.iO.nil
theorem bDO : ∀ args h v h', aF7 args h = some (v, h') → eF (C31) (.call 103 args.toArray h) (.ret v h') := by
 intro args h v h' e
 exact bC (C := C31) (fn := Try.f103) (body := a0A) (np := 3) (A := a0B) (T := aKA) (kinds := [Kd.v, Kd.v, Kd.v]) (by kernel_rfl) (by kernel_rfl) (by kernel_rfl) (by kernel_rfl) (dH dL) (by kernel_rfl) (fun S => t103 S) e
noncomputable def aKB := jF 103 aF7 H9
noncomputable def C32 : dO := cfg aKB
theorem ok32 : C32.Ok := dA (C := C31) bDN bDO
noncomputable def B58 : Code := (Try.f58.body).getD .skip
def A58 : eT := (Am 0 [(0, .v), (1, .v)] Ao (An Ao (An (An (An Ao (An Az (An Ao (An Az (An Ao (An Az Ao)))))) Ao) (An Ao (An (An Ao (An (Am 1 [(1, .v), (4, .v), (7, .v), (9, .v), (40, .v), (41, .i .i64), (42, .i .i64)] (An Ao (An Az (An (An (An Ao (An (An Ao (An Az Ao)) Ao)) Ao) Ao))) Ao) Ao)) (Am 2 [(4, .v), (7, .v), (9, .v)] Ao Ao))))))
noncomputable def a0D (S : Sg) (r4 r7 r9 : Value) (h : Hp) : aF :=
 aT 5 h r7 fun v0 =>
 dY 5 h r4 v0 fun h1 =>
 aT 5 h1 r4 fun v2 => some (Value.tuple (List.toArray [v2, r9, (Value.int .i64 (Int.ofNat 0))]), h1)
noncomputable def a0E (S : Sg) (r1 r4 : Value) (r7 r9 r40 : Value) (r41 r42 : Int) (h : Hp) : aF :=
 bQ (lI r42 r41) fun b0 =>
 bY b0
 (dS 1 r40 r42 fun v1 =>
 aI h v1 fun v2 =>
 aS .i64 v2 fun i3 =>
 bS (jA env h 22 r1 none (some (Value.int .i64 r42)) none) fun v4 =>
 aN (bS (F90 [v4, (Value.int .i64 i3)] h) fun v => some (v, h)) fun v5 h5 =>
 dM v5 fun b6 =>
 bY b6
 (bS (jQ env 71 (List.toArray [])) fun v7 =>
 dY 5 h5 r4 v7 fun h8 =>
 aT 5 h8 r4 fun v9 => some (Value.tuple (List.toArray [v9, (Value.slice none 0 0), (Value.int .i64 (Int.ofNat 5))]), h8))
 (bS (jQ env 76 (List.toArray [(0, (Value.int .i64 i3)), (1, (Value.int .i64 r42))])) fun v10 =>
 aN (bA env h5 79 1 (List.toArray [(0, v10)])) fun v11 h11 =>
 aN (fC env h11 #[79, 79] (List.toArray [r9, v11])) fun v12 h12 =>
 wrap64 (Int.add r42 (Int.ofNat 1)) fun i13 =>
 S 1 (AL.v r1 (AL.v r4 (AL.v r7 (AL.v v12 (AL.v r40 (AL.i r41 (AL.i i13 AL.n))))))) h12))
 (S 2 (AL.v r4 (AL.v r7 (AL.v r9 AL.n))) h)
noncomputable def a0F (S : Sg) (r0 r1 : Value) (h : Hp) : aF :=
 bD h 25 (Array.toList (Value.cells r0)) fun a0 h0 =>
 bD h0 71 [(Value.slice none 0 0), (Value.slice none 0 0), (Value.slice none 0 0), (Value.slice none 0 0), (Value.map none)] fun a1 h1 =>
 aT 4 h1 a0 fun v2 =>
 aN (bV F63 [v2] h1) fun v3 h3 =>
 fF v3 0 fun v4 =>
 fF v3 1 fun v5 =>
 aS .i64 v5 fun i6 =>
 bD h3 71 [(Value.slice none 0 0), (Value.slice none 0 0), (Value.slice none 0 0), (Value.slice none 0 0), (Value.map none)] fun a7 h7 =>
 dY 5 h7 a7 v4 fun h8 =>
 bE (kF i6 (Int.ofNat 0)) fun b9 =>
 bY b9
 (bS (jQ env 71 (List.toArray [])) fun v10 =>
 dY 5 h8 a1 v10 fun h11 =>
 aT 5 h11 a1 fun v12 => some (Value.tuple (List.toArray [v12, (Value.slice none 0 0), (Value.int .i64 i6)]), h11))
 (bW r1 fun i13 =>
 aR 0 a7 fun v14 =>
 aR 3 v14 fun v15 =>
 aI h8 v15 fun v16 =>
 bW v16 fun i17 =>
 bE (kF i13 i17) fun b18 =>
 bY b18
 (bS (jQ env 71 (List.toArray [])) fun v19 =>
 dY 5 h8 a1 v19 fun h20 =>
 aT 5 h20 a1 fun v21 => some (Value.tuple (List.toArray [v21, (Value.slice none 0 0), (Value.int .i64 (Int.ofNat 3))]), h20))
 (aR 0 a7 fun v22 =>
 aR 2 v22 fun v23 =>
 aI h8 v23 fun v24 =>
 bW v24 fun i25 =>
 aN (bS (F53 [(Value.int .i64 i25), r1] h8) fun v => some (v, h8)) fun v26 h26 =>
 dM v26 fun b27 =>
 bE b27 fun b28 =>
 bY b28
 (bS (jQ env 71 (List.toArray [])) fun v29 =>
 dY 5 h26 a1 v29 fun h30 =>
 aT 5 h30 a1 fun v31 => some (Value.tuple (List.toArray [v31, (Value.slice none 0 0), (Value.int .i64 (Int.ofNat 4))]), h30))
 (bW r1 fun i32 =>
 S 1 (AL.v r1 (AL.v a1 (AL.v a7 (AL.v (Value.slice none 0 0) (AL.v r1 (AL.i i32 (AL.i (Int.ofNat 0) AL.n))))))) h26)))
noncomputable def T58 (S : Sg) : Sg := cK 0 (uV fun r0 => uV fun r1 => uN (a0F S r0 r1)) (cK 1 (uV fun r1 => uV fun r4 => uV fun r7 => uV fun r9 => uV fun r40 => uI fun r41 => uI fun r42 => uN (a0E S r1 r4 r7 r9 r40 r41 r42)) (cK 2 (uV fun r4 => uV fun r7 => uV fun r9 => uN (a0D S r4 r7 r9)) (jI)))
noncomputable def F58 (args : List Value) (h : Hp) : aF := bB [Kd.v, Kd.v] args fun al => aK T58 1000000 0 al h
def bDQ : Nat := 2 + (62 - 2)
theorem t58 (S : Sg) : iO (fun l vs h => aY (jZ env aKB bDQ) (jV env Try.f58.results.toList) (collect B58 A58 []) l S vs h) (T58 S) := by
 unfold T58
 exact dK (dN fun _ => dN fun _ => iZ fun _ => by kernel_rfl) <| dK (dN fun _ => dN fun _ => dN fun _ => dN fun _ => dN fun _ => jG fun _ => jG fun _ => iZ fun _ => by kernel_rfl) <| dK (dN fun _ => dN fun _ => dN fun _ => iZ fun _ => by kernel_rfl) <| Go.bK.iO.nil
theorem r58 : ∀ args h v h', F58 args h = some (v, h') → eF (C32) (.call 58 args.toArray h) (.ret v h') := by
 intro args h v h' e
 exact bC (C := C32) (fn := Try.f58) (body := B58) (np := 2) (A := A58) (T := T58) (kinds := [Kd.v, Kd.v]) (by kernel_rfl) (by kernel_rfl) (by kernel_rfl) (by kernel_rfl) (dH dL) (by kernel_rfl) (fun S => t58 S) e
noncomputable def aKC := jF 58 F58 aKB
noncomputable def C33 : dO := cfg aKC
theorem bDR : C33.Ok := dA (C := C32) ok32 r58
noncomputable def B91 : Code := (Try.f91.body).getD .skip
def A91 : eT := (Am 0 [(0, .v)] Ao (An (An Ao (An Az Ao)) Az))
noncomputable def aKD (S : Sg) (r0 : Value) (h : Hp) : aF :=
 bS (qP env .eql 22 (Operand.tmp 3) (Operand.const (Value.slice none 0 0)) r0 (Value.slice none 0 0)) fun v0 =>
 dM v0 fun b1 =>
 bY b1
 (some ((Value.slice none 0 0), h))
 (aN (bA env h 22 0 (List.toArray [])) fun v2 h2 =>
 aN (fC env h2 #[22, 22] (List.toArray [v2, r0])) fun v3 h3 =>
 some (v3, h3))
noncomputable def T91 (S : Sg) : Sg := cK 0 (uV fun r0 => uN (aKD S r0)) (jI)
noncomputable def F91 (args : List Value) (h : Hp) : aF := bB [Kd.v] args fun al => aK T91 1000000 0 al h
def bDS : Nat := 1 + (8 - 1)
theorem t91 (S : Sg) : iO (fun l vs h => aY (jZ env aKC bDS) (jV env Try.f91.results.toList) (collect B91 A91 []) l S vs h) (T91 S) := by
 unfold T91
 exact dK (dN fun _ => iZ fun _ => by kernel_rfl) <| Go.bK.iO.nil
theorem r91 : ∀ args h v h', F91 args h = some (v, h') → eF (C33) (.call 91 args.toArray h) (.ret v h') := by
 intro args h v h' e
 exact bC (C := C33) (fn := Try.f91) (body := B91) (np := 1) (A := A91) (T := T91) (kinds := [Kd.v]) (by kernel_rfl) (by kernel_rfl) (by kernel_rfl) (by kernel_rfl) (dH dL) (by kernel_rfl) (fun S => t91 S) e
noncomputable def aKE := jF 91 F91 aKC
noncomputable def C34 : dO := cfg aKE
theorem bDT : C34.Ok := dA (C := C33) bDR r91
noncomputable def B59 : Code := (Try.f59.body).getD .skip
def A59 : eT := (Am 0 [(0, .v), (1, .v)] Ao Az)
noncomputable def aKF (S : Sg) (r0 r1 : Value) (h : Hp) : aF :=
 bD h 71 (Array.toList (Value.cells r0)) fun a0 h0 =>
 bD h0 87 (Array.toList (Value.cells r1)) fun a1 h1 =>
 aR 0 a0 fun v2 =>
 aR 1 v2 fun v3 =>
 aI h1 v3 fun v4 =>
 bW v4 fun i5 =>
 bS (jA env h1 87 a1 none (some (Value.int .i64 i5)) none) fun v6 =>
 aN (bV F91 [v6] h1) fun v7 h7 =>
 some (v7, h7)
noncomputable def T59 (S : Sg) : Sg := cK 0 (uV fun r0 => uV fun r1 => uN (aKF S r0 r1)) (jI)
noncomputable def F59 (args : List Value) (h : Hp) : aF := bB [Kd.v, Kd.v] args fun al => aK T59 1000000 0 al h
def bDU : Nat := 2 + (11 - 2)
theorem t59 (S : Sg) : iO (fun l vs h => aY (jZ env aKE bDU) (jV env Try.f59.results.toList) (collect B59 A59 []) l S vs h) (T59 S) := by
 unfold T59
 exact dK (dN fun _ => dN fun _ => iZ fun _ => by kernel_rfl) <| Go.bK.iO.nil
theorem r59 : ∀ args h v h', F59 args h = some (v, h') → eF (C34) (.call 59 args.toArray h) (.ret v h') := by
 intro args h v h' e
 exact bC (C := C34) (fn := Try.f59) (body := B59) (np := 2) (A := A59) (T := T59) (kinds := [Kd.v, Kd.v]) (by kernel_rfl) (by kernel_rfl) (by kernel_rfl) (by kernel_rfl) (dH dL) (by kernel_rfl) (fun S => t59 S) e
noncomputable def aKG := jF 59 F59 aKE
noncomputable def C35 : dO := cfg aKG
theorem bDV : C35.Ok := dA (C := C34) bDT r59
noncomputable def B22 : Code := (Try.f22.body).getD .skip
def A22 : eT := (Am 0 [(0, .v), (1, .v)] Ao (An Ao (An (An Ao (An Az Ao)) Az)))
noncomputable def a0J (S : Sg) (r0 r1 : Value) (h : Hp) : aF :=
 bD h 25 (Array.toList (Value.cells r0)) fun a0 h0 =>
 aT 4 h0 a0 fun v1 =>
 aN (bV F58 [v1, r1] h0) fun v2 h2 =>
 fF v2 0 fun v3 =>
 fF v2 1 fun v4 =>
 fF v2 2 fun v5 =>
 aS .i64 v5 fun i6 =>
 bD h2 71 [(Value.slice none 0 0), (Value.slice none 0 0), (Value.slice none 0 0), (Value.slice none 0 0), (Value.map none)] fun a7 h7 =>
 dY 5 h7 a7 v3 fun h8 =>
 bE (kF i6 (Int.ofNat 0)) fun b9 =>
 bY b9
 (some (Value.tuple (List.toArray [(Value.slice none 0 0), (Value.int .i64 i6)]), h8))
 (aT 5 h8 a7 fun v10 =>
 aT 5 h8 a7 fun v11 =>
 aN (aN (bV F60 [v11, v4] (Hp.mk (Hp.next h8) (Hp.next h8) (Hp.aC h8))) fun v _ => bY (kT v) (some (v, h8)) none) fun v12 h12 =>
 aN (bV F59 [v10, v12] h12) fun v13 O3 =>
 some (Value.tuple (List.toArray [v13, (Value.int .i64 (Int.ofNat 0))]), O3))
noncomputable def T22 (S : Sg) : Sg := cK 0 (uV fun r0 => uV fun r1 => uN (a0J S r0 r1)) (jI)
noncomputable def F22 (args : List Value) (h : Hp) : aF := bB [Kd.v, Kd.v] args fun al => aK T22 1000000 0 al h
def bDW : Nat := 2 + (24 - 2)
theorem t22 (S : Sg) : iO (fun l vs h => aY (jZ env aKG bDW) (jV env Try.f22.results.toList) (collect B22 A22 []) l S vs h) (T22 S) := by
 unfold T22
 exact dK (dN fun _ => dN fun _ => iZ fun _ => by kernel_rfl) <| Go.bK.iO.nil
theorem TC : ∀ args h v h', F22 args h = some (v, h') → eF (C35) (.call 22 args.toArray h) (.ret v h') := by
 intro args h v h' e
 exact bC (C := C35) (fn := Try.f22) (body := B22) (np := 2) (A := A22) (T := T22) (kinds := [Kd.v, Kd.v]) (by kernel_rfl) (by kernel_rfl) (by kernel_rfl) (by kernel_rfl) (dH dL) (by kernel_rfl) (fun S => t22 S) e
noncomputable def aKH := jF 22 F22 aKG
noncomputable def C36 : dO := cfg aKH
theorem bDX : C36.Ok := dA (C := C35) bDV TC
noncomputable def B62 : Code := (Try.f62.body).getD .skip
def A62 : eT := (Am 0 [(0, .v), (1, .v)] Ao Az)
noncomputable def aKI (S : Sg) (r0 r1 : Value) (h : Hp) : aF :=
 bD h 71 (Array.toList (Value.cells r0)) fun a0 h0 =>
 aT 5 h0 a0 fun v1 =>
 aN (bV F60 [v1, r1] h0) fun v2 h2 =>
 aN (bS (F77 [v2] h2) fun v => some (v, h2)) fun v3 h3 =>
 bS (jQ env 87 (List.toArray [])) fun v4 =>
 bS (qP env .eql 87 (Operand.tmp 8) (Operand.tmp 9) v3 v4) fun v5 =>
 dM v5 fun b6 =>
 some ((Value.bool b6), h3)
noncomputable def T62 (S : Sg) : Sg := cK 0 (uV fun r0 => uV fun r1 => uN (aKI S r0 r1)) (jI)
noncomputable def F62 (args : List Value) (h : Hp) : aF := bB [Kd.v, Kd.v] args fun al => aK T62 1000000 0 al h
def bDY : Nat := 2 + (11 - 2)
theorem t62 (S : Sg) : iO (fun l vs h => aY (jZ env aKH bDY) (jV env Try.f62.results.toList) (collect B62 A62 []) l S vs h) (T62 S) := by
 unfold T62
 exact dK (dN fun _ => dN fun _ => iZ fun _ => by kernel_rfl) <| Go.bK.iO.nil
theorem r62 : ∀ args h v h', F62 args h = some (v, h') → eF (C36) (.call 62 args.toArray h) (.ret v h') := by
 intro args h v h' e
 exact bC (C := C36) (fn := Try.f62) (body := B62) (np := 2) (A := A62) (T := T62) (kinds := [Kd.v, Kd.v]) (by kernel_rfl) (by kernel_rfl) (by kernel_rfl) (by kernel_rfl) (dH dL) (by kernel_rfl) (fun S => t62 S) e
noncomputable def aKJ := jF 62 F62 aKH
noncomputable def C37 : dO := cfg aKJ
theorem bDZ : C37.Ok := dA (C := C36) bDX r62
noncomputable def B24 : Code := (Try.f24.body).getD .skip
def A24 : eT := (Am 0 [(0, .v), (1, .v)] Ao (An Ao (An (An Ao (An Az Ao)) (An (An Ao (An Az Ao)) Az))))
noncomputable def a0L (S : Sg) (r0 r1 : Value) (h : Hp) : aF :=
 bD h 25 (Array.toList (Value.cells r0)) fun a0 h0 =>
 aT 4 h0 a0 fun v1 =>
 aN (bV F58 [v1, r1] h0) fun v2 h2 =>
 fF v2 0 fun v3 =>
 fF v2 1 fun v4 =>
 fF v2 2 fun v5 =>
 aS .i64 v5 fun i6 =>
 bD h2 71 [(Value.slice none 0 0), (Value.slice none 0 0), (Value.slice none 0 0), (Value.slice none 0 0), (Value.map none)] fun a7 h7 =>
 dY 5 h7 a7 v3 fun h8 =>
 bE (kF i6 (Int.ofNat 0)) fun b9 =>
 bY b9
 (some (Value.tuple (List.toArray [(Value.int .i64 (Int.ofNat 0)), (Value.int .i64 i6)]), h8))
 (aT 5 h8 a7 fun v10 =>
 aN (bV F62 [v10, v4] h8) fun v11 h11 =>
 dM v11 fun b12 =>
 bE b12 fun b13 =>
 bY b13
 (some (Value.tuple (List.toArray [(Value.int .i64 (Int.ofNat 0)), (Value.int .i64 (Int.ofNat 9))]), h11))
 (aT 5 h11 a7 fun v14 =>
 aN (bS (F54 [v14, v4] h11) fun v => some (v, h11)) fun v15 h15 =>
 aS .i64 v15 fun i16 =>
 some (Value.tuple (List.toArray [(Value.int .i64 i16), (Value.int .i64 (Int.ofNat 0))]), h15)))
noncomputable def T24 (S : Sg) : Sg := cK 0 (uV fun r0 => uV fun r1 => uN (a0L S r0 r1)) (jI)
noncomputable def F24 (args : List Value) (h : Hp) : aF := bB [Kd.v, Kd.v] args fun al => aK T24 1000000 0 al h
def bD1 : Nat := 2 + (26 - 2)
theorem t24 (S : Sg) : iO (fun l vs h => aY (jZ env aKJ bD1) (jV env Try.f24.results.toList) (collect B24 A24 []) l S vs h) (T24 S) := by
 unfold T24
 exact dK (dN fun _ => dN fun _ => iZ fun _ => by kernel_rfl) <| Go.bK.iO.nil
theorem r24 : ∀ args h v h', F24 args h = some (v, h') → eF (C37) (.call 24 args.toArray h) (.ret v h') := by
 intro args h v h' e
 exact bC (C := C37) (fn := Try.f24) (body := B24) (np := 2) (A := A24) (T := T24) (kinds := [Kd.v, Kd.v]) (by kernel_rfl) (by kernel_rfl) (by kernel_rfl) (by kernel_rfl) (dH dL) (by kernel_rfl) (fun S => t24 S) e
noncomputable def aKK := jF 24 F24 aKJ
noncomputable def C38 : dO := cfg aKK
theorem a0M : C38.Ok := dA (C := C37) bDZ r24
noncomputable abbrev a0N := aKK
theorem okE : (cfg a0N).Ok := a0M
end Go.Proofs.Ytdpicdnpiihaaaa.K
