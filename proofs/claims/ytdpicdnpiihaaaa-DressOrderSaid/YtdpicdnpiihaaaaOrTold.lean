/- Functions told. -/
import Derived.Test.YtdpicdnpiihaaaaOrTab
import Derived.Test.YtdpicdnpiihaaaaOrEngC
import Derived.Test.YtdpicdnpiihaaaaOrEngD
open Go Go.bI Go.bI.Y
set_option maxRecDepth 100000
set_option linter.unusedVariables false
namespace Go.Proofs.Ytdpicdnpiihaaaa.K
noncomputable def B82 : Code := (Try.f82.body).getD .skip
noncomputable def A82 : G.eU (List KI) := (Gm 0 [.reg 0 (.i .i64), .reg 1 (.i .i64), .reg 2 .v] Gz (Gn (Gn Gz (Gn (Gm 1 [.reg 0 (.i .i64), .reg 1 (.i .i64), .reg 9 .v, .reg 10 (.i .i64), .reg 11 (.i .i64)] (Gn Gz (Gn Gy (Gn (Gn (Gn Gz (Gn Gz (Gn Gy Gz))) Gz) Gz))) Gz) Gz)) (Gm 2 [] Gz Gz)))
noncomputable def aJ2 (h : Hp) (S : Nat → aD → Option Value) : Option Value :=
 some (Value.bool true)
noncomputable def Y5 (h : Hp) (S : Nat → aD → Option Value) (r0 r1 : Int) (r9 : Value) (mK jB : Int) : Option Value :=
 bH (lM jB mK) fun b0 =>
 bU b0
 (dN 1 r9 jB fun v1 =>
 aJ h v1 fun v2 =>
 aS .i64 v2 fun i3 =>
 bH (lM i3 r0) fun b4 =>
 bU b4
 (some (Value.bool false))
 (bH (lM r1 i3) fun b5 =>
 bU b5
 (some (Value.bool false))
 (wrap64 (Int.add jB (Int.ofNat 1)) fun i6 =>
 S 1 (aD.i r0 (aD.i r1 (aD.v r9 (aD.i mK (aD.i i6 aD.n))))))))
 (S 2 aD.n)
noncomputable def aJ3 (h : Hp) (S : Nat → aD → Option Value) (r0 r1 : Int) (r2 : Value) : Option Value :=
 bS r2 fun i0 =>
 S 1 (aD.i r0 (aD.i r1 (aD.v r2 (aD.i i0 (aD.i (Int.ofNat 0) aD.n)))))
noncomputable def T82 (h : Hp) (S : Nat → aD → Option Value) : Nat → aD → Option Value := dQ 0 (wI fun r0 => wI fun r1 => wV fun r2 => wN (aJ3 h S r0 r1 r2)) (dQ 1 (wI fun r0 => wI fun r1 => wV fun r9 => wI fun mK => wI fun jB => wN (Y5 h S r0 r1 r9 mK jB)) (dQ 2 (wN (aJ2 h S)) (kR)))
noncomputable def F82 (args : List Value) (h : Hp) : Option Value := plainO (dU [Kd.i .i64, Kd.i .i64, Kd.v] args fun al => G.aN (T82 h) 1000000 0 al)
def bDR : Nat := 3 + (24 - 3)
theorem t82 (h : Hp) (S : Nat → aD → Option Value) : gY (fun l al => G.aX iD dD oG (oN env pf0 bDR h) (pO env Try.f82.results.toList) (G.collect B82 A82 []) l S al) (T82 h S) := by
 unfold T82
 exact dV (kC fun _ => kC fun _ => mJ fun _ => oC (by kernel_rfl)) <| dV (kC fun _ => kC fun _ => mJ fun _ => kC fun _ => kC fun _ => oC (by kernel_rfl)) <| dV (oC (by kernel_rfl)) <| gY.nil
theorem r82 : fV Try.prog 82 F82 := dK (C := C0) ok0 (pf := pf0) aST (fn := Try.f82) (body := B82) (kinds := [Kd.i .i64, Kd.i .i64, Kd.v]) (A := A82) (T := T82) (by kernel_rfl) (by kernel_rfl) (by kernel_rfl) (by kernel_rfl) (fun h S => t82 h S)
noncomputable def pf1 : PF := EI 82 F82 pf0
theorem aSU : eF Try.prog pf1 := iN r82 aST
noncomputable def aVF := oO 82 F82 aZK
noncomputable def C1 : dP := cfg aVF
theorem ok1 : C1.Ok := fQ (C := C0) ok0 r82
noncomputable def B81 : Code := (Try.f81.body).getD .skip
def A81 : eU := (Am 0 [(0, .v), (1, .i .i64), (2, .v)] Ao (An (An Ao (An Az Ao)) Az))
noncomputable def aJ4 (S : Sg) (r0 : Value) (r1 : Int) (r2 : Value) (h : Hp) : aF :=
 aJ h r2 fun v0 =>
 aS .i64 v0 fun i1 =>
 aK (aU env h 22 1 (List.toArray [(0, (Value.int .i64 r1))])) fun v2 h2 =>
 aK (bR (F82 [(Value.int .i64 (Int.ofNat 0)), (Value.int .i64 i1), v2] h2) fun v => some (v, h2)) fun v3 h3 =>
 dH v3 fun b4 =>
 bA b4 fun b5 =>
 bU b5
 (some ((Value.int .i64 (Int.ofNat 7)), h3))
 (some ((Value.int .i64 (Int.ofNat 0)), h3))
noncomputable def T81 (S : Sg) : Sg := bV 0 (uV fun r0 => uI fun r1 => uV fun r2 => uN (aJ4 S r0 r1 r2)) (jL)
noncomputable def F81 (args : List Value) (h : Hp) : aF := bB [Kd.v, Kd.i .i64, Kd.v] args fun al => aN T81 1000000 0 al h
def bDS : Nat := 3 + (11 - 3)
theorem t81 (S : Sg) : iR (fun l vs h => aX (kF env aVF bDS) (j5 env Try.f81.results.toList) (collect B81 A81 []) l S vs h) (T81 S) := by
 unfold T81
 exact dG (dA fun _ => gI fun _ => dA fun _ => iO fun _ => by kernel_rfl) <| Go.bI.iR.nil
theorem r81 : ∀ args h v h', F81 args h = some (v, h') → eG (C1) (.call 81 args.toArray h) (.ret v h') := by
 intro args h v h' e
 exact bE (C := C1) (fn := Try.f81) (body := B81) (np := 3) (A := A81) (T := T81) (kinds := [Kd.v, Kd.i .i64, Kd.v]) (by kernel_rfl) (by kernel_rfl) (by kernel_rfl) (by kernel_rfl) (dJ dL) (by kernel_rfl) (fun S => t81 S) e
noncomputable def aCF := jF 81 F81 aVF
noncomputable def C2 : dP := cfg aCF
theorem ok2 : C2.Ok := dB (C := C1) ok1 r81
noncomputable def aZM : Code := (Try.f104.body).getD .skip
def aZN : eU := (Am 0 [(0, .v), (1, .v)] Ao (An (An Ao (An (Am 1 [(0, .v), (1, .v), (9, .v), (10, .i .i64), (11, .i .i64)] (An Ao (An Az (An (An (An Ao (An Ao (An Ao (An Az Ao)))) Ao) Ao))) Ao) Ao)) (Am 2 [] Ao Ao)))
noncomputable def aVG (S : Sg) (h : Hp) : aF :=
 some (Value.tuple (List.toArray [(Value.int .i64 (Int.ofNat 0)), (Value.int .i64 (Int.ofNat 0))]), h)
noncomputable def PE (S : Sg) (r0 r1 r9 : Value) (mK jB : Int) (h : Hp) : aF :=
 bH (lM jB mK) fun b0 =>
 bU b0
 (dN 1 r9 jB fun v1 =>
 aJ h v1 fun v2 =>
 aS .i64 v2 fun i3 =>
 bR (jG env h 22 r0 none (some (Value.int .i64 jB)) none) fun v4 =>
 aK (qP aCF r1 [v4, (Value.int .i64 i3)] h) fun v5 h5 =>
 aS .i64 v5 fun i6 =>
 bA (jV i6 (Int.ofNat 0)) fun b7 =>
 bU b7
 (some (Value.tuple (List.toArray [(Value.int .i64 jB), (Value.int .i64 i6)]), h5))
 (wrap64 (Int.add jB (Int.ofNat 1)) fun i8 =>
 S 1 (AL.v r0 (AL.v r1 (AL.v r9 (AL.i mK (AL.i i8 AL.n))))) h5))
 (S 2 AL.n h)
noncomputable def aCG (S : Sg) (r0 r1 : Value) (h : Hp) : aF :=
 bS r0 fun i0 =>
 S 1 (AL.v r0 (AL.v r1 (AL.v r0 (AL.i i0 (AL.i (Int.ofNat 0) AL.n))))) h
noncomputable def Y6 (S : Sg) : Sg := bV 0 (uV fun r0 => uV fun r1 => uN (aCG S r0 r1)) (bV 1 (uV fun r0 => uV fun r1 => uV fun r9 => uI fun mK => uI fun jB => uN (PE S r0 r1 r9 mK jB)) (bV 2 (uN fun h => aVG S  h) (jL)))
noncomputable def aQY (args : List Value) (h : Hp) : aF := bB [Kd.v, Kd.v] args fun al => aN Y6 1000000 0 al h
def aZO : Nat := 2 + (27 - 2)
theorem t104 (S : Sg) : iR (fun l vs h => aX (kF env aCF aZO) (j5 env Try.f104.results.toList) (collect aZM aZN []) l S vs h) (Y6 S) := by
 unfold Y6
 exact dG (dA fun _ => dA fun _ => iO fun _ => by kernel_rfl) <| dG (dA fun _ => dA fun _ => dA fun _ => gI fun _ => gI fun _ => iO fun _ => by kernel_rfl) <| dG (iO fun _ => by kernel_rfl) <| Go.bI.iR.nil
theorem bDT : ∀ args h v h', aQY args h = some (v, h') → eG (C2) (.call 104 args.toArray h) (.ret v h') := by
 intro args h v h' e
 exact bE (C := C2) (fn := Try.f104) (body := aZM) (np := 2) (A := aZN) (T := Y6) (kinds := [Kd.v, Kd.v]) (by kernel_rfl) (by kernel_rfl) (by kernel_rfl) (by kernel_rfl) (dJ dL) (by kernel_rfl) (fun S => t104 S) e
noncomputable def aVH := jF 104 aQY aCF
noncomputable def C3 : dP := cfg aVH
theorem ok3 : C3.Ok := dB (C := C2) ok2 bDT
noncomputable def B80 : Code := (Try.f80.body).getD .skip
def A80 : eU := (Am 0 [(0, .v), (1, .i .i64), (2, .v)] Ao (An (An Ao (An Az Ao)) Az))
noncomputable def aJ5 (S : Sg) (r0 : Value) (r1 : Int) (r2 : Value) (h : Hp) : aF :=
 bS r0 fun i0 =>
 bH (lM r1 i0) fun b1 =>
 bU b1
 (some (Value.tuple (List.toArray [(Value.int .i64 (Int.ofNat 0)), (Value.int .i64 (Int.ofNat 3))]), h))
 (aK (bQ aQY [r0, r2] h) fun v2 h2 =>
 eB v2 0 fun v3 =>
 aS .i64 v3 fun i4 =>
 eB v2 1 fun v5 =>
 aS .i64 v5 fun i6 =>
 some (Value.tuple (List.toArray [(Value.int .i64 i4), (Value.int .i64 i6)]), h2))
noncomputable def T80 (S : Sg) : Sg := bV 0 (uV fun r0 => uI fun r1 => uV fun r2 => uN (aJ5 S r0 r1 r2)) (jL)
noncomputable def F80 (args : List Value) (h : Hp) : aF := bB [Kd.v, Kd.i .i64, Kd.v] args fun al => aN T80 1000000 0 al h
def bDU : Nat := 3 + (17 - 3)
theorem t80 (S : Sg) : iR (fun l vs h => aX (kF env aVH bDU) (j5 env Try.f80.results.toList) (collect B80 A80 []) l S vs h) (T80 S) := by
 unfold T80
 exact dG (dA fun _ => gI fun _ => dA fun _ => iO fun _ => by kernel_rfl) <| Go.bI.iR.nil
theorem r80 : ∀ args h v h', F80 args h = some (v, h') → eG (C3) (.call 80 args.toArray h) (.ret v h') := by
 intro args h v h' e
 exact bE (C := C3) (fn := Try.f80) (body := B80) (np := 3) (A := A80) (T := T80) (kinds := [Kd.v, Kd.i .i64, Kd.v]) (by kernel_rfl) (by kernel_rfl) (by kernel_rfl) (by kernel_rfl) (dJ dL) (by kernel_rfl) (fun S => t80 S) e
noncomputable def aVI := jF 80 F80 aVH
noncomputable def C4 : dP := cfg aVI
theorem ok4 : C4.Ok := dB (C := C3) ok3 r80
noncomputable def B48 : Code := (Try.f48.body).getD .skip
def A48 : eU := (Am 0 [(0, .v), (1, .i .i64), (2, .i .i64)] Ao (An (An Ao (An Az Ao)) Az))
noncomputable def aJ6 (S : Sg) (r0 : Value) (r1 r2 : Int) (h : Hp) : aF :=
 bC h 3 [(Value.int .i64 r2)] fun a0 h0 =>
 bS r0 fun i1 =>
 bH (jV i1 (Int.ofNat 0)) fun b2 =>
 bU b2
 (some (Value.tuple (List.toArray [(Value.int .i64 (Int.ofNat 0)), (Value.int .i64 (Int.ofNat 3))]), h0))
 (aK (bQ F80 [r0, (Value.int .i64 r1), (Value.func (.func 81) (List.toArray []) (List.toArray [a0]))] h0) fun v3 h3 =>
 eB v3 0 fun v4 =>
 aS .i64 v4 fun i5 =>
 eB v3 1 fun v6 =>
 aS .i64 v6 fun i7 =>
 some (Value.tuple (List.toArray [(Value.int .i64 i5), (Value.int .i64 i7)]), h3))
noncomputable def T48 (S : Sg) : Sg := bV 0 (uV fun r0 => uI fun r1 => uI fun r2 => uN (aJ6 S r0 r1 r2)) (jL)
noncomputable def F48 (args : List Value) (h : Hp) : aF := bB [Kd.v, Kd.i .i64, Kd.i .i64] args fun al => aN T48 1000000 0 al h
def bDV : Nat := 3 + (17 - 3)
theorem t48 (S : Sg) : iR (fun l vs h => aX (kF env aVI bDV) (j5 env Try.f48.results.toList) (collect B48 A48 []) l S vs h) (T48 S) := by
 unfold T48
 exact dG (dA fun _ => gI fun _ => gI fun _ => iO fun _ => by kernel_rfl) <| Go.bI.iR.nil
theorem r48 : ∀ args h v h', F48 args h = some (v, h') → eG (C4) (.call 48 args.toArray h) (.ret v h') := by
 intro args h v h' e
 exact bE (C := C4) (fn := Try.f48) (body := B48) (np := 3) (A := A48) (T := T48) (kinds := [Kd.v, Kd.i .i64, Kd.i .i64]) (by kernel_rfl) (by kernel_rfl) (by kernel_rfl) (by kernel_rfl) (dJ dL) (by kernel_rfl) (fun S => t48 S) e
noncomputable def aZS := jF 48 F48 aVI
noncomputable def C5 : dP := cfg aZS
theorem ok5 : C5.Ok := dB (C := C4) ok4 r48
noncomputable def B87 : Code := (Try.f87.body).getD .skip
noncomputable def A87 : G.eU (List KI) := (Gm 0 [.reg 0 .v, .reg 1 .v] Gz Gy)
noncomputable def aJ7 (h : Hp) (S : Nat → aD → Option Value) (r0 r1 : Value) : Option Value :=
 pG (Array.toList (Value.cells r0)) fun c0 =>
 BB c0 0 fun v1 =>
 aO 0 r1 fun v2 =>
 aJ h v2 fun v3 =>
 bR (qQ env .eql 9 (Operand.tmp 5) (Operand.tmp 7) v1 v3) fun v4 =>
 dH v4 fun b5 =>
 some (Value.bool b5)
noncomputable def T87 (h : Hp) (S : Nat → aD → Option Value) : Nat → aD → Option Value := dQ 0 (wV fun r0 => wV fun r1 => wN (aJ7 h S r0 r1)) (kR)
noncomputable def F87 (args : List Value) (h : Hp) : Option Value := plainO (dU [Kd.v, Kd.v] args fun al => G.aN (T87 h) 1000000 0 al)
def bDW : Nat := 2 + (9 - 2)
theorem t87 (h : Hp) (S : Nat → aD → Option Value) : gY (fun l al => G.aX iD dD oG (oN env pf1 bDW h) (pO env Try.f87.results.toList) (G.collect B87 A87 []) l S al) (T87 h S) := by
 unfold T87
 exact dV (mJ fun _ => mJ fun _ => oC (by kernel_rfl)) <| gY.nil
theorem r87 : fV Try.prog 87 F87 := dK (C := C0) ok0 (pf := pf1) aSU (fn := Try.f87) (body := B87) (kinds := [Kd.v, Kd.v]) (A := A87) (T := T87) (by kernel_rfl) (by kernel_rfl) (by kernel_rfl) (by kernel_rfl) (fun h S => t87 h S)
noncomputable def pf2 : PF := EI 87 F87 pf1
theorem aSV : eF Try.prog pf2 := iN r87 aSU
noncomputable def aZV := oO 87 F87 aZS
noncomputable def C6 : dP := cfg aZV
theorem ok6 : C6.Ok := fQ (C := C5) ok5 r87
noncomputable def aZW : Code := (Try.f106.body).getD .skip
noncomputable def aZX : G.eU (List KI) := (Gm 0 [.reg 0 (.i .u8)] Gz Gy)
noncomputable def aCH (h : Hp) (S : Nat → aD → Option Value) (r0 : Int) : Option Value :=
 bA (lM r0 (Int.ofNat 97)) fun b0 =>
 bU b0
 (bA (lM (Int.ofNat 122) r0) fun b1 =>
 some (Value.bool b1))
 (some (Value.bool false))
noncomputable def aJ8 (h : Hp) (S : Nat → aD → Option Value) : Nat → aD → Option Value := dQ 0 (wI fun r0 => wN (aCH h S r0)) (kR)
noncomputable def aGY (args : List Value) (h : Hp) : Option Value := plainO (dU [Kd.i .u8] args fun al => G.aN (aJ8 h) 1000000 0 al)
def aZY : Nat := 1 + (9 - 1)
theorem t106 (h : Hp) (S : Nat → aD → Option Value) : gY (fun l al => G.aX iD dD oG (oN env pf2 aZY h) (pO env Try.f106.results.toList) (G.collect aZW aZX []) l S al) (aJ8 h S) := by
 unfold aJ8
 exact dV (kC fun _ => oC (by kernel_rfl)) <| gY.nil
theorem aZZ : fV Try.prog 106 aGY := dK (C := C0) ok0 (pf := pf2) aSV (fn := Try.f106) (body := aZW) (kinds := [Kd.i .u8]) (A := aZX) (T := aJ8) (by kernel_rfl) (by kernel_rfl) (by kernel_rfl) (by kernel_rfl) (fun h S => t106 h S)
noncomputable def pf3 : PF := EI 106 aGY pf2
theorem aSW : eF Try.prog pf3 := iN aZZ aSV
noncomputable def aZ0 := oO 106 aGY aZV
noncomputable def C7 : dP := cfg aZ0
theorem ok7 : C7.Ok := fQ (C := C6) ok6 aZZ
noncomputable def aZ1 : Code := (Try.f107.body).getD .skip
noncomputable def aZ2 : G.eU (List KI) := (Gm 0 [.reg 0 (.i .u8)] Gz Gy)
noncomputable def aCI (h : Hp) (S : Nat → aD → Option Value) (r0 : Int) : Option Value :=
 bA (lM r0 (Int.ofNat 48)) fun b0 =>
 bU b0
 (bA (lM (Int.ofNat 57) r0) fun b1 =>
 some (Value.bool b1))
 (some (Value.bool false))
noncomputable def aJ9 (h : Hp) (S : Nat → aD → Option Value) : Nat → aD → Option Value := dQ 0 (wI fun r0 => wN (aCI h S r0)) (kR)
noncomputable def aKA (args : List Value) (h : Hp) : Option Value := plainO (dU [Kd.i .u8] args fun al => G.aN (aJ9 h) 1000000 0 al)
def aZ3 : Nat := 1 + (9 - 1)
theorem t107 (h : Hp) (S : Nat → aD → Option Value) : gY (fun l al => G.aX iD dD oG (oN env pf3 aZ3 h) (pO env Try.f107.results.toList) (G.collect aZ1 aZ2 []) l S al) (aJ9 h S) := by
 unfold aJ9
 exact dV (kC fun _ => oC (by kernel_rfl)) <| gY.nil
theorem aZ4 : fV Try.prog 107 aKA := dK (C := C0) ok0 (pf := pf3) aSW (fn := Try.f107) (body := aZ1) (kinds := [Kd.i .u8]) (A := aZ2) (T := aJ9) (by kernel_rfl) (by kernel_rfl) (by kernel_rfl) (by kernel_rfl) (fun h S => t107 h S)
noncomputable def pf4 : PF := EI 107 aKA pf3
theorem aSX : eF Try.prog pf4 := iN aZ4 aSW
noncomputable def aVJ := oO 107 aKA aZ0
noncomputable def C8 : dP := cfg aVJ
theorem ok8 : C8.Ok := fQ (C := C7) ok7 aZ4
noncomputable def B85 : Code := (Try.f85.body).getD .skip
def A85 : eU := (Am 0 [(0, .v)] Ao (An (An Ao (An Az Ao)) (An (An Ao (An (Am 1 [(0, .v), (16, .i .i64), (17, .i .i64)] (An Ao (An Az (An (An (An Ao (An Ao (An Az Ao))) Ao) Ao))) Ao) Ao)) (Am 2 [] Ao Ao))))
noncomputable def aKB (S : Sg) (h : Hp) : aF :=
 some ((Value.bool true), h)
noncomputable def Y7 (S : Sg) (r0 : Value) (r16 sI : Int) (h : Hp) : aF :=
 bH (lM sI r16) fun b0 =>
 bU b0
 (bR (kE env 9 r0 (Value.int .i64 sI)) fun v1 =>
 aS .u8 v1 fun i2 =>
 aK (bR (aGY [(Value.int .u8 i2)] h) fun v => some (v, h)) fun v3 h3 =>
 dH v3 fun b4 =>
 bA b4 fun b5 =>
 bU b5
 (bR (kE env 9 r0 (Value.int .i64 sI)) fun v6 =>
 aS .u8 v6 fun i7 =>
 aK (bR (aKA [(Value.int .u8 i7)] h3) fun v => some (v, h3)) fun v8 h8 =>
 dH v8 fun b9 =>
 bA b9 fun b10 =>
 bU b10
 (bR (kE env 9 r0 (Value.int .i64 sI)) fun v11 =>
 aS .u8 v11 fun i12 =>
 bA (jV i12 (Int.ofNat 46)) fun b13 =>
 bU b13
 (some ((Value.bool false), h8))
 (wrap64 (Int.add sI (Int.ofNat 1)) fun i14 =>
 S 1 (AL.v r0 (AL.i r16 (AL.i i14 AL.n))) h8))
 (wrap64 (Int.add sI (Int.ofNat 1)) fun i15 =>
 S 1 (AL.v r0 (AL.i r16 (AL.i i15 AL.n))) h8))
 (wrap64 (Int.add sI (Int.ofNat 1)) fun i16 =>
 S 1 (AL.v r0 (AL.i r16 (AL.i i16 AL.n))) h3))
 (S 2 AL.n h)
noncomputable def aKC (S : Sg) (r0 : Value) (h : Hp) : aF :=
 KU r0 fun i0 =>
 aK (aU env h 22 1 (List.toArray [(0, (Value.int .i64 i0))])) fun v1 h1 =>
 aK (bR (F82 [(Value.int .i64 (Int.ofNat 1)), (Value.int .i64 (Int.ofNat 16)), v1] h1) fun v => some (v, h1)) fun v2 h2 =>
 dH v2 fun b3 =>
 bA b3 fun b4 =>
 bU b4
 (some ((Value.bool false), h2))
 (bR (kE env 9 r0 (Value.int .i64 (Int.ofNat 0))) fun v5 =>
 aS .u8 v5 fun i6 =>
 aK (bR (aGY [(Value.int .u8 i6)] h2) fun v => some (v, h2)) fun v7 h7 =>
 dH v7 fun b8 =>
 bA b8 fun b9 =>
 bU b9
 (some ((Value.bool false), h7))
 (KU r0 fun i10 =>
 S 1 (AL.v r0 (AL.i i10 (AL.i (Int.ofNat 0) AL.n))) h7))
noncomputable def T85 (S : Sg) : Sg := bV 0 (uV fun r0 => uN (aKC S r0)) (bV 1 (uV fun r0 => uI fun r16 => uI fun sI => uN (Y7 S r0 r16 sI)) (bV 2 (uN fun h => aKB S  h) (jL)))
noncomputable def F85 (args : List Value) (h : Hp) : aF := bB [Kd.v] args fun al => aN T85 1000000 0 al h
def bDX : Nat := 1 + (39 - 1)
theorem t85 (S : Sg) : iR (fun l vs h => aX (kF env aVJ bDX) (j5 env Try.f85.results.toList) (collect B85 A85 []) l S vs h) (T85 S) := by
 unfold T85
 exact dG (dA fun _ => iO fun _ => by kernel_rfl) <| dG (dA fun _ => gI fun _ => gI fun _ => iO fun _ => by kernel_rfl) <| dG (iO fun _ => by kernel_rfl) <| Go.bI.iR.nil
theorem r85 : ∀ args h v h', F85 args h = some (v, h') → eG (C8) (.call 85 args.toArray h) (.ret v h') := by
 intro args h v h' e
 exact bE (C := C8) (fn := Try.f85) (body := B85) (np := 1) (A := A85) (T := T85) (kinds := [Kd.v]) (by kernel_rfl) (by kernel_rfl) (by kernel_rfl) (by kernel_rfl) (dJ dL) (by kernel_rfl) (fun S => t85 S) e
noncomputable def aKD := jF 85 F85 aVJ
noncomputable def C9 : dP := cfg aKD
theorem ok9 : C9.Ok := dB (C := C8) ok8 r85
noncomputable def aZ6 : Code := (Try.f108.body).getD .skip
def aZ7 : eU := (Am 0 [(0, .v), (1, .v)] Ao (An (An Ao (An (Am 1 [(0, .v), (1, .v), (7, .i .i64), (8, .i .i64)] (An Ao (An Az (An (An (An Ao (An Ao (An Az Ao))) Ao) Ao))) Ao) Ao)) (Am 2 [] Ao Ao)))
noncomputable def aVK (S : Sg) (h : Hp) : aF :=
 some ((Value.int .i64 (Int.negSucc 0)), h)
noncomputable def PG (S : Sg) (r0 r1 : Value) (r7 r8 : Int) (h : Hp) : aF :=
 bH (lM r8 r7) fun b0 =>
 bU b0
 (dN 3 r0 r8 fun v1 =>
 aT 3 h v1 fun v2 =>
 aK (qP aKD r1 [v2] h) fun v3 h3 =>
 dH v3 fun b4 =>
 bU b4
 (some ((Value.int .i64 r8), h3))
 (wrap64 (Int.add r8 (Int.ofNat 1)) fun i5 =>
 S 1 (AL.v r0 (AL.v r1 (AL.i r7 (AL.i i5 AL.n)))) h3))
 (S 2 AL.n h)
noncomputable def aCJ (S : Sg) (r0 r1 : Value) (h : Hp) : aF :=
 bS r0 fun i0 =>
 S 1 (AL.v r0 (AL.v r1 (AL.i i0 (AL.i (Int.ofNat 0) AL.n)))) h
noncomputable def Y8 (S : Sg) : Sg := bV 0 (uV fun r0 => uV fun r1 => uN (aCJ S r0 r1)) (bV 1 (uV fun r0 => uV fun r1 => uI fun r7 => uI fun r8 => uN (PG S r0 r1 r7 r8)) (bV 2 (uN fun h => aVK S  h) (jL)))
noncomputable def aQ0 (args : List Value) (h : Hp) : aF := bB [Kd.v, Kd.v] args fun al => aN Y8 1000000 0 al h
def aZ8 : Nat := 2 + (19 - 2)
theorem t108 (S : Sg) : iR (fun l vs h => aX (kF env aKD aZ8) (j5 env Try.f108.results.toList) (collect aZ6 aZ7 []) l S vs h) (Y8 S) := by
 unfold Y8
 exact dG (dA fun _ => dA fun _ => iO fun _ => by kernel_rfl) <| dG (dA fun _ => dA fun _ => gI fun _ => gI fun _ => iO fun _ => by kernel_rfl) <| dG (iO fun _ => by kernel_rfl) <| Go.bI.iR.nil
theorem bDY : ∀ args h v h', aQ0 args h = some (v, h') → eG (C9) (.call 108 args.toArray h) (.ret v h') := by
 intro args h v h' e
 exact bE (C := C9) (fn := Try.f108) (body := aZ6) (np := 2) (A := aZ7) (T := Y8) (kinds := [Kd.v, Kd.v]) (by kernel_rfl) (by kernel_rfl) (by kernel_rfl) (by kernel_rfl) (dJ dL) (by kernel_rfl) (fun S => t108 S) e
noncomputable def aKE := jF 108 aQ0 aKD
noncomputable def C10 : dP := cfg aKE
theorem bDZ : C10.Ok := dB (C := C9) ok9 bDY
noncomputable def B86 : Code := (Try.f86.body).getD .skip
def A86 : eU := (Am 0 [(0, .v), (1, .v)] Ao Az)
noncomputable def aKF (S : Sg) (r0 r1 : Value) (h : Hp) : aF :=
 aK (bQ aQ0 [r0, r1] h) fun v0 h0 =>
 aS .i64 v0 fun i1 =>
 bA (lM i1 (Int.ofNat 0)) fun b2 =>
 some ((Value.bool b2), h0)
noncomputable def T86 (S : Sg) : Sg := bV 0 (uV fun r0 => uV fun r1 => uN (aKF S r0 r1)) (jL)
noncomputable def F86 (args : List Value) (h : Hp) : aF := bB [Kd.v, Kd.v] args fun al => aN T86 1000000 0 al h
def bD0 : Nat := 2 + (9 - 2)
theorem t86 (S : Sg) : iR (fun l vs h => aX (kF env aKE bD0) (j5 env Try.f86.results.toList) (collect B86 A86 []) l S vs h) (T86 S) := by
 unfold T86
 exact dG (dA fun _ => dA fun _ => iO fun _ => by kernel_rfl) <| Go.bI.iR.nil
theorem r86 : ∀ args h v h', F86 args h = some (v, h') → eG (C10) (.call 86 args.toArray h) (.ret v h') := by
 intro args h v h' e
 exact bE (C := C10) (fn := Try.f86) (body := B86) (np := 2) (A := A86) (T := T86) (kinds := [Kd.v, Kd.v]) (by kernel_rfl) (by kernel_rfl) (by kernel_rfl) (by kernel_rfl) (dJ dL) (by kernel_rfl) (fun S => t86 S) e
noncomputable def aKG := jF 86 F86 aKE
noncomputable def C11 : dP := cfg aKG
theorem bD1 : C11.Ok := dB (C := C10) bDZ r86
noncomputable def B84 : Code := (Try.f84.body).getD .skip
def A84 : eU := (Am 0 [(0, .v), (1, .v), (2, .v), (3, .v)] Ao (An (An (An Ao (An Az (An Ao (An Az (An Ao (An Az (An Ao (An Az (An (An Ao Az) (An Az Ao)))))))))) Ao) Az))
noncomputable def aKH (S : Sg) (r0 r1 : Value) (r2 r3 : Value) (h : Hp) : aF :=
 bC h 59 (Array.toList (Value.cells r1)) fun a0 h0 =>
 aO 0 a0 fun v1 =>
 aJ h0 v1 fun v2 =>
 aK (bQ F85 [v2] h0) fun v3 h3 =>
 dH v3 fun b4 =>
 bA b4 fun b5 =>
 bU b5
 (some ((Value.int .i64 (Int.ofNat 6)), h3))
 (aK (bQ F86 [r0, (Value.func (.func 87) (List.toArray []) (List.toArray [a0]))] h3) fun v6 h6 =>
 dH v6 fun b7 =>
 bU b7
 (some ((Value.int .i64 (Int.ofNat 5)), h6))
 (aO 1 a0 fun v8 =>
 aJ h6 v8 fun v9 =>
 bS v9 fun i10 =>
 aO 0 r2 fun v11 =>
 aJ h6 v11 fun v12 =>
 bS v12 fun i13 =>
 bA (jV i10 i13) fun b14 =>
 bU b14
 (some ((Value.int .i64 (Int.ofNat 3)), h6))
 (aJ h6 r3 fun v15 =>
 aS .i64 v15 fun i16 =>
 aO 1 r2 fun v17 =>
 aJ h6 v17 fun v18 =>
 bS v18 fun i19 =>
 wrap64 (Int.sub i19 (Int.ofNat 1)) fun i20 =>
 aO 1 a0 fun v21 =>
 aJ h6 v21 fun v22 =>
 dN 1 v22 (Int.ofNat 0) fun v23 =>
 aJ h6 v23 fun v24 =>
 aS .i64 v24 fun i25 =>
 aK (aU env h6 22 1 (List.toArray [(0, (Value.int .i64 i25))])) fun v26 h26 =>
 aK (bR (F82 [(Value.int .i64 i16), (Value.int .i64 i20), v26] h26) fun v => some (v, h26)) fun v27 h27 =>
 dH v27 fun b28 =>
 bA b28 fun b29 =>
 bU b29
 (some ((Value.int .i64 (Int.ofNat 4)), h27))
 (aJ h27 r3 fun v30 =>
 aS .i64 v30 fun i31 =>
 aO 1 a0 fun v32 =>
 aJ h27 v32 fun v33 =>
 bR (jG env h27 22 v33 (some (Value.int .i64 (Int.ofNat 1))) none none) fun v34 =>
 aK (bR (F82 [(Value.int .i64 i31), (Value.int .i64 (Int.ofNat 5)), v34] h27) fun v => some (v, h27)) fun v35 h35 =>
 dH v35 fun b36 =>
 bA b36 fun b37 =>
 bU b37
 (bU b37
 (some ((Value.int .i64 (Int.ofNat 7)), h35))
 (some ((Value.int .i64 (Int.ofNat 0)), h35)))
 (aO 2 a0 fun v38 =>
 aJ h35 v38 fun v39 =>
 aS .i64 v39 fun i40 =>
 aK (aU env h35 22 1 (List.toArray [(0, (Value.int .i64 i40))])) fun v41 h41 =>
 aK (bR (F82 [(Value.int .i64 (Int.ofNat 0)), (Value.int .i64 (Int.ofNat 50)), v41] h41) fun v => some (v, h41)) fun v42 h42 =>
 dH v42 fun b43 =>
 bA b43 fun b44 =>
 bU b44
 (some ((Value.int .i64 (Int.ofNat 7)), h42))
 (some ((Value.int .i64 (Int.ofNat 0)), h42)))))))
noncomputable def T84 (S : Sg) : Sg := bV 0 (uV fun r0 => uV fun r1 => uV fun r2 => uV fun r3 => uN (aKH S r0 r1 r2 r3)) (jL)
noncomputable def F84 (args : List Value) (h : Hp) : aF := bB [Kd.v, Kd.v, Kd.v, Kd.v] args fun al => aN T84 1000000 0 al h
def bD5 : Nat := 4 + (49 - 4)
theorem t84 (S : Sg) : iR (fun l vs h => aX (kF env aKG bD5) (j5 env Try.f84.results.toList) (collect B84 A84 []) l S vs h) (T84 S) := by
 unfold T84
 exact dG (dA fun _ => dA fun _ => dA fun _ => dA fun _ => iO fun _ => by kernel_rfl) <| Go.bI.iR.nil
theorem r84 : ∀ args h v h', F84 args h = some (v, h') → eG (C11) (.call 84 args.toArray h) (.ret v h') := by
 intro args h v h' e
 exact bE (C := C11) (fn := Try.f84) (body := B84) (np := 4) (A := A84) (T := T84) (kinds := [Kd.v, Kd.v, Kd.v, Kd.v]) (by kernel_rfl) (by kernel_rfl) (by kernel_rfl) (by kernel_rfl) (dJ dL) (by kernel_rfl) (fun S => t84 S) e
noncomputable def PI := jF 84 F84 aKG
noncomputable def C12 : dP := cfg PI
theorem bD6 : C12.Ok := dB (C := C11) bD1 r84
noncomputable def a0B : Code := (Try.f105.body).getD .skip
def a0C : eU := (Am 0 [(0, .v), (1, .v)] Ao (An (An Ao (An (Am 1 [(0, .v), (1, .v), (9, .v), (10, .i .i64), (11, .i .i64)] (An Ao (An Az (An (An (An Ao (An Ao (An Ao (An Az Ao)))) Ao) Ao))) Ao) Ao)) (Am 2 [] Ao Ao)))
noncomputable def aVM (S : Sg) (h : Hp) : aF :=
 some (Value.tuple (List.toArray [(Value.int .i64 (Int.ofNat 0)), (Value.int .i64 (Int.ofNat 0))]), h)
noncomputable def PK (S : Sg) (r0 r1 r9 : Value) (mK jB : Int) (h : Hp) : aF :=
 bH (lM jB mK) fun b0 =>
 bU b0
 (dN 3 r9 jB fun v1 =>
 aT 3 h v1 fun v2 =>
 bC h 59 [(Value.string (ByteArray.mk #[])), (Value.slice none 0 0), (Value.int .i64 (Int.ofNat 0))] fun a3 h3 =>
 dY 3 h3 a3 v2 fun h4 =>
 bR (jG env h4 23 r0 none (some (Value.int .i64 jB)) none) fun v5 =>
 aT 3 h4 a3 fun v6 =>
 aK (qP PI r1 [v5, v6] h4) fun v7 h7 =>
 aS .i64 v7 fun i8 =>
 bA (jV i8 (Int.ofNat 0)) fun b9 =>
 bU b9
 (some (Value.tuple (List.toArray [(Value.int .i64 jB), (Value.int .i64 i8)]), h7))
 (wrap64 (Int.add jB (Int.ofNat 1)) fun i10 =>
 S 1 (AL.v r0 (AL.v r1 (AL.v r9 (AL.i mK (AL.i i10 AL.n))))) h7))
 (S 2 AL.n h)
noncomputable def aCK (S : Sg) (r0 r1 : Value) (h : Hp) : aF :=
 bS r0 fun i0 =>
 S 1 (AL.v r0 (AL.v r1 (AL.v r0 (AL.i i0 (AL.i (Int.ofNat 0) AL.n))))) h
noncomputable def Y9 (S : Sg) : Sg := bV 0 (uV fun r0 => uV fun r1 => uN (aCK S r0 r1)) (bV 1 (uV fun r0 => uV fun r1 => uV fun r9 => uI fun mK => uI fun jB => uN (PK S r0 r1 r9 mK jB)) (bV 2 (uN fun h => aVM S  h) (jL)))
noncomputable def aQ1 (args : List Value) (h : Hp) : aF := bB [Kd.v, Kd.v] args fun al => aN Y9 1000000 0 al h
def a0D : Nat := 2 + (27 - 2)
theorem t105 (S : Sg) : iR (fun l vs h => aX (kF env PI a0D) (j5 env Try.f105.results.toList) (collect a0B a0C []) l S vs h) (Y9 S) := by
 unfold Y9
 exact dG (dA fun _ => dA fun _ => iO fun _ => by kernel_rfl) <| dG (dA fun _ => dA fun _ => dA fun _ => gI fun _ => gI fun _ => iO fun _ => by kernel_rfl) <| dG (iO fun _ => by kernel_rfl) <| Go.bI.iR.nil
theorem bD7 : ∀ args h v h', aQ1 args h = some (v, h') → eG (C12) (.call 105 args.toArray h) (.ret v h') := by
 intro args h v h' e
 exact bE (C := C12) (fn := Try.f105) (body := a0B) (np := 2) (A := a0C) (T := Y9) (kinds := [Kd.v, Kd.v]) (by kernel_rfl) (by kernel_rfl) (by kernel_rfl) (by kernel_rfl) (dJ dL) (by kernel_rfl) (fun S => t105 S) e
noncomputable def aKI := jF 105 aQ1 PI
noncomputable def C13 : dP := cfg aKI
theorem bD8 : C13.Ok := dB (C := C12) bD6 bD7
noncomputable def B83 : Code := (Try.f83.body).getD .skip
def A83 : eU := (Am 0 [(0, .v), (1, .i .i64), (2, .v)] Ao (An (An Ao (An Az Ao)) Az))
noncomputable def aKJ (S : Sg) (r0 : Value) (r1 : Int) (r2 : Value) (h : Hp) : aF :=
 bS r0 fun i0 =>
 bH (lM r1 i0) fun b1 =>
 bU b1
 (some (Value.tuple (List.toArray [(Value.int .i64 (Int.ofNat 0)), (Value.int .i64 (Int.ofNat 3))]), h))
 (aK (bQ aQ1 [r0, r2] h) fun v2 h2 =>
 eB v2 0 fun v3 =>
 aS .i64 v3 fun i4 =>
 eB v2 1 fun v5 =>
 aS .i64 v5 fun i6 =>
 some (Value.tuple (List.toArray [(Value.int .i64 i4), (Value.int .i64 i6)]), h2))
noncomputable def T83 (S : Sg) : Sg := bV 0 (uV fun r0 => uI fun r1 => uV fun r2 => uN (aKJ S r0 r1 r2)) (jL)
noncomputable def F83 (args : List Value) (h : Hp) : aF := bB [Kd.v, Kd.i .i64, Kd.v] args fun al => aN T83 1000000 0 al h
def bD9 : Nat := 3 + (17 - 3)
theorem t83 (S : Sg) : iR (fun l vs h => aX (kF env aKI bD9) (j5 env Try.f83.results.toList) (collect B83 A83 []) l S vs h) (T83 S) := by
 unfold T83
 exact dG (dA fun _ => gI fun _ => dA fun _ => iO fun _ => by kernel_rfl) <| Go.bI.iR.nil
theorem r83 : ∀ args h v h', F83 args h = some (v, h') → eG (C13) (.call 83 args.toArray h) (.ret v h') := by
 intro args h v h' e
 exact bE (C := C13) (fn := Try.f83) (body := B83) (np := 3) (A := A83) (T := T83) (kinds := [Kd.v, Kd.i .i64, Kd.v]) (by kernel_rfl) (by kernel_rfl) (by kernel_rfl) (by kernel_rfl) (dJ dL) (by kernel_rfl) (fun S => t83 S) e
noncomputable def aKK := jF 83 F83 aKI
noncomputable def C14 : dP := cfg aKK
theorem bEA : C14.Ok := dB (C := C13) bD8 r83
noncomputable def B49 : Code := (Try.f49.body).getD .skip
def A49 : eU := (Am 0 [(0, .v), (1, .v), (2, .i .i64), (3, .i .i64)] Ao Az)
noncomputable def aKL (S : Sg) (r0 r1 : Value) (r2 r3 : Int) (h : Hp) : aF :=
 bC h 25 (Array.toList (Value.cells r0)) fun a0 h0 =>
 bC h0 3 [(Value.int .i64 r3)] fun a1 h1 =>
 aK (bQ F83 [r1, (Value.int .i64 r2), (Value.func (.func 84) (List.toArray []) (List.toArray [a0, a1]))] h1) fun v2 h2 =>
 eB v2 0 fun v3 =>
 aS .i64 v3 fun i4 =>
 eB v2 1 fun v5 =>
 aS .i64 v5 fun i6 =>
 some (Value.tuple (List.toArray [(Value.int .i64 i4), (Value.int .i64 i6)]), h2)
noncomputable def T49 (S : Sg) : Sg := bV 0 (uV fun r0 => uV fun r1 => uI fun r2 => uI fun r3 => uN (aKL S r0 r1 r2 r3)) (jL)
noncomputable def F49 (args : List Value) (h : Hp) : aF := bB [Kd.v, Kd.v, Kd.i .i64, Kd.i .i64] args fun al => aN T49 1000000 0 al h
def bEB : Nat := 4 + (16 - 4)
theorem t49 (S : Sg) : iR (fun l vs h => aX (kF env aKK bEB) (j5 env Try.f49.results.toList) (collect B49 A49 []) l S vs h) (T49 S) := by
 unfold T49
 exact dG (dA fun _ => dA fun _ => gI fun _ => gI fun _ => iO fun _ => by kernel_rfl) <| Go.bI.iR.nil
theorem r49 : ∀ args h v h', F49 args h = some (v, h') → eG (C14) (.call 49 args.toArray h) (.ret v h') := by
 intro args h v h' e
 exact bE (C := C14) (fn := Try.f49) (body := B49) (np := 4) (A := A49) (T := T49) (kinds := [Kd.v, Kd.v, Kd.i .i64, Kd.i .i64]) (by kernel_rfl) (by kernel_rfl) (by kernel_rfl) (by kernel_rfl) (dJ dL) (by kernel_rfl) (fun S => t49 S) e
noncomputable def aKM := jF 49 F49 aKK
noncomputable def C15 : dP := cfg aKM
theorem bEC : C15.Ok := dB (C := C14) bEA r49
noncomputable def B16 : Code := (Try.f16.body).getD .skip
def A16 : eU := (Am 0 [(0, .v)] Ao (An (An Ao (An Ao (An Az Ao))) (An (An Ao (An Ao (An Az Ao))) (An (An Ao (An Ao (An Az Ao))) (An (An Ao (An Ao (An Az Ao))) Az)))))
noncomputable def aKN (S : Sg) (r0 : Value) (h : Hp) : aF :=
 bC h 25 (Array.toList (Value.cells r0)) fun a0 h0 =>
 aO 0 a0 fun v1 =>
 aJ h0 v1 fun v2 =>
 aK (bQ F48 [v2, (Value.int .i64 (Int.ofNat 4)), (Value.int .i64 (Int.ofNat 100))] h0) fun v3 h3 =>
 eB v3 0 fun v4 =>
 aS .i64 v4 fun i5 =>
 eB v3 1 fun v6 =>
 aS .i64 v6 fun i7 =>
 bA (jV i7 (Int.ofNat 0)) fun b8 =>
 bU b8
 (some (Value.tuple (List.toArray [(Value.int .i64 (Int.ofNat 1)), (Value.int .i64 i5), (Value.int .i64 i7)]), h3))
 (aO 1 a0 fun v9 =>
 aJ h3 v9 fun v10 =>
 aK (bQ F48 [v10, (Value.int .i64 (Int.ofNat 4)), (Value.int .i64 (Int.ofNat 50))] h3) fun v11 h11 =>
 eB v11 0 fun v12 =>
 aS .i64 v12 fun i13 =>
 eB v11 1 fun v14 =>
 aS .i64 v14 fun i15 =>
 bA (jV i15 (Int.ofNat 0)) fun b16 =>
 bU b16
 (some (Value.tuple (List.toArray [(Value.int .i64 (Int.ofNat 2)), (Value.int .i64 i13), (Value.int .i64 i15)]), h11))
 (aT 4 h11 a0 fun v17 =>
 aO 2 a0 fun v18 =>
 aJ h11 v18 fun v19 =>
 aK (bQ F49 [v17, v19, (Value.int .i64 (Int.ofNat 6)), (Value.int .i64 (Int.ofNat 0))] h11) fun v20 h20 =>
 eB v20 0 fun v21 =>
 aS .i64 v21 fun i22 =>
 eB v20 1 fun v23 =>
 aS .i64 v23 fun i24 =>
 bA (jV i24 (Int.ofNat 0)) fun b25 =>
 bU b25
 (some (Value.tuple (List.toArray [(Value.int .i64 (Int.ofNat 3)), (Value.int .i64 i22), (Value.int .i64 i24)]), h20))
 (aT 4 h20 a0 fun v26 =>
 aO 3 a0 fun v27 =>
 aJ h20 v27 fun v28 =>
 aK (bQ F49 [v26, v28, (Value.int .i64 (Int.ofNat 5)), (Value.int .i64 (Int.negSucc 0))] h20) fun v29 h29 =>
 eB v29 0 fun v30 =>
 aS .i64 v30 fun i31 =>
 eB v29 1 fun v32 =>
 aS .i64 v32 fun i33 =>
 bA (jV i33 (Int.ofNat 0)) fun b34 =>
 bU b34
 (some (Value.tuple (List.toArray [(Value.int .i64 (Int.ofNat 4)), (Value.int .i64 i31), (Value.int .i64 i33)]), h29))
 (some (Value.tuple (List.toArray [(Value.int .i64 (Int.ofNat 0)), (Value.int .i64 (Int.ofNat 0)), (Value.int .i64 (Int.ofNat 0))]), h29)))))
noncomputable def T16 (S : Sg) : Sg := bV 0 (uV fun r0 => uN (aKN S r0)) (jL)
noncomputable def F16 (args : List Value) (h : Hp) : aF := bB [Kd.v] args fun al => aN T16 1000000 0 al h
def bEF : Nat := 1 + (55 - 1)
theorem t16 (S : Sg) : iR (fun l vs h => aX (kF env aKM bEF) (j5 env Try.f16.results.toList) (collect B16 A16 []) l S vs h) (T16 S) := by
 unfold T16
 exact dG (dA fun _ => iO fun _ => by kernel_rfl) <| Go.bI.iR.nil
theorem r16 : ∀ args h v h', F16 args h = some (v, h') → eG (C15) (.call 16 args.toArray h) (.ret v h') := by
 intro args h v h' e
 exact bE (C := C15) (fn := Try.f16) (body := B16) (np := 1) (A := A16) (T := T16) (kinds := [Kd.v]) (by kernel_rfl) (by kernel_rfl) (by kernel_rfl) (by kernel_rfl) (dJ dL) (by kernel_rfl) (fun S => t16 S) e
noncomputable def aKO := jF 16 F16 aKM
noncomputable def C16 : dP := cfg aKO
theorem ok16 : C16.Ok := dB (C := C15) bEC r16
noncomputable def B93 : Code := (Try.f93.body).getD .skip
def A93 : eU := (Am 0 [(0, .v), (1, .v)] Ao (An Ao (An (An Ao (An (Am 1 [(0, .v), (5, .v), (8, .v), (9, .i .i64), (10, .i .i64)] (An Ao (An Az (An (An (An Ao (An Ao Az)) Ao) Ao))) Ao) Ao)) (Am 2 [(5, .v)] Ao Ao))))
noncomputable def a0K (S : Sg) (r5 : Value) (h : Hp) : aF :=
 some (r5, h)
noncomputable def aED (S : Sg) (r0 r5 r8 : Value) (r9 mK : Int) (h : Hp) : aF :=
 bH (lM mK r9) fun b0 =>
 bU b0
 (dN 1 r8 mK fun v1 =>
 aJ h v1 fun v2 =>
 aS .i64 v2 fun i3 =>
 bA (jV i3 (Int.negSucc 0)) fun b4 =>
 bU b4
 (dN 1 r0 mK fun v5 =>
 aJ h v5 fun v6 =>
 aS .i64 v6 fun i7 =>
 bA (jV i3 i7) fun b8 =>
 bU b8
 (aK (aU env h 22 1 (List.toArray [(0, (Value.int .i64 mK))])) fun v9 h9 =>
 aK (cB env h9 #[22, 22] (List.toArray [r5, v9])) fun v10 h10 =>
 wrap64 (Int.add mK (Int.ofNat 1)) fun i11 =>
 S 1 (AL.v r0 (AL.v v10 (AL.v r8 (AL.i r9 (AL.i i11 AL.n))))) h10)
 (wrap64 (Int.add mK (Int.ofNat 1)) fun i12 =>
 S 1 (AL.v r0 (AL.v r5 (AL.v r8 (AL.i r9 (AL.i i12 AL.n))))) h))
 (wrap64 (Int.add mK (Int.ofNat 1)) fun i13 =>
 S 1 (AL.v r0 (AL.v r5 (AL.v r8 (AL.i r9 (AL.i i13 AL.n))))) h))
 (S 2 (AL.v r5 AL.n) h)
noncomputable def aKP (S : Sg) (r0 r1 : Value) (h : Hp) : aF :=
 bS r1 fun i0 =>
 S 1 (AL.v r0 (AL.v (Value.slice none 0 0) (AL.v r1 (AL.i i0 (AL.i (Int.ofNat 0) AL.n))))) h
noncomputable def T93 (S : Sg) : Sg := bV 0 (uV fun r0 => uV fun r1 => uN (aKP S r0 r1)) (bV 1 (uV fun r0 => uV fun r5 => uV fun r8 => uI fun r9 => uI fun mK => uN (aED S r0 r5 r8 r9 mK)) (bV 2 (uV fun r5 => uN (a0K S r5)) (jL)))
noncomputable def F93 (args : List Value) (h : Hp) : aF := bB [Kd.v, Kd.v] args fun al => aN T93 1000000 0 al h
def bEG : Nat := 2 + (31 - 2)
theorem t93 (S : Sg) : iR (fun l vs h => aX (kF env aKO bEG) (j5 env Try.f93.results.toList) (collect B93 A93 []) l S vs h) (T93 S) := by
 unfold T93
 exact dG (dA fun _ => dA fun _ => iO fun _ => by kernel_rfl) <| dG (dA fun _ => dA fun _ => dA fun _ => gI fun _ => gI fun _ => iO fun _ => by kernel_rfl) <| dG (dA fun _ => iO fun _ => by kernel_rfl) <| Go.bI.iR.nil
theorem r93 : ∀ args h v h', F93 args h = some (v, h') → eG (C16) (.call 93 args.toArray h) (.ret v h') := by
 intro args h v h' e
 exact bE (C := C16) (fn := Try.f93) (body := B93) (np := 2) (A := A93) (T := T93) (kinds := [Kd.v, Kd.v]) (by kernel_rfl) (by kernel_rfl) (by kernel_rfl) (by kernel_rfl) (dJ dL) (by kernel_rfl) (fun S => t93 S) e
noncomputable def aKQ := jF 93 F93 aKO
noncomputable def C17 : dP := cfg aKQ
theorem bEH : C17.Ok := dB (C := C16) ok16 r93
noncomputable def B63 : Code := (Try.f63.body).getD .skip
def A63 : eU := (Am 0 [(0, .v)] Ao (An (An Ao (An Ao (An Az Ao))) (An Ao (An (An Ao (An (Am 1 [(1, .v), (2, .v), (7, .v), (24, .v), (25, .i .i64), (26, .i .i64)] (An Ao (An Az (An (An (An Ao (An Ao (An (Am 2 [(1, .v), (2, .v), (7, .v), (8, .i .i64), (9, .v), (24, .v), (25, .i .i64), (26, .i .i64), (32, .v), (33, .i .i64), (34, .i .i64)] (An Ao (An Az (An (An Az Ao) Ao))) Ao) Ao))) Ao) (Am 3 [(1, .v), (2, .v), (7, .v), (24, .v), (25, .i .i64), (26, .i .i64)] Ao Ao)))) Ao) Ao)) (Am 4 [(1, .v), (2, .v), (7, .v)] Ao Ao)))))
noncomputable def aKR (S : Sg) (r1 r2 r7 : Value) (h : Hp) : aF :=
 aT 4 h r1 fun v0 =>
 bR (jX env 71 (List.toArray [(0, v0), (1, r7)])) fun v1 =>
 dY 5 h r2 v1 fun h2 =>
 aT 5 h2 r2 fun v3 => some (Value.tuple (List.toArray [v3, (Value.int .i64 (Int.ofNat 0))]), h2)
noncomputable def aKS (S : Sg) (r1 r2 : Value) (r7 r24 : Value) (r25 ZA : Int) (h : Hp) : aF :=
 wrap64 (Int.add ZA (Int.ofNat 1)) fun i0 =>
 S 1 (AL.v r1 (AL.v r2 (AL.v r7 (AL.v r24 (AL.i r25 (AL.i i0 AL.n)))))) h
noncomputable def aEE (S : Sg) (r1 r2 r7 : Value) (r8 : Int) (r9 r24 : Value) (r25 ZA : Int) (r32 : Value) (r33 r34 : Int) (h : Hp) : aF :=
 bH (lM r34 r33) fun b0 =>
 bU b0
 (dN 3 r32 r34 fun v1 =>
 aT 3 h v1 fun v2 =>
 bC h 59 [(Value.string (ByteArray.mk #[])), (Value.slice none 0 0), (Value.int .i64 (Int.ofNat 0))] fun a3 h3 =>
 dY 3 h3 a3 v2 fun h4 =>
 bR (jX env 76 (List.toArray [(0, (Value.int .i64 r8)), (1, (Value.int .i64 r34))])) fun v5 =>
 aO 1 r9 fun v6 =>
 aJ h4 v6 fun v7 =>
 aO 1 a3 fun v8 =>
 aJ h4 v8 fun v9 =>
 aK (bQ F93 [v7, v9] h4) fun v10 h10 =>
 bR (nN env h10 69 r7 v5 v10) fun h11 =>
 wrap64 (Int.add r34 (Int.ofNat 1)) fun i12 =>
 S 2 (AL.v r1 (AL.v r2 (AL.v r7 (AL.i r8 (AL.v r9 (AL.v r24 (AL.i r25 (AL.i ZA (AL.v r32 (AL.i r33 (AL.i i12 AL.n))))))))))) h11)
 (S 3 (AL.v r1 (AL.v r2 (AL.v r7 (AL.v r24 (AL.i r25 (AL.i ZA AL.n)))))) h)
noncomputable def aEF (S : Sg) (r1 r2 : Value) (r7 r24 : Value) (r25 ZA : Int) (h : Hp) : aF :=
 bH (lM ZA r25) fun b0 =>
 bU b0
 (dN 3 r24 ZA fun v1 =>
 aT 3 h v1 fun v2 =>
 bC h 59 [(Value.string (ByteArray.mk #[])), (Value.slice none 0 0), (Value.int .i64 (Int.ofNat 0))] fun a3 h3 =>
 dY 3 h3 a3 v2 fun h4 =>
 aO 3 r1 fun v5 =>
 aJ h4 v5 fun v6 =>
 bS v6 fun i7 =>
 S 2 (AL.v r1 (AL.v r2 (AL.v r7 (AL.i ZA (AL.v a3 (AL.v r24 (AL.i r25 (AL.i ZA (AL.v v6 (AL.i i7 (AL.i (Int.ofNat 0) AL.n))))))))))) h4)
 (S 4 (AL.v r1 (AL.v r2 (AL.v r7 AL.n))) h)
noncomputable def aKT (S : Sg) (r0 : Value) (h : Hp) : aF :=
 bC h 25 (Array.toList (Value.cells r0)) fun a0 h0 =>
 bC h0 71 [(Value.slice none 0 0), (Value.slice none 0 0), (Value.slice none 0 0), (Value.slice none 0 0), (Value.map none)] fun a1 h1 =>
 aT 4 h1 a0 fun v2 =>
 aK (bQ F16 [v2] h1) fun v3 h3 =>
 eB v3 0 fun v4 =>
 aS .i64 v4 fun i5 =>
 eB v3 1 fun v6 =>
 aS .i64 v6 fun i7 =>
 eB v3 2 fun v8 =>
 aS .i64 v8 fun i9 =>
 bA (jV i9 (Int.ofNat 0)) fun b10 =>
 bU b10
 (bR (jX env 71 (List.toArray [])) fun v11 =>
 dY 5 h3 a1 v11 fun h12 =>
 aT 5 h12 a1 fun v13 => some (Value.tuple (List.toArray [v13, (Value.int .i64 i9)]), h12))
 (let a14 := Value.map (some (Hp.next h3)); let ZB := Hp.add h3 (.map []);
 aO 2 a0 fun v15 =>
 aJ ZB v15 fun v16 =>
 bS v16 fun i17 =>
 S 1 (AL.v a0 (AL.v a1 (AL.v a14 (AL.v v16 (AL.i i17 (AL.i (Int.ofNat 0) AL.n)))))) ZB)
noncomputable def T63 (S : Sg) : Sg := bV 0 (uV fun r0 => uN (aKT S r0)) (bV 1 (uV fun r1 => uV fun r2 => uV fun r7 => uV fun r24 => uI fun r25 => uI fun ZA => uN (aEF S r1 r2 r7 r24 r25 ZA)) (bV 2 (uV fun r1 => uV fun r2 => uV fun r7 => uI fun r8 => uV fun r9 => uV fun r24 => uI fun r25 => uI fun ZA => uV fun r32 => uI fun r33 => uI fun r34 => uN (aEE S r1 r2 r7 r8 r9 r24 r25 ZA r32 r33 r34)) (bV 3 (uV fun r1 => uV fun r2 => uV fun r7 => uV fun r24 => uI fun r25 => uI fun ZA => uN (aKS S r1 r2 r7 r24 r25 ZA)) (bV 4 (uV fun r1 => uV fun r2 => uV fun r7 => uN (aKR S r1 r2 r7)) (jL)))))
noncomputable def F63 (args : List Value) (h : Hp) : aF := bB [Kd.v] args fun al => aN T63 1000000 0 al h
def bEJ : Nat := 1 + (53 - 1)
theorem t63 (S : Sg) : iR (fun l vs h => aX (kF env aKQ bEJ) (j5 env Try.f63.results.toList) (collect B63 A63 []) l S vs h) (T63 S) := by
 unfold T63
 exact dG (dA fun _ => iO fun _ => by kernel_rfl) <| dG (dA fun _ => dA fun _ => dA fun _ => dA fun _ => gI fun _ => gI fun _ => iO fun _ => by kernel_rfl) <| dG (dA fun _ => dA fun _ => dA fun _ => gI fun _ => dA fun _ => dA fun _ => gI fun _ => gI fun _ => dA fun _ => gI fun _ => gI fun _ => iO fun _ => by kernel_rfl) <| dG (dA fun _ => dA fun _ => dA fun _ => dA fun _ => gI fun _ => gI fun _ => iO fun _ => by kernel_rfl) <| dG (dA fun _ => dA fun _ => dA fun _ => iO fun _ => by kernel_rfl) <| Go.bI.iR.nil
theorem r63 : ∀ args h v h', F63 args h = some (v, h') → eG (C17) (.call 63 args.toArray h) (.ret v h') := by
 intro args h v h' e
 exact bE (C := C17) (fn := Try.f63) (body := B63) (np := 1) (A := A63) (T := T63) (kinds := [Kd.v]) (by kernel_rfl) (by kernel_rfl) (by kernel_rfl) (by kernel_rfl) (dJ dL) (by kernel_rfl) (fun S => t63 S) e
noncomputable def aS0 := jF 63 F63 aKQ
noncomputable def C18 : dP := cfg aS0
theorem bEK : C18.Ok := dB (C := C17) bEH r63
noncomputable def B53 : Code := (Try.f53.body).getD .skip
noncomputable def A53 : G.eU (List KI) := (Gm 0 [.reg 0 (.i .i64), .reg 1 .v] Gz Gy)
noncomputable def a0M (h : Hp) (S : Nat → aD → Option Value) (r0 : Int) (r1 : Value) : Option Value :=
 wrap64 (Int.sub r0 (Int.ofNat 1)) fun i0 =>
 bR (F82 [(Value.int .i64 (Int.ofNat 0)), (Value.int .i64 i0), r1] h) fun v1 =>
 dH v1 fun b2 =>
 some (Value.bool b2)
noncomputable def T53 (h : Hp) (S : Nat → aD → Option Value) : Nat → aD → Option Value := dQ 0 (wI fun r0 => wV fun r1 => wN (a0M h S r0 r1)) (kR)
noncomputable def F53 (args : List Value) (h : Hp) : Option Value := plainO (dU [Kd.i .i64, Kd.v] args fun al => G.aN (T53 h) 1000000 0 al)
def bEL : Nat := 2 + (9 - 2)
theorem t53 (h : Hp) (S : Nat → aD → Option Value) : gY (fun l al => G.aX iD dD oG (oN env pf4 bEL h) (pO env Try.f53.results.toList) (G.collect B53 A53 []) l S al) (T53 h S) := by
 unfold T53
 exact dV (kC fun _ => mJ fun _ => oC (by kernel_rfl)) <| gY.nil
theorem r53 : fV Try.prog 53 F53 := dK (C := C0) ok0 (pf := pf4) aSX (fn := Try.f53) (body := B53) (kinds := [Kd.i .i64, Kd.v]) (A := A53) (T := T53) (by kernel_rfl) (by kernel_rfl) (by kernel_rfl) (by kernel_rfl) (fun h S => t53 h S)
noncomputable def pf5 : PF := EI 53 F53 pf4
theorem aS1 : eF Try.prog pf5 := iN r53 aSX
noncomputable def aKU := oO 53 F53 aS0
noncomputable def C19 : dP := cfg aKU
theorem bEM : C19.Ok := fQ (C := C18) bEK r53
noncomputable def B52 : Code := (Try.f52.body).getD .skip
def A52 : eU := (Am 0 [(0, .v), (1, .i .i64)] Ao (An Ao (An (An Ao (An Az Ao)) (An (An Ao (An Az Ao)) Az))))
noncomputable def a0N (S : Sg) (r0 : Value) (r1 : Int) (h : Hp) : aF :=
 bC h 25 (Array.toList (Value.cells r0)) fun a0 h0 =>
 bC h0 71 [(Value.slice none 0 0), (Value.slice none 0 0), (Value.slice none 0 0), (Value.slice none 0 0), (Value.map none)] fun a1 h1 =>
 aT 4 h1 a0 fun v2 =>
 aK (bQ F63 [v2] h1) fun v3 h3 =>
 eB v3 0 fun v4 =>
 eB v3 1 fun v5 =>
 aS .i64 v5 fun i6 =>
 bC h3 71 [(Value.slice none 0 0), (Value.slice none 0 0), (Value.slice none 0 0), (Value.slice none 0 0), (Value.map none)] fun a7 h7 =>
 dY 5 h7 a7 v4 fun h8 =>
 bA (jV i6 (Int.ofNat 0)) fun b9 =>
 bU b9
 (bR (jX env 71 (List.toArray [])) fun v10 =>
 dY 5 h8 a1 v10 fun h11 =>
 aT 5 h11 a1 fun v12 => some (Value.tuple (List.toArray [v12, (Value.int .i64 i6)]), h11))
 (aO 0 a7 fun v13 =>
 aO 3 v13 fun v14 =>
 aJ h8 v14 fun v15 =>
 bS v15 fun i16 =>
 aK (aU env h8 22 1 (List.toArray [(0, (Value.int .i64 r1))])) fun v17 h17 =>
 aK (bR (F53 [(Value.int .i64 i16), v17] h17) fun v => some (v, h17)) fun v18 h18 =>
 dH v18 fun b19 =>
 bA b19 fun b20 =>
 bU b20
 (bR (jX env 71 (List.toArray [])) fun v21 =>
 dY 5 h18 a1 v21 fun h22 =>
 aT 5 h22 a1 fun v23 => some (Value.tuple (List.toArray [v23, (Value.int .i64 (Int.ofNat 4))]), h22))
 (aT 5 h18 a7 fun v24 =>
 dY 5 h18 a1 v24 fun h25 =>
 aT 5 h25 a1 fun v26 => some (Value.tuple (List.toArray [v26, (Value.int .i64 (Int.ofNat 0))]), h25)))
noncomputable def T52 (S : Sg) : Sg := bV 0 (uV fun r0 => uI fun r1 => uN (a0N S r0 r1)) (jL)
noncomputable def F52 (args : List Value) (h : Hp) : aF := bB [Kd.v, Kd.i .i64] args fun al => aN T52 1000000 0 al h
def bEO : Nat := 2 + (27 - 2)
theorem t52 (S : Sg) : iR (fun l vs h => aX (kF env aKU bEO) (j5 env Try.f52.results.toList) (collect B52 A52 []) l S vs h) (T52 S) := by
 unfold T52
 exact dG (dA fun _ => gI fun _ => iO fun _ => by kernel_rfl) <| Go.bI.iR.nil
theorem r52 : ∀ args h v h', F52 args h = some (v, h') → eG (C19) (.call 52 args.toArray h) (.ret v h') := by
 intro args h v h' e
 exact bE (C := C19) (fn := Try.f52) (body := B52) (np := 2) (A := A52) (T := T52) (kinds := [Kd.v, Kd.i .i64]) (by kernel_rfl) (by kernel_rfl) (by kernel_rfl) (by kernel_rfl) (dJ dL) (by kernel_rfl) (fun S => t52 S) e
noncomputable def aS3 := jF 52 F52 aKU
noncomputable def C20 : dP := cfg aS3
theorem bEP : C20.Ok := dB (C := C19) bEM r52
noncomputable def B54 : Code := (Try.f54.body).getD .skip
noncomputable def A54 : G.eU (List KI) := (Gm 0 [.reg 0 .v, .reg 1 .v] Gz (Gn Gz (Gn (Gn Gz (Gn (Gm 1 [.loc 2 2, .reg 5 (.i .i64), .reg 10 .v, .reg 11 (.i .i64), .reg 12 (.i .i64), .list 2] (Gn Gz (Gn Gy (Gn (Gn (Gn Gz (Gn Gz (Gn (Gm 2 [.loc 2 2, .reg 5 (.i .i64), .reg 10 .v, .reg 11 (.i .i64), .reg 12 (.i .i64), .reg 19 .v, .reg 20 (.i .i64), .reg 21 (.i .i64), .list 2] (Gn Gz (Gn Gy (Gn (Gn Gy Gz) Gz))) Gz) Gz))) Gz) (Gm 3 [.loc 2 2, .reg 5 (.i .i64), .reg 10 .v, .reg 11 (.i .i64), .reg 12 (.i .i64), .list 2] Gz Gz)))) Gz) Gz)) (Gm 4 [.reg 5 (.i .i64)] Gz Gz))))
noncomputable def a0O (h : Hp) (S : Nat → aD → Option Value) (r5 : Int) : Option Value :=
 some (Value.int .i64 r5)
noncomputable def aKV (h : Hp) (S : Nat → aD → Option Value) (r5 : Int) (mK : Value) (jB mO : Int) (c2 : List Value) : Option Value :=
 wrap64 (Int.add mO (Int.ofNat 1)) fun i0 =>
 S 1 (aD.i r5 (aD.v mK (aD.i jB (aD.i i0 (aD.l c2 aD.n)))))
noncomputable def aEG (h : Hp) (S : Nat → aD → Option Value) (r5 : Int) (mK : Value) (jB mO : Int) (JZ : Value) (ME r21 : Int) (c2 : List Value) : Option Value :=
 bH (lM r21 ME) fun b0 =>
 bU b0
 (dN 1 JZ r21 fun v1 =>
 aJ h v1 fun v2 =>
 aS .i64 v2 fun i3 =>
 BB c2 0 fun v4 =>
 dN 1 v4 i3 fun v5 =>
 aJ h v5 fun v6 =>
 aS .i64 v6 fun i7 =>
 wrap64 (Int.add r5 i7) fun i8 =>
 wrap64 (Int.add r21 (Int.ofNat 1)) fun i9 =>
 S 2 (aD.i i8 (aD.v mK (aD.i jB (aD.i mO (aD.v JZ (aD.i ME (aD.i i9 (aD.l c2 aD.n)))))))))
 (S 3 (aD.i r5 (aD.v mK (aD.i jB (aD.i mO (aD.l c2 aD.n))))))
noncomputable def aEH (h : Hp) (S : Nat → aD → Option Value) (r5 : Int) (mK : Value) (jB mO : Int) (c2 : List Value) : Option Value :=
 bH (lM mO jB) fun b0 =>
 bU b0
 (dN 2 mK mO fun v1 =>
 aT 2 h v1 fun v2 =>
 aQE v2 fun l3 => bU (Nat.beq (Q6 l3) 2) (VO 0 l3 [(Value.int .i64 (Int.ofNat 0)), (Value.int .i64 (Int.ofNat 0))] fun c3 =>
 BB c2 4 fun v4 =>
 zJ c3 0 fun d5 => xL d5 2 fun l5 =>
 bR (kU env h 69 v4 (Value.agg (Array.mk l5)) false) fun v6 =>
 bS v6 fun i7 =>
 S 2 (aD.i r5 (aD.v mK (aD.i jB (aD.i mO (aD.v v6 (aD.i i7 (aD.i (Int.ofNat 0) (aD.l c2 aD.n))))))))) none)
 (S 4 (aD.i r5 aD.n))
noncomputable def aKW (h : Hp) (S : Nat → aD → Option Value) (r0 r1 : Value) : Option Value :=
 pG (Array.toList (Value.cells r0)) fun c0 =>
 bS r1 fun i1 =>
 S 1 (aD.i (Int.ofNat 0) (aD.v r1 (aD.i i1 (aD.i (Int.ofNat 0) (aD.l c0 aD.n)))))
noncomputable def T54 (h : Hp) (S : Nat → aD → Option Value) : Nat → aD → Option Value := dQ 0 (wV fun r0 => wV fun r1 => wN (aKW h S r0 r1)) (dQ 1 (wI fun r5 => wV fun mK => wI fun jB => wI fun mO => wL fun c2 => wN (aEH h S r5 mK jB mO c2)) (dQ 2 (wI fun r5 => wV fun mK => wI fun jB => wI fun mO => wV fun JZ => wI fun ME => wI fun r21 => wL fun c2 => wN (aEG h S r5 mK jB mO JZ ME r21 c2)) (dQ 3 (wI fun r5 => wV fun mK => wI fun jB => wI fun mO => wL fun c2 => wN (aKV h S r5 mK jB mO c2)) (dQ 4 (wI fun r5 => wN (a0O h S r5)) (kR)))))
noncomputable def F54 (args : List Value) (h : Hp) : Option Value := plainO (dU [Kd.v, Kd.v] args fun al => G.aN (T54 h) 1000000 0 al)
def bEQ : Nat := 2 + (36 - 2)
theorem t54 (h : Hp) (S : Nat → aD → Option Value) : gY (fun l al => G.aX iD dD oG (oN env pf5 bEQ h) (pO env Try.f54.results.toList) (G.collect B54 A54 []) l S al) (T54 h S) := by
 unfold T54
 exact dV (mJ fun _ => mJ fun _ => oC (by kernel_rfl)) <| dV (kC fun _ => mJ fun _ => kC fun _ => kC fun _ => rpL fun _ => oC (by kernel_rfl)) <| dV (kC fun _ => mJ fun _ => kC fun _ => kC fun _ => mJ fun _ => kC fun _ => kC fun _ => rpL fun _ => oC (by kernel_rfl)) <| dV (kC fun _ => mJ fun _ => kC fun _ => kC fun _ => rpL fun _ => oC (by kernel_rfl)) <| dV (kC fun _ => oC (by kernel_rfl)) <| gY.nil
theorem r54 : fV Try.prog 54 F54 := dK (C := C0) ok0 (pf := pf5) aS1 (fn := Try.f54) (body := B54) (kinds := [Kd.v, Kd.v]) (A := A54) (T := T54) (by kernel_rfl) (by kernel_rfl) (by kernel_rfl) (by kernel_rfl) (fun h S => t54 h S)
noncomputable def pf6 : PF := EI 54 F54 pf5
theorem aS4 : eF Try.prog pf6 := iN r54 aS1
noncomputable def aKX := oO 54 F54 aS3
noncomputable def C21 : dP := cfg aKX
theorem bER : C21.Ok := fQ (C := C20) bEP r54
noncomputable def B18 : Code := (Try.f18.body).getD .skip
def A18 : eU := (Am 0 [(0, .v), (1, .i .i64), (2, .i .i64)] Ao (An Ao (An (An Ao (An Az Ao)) (An (An Ao (An Az Ao)) (An Ao Az)))))
noncomputable def a0Q (S : Sg) (r0 : Value) (r1 r2 : Int) (h : Hp) : aF :=
 bC h 25 (Array.toList (Value.cells r0)) fun a0 h0 =>
 aT 4 h0 a0 fun v1 =>
 aK (bQ F52 [v1, (Value.int .i64 r2)] h0) fun v2 h2 =>
 eB v2 0 fun v3 =>
 eB v2 1 fun v4 =>
 aS .i64 v4 fun i5 =>
 bC h2 71 [(Value.slice none 0 0), (Value.slice none 0 0), (Value.slice none 0 0), (Value.slice none 0 0), (Value.map none)] fun a6 h6 =>
 dY 5 h6 a6 v3 fun h7 =>
 bA (jV i5 (Int.ofNat 0)) fun b8 =>
 bU b8
 (some (Value.tuple (List.toArray [(Value.int .i64 (Int.ofNat 0)), (Value.slice none 0 0), (Value.int .i64 i5)]), h7))
 (aO 0 a6 fun v9 =>
 aO 2 v9 fun v10 =>
 aJ h7 v10 fun v11 =>
 bS v11 fun i12 =>
 aK (aU env h7 22 1 (List.toArray [(0, (Value.int .i64 r1))])) fun v13 zT =>
 aK (bR (F53 [(Value.int .i64 i12), v13] zT) fun v => some (v, zT)) fun v14 ZB =>
 dH v14 fun b15 =>
 bA b15 fun b16 =>
 bU b16
 (some (Value.tuple (List.toArray [(Value.int .i64 (Int.ofNat 0)), (Value.slice none 0 0), (Value.int .i64 (Int.ofNat 4))]), ZB))
 (bR (jX env 76 (List.toArray [(0, (Value.int .i64 r1)), (1, (Value.int .i64 r2))])) fun v17 =>
 bC ZB 76 [(Value.int .i64 (Int.ofNat 0)), (Value.int .i64 (Int.ofNat 0))] fun a18 h18 =>
 dY 2 h18 a18 v17 fun h19 =>
 aT 5 (Hp.mk (Hp.next h19) (Hp.next h19) (Hp.aC h19)) a6 fun v20 =>
 aT 2 (Hp.mk (Hp.next h19) (Hp.next h19) (Hp.aC h19)) a18 fun v21 =>
 aK (aU env (Hp.mk (Hp.next h19) (Hp.next h19) T.nil) 79 1 (List.toArray [(0, v21)])) fun v22 h22 =>
 eP v22 (Hp.next h19) h22 fun w23 n23 =>
 aK (bR (F54 [v20, v22] (Hp.mk n23 n23 (aG w23 (Hp.aC h19)))) fun v => some (v, (Hp.mk n23 n23 (aG w23 (Hp.aC h19))))) fun v24 h24 =>
 aS .i64 v24 fun i25 =>
 aO 4 a6 fun v26 =>
 aJ (Hp.mk n23 n23 (Hp.aC h19)) v26 fun v27 =>
 aT 2 (Hp.mk n23 n23 (Hp.aC h19)) a18 fun v28 =>
 bR (kU env (Hp.mk n23 n23 (Hp.aC h19)) 69 v27 v28 false) fun v29 =>
 some (Value.tuple (List.toArray [(Value.int .i64 i25), v29, (Value.int .i64 (Int.ofNat 0))]), (Hp.mk n23 (Hp.ro h19) (aG w23 (Hp.aC h19))))))
noncomputable def T18 (S : Sg) : Sg := bV 0 (uV fun r0 => uI fun r1 => uI fun r2 => uN (a0Q S r0 r1 r2)) (jL)
noncomputable def F18 (args : List Value) (h : Hp) : aF := bB [Kd.v, Kd.i .i64, Kd.i .i64] args fun al => aN T18 1000000 0 al h
def bEU : Nat := 3 + (39 - 3)
theorem t18 (S : Sg) : iR (fun l vs h => aX (kF env aKX bEU) (j5 env Try.f18.results.toList) (collect B18 A18 []) l S vs h) (T18 S) := by
 unfold T18
 exact dG (dA fun _ => gI fun _ => gI fun _ => iO fun _ => by kernel_rfl) <| Go.bI.iR.nil
theorem MW : ∀ args h v h', F18 args h = some (v, h') → eG (C21) (.call 18 args.toArray h) (.ret v h') := by
 intro args h v h' e
 exact bE (C := C21) (fn := Try.f18) (body := B18) (np := 3) (A := A18) (T := T18) (kinds := [Kd.v, Kd.i .i64, Kd.i .i64]) (by kernel_rfl) (by kernel_rfl) (by kernel_rfl) (by kernel_rfl) (dJ dL) (by kernel_rfl) (fun S => t18 S) e
noncomputable def aS5 := jF 18 F18 aKX
noncomputable def C22 : dP := cfg aS5
theorem bEV : C22.Ok := dB (C := C21) bER MW
noncomputable def a0R : Code := (Try.f111.body).getD .skip
noncomputable def a0S : G.eU (List KI) := (Gm 0 [.reg 0 .v, .reg 1 (.i .i64)] Gz (Gn (Gn Gz (Gn (Gm 1 [.reg 0 .v, .reg 1 (.i .i64), .reg 7 (.i .i64), .reg 8 (.i .i64)] (Gn Gz (Gn Gy (Gn (Gn (Gn Gz (Gn Gz (Gn Gy Gz))) Gz) Gz))) Gz) Gz)) (Gm 2 [] Gz Gz)))
noncomputable def aVN (h : Hp) (S : Nat → aD → Option Value) : Option Value :=
 some (Value.int .i64 (Int.negSucc 0))
noncomputable def WJ (h : Hp) (S : Nat → aD → Option Value) (r0 : Value) (r1 r7 r8 : Int) : Option Value :=
 bH (lM r8 r7) fun b0 =>
 bU b0
 (dN 1 r0 r8 fun v1 =>
 aJ h v1 fun v2 =>
 aS .i64 v2 fun i3 =>
 bH (jV r1 i3) fun b4 =>
 bU b4
 (some (Value.int .i64 r8))
 (wrap64 (Int.add r8 (Int.ofNat 1)) fun i5 =>
 S 1 (aD.v r0 (aD.i r1 (aD.i r7 (aD.i i5 aD.n))))))
 (S 2 aD.n)
noncomputable def aCN (h : Hp) (S : Nat → aD → Option Value) (r0 : Value) (r1 : Int) : Option Value :=
 bS r0 fun i0 =>
 S 1 (aD.v r0 (aD.i r1 (aD.i i0 (aD.i (Int.ofNat 0) aD.n))))
noncomputable def WK (h : Hp) (S : Nat → aD → Option Value) : Nat → aD → Option Value := dQ 0 (wV fun r0 => wI fun r1 => wN (aCN h S r0 r1)) (dQ 1 (wV fun r0 => wI fun r1 => wI fun r7 => wI fun r8 => wN (WJ h S r0 r1 r7 r8)) (dQ 2 (wN (aVN h S)) (kR)))
noncomputable def aKY (args : List Value) (h : Hp) : Option Value := plainO (dU [Kd.v, Kd.i .i64] args fun al => G.aN (WK h) 1000000 0 al)
def a0T : Nat := 2 + (19 - 2)
theorem t111 (h : Hp) (S : Nat → aD → Option Value) : gY (fun l al => G.aX iD dD oG (oN env pf6 a0T h) (pO env Try.f111.results.toList) (G.collect a0R a0S []) l S al) (WK h S) := by
 unfold WK
 exact dV (mJ fun _ => kC fun _ => oC (by kernel_rfl)) <| dV (mJ fun _ => kC fun _ => kC fun _ => kC fun _ => oC (by kernel_rfl)) <| dV (oC (by kernel_rfl)) <| gY.nil
theorem a0U : fV Try.prog 111 aKY := dK (C := C0) ok0 (pf := pf6) aS4 (fn := Try.f111) (body := a0R) (kinds := [Kd.v, Kd.i .i64]) (A := a0S) (T := WK) (by kernel_rfl) (by kernel_rfl) (by kernel_rfl) (by kernel_rfl) (fun h S => t111 h S)
noncomputable def pf7 : PF := EI 111 aKY pf6
theorem aS6 : eF Try.prog pf7 := iN a0U aS4
noncomputable def aS7 := oO 111 aKY aS5
noncomputable def C23 : dP := cfg aS7
theorem bEW : C23.Ok := fQ (C := C22) bEV a0U
noncomputable def B90 : Code := (Try.f90.body).getD .skip
noncomputable def A90 : G.eU (List KI) := (Gm 0 [.reg 0 .v, .reg 1 (.i .i64)] Gz Gy)
noncomputable def aKZ (h : Hp) (S : Nat → aD → Option Value) (r0 : Value) (r1 : Int) : Option Value :=
 bR (aKY [r0, (Value.int .i64 r1)] h) fun v0 =>
 aS .i64 v0 fun i1 =>
 bA (lM i1 (Int.ofNat 0)) fun b2 =>
 some (Value.bool b2)
noncomputable def T90 (h : Hp) (S : Nat → aD → Option Value) : Nat → aD → Option Value := dQ 0 (wV fun r0 => wI fun r1 => wN (aKZ h S r0 r1)) (kR)
noncomputable def F90 (args : List Value) (h : Hp) : Option Value := plainO (dU [Kd.v, Kd.i .i64] args fun al => G.aN (T90 h) 1000000 0 al)
def bEX : Nat := 2 + (9 - 2)
theorem t90 (h : Hp) (S : Nat → aD → Option Value) : gY (fun l al => G.aX iD dD oG (oN env pf7 bEX h) (pO env Try.f90.results.toList) (G.collect B90 A90 []) l S al) (T90 h S) := by
 unfold T90
 exact dV (mJ fun _ => kC fun _ => oC (by kernel_rfl)) <| gY.nil
theorem r90 : fV Try.prog 90 F90 := dK (C := C0) ok0 (pf := pf7) aS6 (fn := Try.f90) (body := B90) (kinds := [Kd.v, Kd.i .i64]) (A := A90) (T := T90) (by kernel_rfl) (by kernel_rfl) (by kernel_rfl) (by kernel_rfl) (fun h S => t90 h S)
noncomputable def pf8 : PF := EI 90 F90 pf7
theorem aS8 : eF Try.prog pf8 := iN r90 aS6
noncomputable def aS9 := oO 90 F90 aS7
noncomputable def C24 : dP := cfg aS9
theorem bEY : C24.Ok := fQ (C := C23) bEW r90
noncomputable def B92 : Code := (Try.f92.body).getD .skip
noncomputable def A92 : G.eU (List KI) := (Gm 0 [.reg 0 .v, .reg 1 .v] Gz Gy)
noncomputable def aK0 (h : Hp) (S : Nat → aD → Option Value) (r0 r1 : Value) : Option Value :=
 pG (Array.toList (Value.cells r0)) fun c0 =>
 pG (Array.toList (Value.cells r1)) fun c1 =>
 BB c0 4 fun v2 =>
 zJ c1 0 fun d3 => xL d3 2 fun l3 =>
 bR (kU env h 69 v2 (Value.agg (Array.mk l3)) false) fun v4 =>
 bR (F90 [v4, (Value.int .i64 (Int.ofNat 0))] h) fun v5 =>
 dH v5 fun b6 =>
 some (Value.bool b6)
noncomputable def T92 (h : Hp) (S : Nat → aD → Option Value) : Nat → aD → Option Value := dQ 0 (wV fun r0 => wV fun r1 => wN (aK0 h S r0 r1)) (kR)
noncomputable def F92 (args : List Value) (h : Hp) : Option Value := plainO (dU [Kd.v, Kd.v] args fun al => G.aN (T92 h) 1000000 0 al)
def bEZ : Nat := 2 + (10 - 2)
theorem t92 (h : Hp) (S : Nat → aD → Option Value) : gY (fun l al => G.aX iD dD oG (oN env pf8 bEZ h) (pO env Try.f92.results.toList) (G.collect B92 A92 []) l S al) (T92 h S) := by
 unfold T92
 exact dV (mJ fun _ => mJ fun _ => oC (by kernel_rfl)) <| gY.nil
theorem r92 : fV Try.prog 92 F92 := dK (C := C0) ok0 (pf := pf8) aS8 (fn := Try.f92) (body := B92) (kinds := [Kd.v, Kd.v]) (A := A92) (T := T92) (by kernel_rfl) (by kernel_rfl) (by kernel_rfl) (by kernel_rfl) (fun h S => t92 h S)
noncomputable def pf9 : PF := EI 92 F92 pf8
theorem aTA : eF Try.prog pf9 := iN r92 aS8
noncomputable def aK1 := oO 92 F92 aS9
noncomputable def C25 : dP := cfg aK1
theorem bE0 : C25.Ok := fQ (C := C24) bEY r92
noncomputable def B60 : Code := (Try.f60.body).getD .skip
def A60 : eU := (Am 0 [(0, .v), (1, .v)] Ao (An Ao (An Ao (An (An Ao (An (Am 1 [(2, .v), (4, .v), (5, .v), (15, .v), (16, .i .i64), (17, .i .i64)] (An Ao (An Az (An (An (An Ao (An Ao (An (An Ao Az) Ao))) Ao) Ao))) Ao) Ao)) (Am 2 [(4, .v), (5, .v)] Ao Ao)))))
noncomputable def aK2 (S : Sg) (r4 r5 : Value) (h : Hp) : aF :=
 aT 4 h r5 fun v0 =>
 dY 4 h r4 v0 fun h1 =>
 aT 4 h1 r4 fun v2 => some (v2, h1)
noncomputable def aEI (S : Sg) (r2 r4 : Value) (r5 FT : Value) (r16 sI : Int) (h : Hp) : aF :=
 bH (lM sI r16) fun b0 =>
 bU b0
 (dN 2 FT sI fun v1 =>
 aT 2 h v1 fun v2 =>
 bC h 76 [(Value.int .i64 (Int.ofNat 0)), (Value.int .i64 (Int.ofNat 0))] fun a3 h3 =>
 dY 2 h3 a3 v2 fun h4 =>
 aT 5 h4 r2 fun v5 =>
 aT 2 h4 a3 fun v6 =>
 aK (bR (F92 [v5, v6] h4) fun v => some (v, h4)) fun v7 h7 =>
 dH v7 fun b8 =>
 bU b8
 (aO 0 r2 fun v9 =>
 aO 2 v9 fun v10 =>
 aJ (Hp.mk (Hp.next h7) (Hp.next h7) (Hp.aC h7)) v10 fun v11 =>
 aO 0 a3 fun v12 =>
 aJ (Hp.mk (Hp.next h7) (Hp.next h7) (Hp.aC h7)) v12 fun v13 =>
 aS .i64 v13 fun i14 =>
 dN 3 v11 i14 fun v15 =>
 aT 3 (Hp.mk (Hp.next h7) (Hp.next h7) (Hp.aC h7)) v15 fun v16 =>
 aO 0 r2 fun v17 =>
 aO 3 v17 fun v18 =>
 aJ (Hp.mk (Hp.next h7) (Hp.next h7) (Hp.aC h7)) v18 fun v19 =>
 aO 1 a3 fun v20 =>
 aJ (Hp.mk (Hp.next h7) (Hp.next h7) (Hp.aC h7)) v20 fun v21 =>
 aS .i64 v21 fun i22 =>
 dN 3 v19 i22 fun v23 =>
 aT 3 (Hp.mk (Hp.next h7) (Hp.next h7) (Hp.aC h7)) v23 fun v24 =>
 bC (Hp.mk (Hp.next h7) (Hp.next h7) T.nil) 59 [(Value.string (ByteArray.mk #[])), (Value.slice none 0 0), (Value.int .i64 (Int.ofNat 0))] fun a25 h25 =>
 eP a25 (Hp.next h7) h25 fun w26 n26 =>
 bC (Hp.mk n26 n26 T.nil) 59 [(Value.string (ByteArray.mk #[])), (Value.slice none 0 0), (Value.int .i64 (Int.ofNat 0))] fun a27 h27 =>
 eP a27 n26 h27 fun w28 n28 =>
 uH env 59 a25 v16 n28 (Hp.next h7) (aG w28 (aG w26 (Hp.aC h7))) (fun b => (fI [] b || (fI [] b || (fI [] b || (fI [] b || (fI [] b || (fI [] b || (fI [] b || (fI w26 b || (fI w28 b || false)))))))))) fun w29 =>
 dY 3 (Hp.mk n28 (Hp.ro h7) (aG w29 (aG w28 (aG w26 (Hp.aC h7))))) a27 v24 fun h30 =>
 aO 1 a25 fun v31 =>
 aJ h30 v31 fun v32 =>
 dN 1 v32 (Int.ofNat 0) fun v33 =>
 aJ h30 v33 fun v34 =>
 aS .i64 v34 fun i35 =>
 OC 4 1 r5 i35 fun v36 =>
 aJ h30 v36 fun v37 =>
 aS .i64 v37 fun i38 =>
 aO 2 a25 fun v39 =>
 aJ h30 v39 fun v40 =>
 aS .i64 v40 fun i41 =>
 wrap64 (Int.add i38 i41) fun i42 =>
 OC 4 1 r5 i35 fun v43 =>
 iB h30 v43 (Value.int .i64 i42) fun h44 =>
 aO 1 a27 fun v45 =>
 aJ h44 v45 fun v46 =>
 dN 1 v46 (Int.ofNat 0) fun v47 =>
 aJ h44 v47 fun v48 =>
 aS .i64 v48 fun i49 =>
 OC 4 1 r5 i49 fun v50 =>
 aJ h44 v50 fun v51 =>
 aS .i64 v51 fun i52 =>
 aO 2 a27 fun v53 =>
 aJ h44 v53 fun v54 =>
 aS .i64 v54 fun i55 =>
 wrap64 (Int.sub i52 i55) fun i56 =>
 OC 4 1 r5 i49 fun v57 =>
 iB h44 v57 (Value.int .i64 i56) fun h58 =>
 wrap64 (Int.add sI (Int.ofNat 1)) fun i59 =>
 S 1 (AL.v r2 (AL.v r4 (AL.v r5 (AL.v FT (AL.i r16 (AL.i i59 AL.n)))))) h58)
 (wrap64 (Int.add sI (Int.ofNat 1)) fun i60 =>
 S 1 (AL.v r2 (AL.v r4 (AL.v r5 (AL.v FT (AL.i r16 (AL.i i60 AL.n)))))) h7))
 (S 2 (AL.v r4 (AL.v r5 AL.n)) h)
noncomputable def aK3 (S : Sg) (r0 r1 : Value) (h : Hp) : aF :=
 bC h 71 (Array.toList (Value.cells r0)) fun a0 h0 =>
 bC h0 87 [(Value.int .i64 (Int.ofNat 0)), (Value.int .i64 (Int.ofNat 0)), (Value.int .i64 (Int.ofNat 0)), (Value.int .i64 (Int.ofNat 0))] fun a1 h1 =>
 bC h1 87 [(Value.int .i64 (Int.ofNat 0)), (Value.int .i64 (Int.ofNat 0)), (Value.int .i64 (Int.ofNat 0)), (Value.int .i64 (Int.ofNat 0))] fun a2 h2 =>
 bR (jG env h2 87 a2 none none none) fun v3 =>
 aO 0 a0 fun v4 =>
 aO 1 v4 fun v5 =>
 aJ h2 v5 fun v6 =>
 aK (copyV env h2 #[22, 22] (List.toArray [v3, v6])) fun v7 h7 =>
 bS r1 fun i8 =>
 S 1 (AL.v a0 (AL.v a1 (AL.v a2 (AL.v r1 (AL.i i8 (AL.i (Int.ofNat 0) AL.n)))))) h7
noncomputable def T60 (S : Sg) : Sg := bV 0 (uV fun r0 => uV fun r1 => uN (aK3 S r0 r1)) (bV 1 (uV fun r2 => uV fun r4 => uV fun r5 => uV fun FT => uI fun r16 => uI fun sI => uN (aEI S r2 r4 r5 FT r16 sI)) (bV 2 (uV fun r4 => uV fun r5 => uN (aK2 S r4 r5)) (jL)))
noncomputable def F60 (args : List Value) (h : Hp) : aF := bB [Kd.v, Kd.v] args fun al => aN T60 1000000 0 al h
def bE1 : Nat := 2 + (60 - 2)
theorem t60 (S : Sg) : iR (fun l vs h => aX (kF env aK1 bE1) (j5 env Try.f60.results.toList) (collect B60 A60 []) l S vs h) (T60 S) := by
 unfold T60
 exact dG (dA fun _ => dA fun _ => iO fun _ => by kernel_rfl) <| dG (dA fun _ => dA fun _ => dA fun _ => dA fun _ => gI fun _ => gI fun _ => iO fun _ => by kernel_rfl) <| dG (dA fun _ => dA fun _ => iO fun _ => by kernel_rfl) <| Go.bI.iR.nil
theorem r60 : ∀ args h v h', F60 args h = some (v, h') → eG (C25) (.call 60 args.toArray h) (.ret v h') := by
 intro args h v h' e
 exact bE (C := C25) (fn := Try.f60) (body := B60) (np := 2) (A := A60) (T := T60) (kinds := [Kd.v, Kd.v]) (by kernel_rfl) (by kernel_rfl) (by kernel_rfl) (by kernel_rfl) (dJ dL) (by kernel_rfl) (fun S => t60 S) e
noncomputable def aTD := jF 60 F60 aK1
noncomputable def C26 : dP := cfg aTD
theorem bE2 : C26.Ok := dB (C := C25) bE0 r60
noncomputable def B77 : Code := (Try.f77.body).getD .skip
noncomputable def A77 : G.eU (List KI) := (Gm 0 [.reg 0 .v] Gz (Gn Gz (Gn (Gn Gz (Gn (G.eU.node (some (1, [.loc 2 2, .loc 3 3, .reg 6 .v, .reg 7 (.i .i64), .cells 2 [.i .i64, .i .i64, .i .i64, .i .i64], .cells 3 [.i .i64, .i .i64, .i .i64, .i .i64]])) (Gn Gz (Gn Gy (Gn (Gn Gy Gz) Gz))) Gz) Gz)) (G.eU.node (some (2, [.loc 2 2, .loc 3 3, .cells 2 [.i .i64, .i .i64, .i .i64, .i .i64], .cells 3 [.i .i64, .i .i64, .i .i64, .i .i64]])) Gz Gz))))
noncomputable def a00 (h : Hp) (S : Nat → aD → Option Value) (ZC ZE : Int) (ZF ZG : Int) (u7 sZ : Int) (vB vC : Int) : Option Value :=
 aQE (Value.agg (Array.mk [(Value.int .i64 u7), (Value.int .i64 sZ), (Value.int .i64 vB), (Value.int .i64 vC)])) fun l0 => bU (Nat.beq (Q6 l0) 4) (VO 0 l0 [(Value.int .i64 ZC), (Value.int .i64 ZE), (Value.int .i64 ZF), (Value.int .i64 ZG)] fun c0 =>
 zJ c0 0 fun d1 => xL d1 4 fun l1 => some (Value.agg (Array.mk l1))) none
noncomputable def aEJ (h : Hp) (S : Nat → aD → Option Value) (r6 : Value) (r7 ZC : Int) (ZE ZF : Int) (ZG u7 : Int) (sZ vB vC : Int) : Option Value :=
 bH (lM r7 (Int.ofNat 4)) fun b0 =>
 bU b0
 (bR (kE env 87 r6 (Value.int .i64 r7)) fun v1 =>
 aS .i64 v1 fun i2 =>
 wrap64 (Int.sub 0 i2) fun i3 =>
 aF9 (Int.ofNat 0) i3 fun i4 =>
 VK r7 (fun n5 => bU (Nat.ble (Nat.succ n5) 4) (iF (Nat.add 0 (Nat.mul n5 1)) fun o5 =>
 DC [(Value.int .i64 u7), (Value.int .i64 sZ), (Value.int .i64 vB), (Value.int .i64 vC)] o5 (Value.int .i64 i4) fun c6 =>
 wrap64 (Int.add r7 (Int.ofNat 1)) fun i7 =>
 mI c6 fun a8 c8 =>
 aS .i64 a8 fun i9 =>
 mI c8 fun a10 c10 =>
 aS .i64 a10 fun i11 =>
 mI c10 fun a12 c12 =>
 aS .i64 a12 fun i13 =>
 mI c12 fun a14 c14 =>
 aS .i64 a14 fun i15 =>
 aJG c14 (S 1 (aD.v r6 (aD.i i7 (aD.i ZC (aD.i ZE (aD.i ZF (aD.i ZG (aD.i i9 (aD.i i11 (aD.i i13 (aD.i i15 aD.n)))))))))))) none) (fun _ => none))
 (S 2 (aD.i ZC (aD.i ZE (aD.i ZF (aD.i ZG (aD.i u7 (aD.i sZ (aD.i vB (aD.i vC aD.n)))))))))
noncomputable def aK5 (h : Hp) (S : Nat → aD → Option Value) (r0 : Value) : Option Value :=
 pG (Array.toList (Value.cells r0)) fun c0 =>
 zJ c0 0 fun d1 => xL d1 4 fun l1 =>
 S 1 (aD.v (Value.agg (Array.mk l1)) (aD.i (Int.ofNat 0) (aD.i (Int.ofNat 0) (aD.i (Int.ofNat 0) (aD.i (Int.ofNat 0) (aD.i (Int.ofNat 0) (aD.i (Int.ofNat 0) (aD.i (Int.ofNat 0) (aD.i (Int.ofNat 0) (aD.i (Int.ofNat 0) aD.n))))))))))
noncomputable def T77 (h : Hp) (S : Nat → aD → Option Value) : Nat → aD → Option Value := dQ 0 (wV fun r0 => wN (aK5 h S r0)) (dQ 1 (wV fun r6 => wI fun r7 => wI fun ZC => wI fun ZE => wI fun ZF => wI fun ZG => wI fun u7 => wI fun sZ => wI fun vB => wI fun vC => wN (aEJ h S r6 r7 ZC ZE ZF ZG u7 sZ vB vC)) (dQ 2 (wI fun ZC => wI fun ZE => wI fun ZF => wI fun ZG => wI fun u7 => wI fun sZ => wI fun vB => wI fun vC => wN (a00 h S ZC ZE ZF ZG u7 sZ vB vC)) (kR)))
noncomputable def F77 (args : List Value) (h : Hp) : Option Value := plainO (dU [Kd.v] args fun al => G.aN (T77 h) 1000000 0 al)
def bE4 : Nat := 1 + (18 - 1)
theorem t77 (h : Hp) (S : Nat → aD → Option Value) : gY (fun l al => G.aX iD dD oG (oN env pf9 bE4 h) (pO env Try.f77.results.toList) (G.collect B77 A77 []) l S al) (T77 h S) := by
 unfold T77
 exact dV (mJ fun _ => oC (by kernel_rfl)) <| dV (mJ fun _ => kC fun _ => kC fun _ => kC fun _ => kC fun _ => kC fun _ => kC fun _ => kC fun _ => kC fun _ => kC fun _ => oC (by kernel_rfl)) <| dV (kC fun _ => kC fun _ => kC fun _ => kC fun _ => kC fun _ => kC fun _ => kC fun _ => kC fun _ => oC (by kernel_rfl)) <| gY.nil
theorem r77 : fV Try.prog 77 F77 := dK (C := C0) ok0 (pf := pf9) aTA (fn := Try.f77) (body := B77) (kinds := [Kd.v]) (A := A77) (T := T77) (by kernel_rfl) (by kernel_rfl) (by kernel_rfl) (by kernel_rfl) (fun h S => t77 h S)
noncomputable def aQ5 : PF := EI 77 F77 pf9
theorem aK7 : eF Try.prog aQ5 := iN r77 aTA
noncomputable def aK8 := oO 77 F77 aTD
noncomputable def C27 : dP := cfg aK8
theorem bE5 : C27.Ok := fQ (C := C26) bE2 r77
noncomputable def a01 : Code := (Try.f102.body).getD .skip
def a02 : eU := (Am 0 [(0, .v), (1, .v)] Ao (An Ao (An (An Ao (An (Am 1 [(5, .i .i64), (11, .v), (12, .i .i64)] (An Ao (An Az (An (An Az Ao) Ao))) Ao) Ao)) (Am 2 [(5, .i .i64)] Ao Ao))))
noncomputable def aVP (S : Sg) (r5 : Int) (h : Hp) : aF :=
 some ((Value.int .i64 r5), h)
noncomputable def WL (S : Sg) (r5 : Int) (jB : Value) (mO : Int) (h : Hp) : aF :=
 bH (lM mO (Int.ofNat 4)) fun b0 =>
 bU b0
 (bR (kE env 87 jB (Value.int .i64 mO)) fun v1 =>
 aS .i64 v1 fun i2 =>
 wrap64 (Int.add r5 i2) fun i3 =>
 wrap64 (Int.add mO (Int.ofNat 1)) fun i4 =>
 S 1 (AL.i i3 (AL.v jB (AL.i i4 AL.n))) h)
 (S 2 (AL.i r5 AL.n) h)
noncomputable def aCO (S : Sg) (r0 r1 : Value) (h : Hp) : aF :=
 bC h 71 (Array.toList (Value.cells r0)) fun a0 h0 =>
 aT 5 h0 a0 fun v1 =>
 aK (bQ F60 [v1, r1] h0) fun v2 h2 =>
 aK (bR (F77 [v2] h2) fun v => some (v, h2)) fun v3 h3 =>
 S 1 (AL.i (Int.ofNat 0) (AL.v v3 (AL.i (Int.ofNat 0) AL.n))) h3
noncomputable def PL (S : Sg) : Sg := bV 0 (uV fun r0 => uV fun r1 => uN (aCO S r0 r1)) (bV 1 (uI fun r5 => uV fun jB => uI fun mO => uN (WL S r5 jB mO)) (bV 2 (uI fun r5 => uN (aVP S r5)) (jL)))
noncomputable def aCP (args : List Value) (h : Hp) : aF := bB [Kd.v, Kd.v] args fun al => aN PL 1000000 0 al h
def a03 : Nat := 2 + (20 - 2)
theorem t102 (S : Sg) : iR (fun l vs h => aX (kF env aK8 a03) (j5 env Try.f102.results.toList) (collect a01 a02 []) l S vs h) (PL S) := by
 unfold PL
 exact dG (dA fun _ => dA fun _ => iO fun _ => by kernel_rfl) <| dG (gI fun _ => dA fun _ => gI fun _ => iO fun _ => by kernel_rfl) <| dG (gI fun _ => iO fun _ => by kernel_rfl) <| Go.bI.iR.nil
theorem bE6 : ∀ args h v h', aCP args h = some (v, h') → eG (C27) (.call 102 args.toArray h) (.ret v h') := by
 intro args h v h' e
 exact bE (C := C27) (fn := Try.f102) (body := a01) (np := 2) (A := a02) (T := PL) (kinds := [Kd.v, Kd.v]) (by kernel_rfl) (by kernel_rfl) (by kernel_rfl) (by kernel_rfl) (dJ dL) (by kernel_rfl) (fun S => t102 S) e
noncomputable def aTE := jF 102 aCP aK8
noncomputable def C28 : dP := cfg aTE
theorem bE7 : C28.Ok := dB (C := C27) bE5 bE6
noncomputable def a04 : Code := (Try.f120.body).getD .skip
noncomputable def a05 : G.eU (List KI) := (Gm 0 [.reg 0 (.i .i64)] Gz Gy)
noncomputable def aVQ (h : Hp) (S : Nat → aD → Option Value) (r0 : Int) : Option Value :=
 bA (jV r0 r0) fun b0 =>
 some (Value.bool b0)
noncomputable def aQ6 (h : Hp) (S : Nat → aD → Option Value) : Nat → aD → Option Value := dQ 0 (wI fun r0 => wN (aVQ h S r0)) (kR)
noncomputable def aG0 (args : List Value) (h : Hp) : Option Value := plainO (dU [Kd.i .i64] args fun al => G.aN (aQ6 h) 1000000 0 al)
def a06 : Nat := 1 + (6 - 1)
theorem t120 (h : Hp) (S : Nat → aD → Option Value) : gY (fun l al => G.aX iD dD oG (oN env aQ5 a06 h) (pO env Try.f120.results.toList) (G.collect a04 a05 []) l S al) (aQ6 h S) := by
 unfold aQ6
 exact dV (kC fun _ => oC (by kernel_rfl)) <| gY.nil
theorem a07 : fV Try.prog 120 aG0 := dK (C := C0) ok0 (pf := aQ5) aK7 (fn := Try.f120) (body := a04) (kinds := [Kd.i .i64]) (A := a05) (T := aQ6) (by kernel_rfl) (by kernel_rfl) (by kernel_rfl) (by kernel_rfl) (fun h S => t120 h S)
noncomputable def aQ7 : PF := EI 120 aG0 aQ5
theorem aK9 : eF Try.prog aQ7 := iN a07 aK7
noncomputable def aTF := oO 120 aG0 aTE
noncomputable def C29 : dP := cfg aTF
theorem bE8 : C29.Ok := fQ (C := C28) bE7 a07
noncomputable def a08 : Code := (Try.f116.body).getD .skip
noncomputable def a09 : G.eU (List KI) := (Gm 0 [.reg 0 (.i .i64), .reg 1 (.i .i64)] Gz (Gn Gz (Gn Gz (Gn (Gn Gz (Gn (Gn (Gn Gz (Gn Gy Gz)) Gy) Gz)) (Gn (Gn Gz (Gn Gy Gz)) (Gn (Gn Gz (Gn Gy Gz)) (Gn (Gn Gz (Gn Gy Gz)) Gy)))))))
noncomputable def aCQ (h : Hp) (S : Nat → aD → Option Value) (r0 r1 : Int) : Option Value :=
 bR (aG0 [(Value.int .i64 r0)] h) fun v0 =>
 dH v0 fun b1 =>
 bR (aG0 [(Value.int .i64 r1)] h) fun v2 =>
 dH v2 fun b3 =>
 bU b1
 (bU b3
 (some (Value.int .i64 (Int.ofNat 0)))
 (some (Value.int .i64 (Int.negSucc 0))))
 (bU b3
 (some (Value.int .i64 (Int.ofNat 1)))
 (bH (lM r0 r1) fun b4 =>
 bU b4
 (some (Value.int .i64 (Int.negSucc 0)))
 (bH (lM r1 r0) fun b5 =>
 bU b5
 (some (Value.int .i64 (Int.ofNat 1)))
 (some (Value.int .i64 (Int.ofNat 0))))))
noncomputable def aLA (h : Hp) (S : Nat → aD → Option Value) : Nat → aD → Option Value := dQ 0 (wI fun r0 => wI fun r1 => wN (aCQ h S r0 r1)) (kR)
noncomputable def aG1 (args : List Value) (h : Hp) : Option Value := plainO (dU [Kd.i .i64, Kd.i .i64] args fun al => G.aN (aLA h) 1000000 0 al)
def a1A : Nat := 2 + (20 - 2)
theorem t116 (h : Hp) (S : Nat → aD → Option Value) : gY (fun l al => G.aX iD dD oG (oN env aQ7 a1A h) (pO env Try.f116.results.toList) (G.collect a08 a09 []) l S al) (aLA h S) := by
 unfold aLA
 exact dV (kC fun _ => kC fun _ => oC (by kernel_rfl)) <| gY.nil
theorem a1B : fV Try.prog 116 aG1 := dK (C := C0) ok0 (pf := aQ7) aK9 (fn := Try.f116) (body := a08) (kinds := [Kd.i .i64, Kd.i .i64]) (A := a09) (T := aLA) (by kernel_rfl) (by kernel_rfl) (by kernel_rfl) (by kernel_rfl) (fun h S => t116 h S)
noncomputable def aQ8 : PF := EI 116 aG1 aQ7
theorem aLB : eF Try.prog aQ8 := iN a1B aK9
noncomputable def aTG := oO 116 aG1 aTF
noncomputable def C30 : dP := cfg aTG
theorem bE9 : C30.Ok := fQ (C := C29) bE8 a1B
noncomputable def a1C : Code := (Try.f115.body).getD .skip
noncomputable def a1D : G.eU (List KI) := (Gm 0 [.reg 0 .v] Gz (Gn Gz (Gn (Gn Gz (Gn (Gm 1 [.reg 3 (.i .i64), .reg 6 .v, .reg 7 (.i .i64), .reg 8 (.i .i64)] (Gn Gz (Gn Gy (Gn (Gn (Gn Gz (Gn Gz (Gn Gy Gz))) Gz) Gz))) Gz) Gz)) (Gm 2 [.reg 3 (.i .i64)] Gz Gz))))
noncomputable def aVR (h : Hp) (S : Nat → aD → Option Value) (r3 : Int) : Option Value :=
 some (Value.int .i64 r3)
noncomputable def PM (h : Hp) (S : Nat → aD → Option Value) (r3 : Int) (r6 : Value) (r7 r8 : Int) : Option Value :=
 bH (lM r8 r7) fun b0 =>
 bU b0
 (dN 1 r6 r8 fun v1 =>
 aJ h v1 fun v2 =>
 aS .i64 v2 fun i3 =>
 bA (jV i3 r3) fun b4 =>
 bU b4
 (some (Value.int .i64 i3))
 (wrap64 (Int.add r8 (Int.ofNat 1)) fun i5 =>
 S 1 (aD.i r3 (aD.v r6 (aD.i r7 (aD.i i5 aD.n))))))
 (S 2 (aD.i r3 aD.n))
noncomputable def aCR (h : Hp) (S : Nat → aD → Option Value) (r0 : Value) : Option Value :=
 bS r0 fun i0 =>
 S 1 (aD.i (Int.ofNat 0) (aD.v r0 (aD.i i0 (aD.i (Int.ofNat 0) aD.n))))
noncomputable def ZH (h : Hp) (S : Nat → aD → Option Value) : Nat → aD → Option Value := dQ 0 (wV fun r0 => wN (aCR h S r0)) (dQ 1 (wI fun r3 => wV fun r6 => wI fun r7 => wI fun r8 => wN (PM h S r3 r6 r7 r8)) (dQ 2 (wI fun r3 => wN (aVR h S r3)) (kR)))
noncomputable def aLC (args : List Value) (h : Hp) : Option Value := plainO (dU [Kd.v] args fun al => G.aN (ZH h) 1000000 0 al)
def a1E : Nat := 1 + (18 - 1)
theorem t115 (h : Hp) (S : Nat → aD → Option Value) : gY (fun l al => G.aX iD dD oG (oN env aQ8 a1E h) (pO env Try.f115.results.toList) (G.collect a1C a1D []) l S al) (ZH h S) := by
 unfold ZH
 exact dV (mJ fun _ => oC (by kernel_rfl)) <| dV (kC fun _ => mJ fun _ => kC fun _ => kC fun _ => oC (by kernel_rfl)) <| dV (kC fun _ => oC (by kernel_rfl)) <| gY.nil
theorem a1F : fV Try.prog 115 aLC := dK (C := C0) ok0 (pf := aQ8) aLB (fn := Try.f115) (body := a1C) (kinds := [Kd.v]) (A := a1D) (T := ZH) (by kernel_rfl) (by kernel_rfl) (by kernel_rfl) (by kernel_rfl) (fun h S => t115 h S)
noncomputable def a1G : PF := EI 115 aLC aQ8
theorem aVS : eF Try.prog a1G := iN a1F aLB
noncomputable def IJ := oO 115 aLC aTG
noncomputable def C31 : dP := cfg IJ
theorem bFA : C31.Ok := fQ (C := C30) bE9 a1F
noncomputable def a1H : Code := (Try.f103.body).getD .skip
def a1I : eU := (Am 0 [(0, .v), (1, .v), (2, .v)] Ao Az)
noncomputable def aCS (S : Sg) (r0 r1 r2 : Value) (h : Hp) : aF :=
 bC h 135 (Array.toList (Value.cells r0)) fun a0 h0 =>
 aO 0 a0 fun v1 =>
 aJ (Hp.mk (Hp.next h0) (Hp.next h0) (Hp.aC h0)) v1 fun v2 =>
 aK (qP IJ v2 [r1] (Hp.mk (Hp.next h0) (Hp.next h0) (Hp.aC h0))) fun v3 h3 =>
 aS .i64 v3 fun i4 =>
 aO 0 a0 fun v5 =>
 aJ (Hp.mk (Hp.next h0) (Hp.next h0) (Hp.aC h0)) v5 fun v6 =>
 aK (qP IJ v6 [r2] (Hp.mk (Hp.next h0) (Hp.next h0) (Hp.aC h0))) fun v7 h7 =>
 aS .i64 v7 fun i8 =>
 aK (bR (aG1 [(Value.int .i64 i4), (Value.int .i64 i8)] (Hp.mk (Hp.next h0) (Hp.next h0) (Hp.aC h0))) fun v => some (v, (Hp.mk (Hp.next h0) (Hp.next h0) (Hp.aC h0)))) fun v9 h9 =>
 aS .i64 v9 fun i10 =>
 aO 1 a0 fun v11 =>
 aJ (Hp.mk (Hp.next h0) (Hp.next h0) (Hp.aC h0)) v11 fun v12 =>
 aK (qP IJ v12 [r1] (Hp.mk (Hp.next h0) (Hp.next h0) (Hp.aC h0))) fun v13 zT =>
 aS .i64 v13 fun i14 =>
 aO 1 a0 fun v15 =>
 aJ (Hp.mk (Hp.next h0) (Hp.next h0) (Hp.aC h0)) v15 fun v16 =>
 aK (qP IJ v16 [r2] (Hp.mk (Hp.next h0) (Hp.ro h0) (Hp.aC h0))) fun v17 h17 =>
 aS .i64 v17 fun i18 =>
 aK (bR (aG1 [(Value.int .i64 i14), (Value.int .i64 i18)] h17) fun v => some (v, h17)) fun v19 h19 =>
 aS .i64 v19 fun i20 =>
 aK (aU env h19 22 2 (List.toArray [(0, (Value.int .i64 i10)), (1, (Value.int .i64 i20))])) fun v21 h21 =>
 aK (bR (aLC [v21] h21) fun v => some (v, h21)) fun v22 h22 =>
 aS .i64 v22 fun i23 =>
 some ((Value.int .i64 i23), h22)
noncomputable def aLD (S : Sg) : Sg := bV 0 (uV fun r0 => uV fun r1 => uV fun r2 => uN (aCS S r0 r1 r2)) (jL)
noncomputable def aG2 (args : List Value) (h : Hp) : aF := bB [Kd.v, Kd.v, Kd.v] args fun al => aN aLD 1000000 0 al h
def a1J : Nat := 3 + (27 - 3)
theorem t103 (S : Sg) : iR (fun l vs h => aX (kF env IJ a1J) (j5 env Try.f103.results.toList) (collect a1H a1I []) l S vs h) (aLD S) := by
 unfold aLD
 exact dG (dA fun _ => dA fun _ => dA fun _ => iO fun _ => by kernel_rfl) <| Go.bI.iR.nil
theorem bFB : ∀ args h v h', aG2 args h = some (v, h') → eG (C31) (.call 103 args.toArray h) (.ret v h') := by
 intro args h v h' e
 exact bE (C := C31) (fn := Try.f103) (body := a1H) (np := 3) (A := a1I) (T := aLD) (kinds := [Kd.v, Kd.v, Kd.v]) (by kernel_rfl) (by kernel_rfl) (by kernel_rfl) (by kernel_rfl) (dJ dL) (by kernel_rfl) (fun S => t103 S) e
noncomputable def aLE := jF 103 aG2 IJ
noncomputable def C32 : dP := cfg aLE
theorem ok32 : C32.Ok := dB (C := C31) bFA bFB
noncomputable def B58 : Code := (Try.f58.body).getD .skip
def A58 : eU := (Am 0 [(0, .v), (1, .v)] Ao (An Ao (An (An (An Ao (An Az (An Ao (An Az (An Ao (An Az Ao)))))) Ao) (An Ao (An (An Ao (An (Am 1 [(1, .v), (4, .v), (7, .v), (9, .v), (40, .v), (41, .i .i64), (42, .i .i64)] (An Ao (An Az (An (An (An Ao (An (An Ao (An Az Ao)) Ao)) Ao) Ao))) Ao) Ao)) (Am 2 [(4, .v), (7, .v), (9, .v)] Ao Ao))))))
noncomputable def a1K (S : Sg) (r4 r7 r9 : Value) (h : Hp) : aF :=
 aT 5 h r7 fun v0 =>
 dY 5 h r4 v0 fun h1 =>
 aT 5 h1 r4 fun v2 => some (Value.tuple (List.toArray [v2, r9, (Value.int .i64 (Int.ofNat 0))]), h1)
noncomputable def a1L (S : Sg) (r1 r4 : Value) (r7 r9 r40 : Value) (r41 r42 : Int) (h : Hp) : aF :=
 bH (lM r42 r41) fun b0 =>
 bU b0
 (dN 1 r40 r42 fun v1 =>
 aJ h v1 fun v2 =>
 aS .i64 v2 fun i3 =>
 bR (jG env h 22 r1 none (some (Value.int .i64 r42)) none) fun v4 =>
 aK (bR (F90 [v4, (Value.int .i64 i3)] h) fun v => some (v, h)) fun v5 h5 =>
 dH v5 fun b6 =>
 bU b6
 (bR (jX env 71 (List.toArray [])) fun v7 =>
 dY 5 h5 r4 v7 fun h8 =>
 aT 5 h8 r4 fun v9 => some (Value.tuple (List.toArray [v9, (Value.slice none 0 0), (Value.int .i64 (Int.ofNat 5))]), h8))
 (bR (jX env 76 (List.toArray [(0, (Value.int .i64 i3)), (1, (Value.int .i64 r42))])) fun v10 =>
 aK (aU env h5 79 1 (List.toArray [(0, v10)])) fun v11 h11 =>
 aK (cB env h11 #[79, 79] (List.toArray [r9, v11])) fun v12 h12 =>
 wrap64 (Int.add r42 (Int.ofNat 1)) fun i13 =>
 S 1 (AL.v r1 (AL.v r4 (AL.v r7 (AL.v v12 (AL.v r40 (AL.i r41 (AL.i i13 AL.n))))))) h12))
 (S 2 (AL.v r4 (AL.v r7 (AL.v r9 AL.n))) h)
noncomputable def a1M (S : Sg) (r0 r1 : Value) (h : Hp) : aF :=
 bC h 25 (Array.toList (Value.cells r0)) fun a0 h0 =>
 bC h0 71 [(Value.slice none 0 0), (Value.slice none 0 0), (Value.slice none 0 0), (Value.slice none 0 0), (Value.map none)] fun a1 h1 =>
 aT 4 h1 a0 fun v2 =>
 aK (bQ F63 [v2] h1) fun v3 h3 =>
 eB v3 0 fun v4 =>
 eB v3 1 fun v5 =>
 aS .i64 v5 fun i6 =>
 bC h3 71 [(Value.slice none 0 0), (Value.slice none 0 0), (Value.slice none 0 0), (Value.slice none 0 0), (Value.map none)] fun a7 h7 =>
 dY 5 h7 a7 v4 fun h8 =>
 bA (jV i6 (Int.ofNat 0)) fun b9 =>
 bU b9
 (bR (jX env 71 (List.toArray [])) fun v10 =>
 dY 5 h8 a1 v10 fun h11 =>
 aT 5 h11 a1 fun v12 => some (Value.tuple (List.toArray [v12, (Value.slice none 0 0), (Value.int .i64 i6)]), h11))
 (bS r1 fun i13 =>
 aO 0 a7 fun v14 =>
 aO 3 v14 fun v15 =>
 aJ h8 v15 fun v16 =>
 bS v16 fun i17 =>
 bA (jV i13 i17) fun b18 =>
 bU b18
 (bR (jX env 71 (List.toArray [])) fun v19 =>
 dY 5 h8 a1 v19 fun h20 =>
 aT 5 h20 a1 fun v21 => some (Value.tuple (List.toArray [v21, (Value.slice none 0 0), (Value.int .i64 (Int.ofNat 3))]), h20))
 (aO 0 a7 fun v22 =>
 aO 2 v22 fun v23 =>
 aJ h8 v23 fun v24 =>
 bS v24 fun i25 =>
 aK (bR (F53 [(Value.int .i64 i25), r1] h8) fun v => some (v, h8)) fun v26 h26 =>
 dH v26 fun b27 =>
 bA b27 fun b28 =>
 bU b28
 (bR (jX env 71 (List.toArray [])) fun v29 =>
 dY 5 h26 a1 v29 fun h30 =>
 aT 5 h30 a1 fun v31 => some (Value.tuple (List.toArray [v31, (Value.slice none 0 0), (Value.int .i64 (Int.ofNat 4))]), h30))
 (bS r1 fun i32 =>
 S 1 (AL.v r1 (AL.v a1 (AL.v a7 (AL.v (Value.slice none 0 0) (AL.v r1 (AL.i i32 (AL.i (Int.ofNat 0) AL.n))))))) h26)))
noncomputable def T58 (S : Sg) : Sg := bV 0 (uV fun r0 => uV fun r1 => uN (a1M S r0 r1)) (bV 1 (uV fun r1 => uV fun r4 => uV fun r7 => uV fun r9 => uV fun r40 => uI fun r41 => uI fun r42 => uN (a1L S r1 r4 r7 r9 r40 r41 r42)) (bV 2 (uV fun r4 => uV fun r7 => uV fun r9 => uN (a1K S r4 r7 r9)) (jL)))
noncomputable def F58 (args : List Value) (h : Hp) : aF := bB [Kd.v, Kd.v] args fun al => aN T58 1000000 0 al h
def bFD : Nat := 2 + (62 - 2)
theorem t58 (S : Sg) : iR (fun l vs h => aX (kF env aLE bFD) (j5 env Try.f58.results.toList) (collect B58 A58 []) l S vs h) (T58 S) := by
 unfold T58
 exact dG (dA fun _ => dA fun _ => iO fun _ => by kernel_rfl) <| dG (dA fun _ => dA fun _ => dA fun _ => dA fun _ => dA fun _ => gI fun _ => gI fun _ => iO fun _ => by kernel_rfl) <| dG (dA fun _ => dA fun _ => dA fun _ => iO fun _ => by kernel_rfl) <| Go.bI.iR.nil
theorem r58 : ∀ args h v h', F58 args h = some (v, h') → eG (C32) (.call 58 args.toArray h) (.ret v h') := by
 intro args h v h' e
 exact bE (C := C32) (fn := Try.f58) (body := B58) (np := 2) (A := A58) (T := T58) (kinds := [Kd.v, Kd.v]) (by kernel_rfl) (by kernel_rfl) (by kernel_rfl) (by kernel_rfl) (dJ dL) (by kernel_rfl) (fun S => t58 S) e
noncomputable def aLF := jF 58 F58 aLE
noncomputable def C33 : dP := cfg aLF
theorem bFE : C33.Ok := dB (C := C32) ok32 r58
noncomputable def B91 : Code := (Try.f91.body).getD .skip
def A91 : eU := (Am 0 [(0, .v)] Ao (An (An Ao (An Az Ao)) Az))
noncomputable def aLG (S : Sg) (r0 : Value) (h : Hp) : aF :=
 bR (qQ env .eql 22 (Operand.tmp 3) (Operand.const (Value.slice none 0 0)) r0 (Value.slice none 0 0)) fun v0 =>
 dH v0 fun b1 =>
 bU b1
 (some ((Value.slice none 0 0), h))
 (aK (aU env h 22 0 (List.toArray [])) fun v2 h2 =>
 aK (cB env h2 #[22, 22] (List.toArray [v2, r0])) fun v3 h3 =>
 some (v3, h3))
noncomputable def T91 (S : Sg) : Sg := bV 0 (uV fun r0 => uN (aLG S r0)) (jL)
noncomputable def F91 (args : List Value) (h : Hp) : aF := bB [Kd.v] args fun al => aN T91 1000000 0 al h
def bFF : Nat := 1 + (8 - 1)
theorem t91 (S : Sg) : iR (fun l vs h => aX (kF env aLF bFF) (j5 env Try.f91.results.toList) (collect B91 A91 []) l S vs h) (T91 S) := by
 unfold T91
 exact dG (dA fun _ => iO fun _ => by kernel_rfl) <| Go.bI.iR.nil
theorem r91 : ∀ args h v h', F91 args h = some (v, h') → eG (C33) (.call 91 args.toArray h) (.ret v h') := by
 intro args h v h' e
 exact bE (C := C33) (fn := Try.f91) (body := B91) (np := 1) (A := A91) (T := T91) (kinds := [Kd.v]) (by kernel_rfl) (by kernel_rfl) (by kernel_rfl) (by kernel_rfl) (dJ dL) (by kernel_rfl) (fun S => t91 S) e
noncomputable def aLH := jF 91 F91 aLF
noncomputable def C34 : dP := cfg aLH
theorem bFG : C34.Ok := dB (C := C33) bFE r91
noncomputable def B59 : Code := (Try.f59.body).getD .skip
def A59 : eU := (Am 0 [(0, .v), (1, .v)] Ao Az)
noncomputable def aLI (S : Sg) (r0 r1 : Value) (h : Hp) : aF :=
 bC h 71 (Array.toList (Value.cells r0)) fun a0 h0 =>
 bC h0 87 (Array.toList (Value.cells r1)) fun a1 h1 =>
 aO 0 a0 fun v2 =>
 aO 1 v2 fun v3 =>
 aJ h1 v3 fun v4 =>
 bS v4 fun i5 =>
 bR (jG env h1 87 a1 none (some (Value.int .i64 i5)) none) fun v6 =>
 aK (bQ F91 [v6] h1) fun v7 h7 =>
 some (v7, h7)
noncomputable def T59 (S : Sg) : Sg := bV 0 (uV fun r0 => uV fun r1 => uN (aLI S r0 r1)) (jL)
noncomputable def F59 (args : List Value) (h : Hp) : aF := bB [Kd.v, Kd.v] args fun al => aN T59 1000000 0 al h
def bFH : Nat := 2 + (11 - 2)
theorem t59 (S : Sg) : iR (fun l vs h => aX (kF env aLH bFH) (j5 env Try.f59.results.toList) (collect B59 A59 []) l S vs h) (T59 S) := by
 unfold T59
 exact dG (dA fun _ => dA fun _ => iO fun _ => by kernel_rfl) <| Go.bI.iR.nil
theorem r59 : ∀ args h v h', F59 args h = some (v, h') → eG (C34) (.call 59 args.toArray h) (.ret v h') := by
 intro args h v h' e
 exact bE (C := C34) (fn := Try.f59) (body := B59) (np := 2) (A := A59) (T := T59) (kinds := [Kd.v, Kd.v]) (by kernel_rfl) (by kernel_rfl) (by kernel_rfl) (by kernel_rfl) (dJ dL) (by kernel_rfl) (fun S => t59 S) e
noncomputable def aLJ := jF 59 F59 aLH
noncomputable def C35 : dP := cfg aLJ
theorem bFI : C35.Ok := dB (C := C34) bFG r59
noncomputable def B22 : Code := (Try.f22.body).getD .skip
def A22 : eU := (Am 0 [(0, .v), (1, .v)] Ao (An Ao (An (An Ao (An Az Ao)) Az)))
noncomputable def a1Q (S : Sg) (r0 r1 : Value) (h : Hp) : aF :=
 bC h 25 (Array.toList (Value.cells r0)) fun a0 h0 =>
 aT 4 h0 a0 fun v1 =>
 aK (bQ F58 [v1, r1] h0) fun v2 h2 =>
 eB v2 0 fun v3 =>
 eB v2 1 fun v4 =>
 eB v2 2 fun v5 =>
 aS .i64 v5 fun i6 =>
 bC h2 71 [(Value.slice none 0 0), (Value.slice none 0 0), (Value.slice none 0 0), (Value.slice none 0 0), (Value.map none)] fun a7 h7 =>
 dY 5 h7 a7 v3 fun h8 =>
 bA (jV i6 (Int.ofNat 0)) fun b9 =>
 bU b9
 (some (Value.tuple (List.toArray [(Value.slice none 0 0), (Value.int .i64 i6)]), h8))
 (aT 5 h8 a7 fun v10 =>
 aT 5 h8 a7 fun v11 =>
 aK (aK (bQ F60 [v11, v4] (Hp.mk (Hp.next h8) (Hp.next h8) (Hp.aC h8))) fun v _ => bU (lD v) (some (v, h8)) none) fun v12 h12 =>
 aK (bQ F59 [v10, v12] h12) fun v13 zT =>
 some (Value.tuple (List.toArray [v13, (Value.int .i64 (Int.ofNat 0))]), zT))
noncomputable def T22 (S : Sg) : Sg := bV 0 (uV fun r0 => uV fun r1 => uN (a1Q S r0 r1)) (jL)
noncomputable def F22 (args : List Value) (h : Hp) : aF := bB [Kd.v, Kd.v] args fun al => aN T22 1000000 0 al h
def bFJ : Nat := 2 + (24 - 2)
theorem t22 (S : Sg) : iR (fun l vs h => aX (kF env aLJ bFJ) (j5 env Try.f22.results.toList) (collect B22 A22 []) l S vs h) (T22 S) := by
 unfold T22
 exact dG (dA fun _ => dA fun _ => iO fun _ => by kernel_rfl) <| Go.bI.iR.nil
theorem TU : ∀ args h v h', F22 args h = some (v, h') → eG (C35) (.call 22 args.toArray h) (.ret v h') := by
 intro args h v h' e
 exact bE (C := C35) (fn := Try.f22) (body := B22) (np := 2) (A := A22) (T := T22) (kinds := [Kd.v, Kd.v]) (by kernel_rfl) (by kernel_rfl) (by kernel_rfl) (by kernel_rfl) (dJ dL) (by kernel_rfl) (fun S => t22 S) e
noncomputable def aLK := jF 22 F22 aLJ
noncomputable def C36 : dP := cfg aLK
theorem bFK : C36.Ok := dB (C := C35) bFI TU
noncomputable def B62 : Code := (Try.f62.body).getD .skip
def A62 : eU := (Am 0 [(0, .v), (1, .v)] Ao Az)
noncomputable def aLL (S : Sg) (r0 r1 : Value) (h : Hp) : aF :=
 bC h 71 (Array.toList (Value.cells r0)) fun a0 h0 =>
 aT 5 h0 a0 fun v1 =>
 aK (bQ F60 [v1, r1] h0) fun v2 h2 =>
 aK (bR (F77 [v2] h2) fun v => some (v, h2)) fun v3 h3 =>
 bR (jX env 87 (List.toArray [])) fun v4 =>
 bR (qQ env .eql 87 (Operand.tmp 8) (Operand.tmp 9) v3 v4) fun v5 =>
 dH v5 fun b6 =>
 some ((Value.bool b6), h3)
noncomputable def T62 (S : Sg) : Sg := bV 0 (uV fun r0 => uV fun r1 => uN (aLL S r0 r1)) (jL)
noncomputable def F62 (args : List Value) (h : Hp) : aF := bB [Kd.v, Kd.v] args fun al => aN T62 1000000 0 al h
def bFL : Nat := 2 + (11 - 2)
theorem t62 (S : Sg) : iR (fun l vs h => aX (kF env aLK bFL) (j5 env Try.f62.results.toList) (collect B62 A62 []) l S vs h) (T62 S) := by
 unfold T62
 exact dG (dA fun _ => dA fun _ => iO fun _ => by kernel_rfl) <| Go.bI.iR.nil
theorem r62 : ∀ args h v h', F62 args h = some (v, h') → eG (C36) (.call 62 args.toArray h) (.ret v h') := by
 intro args h v h' e
 exact bE (C := C36) (fn := Try.f62) (body := B62) (np := 2) (A := A62) (T := T62) (kinds := [Kd.v, Kd.v]) (by kernel_rfl) (by kernel_rfl) (by kernel_rfl) (by kernel_rfl) (dJ dL) (by kernel_rfl) (fun S => t62 S) e
noncomputable def aLM := jF 62 F62 aLK
noncomputable def C37 : dP := cfg aLM
theorem bFM : C37.Ok := dB (C := C36) bFK r62
noncomputable def B24 : Code := (Try.f24.body).getD .skip
def A24 : eU := (Am 0 [(0, .v), (1, .v)] Ao (An Ao (An (An Ao (An Az Ao)) (An (An Ao (An Az Ao)) Az))))
noncomputable def a1S (S : Sg) (r0 r1 : Value) (h : Hp) : aF :=
 bC h 25 (Array.toList (Value.cells r0)) fun a0 h0 =>
 aT 4 h0 a0 fun v1 =>
 aK (bQ F58 [v1, r1] h0) fun v2 h2 =>
 eB v2 0 fun v3 =>
 eB v2 1 fun v4 =>
 eB v2 2 fun v5 =>
 aS .i64 v5 fun i6 =>
 bC h2 71 [(Value.slice none 0 0), (Value.slice none 0 0), (Value.slice none 0 0), (Value.slice none 0 0), (Value.map none)] fun a7 h7 =>
 dY 5 h7 a7 v3 fun h8 =>
 bA (jV i6 (Int.ofNat 0)) fun b9 =>
 bU b9
 (some (Value.tuple (List.toArray [(Value.int .i64 (Int.ofNat 0)), (Value.int .i64 i6)]), h8))
 (aT 5 h8 a7 fun v10 =>
 aK (bQ F62 [v10, v4] h8) fun v11 h11 =>
 dH v11 fun b12 =>
 bA b12 fun b13 =>
 bU b13
 (some (Value.tuple (List.toArray [(Value.int .i64 (Int.ofNat 0)), (Value.int .i64 (Int.ofNat 9))]), h11))
 (aT 5 h11 a7 fun v14 =>
 aK (bR (F54 [v14, v4] h11) fun v => some (v, h11)) fun v15 h15 =>
 aS .i64 v15 fun i16 =>
 some (Value.tuple (List.toArray [(Value.int .i64 i16), (Value.int .i64 (Int.ofNat 0))]), h15)))
noncomputable def T24 (S : Sg) : Sg := bV 0 (uV fun r0 => uV fun r1 => uN (a1S S r0 r1)) (jL)
noncomputable def F24 (args : List Value) (h : Hp) : aF := bB [Kd.v, Kd.v] args fun al => aN T24 1000000 0 al h
def bFO : Nat := 2 + (26 - 2)
theorem t24 (S : Sg) : iR (fun l vs h => aX (kF env aLM bFO) (j5 env Try.f24.results.toList) (collect B24 A24 []) l S vs h) (T24 S) := by
 unfold T24
 exact dG (dA fun _ => dA fun _ => iO fun _ => by kernel_rfl) <| Go.bI.iR.nil
theorem r24 : ∀ args h v h', F24 args h = some (v, h') → eG (C37) (.call 24 args.toArray h) (.ret v h') := by
 intro args h v h' e
 exact bE (C := C37) (fn := Try.f24) (body := B24) (np := 2) (A := A24) (T := T24) (kinds := [Kd.v, Kd.v]) (by kernel_rfl) (by kernel_rfl) (by kernel_rfl) (by kernel_rfl) (dJ dL) (by kernel_rfl) (fun S => t24 S) e
noncomputable def aLN := jF 24 F24 aLM
noncomputable def C38 : dP := cfg aLN
theorem a1T : C38.Ok := dB (C := C37) bFM r24
noncomputable abbrev a1U := aLN
theorem okE : (cfg a1U).Ok := a1T
end Go.Proofs.Ytdpicdnpiihaaaa.K
