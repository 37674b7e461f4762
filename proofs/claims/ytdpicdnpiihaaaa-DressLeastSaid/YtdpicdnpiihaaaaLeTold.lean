/- Functions told. -/
import Derived.Test.YtdpicdnpiihaaaaLeTab
import Derived.Test.YtdpicdnpiihaaaaLeEngC
import Derived.Test.YtdpicdnpiihaaaaLeEngD
open Go Go.bK Go.bK.Y
set_option maxRecDepth 100000
set_option linter.unusedVariables false
namespace Go.Proofs.Ytdpicdnpiihaaaa.K
noncomputable def B82 : Code := (Try.f82.body).getD .skip
noncomputable def A82 : G.fC (List KI) := (Gm 0 [.reg 0 (.i .i64), .reg 1 (.i .i64), .reg 2 .v] Gz (Gn (Gn Gz (Gn (Gm 1 [.reg 0 (.i .i64), .reg 1 (.i .i64), .reg 9 .v, .reg 10 (.i .i64), .reg 11 (.i .i64)] (Gn Gz (Gn Gy (Gn (Gn (Gn Gz (Gn Gz (Gn Gy Gz))) Gz) Gz))) Gz) Gz)) (Gm 2 [] Gz Gz)))
noncomputable def aJ4 (h : Hp) (S : Nat → aD → Option Value) : Option Value :=
 some (Value.bool true)
noncomputable def Y8 (h : Hp) (S : Nat → aD → Option Value) (r0 r1 : Int) (r9 : Value) (oG qN : Int) : Option Value :=
 bZ (mH qN oG) fun b0 =>
 dA b0
 (eB 1 r9 qN fun v1 =>
 aM h v1 fun v2 =>
 aU .i64 v2 fun i3 =>
 bZ (mH i3 r0) fun b4 =>
 dA b4
 (some (Value.bool false))
 (bZ (mH r1 i3) fun b5 =>
 dA b5
 (some (Value.bool false))
 (wrap64 (Int.add qN (Int.ofNat 1)) fun i6 =>
 S 1 (aD.i r0 (aD.i r1 (aD.v r9 (aD.i oG (aD.i i6 aD.n))))))))
 (S 2 aD.n)
noncomputable def aJ5 (h : Hp) (S : Nat → aD → Option Value) (r0 r1 : Int) (r2 : Value) : Option Value :=
 dB r2 fun i0 =>
 S 1 (aD.i r0 (aD.i r1 (aD.v r2 (aD.i i0 (aD.i (Int.ofNat 0) aD.n)))))
noncomputable def T82 (h : Hp) (S : Nat → aD → Option Value) : Nat → aD → Option Value := dR 0 (wI fun r0 => wI fun r1 => wV fun r2 => wN (aJ5 h S r0 r1 r2)) (dR 1 (wI fun r0 => wI fun r1 => wV fun r9 => wI fun oG => wI fun qN => wN (Y8 h S r0 r1 r9 oG qN)) (dR 2 (wN (aJ4 h S)) (kR)))
noncomputable def F82 (args : List Value) (h : Hp) : Option Value := plainO (dU [Kd.i .i64, Kd.i .i64, Kd.v] args fun al => G.aI (T82 h) 1000000 0 al)
def bCY : Nat := 3 + (24 - 3)
theorem t82 (h : Hp) (S : Nat → aD → Option Value) : gZ (fun l al => G.bA iF cB oC (o9 env pf0 bCY h) (pY env Try.f82.results.toList) (G.collect B82 A82 []) l S al) (T82 h S) := by
 unfold T82
 exact dZ (jX fun _ => jX fun _ => mR fun _ => oF (by kernel_rfl)) <| dZ (jX fun _ => jX fun _ => mR fun _ => jX fun _ => jX fun _ => oF (by kernel_rfl)) <| dZ (oF (by kernel_rfl)) <| gZ.nil
theorem r82 : gB Try.prog 82 F82 := dD (C := C0) ok0 (pf := pf0) aTB (fn := Try.f82) (body := B82) (kinds := [Kd.i .i64, Kd.i .i64, Kd.v]) (A := A82) (T := T82) (by kernel_rfl) (by kernel_rfl) (by kernel_rfl) (by kernel_rfl) (fun h S => t82 h S)
noncomputable def pf1 : PF := FQ 82 F82 pf0
theorem aTC : eT Try.prog pf1 := iP r82 aTB
noncomputable def aVU := pE 82 F82 a0C
noncomputable def C1 : dK := cfg aVU
theorem ok1 : C1.Ok := fU (C := C0) ok0 r82
noncomputable def B81 : Code := (Try.f81.body).getD .skip
def A81 : fC := (Am 0 [(0, .v), (1, .i .i64), (2, .v)] Ao (An (An Ao (An Az Ao)) Az))
noncomputable def aJ6 (S : Sg) (r0 : Value) (r1 : Int) (r2 : Value) (h : Hp) : aJ :=
 aM h r2 fun v0 =>
 aU .i64 v0 fun i1 =>
 aQ (bF env h 22 1 (List.toArray [(0, (Value.int .i64 r1))])) fun v2 h2 =>
 aQ (bT (F82 [(Value.int .i64 (Int.ofNat 0)), (Value.int .i64 i1), v2] h2) fun v => some (v, h2)) fun v3 h3 =>
 dS v3 fun b4 =>
 bS b4 fun b5 =>
 dA b5
 (some ((Value.int .i64 (Int.ofNat 7)), h3))
 (some ((Value.int .i64 (Int.ofNat 0)), h3))
noncomputable def T81 (S : Sg) : Sg := cZ 0 (uV fun r0 => uI fun r1 => uV fun r2 => uN (aJ6 S r0 r1 r2)) (jT)
noncomputable def F81 (args : List Value) (h : Hp) : aJ := bG [Kd.v, Kd.i .i64, Kd.v] args fun al => aI T81 1000000 0 al h
def bCZ : Nat := 3 + (11 - 3)
theorem t81 (S : Sg) : jB (fun l vs h => bA (kF env aVU bCZ) (kG env Try.f81.results.toList) (collect B81 A81 []) l S vs h) (T81 S) := by
 unfold T81
 exact dV (dY fun _ => kL fun _ => dY fun _ => jU fun _ => by kernel_rfl) <| Go.bK.jB.nil
theorem r81 : ∀ args h v h', F81 args h = some (v, h') → fB (C1) (.call 81 args.toArray h) (.ret v h') := by
 intro args h v h' e
 exact bI (C := C1) (fn := Try.f81) (body := B81) (np := 3) (A := A81) (T := T81) (kinds := [Kd.v, Kd.i .i64, Kd.v]) (by kernel_rfl) (by kernel_rfl) (by kernel_rfl) (by kernel_rfl) (dI dM) (by kernel_rfl) (fun S => t81 S) e
noncomputable def aCC := jR 81 F81 aVU
noncomputable def C2 : dK := cfg aCC
theorem ok2 : C2.Ok := dG (C := C1) ok1 r81
noncomputable def a0E : Code := (Try.f104.body).getD .skip
def a0F : fC := (Am 0 [(0, .v), (1, .v)] Ao (An (An Ao (An (Am 1 [(0, .v), (1, .v), (9, .v), (10, .i .i64), (11, .i .i64)] (An Ao (An Az (An (An (An Ao (An Ao (An Ao (An Az Ao)))) Ao) Ao))) Ao) Ao)) (Am 2 [] Ao Ao)))
noncomputable def aVV (S : Sg) (h : Hp) : aJ :=
 some (Value.tuple (List.toArray [(Value.int .i64 (Int.ofNat 0)), (Value.int .i64 (Int.ofNat 0))]), h)
noncomputable def PE (S : Sg) (r0 r1 r9 : Value) (oG qN : Int) (h : Hp) : aJ :=
 bZ (mH qN oG) fun b0 =>
 dA b0
 (eB 1 r9 qN fun v1 =>
 aM h v1 fun v2 =>
 aU .i64 v2 fun i3 =>
 bT (fM env h 22 r0 none (some (Value.int .i64 qN)) none) fun v4 =>
 aQ (qQ aCC r1 [v4, (Value.int .i64 i3)] h) fun v5 h5 =>
 aU .i64 v5 fun i6 =>
 bS (mY i6 (Int.ofNat 0)) fun b7 =>
 dA b7
 (some (Value.tuple (List.toArray [(Value.int .i64 qN), (Value.int .i64 i6)]), h5))
 (wrap64 (Int.add qN (Int.ofNat 1)) fun i8 =>
 S 1 (AL.v r0 (AL.v r1 (AL.v r9 (AL.i oG (AL.i i8 AL.n))))) h5))
 (S 2 AL.n h)
noncomputable def aCD (S : Sg) (r0 r1 : Value) (h : Hp) : aJ :=
 dB r0 fun i0 =>
 S 1 (AL.v r0 (AL.v r1 (AL.v r0 (AL.i i0 (AL.i (Int.ofNat 0) AL.n))))) h
noncomputable def Y9 (S : Sg) : Sg := cZ 0 (uV fun r0 => uV fun r1 => uN (aCD S r0 r1)) (cZ 1 (uV fun r0 => uV fun r1 => uV fun r9 => uI fun oG => uI fun qN => uN (PE S r0 r1 r9 oG qN)) (cZ 2 (uN fun h => aVV S  h) (jT)))
noncomputable def aRJ (args : List Value) (h : Hp) : aJ := bG [Kd.v, Kd.v] args fun al => aI Y9 1000000 0 al h
def a0G : Nat := 2 + (27 - 2)
theorem t104 (S : Sg) : jB (fun l vs h => bA (kF env aCC a0G) (kG env Try.f104.results.toList) (collect a0E a0F []) l S vs h) (Y9 S) := by
 unfold Y9
 exact dV (dY fun _ => dY fun _ => jU fun _ => by kernel_rfl) <| dV (dY fun _ => dY fun _ => dY fun _ => kL fun _ => kL fun _ => jU fun _ => by kernel_rfl) <| dV (jU fun _ => by kernel_rfl) <| Go.bK.jB.nil
theorem bC0 : ∀ args h v h', aRJ args h = some (v, h') → fB (C2) (.call 104 args.toArray h) (.ret v h') := by
 intro args h v h' e
 exact bI (C := C2) (fn := Try.f104) (body := a0E) (np := 2) (A := a0F) (T := Y9) (kinds := [Kd.v, Kd.v]) (by kernel_rfl) (by kernel_rfl) (by kernel_rfl) (by kernel_rfl) (dI dM) (by kernel_rfl) (fun S => t104 S) e
noncomputable def aVW := jR 104 aRJ aCC
noncomputable def C3 : dK := cfg aVW
theorem ok3 : C3.Ok := dG (C := C2) ok2 bC0
noncomputable def B80 : Code := (Try.f80.body).getD .skip
def A80 : fC := (Am 0 [(0, .v), (1, .i .i64), (2, .v)] Ao (An (An Ao (An Az Ao)) Az))
noncomputable def aJ7 (S : Sg) (r0 : Value) (r1 : Int) (r2 : Value) (h : Hp) : aJ :=
 dB r0 fun i0 =>
 bZ (mH r1 i0) fun b1 =>
 dA b1
 (some (Value.tuple (List.toArray [(Value.int .i64 (Int.ofNat 0)), (Value.int .i64 (Int.ofNat 3))]), h))
 (aQ (dJ aRJ [r0, r2] h) fun v2 h2 =>
 gY v2 0 fun v3 =>
 aU .i64 v3 fun i4 =>
 gY v2 1 fun v5 =>
 aU .i64 v5 fun i6 =>
 some (Value.tuple (List.toArray [(Value.int .i64 i4), (Value.int .i64 i6)]), h2))
noncomputable def T80 (S : Sg) : Sg := cZ 0 (uV fun r0 => uI fun r1 => uV fun r2 => uN (aJ7 S r0 r1 r2)) (jT)
noncomputable def F80 (args : List Value) (h : Hp) : aJ := bG [Kd.v, Kd.i .i64, Kd.v] args fun al => aI T80 1000000 0 al h
def bC1 : Nat := 3 + (17 - 3)
theorem t80 (S : Sg) : jB (fun l vs h => bA (kF env aVW bC1) (kG env Try.f80.results.toList) (collect B80 A80 []) l S vs h) (T80 S) := by
 unfold T80
 exact dV (dY fun _ => kL fun _ => dY fun _ => jU fun _ => by kernel_rfl) <| Go.bK.jB.nil
theorem r80 : ∀ args h v h', F80 args h = some (v, h') → fB (C3) (.call 80 args.toArray h) (.ret v h') := by
 intro args h v h' e
 exact bI (C := C3) (fn := Try.f80) (body := B80) (np := 3) (A := A80) (T := T80) (kinds := [Kd.v, Kd.i .i64, Kd.v]) (by kernel_rfl) (by kernel_rfl) (by kernel_rfl) (by kernel_rfl) (dI dM) (by kernel_rfl) (fun S => t80 S) e
noncomputable def aVX := jR 80 F80 aVW
noncomputable def C4 : dK := cfg aVX
theorem ok4 : C4.Ok := dG (C := C3) ok3 r80
noncomputable def B48 : Code := (Try.f48.body).getD .skip
def A48 : fC := (Am 0 [(0, .v), (1, .i .i64), (2, .i .i64)] Ao (An (An Ao (An Az Ao)) Az))
noncomputable def aJ8 (S : Sg) (r0 : Value) (r1 r2 : Int) (h : Hp) : aJ :=
 bO h 3 [(Value.int .i64 r2)] fun a0 h0 =>
 dB r0 fun i1 =>
 bZ (mY i1 (Int.ofNat 0)) fun b2 =>
 dA b2
 (some (Value.tuple (List.toArray [(Value.int .i64 (Int.ofNat 0)), (Value.int .i64 (Int.ofNat 3))]), h0))
 (aQ (dJ F80 [r0, (Value.int .i64 r1), (Value.func (.func 81) (List.toArray []) (List.toArray [a0]))] h0) fun v3 h3 =>
 gY v3 0 fun v4 =>
 aU .i64 v4 fun i5 =>
 gY v3 1 fun v6 =>
 aU .i64 v6 fun i7 =>
 some (Value.tuple (List.toArray [(Value.int .i64 i5), (Value.int .i64 i7)]), h3))
noncomputable def T48 (S : Sg) : Sg := cZ 0 (uV fun r0 => uI fun r1 => uI fun r2 => uN (aJ8 S r0 r1 r2)) (jT)
noncomputable def F48 (args : List Value) (h : Hp) : aJ := bG [Kd.v, Kd.i .i64, Kd.i .i64] args fun al => aI T48 1000000 0 al h
def bC2 : Nat := 3 + (17 - 3)
theorem t48 (S : Sg) : jB (fun l vs h => bA (kF env aVX bC2) (kG env Try.f48.results.toList) (collect B48 A48 []) l S vs h) (T48 S) := by
 unfold T48
 exact dV (dY fun _ => kL fun _ => kL fun _ => jU fun _ => by kernel_rfl) <| Go.bK.jB.nil
theorem r48 : ∀ args h v h', F48 args h = some (v, h') → fB (C4) (.call 48 args.toArray h) (.ret v h') := by
 intro args h v h' e
 exact bI (C := C4) (fn := Try.f48) (body := B48) (np := 3) (A := A48) (T := T48) (kinds := [Kd.v, Kd.i .i64, Kd.i .i64]) (by kernel_rfl) (by kernel_rfl) (by kernel_rfl) (by kernel_rfl) (dI dM) (by kernel_rfl) (fun S => t48 S) e
noncomputable def a0K := jR 48 F48 aVX
noncomputable def C5 : dK := cfg a0K
theorem ok5 : C5.Ok := dG (C := C4) ok4 r48
noncomputable def B87 : Code := (Try.f87.body).getD .skip
noncomputable def A87 : G.fC (List KI) := (Gm 0 [.reg 0 .v, .reg 1 .v] Gz Gy)
noncomputable def aJ9 (h : Hp) (S : Nat → aD → Option Value) (r0 r1 : Value) : Option Value :=
 oV (Array.toList (Value.cells r0)) fun c0 =>
 BC c0 0 fun v1 =>
 aT 0 r1 fun v2 =>
 aM h v2 fun v3 =>
 bT (qR env .eql 9 (Operand.tmp 5) (Operand.tmp 7) v1 v3) fun v4 =>
 dS v4 fun b5 =>
 some (Value.bool b5)
noncomputable def T87 (h : Hp) (S : Nat → aD → Option Value) : Nat → aD → Option Value := dR 0 (wV fun r0 => wV fun r1 => wN (aJ9 h S r0 r1)) (kR)
noncomputable def F87 (args : List Value) (h : Hp) : Option Value := plainO (dU [Kd.v, Kd.v] args fun al => G.aI (T87 h) 1000000 0 al)
def bC3 : Nat := 2 + (9 - 2)
theorem t87 (h : Hp) (S : Nat → aD → Option Value) : gZ (fun l al => G.bA iF cB oC (o9 env pf1 bC3 h) (pY env Try.f87.results.toList) (G.collect B87 A87 []) l S al) (T87 h S) := by
 unfold T87
 exact dZ (mR fun _ => mR fun _ => oF (by kernel_rfl)) <| gZ.nil
theorem r87 : gB Try.prog 87 F87 := dD (C := C0) ok0 (pf := pf1) aTC (fn := Try.f87) (body := B87) (kinds := [Kd.v, Kd.v]) (A := A87) (T := T87) (by kernel_rfl) (by kernel_rfl) (by kernel_rfl) (by kernel_rfl) (fun h S => t87 h S)
noncomputable def pf2 : PF := FQ 87 F87 pf1
theorem aTD : eT Try.prog pf2 := iP r87 aTC
noncomputable def a0N := pE 87 F87 a0K
noncomputable def C6 : dK := cfg a0N
theorem ok6 : C6.Ok := fU (C := C5) ok5 r87
noncomputable def a0O : Code := (Try.f106.body).getD .skip
noncomputable def a0P : G.fC (List KI) := (Gm 0 [.reg 0 (.i .u8)] Gz Gy)
noncomputable def aCE (h : Hp) (S : Nat → aD → Option Value) (r0 : Int) : Option Value :=
 bS (mH r0 (Int.ofNat 97)) fun b0 =>
 dA b0
 (bS (mH (Int.ofNat 122) r0) fun b1 =>
 some (Value.bool b1))
 (some (Value.bool false))
noncomputable def aKA (h : Hp) (S : Nat → aD → Option Value) : Nat → aD → Option Value := dR 0 (wI fun r0 => wN (aCE h S r0)) (kR)
noncomputable def aGR (args : List Value) (h : Hp) : Option Value := plainO (dU [Kd.i .u8] args fun al => G.aI (aKA h) 1000000 0 al)
def a0Q : Nat := 1 + (9 - 1)
theorem t106 (h : Hp) (S : Nat → aD → Option Value) : gZ (fun l al => G.bA iF cB oC (o9 env pf2 a0Q h) (pY env Try.f106.results.toList) (G.collect a0O a0P []) l S al) (aKA h S) := by
 unfold aKA
 exact dZ (jX fun _ => oF (by kernel_rfl)) <| gZ.nil
theorem a0R : gB Try.prog 106 aGR := dD (C := C0) ok0 (pf := pf2) aTD (fn := Try.f106) (body := a0O) (kinds := [Kd.i .u8]) (A := a0P) (T := aKA) (by kernel_rfl) (by kernel_rfl) (by kernel_rfl) (by kernel_rfl) (fun h S => t106 h S)
noncomputable def pf3 : PF := FQ 106 aGR pf2
theorem aTE : eT Try.prog pf3 := iP a0R aTD
noncomputable def a0S := pE 106 aGR a0N
noncomputable def C7 : dK := cfg a0S
theorem ok7 : C7.Ok := fU (C := C6) ok6 a0R
noncomputable def a0T : Code := (Try.f107.body).getD .skip
noncomputable def a0U : G.fC (List KI) := (Gm 0 [.reg 0 (.i .u8)] Gz Gy)
noncomputable def aCF (h : Hp) (S : Nat → aD → Option Value) (r0 : Int) : Option Value :=
 bS (mH r0 (Int.ofNat 48)) fun b0 =>
 dA b0
 (bS (mH (Int.ofNat 57) r0) fun b1 =>
 some (Value.bool b1))
 (some (Value.bool false))
noncomputable def aKB (h : Hp) (S : Nat → aD → Option Value) : Nat → aD → Option Value := dR 0 (wI fun r0 => wN (aCF h S r0)) (kR)
noncomputable def aKC (args : List Value) (h : Hp) : Option Value := plainO (dU [Kd.i .u8] args fun al => G.aI (aKB h) 1000000 0 al)
def a0V : Nat := 1 + (9 - 1)
theorem t107 (h : Hp) (S : Nat → aD → Option Value) : gZ (fun l al => G.bA iF cB oC (o9 env pf3 a0V h) (pY env Try.f107.results.toList) (G.collect a0T a0U []) l S al) (aKB h S) := by
 unfold aKB
 exact dZ (jX fun _ => oF (by kernel_rfl)) <| gZ.nil
theorem a0W : gB Try.prog 107 aKC := dD (C := C0) ok0 (pf := pf3) aTE (fn := Try.f107) (body := a0T) (kinds := [Kd.i .u8]) (A := a0U) (T := aKB) (by kernel_rfl) (by kernel_rfl) (by kernel_rfl) (by kernel_rfl) (fun h S => t107 h S)
noncomputable def pf4 : PF := FQ 107 aKC pf3
theorem aTF : eT Try.prog pf4 := iP a0W aTE
noncomputable def aVY := pE 107 aKC a0S
noncomputable def C8 : dK := cfg aVY
theorem ok8 : C8.Ok := fU (C := C7) ok7 a0W
noncomputable def B85 : Code := (Try.f85.body).getD .skip
def A85 : fC := (Am 0 [(0, .v)] Ao (An (An Ao (An Az Ao)) (An (An Ao (An (Am 1 [(0, .v), (16, .i .i64), (17, .i .i64)] (An Ao (An Az (An (An (An Ao (An Ao (An Az Ao))) Ao) Ao))) Ao) Ao)) (Am 2 [] Ao Ao))))
noncomputable def aKD (S : Sg) (h : Hp) : aJ :=
 some ((Value.bool true), h)
noncomputable def ZA (S : Sg) (r0 : Value) (r16 XG : Int) (h : Hp) : aJ :=
 bZ (mH XG r16) fun b0 =>
 dA b0
 (bT (jW env 9 r0 (Value.int .i64 XG)) fun v1 =>
 aU .u8 v1 fun i2 =>
 aQ (bT (aGR [(Value.int .u8 i2)] h) fun v => some (v, h)) fun v3 h3 =>
 dS v3 fun b4 =>
 bS b4 fun b5 =>
 dA b5
 (bT (jW env 9 r0 (Value.int .i64 XG)) fun v6 =>
 aU .u8 v6 fun i7 =>
 aQ (bT (aKC [(Value.int .u8 i7)] h3) fun v => some (v, h3)) fun v8 h8 =>
 dS v8 fun b9 =>
 bS b9 fun b10 =>
 dA b10
 (bT (jW env 9 r0 (Value.int .i64 XG)) fun v11 =>
 aU .u8 v11 fun i12 =>
 bS (mY i12 (Int.ofNat 46)) fun b13 =>
 dA b13
 (some ((Value.bool false), h8))
 (wrap64 (Int.add XG (Int.ofNat 1)) fun i14 =>
 S 1 (AL.v r0 (AL.i r16 (AL.i i14 AL.n))) h8))
 (wrap64 (Int.add XG (Int.ofNat 1)) fun i15 =>
 S 1 (AL.v r0 (AL.i r16 (AL.i i15 AL.n))) h8))
 (wrap64 (Int.add XG (Int.ofNat 1)) fun i16 =>
 S 1 (AL.v r0 (AL.i r16 (AL.i i16 AL.n))) h3))
 (S 2 AL.n h)
noncomputable def aKE (S : Sg) (r0 : Value) (h : Hp) : aJ :=
 KX r0 fun i0 =>
 aQ (bF env h 22 1 (List.toArray [(0, (Value.int .i64 i0))])) fun v1 h1 =>
 aQ (bT (F82 [(Value.int .i64 (Int.ofNat 1)), (Value.int .i64 (Int.ofNat 16)), v1] h1) fun v => some (v, h1)) fun v2 h2 =>
 dS v2 fun b3 =>
 bS b3 fun b4 =>
 dA b4
 (some ((Value.bool false), h2))
 (bT (jW env 9 r0 (Value.int .i64 (Int.ofNat 0))) fun v5 =>
 aU .u8 v5 fun i6 =>
 aQ (bT (aGR [(Value.int .u8 i6)] h2) fun v => some (v, h2)) fun v7 h7 =>
 dS v7 fun b8 =>
 bS b8 fun b9 =>
 dA b9
 (some ((Value.bool false), h7))
 (KX r0 fun i10 =>
 S 1 (AL.v r0 (AL.i i10 (AL.i (Int.ofNat 0) AL.n))) h7))
noncomputable def T85 (S : Sg) : Sg := cZ 0 (uV fun r0 => uN (aKE S r0)) (cZ 1 (uV fun r0 => uI fun r16 => uI fun XG => uN (ZA S r0 r16 XG)) (cZ 2 (uN fun h => aKD S  h) (jT)))
noncomputable def F85 (args : List Value) (h : Hp) : aJ := bG [Kd.v] args fun al => aI T85 1000000 0 al h
def bC4 : Nat := 1 + (39 - 1)
theorem t85 (S : Sg) : jB (fun l vs h => bA (kF env aVY bC4) (kG env Try.f85.results.toList) (collect B85 A85 []) l S vs h) (T85 S) := by
 unfold T85
 exact dV (dY fun _ => jU fun _ => by kernel_rfl) <| dV (dY fun _ => kL fun _ => kL fun _ => jU fun _ => by kernel_rfl) <| dV (jU fun _ => by kernel_rfl) <| Go.bK.jB.nil
theorem r85 : ∀ args h v h', F85 args h = some (v, h') → fB (C8) (.call 85 args.toArray h) (.ret v h') := by
 intro args h v h' e
 exact bI (C := C8) (fn := Try.f85) (body := B85) (np := 1) (A := A85) (T := T85) (kinds := [Kd.v]) (by kernel_rfl) (by kernel_rfl) (by kernel_rfl) (by kernel_rfl) (dI dM) (by kernel_rfl) (fun S => t85 S) e
noncomputable def aKF := jR 85 F85 aVY
noncomputable def C9 : dK := cfg aKF
theorem ok9 : C9.Ok := dG (C := C8) ok8 r85
noncomputable def a0Y : Code := (Try.f108.body).getD .skip
def a0Z : fC := (Am 0 [(0, .v), (1, .v)] Ao (An (An Ao (An (Am 1 [(0, .v), (1, .v), (7, .i .i64), (8, .i .i64)] (An Ao (An Az (An (An (An Ao (An Ao (An Az Ao))) Ao) Ao))) Ao) Ao)) (Am 2 [] Ao Ao)))
noncomputable def aVZ (S : Sg) (h : Hp) : aJ :=
 some ((Value.int .i64 (Int.negSucc 0)), h)
noncomputable def PG (S : Sg) (r0 r1 : Value) (r7 r8 : Int) (h : Hp) : aJ :=
 bZ (mH r8 r7) fun b0 =>
 dA b0
 (eB 3 r0 r8 fun v1 =>
 bC 3 h v1 fun v2 =>
 aQ (qQ aKF r1 [v2] h) fun v3 h3 =>
 dS v3 fun b4 =>
 dA b4
 (some ((Value.int .i64 r8), h3))
 (wrap64 (Int.add r8 (Int.ofNat 1)) fun i5 =>
 S 1 (AL.v r0 (AL.v r1 (AL.i r7 (AL.i i5 AL.n)))) h3))
 (S 2 AL.n h)
noncomputable def aCG (S : Sg) (r0 r1 : Value) (h : Hp) : aJ :=
 dB r0 fun i0 =>
 S 1 (AL.v r0 (AL.v r1 (AL.i i0 (AL.i (Int.ofNat 0) AL.n)))) h
noncomputable def ZB (S : Sg) : Sg := cZ 0 (uV fun r0 => uV fun r1 => uN (aCG S r0 r1)) (cZ 1 (uV fun r0 => uV fun r1 => uI fun r7 => uI fun r8 => uN (PG S r0 r1 r7 r8)) (cZ 2 (uN fun h => aVZ S  h) (jT)))
noncomputable def aRL (args : List Value) (h : Hp) : aJ := bG [Kd.v, Kd.v] args fun al => aI ZB 1000000 0 al h
def a00 : Nat := 2 + (19 - 2)
theorem t108 (S : Sg) : jB (fun l vs h => bA (kF env aKF a00) (kG env Try.f108.results.toList) (collect a0Y a0Z []) l S vs h) (ZB S) := by
 unfold ZB
 exact dV (dY fun _ => dY fun _ => jU fun _ => by kernel_rfl) <| dV (dY fun _ => dY fun _ => kL fun _ => kL fun _ => jU fun _ => by kernel_rfl) <| dV (jU fun _ => by kernel_rfl) <| Go.bK.jB.nil
theorem bC5 : ∀ args h v h', aRL args h = some (v, h') → fB (C9) (.call 108 args.toArray h) (.ret v h') := by
 intro args h v h' e
 exact bI (C := C9) (fn := Try.f108) (body := a0Y) (np := 2) (A := a0Z) (T := ZB) (kinds := [Kd.v, Kd.v]) (by kernel_rfl) (by kernel_rfl) (by kernel_rfl) (by kernel_rfl) (dI dM) (by kernel_rfl) (fun S => t108 S) e
noncomputable def aKG := jR 108 aRL aKF
noncomputable def C10 : dK := cfg aKG
theorem bC6 : C10.Ok := dG (C := C9) ok9 bC5
noncomputable def B86 : Code := (Try.f86.body).getD .skip
def A86 : fC := (Am 0 [(0, .v), (1, .v)] Ao Az)
noncomputable def aKH (S : Sg) (r0 r1 : Value) (h : Hp) : aJ :=
 aQ (dJ aRL [r0, r1] h) fun v0 h0 =>
 aU .i64 v0 fun i1 =>
 bS (mH i1 (Int.ofNat 0)) fun b2 =>
 some ((Value.bool b2), h0)
noncomputable def T86 (S : Sg) : Sg := cZ 0 (uV fun r0 => uV fun r1 => uN (aKH S r0 r1)) (jT)
noncomputable def F86 (args : List Value) (h : Hp) : aJ := bG [Kd.v, Kd.v] args fun al => aI T86 1000000 0 al h
def bC7 : Nat := 2 + (9 - 2)
theorem t86 (S : Sg) : jB (fun l vs h => bA (kF env aKG bC7) (kG env Try.f86.results.toList) (collect B86 A86 []) l S vs h) (T86 S) := by
 unfold T86
 exact dV (dY fun _ => dY fun _ => jU fun _ => by kernel_rfl) <| Go.bK.jB.nil
theorem r86 : ∀ args h v h', F86 args h = some (v, h') → fB (C10) (.call 86 args.toArray h) (.ret v h') := by
 intro args h v h' e
 exact bI (C := C10) (fn := Try.f86) (body := B86) (np := 2) (A := A86) (T := T86) (kinds := [Kd.v, Kd.v]) (by kernel_rfl) (by kernel_rfl) (by kernel_rfl) (by kernel_rfl) (dI dM) (by kernel_rfl) (fun S => t86 S) e
noncomputable def aKI := jR 86 F86 aKG
noncomputable def C11 : dK := cfg aKI
theorem bC8 : C11.Ok := dG (C := C10) bC6 r86
noncomputable def B84 : Code := (Try.f84.body).getD .skip
def A84 : fC := (Am 0 [(0, .v), (1, .v), (2, .v), (3, .v)] Ao (An (An (An Ao (An Az (An Ao (An Az (An Ao (An Az (An Ao (An Az (An (An Ao Az) (An Az Ao)))))))))) Ao) Az))
noncomputable def aKJ (S : Sg) (r0 r1 : Value) (r2 r3 : Value) (h : Hp) : aJ :=
 bO h 59 (Array.toList (Value.cells r1)) fun a0 h0 =>
 aT 0 a0 fun v1 =>
 aM h0 v1 fun v2 =>
 aQ (dJ F85 [v2] h0) fun v3 h3 =>
 dS v3 fun b4 =>
 bS b4 fun b5 =>
 dA b5
 (some ((Value.int .i64 (Int.ofNat 6)), h3))
 (aQ (dJ F86 [r0, (Value.func (.func 87) (List.toArray []) (List.toArray [a0]))] h3) fun v6 h6 =>
 dS v6 fun b7 =>
 dA b7
 (some ((Value.int .i64 (Int.ofNat 5)), h6))
 (aT 1 a0 fun v8 =>
 aM h6 v8 fun v9 =>
 dB v9 fun i10 =>
 aT 0 r2 fun v11 =>
 aM h6 v11 fun v12 =>
 dB v12 fun i13 =>
 bS (mY i10 i13) fun b14 =>
 dA b14
 (some ((Value.int .i64 (Int.ofNat 3)), h6))
 (aM h6 r3 fun v15 =>
 aU .i64 v15 fun i16 =>
 aT 1 r2 fun v17 =>
 aM h6 v17 fun v18 =>
 dB v18 fun i19 =>
 wrap64 (Int.sub i19 (Int.ofNat 1)) fun i20 =>
 aT 1 a0 fun v21 =>
 aM h6 v21 fun v22 =>
 eB 1 v22 (Int.ofNat 0) fun v23 =>
 aM h6 v23 fun v24 =>
 aU .i64 v24 fun i25 =>
 aQ (bF env h6 22 1 (List.toArray [(0, (Value.int .i64 i25))])) fun v26 h26 =>
 aQ (bT (F82 [(Value.int .i64 i16), (Value.int .i64 i20), v26] h26) fun v => some (v, h26)) fun v27 h27 =>
 dS v27 fun b28 =>
 bS b28 fun b29 =>
 dA b29
 (some ((Value.int .i64 (Int.ofNat 4)), h27))
 (aM h27 r3 fun v30 =>
 aU .i64 v30 fun i31 =>
 aT 1 a0 fun v32 =>
 aM h27 v32 fun v33 =>
 bT (fM env h27 22 v33 (some (Value.int .i64 (Int.ofNat 1))) none none) fun v34 =>
 aQ (bT (F82 [(Value.int .i64 i31), (Value.int .i64 (Int.ofNat 5)), v34] h27) fun v => some (v, h27)) fun v35 h35 =>
 dS v35 fun b36 =>
 bS b36 fun b37 =>
 dA b37
 (dA b37
 (some ((Value.int .i64 (Int.ofNat 7)), h35))
 (some ((Value.int .i64 (Int.ofNat 0)), h35)))
 (aT 2 a0 fun v38 =>
 aM h35 v38 fun v39 =>
 aU .i64 v39 fun i40 =>
 aQ (bF env h35 22 1 (List.toArray [(0, (Value.int .i64 i40))])) fun v41 h41 =>
 aQ (bT (F82 [(Value.int .i64 (Int.ofNat 0)), (Value.int .i64 (Int.ofNat 50)), v41] h41) fun v => some (v, h41)) fun v42 h42 =>
 dS v42 fun b43 =>
 bS b43 fun b44 =>
 dA b44
 (some ((Value.int .i64 (Int.ofNat 7)), h42))
 (some ((Value.int .i64 (Int.ofNat 0)), h42)))))))
noncomputable def T84 (S : Sg) : Sg := cZ 0 (uV fun r0 => uV fun r1 => uV fun r2 => uV fun r3 => uN (aKJ S r0 r1 r2 r3)) (jT)
noncomputable def F84 (args : List Value) (h : Hp) : aJ := bG [Kd.v, Kd.v, Kd.v, Kd.v] args fun al => aI T84 1000000 0 al h
def bDA : Nat := 4 + (49 - 4)
theorem t84 (S : Sg) : jB (fun l vs h => bA (kF env aKI bDA) (kG env Try.f84.results.toList) (collect B84 A84 []) l S vs h) (T84 S) := by
 unfold T84
 exact dV (dY fun _ => dY fun _ => dY fun _ => dY fun _ => jU fun _ => by kernel_rfl) <| Go.bK.jB.nil
theorem r84 : ∀ args h v h', F84 args h = some (v, h') → fB (C11) (.call 84 args.toArray h) (.ret v h') := by
 intro args h v h' e
 exact bI (C := C11) (fn := Try.f84) (body := B84) (np := 4) (A := A84) (T := T84) (kinds := [Kd.v, Kd.v, Kd.v, Kd.v]) (by kernel_rfl) (by kernel_rfl) (by kernel_rfl) (by kernel_rfl) (dI dM) (by kernel_rfl) (fun S => t84 S) e
noncomputable def PI := jR 84 F84 aKI
noncomputable def C12 : dK := cfg PI
theorem bDB : C12.Ok := dG (C := C11) bC8 r84
noncomputable def a03 : Code := (Try.f105.body).getD .skip
def a04 : fC := (Am 0 [(0, .v), (1, .v)] Ao (An (An Ao (An (Am 1 [(0, .v), (1, .v), (9, .v), (10, .i .i64), (11, .i .i64)] (An Ao (An Az (An (An (An Ao (An Ao (An Ao (An Az Ao)))) Ao) Ao))) Ao) Ao)) (Am 2 [] Ao Ao)))
noncomputable def aV1 (S : Sg) (h : Hp) : aJ :=
 some (Value.tuple (List.toArray [(Value.int .i64 (Int.ofNat 0)), (Value.int .i64 (Int.ofNat 0))]), h)
noncomputable def PK (S : Sg) (r0 r1 r9 : Value) (oG qN : Int) (h : Hp) : aJ :=
 bZ (mH qN oG) fun b0 =>
 dA b0
 (eB 3 r9 qN fun v1 =>
 bC 3 h v1 fun v2 =>
 bO h 59 [(Value.string (ByteArray.mk #[])), (Value.slice none 0 0), (Value.int .i64 (Int.ofNat 0))] fun a3 h3 =>
 fA 3 h3 a3 v2 fun h4 =>
 bT (fM env h4 23 r0 none (some (Value.int .i64 qN)) none) fun v5 =>
 bC 3 h4 a3 fun v6 =>
 aQ (qQ PI r1 [v5, v6] h4) fun v7 h7 =>
 aU .i64 v7 fun i8 =>
 bS (mY i8 (Int.ofNat 0)) fun b9 =>
 dA b9
 (some (Value.tuple (List.toArray [(Value.int .i64 qN), (Value.int .i64 i8)]), h7))
 (wrap64 (Int.add qN (Int.ofNat 1)) fun i10 =>
 S 1 (AL.v r0 (AL.v r1 (AL.v r9 (AL.i oG (AL.i i10 AL.n))))) h7))
 (S 2 AL.n h)
noncomputable def aCH (S : Sg) (r0 r1 : Value) (h : Hp) : aJ :=
 dB r0 fun i0 =>
 S 1 (AL.v r0 (AL.v r1 (AL.v r0 (AL.i i0 (AL.i (Int.ofNat 0) AL.n))))) h
noncomputable def ZC (S : Sg) : Sg := cZ 0 (uV fun r0 => uV fun r1 => uN (aCH S r0 r1)) (cZ 1 (uV fun r0 => uV fun r1 => uV fun r9 => uI fun oG => uI fun qN => uN (PK S r0 r1 r9 oG qN)) (cZ 2 (uN fun h => aV1 S  h) (jT)))
noncomputable def aRM (args : List Value) (h : Hp) : aJ := bG [Kd.v, Kd.v] args fun al => aI ZC 1000000 0 al h
def a05 : Nat := 2 + (27 - 2)
theorem t105 (S : Sg) : jB (fun l vs h => bA (kF env PI a05) (kG env Try.f105.results.toList) (collect a03 a04 []) l S vs h) (ZC S) := by
 unfold ZC
 exact dV (dY fun _ => dY fun _ => jU fun _ => by kernel_rfl) <| dV (dY fun _ => dY fun _ => dY fun _ => kL fun _ => kL fun _ => jU fun _ => by kernel_rfl) <| dV (jU fun _ => by kernel_rfl) <| Go.bK.jB.nil
theorem bDC : ∀ args h v h', aRM args h = some (v, h') → fB (C12) (.call 105 args.toArray h) (.ret v h') := by
 intro args h v h' e
 exact bI (C := C12) (fn := Try.f105) (body := a03) (np := 2) (A := a04) (T := ZC) (kinds := [Kd.v, Kd.v]) (by kernel_rfl) (by kernel_rfl) (by kernel_rfl) (by kernel_rfl) (dI dM) (by kernel_rfl) (fun S => t105 S) e
noncomputable def aKK := jR 105 aRM PI
noncomputable def C13 : dK := cfg aKK
theorem bDD : C13.Ok := dG (C := C12) bDB bDC
noncomputable def B83 : Code := (Try.f83.body).getD .skip
def A83 : fC := (Am 0 [(0, .v), (1, .i .i64), (2, .v)] Ao (An (An Ao (An Az Ao)) Az))
noncomputable def aKL (S : Sg) (r0 : Value) (r1 : Int) (r2 : Value) (h : Hp) : aJ :=
 dB r0 fun i0 =>
 bZ (mH r1 i0) fun b1 =>
 dA b1
 (some (Value.tuple (List.toArray [(Value.int .i64 (Int.ofNat 0)), (Value.int .i64 (Int.ofNat 3))]), h))
 (aQ (dJ aRM [r0, r2] h) fun v2 h2 =>
 gY v2 0 fun v3 =>
 aU .i64 v3 fun i4 =>
 gY v2 1 fun v5 =>
 aU .i64 v5 fun i6 =>
 some (Value.tuple (List.toArray [(Value.int .i64 i4), (Value.int .i64 i6)]), h2))
noncomputable def T83 (S : Sg) : Sg := cZ 0 (uV fun r0 => uI fun r1 => uV fun r2 => uN (aKL S r0 r1 r2)) (jT)
noncomputable def F83 (args : List Value) (h : Hp) : aJ := bG [Kd.v, Kd.i .i64, Kd.v] args fun al => aI T83 1000000 0 al h
def bDE : Nat := 3 + (17 - 3)
theorem t83 (S : Sg) : jB (fun l vs h => bA (kF env aKK bDE) (kG env Try.f83.results.toList) (collect B83 A83 []) l S vs h) (T83 S) := by
 unfold T83
 exact dV (dY fun _ => kL fun _ => dY fun _ => jU fun _ => by kernel_rfl) <| Go.bK.jB.nil
theorem r83 : ∀ args h v h', F83 args h = some (v, h') → fB (C13) (.call 83 args.toArray h) (.ret v h') := by
 intro args h v h' e
 exact bI (C := C13) (fn := Try.f83) (body := B83) (np := 3) (A := A83) (T := T83) (kinds := [Kd.v, Kd.i .i64, Kd.v]) (by kernel_rfl) (by kernel_rfl) (by kernel_rfl) (by kernel_rfl) (dI dM) (by kernel_rfl) (fun S => t83 S) e
noncomputable def aKM := jR 83 F83 aKK
noncomputable def C14 : dK := cfg aKM
theorem bDF : C14.Ok := dG (C := C13) bDD r83
noncomputable def B49 : Code := (Try.f49.body).getD .skip
def A49 : fC := (Am 0 [(0, .v), (1, .v), (2, .i .i64), (3, .i .i64)] Ao Az)
noncomputable def aKN (S : Sg) (r0 r1 : Value) (r2 r3 : Int) (h : Hp) : aJ :=
 bO h 25 (Array.toList (Value.cells r0)) fun a0 h0 =>
 bO h0 3 [(Value.int .i64 r3)] fun a1 h1 =>
 aQ (dJ F83 [r1, (Value.int .i64 r2), (Value.func (.func 84) (List.toArray []) (List.toArray [a0, a1]))] h1) fun v2 h2 =>
 gY v2 0 fun v3 =>
 aU .i64 v3 fun i4 =>
 gY v2 1 fun v5 =>
 aU .i64 v5 fun i6 =>
 some (Value.tuple (List.toArray [(Value.int .i64 i4), (Value.int .i64 i6)]), h2)
noncomputable def T49 (S : Sg) : Sg := cZ 0 (uV fun r0 => uV fun r1 => uI fun r2 => uI fun r3 => uN (aKN S r0 r1 r2 r3)) (jT)
noncomputable def F49 (args : List Value) (h : Hp) : aJ := bG [Kd.v, Kd.v, Kd.i .i64, Kd.i .i64] args fun al => aI T49 1000000 0 al h
def bDG : Nat := 4 + (16 - 4)
theorem t49 (S : Sg) : jB (fun l vs h => bA (kF env aKM bDG) (kG env Try.f49.results.toList) (collect B49 A49 []) l S vs h) (T49 S) := by
 unfold T49
 exact dV (dY fun _ => dY fun _ => kL fun _ => kL fun _ => jU fun _ => by kernel_rfl) <| Go.bK.jB.nil
theorem r49 : ∀ args h v h', F49 args h = some (v, h') → fB (C14) (.call 49 args.toArray h) (.ret v h') := by
 intro args h v h' e
 exact bI (C := C14) (fn := Try.f49) (body := B49) (np := 4) (A := A49) (T := T49) (kinds := [Kd.v, Kd.v, Kd.i .i64, Kd.i .i64]) (by kernel_rfl) (by kernel_rfl) (by kernel_rfl) (by kernel_rfl) (dI dM) (by kernel_rfl) (fun S => t49 S) e
noncomputable def aKO := jR 49 F49 aKM
noncomputable def C15 : dK := cfg aKO
theorem bDH : C15.Ok := dG (C := C14) bDF r49
noncomputable def B16 : Code := (Try.f16.body).getD .skip
def A16 : fC := (Am 0 [(0, .v)] Ao (An (An Ao (An Ao (An Az Ao))) (An (An Ao (An Ao (An Az Ao))) (An (An Ao (An Ao (An Az Ao))) (An (An Ao (An Ao (An Az Ao))) Az)))))
noncomputable def aKP (S : Sg) (r0 : Value) (h : Hp) : aJ :=
 bO h 25 (Array.toList (Value.cells r0)) fun a0 h0 =>
 aT 0 a0 fun v1 =>
 aM h0 v1 fun v2 =>
 aQ (dJ F48 [v2, (Value.int .i64 (Int.ofNat 4)), (Value.int .i64 (Int.ofNat 100))] h0) fun v3 h3 =>
 gY v3 0 fun v4 =>
 aU .i64 v4 fun i5 =>
 gY v3 1 fun v6 =>
 aU .i64 v6 fun i7 =>
 bS (mY i7 (Int.ofNat 0)) fun b8 =>
 dA b8
 (some (Value.tuple (List.toArray [(Value.int .i64 (Int.ofNat 1)), (Value.int .i64 i5), (Value.int .i64 i7)]), h3))
 (aT 1 a0 fun v9 =>
 aM h3 v9 fun v10 =>
 aQ (dJ F48 [v10, (Value.int .i64 (Int.ofNat 4)), (Value.int .i64 (Int.ofNat 50))] h3) fun v11 h11 =>
 gY v11 0 fun v12 =>
 aU .i64 v12 fun i13 =>
 gY v11 1 fun v14 =>
 aU .i64 v14 fun i15 =>
 bS (mY i15 (Int.ofNat 0)) fun b16 =>
 dA b16
 (some (Value.tuple (List.toArray [(Value.int .i64 (Int.ofNat 2)), (Value.int .i64 i13), (Value.int .i64 i15)]), h11))
 (bC 4 h11 a0 fun v17 =>
 aT 2 a0 fun v18 =>
 aM h11 v18 fun v19 =>
 aQ (dJ F49 [v17, v19, (Value.int .i64 (Int.ofNat 6)), (Value.int .i64 (Int.ofNat 0))] h11) fun v20 h20 =>
 gY v20 0 fun v21 =>
 aU .i64 v21 fun i22 =>
 gY v20 1 fun v23 =>
 aU .i64 v23 fun i24 =>
 bS (mY i24 (Int.ofNat 0)) fun b25 =>
 dA b25
 (some (Value.tuple (List.toArray [(Value.int .i64 (Int.ofNat 3)), (Value.int .i64 i22), (Value.int .i64 i24)]), h20))
 (bC 4 h20 a0 fun v26 =>
 aT 3 a0 fun v27 =>
 aM h20 v27 fun v28 =>
 aQ (dJ F49 [v26, v28, (Value.int .i64 (Int.ofNat 5)), (Value.int .i64 (Int.negSucc 0))] h20) fun v29 h29 =>
 gY v29 0 fun v30 =>
 aU .i64 v30 fun i31 =>
 gY v29 1 fun v32 =>
 aU .i64 v32 fun i33 =>
 bS (mY i33 (Int.ofNat 0)) fun b34 =>
 dA b34
 (some (Value.tuple (List.toArray [(Value.int .i64 (Int.ofNat 4)), (Value.int .i64 i31), (Value.int .i64 i33)]), h29))
 (some (Value.tuple (List.toArray [(Value.int .i64 (Int.ofNat 0)), (Value.int .i64 (Int.ofNat 0)), (Value.int .i64 (Int.ofNat 0))]), h29)))))
noncomputable def T16 (S : Sg) : Sg := cZ 0 (uV fun r0 => uN (aKP S r0)) (jT)
noncomputable def F16 (args : List Value) (h : Hp) : aJ := bG [Kd.v] args fun al => aI T16 1000000 0 al h
def bDK : Nat := 1 + (55 - 1)
theorem t16 (S : Sg) : jB (fun l vs h => bA (kF env aKO bDK) (kG env Try.f16.results.toList) (collect B16 A16 []) l S vs h) (T16 S) := by
 unfold T16
 exact dV (dY fun _ => jU fun _ => by kernel_rfl) <| Go.bK.jB.nil
theorem r16 : ∀ args h v h', F16 args h = some (v, h') → fB (C15) (.call 16 args.toArray h) (.ret v h') := by
 intro args h v h' e
 exact bI (C := C15) (fn := Try.f16) (body := B16) (np := 1) (A := A16) (T := T16) (kinds := [Kd.v]) (by kernel_rfl) (by kernel_rfl) (by kernel_rfl) (by kernel_rfl) (dI dM) (by kernel_rfl) (fun S => t16 S) e
noncomputable def aKQ := jR 16 F16 aKO
noncomputable def C16 : dK := cfg aKQ
theorem ok16 : C16.Ok := dG (C := C15) bDH r16
noncomputable def B93 : Code := (Try.f93.body).getD .skip
def A93 : fC := (Am 0 [(0, .v), (1, .v)] Ao (An Ao (An (An Ao (An (Am 1 [(0, .v), (5, .v), (8, .v), (9, .i .i64), (10, .i .i64)] (An Ao (An Az (An (An (An Ao (An Ao Az)) Ao) Ao))) Ao) Ao)) (Am 2 [(5, .v)] Ao Ao))))
noncomputable def a1C (S : Sg) (r5 : Value) (h : Hp) : aJ :=
 some (r5, h)
noncomputable def aEE (S : Sg) (r0 r5 r8 : Value) (r9 oG : Int) (h : Hp) : aJ :=
 bZ (mH oG r9) fun b0 =>
 dA b0
 (eB 1 r8 oG fun v1 =>
 aM h v1 fun v2 =>
 aU .i64 v2 fun i3 =>
 bS (mY i3 (Int.negSucc 0)) fun b4 =>
 dA b4
 (eB 1 r0 oG fun v5 =>
 aM h v5 fun v6 =>
 aU .i64 v6 fun i7 =>
 bS (mY i3 i7) fun b8 =>
 dA b8
 (aQ (bF env h 22 1 (List.toArray [(0, (Value.int .i64 oG))])) fun v9 h9 =>
 aQ (dW env h9 #[22, 22] (List.toArray [r5, v9])) fun v10 h10 =>
 wrap64 (Int.add oG (Int.ofNat 1)) fun i11 =>
 S 1 (AL.v r0 (AL.v v10 (AL.v r8 (AL.i r9 (AL.i i11 AL.n))))) h10)
 (wrap64 (Int.add oG (Int.ofNat 1)) fun i12 =>
 S 1 (AL.v r0 (AL.v r5 (AL.v r8 (AL.i r9 (AL.i i12 AL.n))))) h))
 (wrap64 (Int.add oG (Int.ofNat 1)) fun i13 =>
 S 1 (AL.v r0 (AL.v r5 (AL.v r8 (AL.i r9 (AL.i i13 AL.n))))) h))
 (S 2 (AL.v r5 AL.n) h)
noncomputable def aKR (S : Sg) (r0 r1 : Value) (h : Hp) : aJ :=
 dB r1 fun i0 =>
 S 1 (AL.v r0 (AL.v (Value.slice none 0 0) (AL.v r1 (AL.i i0 (AL.i (Int.ofNat 0) AL.n))))) h
noncomputable def T93 (S : Sg) : Sg := cZ 0 (uV fun r0 => uV fun r1 => uN (aKR S r0 r1)) (cZ 1 (uV fun r0 => uV fun r5 => uV fun r8 => uI fun r9 => uI fun oG => uN (aEE S r0 r5 r8 r9 oG)) (cZ 2 (uV fun r5 => uN (a1C S r5)) (jT)))
noncomputable def F93 (args : List Value) (h : Hp) : aJ := bG [Kd.v, Kd.v] args fun al => aI T93 1000000 0 al h
def bDL : Nat := 2 + (31 - 2)
theorem t93 (S : Sg) : jB (fun l vs h => bA (kF env aKQ bDL) (kG env Try.f93.results.toList) (collect B93 A93 []) l S vs h) (T93 S) := by
 unfold T93
 exact dV (dY fun _ => dY fun _ => jU fun _ => by kernel_rfl) <| dV (dY fun _ => dY fun _ => dY fun _ => kL fun _ => kL fun _ => jU fun _ => by kernel_rfl) <| dV (dY fun _ => jU fun _ => by kernel_rfl) <| Go.bK.jB.nil
theorem r93 : ∀ args h v h', F93 args h = some (v, h') → fB (C16) (.call 93 args.toArray h) (.ret v h') := by
 intro args h v h' e
 exact bI (C := C16) (fn := Try.f93) (body := B93) (np := 2) (A := A93) (T := T93) (kinds := [Kd.v, Kd.v]) (by kernel_rfl) (by kernel_rfl) (by kernel_rfl) (by kernel_rfl) (dI dM) (by kernel_rfl) (fun S => t93 S) e
noncomputable def aKS := jR 93 F93 aKQ
noncomputable def C17 : dK := cfg aKS
theorem bDM : C17.Ok := dG (C := C16) ok16 r93
noncomputable def B63 : Code := (Try.f63.body).getD .skip
def A63 : fC := (Am 0 [(0, .v)] Ao (An (An Ao (An Ao (An Az Ao))) (An Ao (An (An Ao (An (Am 1 [(1, .v), (2, .v), (7, .v), (24, .v), (25, .i .i64), (26, .i .i64)] (An Ao (An Az (An (An (An Ao (An Ao (An (Am 2 [(1, .v), (2, .v), (7, .v), (8, .i .i64), (9, .v), (24, .v), (25, .i .i64), (26, .i .i64), (32, .v), (33, .i .i64), (34, .i .i64)] (An Ao (An Az (An (An Az Ao) Ao))) Ao) Ao))) Ao) (Am 3 [(1, .v), (2, .v), (7, .v), (24, .v), (25, .i .i64), (26, .i .i64)] Ao Ao)))) Ao) Ao)) (Am 4 [(1, .v), (2, .v), (7, .v)] Ao Ao)))))
noncomputable def aKT (S : Sg) (r1 r2 r7 : Value) (h : Hp) : aJ :=
 bC 4 h r1 fun v0 =>
 bT (jK env 71 (List.toArray [(0, v0), (1, r7)])) fun v1 =>
 fA 5 h r2 v1 fun h2 =>
 bC 5 h2 r2 fun v3 => some (Value.tuple (List.toArray [v3, (Value.int .i64 (Int.ofNat 0))]), h2)
noncomputable def aKU (S : Sg) (r1 r2 : Value) (r7 r24 : Value) (r25 ZE : Int) (h : Hp) : aJ :=
 wrap64 (Int.add ZE (Int.ofNat 1)) fun i0 =>
 S 1 (AL.v r1 (AL.v r2 (AL.v r7 (AL.v r24 (AL.i r25 (AL.i i0 AL.n)))))) h
noncomputable def aEF (S : Sg) (r1 r2 r7 : Value) (r8 : Int) (r9 r24 : Value) (r25 ZE : Int) (r32 : Value) (r33 r34 : Int) (h : Hp) : aJ :=
 bZ (mH r34 r33) fun b0 =>
 dA b0
 (eB 3 r32 r34 fun v1 =>
 bC 3 h v1 fun v2 =>
 bO h 59 [(Value.string (ByteArray.mk #[])), (Value.slice none 0 0), (Value.int .i64 (Int.ofNat 0))] fun a3 h3 =>
 fA 3 h3 a3 v2 fun h4 =>
 bT (jK env 76 (List.toArray [(0, (Value.int .i64 r8)), (1, (Value.int .i64 r34))])) fun v5 =>
 aT 1 r9 fun v6 =>
 aM h4 v6 fun v7 =>
 aT 1 a3 fun v8 =>
 aM h4 v8 fun v9 =>
 aQ (dJ F93 [v7, v9] h4) fun v10 h10 =>
 bT (mX env h10 69 r7 v5 v10) fun h11 =>
 wrap64 (Int.add r34 (Int.ofNat 1)) fun i12 =>
 S 2 (AL.v r1 (AL.v r2 (AL.v r7 (AL.i r8 (AL.v r9 (AL.v r24 (AL.i r25 (AL.i ZE (AL.v r32 (AL.i r33 (AL.i i12 AL.n))))))))))) h11)
 (S 3 (AL.v r1 (AL.v r2 (AL.v r7 (AL.v r24 (AL.i r25 (AL.i ZE AL.n)))))) h)
noncomputable def aEG (S : Sg) (r1 r2 : Value) (r7 r24 : Value) (r25 ZE : Int) (h : Hp) : aJ :=
 bZ (mH ZE r25) fun b0 =>
 dA b0
 (eB 3 r24 ZE fun v1 =>
 bC 3 h v1 fun v2 =>
 bO h 59 [(Value.string (ByteArray.mk #[])), (Value.slice none 0 0), (Value.int .i64 (Int.ofNat 0))] fun a3 h3 =>
 fA 3 h3 a3 v2 fun h4 =>
 aT 3 r1 fun v5 =>
 aM h4 v5 fun v6 =>
 dB v6 fun i7 =>
 S 2 (AL.v r1 (AL.v r2 (AL.v r7 (AL.i ZE (AL.v a3 (AL.v r24 (AL.i r25 (AL.i ZE (AL.v v6 (AL.i i7 (AL.i (Int.ofNat 0) AL.n))))))))))) h4)
 (S 4 (AL.v r1 (AL.v r2 (AL.v r7 AL.n))) h)
noncomputable def aKV (S : Sg) (r0 : Value) (h : Hp) : aJ :=
 bO h 25 (Array.toList (Value.cells r0)) fun a0 h0 =>
 bO h0 71 [(Value.slice none 0 0), (Value.slice none 0 0), (Value.slice none 0 0), (Value.slice none 0 0), (Value.map none)] fun a1 h1 =>
 bC 4 h1 a0 fun v2 =>
 aQ (dJ F16 [v2] h1) fun v3 h3 =>
 gY v3 0 fun v4 =>
 aU .i64 v4 fun i5 =>
 gY v3 1 fun v6 =>
 aU .i64 v6 fun i7 =>
 gY v3 2 fun v8 =>
 aU .i64 v8 fun i9 =>
 bS (mY i9 (Int.ofNat 0)) fun b10 =>
 dA b10
 (bT (jK env 71 (List.toArray [])) fun v11 =>
 fA 5 h3 a1 v11 fun h12 =>
 bC 5 h12 a1 fun v13 => some (Value.tuple (List.toArray [v13, (Value.int .i64 i9)]), h12))
 (let a14 := Value.map (some (Hp.next h3)); let h14 := Hp.add h3 (.map []);
 aT 2 a0 fun v15 =>
 aM h14 v15 fun v16 =>
 dB v16 fun i17 =>
 S 1 (AL.v a0 (AL.v a1 (AL.v a14 (AL.v v16 (AL.i i17 (AL.i (Int.ofNat 0) AL.n)))))) h14)
noncomputable def T63 (S : Sg) : Sg := cZ 0 (uV fun r0 => uN (aKV S r0)) (cZ 1 (uV fun r1 => uV fun r2 => uV fun r7 => uV fun r24 => uI fun r25 => uI fun ZE => uN (aEG S r1 r2 r7 r24 r25 ZE)) (cZ 2 (uV fun r1 => uV fun r2 => uV fun r7 => uI fun r8 => uV fun r9 => uV fun r24 => uI fun r25 => uI fun ZE => uV fun r32 => uI fun r33 => uI fun r34 => uN (aEF S r1 r2 r7 r8 r9 r24 r25 ZE r32 r33 r34)) (cZ 3 (uV fun r1 => uV fun r2 => uV fun r7 => uV fun r24 => uI fun r25 => uI fun ZE => uN (aKU S r1 r2 r7 r24 r25 ZE)) (cZ 4 (uV fun r1 => uV fun r2 => uV fun r7 => uN (aKT S r1 r2 r7)) (jT)))))
noncomputable def F63 (args : List Value) (h : Hp) : aJ := bG [Kd.v] args fun al => aI T63 1000000 0 al h
def bDO : Nat := 1 + (53 - 1)
theorem t63 (S : Sg) : jB (fun l vs h => bA (kF env aKS bDO) (kG env Try.f63.results.toList) (collect B63 A63 []) l S vs h) (T63 S) := by
 unfold T63
 exact dV (dY fun _ => jU fun _ => by kernel_rfl) <| dV (dY fun _ => dY fun _ => dY fun _ => dY fun _ => kL fun _ => kL fun _ => jU fun _ => by kernel_rfl) <| dV (dY fun _ => dY fun _ => dY fun _ => kL fun _ => dY fun _ => dY fun _ => kL fun _ => kL fun _ => dY fun _ => kL fun _ => kL fun _ => jU fun _ => by kernel_rfl) <| dV (dY fun _ => dY fun _ => dY fun _ => dY fun _ => kL fun _ => kL fun _ => jU fun _ => by kernel_rfl) <| dV (dY fun _ => dY fun _ => dY fun _ => jU fun _ => by kernel_rfl) <| Go.bK.jB.nil
theorem r63 : ∀ args h v h', F63 args h = some (v, h') → fB (C17) (.call 63 args.toArray h) (.ret v h') := by
 intro args h v h' e
 exact bI (C := C17) (fn := Try.f63) (body := B63) (np := 1) (A := A63) (T := T63) (kinds := [Kd.v]) (by kernel_rfl) (by kernel_rfl) (by kernel_rfl) (by kernel_rfl) (dI dM) (by kernel_rfl) (fun S => t63 S) e
noncomputable def aTG := jR 63 F63 aKS
noncomputable def C18 : dK := cfg aTG
theorem bDP : C18.Ok := dG (C := C17) bDM r63
noncomputable def B53 : Code := (Try.f53.body).getD .skip
noncomputable def A53 : G.fC (List KI) := (Gm 0 [.reg 0 (.i .i64), .reg 1 .v] Gz Gy)
noncomputable def aKX (h : Hp) (S : Nat → aD → Option Value) (r0 : Int) (r1 : Value) : Option Value :=
 wrap64 (Int.sub r0 (Int.ofNat 1)) fun i0 =>
 bT (F82 [(Value.int .i64 (Int.ofNat 0)), (Value.int .i64 i0), r1] h) fun v1 =>
 dS v1 fun b2 =>
 some (Value.bool b2)
noncomputable def T53 (h : Hp) (S : Nat → aD → Option Value) : Nat → aD → Option Value := dR 0 (wI fun r0 => wV fun r1 => wN (aKX h S r0 r1)) (kR)
noncomputable def F53 (args : List Value) (h : Hp) : Option Value := plainO (dU [Kd.i .i64, Kd.v] args fun al => G.aI (T53 h) 1000000 0 al)
def bDQ : Nat := 2 + (9 - 2)
theorem t53 (h : Hp) (S : Nat → aD → Option Value) : gZ (fun l al => G.bA iF cB oC (o9 env pf4 bDQ h) (pY env Try.f53.results.toList) (G.collect B53 A53 []) l S al) (T53 h S) := by
 unfold T53
 exact dZ (jX fun _ => mR fun _ => oF (by kernel_rfl)) <| gZ.nil
theorem r53 : gB Try.prog 53 F53 := dD (C := C0) ok0 (pf := pf4) aTF (fn := Try.f53) (body := B53) (kinds := [Kd.i .i64, Kd.v]) (A := A53) (T := T53) (by kernel_rfl) (by kernel_rfl) (by kernel_rfl) (by kernel_rfl) (fun h S => t53 h S)
noncomputable def pf5 : PF := FQ 53 F53 pf4
theorem aTI : eT Try.prog pf5 := iP r53 aTF
noncomputable def aKY := pE 53 F53 aTG
noncomputable def C19 : dK := cfg aKY
theorem bDR : C19.Ok := fU (C := C18) bDP r53
noncomputable def B52 : Code := (Try.f52.body).getD .skip
def A52 : fC := (Am 0 [(0, .v), (1, .i .i64)] Ao (An Ao (An (An Ao (An Az Ao)) (An (An Ao (An Az Ao)) Az))))
noncomputable def a1E (S : Sg) (r0 : Value) (r1 : Int) (h : Hp) : aJ :=
 bO h 25 (Array.toList (Value.cells r0)) fun a0 h0 =>
 bO h0 71 [(Value.slice none 0 0), (Value.slice none 0 0), (Value.slice none 0 0), (Value.slice none 0 0), (Value.map none)] fun a1 h1 =>
 bC 4 h1 a0 fun v2 =>
 aQ (dJ F63 [v2] h1) fun v3 h3 =>
 gY v3 0 fun v4 =>
 gY v3 1 fun v5 =>
 aU .i64 v5 fun i6 =>
 bO h3 71 [(Value.slice none 0 0), (Value.slice none 0 0), (Value.slice none 0 0), (Value.slice none 0 0), (Value.map none)] fun a7 h7 =>
 fA 5 h7 a7 v4 fun h8 =>
 bS (mY i6 (Int.ofNat 0)) fun b9 =>
 dA b9
 (bT (jK env 71 (List.toArray [])) fun v10 =>
 fA 5 h8 a1 v10 fun h11 =>
 bC 5 h11 a1 fun v12 => some (Value.tuple (List.toArray [v12, (Value.int .i64 i6)]), h11))
 (aT 0 a7 fun v13 =>
 aT 3 v13 fun v14 =>
 aM h8 v14 fun v15 =>
 dB v15 fun i16 =>
 aQ (bF env h8 22 1 (List.toArray [(0, (Value.int .i64 r1))])) fun v17 h17 =>
 aQ (bT (F53 [(Value.int .i64 i16), v17] h17) fun v => some (v, h17)) fun v18 h18 =>
 dS v18 fun b19 =>
 bS b19 fun b20 =>
 dA b20
 (bT (jK env 71 (List.toArray [])) fun v21 =>
 fA 5 h18 a1 v21 fun h22 =>
 bC 5 h22 a1 fun v23 => some (Value.tuple (List.toArray [v23, (Value.int .i64 (Int.ofNat 4))]), h22))
 (bC 5 h18 a7 fun v24 =>
 fA 5 h18 a1 v24 fun h25 =>
 bC 5 h25 a1 fun v26 => some (Value.tuple (List.toArray [v26, (Value.int .i64 (Int.ofNat 0))]), h25)))
noncomputable def T52 (S : Sg) : Sg := cZ 0 (uV fun r0 => uI fun r1 => uN (a1E S r0 r1)) (jT)
noncomputable def F52 (args : List Value) (h : Hp) : aJ := bG [Kd.v, Kd.i .i64] args fun al => aI T52 1000000 0 al h
def bDT : Nat := 2 + (27 - 2)
theorem t52 (S : Sg) : jB (fun l vs h => bA (kF env aKY bDT) (kG env Try.f52.results.toList) (collect B52 A52 []) l S vs h) (T52 S) := by
 unfold T52
 exact dV (dY fun _ => kL fun _ => jU fun _ => by kernel_rfl) <| Go.bK.jB.nil
theorem r52 : ∀ args h v h', F52 args h = some (v, h') → fB (C19) (.call 52 args.toArray h) (.ret v h') := by
 intro args h v h' e
 exact bI (C := C19) (fn := Try.f52) (body := B52) (np := 2) (A := A52) (T := T52) (kinds := [Kd.v, Kd.i .i64]) (by kernel_rfl) (by kernel_rfl) (by kernel_rfl) (by kernel_rfl) (dI dM) (by kernel_rfl) (fun S => t52 S) e
noncomputable def aTK := jR 52 F52 aKY
noncomputable def C20 : dK := cfg aTK
theorem bDU : C20.Ok := dG (C := C19) bDR r52
noncomputable def B54 : Code := (Try.f54.body).getD .skip
noncomputable def A54 : G.fC (List KI) := (Gm 0 [.reg 0 .v, .reg 1 .v] Gz (Gn Gz (Gn (Gn Gz (Gn (Gm 1 [.loc 2 2, .reg 5 (.i .i64), .reg 10 .v, .reg 11 (.i .i64), .reg 12 (.i .i64), .list 2] (Gn Gz (Gn Gy (Gn (Gn (Gn Gz (Gn Gz (Gn (Gm 2 [.loc 2 2, .reg 5 (.i .i64), .reg 10 .v, .reg 11 (.i .i64), .reg 12 (.i .i64), .reg 19 .v, .reg 20 (.i .i64), .reg 21 (.i .i64), .list 2] (Gn Gz (Gn Gy (Gn (Gn Gy Gz) Gz))) Gz) Gz))) Gz) (Gm 3 [.loc 2 2, .reg 5 (.i .i64), .reg 10 .v, .reg 11 (.i .i64), .reg 12 (.i .i64), .list 2] Gz Gz)))) Gz) Gz)) (Gm 4 [.reg 5 (.i .i64)] Gz Gz))))
noncomputable def a1F (h : Hp) (S : Nat → aD → Option Value) (r5 : Int) : Option Value :=
 some (Value.int .i64 r5)
noncomputable def aKZ (h : Hp) (S : Nat → aD → Option Value) (r5 : Int) (oG : Value) (qN MH : Int) (c2 : List Value) : Option Value :=
 wrap64 (Int.add MH (Int.ofNat 1)) fun i0 =>
 S 1 (aD.i r5 (aD.v oG (aD.i qN (aD.i i0 (aD.l c2 aD.n)))))
noncomputable def aEH (h : Hp) (S : Nat → aD → Option Value) (r5 : Int) (oG : Value) (qN MH : Int) (r19 : Value) (r20 r21 : Int) (c2 : List Value) : Option Value :=
 bZ (mH r21 r20) fun b0 =>
 dA b0
 (eB 1 r19 r21 fun v1 =>
 aM h v1 fun v2 =>
 aU .i64 v2 fun i3 =>
 BC c2 0 fun v4 =>
 eB 1 v4 i3 fun v5 =>
 aM h v5 fun v6 =>
 aU .i64 v6 fun i7 =>
 wrap64 (Int.add r5 i7) fun i8 =>
 wrap64 (Int.add r21 (Int.ofNat 1)) fun i9 =>
 S 2 (aD.i i8 (aD.v oG (aD.i qN (aD.i MH (aD.v r19 (aD.i r20 (aD.i i9 (aD.l c2 aD.n)))))))))
 (S 3 (aD.i r5 (aD.v oG (aD.i qN (aD.i MH (aD.l c2 aD.n))))))
noncomputable def aEI (h : Hp) (S : Nat → aD → Option Value) (r5 : Int) (oG : Value) (qN MH : Int) (c2 : List Value) : Option Value :=
 bZ (mH MH qN) fun b0 =>
 dA b0
 (eB 2 oG MH fun v1 =>
 bC 2 h v1 fun v2 =>
 aQZ v2 fun l3 => dA (Nat.beq (Q7 l3) 2) (VM 0 l3 [(Value.int .i64 (Int.ofNat 0)), (Value.int .i64 (Int.ofNat 0))] fun c3 =>
 BC c2 4 fun v4 =>
 zI c3 0 fun d5 => xJ d5 2 fun l5 =>
 bT (kM env h 69 v4 (Value.agg (Array.mk l5)) false) fun v6 =>
 dB v6 fun i7 =>
 S 2 (aD.i r5 (aD.v oG (aD.i qN (aD.i MH (aD.v v6 (aD.i i7 (aD.i (Int.ofNat 0) (aD.l c2 aD.n))))))))) none)
 (S 4 (aD.i r5 aD.n))
noncomputable def aK0 (h : Hp) (S : Nat → aD → Option Value) (r0 r1 : Value) : Option Value :=
 oV (Array.toList (Value.cells r0)) fun c0 =>
 dB r1 fun i1 =>
 S 1 (aD.i (Int.ofNat 0) (aD.v r1 (aD.i i1 (aD.i (Int.ofNat 0) (aD.l c0 aD.n)))))
noncomputable def T54 (h : Hp) (S : Nat → aD → Option Value) : Nat → aD → Option Value := dR 0 (wV fun r0 => wV fun r1 => wN (aK0 h S r0 r1)) (dR 1 (wI fun r5 => wV fun oG => wI fun qN => wI fun MH => wL fun c2 => wN (aEI h S r5 oG qN MH c2)) (dR 2 (wI fun r5 => wV fun oG => wI fun qN => wI fun MH => wV fun r19 => wI fun r20 => wI fun r21 => wL fun c2 => wN (aEH h S r5 oG qN MH r19 r20 r21 c2)) (dR 3 (wI fun r5 => wV fun oG => wI fun qN => wI fun MH => wL fun c2 => wN (aKZ h S r5 oG qN MH c2)) (dR 4 (wI fun r5 => wN (a1F h S r5)) (kR)))))
noncomputable def F54 (args : List Value) (h : Hp) : Option Value := plainO (dU [Kd.v, Kd.v] args fun al => G.aI (T54 h) 1000000 0 al)
def bDV : Nat := 2 + (36 - 2)
theorem t54 (h : Hp) (S : Nat → aD → Option Value) : gZ (fun l al => G.bA iF cB oC (o9 env pf5 bDV h) (pY env Try.f54.results.toList) (G.collect B54 A54 []) l S al) (T54 h S) := by
 unfold T54
 exact dZ (mR fun _ => mR fun _ => oF (by kernel_rfl)) <| dZ (jX fun _ => mR fun _ => jX fun _ => jX fun _ => rpL fun _ => oF (by kernel_rfl)) <| dZ (jX fun _ => mR fun _ => jX fun _ => jX fun _ => mR fun _ => jX fun _ => jX fun _ => rpL fun _ => oF (by kernel_rfl)) <| dZ (jX fun _ => mR fun _ => jX fun _ => jX fun _ => rpL fun _ => oF (by kernel_rfl)) <| dZ (jX fun _ => oF (by kernel_rfl)) <| gZ.nil
theorem r54 : gB Try.prog 54 F54 := dD (C := C0) ok0 (pf := pf5) aTI (fn := Try.f54) (body := B54) (kinds := [Kd.v, Kd.v]) (A := A54) (T := T54) (by kernel_rfl) (by kernel_rfl) (by kernel_rfl) (by kernel_rfl) (fun h S => t54 h S)
noncomputable def pf6 : PF := FQ 54 F54 pf5
theorem aTM : eT Try.prog pf6 := iP r54 aTI
noncomputable def aK1 := pE 54 F54 aTK
noncomputable def C21 : dK := cfg aK1
theorem bDW : C21.Ok := fU (C := C20) bDU r54
noncomputable def B18 : Code := (Try.f18.body).getD .skip
def A18 : fC := (Am 0 [(0, .v), (1, .i .i64), (2, .i .i64)] Ao (An Ao (An (An Ao (An Az Ao)) (An (An Ao (An Az Ao)) (An Ao Az)))))
noncomputable def a1H (S : Sg) (r0 : Value) (r1 r2 : Int) (h : Hp) : aJ :=
 bO h 25 (Array.toList (Value.cells r0)) fun a0 h0 =>
 bC 4 h0 a0 fun v1 =>
 aQ (dJ F52 [v1, (Value.int .i64 r2)] h0) fun v2 h2 =>
 gY v2 0 fun v3 =>
 gY v2 1 fun v4 =>
 aU .i64 v4 fun i5 =>
 bO h2 71 [(Value.slice none 0 0), (Value.slice none 0 0), (Value.slice none 0 0), (Value.slice none 0 0), (Value.map none)] fun a6 h6 =>
 fA 5 h6 a6 v3 fun h7 =>
 bS (mY i5 (Int.ofNat 0)) fun b8 =>
 dA b8
 (some (Value.tuple (List.toArray [(Value.int .i64 (Int.ofNat 0)), (Value.slice none 0 0), (Value.int .i64 i5)]), h7))
 (aT 0 a6 fun v9 =>
 aT 2 v9 fun v10 =>
 aM h7 v10 fun v11 =>
 dB v11 fun i12 =>
 aQ (bF env h7 22 1 (List.toArray [(0, (Value.int .i64 r1))])) fun v13 ZF =>
 aQ (bT (F53 [(Value.int .i64 i12), v13] ZF) fun v => some (v, ZF)) fun v14 h14 =>
 dS v14 fun b15 =>
 bS b15 fun b16 =>
 dA b16
 (some (Value.tuple (List.toArray [(Value.int .i64 (Int.ofNat 0)), (Value.slice none 0 0), (Value.int .i64 (Int.ofNat 4))]), h14))
 (bT (jK env 76 (List.toArray [(0, (Value.int .i64 r1)), (1, (Value.int .i64 r2))])) fun v17 =>
 bO h14 76 [(Value.int .i64 (Int.ofNat 0)), (Value.int .i64 (Int.ofNat 0))] fun a18 h18 =>
 fA 2 h18 a18 v17 fun h19 =>
 bC 5 (Hp.mk (Hp.next h19) (Hp.next h19) (Hp.aF h19)) a6 fun v20 =>
 bC 2 (Hp.mk (Hp.next h19) (Hp.next h19) (Hp.aF h19)) a18 fun v21 =>
 aQ (bF env (Hp.mk (Hp.next h19) (Hp.next h19) T.nil) 79 1 (List.toArray [(0, v21)])) fun v22 h22 =>
 jA v22 (Hp.next h19) h22 fun w23 n23 =>
 aQ (bT (F54 [v20, v22] (Hp.mk n23 n23 (aV w23 (Hp.aF h19)))) fun v => some (v, (Hp.mk n23 n23 (aV w23 (Hp.aF h19))))) fun v24 h24 =>
 aU .i64 v24 fun i25 =>
 aT 4 a6 fun v26 =>
 aM (Hp.mk n23 n23 (Hp.aF h19)) v26 fun v27 =>
 bC 2 (Hp.mk n23 n23 (Hp.aF h19)) a18 fun v28 =>
 bT (kM env (Hp.mk n23 n23 (Hp.aF h19)) 69 v27 v28 false) fun v29 =>
 some (Value.tuple (List.toArray [(Value.int .i64 i25), v29, (Value.int .i64 (Int.ofNat 0))]), (Hp.mk n23 (Hp.ro h19) (aV w23 (Hp.aF h19))))))
noncomputable def T18 (S : Sg) : Sg := cZ 0 (uV fun r0 => uI fun r1 => uI fun r2 => uN (a1H S r0 r1 r2)) (jT)
noncomputable def F18 (args : List Value) (h : Hp) : aJ := bG [Kd.v, Kd.i .i64, Kd.i .i64] args fun al => aI T18 1000000 0 al h
def bDZ : Nat := 3 + (39 - 3)
theorem t18 (S : Sg) : jB (fun l vs h => bA (kF env aK1 bDZ) (kG env Try.f18.results.toList) (collect B18 A18 []) l S vs h) (T18 S) := by
 unfold T18
 exact dV (dY fun _ => kL fun _ => kL fun _ => jU fun _ => by kernel_rfl) <| Go.bK.jB.nil
theorem r18 : ∀ args h v h', F18 args h = some (v, h') → fB (C21) (.call 18 args.toArray h) (.ret v h') := by
 intro args h v h' e
 exact bI (C := C21) (fn := Try.f18) (body := B18) (np := 3) (A := A18) (T := T18) (kinds := [Kd.v, Kd.i .i64, Kd.i .i64]) (by kernel_rfl) (by kernel_rfl) (by kernel_rfl) (by kernel_rfl) (dI dM) (by kernel_rfl) (fun S => t18 S) e
noncomputable def aTN := jR 18 F18 aK1
noncomputable def C22 : dK := cfg aTN
theorem bD0 : C22.Ok := dG (C := C21) bDW r18
noncomputable def a1I : Code := (Try.f111.body).getD .skip
noncomputable def a1J : G.fC (List KI) := (Gm 0 [.reg 0 .v, .reg 1 (.i .i64)] Gz (Gn (Gn Gz (Gn (Gm 1 [.reg 0 .v, .reg 1 (.i .i64), .reg 7 (.i .i64), .reg 8 (.i .i64)] (Gn Gz (Gn Gy (Gn (Gn (Gn Gz (Gn Gz (Gn Gy Gz))) Gz) Gz))) Gz) Gz)) (Gm 2 [] Gz Gz)))
noncomputable def aV4 (h : Hp) (S : Nat → aD → Option Value) : Option Value :=
 some (Value.int .i64 (Int.negSucc 0))
noncomputable def WH (h : Hp) (S : Nat → aD → Option Value) (r0 : Value) (r1 r7 r8 : Int) : Option Value :=
 bZ (mH r8 r7) fun b0 =>
 dA b0
 (eB 1 r0 r8 fun v1 =>
 aM h v1 fun v2 =>
 aU .i64 v2 fun i3 =>
 bZ (mY r1 i3) fun b4 =>
 dA b4
 (some (Value.int .i64 r8))
 (wrap64 (Int.add r8 (Int.ofNat 1)) fun i5 =>
 S 1 (aD.v r0 (aD.i r1 (aD.i r7 (aD.i i5 aD.n))))))
 (S 2 aD.n)
noncomputable def aCK (h : Hp) (S : Nat → aD → Option Value) (r0 : Value) (r1 : Int) : Option Value :=
 dB r0 fun i0 =>
 S 1 (aD.v r0 (aD.i r1 (aD.i i0 (aD.i (Int.ofNat 0) aD.n))))
noncomputable def WI (h : Hp) (S : Nat → aD → Option Value) : Nat → aD → Option Value := dR 0 (wV fun r0 => wI fun r1 => wN (aCK h S r0 r1)) (dR 1 (wV fun r0 => wI fun r1 => wI fun r7 => wI fun r8 => wN (WH h S r0 r1 r7 r8)) (dR 2 (wN (aV4 h S)) (kR)))
noncomputable def aK2 (args : List Value) (h : Hp) : Option Value := plainO (dU [Kd.v, Kd.i .i64] args fun al => G.aI (WI h) 1000000 0 al)
def a1K : Nat := 2 + (19 - 2)
theorem t111 (h : Hp) (S : Nat → aD → Option Value) : gZ (fun l al => G.bA iF cB oC (o9 env pf6 a1K h) (pY env Try.f111.results.toList) (G.collect a1I a1J []) l S al) (WI h S) := by
 unfold WI
 exact dZ (mR fun _ => jX fun _ => oF (by kernel_rfl)) <| dZ (mR fun _ => jX fun _ => jX fun _ => jX fun _ => oF (by kernel_rfl)) <| dZ (oF (by kernel_rfl)) <| gZ.nil
theorem a1L : gB Try.prog 111 aK2 := dD (C := C0) ok0 (pf := pf6) aTM (fn := Try.f111) (body := a1I) (kinds := [Kd.v, Kd.i .i64]) (A := a1J) (T := WI) (by kernel_rfl) (by kernel_rfl) (by kernel_rfl) (by kernel_rfl) (fun h S => t111 h S)
noncomputable def pf7 : PF := FQ 111 aK2 pf6
theorem aTO : eT Try.prog pf7 := iP a1L aTM
noncomputable def aTP := pE 111 aK2 aTN
noncomputable def C23 : dK := cfg aTP
theorem bD1 : C23.Ok := fU (C := C22) bD0 a1L
noncomputable def B90 : Code := (Try.f90.body).getD .skip
noncomputable def A90 : G.fC (List KI) := (Gm 0 [.reg 0 .v, .reg 1 (.i .i64)] Gz Gy)
noncomputable def aK3 (h : Hp) (S : Nat → aD → Option Value) (r0 : Value) (r1 : Int) : Option Value :=
 bT (aK2 [r0, (Value.int .i64 r1)] h) fun v0 =>
 aU .i64 v0 fun i1 =>
 bS (mH i1 (Int.ofNat 0)) fun b2 =>
 some (Value.bool b2)
noncomputable def T90 (h : Hp) (S : Nat → aD → Option Value) : Nat → aD → Option Value := dR 0 (wV fun r0 => wI fun r1 => wN (aK3 h S r0 r1)) (kR)
noncomputable def F90 (args : List Value) (h : Hp) : Option Value := plainO (dU [Kd.v, Kd.i .i64] args fun al => G.aI (T90 h) 1000000 0 al)
def bD2 : Nat := 2 + (9 - 2)
theorem t90 (h : Hp) (S : Nat → aD → Option Value) : gZ (fun l al => G.bA iF cB oC (o9 env pf7 bD2 h) (pY env Try.f90.results.toList) (G.collect B90 A90 []) l S al) (T90 h S) := by
 unfold T90
 exact dZ (mR fun _ => jX fun _ => oF (by kernel_rfl)) <| gZ.nil
theorem r90 : gB Try.prog 90 F90 := dD (C := C0) ok0 (pf := pf7) aTO (fn := Try.f90) (body := B90) (kinds := [Kd.v, Kd.i .i64]) (A := A90) (T := T90) (by kernel_rfl) (by kernel_rfl) (by kernel_rfl) (by kernel_rfl) (fun h S => t90 h S)
noncomputable def pf8 : PF := FQ 90 F90 pf7
theorem aTQ : eT Try.prog pf8 := iP r90 aTO
noncomputable def aTR := pE 90 F90 aTP
noncomputable def C24 : dK := cfg aTR
theorem bD3 : C24.Ok := fU (C := C23) bD1 r90
noncomputable def B92 : Code := (Try.f92.body).getD .skip
noncomputable def A92 : G.fC (List KI) := (Gm 0 [.reg 0 .v, .reg 1 .v] Gz Gy)
noncomputable def aK4 (h : Hp) (S : Nat → aD → Option Value) (r0 r1 : Value) : Option Value :=
 oV (Array.toList (Value.cells r0)) fun c0 =>
 oV (Array.toList (Value.cells r1)) fun c1 =>
 BC c0 4 fun v2 =>
 zI c1 0 fun d3 => xJ d3 2 fun l3 =>
 bT (kM env h 69 v2 (Value.agg (Array.mk l3)) false) fun v4 =>
 bT (F90 [v4, (Value.int .i64 (Int.ofNat 0))] h) fun v5 =>
 dS v5 fun b6 =>
 some (Value.bool b6)
noncomputable def T92 (h : Hp) (S : Nat → aD → Option Value) : Nat → aD → Option Value := dR 0 (wV fun r0 => wV fun r1 => wN (aK4 h S r0 r1)) (kR)
noncomputable def F92 (args : List Value) (h : Hp) : Option Value := plainO (dU [Kd.v, Kd.v] args fun al => G.aI (T92 h) 1000000 0 al)
def bD4 : Nat := 2 + (10 - 2)
theorem t92 (h : Hp) (S : Nat → aD → Option Value) : gZ (fun l al => G.bA iF cB oC (o9 env pf8 bD4 h) (pY env Try.f92.results.toList) (G.collect B92 A92 []) l S al) (T92 h S) := by
 unfold T92
 exact dZ (mR fun _ => mR fun _ => oF (by kernel_rfl)) <| gZ.nil
theorem r92 : gB Try.prog 92 F92 := dD (C := C0) ok0 (pf := pf8) aTQ (fn := Try.f92) (body := B92) (kinds := [Kd.v, Kd.v]) (A := A92) (T := T92) (by kernel_rfl) (by kernel_rfl) (by kernel_rfl) (by kernel_rfl) (fun h S => t92 h S)
noncomputable def pf9 : PF := FQ 92 F92 pf8
theorem aTS : eT Try.prog pf9 := iP r92 aTQ
noncomputable def aK5 := pE 92 F92 aTR
noncomputable def C25 : dK := cfg aK5
theorem bD5 : C25.Ok := fU (C := C24) bD3 r92
noncomputable def B60 : Code := (Try.f60.body).getD .skip
def A60 : fC := (Am 0 [(0, .v), (1, .v)] Ao (An Ao (An Ao (An (An Ao (An (Am 1 [(2, .v), (4, .v), (5, .v), (15, .v), (16, .i .i64), (17, .i .i64)] (An Ao (An Az (An (An (An Ao (An Ao (An (An Ao Az) Ao))) Ao) Ao))) Ao) Ao)) (Am 2 [(4, .v), (5, .v)] Ao Ao)))))
noncomputable def aK6 (S : Sg) (r4 r5 : Value) (h : Hp) : aJ :=
 bC 4 h r5 fun v0 =>
 fA 4 h r4 v0 fun h1 =>
 bC 4 h1 r4 fun v2 => some (v2, h1)
noncomputable def aEJ (S : Sg) (r2 r4 : Value) (r5 r15 : Value) (r16 XG : Int) (h : Hp) : aJ :=
 bZ (mH XG r16) fun b0 =>
 dA b0
 (eB 2 r15 XG fun v1 =>
 bC 2 h v1 fun v2 =>
 bO h 76 [(Value.int .i64 (Int.ofNat 0)), (Value.int .i64 (Int.ofNat 0))] fun a3 h3 =>
 fA 2 h3 a3 v2 fun h4 =>
 bC 5 h4 r2 fun v5 =>
 bC 2 h4 a3 fun v6 =>
 aQ (bT (F92 [v5, v6] h4) fun v => some (v, h4)) fun v7 h7 =>
 dS v7 fun b8 =>
 dA b8
 (aT 0 r2 fun v9 =>
 aT 2 v9 fun v10 =>
 aM (Hp.mk (Hp.next h7) (Hp.next h7) (Hp.aF h7)) v10 fun v11 =>
 aT 0 a3 fun v12 =>
 aM (Hp.mk (Hp.next h7) (Hp.next h7) (Hp.aF h7)) v12 fun v13 =>
 aU .i64 v13 fun i14 =>
 eB 3 v11 i14 fun v15 =>
 bC 3 (Hp.mk (Hp.next h7) (Hp.next h7) (Hp.aF h7)) v15 fun v16 =>
 aT 0 r2 fun v17 =>
 aT 3 v17 fun v18 =>
 aM (Hp.mk (Hp.next h7) (Hp.next h7) (Hp.aF h7)) v18 fun v19 =>
 aT 1 a3 fun v20 =>
 aM (Hp.mk (Hp.next h7) (Hp.next h7) (Hp.aF h7)) v20 fun v21 =>
 aU .i64 v21 fun i22 =>
 eB 3 v19 i22 fun v23 =>
 bC 3 (Hp.mk (Hp.next h7) (Hp.next h7) (Hp.aF h7)) v23 fun v24 =>
 bO (Hp.mk (Hp.next h7) (Hp.next h7) T.nil) 59 [(Value.string (ByteArray.mk #[])), (Value.slice none 0 0), (Value.int .i64 (Int.ofNat 0))] fun a25 h25 =>
 jA a25 (Hp.next h7) h25 fun w26 n26 =>
 bO (Hp.mk n26 n26 T.nil) 59 [(Value.string (ByteArray.mk #[])), (Value.slice none 0 0), (Value.int .i64 (Int.ofNat 0))] fun a27 h27 =>
 jA a27 n26 h27 fun w28 n28 =>
 FE env 59 a25 v16 n28 (Hp.next h7) (aV w28 (aV w26 (Hp.aF h7))) (fun b => (eY [] b || (eY [] b || (eY [] b || (eY [] b || (eY [] b || (eY [] b || (eY [] b || (eY w26 b || (eY w28 b || false)))))))))) fun w29 =>
 fA 3 (Hp.mk n28 (Hp.ro h7) (aV w29 (aV w28 (aV w26 (Hp.aF h7))))) a27 v24 fun h30 =>
 aT 1 a25 fun v31 =>
 aM h30 v31 fun v32 =>
 eB 1 v32 (Int.ofNat 0) fun v33 =>
 aM h30 v33 fun v34 =>
 aU .i64 v34 fun i35 =>
 OC 4 1 r5 i35 fun v36 =>
 aM h30 v36 fun v37 =>
 aU .i64 v37 fun i38 =>
 aT 2 a25 fun v39 =>
 aM h30 v39 fun v40 =>
 aU .i64 v40 fun i41 =>
 wrap64 (Int.add i38 i41) fun i42 =>
 OC 4 1 r5 i35 fun v43 =>
 kE h30 v43 (Value.int .i64 i42) fun h44 =>
 aT 1 a27 fun v45 =>
 aM h44 v45 fun v46 =>
 eB 1 v46 (Int.ofNat 0) fun v47 =>
 aM h44 v47 fun v48 =>
 aU .i64 v48 fun i49 =>
 OC 4 1 r5 i49 fun v50 =>
 aM h44 v50 fun v51 =>
 aU .i64 v51 fun i52 =>
 aT 2 a27 fun v53 =>
 aM h44 v53 fun v54 =>
 aU .i64 v54 fun i55 =>
 wrap64 (Int.sub i52 i55) fun i56 =>
 OC 4 1 r5 i49 fun v57 =>
 kE h44 v57 (Value.int .i64 i56) fun h58 =>
 wrap64 (Int.add XG (Int.ofNat 1)) fun i59 =>
 S 1 (AL.v r2 (AL.v r4 (AL.v r5 (AL.v r15 (AL.i r16 (AL.i i59 AL.n)))))) h58)
 (wrap64 (Int.add XG (Int.ofNat 1)) fun i60 =>
 S 1 (AL.v r2 (AL.v r4 (AL.v r5 (AL.v r15 (AL.i r16 (AL.i i60 AL.n)))))) h7))
 (S 2 (AL.v r4 (AL.v r5 AL.n)) h)
noncomputable def aK7 (S : Sg) (r0 r1 : Value) (h : Hp) : aJ :=
 bO h 71 (Array.toList (Value.cells r0)) fun a0 h0 =>
 bO h0 87 [(Value.int .i64 (Int.ofNat 0)), (Value.int .i64 (Int.ofNat 0)), (Value.int .i64 (Int.ofNat 0)), (Value.int .i64 (Int.ofNat 0))] fun a1 h1 =>
 bO h1 87 [(Value.int .i64 (Int.ofNat 0)), (Value.int .i64 (Int.ofNat 0)), (Value.int .i64 (Int.ofNat 0)), (Value.int .i64 (Int.ofNat 0))] fun a2 h2 =>
 bT (fM env h2 87 a2 none none none) fun v3 =>
 aT 0 a0 fun v4 =>
 aT 1 v4 fun v5 =>
 aM h2 v5 fun v6 =>
 aQ (copyV env h2 #[22, 22] (List.toArray [v3, v6])) fun v7 h7 =>
 dB r1 fun i8 =>
 S 1 (AL.v a0 (AL.v a1 (AL.v a2 (AL.v r1 (AL.i i8 (AL.i (Int.ofNat 0) AL.n)))))) h7
noncomputable def T60 (S : Sg) : Sg := cZ 0 (uV fun r0 => uV fun r1 => uN (aK7 S r0 r1)) (cZ 1 (uV fun r2 => uV fun r4 => uV fun r5 => uV fun r15 => uI fun r16 => uI fun XG => uN (aEJ S r2 r4 r5 r15 r16 XG)) (cZ 2 (uV fun r4 => uV fun r5 => uN (aK6 S r4 r5)) (jT)))
noncomputable def F60 (args : List Value) (h : Hp) : aJ := bG [Kd.v, Kd.v] args fun al => aI T60 1000000 0 al h
def bD6 : Nat := 2 + (60 - 2)
theorem t60 (S : Sg) : jB (fun l vs h => bA (kF env aK5 bD6) (kG env Try.f60.results.toList) (collect B60 A60 []) l S vs h) (T60 S) := by
 unfold T60
 exact dV (dY fun _ => dY fun _ => jU fun _ => by kernel_rfl) <| dV (dY fun _ => dY fun _ => dY fun _ => dY fun _ => kL fun _ => kL fun _ => jU fun _ => by kernel_rfl) <| dV (dY fun _ => dY fun _ => jU fun _ => by kernel_rfl) <| Go.bK.jB.nil
theorem r60 : ∀ args h v h', F60 args h = some (v, h') → fB (C25) (.call 60 args.toArray h) (.ret v h') := by
 intro args h v h' e
 exact bI (C := C25) (fn := Try.f60) (body := B60) (np := 2) (A := A60) (T := T60) (kinds := [Kd.v, Kd.v]) (by kernel_rfl) (by kernel_rfl) (by kernel_rfl) (by kernel_rfl) (dI dM) (by kernel_rfl) (fun S => t60 S) e
noncomputable def aTU := jR 60 F60 aK5
noncomputable def C26 : dK := cfg aTU
theorem bD7 : C26.Ok := dG (C := C25) bD5 r60
noncomputable def B77 : Code := (Try.f77.body).getD .skip
noncomputable def A77 : G.fC (List KI) := (Gm 0 [.reg 0 .v] Gz (Gn Gz (Gn (Gn Gz (Gn (G.fC.node (some (1, [.loc 2 2, .loc 3 3, .reg 6 .v, .reg 7 (.i .i64), .cells 2 [.i .i64, .i .i64, .i .i64, .i .i64], .cells 3 [.i .i64, .i .i64, .i .i64, .i .i64]])) (Gn Gz (Gn Gy (Gn (Gn Gy Gz) Gz))) Gz) Gz)) (G.fC.node (some (2, [.loc 2 2, .loc 3 3, .cells 2 [.i .i64, .i .i64, .i .i64, .i .i64], .cells 3 [.i .i64, .i .i64, .i .i64, .i .i64]])) Gz Gz))))
noncomputable def a1T (h : Hp) (S : Nat → aD → Option Value) (ZG ZH : Int) (ZI ZJ : Int) (uW sV : Int) (uX uY : Int) : Option Value :=
 aQZ (Value.agg (Array.mk [(Value.int .i64 uW), (Value.int .i64 sV), (Value.int .i64 uX), (Value.int .i64 uY)])) fun l0 => dA (Nat.beq (Q7 l0) 4) (VM 0 l0 [(Value.int .i64 ZG), (Value.int .i64 ZH), (Value.int .i64 ZI), (Value.int .i64 ZJ)] fun c0 =>
 zI c0 0 fun d1 => xJ d1 4 fun l1 => some (Value.agg (Array.mk l1))) none
noncomputable def aEK (h : Hp) (S : Nat → aD → Option Value) (r6 : Value) (r7 ZG : Int) (ZH ZI : Int) (ZJ uW : Int) (sV uX uY : Int) : Option Value :=
 bZ (mH r7 (Int.ofNat 4)) fun b0 =>
 dA b0
 (bT (jW env 87 r6 (Value.int .i64 r7)) fun v1 =>
 aU .i64 v1 fun i2 =>
 wrap64 (Int.sub 0 i2) fun i3 =>
 aF4 (Int.ofNat 0) i3 fun i4 =>
 VI r7 (fun n5 => dA (Nat.ble (Nat.succ n5) 4) (iB (Nat.add 0 (Nat.mul n5 1)) fun o5 =>
 DJ [(Value.int .i64 uW), (Value.int .i64 sV), (Value.int .i64 uX), (Value.int .i64 uY)] o5 (Value.int .i64 i4) fun c6 =>
 wrap64 (Int.add r7 (Int.ofNat 1)) fun i7 =>
 lW c6 fun a8 c8 =>
 aU .i64 a8 fun i9 =>
 lW c8 fun a10 c10 =>
 aU .i64 a10 fun i11 =>
 lW c10 fun a12 c12 =>
 aU .i64 a12 fun i13 =>
 lW c12 fun a14 c14 =>
 aU .i64 a14 fun i15 =>
 aJH c14 (S 1 (aD.v r6 (aD.i i7 (aD.i ZG (aD.i ZH (aD.i ZI (aD.i ZJ (aD.i i9 (aD.i i11 (aD.i i13 (aD.i i15 aD.n)))))))))))) none) (fun _ => none))
 (S 2 (aD.i ZG (aD.i ZH (aD.i ZI (aD.i ZJ (aD.i uW (aD.i sV (aD.i uX (aD.i uY aD.n)))))))))
noncomputable def aK9 (h : Hp) (S : Nat → aD → Option Value) (r0 : Value) : Option Value :=
 oV (Array.toList (Value.cells r0)) fun c0 =>
 zI c0 0 fun d1 => xJ d1 4 fun l1 =>
 S 1 (aD.v (Value.agg (Array.mk l1)) (aD.i (Int.ofNat 0) (aD.i (Int.ofNat 0) (aD.i (Int.ofNat 0) (aD.i (Int.ofNat 0) (aD.i (Int.ofNat 0) (aD.i (Int.ofNat 0) (aD.i (Int.ofNat 0) (aD.i (Int.ofNat 0) (aD.i (Int.ofNat 0) aD.n))))))))))
noncomputable def T77 (h : Hp) (S : Nat → aD → Option Value) : Nat → aD → Option Value := dR 0 (wV fun r0 => wN (aK9 h S r0)) (dR 1 (wV fun r6 => wI fun r7 => wI fun ZG => wI fun ZH => wI fun ZI => wI fun ZJ => wI fun uW => wI fun sV => wI fun uX => wI fun uY => wN (aEK h S r6 r7 ZG ZH ZI ZJ uW sV uX uY)) (dR 2 (wI fun ZG => wI fun ZH => wI fun ZI => wI fun ZJ => wI fun uW => wI fun sV => wI fun uX => wI fun uY => wN (a1T h S ZG ZH ZI ZJ uW sV uX uY)) (kR)))
noncomputable def F77 (args : List Value) (h : Hp) : Option Value := plainO (dU [Kd.v] args fun al => G.aI (T77 h) 1000000 0 al)
def bD9 : Nat := 1 + (18 - 1)
theorem t77 (h : Hp) (S : Nat → aD → Option Value) : gZ (fun l al => G.bA iF cB oC (o9 env pf9 bD9 h) (pY env Try.f77.results.toList) (G.collect B77 A77 []) l S al) (T77 h S) := by
 unfold T77
 exact dZ (mR fun _ => oF (by kernel_rfl)) <| dZ (mR fun _ => jX fun _ => jX fun _ => jX fun _ => jX fun _ => jX fun _ => jX fun _ => jX fun _ => jX fun _ => jX fun _ => oF (by kernel_rfl)) <| dZ (jX fun _ => jX fun _ => jX fun _ => jX fun _ => jX fun _ => jX fun _ => jX fun _ => jX fun _ => oF (by kernel_rfl)) <| gZ.nil
theorem r77 : gB Try.prog 77 F77 := dD (C := C0) ok0 (pf := pf9) aTS (fn := Try.f77) (body := B77) (kinds := [Kd.v]) (A := A77) (T := T77) (by kernel_rfl) (by kernel_rfl) (by kernel_rfl) (by kernel_rfl) (fun h S => t77 h S)
noncomputable def aRO : PF := FQ 77 F77 pf9
theorem aLB : eT Try.prog aRO := iP r77 aTS
noncomputable def aLC := pE 77 F77 aTU
noncomputable def C27 : dK := cfg aLC
theorem bEA : C27.Ok := fU (C := C26) bD7 r77
noncomputable def a1U : Code := (Try.f102.body).getD .skip
def a1V : fC := (Am 0 [(0, .v), (1, .v)] Ao (An Ao (An (An Ao (An (Am 1 [(5, .i .i64), (11, .v), (12, .i .i64)] (An Ao (An Az (An (An Az Ao) Ao))) Ao) Ao)) (Am 2 [(5, .i .i64)] Ao Ao))))
noncomputable def aV6 (S : Sg) (r5 : Int) (h : Hp) : aJ :=
 some ((Value.int .i64 r5), h)
noncomputable def WJ (S : Sg) (r5 : Int) (qN : Value) (MH : Int) (h : Hp) : aJ :=
 bZ (mH MH (Int.ofNat 4)) fun b0 =>
 dA b0
 (bT (jW env 87 qN (Value.int .i64 MH)) fun v1 =>
 aU .i64 v1 fun i2 =>
 wrap64 (Int.add r5 i2) fun i3 =>
 wrap64 (Int.add MH (Int.ofNat 1)) fun i4 =>
 S 1 (AL.i i3 (AL.v qN (AL.i i4 AL.n))) h)
 (S 2 (AL.i r5 AL.n) h)
noncomputable def aCL (S : Sg) (r0 r1 : Value) (h : Hp) : aJ :=
 bO h 71 (Array.toList (Value.cells r0)) fun a0 h0 =>
 bC 5 h0 a0 fun v1 =>
 aQ (dJ F60 [v1, r1] h0) fun v2 h2 =>
 aQ (bT (F77 [v2] h2) fun v => some (v, h2)) fun v3 h3 =>
 S 1 (AL.i (Int.ofNat 0) (AL.v v3 (AL.i (Int.ofNat 0) AL.n))) h3
noncomputable def PL (S : Sg) : Sg := cZ 0 (uV fun r0 => uV fun r1 => uN (aCL S r0 r1)) (cZ 1 (uI fun r5 => uV fun qN => uI fun MH => uN (WJ S r5 qN MH)) (cZ 2 (uI fun r5 => uN (aV6 S r5)) (jT)))
noncomputable def aCM (args : List Value) (h : Hp) : aJ := bG [Kd.v, Kd.v] args fun al => aI PL 1000000 0 al h
def a1W : Nat := 2 + (20 - 2)
theorem t102 (S : Sg) : jB (fun l vs h => bA (kF env aLC a1W) (kG env Try.f102.results.toList) (collect a1U a1V []) l S vs h) (PL S) := by
 unfold PL
 exact dV (dY fun _ => dY fun _ => jU fun _ => by kernel_rfl) <| dV (kL fun _ => dY fun _ => kL fun _ => jU fun _ => by kernel_rfl) <| dV (kL fun _ => jU fun _ => by kernel_rfl) <| Go.bK.jB.nil
theorem bEB : ∀ args h v h', aCM args h = some (v, h') → fB (C27) (.call 102 args.toArray h) (.ret v h') := by
 intro args h v h' e
 exact bI (C := C27) (fn := Try.f102) (body := a1U) (np := 2) (A := a1V) (T := PL) (kinds := [Kd.v, Kd.v]) (by kernel_rfl) (by kernel_rfl) (by kernel_rfl) (by kernel_rfl) (dI dM) (by kernel_rfl) (fun S => t102 S) e
noncomputable def aTV := jR 102 aCM aLC
noncomputable def C28 : dK := cfg aTV
theorem bEC : C28.Ok := dG (C := C27) bEA bEB
noncomputable def a1X : Code := (Try.f120.body).getD .skip
noncomputable def a1Y : G.fC (List KI) := (Gm 0 [.reg 0 (.i .i64)] Gz Gy)
noncomputable def aV7 (h : Hp) (S : Nat → aD → Option Value) (r0 : Int) : Option Value :=
 bS (mY r0 r0) fun b0 =>
 some (Value.bool b0)
noncomputable def aRP (h : Hp) (S : Nat → aD → Option Value) : Nat → aD → Option Value := dR 0 (wI fun r0 => wN (aV7 h S r0)) (kR)
noncomputable def aGT (args : List Value) (h : Hp) : Option Value := plainO (dU [Kd.i .i64] args fun al => G.aI (aRP h) 1000000 0 al)
def a1Z : Nat := 1 + (6 - 1)
theorem t120 (h : Hp) (S : Nat → aD → Option Value) : gZ (fun l al => G.bA iF cB oC (o9 env aRO a1Z h) (pY env Try.f120.results.toList) (G.collect a1X a1Y []) l S al) (aRP h S) := by
 unfold aRP
 exact dZ (jX fun _ => oF (by kernel_rfl)) <| gZ.nil
theorem a19 : gB Try.prog 120 aGT := dD (C := C0) ok0 (pf := aRO) aLB (fn := Try.f120) (body := a1X) (kinds := [Kd.i .i64]) (A := a1Y) (T := aRP) (by kernel_rfl) (by kernel_rfl) (by kernel_rfl) (by kernel_rfl) (fun h S => t120 h S)
noncomputable def aRQ : PF := FQ 120 aGT aRO
theorem aLD : eT Try.prog aRQ := iP a19 aLB
noncomputable def aTW := pE 120 aGT aTV
noncomputable def C29 : dK := cfg aTW
theorem bED : C29.Ok := fU (C := C28) bEC a19
noncomputable def a2A : Code := (Try.f116.body).getD .skip
noncomputable def a2B : G.fC (List KI) := (Gm 0 [.reg 0 (.i .i64), .reg 1 (.i .i64)] Gz (Gn Gz (Gn Gz (Gn (Gn Gz (Gn (Gn (Gn Gz (Gn Gy Gz)) Gy) Gz)) (Gn (Gn Gz (Gn Gy Gz)) (Gn (Gn Gz (Gn Gy Gz)) (Gn (Gn Gz (Gn Gy Gz)) Gy)))))))
noncomputable def aCN (h : Hp) (S : Nat → aD → Option Value) (r0 r1 : Int) : Option Value :=
 bT (aGT [(Value.int .i64 r0)] h) fun v0 =>
 dS v0 fun b1 =>
 bT (aGT [(Value.int .i64 r1)] h) fun v2 =>
 dS v2 fun b3 =>
 dA b1
 (dA b3
 (some (Value.int .i64 (Int.ofNat 0)))
 (some (Value.int .i64 (Int.negSucc 0))))
 (dA b3
 (some (Value.int .i64 (Int.ofNat 1)))
 (bZ (mH r0 r1) fun b4 =>
 dA b4
 (some (Value.int .i64 (Int.negSucc 0)))
 (bZ (mH r1 r0) fun b5 =>
 dA b5
 (some (Value.int .i64 (Int.ofNat 1)))
 (some (Value.int .i64 (Int.ofNat 0))))))
noncomputable def aLE (h : Hp) (S : Nat → aD → Option Value) : Nat → aD → Option Value := dR 0 (wI fun r0 => wI fun r1 => wN (aCN h S r0 r1)) (kR)
noncomputable def aGU (args : List Value) (h : Hp) : Option Value := plainO (dU [Kd.i .i64, Kd.i .i64] args fun al => G.aI (aLE h) 1000000 0 al)
def a2C : Nat := 2 + (20 - 2)
theorem t116 (h : Hp) (S : Nat → aD → Option Value) : gZ (fun l al => G.bA iF cB oC (o9 env aRQ a2C h) (pY env Try.f116.results.toList) (G.collect a2A a2B []) l S al) (aLE h S) := by
 unfold aLE
 exact dZ (jX fun _ => jX fun _ => oF (by kernel_rfl)) <| gZ.nil
theorem a2D : gB Try.prog 116 aGU := dD (C := C0) ok0 (pf := aRQ) aLD (fn := Try.f116) (body := a2A) (kinds := [Kd.i .i64, Kd.i .i64]) (A := a2B) (T := aLE) (by kernel_rfl) (by kernel_rfl) (by kernel_rfl) (by kernel_rfl) (fun h S => t116 h S)
noncomputable def aRR : PF := FQ 116 aGU aRQ
theorem aLF : eT Try.prog aRR := iP a2D aLD
noncomputable def aTX := pE 116 aGU aTW
noncomputable def C30 : dK := cfg aTX
theorem bEE : C30.Ok := fU (C := C29) bED a2D
noncomputable def a2E : Code := (Try.f115.body).getD .skip
noncomputable def a2F : G.fC (List KI) := (Gm 0 [.reg 0 .v] Gz (Gn Gz (Gn (Gn Gz (Gn (Gm 1 [.reg 3 (.i .i64), .reg 6 .v, .reg 7 (.i .i64), .reg 8 (.i .i64)] (Gn Gz (Gn Gy (Gn (Gn (Gn Gz (Gn Gz (Gn Gy Gz))) Gz) Gz))) Gz) Gz)) (Gm 2 [.reg 3 (.i .i64)] Gz Gz))))
noncomputable def aV8 (h : Hp) (S : Nat → aD → Option Value) (r3 : Int) : Option Value :=
 some (Value.int .i64 r3)
noncomputable def PM (h : Hp) (S : Nat → aD → Option Value) (r3 : Int) (r6 : Value) (r7 r8 : Int) : Option Value :=
 bZ (mH r8 r7) fun b0 =>
 dA b0
 (eB 1 r6 r8 fun v1 =>
 aM h v1 fun v2 =>
 aU .i64 v2 fun i3 =>
 bS (mY i3 r3) fun b4 =>
 dA b4
 (some (Value.int .i64 i3))
 (wrap64 (Int.add r8 (Int.ofNat 1)) fun i5 =>
 S 1 (aD.i r3 (aD.v r6 (aD.i r7 (aD.i i5 aD.n))))))
 (S 2 (aD.i r3 aD.n))
noncomputable def aCO (h : Hp) (S : Nat → aD → Option Value) (r0 : Value) : Option Value :=
 dB r0 fun i0 =>
 S 1 (aD.i (Int.ofNat 0) (aD.v r0 (aD.i i0 (aD.i (Int.ofNat 0) aD.n))))
noncomputable def ZK (h : Hp) (S : Nat → aD → Option Value) : Nat → aD → Option Value := dR 0 (wV fun r0 => wN (aCO h S r0)) (dR 1 (wI fun r3 => wV fun r6 => wI fun r7 => wI fun r8 => wN (PM h S r3 r6 r7 r8)) (dR 2 (wI fun r3 => wN (aV8 h S r3)) (kR)))
noncomputable def aLG (args : List Value) (h : Hp) : Option Value := plainO (dU [Kd.v] args fun al => G.aI (ZK h) 1000000 0 al)
def a2G : Nat := 1 + (18 - 1)
theorem t115 (h : Hp) (S : Nat → aD → Option Value) : gZ (fun l al => G.bA iF cB oC (o9 env aRR a2G h) (pY env Try.f115.results.toList) (G.collect a2E a2F []) l S al) (ZK h S) := by
 unfold ZK
 exact dZ (mR fun _ => oF (by kernel_rfl)) <| dZ (jX fun _ => mR fun _ => jX fun _ => jX fun _ => oF (by kernel_rfl)) <| dZ (jX fun _ => oF (by kernel_rfl)) <| gZ.nil
theorem a2H : gB Try.prog 115 aLG := dD (C := C0) ok0 (pf := aRR) aLF (fn := Try.f115) (body := a2E) (kinds := [Kd.v]) (A := a2F) (T := ZK) (by kernel_rfl) (by kernel_rfl) (by kernel_rfl) (by kernel_rfl) (fun h S => t115 h S)
noncomputable def a2I : PF := FQ 115 aLG aRR
theorem aV9 : eT Try.prog a2I := iP a2H aLF
noncomputable def IL := pE 115 aLG aTX
noncomputable def C31 : dK := cfg IL
theorem bEF : C31.Ok := fU (C := C30) bEE a2H
noncomputable def a2J : Code := (Try.f103.body).getD .skip
def a2K : fC := (Am 0 [(0, .v), (1, .v), (2, .v)] Ao Az)
noncomputable def aCP (S : Sg) (r0 r1 r2 : Value) (h : Hp) : aJ :=
 bO h 135 (Array.toList (Value.cells r0)) fun a0 h0 =>
 aT 0 a0 fun v1 =>
 aM (Hp.mk (Hp.next h0) (Hp.next h0) (Hp.aF h0)) v1 fun v2 =>
 aQ (qQ IL v2 [r1] (Hp.mk (Hp.next h0) (Hp.next h0) (Hp.aF h0))) fun v3 h3 =>
 aU .i64 v3 fun i4 =>
 aT 0 a0 fun v5 =>
 aM (Hp.mk (Hp.next h0) (Hp.next h0) (Hp.aF h0)) v5 fun v6 =>
 aQ (qQ IL v6 [r2] (Hp.mk (Hp.next h0) (Hp.next h0) (Hp.aF h0))) fun v7 h7 =>
 aU .i64 v7 fun i8 =>
 aQ (bT (aGU [(Value.int .i64 i4), (Value.int .i64 i8)] (Hp.mk (Hp.next h0) (Hp.next h0) (Hp.aF h0))) fun v => some (v, (Hp.mk (Hp.next h0) (Hp.next h0) (Hp.aF h0)))) fun v9 h9 =>
 aU .i64 v9 fun i10 =>
 aT 1 a0 fun v11 =>
 aM (Hp.mk (Hp.next h0) (Hp.next h0) (Hp.aF h0)) v11 fun v12 =>
 aQ (qQ IL v12 [r1] (Hp.mk (Hp.next h0) (Hp.next h0) (Hp.aF h0))) fun v13 ZF =>
 aU .i64 v13 fun i14 =>
 aT 1 a0 fun v15 =>
 aM (Hp.mk (Hp.next h0) (Hp.next h0) (Hp.aF h0)) v15 fun v16 =>
 aQ (qQ IL v16 [r2] (Hp.mk (Hp.next h0) (Hp.ro h0) (Hp.aF h0))) fun v17 h17 =>
 aU .i64 v17 fun i18 =>
 aQ (bT (aGU [(Value.int .i64 i14), (Value.int .i64 i18)] h17) fun v => some (v, h17)) fun v19 h19 =>
 aU .i64 v19 fun i20 =>
 aQ (bF env h19 22 2 (List.toArray [(0, (Value.int .i64 i10)), (1, (Value.int .i64 i20))])) fun v21 h21 =>
 aQ (bT (aLG [v21] h21) fun v => some (v, h21)) fun v22 h22 =>
 aU .i64 v22 fun i23 =>
 some ((Value.int .i64 i23), h22)
noncomputable def aLH (S : Sg) : Sg := cZ 0 (uV fun r0 => uV fun r1 => uV fun r2 => uN (aCP S r0 r1 r2)) (jT)
noncomputable def aGV (args : List Value) (h : Hp) : aJ := bG [Kd.v, Kd.v, Kd.v] args fun al => aI aLH 1000000 0 al h
def a2L : Nat := 3 + (27 - 3)
theorem t103 (S : Sg) : jB (fun l vs h => bA (kF env IL a2L) (kG env Try.f103.results.toList) (collect a2J a2K []) l S vs h) (aLH S) := by
 unfold aLH
 exact dV (dY fun _ => dY fun _ => dY fun _ => jU fun _ => by kernel_rfl) <| Go.bK.jB.nil
theorem bEG : ∀ args h v h', aGV args h = some (v, h') → fB (C31) (.call 103 args.toArray h) (.ret v h') := by
 intro args h v h' e
 exact bI (C := C31) (fn := Try.f103) (body := a2J) (np := 3) (A := a2K) (T := aLH) (kinds := [Kd.v, Kd.v, Kd.v]) (by kernel_rfl) (by kernel_rfl) (by kernel_rfl) (by kernel_rfl) (dI dM) (by kernel_rfl) (fun S => t103 S) e
noncomputable def aLI := jR 103 aGV IL
noncomputable def C32 : dK := cfg aLI
theorem ok32 : C32.Ok := dG (C := C31) bEF bEG
noncomputable def B58 : Code := (Try.f58.body).getD .skip
def A58 : fC := (Am 0 [(0, .v), (1, .v)] Ao (An Ao (An (An (An Ao (An Az (An Ao (An Az (An Ao (An Az Ao)))))) Ao) (An Ao (An (An Ao (An (Am 1 [(1, .v), (4, .v), (7, .v), (9, .v), (40, .v), (41, .i .i64), (42, .i .i64)] (An Ao (An Az (An (An (An Ao (An (An Ao (An Az Ao)) Ao)) Ao) Ao))) Ao) Ao)) (Am 2 [(4, .v), (7, .v), (9, .v)] Ao Ao))))))
noncomputable def aLJ (S : Sg) (r4 r7 r9 : Value) (h : Hp) : aJ :=
 bC 5 h r7 fun v0 =>
 fA 5 h r4 v0 fun h1 =>
 bC 5 h1 r4 fun v2 => some (Value.tuple (List.toArray [v2, r9, (Value.int .i64 (Int.ofNat 0))]), h1)
noncomputable def aEL (S : Sg) (r1 r4 : Value) (r7 r9 r40 : Value) (r41 r42 : Int) (h : Hp) : aJ :=
 bZ (mH r42 r41) fun b0 =>
 dA b0
 (eB 1 r40 r42 fun v1 =>
 aM h v1 fun v2 =>
 aU .i64 v2 fun i3 =>
 bT (fM env h 22 r1 none (some (Value.int .i64 r42)) none) fun v4 =>
 aQ (bT (F90 [v4, (Value.int .i64 i3)] h) fun v => some (v, h)) fun v5 h5 =>
 dS v5 fun b6 =>
 dA b6
 (bT (jK env 71 (List.toArray [])) fun v7 =>
 fA 5 h5 r4 v7 fun h8 =>
 bC 5 h8 r4 fun v9 => some (Value.tuple (List.toArray [v9, (Value.slice none 0 0), (Value.int .i64 (Int.ofNat 5))]), h8))
 (bT (jK env 76 (List.toArray [(0, (Value.int .i64 i3)), (1, (Value.int .i64 r42))])) fun v10 =>
 aQ (bF env h5 79 1 (List.toArray [(0, v10)])) fun v11 h11 =>
 aQ (dW env h11 #[79, 79] (List.toArray [r9, v11])) fun v12 h12 =>
 wrap64 (Int.add r42 (Int.ofNat 1)) fun i13 =>
 S 1 (AL.v r1 (AL.v r4 (AL.v r7 (AL.v v12 (AL.v r40 (AL.i r41 (AL.i i13 AL.n))))))) h12))
 (S 2 (AL.v r4 (AL.v r7 (AL.v r9 AL.n))) h)
noncomputable def aLK (S : Sg) (r0 r1 : Value) (h : Hp) : aJ :=
 bO h 25 (Array.toList (Value.cells r0)) fun a0 h0 =>
 bO h0 71 [(Value.slice none 0 0), (Value.slice none 0 0), (Value.slice none 0 0), (Value.slice none 0 0), (Value.map none)] fun a1 h1 =>
 bC 4 h1 a0 fun v2 =>
 aQ (dJ F63 [v2] h1) fun v3 h3 =>
 gY v3 0 fun v4 =>
 gY v3 1 fun v5 =>
 aU .i64 v5 fun i6 =>
 bO h3 71 [(Value.slice none 0 0), (Value.slice none 0 0), (Value.slice none 0 0), (Value.slice none 0 0), (Value.map none)] fun a7 h7 =>
 fA 5 h7 a7 v4 fun h8 =>
 bS (mY i6 (Int.ofNat 0)) fun b9 =>
 dA b9
 (bT (jK env 71 (List.toArray [])) fun v10 =>
 fA 5 h8 a1 v10 fun h11 =>
 bC 5 h11 a1 fun v12 => some (Value.tuple (List.toArray [v12, (Value.slice none 0 0), (Value.int .i64 i6)]), h11))
 (dB r1 fun i13 =>
 aT 0 a7 fun v14 =>
 aT 3 v14 fun v15 =>
 aM h8 v15 fun v16 =>
 dB v16 fun i17 =>
 bS (mY i13 i17) fun b18 =>
 dA b18
 (bT (jK env 71 (List.toArray [])) fun v19 =>
 fA 5 h8 a1 v19 fun h20 =>
 bC 5 h20 a1 fun v21 => some (Value.tuple (List.toArray [v21, (Value.slice none 0 0), (Value.int .i64 (Int.ofNat 3))]), h20))
 (aT 0 a7 fun v22 =>
 aT 2 v22 fun v23 =>
 aM h8 v23 fun v24 =>
 dB v24 fun i25 =>
 aQ (bT (F53 [(Value.int .i64 i25), r1] h8) fun v => some (v, h8)) fun v26 h26 =>
 dS v26 fun b27 =>
 bS b27 fun b28 =>
 dA b28
 (bT (jK env 71 (List.toArray [])) fun v29 =>
 fA 5 h26 a1 v29 fun h30 =>
 bC 5 h30 a1 fun v31 => some (Value.tuple (List.toArray [v31, (Value.slice none 0 0), (Value.int .i64 (Int.ofNat 4))]), h30))
 (dB r1 fun i32 =>
 S 1 (AL.v r1 (AL.v a1 (AL.v a7 (AL.v (Value.slice none 0 0) (AL.v r1 (AL.i i32 (AL.i (Int.ofNat 0) AL.n))))))) h26)))
noncomputable def T58 (S : Sg) : Sg := cZ 0 (uV fun r0 => uV fun r1 => uN (aLK S r0 r1)) (cZ 1 (uV fun r1 => uV fun r4 => uV fun r7 => uV fun r9 => uV fun r40 => uI fun r41 => uI fun r42 => uN (aEL S r1 r4 r7 r9 r40 r41 r42)) (cZ 2 (uV fun r4 => uV fun r7 => uV fun r9 => uN (aLJ S r4 r7 r9)) (jT)))
noncomputable def F58 (args : List Value) (h : Hp) : aJ := bG [Kd.v, Kd.v] args fun al => aI T58 1000000 0 al h
def bEI : Nat := 2 + (62 - 2)
theorem t58 (S : Sg) : jB (fun l vs h => bA (kF env aLI bEI) (kG env Try.f58.results.toList) (collect B58 A58 []) l S vs h) (T58 S) := by
 unfold T58
 exact dV (dY fun _ => dY fun _ => jU fun _ => by kernel_rfl) <| dV (dY fun _ => dY fun _ => dY fun _ => dY fun _ => dY fun _ => kL fun _ => kL fun _ => jU fun _ => by kernel_rfl) <| dV (dY fun _ => dY fun _ => dY fun _ => jU fun _ => by kernel_rfl) <| Go.bK.jB.nil
theorem r58 : ∀ args h v h', F58 args h = some (v, h') → fB (C32) (.call 58 args.toArray h) (.ret v h') := by
 intro args h v h' e
 exact bI (C := C32) (fn := Try.f58) (body := B58) (np := 2) (A := A58) (T := T58) (kinds := [Kd.v, Kd.v]) (by kernel_rfl) (by kernel_rfl) (by kernel_rfl) (by kernel_rfl) (dI dM) (by kernel_rfl) (fun S => t58 S) e
noncomputable def aLL := jR 58 F58 aLI
noncomputable def C33 : dK := cfg aLL
theorem bEJ : C33.Ok := dG (C := C32) ok32 r58
noncomputable def B91 : Code := (Try.f91.body).getD .skip
def A91 : fC := (Am 0 [(0, .v)] Ao (An (An Ao (An Az Ao)) Az))
noncomputable def a2M (S : Sg) (r0 : Value) (h : Hp) : aJ :=
 bT (qR env .eql 22 (Operand.tmp 3) (Operand.const (Value.slice none 0 0)) r0 (Value.slice none 0 0)) fun v0 =>
 dS v0 fun b1 =>
 dA b1
 (some ((Value.slice none 0 0), h))
 (aQ (bF env h 22 0 (List.toArray [])) fun v2 h2 =>
 aQ (dW env h2 #[22, 22] (List.toArray [v2, r0])) fun v3 h3 =>
 some (v3, h3))
noncomputable def T91 (S : Sg) : Sg := cZ 0 (uV fun r0 => uN (a2M S r0)) (jT)
noncomputable def F91 (args : List Value) (h : Hp) : aJ := bG [Kd.v] args fun al => aI T91 1000000 0 al h
def bEL : Nat := 1 + (8 - 1)
theorem t91 (S : Sg) : jB (fun l vs h => bA (kF env aLL bEL) (kG env Try.f91.results.toList) (collect B91 A91 []) l S vs h) (T91 S) := by
 unfold T91
 exact dV (dY fun _ => jU fun _ => by kernel_rfl) <| Go.bK.jB.nil
theorem r91 : ∀ args h v h', F91 args h = some (v, h') → fB (C33) (.call 91 args.toArray h) (.ret v h') := by
 intro args h v h' e
 exact bI (C := C33) (fn := Try.f91) (body := B91) (np := 1) (A := A91) (T := T91) (kinds := [Kd.v]) (by kernel_rfl) (by kernel_rfl) (by kernel_rfl) (by kernel_rfl) (dI dM) (by kernel_rfl) (fun S => t91 S) e
noncomputable def aLM := jR 91 F91 aLL
noncomputable def C34 : dK := cfg aLM
theorem bEM : C34.Ok := dG (C := C33) bEJ r91
noncomputable def B59 : Code := (Try.f59.body).getD .skip
def A59 : fC := (Am 0 [(0, .v), (1, .v)] Ao Az)
noncomputable def a2N (S : Sg) (r0 r1 : Value) (h : Hp) : aJ :=
 bO h 71 (Array.toList (Value.cells r0)) fun a0 h0 =>
 bO h0 87 (Array.toList (Value.cells r1)) fun a1 h1 =>
 aT 0 a0 fun v2 =>
 aT 1 v2 fun v3 =>
 aM h1 v3 fun v4 =>
 dB v4 fun i5 =>
 bT (fM env h1 87 a1 none (some (Value.int .i64 i5)) none) fun v6 =>
 aQ (dJ F91 [v6] h1) fun v7 h7 =>
 some (v7, h7)
noncomputable def T59 (S : Sg) : Sg := cZ 0 (uV fun r0 => uV fun r1 => uN (a2N S r0 r1)) (jT)
noncomputable def F59 (args : List Value) (h : Hp) : aJ := bG [Kd.v, Kd.v] args fun al => aI T59 1000000 0 al h
def bEO : Nat := 2 + (11 - 2)
theorem t59 (S : Sg) : jB (fun l vs h => bA (kF env aLM bEO) (kG env Try.f59.results.toList) (collect B59 A59 []) l S vs h) (T59 S) := by
 unfold T59
 exact dV (dY fun _ => dY fun _ => jU fun _ => by kernel_rfl) <| Go.bK.jB.nil
theorem r59 : ∀ args h v h', F59 args h = some (v, h') → fB (C34) (.call 59 args.toArray h) (.ret v h') := by
 intro args h v h' e
 exact bI (C := C34) (fn := Try.f59) (body := B59) (np := 2) (A := A59) (T := T59) (kinds := [Kd.v, Kd.v]) (by kernel_rfl) (by kernel_rfl) (by kernel_rfl) (by kernel_rfl) (dI dM) (by kernel_rfl) (fun S => t59 S) e
noncomputable def aLN := jR 59 F59 aLM
noncomputable def C35 : dK := cfg aLN
theorem bEP : C35.Ok := dG (C := C34) bEM r59
noncomputable def B22 : Code := (Try.f22.body).getD .skip
def A22 : fC := (Am 0 [(0, .v), (1, .v)] Ao (An Ao (An (An Ao (An Az Ao)) Az)))
noncomputable def a2O (S : Sg) (r0 r1 : Value) (h : Hp) : aJ :=
 bO h 25 (Array.toList (Value.cells r0)) fun a0 h0 =>
 bC 4 h0 a0 fun v1 =>
 aQ (dJ F58 [v1, r1] h0) fun v2 h2 =>
 gY v2 0 fun v3 =>
 gY v2 1 fun v4 =>
 gY v2 2 fun v5 =>
 aU .i64 v5 fun i6 =>
 bO h2 71 [(Value.slice none 0 0), (Value.slice none 0 0), (Value.slice none 0 0), (Value.slice none 0 0), (Value.map none)] fun a7 h7 =>
 fA 5 h7 a7 v3 fun h8 =>
 bS (mY i6 (Int.ofNat 0)) fun b9 =>
 dA b9
 (some (Value.tuple (List.toArray [(Value.slice none 0 0), (Value.int .i64 i6)]), h8))
 (bC 5 h8 a7 fun v10 =>
 bC 5 h8 a7 fun v11 =>
 aQ (aQ (dJ F60 [v11, v4] (Hp.mk (Hp.next h8) (Hp.next h8) (Hp.aF h8))) fun v _ => dA (kT v) (some (v, h8)) none) fun v12 h12 =>
 aQ (dJ F59 [v10, v12] h12) fun v13 ZF =>
 some (Value.tuple (List.toArray [v13, (Value.int .i64 (Int.ofNat 0))]), ZF))
noncomputable def T22 (S : Sg) : Sg := cZ 0 (uV fun r0 => uV fun r1 => uN (a2O S r0 r1)) (jT)
noncomputable def F22 (args : List Value) (h : Hp) : aJ := bG [Kd.v, Kd.v] args fun al => aI T22 1000000 0 al h
def bEQ : Nat := 2 + (24 - 2)
theorem t22 (S : Sg) : jB (fun l vs h => bA (kF env aLN bEQ) (kG env Try.f22.results.toList) (collect B22 A22 []) l S vs h) (T22 S) := by
 unfold T22
 exact dV (dY fun _ => dY fun _ => jU fun _ => by kernel_rfl) <| Go.bK.jB.nil
theorem TT : ∀ args h v h', F22 args h = some (v, h') → fB (C35) (.call 22 args.toArray h) (.ret v h') := by
 intro args h v h' e
 exact bI (C := C35) (fn := Try.f22) (body := B22) (np := 2) (A := A22) (T := T22) (kinds := [Kd.v, Kd.v]) (by kernel_rfl) (by kernel_rfl) (by kernel_rfl) (by kernel_rfl) (dI dM) (by kernel_rfl) (fun S => t22 S) e
noncomputable def aLO := jR 22 F22 aLN
noncomputable def C36 : dK := cfg aLO
theorem bER : C36.Ok := dG (C := C35) bEP TT
noncomputable def B62 : Code := (Try.f62.body).getD .skip
def A62 : fC := (Am 0 [(0, .v), (1, .v)] Ao Az)
noncomputable def aLP (S : Sg) (r0 r1 : Value) (h : Hp) : aJ :=
 bO h 71 (Array.toList (Value.cells r0)) fun a0 h0 =>
 bC 5 h0 a0 fun v1 =>
 aQ (dJ F60 [v1, r1] h0) fun v2 h2 =>
 aQ (bT (F77 [v2] h2) fun v => some (v, h2)) fun v3 h3 =>
 bT (jK env 87 (List.toArray [])) fun v4 =>
 bT (qR env .eql 87 (Operand.tmp 8) (Operand.tmp 9) v3 v4) fun v5 =>
 dS v5 fun b6 =>
 some ((Value.bool b6), h3)
noncomputable def T62 (S : Sg) : Sg := cZ 0 (uV fun r0 => uV fun r1 => uN (aLP S r0 r1)) (jT)
noncomputable def F62 (args : List Value) (h : Hp) : aJ := bG [Kd.v, Kd.v] args fun al => aI T62 1000000 0 al h
def bES : Nat := 2 + (11 - 2)
theorem t62 (S : Sg) : jB (fun l vs h => bA (kF env aLO bES) (kG env Try.f62.results.toList) (collect B62 A62 []) l S vs h) (T62 S) := by
 unfold T62
 exact dV (dY fun _ => dY fun _ => jU fun _ => by kernel_rfl) <| Go.bK.jB.nil
theorem r62 : ∀ args h v h', F62 args h = some (v, h') → fB (C36) (.call 62 args.toArray h) (.ret v h') := by
 intro args h v h' e
 exact bI (C := C36) (fn := Try.f62) (body := B62) (np := 2) (A := A62) (T := T62) (kinds := [Kd.v, Kd.v]) (by kernel_rfl) (by kernel_rfl) (by kernel_rfl) (by kernel_rfl) (dI dM) (by kernel_rfl) (fun S => t62 S) e
noncomputable def aLQ := jR 62 F62 aLO
noncomputable def C37 : dK := cfg aLQ
theorem bET : C37.Ok := dG (C := C36) bER r62
noncomputable def B24 : Code := (Try.f24.body).getD .skip
def A24 : fC := (Am 0 [(0, .v), (1, .v)] Ao (An Ao (An (An Ao (An Az Ao)) (An (An Ao (An Az Ao)) Az))))
noncomputable def aLR (S : Sg) (r0 r1 : Value) (h : Hp) : aJ :=
 bO h 25 (Array.toList (Value.cells r0)) fun a0 h0 =>
 bC 4 h0 a0 fun v1 =>
 aQ (dJ F58 [v1, r1] h0) fun v2 h2 =>
 gY v2 0 fun v3 =>
 gY v2 1 fun v4 =>
 gY v2 2 fun v5 =>
 aU .i64 v5 fun i6 =>
 bO h2 71 [(Value.slice none 0 0), (Value.slice none 0 0), (Value.slice none 0 0), (Value.slice none 0 0), (Value.map none)] fun a7 h7 =>
 fA 5 h7 a7 v3 fun h8 =>
 bS (mY i6 (Int.ofNat 0)) fun b9 =>
 dA b9
 (some (Value.tuple (List.toArray [(Value.int .i64 (Int.ofNat 0)), (Value.int .i64 i6)]), h8))
 (bC 5 h8 a7 fun v10 =>
 aQ (dJ F62 [v10, v4] h8) fun v11 h11 =>
 dS v11 fun b12 =>
 bS b12 fun b13 =>
 dA b13
 (some (Value.tuple (List.toArray [(Value.int .i64 (Int.ofNat 0)), (Value.int .i64 (Int.ofNat 9))]), h11))
 (bC 5 h11 a7 fun v14 =>
 aQ (bT (F54 [v14, v4] h11) fun v => some (v, h11)) fun v15 h15 =>
 aU .i64 v15 fun i16 =>
 some (Value.tuple (List.toArray [(Value.int .i64 i16), (Value.int .i64 (Int.ofNat 0))]), h15)))
noncomputable def T24 (S : Sg) : Sg := cZ 0 (uV fun r0 => uV fun r1 => uN (aLR S r0 r1)) (jT)
noncomputable def F24 (args : List Value) (h : Hp) : aJ := bG [Kd.v, Kd.v] args fun al => aI T24 1000000 0 al h
def bEV : Nat := 2 + (26 - 2)
theorem t24 (S : Sg) : jB (fun l vs h => bA (kF env aLQ bEV) (kG env Try.f24.results.toList) (collect B24 A24 []) l S vs h) (T24 S) := by
 unfold T24
 exact dV (dY fun _ => dY fun _ => jU fun _ => by kernel_rfl) <| Go.bK.jB.nil
theorem r24 : ∀ args h v h', F24 args h = some (v, h') → fB (C37) (.call 24 args.toArray h) (.ret v h') := by
 intro args h v h' e
 exact bI (C := C37) (fn := Try.f24) (body := B24) (np := 2) (A := A24) (T := T24) (kinds := [Kd.v, Kd.v]) (by kernel_rfl) (by kernel_rfl) (by kernel_rfl) (by kernel_rfl) (dI dM) (by kernel_rfl) (fun S => t24 S) e
noncomputable def aLS := jR 24 F24 aLQ
noncomputable def C38 : dK := cfg aLS
theorem a2S : C38.Ok := dG (C := C37) bET r24
noncomputable abbrev a2T := aLS
theorem okE : (cfg a2T).Ok := a2S
end Go.Proofs.Ytdpicdnpiihaaaa.K
