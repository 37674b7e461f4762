/- Functions told, second part. -/
import Derived.Test.YtgggdoahikgacaaGreatDoorKept
open Go Go.Eng
set_option maxRecDepth 100000
set_option linter.unusedVariables false
namespace Go.Proofs.YtgggdoahikgacaaGreatDoor.K
/-! ceroplast/ceroplastlaw01.span -/
noncomputable def B12 : Code := (Tryz.f12.body).getD .skip
noncomputable def A12 : G.Ann (List KI) := (G.Ann.node (some (0, [KI.reg 0 (Kd.i .i64), KI.reg 1 (Kd.i .i64)])) G.Ann.nil (G.Ann.node none G.Ann.nil G.Ann.nil))
noncomputable def P12x0 (h : Hp) (S : Nat → PAL → Option Value) (r0 : Int) (r1 : Int) : Option Value :=
  optK (buildV env 34 (List.toArray [(0, (Value.int .i64 r0)), (1, (Value.int .i64 r1))])) fun v0 =>
  aggK v0 fun l1 => ifB (Nat.beq (lenR l1) 2) (segR 0 l1 [(Value.int .i64 (Int.ofNat 0)), (Value.int .i64 (Int.ofNat 0))] fun c1 =>
  dropR c1 0 fun d2 => takeR d2 2 fun l2 => some (Value.agg (Array.mk l2))) none
noncomputable def T12 (h : Hp) (S : Nat → PAL → Option Value) : Nat → PAL → Option Value := tabPC 0 (wI fun r0 => wI fun r1 => wN (P12x0 h S r0 r1)) (tabPN)
noncomputable def F12 (args : List Value) (h : Hp) : Option Value := plainO (packArgs [Kd.i .i64, Kd.i .i64] args fun al => G.rec' (T12 h) 1000000 0 al)
def nt12 : Nat := 2 + (8 - 2)
theorem q12x0 (h : Hp) (S : Nat → PAL → Option Value) (r0 : Int) (r1 : Int) : P12x0 h S r0 r1 = G.stepAt packP unpackP evXV (regP env pf10 nt12 h) (finP env Tryz.f12.results.toList) (G.collect B12 A12 []) 0 S (PAL.i r0 (PAL.i r1 PAL.n)) := by kernel_rfl
theorem t12 (h : Hp) (S : Nat → PAL → Option Value) : TabP (fun l al => G.stepAt packP unpackP evXV (regP env pf10 nt12 h) (finP env Tryz.f12.results.toList) (G.collect B12 A12 []) l S al) (T12 h S) := by
  unfold T12
  refine TabP.cons 0 (fun vs0 q e0 => ?_) ?_
  · obtain ⟨r0, vs1, rfl, e1⟩ := wI_some e0
    obtain ⟨r1, vs2, rfl, e2⟩ := wI_some e1
    obtain ⟨rfl, ee⟩ := wN_some e2
    exact (q12x0 h S r0 r1).symm.trans ee
  exact TabP.nil
theorem r12 : PSound Tryz.prog 12 F12 := fun_soundP (C := C0) ok0 (pf := pf10) pfok10 (fn := Tryz.f12) (body := B12) (kinds := [Kd.i .i64, Kd.i .i64]) (A := A12) (T := T12) (by kernel_rfl) (by kernel_rfl) (by kernel_rfl) (by kernel_rfl) (fun h S => t12 h S)
noncomputable def pf11 : PF := pfC 12 F12 pf10
theorem pfok11 : PfSound Tryz.prog pf11 := pfC_ok r12 pfok10
noncomputable def orc11 := orcP 12 F12 orc10
noncomputable def C11 : Cfg := cfg orc11
theorem ok11 : C11.Ok := orcP_ok (C := C10) ok10 r12
/-! ceroplast/ceroplastlaw01.Shop -/
noncomputable def B4 : Code := (Tryz.f4.body).getD .skip
def A4 : Ann := (Ann.node (some (0, [(0, Kd.b)])) Ann.nil (Ann.node none Ann.nil (Ann.node none (Ann.node none Ann.nil (Ann.node none Ann.nil Ann.nil)) (Ann.node none Ann.nil Ann.nil))))
noncomputable def P4x0 (S : Sg) (r0 : Bool) (h : Hp) : CRes :=
  allocK h 25 [(Value.int .i64 (Int.ofNat 0)), (Value.slice none 0 0), (Value.slice none 0 0)] fun a0 h0 =>
  pairK (optK (F12 [(Value.int .i64 (Int.ofNat 1)), (Value.int .i64 (Int.ofNat 2))] h0) fun v => some (v, h0)) fun v1 h1 =>
  pairK (optK (F12 [(Value.int .i64 (Int.ofNat 2)), (Value.int .i64 (Int.ofNat 4))] h1) fun v => some (v, h1)) fun v2 h2 =>
  pairK (optK (F12 [(Value.int .i64 (Int.ofNat 5)), (Value.int .i64 (Int.ofNat 6))] h2) fun v => some (v, h2)) fun v3 h3 =>
  pairK (buildSliceV env h3 46 3 (List.toArray [(0, v1), (1, v2), (2, v3)])) fun v4 h4 =>
  optK (buildV env 48 (List.toArray [(0, (Value.string (ByteArray.mk #[97, 115, 115, 97, 115, 115, 105, 110]))), (1, (Value.int .i64 (Int.ofNat 3))), (2, v4)])) fun v5 =>
  pairK (optK (F12 [(Value.int .i64 (Int.ofNat 1)), (Value.int .i64 (Int.ofNat 1))] h4) fun v => some (v, h4)) fun v6 h6 =>
  pairK (optK (F12 [(Value.int .i64 (Int.ofNat 2)), (Value.int .i64 (Int.ofNat 2))] h6) fun v => some (v, h6)) fun v7 h7 =>
  pairK (optK (F12 [(Value.int .i64 (Int.ofNat 0)), (Value.int .i64 (Int.ofNat 1))] h7) fun v => some (v, h7)) fun v8 h8 =>
  pairK (buildSliceV env h8 46 3 (List.toArray [(0, v6), (1, v7), (2, v8)])) fun v9 h9 =>
  optK (buildV env 48 (List.toArray [(0, (Value.string (ByteArray.mk #[113, 117, 101, 101, 110]))), (1, (Value.int .i64 (Int.ofNat 2))), (2, v9)])) fun v10 =>
  pairK (buildSliceV env h9 22 2 (List.toArray [(0, v5), (1, v10)])) fun v11 h11 =>
  pairK (buildSliceV env h11 49 3 (List.toArray [(0, (Value.int .i64 (Int.ofNat 1))), (1, (Value.int .i64 (Int.ofNat 1))), (2, (Value.int .i64 (Int.ofNat 0)))])) fun v12 h12 =>
  optK (buildV env 51 (List.toArray [(0, (Value.string (ByteArray.mk #[98, 114, 117, 116, 117, 115]))), (1, v12)])) fun v13 =>
  pairK (buildSliceV env h12 49 3 (List.toArray [(0, (Value.int .i64 (Int.ofNat 2))), (1, (Value.int .i64 (Int.ofNat 1))), (2, (Value.int .i64 (Int.ofNat 1)))])) fun v14 h14 =>
  optK (buildV env 51 (List.toArray [(0, (Value.string (ByteArray.mk #[99, 97, 115, 115, 105, 117, 115]))), (1, v14)])) fun v15 =>
  pairK (buildSliceV env h14 49 3 (List.toArray [(0, (Value.int .i64 (Int.ofNat 2))), (1, (Value.int .i64 (Int.ofNat 2))), (2, (Value.int .i64 (Int.ofNat 0)))])) fun v16 h16 =>
  optK (buildV env 51 (List.toArray [(0, (Value.string (ByteArray.mk #[114, 101, 103, 105, 110, 97]))), (1, v16)])) fun v17 =>
  pairK (buildSliceV env h16 23 3 (List.toArray [(0, v13), (1, v15), (2, v17)])) fun v18 h18 =>
  optK (buildV env 25 (List.toArray [(0, (Value.int .i64 (Int.ofNat 3))), (1, v11), (2, v18)])) fun v19 =>
  allocK h18 25 [(Value.int .i64 (Int.ofNat 0)), (Value.slice none 0 0), (Value.slice none 0 0)] fun a20 h20 =>
  storeNK 3 h20 a20 v19 fun h21 =>
  ifB r0
  (ptrAddK 2 a20 fun v22 =>
  load1K h21 v22 fun v23 =>
  pairK (buildSliceV env h21 49 3 (List.toArray [(0, (Value.int .i64 (Int.ofNat 2))), (1, (Value.int .i64 (Int.ofNat 2))), (2, (Value.int .i64 (Int.ofNat 2)))])) fun v24 h24 =>
  optK (buildV env 51 (List.toArray [(0, (Value.string (ByteArray.mk #[108, 97, 116, 101]))), (1, v24)])) fun v25 =>
  pairK (buildSliceV env h24 23 1 (List.toArray [(0, v25)])) fun v26 h26 =>
  pairK (appendV env h26 #[23, 23] (List.toArray [v23, v26])) fun v27 h27 =>
  ptrAddK 2 a20 fun v28 =>
  store1K h27 v28 v27 fun h29 =>
  loadNK 3 h29 a20 fun v30 =>
  storeNK 3 h29 a0 v30 fun h31 =>
  loadNK 3 h31 a0 fun v32 => some (v32, h31))
  (loadNK 3 h21 a20 fun v33 =>
  storeNK 3 h21 a0 v33 fun h34 =>
  loadNK 3 h34 a0 fun v35 => some (v35, h34))
noncomputable def T4 (S : Sg) : Sg := tabC 0 (uB fun r0 => uN fun h => P4x0 S r0 h) (tabN)
noncomputable def F4 (args : List Value) (h : Hp) : CRes := packVals [Kd.b] args fun al => rec' T4 1000000 0 al h
def nt4 : Nat := 1 + (32 - 1)
theorem q4x0 (S : Sg) (r0 : Bool) (h : Hp) : P4x0 S r0 h = stepAt (regK env orc11 (nt4)) (finK env Tryz.f4.results.toList) (collect B4 A4 []) 0 S (AL.b r0 AL.n) h := by kernel_rfl
theorem t4 (S : Sg) : Tab (fun l vs h => stepAt (regK env orc11 nt4) (finK env Tryz.f4.results.toList) (collect B4 A4 []) l S vs h) (T4 S) := by
  unfold T4
  refine Tab.cons 0 (fun vs0 h q e0 => ?_) ?_
  · obtain ⟨r0, vs1, rfl, e1⟩ := uB_some e0
    obtain ⟨rfl, ee⟩ := uN_some e1
    exact (q4x0 S r0 h).symm.trans ee
  exact Tab.nil
theorem r4 : ∀ args h v h', F4 args h = some (v, h') → Runs (C11) (.call 4 args.toArray h) (.ret v h') := by
  intro args h v h' e
  exact fun_sound (C := C11) (fn := Tryz.f4) (body := B4) (np := 1) (A := A4) (T := T4) (kinds := [Kd.b]) (by kernel_rfl) (by kernel_rfl) (by kernel_rfl) (by kernel_rfl) (regK_ok env_ok) (by kernel_rfl) (fun S => t4 S) e
noncomputable def orc12 := orcQ 4 F4 orc11
noncomputable def C12 : Cfg := cfg orc12
theorem ok12 : C12.Ok := orcQ_ok (C := C11) ok11 r4
/-! ceroplast/mould.mouldError$1 -/
noncomputable def B71 : Code := (Tryz.f71.body).getD .skip
noncomputable def A71 : G.Ann (List KI) := (G.Ann.node (some (0, [KI.reg 0 (Kd.v), KI.reg 1 (Kd.v)])) G.Ann.nil (G.Ann.node none G.Ann.nil G.Ann.nil))
noncomputable def P71x0 (h : Hp) (S : Nat → PAL → Option Value) (r0 : Value) (r1 : Value) : Option Value :=
  forceL (Array.toList (Value.cells r0)) fun c0 =>
  nthR c0 0 fun v1 =>
  ptrAddK 0 r1 fun v2 =>
  load1K h v2 fun v3 =>
  optK (binV env .eql 9 (Operand.tmp 5) (Operand.tmp 7) v1 v3) fun v4 =>
  boolK v4 fun b5 =>
  some (Value.bool b5)
noncomputable def T71 (h : Hp) (S : Nat → PAL → Option Value) : Nat → PAL → Option Value := tabPC 0 (wV fun r0 => wV fun r1 => wN (P71x0 h S r0 r1)) (tabPN)
noncomputable def F71 (args : List Value) (h : Hp) : Option Value := plainO (packArgs [Kd.v, Kd.v] args fun al => G.rec' (T71 h) 1000000 0 al)
def nt71 : Nat := 2 + (9 - 2)
theorem q71x0 (h : Hp) (S : Nat → PAL → Option Value) (r0 : Value) (r1 : Value) : P71x0 h S r0 r1 = G.stepAt packP unpackP evXV (regP env pf11 nt71 h) (finP env Tryz.f71.results.toList) (G.collect B71 A71 []) 0 S (PAL.v r0 (PAL.v r1 PAL.n)) := by kernel_rfl
theorem t71 (h : Hp) (S : Nat → PAL → Option Value) : TabP (fun l al => G.stepAt packP unpackP evXV (regP env pf11 nt71 h) (finP env Tryz.f71.results.toList) (G.collect B71 A71 []) l S al) (T71 h S) := by
  unfold T71
  refine TabP.cons 0 (fun vs0 q e0 => ?_) ?_
  · obtain ⟨r0, vs1, rfl, e1⟩ := wV_some e0
    obtain ⟨r1, vs2, rfl, e2⟩ := wV_some e1
    obtain ⟨rfl, ee⟩ := wN_some e2
    exact (q71x0 h S r0 r1).symm.trans ee
  exact TabP.nil
theorem r71 : PSound Tryz.prog 71 F71 := fun_soundP (C := C0) ok0 (pf := pf11) pfok11 (fn := Tryz.f71) (body := B71) (kinds := [Kd.v, Kd.v]) (A := A71) (T := T71) (by kernel_rfl) (by kernel_rfl) (by kernel_rfl) (by kernel_rfl) (fun h S => t71 h S)
noncomputable def pf12 : PF := pfC 71 F71 pf11
theorem pfok12 : PfSound Tryz.prog pf12 := pfC_ok r71 pfok11
noncomputable def orc13 := orcP 71 F71 orc12
noncomputable def C13 : Cfg := cfg orc13
theorem ok13 : C13.Ok := orcP_ok (C := C12) ok12 r71
/-! ceroplast/check.Within -/
noncomputable def B31 : Code := (Tryz.f31.body).getD .skip
noncomputable def A31 : G.Ann (List KI) := (G.Ann.node (some (0, [KI.reg 0 (Kd.i .i64), KI.reg 1 (Kd.i .i64), KI.reg 2 (Kd.v)])) G.Ann.nil (G.Ann.node none (G.Ann.node none G.Ann.nil (G.Ann.node none (G.Ann.node (some (1, [KI.reg 0 (Kd.i .i64), KI.reg 1 (Kd.i .i64), KI.reg 9 (Kd.v), KI.reg 10 (Kd.i .i64), KI.reg 11 (Kd.i .i64)])) (G.Ann.node none G.Ann.nil (G.Ann.node none (G.Ann.node none G.Ann.nil G.Ann.nil) (G.Ann.node none (G.Ann.node none (G.Ann.node none G.Ann.nil (G.Ann.node none G.Ann.nil (G.Ann.node none (G.Ann.node none G.Ann.nil G.Ann.nil) G.Ann.nil))) G.Ann.nil) G.Ann.nil))) G.Ann.nil) G.Ann.nil)) (G.Ann.node (some (2, [])) G.Ann.nil G.Ann.nil)))
noncomputable def P31x2 (h : Hp) (S : Nat → PAL → Option Value) : Option Value :=
  some (Value.bool true)
noncomputable def P31x1 (h : Hp) (S : Nat → PAL → Option Value) (r0 : Int) (r1 : Int) (r9 : Value) (r10 : Int) (r11 : Int) : Option Value :=
  boolZ (ltZ r11 r10) fun b0 =>
  ifB b0
  (idxSK 1 r9 r11 fun v1 =>
  load1K h v1 fun v2 =>
  intK .i64 v2 fun i3 =>
  boolZ (ltZ i3 r0) fun b4 =>
  ifB b4
  (some (Value.bool false))
  (boolZ (ltZ r1 i3) fun b5 =>
  ifB b5
  (some (Value.bool false))
  (wrap64 (Int.add r11 (Int.ofNat 1)) fun i6 =>
  S 1 (PAL.i r0 (PAL.i r1 (PAL.v r9 (PAL.i r10 (PAL.i i6 PAL.n))))))))
  (S 2 PAL.n)
noncomputable def P31x0 (h : Hp) (S : Nat → PAL → Option Value) (r0 : Int) (r1 : Int) (r2 : Value) : Option Value :=
  lenSK r2 fun i0 =>
  S 1 (PAL.i r0 (PAL.i r1 (PAL.v r2 (PAL.i i0 (PAL.i (Int.ofNat 0) PAL.n)))))
noncomputable def T31 (h : Hp) (S : Nat → PAL → Option Value) : Nat → PAL → Option Value := tabPC 0 (wI fun r0 => wI fun r1 => wV fun r2 => wN (P31x0 h S r0 r1 r2)) (tabPC 1 (wI fun r0 => wI fun r1 => wV fun r9 => wI fun r10 => wI fun r11 => wN (P31x1 h S r0 r1 r9 r10 r11)) (tabPC 2 (wN (P31x2 h S)) (tabPN)))
noncomputable def F31 (args : List Value) (h : Hp) : Option Value := plainO (packArgs [Kd.i .i64, Kd.i .i64, Kd.v] args fun al => G.rec' (T31 h) 1000000 0 al)
def nt31 : Nat := 3 + (24 - 3)
theorem q31x2 (h : Hp) (S : Nat → PAL → Option Value) : P31x2 h S = G.stepAt packP unpackP evXV (regP env pf12 nt31 h) (finP env Tryz.f31.results.toList) (G.collect B31 A31 []) 2 S PAL.n := by kernel_rfl
theorem q31x1 (h : Hp) (S : Nat → PAL → Option Value) (r0 : Int) (r1 : Int) (r9 : Value) (r10 : Int) (r11 : Int) : P31x1 h S r0 r1 r9 r10 r11 = G.stepAt packP unpackP evXV (regP env pf12 nt31 h) (finP env Tryz.f31.results.toList) (G.collect B31 A31 []) 1 S (PAL.i r0 (PAL.i r1 (PAL.v r9 (PAL.i r10 (PAL.i r11 PAL.n))))) := by kernel_rfl
theorem q31x0 (h : Hp) (S : Nat → PAL → Option Value) (r0 : Int) (r1 : Int) (r2 : Value) : P31x0 h S r0 r1 r2 = G.stepAt packP unpackP evXV (regP env pf12 nt31 h) (finP env Tryz.f31.results.toList) (G.collect B31 A31 []) 0 S (PAL.i r0 (PAL.i r1 (PAL.v r2 PAL.n))) := by kernel_rfl
theorem t31 (h : Hp) (S : Nat → PAL → Option Value) : TabP (fun l al => G.stepAt packP unpackP evXV (regP env pf12 nt31 h) (finP env Tryz.f31.results.toList) (G.collect B31 A31 []) l S al) (T31 h S) := by
  unfold T31
  refine TabP.cons 0 (fun vs0 q e0 => ?_) ?_
  · obtain ⟨r0, vs1, rfl, e1⟩ := wI_some e0
    obtain ⟨r1, vs2, rfl, e2⟩ := wI_some e1
    obtain ⟨r2, vs3, rfl, e3⟩ := wV_some e2
    obtain ⟨rfl, ee⟩ := wN_some e3
    exact (q31x0 h S r0 r1 r2).symm.trans ee
  refine TabP.cons 1 (fun vs0 q e0 => ?_) ?_
  · obtain ⟨r0, vs1, rfl, e1⟩ := wI_some e0
    obtain ⟨r1, vs2, rfl, e2⟩ := wI_some e1
    obtain ⟨r9, vs3, rfl, e3⟩ := wV_some e2
    obtain ⟨r10, vs4, rfl, e4⟩ := wI_some e3
    obtain ⟨r11, vs5, rfl, e5⟩ := wI_some e4
    obtain ⟨rfl, ee⟩ := wN_some e5
    exact (q31x1 h S r0 r1 r9 r10 r11).symm.trans ee
  refine TabP.cons 2 (fun vs0 q e0 => ?_) ?_
  · 
    obtain ⟨rfl, ee⟩ := wN_some e0
    exact (q31x2 h S).symm.trans ee
  exact TabP.nil
theorem r31 : PSound Tryz.prog 31 F31 := fun_soundP (C := C0) ok0 (pf := pf12) pfok12 (fn := Tryz.f31) (body := B31) (kinds := [Kd.i .i64, Kd.i .i64, Kd.v]) (A := A31) (T := T31) (by kernel_rfl) (by kernel_rfl) (by kernel_rfl) (by kernel_rfl) (fun h S => t31 h S)
noncomputable def pf13 : PF := pfC 31 F31 pf12
theorem pfok13 : PfSound Tryz.prog pf13 := pfC_ok r31 pfok12
noncomputable def orc14 := orcP 31 F31 orc13
noncomputable def C14 : Cfg := cfg orc14
theorem ok14 : C14.Ok := orcP_ok (C := C13) ok13 r31
/-! ceroplast/mould.isLetter -/
noncomputable def B49 : Code := (Tryz.f49.body).getD .skip
noncomputable def A49 : G.Ann (List KI) := (G.Ann.node (some (0, [KI.reg 0 (Kd.i .u8)])) G.Ann.nil (G.Ann.node none G.Ann.nil G.Ann.nil))
noncomputable def P49x0 (h : Hp) (S : Nat → PAL → Option Value) (r0 : Int) : Option Value :=
  boolN (ltZ r0 (Int.ofNat 97)) fun b0 =>
  ifB b0
  (boolN (ltZ (Int.ofNat 122) r0) fun b1 =>
  some (Value.bool b1))
  (some (Value.bool false))
noncomputable def T49 (h : Hp) (S : Nat → PAL → Option Value) : Nat → PAL → Option Value := tabPC 0 (wI fun r0 => wN (P49x0 h S r0)) (tabPN)
noncomputable def F49 (args : List Value) (h : Hp) : Option Value := plainO (packArgs [Kd.i .u8] args fun al => G.rec' (T49 h) 1000000 0 al)
def nt49 : Nat := 1 + (9 - 1)
theorem q49x0 (h : Hp) (S : Nat → PAL → Option Value) (r0 : Int) : P49x0 h S r0 = G.stepAt packP unpackP evXV (regP env pf13 nt49 h) (finP env Tryz.f49.results.toList) (G.collect B49 A49 []) 0 S (PAL.i r0 PAL.n) := by kernel_rfl
theorem t49 (h : Hp) (S : Nat → PAL → Option Value) : TabP (fun l al => G.stepAt packP unpackP evXV (regP env pf13 nt49 h) (finP env Tryz.f49.results.toList) (G.collect B49 A49 []) l S al) (T49 h S) := by
  unfold T49
  refine TabP.cons 0 (fun vs0 q e0 => ?_) ?_
  · obtain ⟨r0, vs1, rfl, e1⟩ := wI_some e0
    obtain ⟨rfl, ee⟩ := wN_some e1
    exact (q49x0 h S r0).symm.trans ee
  exact TabP.nil
theorem r49 : PSound Tryz.prog 49 F49 := fun_soundP (C := C0) ok0 (pf := pf13) pfok13 (fn := Tryz.f49) (body := B49) (kinds := [Kd.i .u8]) (A := A49) (T := T49) (by kernel_rfl) (by kernel_rfl) (by kernel_rfl) (by kernel_rfl) (fun h S => t49 h S)
noncomputable def pf14 : PF := pfC 49 F49 pf13
theorem pfok14 : PfSound Tryz.prog pf14 := pfC_ok r49 pfok13
noncomputable def orc15 := orcP 49 F49 orc14
noncomputable def C15 : Cfg := cfg orc15
theorem ok15 : C15.Ok := orcP_ok (C := C14) ok14 r49
/-! ceroplast/mould.isDigit -/
noncomputable def B50 : Code := (Tryz.f50.body).getD .skip
noncomputable def A50 : G.Ann (List KI) := (G.Ann.node (some (0, [KI.reg 0 (Kd.i .u8)])) G.Ann.nil (G.Ann.node none G.Ann.nil G.Ann.nil))
noncomputable def P50x0 (h : Hp) (S : Nat → PAL → Option Value) (r0 : Int) : Option Value :=
  boolN (ltZ r0 (Int.ofNat 48)) fun b0 =>
  ifB b0
  (boolN (ltZ (Int.ofNat 57) r0) fun b1 =>
  some (Value.bool b1))
  (some (Value.bool false))
noncomputable def T50 (h : Hp) (S : Nat → PAL → Option Value) : Nat → PAL → Option Value := tabPC 0 (wI fun r0 => wN (P50x0 h S r0)) (tabPN)
noncomputable def F50 (args : List Value) (h : Hp) : Option Value := plainO (packArgs [Kd.i .u8] args fun al => G.rec' (T50 h) 1000000 0 al)
def nt50 : Nat := 1 + (9 - 1)
theorem q50x0 (h : Hp) (S : Nat → PAL → Option Value) (r0 : Int) : P50x0 h S r0 = G.stepAt packP unpackP evXV (regP env pf14 nt50 h) (finP env Tryz.f50.results.toList) (G.collect B50 A50 []) 0 S (PAL.i r0 PAL.n) := by kernel_rfl
theorem t50 (h : Hp) (S : Nat → PAL → Option Value) : TabP (fun l al => G.stepAt packP unpackP evXV (regP env pf14 nt50 h) (finP env Tryz.f50.results.toList) (G.collect B50 A50 []) l S al) (T50 h S) := by
  unfold T50
  refine TabP.cons 0 (fun vs0 q e0 => ?_) ?_
  · obtain ⟨r0, vs1, rfl, e1⟩ := wI_some e0
    obtain ⟨rfl, ee⟩ := wN_some e1
    exact (q50x0 h S r0).symm.trans ee
  exact TabP.nil
theorem r50 : PSound Tryz.prog 50 F50 := fun_soundP (C := C0) ok0 (pf := pf14) pfok14 (fn := Tryz.f50) (body := B50) (kinds := [Kd.i .u8]) (A := A50) (T := T50) (by kernel_rfl) (by kernel_rfl) (by kernel_rfl) (by kernel_rfl) (fun h S => t50 h S)
noncomputable def pf15 : PF := pfC 50 F50 pf14
theorem pfok15 : PfSound Tryz.prog pf15 := pfC_ok r50 pfok14
noncomputable def orc16 := orcP 50 F50 orc15
noncomputable def C16 : Cfg := cfg orc16
theorem ok16 : C16.Ok := orcP_ok (C := C15) ok15 r50
/-! ceroplast/mould.Name -/
noncomputable def B29 : Code := (Tryz.f29.body).getD .skip
def A29 : Ann := (Ann.node (some (0, [(0, Kd.v)])) Ann.nil (Ann.node none (Ann.node none Ann.nil (Ann.node none (Ann.node none Ann.nil Ann.nil) Ann.nil)) (Ann.node none (Ann.node none Ann.nil (Ann.node none (Ann.node (some (1, [(0, Kd.v), (16, Kd.i .i64), (17, Kd.i .i64)])) (Ann.node none Ann.nil (Ann.node none (Ann.node none Ann.nil Ann.nil) (Ann.node none (Ann.node none (Ann.node none Ann.nil (Ann.node none Ann.nil (Ann.node none (Ann.node none Ann.nil Ann.nil) Ann.nil))) Ann.nil) Ann.nil))) Ann.nil) Ann.nil)) (Ann.node (some (2, [])) Ann.nil Ann.nil))))
noncomputable def P29x2 (S : Sg) (h : Hp) : CRes :=
  some ((Value.bool true), h)
noncomputable def P29x1 (S : Sg) (r0 : Value) (r16 : Int) (r17 : Int) (h : Hp) : CRes :=
  boolZ (ltZ r17 r16) fun b0 =>
  ifB b0
  (optK (indexV env 9 r0 (Value.int .i64 r17)) fun v1 =>
  intK .u8 v1 fun i2 =>
  pairK (optK (F49 [(Value.int .u8 i2)] h) fun v => some (v, h)) fun v3 h3 =>
  boolK v3 fun b4 =>
  boolN b4 fun b5 =>
  ifB b5
  (optK (indexV env 9 r0 (Value.int .i64 r17)) fun v6 =>
  intK .u8 v6 fun i7 =>
  pairK (optK (F50 [(Value.int .u8 i7)] h3) fun v => some (v, h3)) fun v8 h8 =>
  boolK v8 fun b9 =>
  boolN b9 fun b10 =>
  ifB b10
  (optK (indexV env 9 r0 (Value.int .i64 r17)) fun v11 =>
  intK .u8 v11 fun i12 =>
  boolN (eqZ i12 (Int.ofNat 46)) fun b13 =>
  ifB b13
  (some ((Value.bool false), h8))
  (wrap64 (Int.add r17 (Int.ofNat 1)) fun i14 =>
  S 1 (AL.v r0 (AL.i r16 (AL.i i14 AL.n))) h8))
  (wrap64 (Int.add r17 (Int.ofNat 1)) fun i15 =>
  S 1 (AL.v r0 (AL.i r16 (AL.i i15 AL.n))) h8))
  (wrap64 (Int.add r17 (Int.ofNat 1)) fun i16 =>
  S 1 (AL.v r0 (AL.i r16 (AL.i i16 AL.n))) h3))
  (S 2 AL.n h)
noncomputable def P29x0 (S : Sg) (r0 : Value) (h : Hp) : CRes :=
  lenBK r0 fun i0 =>
  pairK (buildSliceV env h 49 1 (List.toArray [(0, (Value.int .i64 i0))])) fun v1 h1 =>
  pairK (optK (F31 [(Value.int .i64 (Int.ofNat 1)), (Value.int .i64 (Int.ofNat 16)), v1] h1) fun v => some (v, h1)) fun v2 h2 =>
  boolK v2 fun b3 =>
  boolN b3 fun b4 =>
  ifB b4
  (some ((Value.bool false), h2))
  (optK (indexV env 9 r0 (Value.int .i64 (Int.ofNat 0))) fun v5 =>
  intK .u8 v5 fun i6 =>
  pairK (optK (F49 [(Value.int .u8 i6)] h2) fun v => some (v, h2)) fun v7 h7 =>
  boolK v7 fun b8 =>
  boolN b8 fun b9 =>
  ifB b9
  (some ((Value.bool false), h7))
  (lenBK r0 fun i10 =>
  S 1 (AL.v r0 (AL.i i10 (AL.i (Int.ofNat 0) AL.n))) h7))
noncomputable def T29 (S : Sg) : Sg := tabC 0 (uV fun r0 => uN fun h => P29x0 S r0 h) (tabC 1 (uV fun r0 => uI fun r16 => uI fun r17 => uN fun h => P29x1 S r0 r16 r17 h) (tabC 2 (uN fun h => P29x2 S  h) (tabN)))
noncomputable def F29 (args : List Value) (h : Hp) : CRes := packVals [Kd.v] args fun al => rec' T29 1000000 0 al h
def nt29 : Nat := 1 + (39 - 1)
theorem q29x2 (S : Sg) (h : Hp) : P29x2 S  h = stepAt (regK env orc16 (nt29)) (finK env Tryz.f29.results.toList) (collect B29 A29 []) 2 S AL.n h := by kernel_rfl
theorem q29x1 (S : Sg) (r0 : Value) (r16 : Int) (r17 : Int) (h : Hp) : P29x1 S r0 r16 r17 h = stepAt (regK env orc16 (nt29)) (finK env Tryz.f29.results.toList) (collect B29 A29 []) 1 S (AL.v r0 (AL.i r16 (AL.i r17 AL.n))) h := by kernel_rfl
theorem q29x0 (S : Sg) (r0 : Value) (h : Hp) : P29x0 S r0 h = stepAt (regK env orc16 (nt29)) (finK env Tryz.f29.results.toList) (collect B29 A29 []) 0 S (AL.v r0 AL.n) h := by kernel_rfl
theorem t29 (S : Sg) : Tab (fun l vs h => stepAt (regK env orc16 nt29) (finK env Tryz.f29.results.toList) (collect B29 A29 []) l S vs h) (T29 S) := by
  unfold T29
  refine Tab.cons 0 (fun vs0 h q e0 => ?_) ?_
  · obtain ⟨r0, vs1, rfl, e1⟩ := uV_some e0
    obtain ⟨rfl, ee⟩ := uN_some e1
    exact (q29x0 S r0 h).symm.trans ee
  refine Tab.cons 1 (fun vs0 h q e0 => ?_) ?_
  · obtain ⟨r0, vs1, rfl, e1⟩ := uV_some e0
    obtain ⟨r16, vs2, rfl, e2⟩ := uI_some e1
    obtain ⟨r17, vs3, rfl, e3⟩ := uI_some e2
    obtain ⟨rfl, ee⟩ := uN_some e3
    exact (q29x1 S r0 r16 r17 h).symm.trans ee
  refine Tab.cons 2 (fun vs0 h q e0 => ?_) ?_
  · 
    obtain ⟨rfl, ee⟩ := uN_some e0
    exact (q29x2 S  h).symm.trans ee
  exact Tab.nil
theorem r29 : ∀ args h v h', F29 args h = some (v, h') → Runs (C16) (.call 29 args.toArray h) (.ret v h') := by
  intro args h v h' e
  exact fun_sound (C := C16) (fn := Tryz.f29) (body := B29) (np := 1) (A := A29) (T := T29) (kinds := [Kd.v]) (by kernel_rfl) (by kernel_rfl) (by kernel_rfl) (by kernel_rfl) (regK_ok env_ok) (by kernel_rfl) (fun S => t29 S) e
noncomputable def orc17 := orcQ 29 F29 orc16
noncomputable def C17 : Cfg := cfg orc17
theorem ok17 : C17.Ok := orcQ_ok (C := C16) ok16 r29
/-! slices.IndexFunc[[]ceroplast/api.MoMould,ceroplast/api.MoMould] -/
noncomputable def B87 : Code := (Tryz.f87.body).getD .skip
def A87 : Ann := (Ann.node (some (0, [(0, Kd.v), (1, Kd.v)])) Ann.nil (Ann.node none (Ann.node none Ann.nil (Ann.node none (Ann.node (some (1, [(0, Kd.v), (1, Kd.v), (7, Kd.i .i64), (8, Kd.i .i64)])) (Ann.node none Ann.nil (Ann.node none (Ann.node none Ann.nil Ann.nil) (Ann.node none (Ann.node none (Ann.node none Ann.nil (Ann.node none Ann.nil (Ann.node none (Ann.node none Ann.nil Ann.nil) Ann.nil))) Ann.nil) Ann.nil))) Ann.nil) Ann.nil)) (Ann.node (some (2, [])) Ann.nil Ann.nil)))
noncomputable def P87x2 (S : Sg) (h : Hp) : CRes :=
  some ((Value.int .i64 (Int.negSucc 0)), h)
noncomputable def P87x1 (S : Sg) (r0 : Value) (r1 : Value) (r7 : Int) (r8 : Int) (h : Hp) : CRes :=
  boolZ (ltZ r8 r7) fun b0 =>
  ifB b0
  (idxSK 3 r0 r8 fun v1 =>
  loadNK 3 h v1 fun v2 =>
  pairK (callF orc17 r1 [v2] h) fun v3 h3 =>
  boolK v3 fun b4 =>
  ifB b4
  (some ((Value.int .i64 r8), h3))
  (wrap64 (Int.add r8 (Int.ofNat 1)) fun i5 =>
  S 1 (AL.v r0 (AL.v r1 (AL.i r7 (AL.i i5 AL.n)))) h3))
  (S 2 AL.n h)
noncomputable def P87x0 (S : Sg) (r0 : Value) (r1 : Value) (h : Hp) : CRes :=
  lenSK r0 fun i0 =>
  S 1 (AL.v r0 (AL.v r1 (AL.i i0 (AL.i (Int.ofNat 0) AL.n)))) h
noncomputable def T87 (S : Sg) : Sg := tabC 0 (uV fun r0 => uV fun r1 => uN fun h => P87x0 S r0 r1 h) (tabC 1 (uV fun r0 => uV fun r1 => uI fun r7 => uI fun r8 => uN fun h => P87x1 S r0 r1 r7 r8 h) (tabC 2 (uN fun h => P87x2 S  h) (tabN)))
noncomputable def F87 (args : List Value) (h : Hp) : CRes := packVals [Kd.v, Kd.v] args fun al => rec' T87 1000000 0 al h
def nt87 : Nat := 2 + (19 - 2)
theorem q87x2 (S : Sg) (h : Hp) : P87x2 S  h = stepAt (regK env orc17 (nt87)) (finK env Tryz.f87.results.toList) (collect B87 A87 []) 2 S AL.n h := by kernel_rfl
theorem q87x1 (S : Sg) (r0 : Value) (r1 : Value) (r7 : Int) (r8 : Int) (h : Hp) : P87x1 S r0 r1 r7 r8 h = stepAt (regK env orc17 (nt87)) (finK env Tryz.f87.results.toList) (collect B87 A87 []) 1 S (AL.v r0 (AL.v r1 (AL.i r7 (AL.i r8 AL.n)))) h := by kernel_rfl
theorem q87x0 (S : Sg) (r0 : Value) (r1 : Value) (h : Hp) : P87x0 S r0 r1 h = stepAt (regK env orc17 (nt87)) (finK env Tryz.f87.results.toList) (collect B87 A87 []) 0 S (AL.v r0 (AL.v r1 AL.n)) h := by kernel_rfl
theorem t87 (S : Sg) : Tab (fun l vs h => stepAt (regK env orc17 nt87) (finK env Tryz.f87.results.toList) (collect B87 A87 []) l S vs h) (T87 S) := by
  unfold T87
  refine Tab.cons 0 (fun vs0 h q e0 => ?_) ?_
  · obtain ⟨r0, vs1, rfl, e1⟩ := uV_some e0
    obtain ⟨r1, vs2, rfl, e2⟩ := uV_some e1
    obtain ⟨rfl, ee⟩ := uN_some e2
    exact (q87x0 S r0 r1 h).symm.trans ee
  refine Tab.cons 1 (fun vs0 h q e0 => ?_) ?_
  · obtain ⟨r0, vs1, rfl, e1⟩ := uV_some e0
    obtain ⟨r1, vs2, rfl, e2⟩ := uV_some e1
    obtain ⟨r7, vs3, rfl, e3⟩ := uI_some e2
    obtain ⟨r8, vs4, rfl, e4⟩ := uI_some e3
    obtain ⟨rfl, ee⟩ := uN_some e4
    exact (q87x1 S r0 r1 r7 r8 h).symm.trans ee
  refine Tab.cons 2 (fun vs0 h q e0 => ?_) ?_
  · 
    obtain ⟨rfl, ee⟩ := uN_some e0
    exact (q87x2 S  h).symm.trans ee
  exact Tab.nil
theorem r87 : ∀ args h v h', F87 args h = some (v, h') → Runs (C17) (.call 87 args.toArray h) (.ret v h') := by
  intro args h v h' e
  exact fun_sound (C := C17) (fn := Tryz.f87) (body := B87) (np := 2) (A := A87) (T := T87) (kinds := [Kd.v, Kd.v]) (by kernel_rfl) (by kernel_rfl) (by kernel_rfl) (by kernel_rfl) (regK_ok env_ok) (by kernel_rfl) (fun S => t87 S) e
noncomputable def orc18 := orcQ 87 F87 orc17
noncomputable def C18 : Cfg := cfg orc18
theorem ok18 : C18.Ok := orcQ_ok (C := C17) ok17 r87
/-! slices.ContainsFunc[[]ceroplast/api.MoMould,ceroplast/api.MoMould] -/
noncomputable def B70 : Code := (Tryz.f70.body).getD .skip
def A70 : Ann := (Ann.node (some (0, [(0, Kd.v), (1, Kd.v)])) Ann.nil (Ann.node none Ann.nil Ann.nil))
noncomputable def P70x0 (S : Sg) (r0 : Value) (r1 : Value) (h : Hp) : CRes :=
  pairK (callQ F87 [r0, r1] h) fun v0 h0 =>
  intK .i64 v0 fun i1 =>
  boolN (ltZ i1 (Int.ofNat 0)) fun b2 =>
  some ((Value.bool b2), h0)
noncomputable def T70 (S : Sg) : Sg := tabC 0 (uV fun r0 => uV fun r1 => uN fun h => P70x0 S r0 r1 h) (tabN)
noncomputable def F70 (args : List Value) (h : Hp) : CRes := packVals [Kd.v, Kd.v] args fun al => rec' T70 1000000 0 al h
def nt70 : Nat := 2 + (9 - 2)
theorem q70x0 (S : Sg) (r0 : Value) (r1 : Value) (h : Hp) : P70x0 S r0 r1 h = stepAt (regK env orc18 (nt70)) (finK env Tryz.f70.results.toList) (collect B70 A70 []) 0 S (AL.v r0 (AL.v r1 AL.n)) h := by kernel_rfl
theorem t70 (S : Sg) : Tab (fun l vs h => stepAt (regK env orc18 nt70) (finK env Tryz.f70.results.toList) (collect B70 A70 []) l S vs h) (T70 S) := by
  unfold T70
  refine Tab.cons 0 (fun vs0 h q e0 => ?_) ?_
  · obtain ⟨r0, vs1, rfl, e1⟩ := uV_some e0
    obtain ⟨r1, vs2, rfl, e2⟩ := uV_some e1
    obtain ⟨rfl, ee⟩ := uN_some e2
    exact (q70x0 S r0 r1 h).symm.trans ee
  exact Tab.nil
theorem r70 : ∀ args h v h', F70 args h = some (v, h') → Runs (C18) (.call 70 args.toArray h) (.ret v h') := by
  intro args h v h' e
  exact fun_sound (C := C18) (fn := Tryz.f70) (body := B70) (np := 2) (A := A70) (T := T70) (kinds := [Kd.v, Kd.v]) (by kernel_rfl) (by kernel_rfl) (by kernel_rfl) (by kernel_rfl) (regK_ok env_ok) (by kernel_rfl) (fun S => t70 S) e
noncomputable def orc19 := orcQ 70 F70 orc18
noncomputable def C19 : Cfg := cfg orc19
theorem ok19 : C19.Ok := orcQ_ok (C := C18) ok18 r70
/-! ceroplast/check.First[ceroplast/api.Span] -/
noncomputable def B72 : Code := (Tryz.f72.body).getD .skip
def A72 : Ann := (Ann.node (some (0, [(0, Kd.v), (1, Kd.v)])) Ann.nil (Ann.node none (Ann.node none Ann.nil (Ann.node none (Ann.node (some (1, [(0, Kd.v), (1, Kd.v), (9, Kd.v), (10, Kd.i .i64), (11, Kd.i .i64)])) (Ann.node none Ann.nil (Ann.node none (Ann.node none Ann.nil Ann.nil) (Ann.node none (Ann.node none (Ann.node none Ann.nil (Ann.node none Ann.nil (Ann.node none Ann.nil (Ann.node none (Ann.node none Ann.nil Ann.nil) Ann.nil)))) Ann.nil) Ann.nil))) Ann.nil) Ann.nil)) (Ann.node (some (2, [])) Ann.nil Ann.nil)))
noncomputable def P72x2 (S : Sg) (h : Hp) : CRes :=
  some (Value.tuple (List.toArray [(Value.int .i64 (Int.ofNat 0)), (Value.int .i64 (Int.ofNat 0))]), h)
noncomputable def P72x1 (S : Sg) (r0 : Value) (r1 : Value) (r9 : Value) (r10 : Int) (r11 : Int) (h : Hp) : CRes :=
  boolZ (ltZ r11 r10) fun b0 =>
  ifB b0
  (idxSK 2 r9 r11 fun v1 =>
  loadNK 2 h v1 fun v2 =>
  allocK h 34 [(Value.int .i64 (Int.ofNat 0)), (Value.int .i64 (Int.ofNat 0))] fun a3 h3 =>
  storeNK 2 h3 a3 v2 fun h4 =>
  optK (sliceV env h4 46 r0 none (some (Value.int .i64 r11)) none) fun v5 =>
  loadNK 2 h4 a3 fun v6 =>
  pairK (callF orc19 r1 [v5, v6] h4) fun v7 h7 =>
  intK .i64 v7 fun i8 =>
  boolN (eqZ i8 (Int.ofNat 0)) fun b9 =>
  ifB b9
  (some (Value.tuple (List.toArray [(Value.int .i64 r11), (Value.int .i64 i8)]), h7))
  (wrap64 (Int.add r11 (Int.ofNat 1)) fun i10 =>
  S 1 (AL.v r0 (AL.v r1 (AL.v r9 (AL.i r10 (AL.i i10 AL.n))))) h7))
  (S 2 AL.n h)
noncomputable def P72x0 (S : Sg) (r0 : Value) (r1 : Value) (h : Hp) : CRes :=
  lenSK r0 fun i0 =>
  S 1 (AL.v r0 (AL.v r1 (AL.v r0 (AL.i i0 (AL.i (Int.ofNat 0) AL.n))))) h
noncomputable def T72 (S : Sg) : Sg := tabC 0 (uV fun r0 => uV fun r1 => uN fun h => P72x0 S r0 r1 h) (tabC 1 (uV fun r0 => uV fun r1 => uV fun r9 => uI fun r10 => uI fun r11 => uN fun h => P72x1 S r0 r1 r9 r10 r11 h) (tabC 2 (uN fun h => P72x2 S  h) (tabN)))
noncomputable def F72 (args : List Value) (h : Hp) : CRes := packVals [Kd.v, Kd.v] args fun al => rec' T72 1000000 0 al h
def nt72 : Nat := 2 + (27 - 2)
theorem q72x2 (S : Sg) (h : Hp) : P72x2 S  h = stepAt (regK env orc19 (nt72)) (finK env Tryz.f72.results.toList) (collect B72 A72 []) 2 S AL.n h := by kernel_rfl
theorem q72x1 (S : Sg) (r0 : Value) (r1 : Value) (r9 : Value) (r10 : Int) (r11 : Int) (h : Hp) : P72x1 S r0 r1 r9 r10 r11 h = stepAt (regK env orc19 (nt72)) (finK env Tryz.f72.results.toList) (collect B72 A72 []) 1 S (AL.v r0 (AL.v r1 (AL.v r9 (AL.i r10 (AL.i r11 AL.n))))) h := by kernel_rfl
theorem q72x0 (S : Sg) (r0 : Value) (r1 : Value) (h : Hp) : P72x0 S r0 r1 h = stepAt (regK env orc19 (nt72)) (finK env Tryz.f72.results.toList) (collect B72 A72 []) 0 S (AL.v r0 (AL.v r1 AL.n)) h := by kernel_rfl
theorem t72 (S : Sg) : Tab (fun l vs h => stepAt (regK env orc19 nt72) (finK env Tryz.f72.results.toList) (collect B72 A72 []) l S vs h) (T72 S) := by
  unfold T72
  refine Tab.cons 0 (fun vs0 h q e0 => ?_) ?_
  · obtain ⟨r0, vs1, rfl, e1⟩ := uV_some e0
    obtain ⟨r1, vs2, rfl, e2⟩ := uV_some e1
    obtain ⟨rfl, ee⟩ := uN_some e2
    exact (q72x0 S r0 r1 h).symm.trans ee
  refine Tab.cons 1 (fun vs0 h q e0 => ?_) ?_
  · obtain ⟨r0, vs1, rfl, e1⟩ := uV_some e0
    obtain ⟨r1, vs2, rfl, e2⟩ := uV_some e1
    obtain ⟨r9, vs3, rfl, e3⟩ := uV_some e2
    obtain ⟨r10, vs4, rfl, e4⟩ := uI_some e3
    obtain ⟨r11, vs5, rfl, e5⟩ := uI_some e4
    obtain ⟨rfl, ee⟩ := uN_some e5
    exact (q72x1 S r0 r1 r9 r10 r11 h).symm.trans ee
  refine Tab.cons 2 (fun vs0 h q e0 => ?_) ?_
  · 
    obtain ⟨rfl, ee⟩ := uN_some e0
    exact (q72x2 S  h).symm.trans ee
  exact Tab.nil
theorem r72 : ∀ args h v h', F72 args h = some (v, h') → Runs (C19) (.call 72 args.toArray h) (.ret v h') := by
  intro args h v h' e
  exact fun_sound (C := C19) (fn := Tryz.f72) (body := B72) (np := 2) (A := A72) (T := T72) (kinds := [Kd.v, Kd.v]) (by kernel_rfl) (by kernel_rfl) (by kernel_rfl) (by kernel_rfl) (regK_ok env_ok) (by kernel_rfl) (fun S => t72 S) e
noncomputable def orc20 := orcQ 72 F72 orc19
noncomputable def C20 : Cfg := cfg orc20
theorem ok20 : C20.Ok := orcQ_ok (C := C19) ok19 r72
/-! ceroplast/mould.lastError -/
noncomputable def B73 : Code := (Tryz.f73.body).getD .skip
def A73 : Ann := (Ann.node (some (0, [(0, Kd.v), (1, Kd.v)])) Ann.nil (Ann.node none (Ann.node none (Ann.node none Ann.nil (Ann.node none (Ann.node none Ann.nil Ann.nil) (Ann.node none Ann.nil (Ann.node none (Ann.node none Ann.nil Ann.nil) Ann.nil)))) Ann.nil) (Ann.node none Ann.nil Ann.nil)))
noncomputable def P73x0 (S : Sg) (r0 : Value) (r1 : Value) (h : Hp) : CRes :=
  allocK h 34 (Array.toList (Value.cells r1)) fun a0 h0 =>
  ptrAddK 0 a0 fun v1 =>
  load1K h0 v1 fun v2 =>
  intK .i64 v2 fun i3 =>
  ptrAddK 1 a0 fun v4 =>
  load1K h0 v4 fun v5 =>
  intK .i64 v5 fun i6 =>
  pairK (buildSliceV env h0 49 2 (List.toArray [(0, (Value.int .i64 i3)), (1, (Value.int .i64 i6))])) fun v7 h7 =>
  pairK (optK (F31 [(Value.int .i64 (Int.ofNat 0)), (Value.int .i64 (Int.ofNat 6)), v7] h7) fun v => some (v, h7)) fun v8 h8 =>
  boolK v8 fun b9 =>
  boolN b9 fun b10 =>
  ifB b10
  (some ((Value.int .i64 (Int.ofNat 7)), h8))
  (ptrAddK 0 a0 fun v11 =>
  load1K h8 v11 fun v12 =>
  intK .i64 v12 fun i13 =>
  ptrAddK 1 a0 fun v14 =>
  load1K h8 v14 fun v15 =>
  intK .i64 v15 fun i16 =>
  boolZ (ltZ i16 i13) fun b17 =>
  ifB b17
  (some ((Value.int .i64 (Int.ofNat 2)), h8))
  (some ((Value.int .i64 (Int.ofNat 0)), h8)))
noncomputable def T73 (S : Sg) : Sg := tabC 0 (uV fun r0 => uV fun r1 => uN fun h => P73x0 S r0 r1 h) (tabN)
noncomputable def F73 (args : List Value) (h : Hp) : CRes := packVals [Kd.v, Kd.v] args fun al => rec' T73 1000000 0 al h
def nt73 : Nat := 2 + (19 - 2)
theorem q73x0 (S : Sg) (r0 : Value) (r1 : Value) (h : Hp) : P73x0 S r0 r1 h = stepAt (regK env orc20 (nt73)) (finK env Tryz.f73.results.toList) (collect B73 A73 []) 0 S (AL.v r0 (AL.v r1 AL.n)) h := by kernel_rfl
theorem t73 (S : Sg) : Tab (fun l vs h => stepAt (regK env orc20 nt73) (finK env Tryz.f73.results.toList) (collect B73 A73 []) l S vs h) (T73 S) := by
  unfold T73
  refine Tab.cons 0 (fun vs0 h q e0 => ?_) ?_
  · obtain ⟨r0, vs1, rfl, e1⟩ := uV_some e0
    obtain ⟨r1, vs2, rfl, e2⟩ := uV_some e1
    obtain ⟨rfl, ee⟩ := uN_some e2
    exact (q73x0 S r0 r1 h).symm.trans ee
  exact Tab.nil
theorem r73 : ∀ args h v h', F73 args h = some (v, h') → Runs (C20) (.call 73 args.toArray h) (.ret v h') := by
  intro args h v h' e
  exact fun_sound (C := C20) (fn := Tryz.f73) (body := B73) (np := 2) (A := A73) (T := T73) (kinds := [Kd.v, Kd.v]) (by kernel_rfl) (by kernel_rfl) (by kernel_rfl) (by kernel_rfl) (regK_ok env_ok) (by kernel_rfl) (fun S => t73 S) e
noncomputable def orc21 := orcQ 73 F73 orc20
noncomputable def C21 : Cfg := cfg orc21
theorem ok21 : C21.Ok := orcQ_ok (C := C20) ok20 r73
/-! ceroplast/mould.mouldError -/
noncomputable def B53 : Code := (Tryz.f53.body).getD .skip
def A53 : Ann := (Ann.node (some (0, [(0, Kd.i .i64), (1, Kd.v), (2, Kd.v)])) Ann.nil (Ann.node none (Ann.node none (Ann.node none Ann.nil (Ann.node none (Ann.node none Ann.nil Ann.nil) (Ann.node none Ann.nil (Ann.node none (Ann.node none Ann.nil Ann.nil) (Ann.node none Ann.nil (Ann.node none (Ann.node none Ann.nil Ann.nil) (Ann.node none Ann.nil (Ann.node none (Ann.node none Ann.nil Ann.nil) Ann.nil)))))))) Ann.nil) (Ann.node none Ann.nil (Ann.node none Ann.nil Ann.nil))))
noncomputable def P53x0 (S : Sg) (r0 : Int) (r1 : Value) (r2 : Value) (h : Hp) : CRes :=
  allocK h 48 (Array.toList (Value.cells r2)) fun a0 h0 =>
  ptrAddK 0 a0 fun v1 =>
  load1K h0 v1 fun v2 =>
  pairK (callQ F29 [v2] h0) fun v3 h3 =>
  boolK v3 fun b4 =>
  boolN b4 fun b5 =>
  ifB b5
  (some ((Value.int .i64 (Int.ofNat 6)), h3))
  (pairK (callQ F70 [r1, (Value.func (.func 71) (List.toArray []) (List.toArray [a0]))] h3) fun v6 h6 =>
  boolK v6 fun b7 =>
  ifB b7
  (some ((Value.int .i64 (Int.ofNat 5)), h6))
  (ptrAddK 1 a0 fun v8 =>
  load1K h6 v8 fun v9 =>
  intK .i64 v9 fun i10 =>
  pairK (buildSliceV env h6 49 1 (List.toArray [(0, (Value.int .i64 i10))])) fun v11 h11 =>
  pairK (optK (F31 [(Value.int .i64 (Int.ofNat 1)), (Value.int .i64 (Int.ofNat 4)), v11] h11) fun v => some (v, h11)) fun v12 h12 =>
  boolK v12 fun b13 =>
  boolN b13 fun b14 =>
  ifB b14
  (some ((Value.int .i64 (Int.ofNat 7)), h12))
  (ptrAddK 2 a0 fun v15 =>
  load1K h12 v15 fun v16 =>
  lenSK v16 fun i17 =>
  boolN (eqZ i17 r0) fun b18 =>
  ifB b18
  (some ((Value.int .i64 (Int.ofNat 3)), h12))
  (ptrAddK 2 a0 fun v19 =>
  load1K h12 v19 fun v20 =>
  pairK (callQ F72 [v20, (Value.func (.func 73) #[] #[])] h12) fun v21 h21 =>
  extK v21 0 fun v22 =>
  intK .i64 v22 fun i23 =>
  extK v21 1 fun v24 =>
  intK .i64 v24 fun i25 =>
  some ((Value.int .i64 i25), h21)))))
noncomputable def T53 (S : Sg) : Sg := tabC 0 (uI fun r0 => uV fun r1 => uV fun r2 => uN fun h => P53x0 S r0 r1 r2 h) (tabN)
noncomputable def F53 (args : List Value) (h : Hp) : CRes := packVals [Kd.i .i64, Kd.v, Kd.v] args fun al => rec' T53 1000000 0 al h
def nt53 : Nat := 3 + (37 - 3)
theorem q53x0 (S : Sg) (r0 : Int) (r1 : Value) (r2 : Value) (h : Hp) : P53x0 S r0 r1 r2 h = stepAt (regK env orc21 (nt53)) (finK env Tryz.f53.results.toList) (collect B53 A53 []) 0 S (AL.i r0 (AL.v r1 (AL.v r2 AL.n))) h := by kernel_rfl
theorem t53 (S : Sg) : Tab (fun l vs h => stepAt (regK env orc21 nt53) (finK env Tryz.f53.results.toList) (collect B53 A53 []) l S vs h) (T53 S) := by
  unfold T53
  refine Tab.cons 0 (fun vs0 h q e0 => ?_) ?_
  · obtain ⟨r0, vs1, rfl, e1⟩ := uI_some e0
    obtain ⟨r1, vs2, rfl, e2⟩ := uV_some e1
    obtain ⟨r2, vs3, rfl, e3⟩ := uV_some e2
    obtain ⟨rfl, ee⟩ := uN_some e3
    exact (q53x0 S r0 r1 r2 h).symm.trans ee
  exact Tab.nil
theorem r53 : ∀ args h v h', F53 args h = some (v, h') → Runs (C21) (.call 53 args.toArray h) (.ret v h') := by
  intro args h v h' e
  exact fun_sound (C := C21) (fn := Tryz.f53) (body := B53) (np := 3) (A := A53) (T := T53) (kinds := [Kd.i .i64, Kd.v, Kd.v]) (by kernel_rfl) (by kernel_rfl) (by kernel_rfl) (by kernel_rfl) (regK_ok env_ok) (by kernel_rfl) (fun S => t53 S) e
noncomputable def orc22 := orcQ 53 F53 orc21
noncomputable def C22 : Cfg := cfg orc22
theorem ok22 : C22.Ok := orcQ_ok (C := C21) ok21 r53
/-! ceroplast/mould.Check$1 -/
noncomputable def B52 : Code := (Tryz.f52.body).getD .skip
def A52 : Ann := (Ann.node (some (0, [(0, Kd.v), (1, Kd.v), (2, Kd.v)])) Ann.nil (Ann.node none Ann.nil Ann.nil))
noncomputable def P52x0 (S : Sg) (r0 : Value) (r1 : Value) (r2 : Value) (h : Hp) : CRes :=
  allocK h 48 (Array.toList (Value.cells r1)) fun a0 h0 =>
  ptrAddK 0 r2 fun v1 =>
  load1K h0 v1 fun v2 =>
  intK .i64 v2 fun i3 =>
  loadNK 3 h0 a0 fun v4 =>
  pairK (callQ F53 [(Value.int .i64 i3), r0, v4] h0) fun v5 h5 =>
  intK .i64 v5 fun i6 =>
  some ((Value.int .i64 i6), h5)
noncomputable def T52 (S : Sg) : Sg := tabC 0 (uV fun r0 => uV fun r1 => uV fun r2 => uN fun h => P52x0 S r0 r1 r2 h) (tabN)
noncomputable def F52 (args : List Value) (h : Hp) : CRes := packVals [Kd.v, Kd.v, Kd.v] args fun al => rec' T52 1000000 0 al h
def nt52 : Nat := 3 + (11 - 3)
theorem q52x0 (S : Sg) (r0 : Value) (r1 : Value) (r2 : Value) (h : Hp) : P52x0 S r0 r1 r2 h = stepAt (regK env orc22 (nt52)) (finK env Tryz.f52.results.toList) (collect B52 A52 []) 0 S (AL.v r0 (AL.v r1 (AL.v r2 AL.n))) h := by kernel_rfl
theorem t52 (S : Sg) : Tab (fun l vs h => stepAt (regK env orc22 nt52) (finK env Tryz.f52.results.toList) (collect B52 A52 []) l S vs h) (T52 S) := by
  unfold T52
  refine Tab.cons 0 (fun vs0 h q e0 => ?_) ?_
  · obtain ⟨r0, vs1, rfl, e1⟩ := uV_some e0
    obtain ⟨r1, vs2, rfl, e2⟩ := uV_some e1
    obtain ⟨r2, vs3, rfl, e3⟩ := uV_some e2
    obtain ⟨rfl, ee⟩ := uN_some e3
    exact (q52x0 S r0 r1 r2 h).symm.trans ee
  exact Tab.nil
theorem r52 : ∀ args h v h', F52 args h = some (v, h') → Runs (C22) (.call 52 args.toArray h) (.ret v h') := by
  intro args h v h' e
  exact fun_sound (C := C22) (fn := Tryz.f52) (body := B52) (np := 3) (A := A52) (T := T52) (kinds := [Kd.v, Kd.v, Kd.v]) (by kernel_rfl) (by kernel_rfl) (by kernel_rfl) (by kernel_rfl) (regK_ok env_ok) (by kernel_rfl) (fun S => t52 S) e
noncomputable def orc23 := orcQ 52 F52 orc22
noncomputable def C23 : Cfg := cfg orc23
theorem ok23 : C23.Ok := orcQ_ok (C := C22) ok22 r52
/-! ceroplast/mould.headError$1 -/
noncomputable def B75 : Code := (Tryz.f75.body).getD .skip
noncomputable def A75 : G.Ann (List KI) := (G.Ann.node (some (0, [KI.reg 0 (Kd.v), KI.reg 1 (Kd.v)])) G.Ann.nil (G.Ann.node none G.Ann.nil G.Ann.nil))
noncomputable def P75x0 (h : Hp) (S : Nat → PAL → Option Value) (r0 : Value) (r1 : Value) : Option Value :=
  forceL (Array.toList (Value.cells r0)) fun c0 =>
  nthR c0 0 fun v1 =>
  ptrAddK 0 r1 fun v2 =>
  load1K h v2 fun v3 =>
  optK (binV env .eql 9 (Operand.tmp 5) (Operand.tmp 7) v1 v3) fun v4 =>
  boolK v4 fun b5 =>
  some (Value.bool b5)
noncomputable def T75 (h : Hp) (S : Nat → PAL → Option Value) : Nat → PAL → Option Value := tabPC 0 (wV fun r0 => wV fun r1 => wN (P75x0 h S r0 r1)) (tabPN)
noncomputable def F75 (args : List Value) (h : Hp) : Option Value := plainO (packArgs [Kd.v, Kd.v] args fun al => G.rec' (T75 h) 1000000 0 al)
def nt75 : Nat := 2 + (9 - 2)
theorem q75x0 (h : Hp) (S : Nat → PAL → Option Value) (r0 : Value) (r1 : Value) : P75x0 h S r0 r1 = G.stepAt packP unpackP evXV (regP env pf15 nt75 h) (finP env Tryz.f75.results.toList) (G.collect B75 A75 []) 0 S (PAL.v r0 (PAL.v r1 PAL.n)) := by kernel_rfl
theorem t75 (h : Hp) (S : Nat → PAL → Option Value) : TabP (fun l al => G.stepAt packP unpackP evXV (regP env pf15 nt75 h) (finP env Tryz.f75.results.toList) (G.collect B75 A75 []) l S al) (T75 h S) := by
  unfold T75
  refine TabP.cons 0 (fun vs0 q e0 => ?_) ?_
  · obtain ⟨r0, vs1, rfl, e1⟩ := wV_some e0
    obtain ⟨r1, vs2, rfl, e2⟩ := wV_some e1
    obtain ⟨rfl, ee⟩ := wN_some e2
    exact (q75x0 h S r0 r1).symm.trans ee
  exact TabP.nil
theorem r75 : PSound Tryz.prog 75 F75 := fun_soundP (C := C0) ok0 (pf := pf15) pfok15 (fn := Tryz.f75) (body := B75) (kinds := [Kd.v, Kd.v]) (A := A75) (T := T75) (by kernel_rfl) (by kernel_rfl) (by kernel_rfl) (by kernel_rfl) (fun h S => t75 h S)
noncomputable def pf16 : PF := pfC 75 F75 pf15
theorem pfok16 : PfSound Tryz.prog pf16 := pfC_ok r75 pfok15
noncomputable def orc24 := orcP 75 F75 orc23
noncomputable def C24 : Cfg := cfg orc24
theorem ok24 : C24.Ok := orcP_ok (C := C23) ok23 r75
/-! slices.IndexFunc[[]ceroplast/api.MoHead,ceroplast/api.MoHead] -/
noncomputable def B88 : Code := (Tryz.f88.body).getD .skip
def A88 : Ann := (Ann.node (some (0, [(0, Kd.v), (1, Kd.v)])) Ann.nil (Ann.node none (Ann.node none Ann.nil (Ann.node none (Ann.node (some (1, [(0, Kd.v), (1, Kd.v), (7, Kd.i .i64), (8, Kd.i .i64)])) (Ann.node none Ann.nil (Ann.node none (Ann.node none Ann.nil Ann.nil) (Ann.node none (Ann.node none (Ann.node none Ann.nil (Ann.node none Ann.nil (Ann.node none (Ann.node none Ann.nil Ann.nil) Ann.nil))) Ann.nil) Ann.nil))) Ann.nil) Ann.nil)) (Ann.node (some (2, [])) Ann.nil Ann.nil)))
noncomputable def P88x2 (S : Sg) (h : Hp) : CRes :=
  some ((Value.int .i64 (Int.negSucc 0)), h)
noncomputable def P88x1 (S : Sg) (r0 : Value) (r1 : Value) (r7 : Int) (r8 : Int) (h : Hp) : CRes :=
  boolZ (ltZ r8 r7) fun b0 =>
  ifB b0
  (idxSK 2 r0 r8 fun v1 =>
  loadNK 2 h v1 fun v2 =>
  pairK (callF orc24 r1 [v2] h) fun v3 h3 =>
  boolK v3 fun b4 =>
  ifB b4
  (some ((Value.int .i64 r8), h3))
  (wrap64 (Int.add r8 (Int.ofNat 1)) fun i5 =>
  S 1 (AL.v r0 (AL.v r1 (AL.i r7 (AL.i i5 AL.n)))) h3))
  (S 2 AL.n h)
noncomputable def P88x0 (S : Sg) (r0 : Value) (r1 : Value) (h : Hp) : CRes :=
  lenSK r0 fun i0 =>
  S 1 (AL.v r0 (AL.v r1 (AL.i i0 (AL.i (Int.ofNat 0) AL.n)))) h
noncomputable def T88 (S : Sg) : Sg := tabC 0 (uV fun r0 => uV fun r1 => uN fun h => P88x0 S r0 r1 h) (tabC 1 (uV fun r0 => uV fun r1 => uI fun r7 => uI fun r8 => uN fun h => P88x1 S r0 r1 r7 r8 h) (tabC 2 (uN fun h => P88x2 S  h) (tabN)))
noncomputable def F88 (args : List Value) (h : Hp) : CRes := packVals [Kd.v, Kd.v] args fun al => rec' T88 1000000 0 al h
def nt88 : Nat := 2 + (19 - 2)
theorem q88x2 (S : Sg) (h : Hp) : P88x2 S  h = stepAt (regK env orc24 (nt88)) (finK env Tryz.f88.results.toList) (collect B88 A88 []) 2 S AL.n h := by kernel_rfl
theorem q88x1 (S : Sg) (r0 : Value) (r1 : Value) (r7 : Int) (r8 : Int) (h : Hp) : P88x1 S r0 r1 r7 r8 h = stepAt (regK env orc24 (nt88)) (finK env Tryz.f88.results.toList) (collect B88 A88 []) 1 S (AL.v r0 (AL.v r1 (AL.i r7 (AL.i r8 AL.n)))) h := by kernel_rfl
theorem q88x0 (S : Sg) (r0 : Value) (r1 : Value) (h : Hp) : P88x0 S r0 r1 h = stepAt (regK env orc24 (nt88)) (finK env Tryz.f88.results.toList) (collect B88 A88 []) 0 S (AL.v r0 (AL.v r1 AL.n)) h := by kernel_rfl
theorem t88 (S : Sg) : Tab (fun l vs h => stepAt (regK env orc24 nt88) (finK env Tryz.f88.results.toList) (collect B88 A88 []) l S vs h) (T88 S) := by
  unfold T88
  refine Tab.cons 0 (fun vs0 h q e0 => ?_) ?_
  · obtain ⟨r0, vs1, rfl, e1⟩ := uV_some e0
    obtain ⟨r1, vs2, rfl, e2⟩ := uV_some e1
    obtain ⟨rfl, ee⟩ := uN_some e2
    exact (q88x0 S r0 r1 h).symm.trans ee
  refine Tab.cons 1 (fun vs0 h q e0 => ?_) ?_
  · obtain ⟨r0, vs1, rfl, e1⟩ := uV_some e0
    obtain ⟨r1, vs2, rfl, e2⟩ := uV_some e1
    obtain ⟨r7, vs3, rfl, e3⟩ := uI_some e2
    obtain ⟨r8, vs4, rfl, e4⟩ := uI_some e3
    obtain ⟨rfl, ee⟩ := uN_some e4
    exact (q88x1 S r0 r1 r7 r8 h).symm.trans ee
  refine Tab.cons 2 (fun vs0 h q e0 => ?_) ?_
  · 
    obtain ⟨rfl, ee⟩ := uN_some e0
    exact (q88x2 S  h).symm.trans ee
  exact Tab.nil
theorem r88 : ∀ args h v h', F88 args h = some (v, h') → Runs (C24) (.call 88 args.toArray h) (.ret v h') := by
  intro args h v h' e
  exact fun_sound (C := C24) (fn := Tryz.f88) (body := B88) (np := 2) (A := A88) (T := T88) (kinds := [Kd.v, Kd.v]) (by kernel_rfl) (by kernel_rfl) (by kernel_rfl) (by kernel_rfl) (regK_ok env_ok) (by kernel_rfl) (fun S => t88 S) e
noncomputable def orc25 := orcQ 88 F88 orc24
noncomputable def C25 : Cfg := cfg orc25
theorem ok25 : C25.Ok := orcQ_ok (C := C24) ok24 r88
/-! slices.ContainsFunc[[]ceroplast/api.MoHead,ceroplast/api.MoHead] -/
noncomputable def B74 : Code := (Tryz.f74.body).getD .skip
def A74 : Ann := (Ann.node (some (0, [(0, Kd.v), (1, Kd.v)])) Ann.nil (Ann.node none Ann.nil Ann.nil))
noncomputable def P74x0 (S : Sg) (r0 : Value) (r1 : Value) (h : Hp) : CRes :=
  pairK (callQ F88 [r0, r1] h) fun v0 h0 =>
  intK .i64 v0 fun i1 =>
  boolN (ltZ i1 (Int.ofNat 0)) fun b2 =>
  some ((Value.bool b2), h0)
noncomputable def T74 (S : Sg) : Sg := tabC 0 (uV fun r0 => uV fun r1 => uN fun h => P74x0 S r0 r1 h) (tabN)
noncomputable def F74 (args : List Value) (h : Hp) : CRes := packVals [Kd.v, Kd.v] args fun al => rec' T74 1000000 0 al h
def nt74 : Nat := 2 + (9 - 2)
theorem q74x0 (S : Sg) (r0 : Value) (r1 : Value) (h : Hp) : P74x0 S r0 r1 h = stepAt (regK env orc25 (nt74)) (finK env Tryz.f74.results.toList) (collect B74 A74 []) 0 S (AL.v r0 (AL.v r1 AL.n)) h := by kernel_rfl
theorem t74 (S : Sg) : Tab (fun l vs h => stepAt (regK env orc25 nt74) (finK env Tryz.f74.results.toList) (collect B74 A74 []) l S vs h) (T74 S) := by
  unfold T74
  refine Tab.cons 0 (fun vs0 h q e0 => ?_) ?_
  · obtain ⟨r0, vs1, rfl, e1⟩ := uV_some e0
    obtain ⟨r1, vs2, rfl, e2⟩ := uV_some e1
    obtain ⟨rfl, ee⟩ := uN_some e2
    exact (q74x0 S r0 r1 h).symm.trans ee
  exact Tab.nil
theorem r74 : ∀ args h v h', F74 args h = some (v, h') → Runs (C25) (.call 74 args.toArray h) (.ret v h') := by
  intro args h v h' e
  exact fun_sound (C := C25) (fn := Tryz.f74) (body := B74) (np := 2) (A := A74) (T := T74) (kinds := [Kd.v, Kd.v]) (by kernel_rfl) (by kernel_rfl) (by kernel_rfl) (by kernel_rfl) (regK_ok env_ok) (by kernel_rfl) (fun S => t74 S) e
noncomputable def orc26 := orcQ 74 F74 orc25
noncomputable def C26 : Cfg := cfg orc26
theorem ok26 : C26.Ok := orcQ_ok (C := C25) ok25 r74
/-! ceroplast/mould.headError -/
noncomputable def B56 : Code := (Tryz.f56.body).getD .skip
def A56 : Ann := (Ann.node (some (0, [(0, Kd.i .i64), (1, Kd.v), (2, Kd.v)])) Ann.nil (Ann.node none (Ann.node none (Ann.node none Ann.nil (Ann.node none (Ann.node none Ann.nil Ann.nil) (Ann.node none Ann.nil (Ann.node none (Ann.node none Ann.nil Ann.nil) (Ann.node none Ann.nil (Ann.node none (Ann.node none Ann.nil Ann.nil) (Ann.node none Ann.nil (Ann.node none (Ann.node none Ann.nil Ann.nil) Ann.nil)))))))) Ann.nil) (Ann.node none Ann.nil Ann.nil)))
noncomputable def P56x0 (S : Sg) (r0 : Int) (r1 : Value) (r2 : Value) (h : Hp) : CRes :=
  allocK h 51 (Array.toList (Value.cells r2)) fun a0 h0 =>
  ptrAddK 0 a0 fun v1 =>
  load1K h0 v1 fun v2 =>
  pairK (callQ F29 [v2] h0) fun v3 h3 =>
  boolK v3 fun b4 =>
  boolN b4 fun b5 =>
  ifB b5
  (some ((Value.int .i64 (Int.ofNat 6)), h3))
  (pairK (callQ F74 [r1, (Value.func (.func 75) (List.toArray []) (List.toArray [a0]))] h3) fun v6 h6 =>
  boolK v6 fun b7 =>
  ifB b7
  (some ((Value.int .i64 (Int.ofNat 5)), h6))
  (ptrAddK 1 a0 fun v8 =>
  load1K h6 v8 fun v9 =>
  lenSK v9 fun i10 =>
  boolN (eqZ i10 r0) fun b11 =>
  ifB b11
  (some ((Value.int .i64 (Int.ofNat 3)), h6))
  (ptrAddK 1 a0 fun v12 =>
  load1K h6 v12 fun v13 =>
  pairK (optK (F31 [(Value.int .i64 (Int.ofNat 0)), (Value.int .i64 (Int.ofNat 2)), v13] h6) fun v => some (v, h6)) fun v14 h14 =>
  boolK v14 fun b15 =>
  boolN b15 fun b16 =>
  ifB b16
  (some ((Value.int .i64 (Int.ofNat 7)), h14))
  (some ((Value.int .i64 (Int.ofNat 0)), h14)))))
noncomputable def T56 (S : Sg) : Sg := tabC 0 (uI fun r0 => uV fun r1 => uV fun r2 => uN fun h => P56x0 S r0 r1 r2 h) (tabN)
noncomputable def F56 (args : List Value) (h : Hp) : CRes := packVals [Kd.i .i64, Kd.v, Kd.v] args fun al => rec' T56 1000000 0 al h
def nt56 : Nat := 3 + (27 - 3)
theorem q56x0 (S : Sg) (r0 : Int) (r1 : Value) (r2 : Value) (h : Hp) : P56x0 S r0 r1 r2 h = stepAt (regK env orc26 (nt56)) (finK env Tryz.f56.results.toList) (collect B56 A56 []) 0 S (AL.i r0 (AL.v r1 (AL.v r2 AL.n))) h := by kernel_rfl
theorem t56 (S : Sg) : Tab (fun l vs h => stepAt (regK env orc26 nt56) (finK env Tryz.f56.results.toList) (collect B56 A56 []) l S vs h) (T56 S) := by
  unfold T56
  refine Tab.cons 0 (fun vs0 h q e0 => ?_) ?_
  · obtain ⟨r0, vs1, rfl, e1⟩ := uI_some e0
    obtain ⟨r1, vs2, rfl, e2⟩ := uV_some e1
    obtain ⟨r2, vs3, rfl, e3⟩ := uV_some e2
    obtain ⟨rfl, ee⟩ := uN_some e3
    exact (q56x0 S r0 r1 r2 h).symm.trans ee
  exact Tab.nil
theorem r56 : ∀ args h v h', F56 args h = some (v, h') → Runs (C26) (.call 56 args.toArray h) (.ret v h') := by
  intro args h v h' e
  exact fun_sound (C := C26) (fn := Tryz.f56) (body := B56) (np := 3) (A := A56) (T := T56) (kinds := [Kd.i .i64, Kd.v, Kd.v]) (by kernel_rfl) (by kernel_rfl) (by kernel_rfl) (by kernel_rfl) (regK_ok env_ok) (by kernel_rfl) (fun S => t56 S) e
noncomputable def orc27 := orcQ 56 F56 orc26
noncomputable def C27 : Cfg := cfg orc27
theorem ok27 : C27.Ok := orcQ_ok (C := C26) ok26 r56
/-! ceroplast/mould.Check$2 -/
noncomputable def B55 : Code := (Tryz.f55.body).getD .skip
def A55 : Ann := (Ann.node (some (0, [(0, Kd.v), (1, Kd.v), (2, Kd.v)])) Ann.nil (Ann.node none Ann.nil Ann.nil))
noncomputable def P55x0 (S : Sg) (r0 : Value) (r1 : Value) (r2 : Value) (h : Hp) : CRes :=
  allocK h 51 (Array.toList (Value.cells r1)) fun a0 h0 =>
  ptrAddK 0 r2 fun v1 =>
  load1K h0 v1 fun v2 =>
  intK .i64 v2 fun i3 =>
  loadNK 2 h0 a0 fun v4 =>
  pairK (callQ F56 [(Value.int .i64 i3), r0, v4] h0) fun v5 h5 =>
  intK .i64 v5 fun i6 =>
  some ((Value.int .i64 i6), h5)
noncomputable def T55 (S : Sg) : Sg := tabC 0 (uV fun r0 => uV fun r1 => uV fun r2 => uN fun h => P55x0 S r0 r1 r2 h) (tabN)
noncomputable def F55 (args : List Value) (h : Hp) : CRes := packVals [Kd.v, Kd.v, Kd.v] args fun al => rec' T55 1000000 0 al h
def nt55 : Nat := 3 + (11 - 3)
theorem q55x0 (S : Sg) (r0 : Value) (r1 : Value) (r2 : Value) (h : Hp) : P55x0 S r0 r1 r2 h = stepAt (regK env orc27 (nt55)) (finK env Tryz.f55.results.toList) (collect B55 A55 []) 0 S (AL.v r0 (AL.v r1 (AL.v r2 AL.n))) h := by kernel_rfl
theorem t55 (S : Sg) : Tab (fun l vs h => stepAt (regK env orc27 nt55) (finK env Tryz.f55.results.toList) (collect B55 A55 []) l S vs h) (T55 S) := by
  unfold T55
  refine Tab.cons 0 (fun vs0 h q e0 => ?_) ?_
  · obtain ⟨r0, vs1, rfl, e1⟩ := uV_some e0
    obtain ⟨r1, vs2, rfl, e2⟩ := uV_some e1
    obtain ⟨r2, vs3, rfl, e3⟩ := uV_some e2
    obtain ⟨rfl, ee⟩ := uN_some e3
    exact (q55x0 S r0 r1 r2 h).symm.trans ee
  exact Tab.nil
theorem r55 : ∀ args h v h', F55 args h = some (v, h') → Runs (C27) (.call 55 args.toArray h) (.ret v h') := by
  intro args h v h' e
  exact fun_sound (C := C27) (fn := Tryz.f55) (body := B55) (np := 3) (A := A55) (T := T55) (kinds := [Kd.v, Kd.v, Kd.v]) (by kernel_rfl) (by kernel_rfl) (by kernel_rfl) (by kernel_rfl) (regK_ok env_ok) (by kernel_rfl) (fun S => t55 S) e
noncomputable def orc28 := orcQ 55 F55 orc27
noncomputable def C28 : Cfg := cfg orc28
theorem ok28 : C28.Ok := orcQ_ok (C := C27) ok27 r55
/-! ceroplast/check.First[ceroplast/api.MoMould] -/
noncomputable def B51 : Code := (Tryz.f51.body).getD .skip
def A51 : Ann := (Ann.node (some (0, [(0, Kd.v), (1, Kd.v)])) Ann.nil (Ann.node none (Ann.node none Ann.nil (Ann.node none (Ann.node (some (1, [(0, Kd.v), (1, Kd.v), (9, Kd.v), (10, Kd.i .i64), (11, Kd.i .i64)])) (Ann.node none Ann.nil (Ann.node none (Ann.node none Ann.nil Ann.nil) (Ann.node none (Ann.node none (Ann.node none Ann.nil (Ann.node none Ann.nil (Ann.node none Ann.nil (Ann.node none (Ann.node none Ann.nil Ann.nil) Ann.nil)))) Ann.nil) Ann.nil))) Ann.nil) Ann.nil)) (Ann.node (some (2, [])) Ann.nil Ann.nil)))
noncomputable def P51x2 (S : Sg) (h : Hp) : CRes :=
  some (Value.tuple (List.toArray [(Value.int .i64 (Int.ofNat 0)), (Value.int .i64 (Int.ofNat 0))]), h)
noncomputable def P51x1 (S : Sg) (r0 : Value) (r1 : Value) (r9 : Value) (r10 : Int) (r11 : Int) (h : Hp) : CRes :=
  boolZ (ltZ r11 r10) fun b0 =>
  ifB b0
  (idxSK 3 r9 r11 fun v1 =>
  loadNK 3 h v1 fun v2 =>
  allocK h 48 [(Value.string (ByteArray.mk #[])), (Value.int .i64 (Int.ofNat 0)), (Value.slice none 0 0)] fun a3 h3 =>
  storeNK 3 h3 a3 v2 fun h4 =>
  optK (sliceV env h4 22 r0 none (some (Value.int .i64 r11)) none) fun v5 =>
  loadNK 3 h4 a3 fun v6 =>
  pairK (callF orc28 r1 [v5, v6] h4) fun v7 h7 =>
  intK .i64 v7 fun i8 =>
  boolN (eqZ i8 (Int.ofNat 0)) fun b9 =>
  ifB b9
  (some (Value.tuple (List.toArray [(Value.int .i64 r11), (Value.int .i64 i8)]), h7))
  (wrap64 (Int.add r11 (Int.ofNat 1)) fun i10 =>
  S 1 (AL.v r0 (AL.v r1 (AL.v r9 (AL.i r10 (AL.i i10 AL.n))))) h7))
  (S 2 AL.n h)
noncomputable def P51x0 (S : Sg) (r0 : Value) (r1 : Value) (h : Hp) : CRes :=
  lenSK r0 fun i0 =>
  S 1 (AL.v r0 (AL.v r1 (AL.v r0 (AL.i i0 (AL.i (Int.ofNat 0) AL.n))))) h
noncomputable def T51 (S : Sg) : Sg := tabC 0 (uV fun r0 => uV fun r1 => uN fun h => P51x0 S r0 r1 h) (tabC 1 (uV fun r0 => uV fun r1 => uV fun r9 => uI fun r10 => uI fun r11 => uN fun h => P51x1 S r0 r1 r9 r10 r11 h) (tabC 2 (uN fun h => P51x2 S  h) (tabN)))
noncomputable def F51 (args : List Value) (h : Hp) : CRes := packVals [Kd.v, Kd.v] args fun al => rec' T51 1000000 0 al h
def nt51 : Nat := 2 + (27 - 2)
theorem q51x2 (S : Sg) (h : Hp) : P51x2 S  h = stepAt (regK env orc28 (nt51)) (finK env Tryz.f51.results.toList) (collect B51 A51 []) 2 S AL.n h := by kernel_rfl
theorem q51x1 (S : Sg) (r0 : Value) (r1 : Value) (r9 : Value) (r10 : Int) (r11 : Int) (h : Hp) : P51x1 S r0 r1 r9 r10 r11 h = stepAt (regK env orc28 (nt51)) (finK env Tryz.f51.results.toList) (collect B51 A51 []) 1 S (AL.v r0 (AL.v r1 (AL.v r9 (AL.i r10 (AL.i r11 AL.n))))) h := by kernel_rfl
theorem q51x0 (S : Sg) (r0 : Value) (r1 : Value) (h : Hp) : P51x0 S r0 r1 h = stepAt (regK env orc28 (nt51)) (finK env Tryz.f51.results.toList) (collect B51 A51 []) 0 S (AL.v r0 (AL.v r1 AL.n)) h := by kernel_rfl
theorem t51 (S : Sg) : Tab (fun l vs h => stepAt (regK env orc28 nt51) (finK env Tryz.f51.results.toList) (collect B51 A51 []) l S vs h) (T51 S) := by
  unfold T51
  refine Tab.cons 0 (fun vs0 h q e0 => ?_) ?_
  · obtain ⟨r0, vs1, rfl, e1⟩ := uV_some e0
    obtain ⟨r1, vs2, rfl, e2⟩ := uV_some e1
    obtain ⟨rfl, ee⟩ := uN_some e2
    exact (q51x0 S r0 r1 h).symm.trans ee
  refine Tab.cons 1 (fun vs0 h q e0 => ?_) ?_
  · obtain ⟨r0, vs1, rfl, e1⟩ := uV_some e0
    obtain ⟨r1, vs2, rfl, e2⟩ := uV_some e1
    obtain ⟨r9, vs3, rfl, e3⟩ := uV_some e2
    obtain ⟨r10, vs4, rfl, e4⟩ := uI_some e3
    obtain ⟨r11, vs5, rfl, e5⟩ := uI_some e4
    obtain ⟨rfl, ee⟩ := uN_some e5
    exact (q51x1 S r0 r1 r9 r10 r11 h).symm.trans ee
  refine Tab.cons 2 (fun vs0 h q e0 => ?_) ?_
  · 
    obtain ⟨rfl, ee⟩ := uN_some e0
    exact (q51x2 S  h).symm.trans ee
  exact Tab.nil
theorem r51 : ∀ args h v h', F51 args h = some (v, h') → Runs (C28) (.call 51 args.toArray h) (.ret v h') := by
  intro args h v h' e
  exact fun_sound (C := C28) (fn := Tryz.f51) (body := B51) (np := 2) (A := A51) (T := T51) (kinds := [Kd.v, Kd.v]) (by kernel_rfl) (by kernel_rfl) (by kernel_rfl) (by kernel_rfl) (regK_ok env_ok) (by kernel_rfl) (fun S => t51 S) e
noncomputable def orc29 := orcQ 51 F51 orc28
noncomputable def C29 : Cfg := cfg orc29
theorem ok29 : C29.Ok := orcQ_ok (C := C28) ok28 r51
/-! ceroplast/check.First[ceroplast/api.MoHead] -/
noncomputable def B54 : Code := (Tryz.f54.body).getD .skip
def A54 : Ann := (Ann.node (some (0, [(0, Kd.v), (1, Kd.v)])) Ann.nil (Ann.node none (Ann.node none Ann.nil (Ann.node none (Ann.node (some (1, [(0, Kd.v), (1, Kd.v), (9, Kd.v), (10, Kd.i .i64), (11, Kd.i .i64)])) (Ann.node none Ann.nil (Ann.node none (Ann.node none Ann.nil Ann.nil) (Ann.node none (Ann.node none (Ann.node none Ann.nil (Ann.node none Ann.nil (Ann.node none Ann.nil (Ann.node none (Ann.node none Ann.nil Ann.nil) Ann.nil)))) Ann.nil) Ann.nil))) Ann.nil) Ann.nil)) (Ann.node (some (2, [])) Ann.nil Ann.nil)))
noncomputable def P54x2 (S : Sg) (h : Hp) : CRes :=
  some (Value.tuple (List.toArray [(Value.int .i64 (Int.ofNat 0)), (Value.int .i64 (Int.ofNat 0))]), h)
noncomputable def P54x1 (S : Sg) (r0 : Value) (r1 : Value) (r9 : Value) (r10 : Int) (r11 : Int) (h : Hp) : CRes :=
  boolZ (ltZ r11 r10) fun b0 =>
  ifB b0
  (idxSK 2 r9 r11 fun v1 =>
  loadNK 2 h v1 fun v2 =>
  allocK h 51 [(Value.string (ByteArray.mk #[])), (Value.slice none 0 0)] fun a3 h3 =>
  storeNK 2 h3 a3 v2 fun h4 =>
  optK (sliceV env h4 23 r0 none (some (Value.int .i64 r11)) none) fun v5 =>
  loadNK 2 h4 a3 fun v6 =>
  pairK (callF orc29 r1 [v5, v6] h4) fun v7 h7 =>
  intK .i64 v7 fun i8 =>
  boolN (eqZ i8 (Int.ofNat 0)) fun b9 =>
  ifB b9
  (some (Value.tuple (List.toArray [(Value.int .i64 r11), (Value.int .i64 i8)]), h7))
  (wrap64 (Int.add r11 (Int.ofNat 1)) fun i10 =>
  S 1 (AL.v r0 (AL.v r1 (AL.v r9 (AL.i r10 (AL.i i10 AL.n))))) h7))
  (S 2 AL.n h)
noncomputable def P54x0 (S : Sg) (r0 : Value) (r1 : Value) (h : Hp) : CRes :=
  lenSK r0 fun i0 =>
  S 1 (AL.v r0 (AL.v r1 (AL.v r0 (AL.i i0 (AL.i (Int.ofNat 0) AL.n))))) h
noncomputable def T54 (S : Sg) : Sg := tabC 0 (uV fun r0 => uV fun r1 => uN fun h => P54x0 S r0 r1 h) (tabC 1 (uV fun r0 => uV fun r1 => uV fun r9 => uI fun r10 => uI fun r11 => uN fun h => P54x1 S r0 r1 r9 r10 r11 h) (tabC 2 (uN fun h => P54x2 S  h) (tabN)))
noncomputable def F54 (args : List Value) (h : Hp) : CRes := packVals [Kd.v, Kd.v] args fun al => rec' T54 1000000 0 al h
def nt54 : Nat := 2 + (27 - 2)
theorem q54x2 (S : Sg) (h : Hp) : P54x2 S  h = stepAt (regK env orc29 (nt54)) (finK env Tryz.f54.results.toList) (collect B54 A54 []) 2 S AL.n h := by kernel_rfl
theorem q54x1 (S : Sg) (r0 : Value) (r1 : Value) (r9 : Value) (r10 : Int) (r11 : Int) (h : Hp) : P54x1 S r0 r1 r9 r10 r11 h = stepAt (regK env orc29 (nt54)) (finK env Tryz.f54.results.toList) (collect B54 A54 []) 1 S (AL.v r0 (AL.v r1 (AL.v r9 (AL.i r10 (AL.i r11 AL.n))))) h := by kernel_rfl
theorem q54x0 (S : Sg) (r0 : Value) (r1 : Value) (h : Hp) : P54x0 S r0 r1 h = stepAt (regK env orc29 (nt54)) (finK env Tryz.f54.results.toList) (collect B54 A54 []) 0 S (AL.v r0 (AL.v r1 AL.n)) h := by kernel_rfl
theorem t54 (S : Sg) : Tab (fun l vs h => stepAt (regK env orc29 nt54) (finK env Tryz.f54.results.toList) (collect B54 A54 []) l S vs h) (T54 S) := by
  unfold T54
  refine Tab.cons 0 (fun vs0 h q e0 => ?_) ?_
  · obtain ⟨r0, vs1, rfl, e1⟩ := uV_some e0
    obtain ⟨r1, vs2, rfl, e2⟩ := uV_some e1
    obtain ⟨rfl, ee⟩ := uN_some e2
    exact (q54x0 S r0 r1 h).symm.trans ee
  refine Tab.cons 1 (fun vs0 h q e0 => ?_) ?_
  · obtain ⟨r0, vs1, rfl, e1⟩ := uV_some e0
    obtain ⟨r1, vs2, rfl, e2⟩ := uV_some e1
    obtain ⟨r9, vs3, rfl, e3⟩ := uV_some e2
    obtain ⟨r10, vs4, rfl, e4⟩ := uI_some e3
    obtain ⟨r11, vs5, rfl, e5⟩ := uI_some e4
    obtain ⟨rfl, ee⟩ := uN_some e5
    exact (q54x1 S r0 r1 r9 r10 r11 h).symm.trans ee
  refine Tab.cons 2 (fun vs0 h q e0 => ?_) ?_
  · 
    obtain ⟨rfl, ee⟩ := uN_some e0
    exact (q54x2 S  h).symm.trans ee
  exact Tab.nil
theorem r54 : ∀ args h v h', F54 args h = some (v, h') → Runs (C29) (.call 54 args.toArray h) (.ret v h') := by
  intro args h v h' e
  exact fun_sound (C := C29) (fn := Tryz.f54) (body := B54) (np := 2) (A := A54) (T := T54) (kinds := [Kd.v, Kd.v]) (by kernel_rfl) (by kernel_rfl) (by kernel_rfl) (by kernel_rfl) (regK_ok env_ok) (by kernel_rfl) (fun S => t54 S) e
noncomputable def orc30 := orcQ 54 F54 orc29
noncomputable def C30 : Cfg := cfg orc30
theorem ok30 : C30.Ok := orcQ_ok (C := C29) ok29 r54
/-! ceroplast/mould.Check -/
noncomputable def B30 : Code := (Tryz.f30.body).getD .skip
def A30 : Ann := (Ann.node (some (0, [(0, Kd.v)])) Ann.nil (Ann.node none (Ann.node none Ann.nil (Ann.node none (Ann.node none Ann.nil Ann.nil) Ann.nil)) (Ann.node none (Ann.node none Ann.nil (Ann.node none (Ann.node none Ann.nil Ann.nil) Ann.nil)) (Ann.node none Ann.nil (Ann.node none (Ann.node none Ann.nil (Ann.node none (Ann.node none Ann.nil Ann.nil) Ann.nil)) (Ann.node none (Ann.node none Ann.nil (Ann.node none (Ann.node none Ann.nil Ann.nil) Ann.nil)) (Ann.node none Ann.nil (Ann.node none (Ann.node none Ann.nil (Ann.node none (Ann.node none Ann.nil Ann.nil) Ann.nil)) (Ann.node none Ann.nil Ann.nil)))))))))
noncomputable def P30x0 (S : Sg) (r0 : Value) (h : Hp) : CRes :=
  allocK h 25 (Array.toList (Value.cells r0)) fun a0 h0 =>
  ptrAddK 0 a0 fun v1 =>
  load1K h0 v1 fun v2 =>
  intK .i64 v2 fun i3 =>
  pairK (buildSliceV env h0 49 1 (List.toArray [(0, (Value.int .i64 i3))])) fun v4 h4 =>
  pairK (optK (F31 [(Value.int .i64 (Int.ofNat 1)), (Value.int .i64 (Int.ofNat 4)), v4] h4) fun v => some (v, h4)) fun v5 h5 =>
  boolK v5 fun b6 =>
  boolN b6 fun b7 =>
  ifB b7
  (some (Value.tuple (List.toArray [(Value.int .i64 (Int.ofNat 1)), (Value.int .i64 (Int.ofNat 0)), (Value.int .i64 (Int.ofNat 7))]), h5))
  (ptrAddK 1 a0 fun v8 =>
  load1K h5 v8 fun v9 =>
  lenSK v9 fun i10 =>
  boolZ (ltZ (Int.ofNat 2) i10) fun b11 =>
  ifB b11
  (some (Value.tuple (List.toArray [(Value.int .i64 (Int.ofNat 2)), (Value.int .i64 (Int.ofNat 0)), (Value.int .i64 (Int.ofNat 3))]), h5))
  (ptrAddK 1 a0 fun v12 =>
  load1K h5 v12 fun v13 =>
  pairK (callQ F51 [v13, (Value.func (.func 52) (List.toArray []) (List.toArray [a0]))] h5) fun v14 h14 =>
  extK v14 0 fun v15 =>
  intK .i64 v15 fun i16 =>
  extK v14 1 fun v17 =>
  intK .i64 v17 fun i18 =>
  boolN (eqZ i18 (Int.ofNat 0)) fun b19 =>
  ifB b19
  (some (Value.tuple (List.toArray [(Value.int .i64 (Int.ofNat 2)), (Value.int .i64 i16), (Value.int .i64 i18)]), h14))
  (ptrAddK 2 a0 fun v20 =>
  load1K h14 v20 fun v21 =>
  lenSK v21 fun i22 =>
  boolZ (ltZ (Int.ofNat 4) i22) fun b23 =>
  ifB b23
  (some (Value.tuple (List.toArray [(Value.int .i64 (Int.ofNat 3)), (Value.int .i64 (Int.ofNat 0)), (Value.int .i64 (Int.ofNat 3))]), h14))
  (ptrAddK 2 a0 fun v24 =>
  load1K h14 v24 fun v25 =>
  pairK (callQ F54 [v25, (Value.func (.func 55) (List.toArray []) (List.toArray [a0]))] h14) fun v26 h26 =>
  extK v26 0 fun v27 =>
  intK .i64 v27 fun i28 =>
  extK v26 1 fun v29 =>
  intK .i64 v29 fun i30 =>
  boolN (eqZ i30 (Int.ofNat 0)) fun b31 =>
  ifB b31
  (some (Value.tuple (List.toArray [(Value.int .i64 (Int.ofNat 3)), (Value.int .i64 i28), (Value.int .i64 i30)]), h26))
  (some (Value.tuple (List.toArray [(Value.int .i64 (Int.ofNat 0)), (Value.int .i64 (Int.ofNat 0)), (Value.int .i64 (Int.ofNat 0))]), h26))))))
noncomputable def T30 (S : Sg) : Sg := tabC 0 (uV fun r0 => uN fun h => P30x0 S r0 h) (tabN)
noncomputable def F30 (args : List Value) (h : Hp) : CRes := packVals [Kd.v] args fun al => rec' T30 1000000 0 al h
def nt30 : Nat := 1 + (40 - 1)
theorem q30x0 (S : Sg) (r0 : Value) (h : Hp) : P30x0 S r0 h = stepAt (regK env orc30 (nt30)) (finK env Tryz.f30.results.toList) (collect B30 A30 []) 0 S (AL.v r0 AL.n) h := by kernel_rfl
theorem t30 (S : Sg) : Tab (fun l vs h => stepAt (regK env orc30 nt30) (finK env Tryz.f30.results.toList) (collect B30 A30 []) l S vs h) (T30 S) := by
  unfold T30
  refine Tab.cons 0 (fun vs0 h q e0 => ?_) ?_
  · obtain ⟨r0, vs1, rfl, e1⟩ := uV_some e0
    obtain ⟨rfl, ee⟩ := uN_some e1
    exact (q30x0 S r0 h).symm.trans ee
  exact Tab.nil
theorem r30 : ∀ args h v h', F30 args h = some (v, h') → Runs (C30) (.call 30 args.toArray h) (.ret v h') := by
  intro args h v h' e
  exact fun_sound (C := C30) (fn := Tryz.f30) (body := B30) (np := 1) (A := A30) (T := T30) (kinds := [Kd.v]) (by kernel_rfl) (by kernel_rfl) (by kernel_rfl) (by kernel_rfl) (regK_ok env_ok) (by kernel_rfl) (fun S => t30 S) e
noncomputable def orc31 := orcQ 30 F30 orc30
noncomputable def C31 : Cfg := cfg orc31
theorem ok31 : C31.Ok := orcQ_ok (C := C30) ok30 r30
/-! ceroplast/mould.open -/
noncomputable def B14 : Code := (Tryz.f14.body).getD .skip
def A14 : Ann := (Ann.node (some (0, [(0, Kd.v)])) Ann.nil (Ann.node none (Ann.node none Ann.nil (Ann.node none Ann.nil (Ann.node none (Ann.node none Ann.nil Ann.nil) Ann.nil))) (Ann.node none Ann.nil (Ann.node none (Ann.node none Ann.nil (Ann.node none (Ann.node (some (1, [(2, Kd.v), (7, Kd.v), (25, Kd.v), (26, Kd.i .i64), (27, Kd.i .i64)])) (Ann.node none Ann.nil (Ann.node none (Ann.node none Ann.nil Ann.nil) (Ann.node none (Ann.node none (Ann.node none Ann.nil (Ann.node none Ann.nil (Ann.node none (Ann.node (some (2, [(2, Kd.v), (7, Kd.v), (8, Kd.i .i64), (25, Kd.v), (26, Kd.i .i64), (27, Kd.i .i64), (33, Kd.i .i64), (34, Kd.i .i64)])) (Ann.node none Ann.nil (Ann.node none (Ann.node none Ann.nil Ann.nil) (Ann.node none (Ann.node none (Ann.node none Ann.nil Ann.nil) Ann.nil) Ann.nil))) Ann.nil) Ann.nil))) Ann.nil) (Ann.node (some (3, [(2, Kd.v), (7, Kd.v), (25, Kd.v), (26, Kd.i .i64), (27, Kd.i .i64)])) Ann.nil Ann.nil)))) Ann.nil) Ann.nil)) (Ann.node (some (4, [(2, Kd.v), (7, Kd.v)])) Ann.nil Ann.nil)))))
noncomputable def P14x4 (S : Sg) (r2 : Value) (r7 : Value) (h : Hp) : CRes :=
  loadNK 4 h r7 fun v0 =>
  storeNK 4 h r2 v0 fun h1 =>
  loadNK 4 h1 r2 fun v2 => some (Value.tuple (List.toArray [v2, (Value.int .i64 (Int.ofNat 0))]), h1)
noncomputable def P14x3 (S : Sg) (r2 : Value) (r7 : Value) (r25 : Value) (r26 : Int) (r27 : Int) (h : Hp) : CRes :=
  wrap64 (Int.add r27 (Int.ofNat 1)) fun i0 =>
  S 1 (AL.v r2 (AL.v r7 (AL.v r25 (AL.i r26 (AL.i i0 AL.n))))) h
noncomputable def P14x2 (S : Sg) (r2 : Value) (r7 : Value) (r8 : Int) (r25 : Value) (r26 : Int) (r27 : Int) (r33 : Int) (r34 : Int) (h : Hp) : CRes :=
  boolZ (ltZ r34 r33) fun b0 =>
  ifB b0
  (ptrAddK 3 r7 fun v1 =>
  load1K h v1 fun v2 =>
  wrap64 (Int.add r34 (Int.ofNat 1)) fun i3 =>
  optK (buildV env 42 (List.toArray [(0, (Value.int .i64 r8)), (1, (Value.int .i64 i3))])) fun v4 =>
  pairK (buildSliceV env h 27 1 (List.toArray [(0, v4)])) fun v5 h5 =>
  pairK (appendV env h5 #[27, 27] (List.toArray [v2, v5])) fun v6 h6 =>
  ptrAddK 3 r7 fun v7 =>
  store1K h6 v7 v6 fun h8 =>
  wrap64 (Int.add r34 (Int.ofNat 1)) fun i9 =>
  S 2 (AL.v r2 (AL.v r7 (AL.i r8 (AL.v r25 (AL.i r26 (AL.i r27 (AL.i r33 (AL.i i9 AL.n)))))))) h8)
  (S 3 (AL.v r2 (AL.v r7 (AL.v r25 (AL.i r26 (AL.i r27 AL.n))))) h)
noncomputable def P14x1 (S : Sg) (r2 : Value) (r7 : Value) (r25 : Value) (r26 : Int) (r27 : Int) (h : Hp) : CRes :=
  boolZ (ltZ r27 r26) fun b0 =>
  ifB b0
  (idxSK 3 r25 r27 fun v1 =>
  loadNK 3 h v1 fun v2 =>
  allocK h 48 [(Value.string (ByteArray.mk #[])), (Value.int .i64 (Int.ofNat 0)), (Value.slice none 0 0)] fun a3 h3 =>
  storeNK 3 h3 a3 v2 fun h4 =>
  ptrAddK 1 a3 fun v5 =>
  load1K h4 v5 fun v6 =>
  intK .i64 v6 fun i7 =>
  S 2 (AL.v r2 (AL.v r7 (AL.i r27 (AL.v r25 (AL.i r26 (AL.i r27 (AL.i i7 (AL.i (Int.ofNat 0) AL.n)))))))) h4)
  (S 4 (AL.v r2 (AL.v r7 AL.n)) h)
noncomputable def P14x0 (S : Sg) (r0 : Value) (h : Hp) : CRes :=
  allocK h 25 (Array.toList (Value.cells r0)) fun a0 h0 =>
  allocK h0 53 [(Value.int .i64 (Int.ofNat 0)), (Value.slice none 0 0), (Value.slice none 0 0), (Value.slice none 0 0)] fun a1 h1 =>
  loadNK 3 h1 a0 fun v2 =>
  pairK (callQ F30 [v2] h1) fun v3 h3 =>
  extK v3 0 fun v4 =>
  intK .i64 v4 fun i5 =>
  extK v3 1 fun v6 =>
  intK .i64 v6 fun i7 =>
  extK v3 2 fun v8 =>
  intK .i64 v8 fun i9 =>
  boolN (eqZ i9 (Int.ofNat 0)) fun b10 =>
  ifB b10
  (optK (buildV env 53 (List.toArray [])) fun v11 =>
  storeNK 4 h3 a1 v11 fun h12 =>
  loadNK 4 h12 a1 fun v13 => some (Value.tuple (List.toArray [v13, (Value.int .i64 i9)]), h12))
  (loadNK 3 h3 a0 fun v14 =>
  optK (buildV env 53 (List.toArray [(0, v14)])) fun v15 =>
  allocK h3 53 [(Value.int .i64 (Int.ofNat 0)), (Value.slice none 0 0), (Value.slice none 0 0), (Value.slice none 0 0)] fun a16 h16 =>
  storeNK 4 h16 a16 v15 fun h17 =>
  ptrAddK 0 a16 fun v18 =>
  ptrAddK 1 v18 fun v19 =>
  load1K h17 v19 fun v20 =>
  lenSK v20 fun i21 =>
  S 1 (AL.v a1 (AL.v a16 (AL.v v20 (AL.i i21 (AL.i (Int.ofNat 0) AL.n))))) h17)
noncomputable def T14 (S : Sg) : Sg := tabC 0 (uV fun r0 => uN fun h => P14x0 S r0 h) (tabC 1 (uV fun r2 => uV fun r7 => uV fun r25 => uI fun r26 => uI fun r27 => uN fun h => P14x1 S r2 r7 r25 r26 r27 h) (tabC 2 (uV fun r2 => uV fun r7 => uI fun r8 => uV fun r25 => uI fun r26 => uI fun r27 => uI fun r33 => uI fun r34 => uN fun h => P14x2 S r2 r7 r8 r25 r26 r27 r33 r34 h) (tabC 3 (uV fun r2 => uV fun r7 => uV fun r25 => uI fun r26 => uI fun r27 => uN fun h => P14x3 S r2 r7 r25 r26 r27 h) (tabC 4 (uV fun r2 => uV fun r7 => uN fun h => P14x4 S r2 r7 h) (tabN)))))
noncomputable def F14 (args : List Value) (h : Hp) : CRes := packVals [Kd.v] args fun al => rec' T14 1000000 0 al h
def nt14 : Nat := 1 + (49 - 1)
theorem q14x4 (S : Sg) (r2 : Value) (r7 : Value) (h : Hp) : P14x4 S r2 r7 h = stepAt (regK env orc31 (nt14)) (finK env Tryz.f14.results.toList) (collect B14 A14 []) 4 S (AL.v r2 (AL.v r7 AL.n)) h := by kernel_rfl
theorem q14x3 (S : Sg) (r2 : Value) (r7 : Value) (r25 : Value) (r26 : Int) (r27 : Int) (h : Hp) : P14x3 S r2 r7 r25 r26 r27 h = stepAt (regK env orc31 (nt14)) (finK env Tryz.f14.results.toList) (collect B14 A14 []) 3 S (AL.v r2 (AL.v r7 (AL.v r25 (AL.i r26 (AL.i r27 AL.n))))) h := by kernel_rfl
theorem q14x2 (S : Sg) (r2 : Value) (r7 : Value) (r8 : Int) (r25 : Value) (r26 : Int) (r27 : Int) (r33 : Int) (r34 : Int) (h : Hp) : P14x2 S r2 r7 r8 r25 r26 r27 r33 r34 h = stepAt (regK env orc31 (nt14)) (finK env Tryz.f14.results.toList) (collect B14 A14 []) 2 S (AL.v r2 (AL.v r7 (AL.i r8 (AL.v r25 (AL.i r26 (AL.i r27 (AL.i r33 (AL.i r34 AL.n)))))))) h := by kernel_rfl
theorem q14x1 (S : Sg) (r2 : Value) (r7 : Value) (r25 : Value) (r26 : Int) (r27 : Int) (h : Hp) : P14x1 S r2 r7 r25 r26 r27 h = stepAt (regK env orc31 (nt14)) (finK env Tryz.f14.results.toList) (collect B14 A14 []) 1 S (AL.v r2 (AL.v r7 (AL.v r25 (AL.i r26 (AL.i r27 AL.n))))) h := by kernel_rfl
theorem q14x0 (S : Sg) (r0 : Value) (h : Hp) : P14x0 S r0 h = stepAt (regK env orc31 (nt14)) (finK env Tryz.f14.results.toList) (collect B14 A14 []) 0 S (AL.v r0 AL.n) h := by kernel_rfl
theorem t14 (S : Sg) : Tab (fun l vs h => stepAt (regK env orc31 nt14) (finK env Tryz.f14.results.toList) (collect B14 A14 []) l S vs h) (T14 S) := by
  unfold T14
  refine Tab.cons 0 (fun vs0 h q e0 => ?_) ?_
  · obtain ⟨r0, vs1, rfl, e1⟩ := uV_some e0
    obtain ⟨rfl, ee⟩ := uN_some e1
    exact (q14x0 S r0 h).symm.trans ee
  refine Tab.cons 1 (fun vs0 h q e0 => ?_) ?_
  · obtain ⟨r2, vs1, rfl, e1⟩ := uV_some e0
    obtain ⟨r7, vs2, rfl, e2⟩ := uV_some e1
    obtain ⟨r25, vs3, rfl, e3⟩ := uV_some e2
    obtain ⟨r26, vs4, rfl, e4⟩ := uI_some e3
    obtain ⟨r27, vs5, rfl, e5⟩ := uI_some e4
    obtain ⟨rfl, ee⟩ := uN_some e5
    exact (q14x1 S r2 r7 r25 r26 r27 h).symm.trans ee
  refine Tab.cons 2 (fun vs0 h q e0 => ?_) ?_
  · obtain ⟨r2, vs1, rfl, e1⟩ := uV_some e0
    obtain ⟨r7, vs2, rfl, e2⟩ := uV_some e1
    obtain ⟨r8, vs3, rfl, e3⟩ := uI_some e2
    obtain ⟨r25, vs4, rfl, e4⟩ := uV_some e3
    obtain ⟨r26, vs5, rfl, e5⟩ := uI_some e4
    obtain ⟨r27, vs6, rfl, e6⟩ := uI_some e5
    obtain ⟨r33, vs7, rfl, e7⟩ := uI_some e6
    obtain ⟨r34, vs8, rfl, e8⟩ := uI_some e7
    obtain ⟨rfl, ee⟩ := uN_some e8
    exact (q14x2 S r2 r7 r8 r25 r26 r27 r33 r34 h).symm.trans ee
  refine Tab.cons 3 (fun vs0 h q e0 => ?_) ?_
  · obtain ⟨r2, vs1, rfl, e1⟩ := uV_some e0
    obtain ⟨r7, vs2, rfl, e2⟩ := uV_some e1
    obtain ⟨r25, vs3, rfl, e3⟩ := uV_some e2
    obtain ⟨r26, vs4, rfl, e4⟩ := uI_some e3
    obtain ⟨r27, vs5, rfl, e5⟩ := uI_some e4
    obtain ⟨rfl, ee⟩ := uN_some e5
    exact (q14x3 S r2 r7 r25 r26 r27 h).symm.trans ee
  refine Tab.cons 4 (fun vs0 h q e0 => ?_) ?_
  · obtain ⟨r2, vs1, rfl, e1⟩ := uV_some e0
    obtain ⟨r7, vs2, rfl, e2⟩ := uV_some e1
    obtain ⟨rfl, ee⟩ := uN_some e2
    exact (q14x4 S r2 r7 h).symm.trans ee
  exact Tab.nil
theorem r14 : ∀ args h v h', F14 args h = some (v, h') → Runs (C31) (.call 14 args.toArray h) (.ret v h') := by
  intro args h v h' e
  exact fun_sound (C := C31) (fn := Tryz.f14) (body := B14) (np := 1) (A := A14) (T := T14) (kinds := [Kd.v]) (by kernel_rfl) (by kernel_rfl) (by kernel_rfl) (by kernel_rfl) (regK_ok env_ok) (by kernel_rfl) (fun S => t14 S) e
noncomputable def orc32 := orcQ 14 F14 orc31
noncomputable def C32 : Cfg := cfg orc32
theorem ok32 : C32.Ok := orcQ_ok (C := C31) ok31 r14
/-! ceroplast/check.IsIndex -/
noncomputable def B15 : Code := (Tryz.f15.body).getD .skip
noncomputable def A15 : G.Ann (List KI) := (G.Ann.node (some (0, [KI.reg 0 (Kd.i .i64), KI.reg 1 (Kd.v)])) G.Ann.nil (G.Ann.node none G.Ann.nil G.Ann.nil))
noncomputable def P15x0 (h : Hp) (S : Nat → PAL → Option Value) (r0 : Int) (r1 : Value) : Option Value :=
  wrap64 (Int.sub r0 (Int.ofNat 1)) fun i0 =>
  optK (F31 [(Value.int .i64 (Int.ofNat 0)), (Value.int .i64 i0), r1] h) fun v1 =>
  boolK v1 fun b2 =>
  some (Value.bool b2)
noncomputable def T15 (h : Hp) (S : Nat → PAL → Option Value) : Nat → PAL → Option Value := tabPC 0 (wI fun r0 => wV fun r1 => wN (P15x0 h S r0 r1)) (tabPN)
noncomputable def F15 (args : List Value) (h : Hp) : Option Value := plainO (packArgs [Kd.i .i64, Kd.v] args fun al => G.rec' (T15 h) 1000000 0 al)
def nt15 : Nat := 2 + (9 - 2)
theorem q15x0 (h : Hp) (S : Nat → PAL → Option Value) (r0 : Int) (r1 : Value) : P15x0 h S r0 r1 = G.stepAt packP unpackP evXV (regP env pf16 nt15 h) (finP env Tryz.f15.results.toList) (G.collect B15 A15 []) 0 S (PAL.i r0 (PAL.v r1 PAL.n)) := by kernel_rfl
theorem t15 (h : Hp) (S : Nat → PAL → Option Value) : TabP (fun l al => G.stepAt packP unpackP evXV (regP env pf16 nt15 h) (finP env Tryz.f15.results.toList) (G.collect B15 A15 []) l S al) (T15 h S) := by
  unfold T15
  refine TabP.cons 0 (fun vs0 q e0 => ?_) ?_
  · obtain ⟨r0, vs1, rfl, e1⟩ := wI_some e0
    obtain ⟨r1, vs2, rfl, e2⟩ := wV_some e1
    obtain ⟨rfl, ee⟩ := wN_some e2
    exact (q15x0 h S r0 r1).symm.trans ee
  exact TabP.nil
theorem r15 : PSound Tryz.prog 15 F15 := fun_soundP (C := C0) ok0 (pf := pf16) pfok16 (fn := Tryz.f15) (body := B15) (kinds := [Kd.i .i64, Kd.v]) (A := A15) (T := T15) (by kernel_rfl) (by kernel_rfl) (by kernel_rfl) (by kernel_rfl) (fun h S => t15 h S)
noncomputable def pf17 : PF := pfC 15 F15 pf16
theorem pfok17 : PfSound Tryz.prog pf17 := pfC_ok r15 pfok16
noncomputable def orc33 := orcP 15 F15 orc32
noncomputable def C33 : Cfg := cfg orc33
theorem ok33 : C33.Ok := orcP_ok (C := C32) ok32 r15
/-! (ceroplast/mould.look).truths$1 -/
noncomputable def B33 : Code := (Tryz.f33.body).getD .skip
noncomputable def A33 : G.Ann (List KI) := (G.Ann.node (some (0, [KI.reg 0 (Kd.v), KI.reg 1 (Kd.i .i64), KI.reg 2 (Kd.v)])) G.Ann.nil (G.Ann.node none G.Ann.nil (G.Ann.node none G.Ann.nil G.Ann.nil)))
noncomputable def P33x0 (h : Hp) (S : Nat → PAL → Option Value) (r0 : Value) (r1 : Int) (r2 : Value) : Option Value :=
  forceL (Array.toList (Value.cells r0)) fun c0 =>
  wrap64 (Int.add r1 (Int.ofNat 1)) fun i1 =>
  slowI .i64 (shlI (binW env .shl 3 (Value.int .i64 (Int.negSucc 0)) (Value.int .i64 i1)) (Value.int .i64 (Int.negSucc 0)) (Value.int .i64 i1)) fun i2 =>
  loadNK 4 h r2 fun v3 =>
  dropR c0 0 fun d4 => takeR d4 8 fun l4 =>
  optK (FM34 [v3, (Value.agg (Array.mk l4)), (Value.int .i64 i2)] h) fun v5 =>
  boolK v5 fun b6 =>
  some (Value.bool b6)
noncomputable def T33 (h : Hp) (S : Nat → PAL → Option Value) : Nat → PAL → Option Value := tabPC 0 (wV fun r0 => wI fun r1 => wV fun r2 => wN (P33x0 h S r0 r1 r2)) (tabPN)
noncomputable def F33 (args : List Value) (h : Hp) : Option Value := plainO (packArgs [Kd.v, Kd.i .i64, Kd.v] args fun al => G.rec' (T33 h) 1000000 0 al)
def nt33 : Nat := 3 + (14 - 3)
theorem q33x0 (h : Hp) (S : Nat → PAL → Option Value) (r0 : Value) (r1 : Int) (r2 : Value) : P33x0 h S r0 r1 r2 = G.stepAt packP unpackP evXV (regP env pf17 nt33 h) (finP env Tryz.f33.results.toList) (G.collect B33 A33 []) 0 S (PAL.v r0 (PAL.i r1 (PAL.v r2 PAL.n))) := by kernel_rfl
theorem t33 (h : Hp) (S : Nat → PAL → Option Value) : TabP (fun l al => G.stepAt packP unpackP evXV (regP env pf17 nt33 h) (finP env Tryz.f33.results.toList) (G.collect B33 A33 []) l S al) (T33 h S) := by
  unfold T33
  refine TabP.cons 0 (fun vs0 q e0 => ?_) ?_
  · obtain ⟨r0, vs1, rfl, e1⟩ := wV_some e0
    obtain ⟨r1, vs2, rfl, e2⟩ := wI_some e1
    obtain ⟨r2, vs3, rfl, e3⟩ := wV_some e2
    obtain ⟨rfl, ee⟩ := wN_some e3
    exact (q33x0 h S r0 r1 r2).symm.trans ee
  exact TabP.nil
theorem r33 : PSound Tryz.prog 33 F33 := fun_soundP (C := C0) ok0 (pf := pf17) pfok17 (fn := Tryz.f33) (body := B33) (kinds := [Kd.v, Kd.i .i64, Kd.v]) (A := A33) (T := T33) (by kernel_rfl) (by kernel_rfl) (by kernel_rfl) (by kernel_rfl) (fun h S => t33 h S)
noncomputable def pf18 : PF := pfC 33 F33 pf17
theorem pfok18 : PfSound Tryz.prog pf18 := pfC_ok r33 pfok17
noncomputable def orc34 := orcP 33 F33 orc33
noncomputable def C34 : Cfg := cfg orc34
theorem ok34 : C34.Ok := orcP_ok (C := C33) ok33 r33
/-! (ceroplast/mould.look).placings$1 -/
noncomputable def B57 : Code := (Tryz.f57.body).getD .skip
def A57 : Ann := (Ann.node (some (0, [(0, Kd.v), (1, Kd.v), (2, Kd.v)])) Ann.nil (Ann.node none Ann.nil (Ann.node none Ann.nil (Ann.node none Ann.nil Ann.nil))))
noncomputable def P57x0 (S : Sg) (r0 : Value) (r1 : Value) (r2 : Value) (h : Hp) : CRes :=
  allocK h 114 (Array.toList (Value.cells r0)) fun a0 h0 =>
  allocK h0 62 [(Value.int .i64 (Int.ofNat 0)), (Value.int .i64 (Int.ofNat 0)), (Value.int .i64 (Int.ofNat 0)), (Value.int .i64 (Int.ofNat 0)), (Value.int .i64 (Int.ofNat 0)), (Value.int .i64 (Int.ofNat 0)), (Value.int .i64 (Int.ofNat 0)), (Value.int .i64 (Int.ofNat 0))] fun a1 h1 =>
  allocK h1 115 [Value.nilFunc] fun a2 h2 =>
  store1K h2 a2 (Value.func (.func 58) (List.toArray []) (List.toArray [r1, a0, a1, r2, a2])) fun h3 =>
  load1K h3 a2 fun v4 =>
  pairK (callF orc34 v4 [(Value.int .i64 (Int.ofNat 0))] h3) fun v5 h5 =>
  boolK v5 fun b6 =>
  some (Value.tuple (List.toArray []), h5)
noncomputable def T57 (S : Sg) : Sg := tabC 0 (uV fun r0 => uV fun r1 => uV fun r2 => uN fun h => P57x0 S r0 r1 r2 h) (tabN)
noncomputable def F57 (args : List Value) (h : Hp) : CRes := packVals [Kd.v, Kd.v, Kd.v] args fun al => rec' T57 1000000 0 al h
def nt57 : Nat := 3 + (9 - 3)
theorem q57x0 (S : Sg) (r0 : Value) (r1 : Value) (r2 : Value) (h : Hp) : P57x0 S r0 r1 r2 h = stepAt (regK env orc34 (nt57)) (finK env Tryz.f57.results.toList) (collect B57 A57 []) 0 S (AL.v r0 (AL.v r1 (AL.v r2 AL.n))) h := by kernel_rfl
theorem t57 (S : Sg) : Tab (fun l vs h => stepAt (regK env orc34 nt57) (finK env Tryz.f57.results.toList) (collect B57 A57 []) l S vs h) (T57 S) := by
  unfold T57
  refine Tab.cons 0 (fun vs0 h q e0 => ?_) ?_
  · obtain ⟨r0, vs1, rfl, e1⟩ := uV_some e0
    obtain ⟨r1, vs2, rfl, e2⟩ := uV_some e1
    obtain ⟨r2, vs3, rfl, e3⟩ := uV_some e2
    obtain ⟨rfl, ee⟩ := uN_some e3
    exact (q57x0 S r0 r1 r2 h).symm.trans ee
  exact Tab.nil
theorem r57 : ∀ args h v h', F57 args h = some (v, h') → Runs (C34) (.call 57 args.toArray h) (.ret v h') := by
  intro args h v h' e
  exact fun_sound (C := C34) (fn := Tryz.f57) (body := B57) (np := 3) (A := A57) (T := T57) (kinds := [Kd.v, Kd.v, Kd.v]) (by kernel_rfl) (by kernel_rfl) (by kernel_rfl) (by kernel_rfl) (regK_ok env_ok) (by kernel_rfl) (fun S => t57 S) e
noncomputable def orc35 := orcQ 57 F57 orc34
noncomputable def C35 : Cfg := cfg orc35
theorem ok35 : C35.Ok := orcQ_ok (C := C34) ok34 r57
/-! (ceroplast/mould.look).placings -/
noncomputable def B32 : Code := (Tryz.f32.body).getD .skip
def A32 : Ann := (Ann.node (some (0, [(0, Kd.v), (1, Kd.v)])) Ann.nil (Ann.node none Ann.nil Ann.nil))
noncomputable def P32x0 (S : Sg) (r0 : Value) (r1 : Value) (h : Hp) : CRes :=
  allocK h 53 (Array.toList (Value.cells r0)) fun a0 h0 =>
  allocK h0 90 (Array.toList (Value.cells r1)) fun a1 h1 =>
  some ((Value.func (.func 57) (List.toArray []) (List.toArray [a0, a1])), h1)
noncomputable def T32 (S : Sg) : Sg := tabC 0 (uV fun r0 => uV fun r1 => uN fun h => P32x0 S r0 r1 h) (tabN)
noncomputable def F32 (args : List Value) (h : Hp) : CRes := packVals [Kd.v, Kd.v] args fun al => rec' T32 1000000 0 al h
def nt32 : Nat := 2 + (6 - 2)
theorem q32x0 (S : Sg) (r0 : Value) (r1 : Value) (h : Hp) : P32x0 S r0 r1 h = stepAt (regK env orc35 (nt32)) (finK env Tryz.f32.results.toList) (collect B32 A32 []) 0 S (AL.v r0 (AL.v r1 AL.n)) h := by kernel_rfl
theorem t32 (S : Sg) : Tab (fun l vs h => stepAt (regK env orc35 nt32) (finK env Tryz.f32.results.toList) (collect B32 A32 []) l S vs h) (T32 S) := by
  unfold T32
  refine Tab.cons 0 (fun vs0 h q e0 => ?_) ?_
  · obtain ⟨r0, vs1, rfl, e1⟩ := uV_some e0
    obtain ⟨r1, vs2, rfl, e2⟩ := uV_some e1
    obtain ⟨rfl, ee⟩ := uN_some e2
    exact (q32x0 S r0 r1 h).symm.trans ee
  exact Tab.nil
theorem r32 : ∀ args h v h', F32 args h = some (v, h') → Runs (C35) (.call 32 args.toArray h) (.ret v h') := by
  intro args h v h' e
  exact fun_sound (C := C35) (fn := Tryz.f32) (body := B32) (np := 2) (A := A32) (T := T32) (kinds := [Kd.v, Kd.v]) (by kernel_rfl) (by kernel_rfl) (by kernel_rfl) (by kernel_rfl) (regK_ok env_ok) (by kernel_rfl) (fun S => t32 S) e
noncomputable def orc36 := orcQ 32 F32 orc35
noncomputable def C36 : Cfg := cfg orc36
theorem ok36 : C36.Ok := orcQ_ok (C := C35) ok35 r32
/-! (ceroplast/mould.look).truths -/
noncomputable def B16 : Code := (Tryz.f16.body).getD .skip
def A16 : Ann := (Ann.node (some (0, [(0, Kd.v)])) Ann.nil (Ann.node none Ann.nil Ann.nil))
noncomputable def P16x0 (S : Sg) (r0 : Value) (h : Hp) : CRes :=
  allocK h 53 (Array.toList (Value.cells r0)) fun a0 h0 =>
  loadNK 4 h0 a0 fun v1 =>
  pairK (callQ F32 [v1, (Value.func (.func 33) (List.toArray []) (List.toArray [a0]))] h0) fun v2 h2 =>
  some (v2, h2)
noncomputable def T16 (S : Sg) : Sg := tabC 0 (uV fun r0 => uN fun h => P16x0 S r0 h) (tabN)
noncomputable def F16 (args : List Value) (h : Hp) : CRes := packVals [Kd.v] args fun al => rec' T16 1000000 0 al h
def nt16 : Nat := 1 + (6 - 1)
theorem q16x0 (S : Sg) (r0 : Value) (h : Hp) : P16x0 S r0 h = stepAt (regK env orc36 (nt16)) (finK env Tryz.f16.results.toList) (collect B16 A16 []) 0 S (AL.v r0 AL.n) h := by kernel_rfl
theorem t16 (S : Sg) : Tab (fun l vs h => stepAt (regK env orc36 nt16) (finK env Tryz.f16.results.toList) (collect B16 A16 []) l S vs h) (T16 S) := by
  unfold T16
  refine Tab.cons 0 (fun vs0 h q e0 => ?_) ?_
  · obtain ⟨r0, vs1, rfl, e1⟩ := uV_some e0
    obtain ⟨rfl, ee⟩ := uN_some e1
    exact (q16x0 S r0 h).symm.trans ee
  exact Tab.nil
theorem r16 : ∀ args h v h', F16 args h = some (v, h') → Runs (C36) (.call 16 args.toArray h) (.ret v h') := by
  intro args h v h' e
  exact fun_sound (C := C36) (fn := Tryz.f16) (body := B16) (np := 1) (A := A16) (T := T16) (kinds := [Kd.v]) (by kernel_rfl) (by kernel_rfl) (by kernel_rfl) (by kernel_rfl) (regK_ok env_ok) (by kernel_rfl) (fun S => t16 S) e
noncomputable def orc37 := orcQ 16 F16 orc36
noncomputable def C37 : Cfg := cfg orc37
theorem ok37 : C37.Ok := orcQ_ok (C := C36) ok36 r16
/-! ceroplast/mould.pairing -/
noncomputable def B35 : Code := (Tryz.f35.body).getD .skip
noncomputable def A35 : G.Ann (List KI) := (G.Ann.node (some (0, [KI.reg 0 (Kd.v), KI.reg 1 (Kd.v)])) G.Ann.nil (G.Ann.node none (G.Ann.node none (G.Ann.node none G.Ann.nil (G.Ann.node none (G.Ann.node none G.Ann.nil G.Ann.nil) (G.Ann.node none G.Ann.nil (G.Ann.node none (G.Ann.node none G.Ann.nil G.Ann.nil) G.Ann.nil)))) G.Ann.nil) (G.Ann.node none G.Ann.nil G.Ann.nil)))
noncomputable def P35x0 (h : Hp) (S : Nat → PAL → Option Value) (r0 : Value) (r1 : Value) : Option Value :=
  forceL (Array.toList (Value.cells r0)) fun c0 =>
  forceL (Array.toList (Value.cells r1)) fun c1 =>
  nthR c0 0 fun v2 =>
  intK .i64 v2 fun i3 =>
  nthR c1 0 fun v4 =>
  intK .i64 v4 fun i5 =>
  boolN (eqZ i3 i5) fun b6 =>
  ifB b6
  (some (Value.int .i64 (Int.negSucc 0)))
  (nthR c0 1 fun v7 =>
  intK .i64 v7 fun i8 =>
  nthR c1 1 fun v9 =>
  intK .i64 v9 fun i10 =>
  boolZ (ltZ i8 i10) fun b11 =>
  ifB b11
  (some (Value.int .i64 (Int.ofNat 1)))
  (some (Value.int .i64 (Int.ofNat 2))))
noncomputable def T35 (h : Hp) (S : Nat → PAL → Option Value) : Nat → PAL → Option Value := tabPC 0 (wV fun r0 => wV fun r1 => wN (P35x0 h S r0 r1)) (tabPN)
noncomputable def F35 (args : List Value) (h : Hp) : Option Value := plainO (packArgs [Kd.v, Kd.v] args fun al => G.rec' (T35 h) 1000000 0 al)
def nt35 : Nat := 2 + (17 - 2)
theorem q35x0 (h : Hp) (S : Nat → PAL → Option Value) (r0 : Value) (r1 : Value) : P35x0 h S r0 r1 = G.stepAt packP unpackP evXV (regP env pf18 nt35 h) (finP env Tryz.f35.results.toList) (G.collect B35 A35 []) 0 S (PAL.v r0 (PAL.v r1 PAL.n)) := by kernel_rfl
theorem t35 (h : Hp) (S : Nat → PAL → Option Value) : TabP (fun l al => G.stepAt packP unpackP evXV (regP env pf18 nt35 h) (finP env Tryz.f35.results.toList) (G.collect B35 A35 []) l S al) (T35 h S) := by
  unfold T35
  refine TabP.cons 0 (fun vs0 q e0 => ?_) ?_
  · obtain ⟨r0, vs1, rfl, e1⟩ := wV_some e0
    obtain ⟨r1, vs2, rfl, e2⟩ := wV_some e1
    obtain ⟨rfl, ee⟩ := wN_some e2
    exact (q35x0 h S r0 r1).symm.trans ee
  exact TabP.nil
theorem r35 : PSound Tryz.prog 35 F35 := fun_soundP (C := C0) ok0 (pf := pf18) pfok18 (fn := Tryz.f35) (body := B35) (kinds := [Kd.v, Kd.v]) (A := A35) (T := T35) (by kernel_rfl) (by kernel_rfl) (by kernel_rfl) (by kernel_rfl) (fun h S => t35 h S)
noncomputable def pf19 : PF := pfC 35 F35 pf18
theorem pfok19 : PfSound Tryz.prog pf19 := pfC_ok r35 pfok18
noncomputable def orc38 := orcP 35 F35 orc37
noncomputable def C38 : Cfg := cfg orc38
theorem ok38 : C38.Ok := orcP_ok (C := C37) ok37 r35
/-! (ceroplast/mould.look).wrong$1 -/
noncomputable def B37 : Code := (Tryz.f37.body).getD .skip
noncomputable def A37 : G.Ann (List KI) := (G.Ann.node (some (0, [KI.reg 0 (Kd.v), KI.reg 1 (Kd.i .i64)])) G.Ann.nil (G.Ann.node none G.Ann.nil G.Ann.nil))
noncomputable def P37x0 (h : Hp) (S : Nat → PAL → Option Value) (r0 : Value) (r1 : Int) : Option Value :=
  forceL (Array.toList (Value.cells r0)) fun c0 =>
  some (Value.bool true)
noncomputable def T37 (h : Hp) (S : Nat → PAL → Option Value) : Nat → PAL → Option Value := tabPC 0 (wV fun r0 => wI fun r1 => wN (P37x0 h S r0 r1)) (tabPN)
noncomputable def F37 (args : List Value) (h : Hp) : Option Value := plainO (packArgs [Kd.v, Kd.i .i64] args fun al => G.rec' (T37 h) 1000000 0 al)
def nt37 : Nat := 2 + (5 - 2)
theorem q37x0 (h : Hp) (S : Nat → PAL → Option Value) (r0 : Value) (r1 : Int) : P37x0 h S r0 r1 = G.stepAt packP unpackP evXV (regP env pf19 nt37 h) (finP env Tryz.f37.results.toList) (G.collect B37 A37 []) 0 S (PAL.v r0 (PAL.i r1 PAL.n)) := by kernel_rfl
theorem t37 (h : Hp) (S : Nat → PAL → Option Value) : TabP (fun l al => G.stepAt packP unpackP evXV (regP env pf19 nt37 h) (finP env Tryz.f37.results.toList) (G.collect B37 A37 []) l S al) (T37 h S) := by
  unfold T37
  refine TabP.cons 0 (fun vs0 q e0 => ?_) ?_
  · obtain ⟨r0, vs1, rfl, e1⟩ := wV_some e0
    obtain ⟨r1, vs2, rfl, e2⟩ := wI_some e1
    obtain ⟨rfl, ee⟩ := wN_some e2
    exact (q37x0 h S r0 r1).symm.trans ee
  exact TabP.nil
theorem r37 : PSound Tryz.prog 37 F37 := fun_soundP (C := C0) ok0 (pf := pf19) pfok19 (fn := Tryz.f37) (body := B37) (kinds := [Kd.v, Kd.i .i64]) (A := A37) (T := T37) (by kernel_rfl) (by kernel_rfl) (by kernel_rfl) (by kernel_rfl) (fun h S => t37 h S)
noncomputable def pf20 : PF := pfC 37 F37 pf19
theorem pfok20 : PfSound Tryz.prog pf20 := pfC_ok r37 pfok19
noncomputable def orc39 := orcP 37 F37 orc38
noncomputable def C39 : Cfg := cfg orc39
theorem ok39 : C39.Ok := orcP_ok (C := C38) ok38 r37
/-! (ceroplast/mould.look).entries -/
noncomputable def B19 : Code := (Tryz.f19.body).getD .skip
def A19 : Ann := (Ann.node (some (0, [(0, Kd.v), (1, Kd.i .i64)])) Ann.nil (Ann.node none Ann.nil (Ann.node none (Ann.node none Ann.nil (Ann.node none (Ann.node (some (1, [(1, Kd.i .i64), (2, Kd.v), (5, Kd.v), (11, Kd.i .i64), (12, Kd.i .i64)])) (Ann.node none Ann.nil (Ann.node none (Ann.node none Ann.nil Ann.nil) (Ann.node none (Ann.node none (Ann.node none Ann.nil (Ann.node none Ann.nil (Ann.node none (Ann.node (some (2, [(1, Kd.i .i64), (2, Kd.v), (5, Kd.v), (6, Kd.i .i64), (11, Kd.i .i64), (12, Kd.i .i64), (17, Kd.i .i64), (18, Kd.i .i64)])) (Ann.node none Ann.nil (Ann.node none (Ann.node none Ann.nil Ann.nil) (Ann.node none (Ann.node none (Ann.node none Ann.nil (Ann.node none Ann.nil (Ann.node none Ann.nil Ann.nil))) Ann.nil) Ann.nil))) Ann.nil) Ann.nil))) Ann.nil) (Ann.node (some (3, [(1, Kd.i .i64), (2, Kd.v), (5, Kd.v), (11, Kd.i .i64), (12, Kd.i .i64)])) Ann.nil Ann.nil)))) Ann.nil) Ann.nil)) (Ann.node (some (4, [(5, Kd.v)])) Ann.nil Ann.nil))))
noncomputable def P19x4 (S : Sg) (r5 : Value) (h : Hp) : CRes :=
  some (r5, h)
noncomputable def P19x3 (S : Sg) (r1 : Int) (r2 : Value) (r5 : Value) (r11 : Int) (r12 : Int) (h : Hp) : CRes :=
  wrap64 (Int.add r12 (Int.ofNat 1)) fun i0 =>
  S 1 (AL.i r1 (AL.v r2 (AL.v r5 (AL.i r11 (AL.i i0 AL.n))))) h
noncomputable def P19x2 (S : Sg) (r1 : Int) (r2 : Value) (r5 : Value) (r6 : Int) (r11 : Int) (r12 : Int) (r17 : Int) (r18 : Int) (h : Hp) : CRes :=
  boolZ (ltZ r18 r17) fun b0 =>
  ifB b0
  (ptrAddK 0 r2 fun v1 =>
  ptrAddK 0 v1 fun v2 =>
  load1K h v2 fun v3 =>
  intK .i64 v3 fun i4 =>
  wrap64 (Int.mul r6 i4) fun i5 =>
  wrap64 (Int.add i5 r18) fun i6 =>
  shrZ .i64 r1 i6 (shrI (binW env .shr 3 (Value.int .i64 r1) (Value.int .i64 i6)) (Value.int .i64 r1) (Value.int .i64 i6)) fun i7 =>
  andZ .i64 i7 (Int.ofNat 1) (andI (binW env .and 3 (Value.int .i64 i7) (Value.int .i64 (Int.ofNat 1))) (Value.int .i64 i7) (Value.int .i64 (Int.ofNat 1))) fun i8 =>
  boolZ (eqZ i8 (Int.ofNat 1)) fun b9 =>
  ifB b9
  (optK (buildV env 84 (List.toArray [(0, (Value.int .i64 r6)), (1, (Value.int .i64 r18))])) fun v10 =>
  pairK (buildSliceV env h 37 1 (List.toArray [(0, v10)])) fun v11 h11 =>
  pairK (appendV env h11 #[37, 37] (List.toArray [r5, v11])) fun v12 h12 =>
  wrap64 (Int.add r18 (Int.ofNat 1)) fun i13 =>
  S 2 (AL.i r1 (AL.v r2 (AL.v v12 (AL.i r6 (AL.i r11 (AL.i r12 (AL.i r17 (AL.i i13 AL.n)))))))) h12)
  (wrap64 (Int.add r18 (Int.ofNat 1)) fun i14 =>
  S 2 (AL.i r1 (AL.v r2 (AL.v r5 (AL.i r6 (AL.i r11 (AL.i r12 (AL.i r17 (AL.i i14 AL.n)))))))) h))
  (S 3 (AL.i r1 (AL.v r2 (AL.v r5 (AL.i r11 (AL.i r12 AL.n))))) h)
noncomputable def P19x1 (S : Sg) (r1 : Int) (r2 : Value) (r5 : Value) (r11 : Int) (r12 : Int) (h : Hp) : CRes :=
  boolZ (ltZ r12 r11) fun b0 =>
  ifB b0
  (ptrAddK 0 r2 fun v1 =>
  ptrAddK 0 v1 fun v2 =>
  load1K h v2 fun v3 =>
  intK .i64 v3 fun i4 =>
  S 2 (AL.i r1 (AL.v r2 (AL.v r5 (AL.i r12 (AL.i r11 (AL.i r12 (AL.i i4 (AL.i (Int.ofNat 0) AL.n)))))))) h)
  (S 4 (AL.v r5 AL.n) h)
noncomputable def P19x0 (S : Sg) (r0 : Value) (r1 : Int) (h : Hp) : CRes :=
  allocK h 53 (Array.toList (Value.cells r0)) fun a0 h0 =>
  ptrAddK 0 a0 fun v1 =>
  ptrAddK 2 v1 fun v2 =>
  load1K h0 v2 fun v3 =>
  lenSK v3 fun i4 =>
  S 1 (AL.i r1 (AL.v a0 (AL.v (Value.slice none 0 0) (AL.i i4 (AL.i (Int.ofNat 0) AL.n))))) h0
noncomputable def T19 (S : Sg) : Sg := tabC 0 (uV fun r0 => uI fun r1 => uN fun h => P19x0 S r0 r1 h) (tabC 1 (uI fun r1 => uV fun r2 => uV fun r5 => uI fun r11 => uI fun r12 => uN fun h => P19x1 S r1 r2 r5 r11 r12 h) (tabC 2 (uI fun r1 => uV fun r2 => uV fun r5 => uI fun r6 => uI fun r11 => uI fun r12 => uI fun r17 => uI fun r18 => uN fun h => P19x2 S r1 r2 r5 r6 r11 r12 r17 r18 h) (tabC 3 (uI fun r1 => uV fun r2 => uV fun r5 => uI fun r11 => uI fun r12 => uN fun h => P19x3 S r1 r2 r5 r11 r12 h) (tabC 4 (uV fun r5 => uN fun h => P19x4 S r5 h) (tabN)))))
noncomputable def F19 (args : List Value) (h : Hp) : CRes := packVals [Kd.v, Kd.i .i64] args fun al => rec' T19 1000000 0 al h
def nt19 : Nat := 2 + (41 - 2)
theorem q19x4 (S : Sg) (r5 : Value) (h : Hp) : P19x4 S r5 h = stepAt (regK env orc39 (nt19)) (finK env Tryz.f19.results.toList) (collect B19 A19 []) 4 S (AL.v r5 AL.n) h := by kernel_rfl
theorem q19x3 (S : Sg) (r1 : Int) (r2 : Value) (r5 : Value) (r11 : Int) (r12 : Int) (h : Hp) : P19x3 S r1 r2 r5 r11 r12 h = stepAt (regK env orc39 (nt19)) (finK env Tryz.f19.results.toList) (collect B19 A19 []) 3 S (AL.i r1 (AL.v r2 (AL.v r5 (AL.i r11 (AL.i r12 AL.n))))) h := by kernel_rfl
theorem q19x2 (S : Sg) (r1 : Int) (r2 : Value) (r5 : Value) (r6 : Int) (r11 : Int) (r12 : Int) (r17 : Int) (r18 : Int) (h : Hp) : P19x2 S r1 r2 r5 r6 r11 r12 r17 r18 h = stepAt (regK env orc39 (nt19)) (finK env Tryz.f19.results.toList) (collect B19 A19 []) 2 S (AL.i r1 (AL.v r2 (AL.v r5 (AL.i r6 (AL.i r11 (AL.i r12 (AL.i r17 (AL.i r18 AL.n)))))))) h := by kernel_rfl
theorem q19x1 (S : Sg) (r1 : Int) (r2 : Value) (r5 : Value) (r11 : Int) (r12 : Int) (h : Hp) : P19x1 S r1 r2 r5 r11 r12 h = stepAt (regK env orc39 (nt19)) (finK env Tryz.f19.results.toList) (collect B19 A19 []) 1 S (AL.i r1 (AL.v r2 (AL.v r5 (AL.i r11 (AL.i r12 AL.n))))) h := by kernel_rfl
theorem q19x0 (S : Sg) (r0 : Value) (r1 : Int) (h : Hp) : P19x0 S r0 r1 h = stepAt (regK env orc39 (nt19)) (finK env Tryz.f19.results.toList) (collect B19 A19 []) 0 S (AL.v r0 (AL.i r1 AL.n)) h := by kernel_rfl
theorem t19 (S : Sg) : Tab (fun l vs h => stepAt (regK env orc39 nt19) (finK env Tryz.f19.results.toList) (collect B19 A19 []) l S vs h) (T19 S) := by
  unfold T19
  refine Tab.cons 0 (fun vs0 h q e0 => ?_) ?_
  · obtain ⟨r0, vs1, rfl, e1⟩ := uV_some e0
    obtain ⟨r1, vs2, rfl, e2⟩ := uI_some e1
    obtain ⟨rfl, ee⟩ := uN_some e2
    exact (q19x0 S r0 r1 h).symm.trans ee
  refine Tab.cons 1 (fun vs0 h q e0 => ?_) ?_
  · obtain ⟨r1, vs1, rfl, e1⟩ := uI_some e0
    obtain ⟨r2, vs2, rfl, e2⟩ := uV_some e1
    obtain ⟨r5, vs3, rfl, e3⟩ := uV_some e2
    obtain ⟨r11, vs4, rfl, e4⟩ := uI_some e3
    obtain ⟨r12, vs5, rfl, e5⟩ := uI_some e4
    obtain ⟨rfl, ee⟩ := uN_some e5
    exact (q19x1 S r1 r2 r5 r11 r12 h).symm.trans ee
  refine Tab.cons 2 (fun vs0 h q e0 => ?_) ?_
  · obtain ⟨r1, vs1, rfl, e1⟩ := uI_some e0
    obtain ⟨r2, vs2, rfl, e2⟩ := uV_some e1
    obtain ⟨r5, vs3, rfl, e3⟩ := uV_some e2
    obtain ⟨r6, vs4, rfl, e4⟩ := uI_some e3
    obtain ⟨r11, vs5, rfl, e5⟩ := uI_some e4
    obtain ⟨r12, vs6, rfl, e6⟩ := uI_some e5
    obtain ⟨r17, vs7, rfl, e7⟩ := uI_some e6
    obtain ⟨r18, vs8, rfl, e8⟩ := uI_some e7
    obtain ⟨rfl, ee⟩ := uN_some e8
    exact (q19x2 S r1 r2 r5 r6 r11 r12 r17 r18 h).symm.trans ee
  refine Tab.cons 3 (fun vs0 h q e0 => ?_) ?_
  · obtain ⟨r1, vs1, rfl, e1⟩ := uI_some e0
    obtain ⟨r2, vs2, rfl, e2⟩ := uV_some e1
    obtain ⟨r5, vs3, rfl, e3⟩ := uV_some e2
    obtain ⟨r11, vs4, rfl, e4⟩ := uI_some e3
    obtain ⟨r12, vs5, rfl, e5⟩ := uI_some e4
    obtain ⟨rfl, ee⟩ := uN_some e5
    exact (q19x3 S r1 r2 r5 r11 r12 h).symm.trans ee
  refine Tab.cons 4 (fun vs0 h q e0 => ?_) ?_
  · obtain ⟨r5, vs1, rfl, e1⟩ := uV_some e0
    obtain ⟨rfl, ee⟩ := uN_some e1
    exact (q19x4 S r5 h).symm.trans ee
  exact Tab.nil
theorem r19 : ∀ args h v h', F19 args h = some (v, h') → Runs (C39) (.call 19 args.toArray h) (.ret v h') := by
  intro args h v h' e
  exact fun_sound (C := C39) (fn := Tryz.f19) (body := B19) (np := 2) (A := A19) (T := T19) (kinds := [Kd.v, Kd.i .i64]) (by kernel_rfl) (by kernel_rfl) (by kernel_rfl) (by kernel_rfl) (regK_ok env_ok) (by kernel_rfl) (fun S => t19 S) e
noncomputable def orc40 := orcQ 19 F19 orc39
noncomputable def C40 : Cfg := cfg orc40
theorem ok40 : C40.Ok := orcQ_ok (C := C39) ok39 r19
/-! ceroplast/ceroplastlaw01.cast -/
noncomputable def B11 : Code := (Tryz.f11.body).getD .skip
noncomputable def A11 : G.Ann (List KI) := (G.Ann.node (some (0, [KI.reg 0 (Kd.i .i64), KI.reg 1 (Kd.i .i64)])) G.Ann.nil (G.Ann.node none G.Ann.nil G.Ann.nil))
noncomputable def P11x0 (h : Hp) (S : Nat → PAL → Option Value) (r0 : Int) (r1 : Int) : Option Value :=
  optK (buildV env 42 (List.toArray [(0, (Value.int .i64 r0)), (1, (Value.int .i64 r1))])) fun v0 =>
  aggK v0 fun l1 => ifB (Nat.beq (lenR l1) 2) (segR 0 l1 [(Value.int .i64 (Int.ofNat 0)), (Value.int .i64 (Int.ofNat 0))] fun c1 =>
  dropR c1 0 fun d2 => takeR d2 2 fun l2 => some (Value.agg (Array.mk l2))) none
noncomputable def T11 (h : Hp) (S : Nat → PAL → Option Value) : Nat → PAL → Option Value := tabPC 0 (wI fun r0 => wI fun r1 => wN (P11x0 h S r0 r1)) (tabPN)
noncomputable def F11 (args : List Value) (h : Hp) : Option Value := plainO (packArgs [Kd.i .i64, Kd.i .i64] args fun al => G.rec' (T11 h) 1000000 0 al)
def nt11 : Nat := 2 + (8 - 2)
theorem q11x0 (h : Hp) (S : Nat → PAL → Option Value) (r0 : Int) (r1 : Int) : P11x0 h S r0 r1 = G.stepAt packP unpackP evXV (regP env pf20 nt11 h) (finP env Tryz.f11.results.toList) (G.collect B11 A11 []) 0 S (PAL.i r0 (PAL.i r1 PAL.n)) := by kernel_rfl
theorem t11 (h : Hp) (S : Nat → PAL → Option Value) : TabP (fun l al => G.stepAt packP unpackP evXV (regP env pf20 nt11 h) (finP env Tryz.f11.results.toList) (G.collect B11 A11 []) l S al) (T11 h S) := by
  unfold T11
  refine TabP.cons 0 (fun vs0 q e0 => ?_) ?_
  · obtain ⟨r0, vs1, rfl, e1⟩ := wI_some e0
    obtain ⟨r1, vs2, rfl, e2⟩ := wI_some e1
    obtain ⟨rfl, ee⟩ := wN_some e2
    exact (q11x0 h S r0 r1).symm.trans ee
  exact TabP.nil
theorem r11 : PSound Tryz.prog 11 F11 := fun_soundP (C := C0) ok0 (pf := pf20) pfok20 (fn := Tryz.f11) (body := B11) (kinds := [Kd.i .i64, Kd.i .i64]) (A := A11) (T := T11) (by kernel_rfl) (by kernel_rfl) (by kernel_rfl) (by kernel_rfl) (fun h S => t11 h S)
noncomputable def pf21 : PF := pfC 11 F11 pf20
theorem pfok21 : PfSound Tryz.prog pf21 := pfC_ok r11 pfok20
noncomputable def orc41 := orcP 11 F11 orc40
noncomputable def C41 : Cfg := cfg orc41
theorem ok41 : C41.Ok := orcP_ok (C := C40) ok40 r11
/-! ceroplast/ceroplastref01.Equal -/
noncomputable def B10 : Code := (Tryz.f10.body).getD .skip
noncomputable def A10 : G.Ann (List KI) := (G.Ann.node (some (0, [KI.reg 0 (Kd.v), KI.reg 1 (Kd.v)])) G.Ann.nil (G.Ann.node none G.Ann.nil (G.Ann.node none (G.Ann.node none G.Ann.nil (G.Ann.node none (G.Ann.node (some (1, [KI.reg 0 (Kd.v), KI.reg 1 (Kd.v), KI.reg 5 (Kd.b), KI.reg 6 (Kd.i .i64)])) (G.Ann.node none (G.Ann.node none G.Ann.nil (G.Ann.node none G.Ann.nil G.Ann.nil)) (G.Ann.node (some (2, [KI.reg 0 (Kd.v), KI.reg 1 (Kd.v), KI.reg 6 (Kd.i .i64)])) (G.Ann.node none G.Ann.nil G.Ann.nil) G.Ann.nil)) G.Ann.nil) G.Ann.nil)) (G.Ann.node (some (3, [KI.reg 5 (Kd.b)])) G.Ann.nil G.Ann.nil))))
noncomputable def P10x3 (h : Hp) (S : Nat → PAL → Option Value) (r5 : Bool) : Option Value :=
  some (Value.bool r5)
noncomputable def P10x2 (h : Hp) (S : Nat → PAL → Option Value) (r0 : Value) (r1 : Value) (r6 : Int) : Option Value :=
  idxSK 2 r0 r6 fun v0 =>
  loadNK 2 h v0 fun v1 =>
  idxSK 2 r1 r6 fun v2 =>
  loadNK 2 h v2 fun v3 =>
  optK (binV env .eql 42 (Operand.tmp 24) (Operand.tmp 28) v1 v3) fun v4 =>
  boolK v4 fun b5 =>
  wrap64 (Int.add r6 (Int.ofNat 1)) fun i6 =>
  S 1 (PAL.v r0 (PAL.v r1 (PAL.b b5 (PAL.i i6 PAL.n))))
noncomputable def P10x1 (h : Hp) (S : Nat → PAL → Option Value) (r0 : Value) (r1 : Value) (r5 : Bool) (r6 : Int) : Option Value :=
  ifB r5
  (lenSK r0 fun i0 =>
  boolZ (ltZ r6 i0) fun b1 =>
  ifB b1
  (S 2 (PAL.v r0 (PAL.v r1 (PAL.i r6 PAL.n))))
  (S 3 (PAL.b r5 PAL.n)))
  (S 3 (PAL.b r5 PAL.n))
noncomputable def P10x0 (h : Hp) (S : Nat → PAL → Option Value) (r0 : Value) (r1 : Value) : Option Value :=
  lenSK r0 fun i0 =>
  lenSK r1 fun i1 =>
  boolZ (eqZ i0 i1) fun b2 =>
  S 1 (PAL.v r0 (PAL.v r1 (PAL.b b2 (PAL.i (Int.ofNat 0) PAL.n))))
noncomputable def T10 (h : Hp) (S : Nat → PAL → Option Value) : Nat → PAL → Option Value := tabPC 0 (wV fun r0 => wV fun r1 => wN (P10x0 h S r0 r1)) (tabPC 1 (wV fun r0 => wV fun r1 => wB fun r5 => wI fun r6 => wN (P10x1 h S r0 r1 r5 r6)) (tabPC 2 (wV fun r0 => wV fun r1 => wI fun r6 => wN (P10x2 h S r0 r1 r6)) (tabPC 3 (wB fun r5 => wN (P10x3 h S r5)) (tabPN))))
noncomputable def F10 (args : List Value) (h : Hp) : Option Value := plainO (packArgs [Kd.v, Kd.v] args fun al => G.rec' (T10 h) 1000000 0 al)
def nt10 : Nat := 2 + (31 - 2)
theorem q10x3 (h : Hp) (S : Nat → PAL → Option Value) (r5 : Bool) : P10x3 h S r5 = G.stepAt packP unpackP evXV (regP env pf21 nt10 h) (finP env Tryz.f10.results.toList) (G.collect B10 A10 []) 3 S (PAL.b r5 PAL.n) := by kernel_rfl
theorem q10x2 (h : Hp) (S : Nat → PAL → Option Value) (r0 : Value) (r1 : Value) (r6 : Int) : P10x2 h S r0 r1 r6 = G.stepAt packP unpackP evXV (regP env pf21 nt10 h) (finP env Tryz.f10.results.toList) (G.collect B10 A10 []) 2 S (PAL.v r0 (PAL.v r1 (PAL.i r6 PAL.n))) := by kernel_rfl
theorem q10x1 (h : Hp) (S : Nat → PAL → Option Value) (r0 : Value) (r1 : Value) (r5 : Bool) (r6 : Int) : P10x1 h S r0 r1 r5 r6 = G.stepAt packP unpackP evXV (regP env pf21 nt10 h) (finP env Tryz.f10.results.toList) (G.collect B10 A10 []) 1 S (PAL.v r0 (PAL.v r1 (PAL.b r5 (PAL.i r6 PAL.n)))) := by kernel_rfl
theorem q10x0 (h : Hp) (S : Nat → PAL → Option Value) (r0 : Value) (r1 : Value) : P10x0 h S r0 r1 = G.stepAt packP unpackP evXV (regP env pf21 nt10 h) (finP env Tryz.f10.results.toList) (G.collect B10 A10 []) 0 S (PAL.v r0 (PAL.v r1 PAL.n)) := by kernel_rfl
theorem t10 (h : Hp) (S : Nat → PAL → Option Value) : TabP (fun l al => G.stepAt packP unpackP evXV (regP env pf21 nt10 h) (finP env Tryz.f10.results.toList) (G.collect B10 A10 []) l S al) (T10 h S) := by
  unfold T10
  refine TabP.cons 0 (fun vs0 q e0 => ?_) ?_
  · obtain ⟨r0, vs1, rfl, e1⟩ := wV_some e0
    obtain ⟨r1, vs2, rfl, e2⟩ := wV_some e1
    obtain ⟨rfl, ee⟩ := wN_some e2
    exact (q10x0 h S r0 r1).symm.trans ee
  refine TabP.cons 1 (fun vs0 q e0 => ?_) ?_
  · obtain ⟨r0, vs1, rfl, e1⟩ := wV_some e0
    obtain ⟨r1, vs2, rfl, e2⟩ := wV_some e1
    obtain ⟨r5, vs3, rfl, e3⟩ := wB_some e2
    obtain ⟨r6, vs4, rfl, e4⟩ := wI_some e3
    obtain ⟨rfl, ee⟩ := wN_some e4
    exact (q10x1 h S r0 r1 r5 r6).symm.trans ee
  refine TabP.cons 2 (fun vs0 q e0 => ?_) ?_
  · obtain ⟨r0, vs1, rfl, e1⟩ := wV_some e0
    obtain ⟨r1, vs2, rfl, e2⟩ := wV_some e1
    obtain ⟨r6, vs3, rfl, e3⟩ := wI_some e2
    obtain ⟨rfl, ee⟩ := wN_some e3
    exact (q10x2 h S r0 r1 r6).symm.trans ee
  refine TabP.cons 3 (fun vs0 q e0 => ?_) ?_
  · obtain ⟨r5, vs1, rfl, e1⟩ := wB_some e0
    obtain ⟨rfl, ee⟩ := wN_some e1
    exact (q10x3 h S r5).symm.trans ee
  exact TabP.nil
theorem r10 : PSound Tryz.prog 10 F10 := fun_soundP (C := C0) ok0 (pf := pf21) pfok21 (fn := Tryz.f10) (body := B10) (kinds := [Kd.v, Kd.v]) (A := A10) (T := T10) (by kernel_rfl) (by kernel_rfl) (by kernel_rfl) (by kernel_rfl) (fun h S => t10 h S)
noncomputable def pf22 : PF := pfC 10 F10 pf21
theorem pfok22 : PfSound Tryz.prog pf22 := pfC_ok r10 pfok21
noncomputable def orc42 := orcP 10 F10 orc41
noncomputable def C42 : Cfg := cfg orc42
theorem ok42 : C42.Ok := orcP_ok (C := C41) ok41 r10
/-! ceroplast/mould.markWord -/
noncomputable def B42 : Code := (Tryz.f42.body).getD .skip
def A42 : Ann := (Ann.node (some (0, [(0, Kd.v)])) Ann.nil (Ann.node none Ann.nil (Ann.node none (Ann.node none Ann.nil (Ann.node none (Ann.node (some (1, [(3, Kd.v), (9, Kd.v), (10, Kd.i .i64), (11, Kd.i .i64)])) (Ann.node none Ann.nil (Ann.node none (Ann.node none Ann.nil Ann.nil) (Ann.node none (Ann.node none (Ann.node none Ann.nil Ann.nil) Ann.nil) Ann.nil))) Ann.nil) Ann.nil)) (Ann.node (some (2, [(3, Kd.v)])) Ann.nil Ann.nil))))
noncomputable def P42x2 (S : Sg) (r3 : Value) (h : Hp) : CRes :=
  pairK (convertV env h 121 9 r3) fun v0 h0 =>
  some (v0, h0)
noncomputable def P42x1 (S : Sg) (r3 : Value) (r9 : Value) (r10 : Int) (r11 : Int) (h : Hp) : CRes :=
  boolZ (ltZ r11 r10) fun b0 =>
  ifB b0
  (idxSK 1 r9 r11 fun v1 =>
  load1K h v1 fun v2 =>
  intK .i64 v2 fun i3 =>
  optK (indexV env 9 (Value.string (ByteArray.mk #[63, 43, 45])) (Value.int .i64 i3)) fun v4 =>
  intK .u8 v4 fun i5 =>
  pairK (buildSliceV env h 121 1 (List.toArray [(0, (Value.int .u8 i5))])) fun v6 h6 =>
  pairK (appendV env h6 #[121, 121] (List.toArray [r3, v6])) fun v7 h7 =>
  wrap64 (Int.add r11 (Int.ofNat 1)) fun i8 =>
  S 1 (AL.v v7 (AL.v r9 (AL.i r10 (AL.i i8 AL.n)))) h7)
  (S 2 (AL.v r3 AL.n) h)
noncomputable def P42x0 (S : Sg) (r0 : Value) (h : Hp) : CRes :=
  lenSK r0 fun i0 =>
  pairK (makeSliceV env h 121 (Value.int .i64 (Int.ofNat 0)) (Value.int .i64 i0)) fun v1 h1 =>
  lenSK r0 fun i2 =>
  S 1 (AL.v v1 (AL.v r0 (AL.i i2 (AL.i (Int.ofNat 0) AL.n)))) h1
noncomputable def T42 (S : Sg) : Sg := tabC 0 (uV fun r0 => uN fun h => P42x0 S r0 h) (tabC 1 (uV fun r3 => uV fun r9 => uI fun r10 => uI fun r11 => uN fun h => P42x1 S r3 r9 r10 r11 h) (tabC 2 (uV fun r3 => uN fun h => P42x2 S r3 h) (tabN)))
noncomputable def F42 (args : List Value) (h : Hp) : CRes := packVals [Kd.v] args fun al => rec' T42 1000000 0 al h
def nt42 : Nat := 1 + (23 - 1)
theorem q42x2 (S : Sg) (r3 : Value) (h : Hp) : P42x2 S r3 h = stepAt (regK env orc42 (nt42)) (finK env Tryz.f42.results.toList) (collect B42 A42 []) 2 S (AL.v r3 AL.n) h := by kernel_rfl
theorem q42x1 (S : Sg) (r3 : Value) (r9 : Value) (r10 : Int) (r11 : Int) (h : Hp) : P42x1 S r3 r9 r10 r11 h = stepAt (regK env orc42 (nt42)) (finK env Tryz.f42.results.toList) (collect B42 A42 []) 1 S (AL.v r3 (AL.v r9 (AL.i r10 (AL.i r11 AL.n)))) h := by kernel_rfl
theorem q42x0 (S : Sg) (r0 : Value) (h : Hp) : P42x0 S r0 h = stepAt (regK env orc42 (nt42)) (finK env Tryz.f42.results.toList) (collect B42 A42 []) 0 S (AL.v r0 AL.n) h := by kernel_rfl
theorem t42 (S : Sg) : Tab (fun l vs h => stepAt (regK env orc42 nt42) (finK env Tryz.f42.results.toList) (collect B42 A42 []) l S vs h) (T42 S) := by
  unfold T42
  refine Tab.cons 0 (fun vs0 h q e0 => ?_) ?_
  · obtain ⟨r0, vs1, rfl, e1⟩ := uV_some e0
    obtain ⟨rfl, ee⟩ := uN_some e1
    exact (q42x0 S r0 h).symm.trans ee
  refine Tab.cons 1 (fun vs0 h q e0 => ?_) ?_
  · obtain ⟨r3, vs1, rfl, e1⟩ := uV_some e0
    obtain ⟨r9, vs2, rfl, e2⟩ := uV_some e1
    obtain ⟨r10, vs3, rfl, e3⟩ := uI_some e2
    obtain ⟨r11, vs4, rfl, e4⟩ := uI_some e3
    obtain ⟨rfl, ee⟩ := uN_some e4
    exact (q42x1 S r3 r9 r10 r11 h).symm.trans ee
  refine Tab.cons 2 (fun vs0 h q e0 => ?_) ?_
  · obtain ⟨r3, vs1, rfl, e1⟩ := uV_some e0
    obtain ⟨rfl, ee⟩ := uN_some e1
    exact (q42x2 S r3 h).symm.trans ee
  exact Tab.nil
theorem r42 : ∀ args h v h', F42 args h = some (v, h') → Runs (C42) (.call 42 args.toArray h) (.ret v h') := by
  intro args h v h' e
  exact fun_sound (C := C42) (fn := Tryz.f42) (body := B42) (np := 1) (A := A42) (T := T42) (kinds := [Kd.v]) (by kernel_rfl) (by kernel_rfl) (by kernel_rfl) (by kernel_rfl) (regK_ok env_ok) (by kernel_rfl) (fun S => t42 S) e
noncomputable def orc43 := orcQ 42 F42 orc42
noncomputable def C43 : Cfg := cfg orc43
theorem ok43 : C43.Ok := orcQ_ok (C := C42) ok42 r42
/-! ceroplast/mould.Fits -/
noncomputable def B23 : Code := (Tryz.f23.body).getD .skip
def A23 : Ann := (Ann.node (some (0, [(0, Kd.v), (1, Kd.i .i64), (2, Kd.v)])) Ann.nil (Ann.node none Ann.nil (Ann.node none (Ann.node none Ann.nil (Ann.node none (Ann.node none Ann.nil Ann.nil) Ann.nil)) (Ann.node none (Ann.node none Ann.nil (Ann.node none (Ann.node none Ann.nil Ann.nil) Ann.nil)) (Ann.node (some (1, [(1, Kd.i .i64), (5, Kd.v), (8, Kd.v)])) Ann.nil (Ann.node none Ann.nil (Ann.node none Ann.nil Ann.nil)))))))
noncomputable def P23x1 (S : Sg) (r1 : Int) (r5 : Value) (r8 : Value) (h : Hp) : CRes :=
  allocK h 62 [(Value.int .i64 (Int.ofNat 0)), (Value.int .i64 (Int.ofNat 0)), (Value.int .i64 (Int.ofNat 0)), (Value.int .i64 (Int.ofNat 0)), (Value.int .i64 (Int.ofNat 0)), (Value.int .i64 (Int.ofNat 0)), (Value.int .i64 (Int.ofNat 0)), (Value.int .i64 (Int.ofNat 0))] fun a0 h0 =>
  loadNK 2 h0 r5 fun v1 =>
  idxAK 4 2 a0 r1 fun v2 =>
  storeNK 2 h0 v2 v1 fun h3 =>
  loadNK 4 h3 r8 fun v4 =>
  loadNK 8 h3 a0 fun v5 =>
  slowI .i64 (shlI (binW env .shl 3 (Value.int .i64 (Int.ofNat 1)) (Value.int .i64 r1)) (Value.int .i64 (Int.ofNat 1)) (Value.int .i64 r1)) fun i6 =>
  optK (unV env .xor (Value.int .i64 i6)) fun v7 =>
  pairK (optK (FM34 [v4, v5, v7] h3) fun v => some (v, h3)) fun v8 h8 =>
  boolK v8 fun b9 =>
  some (Value.tuple (List.toArray [(Value.bool b9), (Value.int .i64 (Int.ofNat 0))]), h8)
noncomputable def P23x0 (S : Sg) (r0 : Value) (r1 : Int) (r2 : Value) (h : Hp) : CRes :=
  allocK h 25 (Array.toList (Value.cells r0)) fun a0 h0 =>
  allocK h0 42 (Array.toList (Value.cells r2)) fun a1 h1 =>
  loadNK 3 h1 a0 fun v2 =>
  pairK (callQ F14 [v2] h1) fun v3 h3 =>
  extK v3 0 fun v4 =>
  extK v3 1 fun v5 =>
  intK .i64 v5 fun i6 =>
  allocK h3 53 [(Value.int .i64 (Int.ofNat 0)), (Value.slice none 0 0), (Value.slice none 0 0), (Value.slice none 0 0)] fun a7 h7 =>
  storeNK 4 h7 a7 v4 fun h8 =>
  boolN (eqZ i6 (Int.ofNat 0)) fun b9 =>
  ifB b9
  (some (Value.tuple (List.toArray [(Value.bool false), (Value.int .i64 i6)]), h8))
  (ptrAddK 0 a7 fun v10 =>
  leftK v10 (Hp.next h8) (Hp.mk (Hp.next h8) (Hp.next h8) T.nil) fun w11 n11 =>
  ptrAddK 2 v10 fun v12 =>
  leftK v12 n11 (Hp.mk n11 n11 T.nil) fun w13 n13 =>
  load1K (Hp.mk n13 n13 (addAll w13 (addAll w11 (Hp.objs h8)))) v12 fun v14 =>
  leftK v14 n13 (Hp.mk n13 n13 (addAll w13 (addAll w11 (Hp.objs h8)))) fun w15 n15 =>
  lenSK v14 fun i16 =>
  pairK (buildSliceV env (Hp.mk n15 n15 T.nil) 49 1 (List.toArray [(0, (Value.int .i64 r1))])) fun v17 h17 =>
  leftK v17 n15 h17 fun w18 n18 =>
  pairK (optK (F15 [(Value.int .i64 i16), v17] (Hp.mk n18 n18 (addAll w18 (addAll w15 (addAll w13 (addAll w11 (Hp.objs h8))))))) fun v => some (v, (Hp.mk n18 n18 (addAll w18 (addAll w15 (addAll w13 (addAll w11 (Hp.objs h8)))))))) fun v19 h19 =>
  boolK v19 fun b20 =>
  boolN b20 fun b21 =>
  ifB b21
  (leftK undef n18 (Hp.mk n18 n18 T.nil) fun w22 n22 =>
  leftK undef n22 (Hp.mk n22 n22 T.nil) fun w23 n23 =>
  leftK undef n23 (Hp.mk n23 n23 (addAll w23 (addAll w22 (addAll w18 (addAll w15 (addAll w13 (addAll w11 (Hp.objs h8)))))))) fun w24 n24 =>
  leftK undef n24 (Hp.mk n24 n24 (addAll w24 (addAll w23 (addAll w22 (addAll w18 (addAll w15 (addAll w13 (addAll w11 (Hp.objs h8))))))))) fun w25 n25 =>
  leftK undef n25 (Hp.mk n25 n25 T.nil) fun w26 n26 =>
  leftK undef n26 (Hp.mk n26 n26 (addAll w26 (addAll w18 (addAll w15 (addAll w13 (addAll w11 (Hp.objs h8))))))) fun w27 n27 =>
  leftK undef n27 (Hp.mk n27 n27 T.nil) fun w28 n28 =>
  leftK undef n28 (Hp.mk n28 n28 (addAll w28 (addAll w27 (addAll w26 (addAll w25 (addAll w24 (addAll w23 (addAll w22 (addAll w18 (addAll w15 (addAll w13 (addAll w11 (Hp.objs h8))))))))))))) fun w29 n29 =>
  leftK undef n29 (Hp.mk n29 n29 T.nil) fun w30 n30 =>
  leftK undef n30 (Hp.mk n30 n30 T.nil) fun w31 n31 =>
  leftK undef n31 (Hp.mk n31 n31 T.nil) fun w32 n32 =>
  leftK undef n32 (Hp.mk n32 n32 (addAll w32 (addAll w31 (addAll w30 (addAll w29 (addAll w28 (addAll w27 (addAll w26 (addAll w25 (addAll w24 (addAll w23 (addAll w22 (addAll w18 (addAll w15 (addAll w13 (addAll w11 (Hp.objs h8))))))))))))))))) fun w33 n33 =>
  leftK undef n33 (Hp.mk n33 n33 T.nil) fun w34 n34 =>
  leftK undef n34 (Hp.mk n34 n34 (addAll w34 (addAll w30 (addAll w29 (addAll w28 (addAll w27 (addAll w26 (addAll w25 (addAll w24 (addAll w23 (addAll w22 (addAll w18 (addAll w15 (addAll w13 (addAll w11 (Hp.objs h8)))))))))))))))) fun w35 n35 =>
  leftK undef n35 (Hp.mk n35 n35 T.nil) fun w36 n36 =>
  leftK undef n36 (Hp.mk n36 n36 T.nil) fun w37 n37 =>
  leftK undef n37 (Hp.mk n37 n37 (addAll w37 (addAll w36 (addAll w35 (addAll w34 (addAll w33 (addAll w32 (addAll w31 (addAll w30 (addAll w29 (addAll w28 (addAll w27 (addAll w26 (addAll w25 (addAll w24 (addAll w23 (addAll w22 (addAll w18 (addAll w15 (addAll w13 (addAll w11 (Hp.objs h8)))))))))))))))))))))) fun w38 n38 =>
  leftK undef n38 (Hp.mk n38 n38 T.nil) fun w39 n39 =>
  leftK undef n39 (Hp.mk n39 n39 (addAll w39 (addAll w30 (addAll w29 (addAll w28 (addAll w27 (addAll w26 (addAll w25 (addAll w24 (addAll w23 (addAll w22 (addAll w18 (addAll w15 (addAll w13 (addAll w11 (Hp.objs h8)))))))))))))))) fun w40 n40 =>
  leftK undef n40 (Hp.mk n40 n40 T.nil) fun w41 n41 =>
  some (Value.tuple (List.toArray [(Value.bool false), (Value.int .i64 (Int.ofNat 4))]), (Hp.mk n41 (Hp.ro h8) (addAll w41 (addAll w40 (addAll w39 (addAll w38 (addAll w37 (addAll w36 (addAll w35 (addAll w34 (addAll w33 (addAll w32 (addAll w31 (addAll w30 (addAll w29 (addAll w28 (addAll w27 (addAll w26 (addAll w25 (addAll w24 (addAll w23 (addAll w22 (addAll w18 (addAll w15 (addAll w13 (addAll w11 (Hp.objs h8))))))))))))))))))))))))))))
  (ptrAddK 0 a7 fun v42 =>
  leftK v42 n18 (Hp.mk n18 n18 T.nil) fun w43 n43 =>
  ptrAddK 1 v42 fun v44 =>
  leftK v44 n43 (Hp.mk n43 n43 T.nil) fun w45 n45 =>
  load1K (Hp.mk n45 n45 (addAll w45 (addAll w43 (addAll w18 (addAll w15 (addAll w13 (addAll w11 (Hp.objs h8)))))))) v44 fun v46 =>
  leftK v46 n45 (Hp.mk n45 n45 (addAll w45 (addAll w43 (addAll w18 (addAll w15 (addAll w13 (addAll w11 (Hp.objs h8)))))))) fun w47 n47 =>
  lenSK v46 fun i48 =>
  ptrAddK 0 a1 fun v49 =>
  leftK v49 n47 (Hp.mk n47 n47 T.nil) fun w50 n50 =>
  load1K (Hp.mk n50 n50 (addAll w50 (addAll w18 (addAll w15 (addAll w13 (addAll w11 (Hp.objs h8))))))) v49 fun v51 =>
  intK .i64 v51 fun i52 =>
  pairK (buildSliceV env (Hp.mk n50 n50 T.nil) 49 1 (List.toArray [(0, (Value.int .i64 i52))])) fun v53 h53 =>
  leftK v53 n50 h53 fun w54 n54 =>
  pairK (optK (F15 [(Value.int .i64 i48), v53] (Hp.mk n54 n54 (addAll w54 (addAll w50 (addAll w47 (addAll w45 (addAll w43 (addAll w18 (addAll w15 (addAll w13 (addAll w11 (Hp.objs h8)))))))))))) fun v => some (v, (Hp.mk n54 n54 (addAll w54 (addAll w50 (addAll w47 (addAll w45 (addAll w43 (addAll w18 (addAll w15 (addAll w13 (addAll w11 (Hp.objs h8))))))))))))) fun v55 h55 =>
  boolK v55 fun b56 =>
  boolN b56 fun b57 =>
  ifB b57
  (leftK undef n54 (Hp.mk n54 n54 T.nil) fun w58 n58 =>
  leftK undef n58 (Hp.mk n58 n58 T.nil) fun w59 n59 =>
  leftK undef n59 (Hp.mk n59 n59 (addAll w59 (addAll w58 (addAll w54 (addAll w50 (addAll w47 (addAll w45 (addAll w43 (addAll w18 (addAll w15 (addAll w13 (addAll w11 (Hp.objs h8))))))))))))) fun w60 n60 =>
  leftK undef n60 (Hp.mk n60 n60 T.nil) fun w61 n61 =>
  leftK undef n61 (Hp.mk n61 n61 (addAll w61 (addAll w54 (addAll w50 (addAll w47 (addAll w45 (addAll w43 (addAll w18 (addAll w15 (addAll w13 (addAll w11 (Hp.objs h8)))))))))))) fun w62 n62 =>
  leftK undef n62 (Hp.mk n62 n62 T.nil) fun w63 n63 =>
  leftK undef n63 (Hp.mk n63 n63 T.nil) fun w64 n64 =>
  leftK undef n64 (Hp.mk n64 n64 (addAll w64 (addAll w63 (addAll w62 (addAll w61 (addAll w60 (addAll w59 (addAll w58 (addAll w54 (addAll w50 (addAll w47 (addAll w45 (addAll w43 (addAll w18 (addAll w15 (addAll w13 (addAll w11 (Hp.objs h8)))))))))))))))))) fun w65 n65 =>
  leftK undef n65 (Hp.mk n65 n65 T.nil) fun w66 n66 =>
  leftK undef n66 (Hp.mk n66 n66 (addAll w66 (addAll w54 (addAll w50 (addAll w47 (addAll w45 (addAll w43 (addAll w18 (addAll w15 (addAll w13 (addAll w11 (Hp.objs h8)))))))))))) fun w67 n67 =>
  leftK undef n67 (Hp.mk n67 n67 T.nil) fun w68 n68 =>
  some (Value.tuple (List.toArray [(Value.bool false), (Value.int .i64 (Int.ofNat 4))]), (Hp.mk n68 (Hp.ro h8) (addAll w68 (addAll w67 (addAll w66 (addAll w65 (addAll w64 (addAll w63 (addAll w62 (addAll w61 (addAll w60 (addAll w59 (addAll w58 (addAll w54 (addAll w50 (addAll w47 (addAll w45 (addAll w43 (addAll w18 (addAll w15 (addAll w13 (addAll w11 (Hp.objs h8))))))))))))))))))))))))
  (ptrAddK 0 a7 fun v69 =>
  leftK v69 n54 (Hp.mk n54 n54 T.nil) fun w70 n70 =>
  ptrAddK 1 v69 fun v71 =>
  leftK v71 n70 (Hp.mk n70 n70 T.nil) fun w72 n72 =>
  load1K (Hp.mk n72 n72 (addAll w72 (addAll w70 (addAll w54 (addAll w50 (addAll w47 (addAll w45 (addAll w43 (addAll w18 (addAll w15 (addAll w13 (addAll w11 (Hp.objs h8))))))))))))) v71 fun v73 =>
  leftK v73 n72 (Hp.mk n72 n72 (addAll w72 (addAll w70 (addAll w54 (addAll w50 (addAll w47 (addAll w45 (addAll w43 (addAll w18 (addAll w15 (addAll w13 (addAll w11 (Hp.objs h8))))))))))))) fun w74 n74 =>
  ptrAddK 0 a1 fun v75 =>
  leftK v75 n74 (Hp.mk n74 n74 T.nil) fun w76 n76 =>
  load1K (Hp.mk n76 n76 (addAll w76 (addAll w54 (addAll w50 (addAll w47 (addAll w45 (addAll w43 (addAll w18 (addAll w15 (addAll w13 (addAll w11 (Hp.objs h8)))))))))))) v75 fun v77 =>
  intK .i64 v77 fun i78 =>
  idxSK 3 v73 i78 fun v79 =>
  leftK v79 n76 (Hp.mk n76 n76 T.nil) fun w80 n80 =>
  ptrAddK 1 v79 fun v81 =>
  leftK v81 n80 (Hp.mk n80 n80 T.nil) fun w82 n82 =>
  load1K (Hp.mk n82 n82 (addAll w82 (addAll w80 (addAll w76 (addAll w74 (addAll w72 (addAll w70 (addAll w54 (addAll w50 (addAll w47 (addAll w45 (addAll w43 (addAll w18 (addAll w15 (addAll w13 (addAll w11 (Hp.objs h8))))))))))))))))) v81 fun v83 =>
  intK .i64 v83 fun i84 =>
  ptrAddK 1 a1 fun v85 =>
  leftK v85 n82 (Hp.mk n82 n82 T.nil) fun w86 n86 =>
  load1K (Hp.mk n86 n86 (addAll w86 (addAll w54 (addAll w50 (addAll w47 (addAll w45 (addAll w43 (addAll w18 (addAll w15 (addAll w13 (addAll w11 (Hp.objs h8)))))))))))) v85 fun v87 =>
  intK .i64 v87 fun i88 =>
  pairK (buildSliceV env (Hp.mk n86 n86 T.nil) 49 1 (List.toArray [(0, (Value.int .i64 i88))])) fun v89 h89 =>
  leftK v89 n86 h89 fun w90 n90 =>
  pairK (optK (F31 [(Value.int .i64 (Int.ofNat 1)), (Value.int .i64 i84), v89] (Hp.mk n90 (Hp.ro h8) (addAll w90 (addAll w86 (addAll w82 (addAll w80 (addAll w76 (addAll w74 (addAll w72 (addAll w70 (addAll w54 (addAll w50 (addAll w47 (addAll w45 (addAll w43 (addAll w18 (addAll w15 (addAll w13 (addAll w11 (Hp.objs h8)))))))))))))))))))) fun v => some (v, (Hp.mk n90 (Hp.ro h8) (addAll w90 (addAll w86 (addAll w82 (addAll w80 (addAll w76 (addAll w74 (addAll w72 (addAll w70 (addAll w54 (addAll w50 (addAll w47 (addAll w45 (addAll w43 (addAll w18 (addAll w15 (addAll w13 (addAll w11 (Hp.objs h8))))))))))))))))))))) fun v91 h91 =>
  boolK v91 fun b92 =>
  boolN b92 fun b93 =>
  ifB b93
  (some (Value.tuple (List.toArray [(Value.bool false), (Value.int .i64 (Int.ofNat 4))]), h91))
  (S 1 (AL.i r1 (AL.v a1 (AL.v a7 AL.n))) h91))))
noncomputable def T23 (S : Sg) : Sg := tabC 0 (uV fun r0 => uI fun r1 => uV fun r2 => uN fun h => P23x0 S r0 r1 r2 h) (tabC 1 (uI fun r1 => uV fun r5 => uV fun r8 => uN fun h => P23x1 S r1 r5 r8 h) (tabN))
noncomputable def F23 (args : List Value) (h : Hp) : CRes := packVals [Kd.v, Kd.i .i64, Kd.v] args fun al => rec' T23 1000000 0 al h
def nt23 : Nat := 3 + (62 - 3)
theorem q23x1 (S : Sg) (r1 : Int) (r5 : Value) (r8 : Value) (h : Hp) : P23x1 S r1 r5 r8 h = stepAt (regK env orc43 (nt23)) (finK env Tryz.f23.results.toList) (collect B23 A23 []) 1 S (AL.i r1 (AL.v r5 (AL.v r8 AL.n))) h := by kernel_rfl
theorem q23x0 (S : Sg) (r0 : Value) (r1 : Int) (r2 : Value) (h : Hp) : P23x0 S r0 r1 r2 h = stepAt (regK env orc43 (nt23)) (finK env Tryz.f23.results.toList) (collect B23 A23 []) 0 S (AL.v r0 (AL.i r1 (AL.v r2 AL.n))) h := by kernel_rfl
theorem t23 (S : Sg) : Tab (fun l vs h => stepAt (regK env orc43 nt23) (finK env Tryz.f23.results.toList) (collect B23 A23 []) l S vs h) (T23 S) := by
  unfold T23
  refine Tab.cons 0 (fun vs0 h q e0 => ?_) ?_
  · obtain ⟨r0, vs1, rfl, e1⟩ := uV_some e0
    obtain ⟨r1, vs2, rfl, e2⟩ := uI_some e1
    obtain ⟨r2, vs3, rfl, e3⟩ := uV_some e2
    obtain ⟨rfl, ee⟩ := uN_some e3
    exact (q23x0 S r0 r1 r2 h).symm.trans ee
  refine Tab.cons 1 (fun vs0 h q e0 => ?_) ?_
  · obtain ⟨r1, vs1, rfl, e1⟩ := uI_some e0
    obtain ⟨r5, vs2, rfl, e2⟩ := uV_some e1
    obtain ⟨r8, vs3, rfl, e3⟩ := uV_some e2
    obtain ⟨rfl, ee⟩ := uN_some e3
    exact (q23x1 S r1 r5 r8 h).symm.trans ee
  exact Tab.nil
theorem r23 : ∀ args h v h', F23 args h = some (v, h') → Runs (C43) (.call 23 args.toArray h) (.ret v h') := by
  intro args h v h' e
  exact fun_sound (C := C43) (fn := Tryz.f23) (body := B23) (np := 3) (A := A23) (T := T23) (kinds := [Kd.v, Kd.i .i64, Kd.v]) (by kernel_rfl) (by kernel_rfl) (by kernel_rfl) (by kernel_rfl) (regK_ok env_ok) (by kernel_rfl) (fun S => t23 S) e
noncomputable def orc44 := orcQ 23 F23 orc43
noncomputable def C44 : Cfg := cfg orc44
theorem ok44 : C44.Ok := orcQ_ok (C := C43) ok43 r23
/-! ceroplast/ceroplastref01.Spans -/
noncomputable def B48 : Code := (Tryz.f48.body).getD .skip
noncomputable def A48 : G.Ann (List KI) := (G.Ann.node (some (0, [KI.reg 0 (Kd.v), KI.reg 1 (Kd.v)])) G.Ann.nil (G.Ann.node none G.Ann.nil (G.Ann.node none (G.Ann.node none G.Ann.nil (G.Ann.node none (G.Ann.node (some (1, [KI.reg 0 (Kd.v), KI.reg 1 (Kd.v), KI.reg 5 (Kd.b), KI.reg 6 (Kd.i .i64)])) (G.Ann.node none (G.Ann.node none G.Ann.nil (G.Ann.node none G.Ann.nil G.Ann.nil)) (G.Ann.node (some (2, [KI.reg 0 (Kd.v), KI.reg 1 (Kd.v), KI.reg 6 (Kd.i .i64)])) (G.Ann.node none G.Ann.nil G.Ann.nil) G.Ann.nil)) G.Ann.nil) G.Ann.nil)) (G.Ann.node (some (3, [KI.reg 5 (Kd.b)])) G.Ann.nil G.Ann.nil))))
noncomputable def P48x3 (h : Hp) (S : Nat → PAL → Option Value) (r5 : Bool) : Option Value :=
  some (Value.bool r5)
noncomputable def P48x2 (h : Hp) (S : Nat → PAL → Option Value) (r0 : Value) (r1 : Value) (r6 : Int) : Option Value :=
  idxSK 2 r0 r6 fun v0 =>
  loadNK 2 h v0 fun v1 =>
  idxSK 2 r1 r6 fun v2 =>
  loadNK 2 h v2 fun v3 =>
  optK (binV env .eql 34 (Operand.tmp 24) (Operand.tmp 28) v1 v3) fun v4 =>
  boolK v4 fun b5 =>
  wrap64 (Int.add r6 (Int.ofNat 1)) fun i6 =>
  S 1 (PAL.v r0 (PAL.v r1 (PAL.b b5 (PAL.i i6 PAL.n))))
noncomputable def P48x1 (h : Hp) (S : Nat → PAL → Option Value) (r0 : Value) (r1 : Value) (r5 : Bool) (r6 : Int) : Option Value :=
  ifB r5
  (lenSK r0 fun i0 =>
  boolZ (ltZ r6 i0) fun b1 =>
  ifB b1
  (S 2 (PAL.v r0 (PAL.v r1 (PAL.i r6 PAL.n))))
  (S 3 (PAL.b r5 PAL.n)))
  (S 3 (PAL.b r5 PAL.n))
noncomputable def P48x0 (h : Hp) (S : Nat → PAL → Option Value) (r0 : Value) (r1 : Value) : Option Value :=
  lenSK r0 fun i0 =>
  lenSK r1 fun i1 =>
  boolZ (eqZ i0 i1) fun b2 =>
  S 1 (PAL.v r0 (PAL.v r1 (PAL.b b2 (PAL.i (Int.ofNat 0) PAL.n))))
noncomputable def T48 (h : Hp) (S : Nat → PAL → Option Value) : Nat → PAL → Option Value := tabPC 0 (wV fun r0 => wV fun r1 => wN (P48x0 h S r0 r1)) (tabPC 1 (wV fun r0 => wV fun r1 => wB fun r5 => wI fun r6 => wN (P48x1 h S r0 r1 r5 r6)) (tabPC 2 (wV fun r0 => wV fun r1 => wI fun r6 => wN (P48x2 h S r0 r1 r6)) (tabPC 3 (wB fun r5 => wN (P48x3 h S r5)) (tabPN))))
noncomputable def F48 (args : List Value) (h : Hp) : Option Value := plainO (packArgs [Kd.v, Kd.v] args fun al => G.rec' (T48 h) 1000000 0 al)
def nt48 : Nat := 2 + (31 - 2)
theorem q48x3 (h : Hp) (S : Nat → PAL → Option Value) (r5 : Bool) : P48x3 h S r5 = G.stepAt packP unpackP evXV (regP env pf22 nt48 h) (finP env Tryz.f48.results.toList) (G.collect B48 A48 []) 3 S (PAL.b r5 PAL.n) := by kernel_rfl
theorem q48x2 (h : Hp) (S : Nat → PAL → Option Value) (r0 : Value) (r1 : Value) (r6 : Int) : P48x2 h S r0 r1 r6 = G.stepAt packP unpackP evXV (regP env pf22 nt48 h) (finP env Tryz.f48.results.toList) (G.collect B48 A48 []) 2 S (PAL.v r0 (PAL.v r1 (PAL.i r6 PAL.n))) := by kernel_rfl
theorem q48x1 (h : Hp) (S : Nat → PAL → Option Value) (r0 : Value) (r1 : Value) (r5 : Bool) (r6 : Int) : P48x1 h S r0 r1 r5 r6 = G.stepAt packP unpackP evXV (regP env pf22 nt48 h) (finP env Tryz.f48.results.toList) (G.collect B48 A48 []) 1 S (PAL.v r0 (PAL.v r1 (PAL.b r5 (PAL.i r6 PAL.n)))) := by kernel_rfl
theorem q48x0 (h : Hp) (S : Nat → PAL → Option Value) (r0 : Value) (r1 : Value) : P48x0 h S r0 r1 = G.stepAt packP unpackP evXV (regP env pf22 nt48 h) (finP env Tryz.f48.results.toList) (G.collect B48 A48 []) 0 S (PAL.v r0 (PAL.v r1 PAL.n)) := by kernel_rfl
theorem t48 (h : Hp) (S : Nat → PAL → Option Value) : TabP (fun l al => G.stepAt packP unpackP evXV (regP env pf22 nt48 h) (finP env Tryz.f48.results.toList) (G.collect B48 A48 []) l S al) (T48 h S) := by
  unfold T48
  refine TabP.cons 0 (fun vs0 q e0 => ?_) ?_
  · obtain ⟨r0, vs1, rfl, e1⟩ := wV_some e0
    obtain ⟨r1, vs2, rfl, e2⟩ := wV_some e1
    obtain ⟨rfl, ee⟩ := wN_some e2
    exact (q48x0 h S r0 r1).symm.trans ee
  refine TabP.cons 1 (fun vs0 q e0 => ?_) ?_
  · obtain ⟨r0, vs1, rfl, e1⟩ := wV_some e0
    obtain ⟨r1, vs2, rfl, e2⟩ := wV_some e1
    obtain ⟨r5, vs3, rfl, e3⟩ := wB_some e2
    obtain ⟨r6, vs4, rfl, e4⟩ := wI_some e3
    obtain ⟨rfl, ee⟩ := wN_some e4
    exact (q48x1 h S r0 r1 r5 r6).symm.trans ee
  refine TabP.cons 2 (fun vs0 q e0 => ?_) ?_
  · obtain ⟨r0, vs1, rfl, e1⟩ := wV_some e0
    obtain ⟨r1, vs2, rfl, e2⟩ := wV_some e1
    obtain ⟨r6, vs3, rfl, e3⟩ := wI_some e2
    obtain ⟨rfl, ee⟩ := wN_some e3
    exact (q48x2 h S r0 r1 r6).symm.trans ee
  refine TabP.cons 3 (fun vs0 q e0 => ?_) ?_
  · obtain ⟨r5, vs1, rfl, e1⟩ := wB_some e0
    obtain ⟨rfl, ee⟩ := wN_some e1
    exact (q48x3 h S r5).symm.trans ee
  exact TabP.nil
theorem r48 : PSound Tryz.prog 48 F48 := fun_soundP (C := C0) ok0 (pf := pf22) pfok22 (fn := Tryz.f48) (body := B48) (kinds := [Kd.v, Kd.v]) (A := A48) (T := T48) (by kernel_rfl) (by kernel_rfl) (by kernel_rfl) (by kernel_rfl) (fun h S => t48 h S)
noncomputable def pf23 : PF := pfC 48 F48 pf22
theorem pfok23 : PfSound Tryz.prog pf23 := pfC_ok r48 pfok22
noncomputable def orc45 := orcP 48 F48 orc44
noncomputable def C45 : Cfg := cfg orc45
theorem ok45 : C45.Ok := orcP_ok (C := C44) ok44 r48
/-! ceroplast/ceroplastref01.Ints -/
noncomputable def B27 : Code := (Tryz.f27.body).getD .skip
noncomputable def A27 : G.Ann (List KI) := (G.Ann.node (some (0, [KI.reg 0 (Kd.v), KI.reg 1 (Kd.v)])) G.Ann.nil (G.Ann.node none G.Ann.nil (G.Ann.node none (G.Ann.node none G.Ann.nil (G.Ann.node none (G.Ann.node (some (1, [KI.reg 0 (Kd.v), KI.reg 1 (Kd.v), KI.reg 5 (Kd.b), KI.reg 6 (Kd.i .i64)])) (G.Ann.node none (G.Ann.node none G.Ann.nil (G.Ann.node none G.Ann.nil G.Ann.nil)) (G.Ann.node (some (2, [KI.reg 0 (Kd.v), KI.reg 1 (Kd.v), KI.reg 6 (Kd.i .i64)])) (G.Ann.node none G.Ann.nil G.Ann.nil) G.Ann.nil)) G.Ann.nil) G.Ann.nil)) (G.Ann.node (some (3, [KI.reg 5 (Kd.b)])) G.Ann.nil G.Ann.nil))))
noncomputable def P27x3 (h : Hp) (S : Nat → PAL → Option Value) (r5 : Bool) : Option Value :=
  some (Value.bool r5)
noncomputable def P27x2 (h : Hp) (S : Nat → PAL → Option Value) (r0 : Value) (r1 : Value) (r6 : Int) : Option Value :=
  idxSK 1 r0 r6 fun v0 =>
  load1K h v0 fun v1 =>
  intK .i64 v1 fun i2 =>
  idxSK 1 r1 r6 fun v3 =>
  load1K h v3 fun v4 =>
  intK .i64 v4 fun i5 =>
  boolZ (eqZ i2 i5) fun b6 =>
  wrap64 (Int.add r6 (Int.ofNat 1)) fun i7 =>
  S 1 (PAL.v r0 (PAL.v r1 (PAL.b b6 (PAL.i i7 PAL.n))))
noncomputable def P27x1 (h : Hp) (S : Nat → PAL → Option Value) (r0 : Value) (r1 : Value) (r5 : Bool) (r6 : Int) : Option Value :=
  ifB r5
  (lenSK r0 fun i0 =>
  boolZ (ltZ r6 i0) fun b1 =>
  ifB b1
  (S 2 (PAL.v r0 (PAL.v r1 (PAL.i r6 PAL.n))))
  (S 3 (PAL.b r5 PAL.n)))
  (S 3 (PAL.b r5 PAL.n))
noncomputable def P27x0 (h : Hp) (S : Nat → PAL → Option Value) (r0 : Value) (r1 : Value) : Option Value :=
  lenSK r0 fun i0 =>
  lenSK r1 fun i1 =>
  boolZ (eqZ i0 i1) fun b2 =>
  S 1 (PAL.v r0 (PAL.v r1 (PAL.b b2 (PAL.i (Int.ofNat 0) PAL.n))))
noncomputable def T27 (h : Hp) (S : Nat → PAL → Option Value) : Nat → PAL → Option Value := tabPC 0 (wV fun r0 => wV fun r1 => wN (P27x0 h S r0 r1)) (tabPC 1 (wV fun r0 => wV fun r1 => wB fun r5 => wI fun r6 => wN (P27x1 h S r0 r1 r5 r6)) (tabPC 2 (wV fun r0 => wV fun r1 => wI fun r6 => wN (P27x2 h S r0 r1 r6)) (tabPC 3 (wB fun r5 => wN (P27x3 h S r5)) (tabPN))))
noncomputable def F27 (args : List Value) (h : Hp) : Option Value := plainO (packArgs [Kd.v, Kd.v] args fun al => G.rec' (T27 h) 1000000 0 al)
def nt27 : Nat := 2 + (31 - 2)
theorem q27x3 (h : Hp) (S : Nat → PAL → Option Value) (r5 : Bool) : P27x3 h S r5 = G.stepAt packP unpackP evXV (regP env pf23 nt27 h) (finP env Tryz.f27.results.toList) (G.collect B27 A27 []) 3 S (PAL.b r5 PAL.n) := by kernel_rfl
theorem q27x2 (h : Hp) (S : Nat → PAL → Option Value) (r0 : Value) (r1 : Value) (r6 : Int) : P27x2 h S r0 r1 r6 = G.stepAt packP unpackP evXV (regP env pf23 nt27 h) (finP env Tryz.f27.results.toList) (G.collect B27 A27 []) 2 S (PAL.v r0 (PAL.v r1 (PAL.i r6 PAL.n))) := by kernel_rfl
theorem q27x1 (h : Hp) (S : Nat → PAL → Option Value) (r0 : Value) (r1 : Value) (r5 : Bool) (r6 : Int) : P27x1 h S r0 r1 r5 r6 = G.stepAt packP unpackP evXV (regP env pf23 nt27 h) (finP env Tryz.f27.results.toList) (G.collect B27 A27 []) 1 S (PAL.v r0 (PAL.v r1 (PAL.b r5 (PAL.i r6 PAL.n)))) := by kernel_rfl
theorem q27x0 (h : Hp) (S : Nat → PAL → Option Value) (r0 : Value) (r1 : Value) : P27x0 h S r0 r1 = G.stepAt packP unpackP evXV (regP env pf23 nt27 h) (finP env Tryz.f27.results.toList) (G.collect B27 A27 []) 0 S (PAL.v r0 (PAL.v r1 PAL.n)) := by kernel_rfl
theorem t27 (h : Hp) (S : Nat → PAL → Option Value) : TabP (fun l al => G.stepAt packP unpackP evXV (regP env pf23 nt27 h) (finP env Tryz.f27.results.toList) (G.collect B27 A27 []) l S al) (T27 h S) := by
  unfold T27
  refine TabP.cons 0 (fun vs0 q e0 => ?_) ?_
  · obtain ⟨r0, vs1, rfl, e1⟩ := wV_some e0
    obtain ⟨r1, vs2, rfl, e2⟩ := wV_some e1
    obtain ⟨rfl, ee⟩ := wN_some e2
    exact (q27x0 h S r0 r1).symm.trans ee
  refine TabP.cons 1 (fun vs0 q e0 => ?_) ?_
  · obtain ⟨r0, vs1, rfl, e1⟩ := wV_some e0
    obtain ⟨r1, vs2, rfl, e2⟩ := wV_some e1
    obtain ⟨r5, vs3, rfl, e3⟩ := wB_some e2
    obtain ⟨r6, vs4, rfl, e4⟩ := wI_some e3
    obtain ⟨rfl, ee⟩ := wN_some e4
    exact (q27x1 h S r0 r1 r5 r6).symm.trans ee
  refine TabP.cons 2 (fun vs0 q e0 => ?_) ?_
  · obtain ⟨r0, vs1, rfl, e1⟩ := wV_some e0
    obtain ⟨r1, vs2, rfl, e2⟩ := wV_some e1
    obtain ⟨r6, vs3, rfl, e3⟩ := wI_some e2
    obtain ⟨rfl, ee⟩ := wN_some e3
    exact (q27x2 h S r0 r1 r6).symm.trans ee
  refine TabP.cons 3 (fun vs0 q e0 => ?_) ?_
  · obtain ⟨r5, vs1, rfl, e1⟩ := wB_some e0
    obtain ⟨rfl, ee⟩ := wN_some e1
    exact (q27x3 h S r5).symm.trans ee
  exact TabP.nil
theorem r27 : PSound Tryz.prog 27 F27 := fun_soundP (C := C0) ok0 (pf := pf23) pfok23 (fn := Tryz.f27) (body := B27) (kinds := [Kd.v, Kd.v]) (A := A27) (T := T27) (by kernel_rfl) (by kernel_rfl) (by kernel_rfl) (by kernel_rfl) (fun h S => t27 h S)
noncomputable def pf24 : PF := pfC 27 F27 pf23
theorem pfok24 : PfSound Tryz.prog pf24 := pfC_ok r27 pfok23
noncomputable def orc46 := orcP 27 F27 orc45
noncomputable def C46 : Cfg := cfg orc46
theorem ok46 : C46.Ok := orcP_ok (C := C45) ok45 r27
/-! ceroplast/ceroplastref01.Shops -/
noncomputable def B26 : Code := (Tryz.f26.body).getD .skip
def A26 : Ann := (Ann.node (some (0, [(0, Kd.v), (1, Kd.v)])) Ann.nil (Ann.node none (Ann.node none Ann.nil (Ann.node none (Ann.node none Ann.nil Ann.nil) Ann.nil)) (Ann.node none (Ann.node none Ann.nil (Ann.node none (Ann.node (some (1, [(2, Kd.v), (3, Kd.v), (5, Kd.i .i64)])) (Ann.node none (Ann.node none Ann.nil (Ann.node none Ann.nil Ann.nil)) (Ann.node none (Ann.node none (Ann.node none Ann.nil (Ann.node none Ann.nil (Ann.node none (Ann.node none Ann.nil Ann.nil) Ann.nil))) Ann.nil) Ann.nil)) Ann.nil) Ann.nil)) (Ann.node (some (4, [(2, Kd.v), (3, Kd.v)])) (Ann.node none Ann.nil (Ann.node none (Ann.node (some (2, [(2, Kd.v), (3, Kd.v), (8, Kd.i .i64)])) (Ann.node none (Ann.node none Ann.nil (Ann.node none Ann.nil Ann.nil)) (Ann.node none (Ann.node none (Ann.node none Ann.nil (Ann.node none (Ann.node none Ann.nil Ann.nil) Ann.nil)) Ann.nil) Ann.nil)) Ann.nil) Ann.nil)) (Ann.node (some (3, [])) Ann.nil Ann.nil)))))
noncomputable def P26x3 (S : Sg) (h : Hp) : CRes :=
  some ((Value.bool true), h)
noncomputable def P26x2 (S : Sg) (r2 : Value) (r3 : Value) (r8 : Int) (h : Hp) : CRes :=
  ptrAddK 2 r2 fun v0 =>
  load1K h v0 fun v1 =>
  lenSK v1 fun i2 =>
  boolZ (ltZ r8 i2) fun b3 =>
  ifB b3
  (ptrAddK 2 r2 fun v4 =>
  load1K h v4 fun v5 =>
  idxSK 2 v5 r8 fun v6 =>
  ptrAddK 0 v6 fun v7 =>
  load1K h v7 fun v8 =>
  ptrAddK 2 r3 fun v9 =>
  load1K h v9 fun v10 =>
  idxSK 2 v10 r8 fun v11 =>
  ptrAddK 0 v11 fun v12 =>
  load1K h v12 fun v13 =>
  optK (binV env .neq 9 (Operand.tmp 81) (Operand.tmp 87) v8 v13) fun v14 =>
  boolK v14 fun b15 =>
  ifB b15
  (some ((Value.bool false), h))
  (ptrAddK 2 r2 fun v16 =>
  load1K h v16 fun v17 =>
  idxSK 2 v17 r8 fun v18 =>
  ptrAddK 1 v18 fun v19 =>
  load1K h v19 fun v20 =>
  ptrAddK 2 r3 fun v21 =>
  load1K h v21 fun v22 =>
  idxSK 2 v22 r8 fun v23 =>
  ptrAddK 1 v23 fun v24 =>
  load1K h v24 fun v25 =>
  pairK (optK (F27 [v20, v25] h) fun v => some (v, h)) fun v26 h26 =>
  boolK v26 fun b27 =>
  boolN b27 fun b28 =>
  ifB b28
  (some ((Value.bool false), h26))
  (wrap64 (Int.add r8 (Int.ofNat 1)) fun i29 =>
  S 2 (AL.v r2 (AL.v r3 (AL.i i29 AL.n))) h26)))
  (S 3 AL.n h)
noncomputable def P26x4 (S : Sg) (r2 : Value) (r3 : Value) (h : Hp) : CRes :=
  S 2 (AL.v r2 (AL.v r3 (AL.i (Int.ofNat 0) AL.n))) h
noncomputable def P26x1 (S : Sg) (r2 : Value) (r3 : Value) (r5 : Int) (h : Hp) : CRes :=
  ptrAddK 1 r2 fun v0 =>
  load1K h v0 fun v1 =>
  lenSK v1 fun i2 =>
  boolZ (ltZ r5 i2) fun b3 =>
  ifB b3
  (ptrAddK 1 r2 fun v4 =>
  leftK v4 (Hp.next h) (Hp.mk (Hp.next h) (Hp.next h) T.nil) fun w5 n5 =>
  load1K (Hp.mk n5 n5 (addAll w5 (Hp.objs h))) v4 fun v6 =>
  leftK v6 n5 (Hp.mk n5 n5 (addAll w5 (Hp.objs h))) fun w7 n7 =>
  idxSK 3 v6 r5 fun v8 =>
  leftK v8 n7 (Hp.mk n7 n7 T.nil) fun w9 n9 =>
  loadNK 3 (Hp.mk n9 n9 (addAll w9 (addAll w7 (addAll w5 (Hp.objs h))))) v8 fun v10 =>
  leftK v10 n9 (Hp.mk n9 n9 (addAll w9 (addAll w7 (addAll w5 (Hp.objs h))))) fun w11 n11 =>
  ptrAddK 1 r3 fun v12 =>
  leftK v12 n11 (Hp.mk n11 n11 T.nil) fun w13 n13 =>
  load1K (Hp.mk n13 n13 (addAll w13 (Hp.objs h))) v12 fun v14 =>
  leftK v14 n13 (Hp.mk n13 n13 (addAll w13 (Hp.objs h))) fun w15 n15 =>
  idxSK 3 v14 r5 fun v16 =>
  leftK v16 n15 (Hp.mk n15 n15 T.nil) fun w17 n17 =>
  loadNK 3 (Hp.mk n17 n17 (addAll w17 (addAll w15 (addAll w13 (Hp.objs h))))) v16 fun v18 =>
  leftK v18 n17 (Hp.mk n17 n17 (addAll w17 (addAll w15 (addAll w13 (Hp.objs h))))) fun w19 n19 =>
  allocK (Hp.mk n19 n19 T.nil) 48 [(Value.string (ByteArray.mk #[])), (Value.int .i64 (Int.ofNat 0)), (Value.slice none 0 0)] fun a20 h20 =>
  leftK a20 n19 h20 fun w21 n21 =>
  allocK (Hp.mk n21 n21 T.nil) 48 [(Value.string (ByteArray.mk #[])), (Value.int .i64 (Int.ofNat 0)), (Value.slice none 0 0)] fun a22 h22 =>
  leftK a22 n21 h22 fun w23 n23 =>
  storeQ env 48 a20 v10 n23 (Hp.next h) (addAll w23 (addAll w21 (addAll w11 (addAll w9 (addAll w7 (addAll w5 (Hp.objs h))))))) (fun b => (hasBlk w5 b || (hasBlk w7 b || (hasBlk [] b || (hasBlk w9 b || (hasBlk w11 b || (hasBlk w21 b || (hasBlk w23 b || false)))))))) fun w24 =>
  storeNK 3 (Hp.mk n23 (Hp.ro h) (addAll w24 (addAll w23 (addAll w21 (addAll w19 (addAll w17 (addAll w15 (addAll w13 (addAll w11 (addAll w9 (addAll w7 (addAll w5 (Hp.objs h))))))))))))) a22 v18 fun h25 =>
  ptrAddK 0 a20 fun v26 =>
  load1K h25 v26 fun v27 =>
  ptrAddK 0 a22 fun v28 =>
  load1K h25 v28 fun v29 =>
  optK (binV env .neq 9 (Operand.tmp 50) (Operand.tmp 52) v27 v29) fun v30 =>
  boolK v30 fun b31 =>
  ifB b31
  (some ((Value.bool false), h25))
  (ptrAddK 1 a20 fun v32 =>
  load1K h25 v32 fun v33 =>
  intK .i64 v33 fun i34 =>
  ptrAddK 1 a22 fun v35 =>
  load1K h25 v35 fun v36 =>
  intK .i64 v36 fun i37 =>
  boolN (eqZ i34 i37) fun b38 =>
  ifB b38
  (some ((Value.bool false), h25))
  (ptrAddK 2 a20 fun v39 =>
  load1K h25 v39 fun v40 =>
  ptrAddK 2 a22 fun v41 =>
  load1K h25 v41 fun v42 =>
  pairK (optK (F48 [v40, v42] h25) fun v => some (v, h25)) fun v43 h43 =>
  boolK v43 fun b44 =>
  boolN b44 fun b45 =>
  ifB b45
  (some ((Value.bool false), h43))
  (wrap64 (Int.add r5 (Int.ofNat 1)) fun i46 =>
  S 1 (AL.v r2 (AL.v r3 (AL.i i46 AL.n))) h43))))
  (S 4 (AL.v r2 (AL.v r3 AL.n)) h)
noncomputable def P26x0 (S : Sg) (r0 : Value) (r1 : Value) (h : Hp) : CRes :=
  allocK h 25 (Array.toList (Value.cells r0)) fun a0 h0 =>
  allocK h0 25 (Array.toList (Value.cells r1)) fun a1 h1 =>
  ptrAddK 0 a0 fun v2 =>
  load1K h1 v2 fun v3 =>
  intK .i64 v3 fun i4 =>
  ptrAddK 0 a1 fun v5 =>
  load1K h1 v5 fun v6 =>
  intK .i64 v6 fun i7 =>
  boolN (eqZ i4 i7) fun b8 =>
  ifB b8
  (some ((Value.bool false), h1))
  (ptrAddK 1 a0 fun v9 =>
  load1K h1 v9 fun v10 =>
  lenSK v10 fun i11 =>
  ptrAddK 1 a1 fun v12 =>
  load1K h1 v12 fun v13 =>
  lenSK v13 fun i14 =>
  boolN (eqZ i11 i14) fun b15 =>
  ifB b15
  (some ((Value.bool false), h1))
  (ptrAddK 2 a0 fun v16 =>
  load1K h1 v16 fun v17 =>
  lenSK v17 fun i18 =>
  ptrAddK 2 a1 fun v19 =>
  load1K h1 v19 fun v20 =>
  lenSK v20 fun i21 =>
  boolN (eqZ i18 i21) fun b22 =>
  ifB b22
  (some ((Value.bool false), h1))
  (S 1 (AL.v a0 (AL.v a1 (AL.i (Int.ofNat 0) AL.n))) h1)))
noncomputable def T26 (S : Sg) : Sg := tabC 0 (uV fun r0 => uV fun r1 => uN fun h => P26x0 S r0 r1 h) (tabC 1 (uV fun r2 => uV fun r3 => uI fun r5 => uN fun h => P26x1 S r2 r3 r5 h) (tabC 4 (uV fun r2 => uV fun r3 => uN fun h => P26x4 S r2 r3 h) (tabC 2 (uV fun r2 => uV fun r3 => uI fun r8 => uN fun h => P26x2 S r2 r3 r8 h) (tabC 3 (uN fun h => P26x3 S  h) (tabN)))))
noncomputable def F26 (args : List Value) (h : Hp) : CRes := packVals [Kd.v, Kd.v] args fun al => rec' T26 1000000 0 al h
def nt26 : Nat := 2 + (105 - 2)
theorem q26x3 (S : Sg) (h : Hp) : P26x3 S  h = stepAt (regK env orc46 (nt26)) (finK env Tryz.f26.results.toList) (collect B26 A26 []) 3 S AL.n h := by kernel_rfl
theorem q26x2 (S : Sg) (r2 : Value) (r3 : Value) (r8 : Int) (h : Hp) : P26x2 S r2 r3 r8 h = stepAt (regK env orc46 (nt26)) (finK env Tryz.f26.results.toList) (collect B26 A26 []) 2 S (AL.v r2 (AL.v r3 (AL.i r8 AL.n))) h := by kernel_rfl
theorem q26x4 (S : Sg) (r2 : Value) (r3 : Value) (h : Hp) : P26x4 S r2 r3 h = stepAt (regK env orc46 (nt26)) (finK env Tryz.f26.results.toList) (collect B26 A26 []) 4 S (AL.v r2 (AL.v r3 AL.n)) h := by kernel_rfl
theorem q26x1 (S : Sg) (r2 : Value) (r3 : Value) (r5 : Int) (h : Hp) : P26x1 S r2 r3 r5 h = stepAt (regK env orc46 (nt26)) (finK env Tryz.f26.results.toList) (collect B26 A26 []) 1 S (AL.v r2 (AL.v r3 (AL.i r5 AL.n))) h := by kernel_rfl
theorem q26x0 (S : Sg) (r0 : Value) (r1 : Value) (h : Hp) : P26x0 S r0 r1 h = stepAt (regK env orc46 (nt26)) (finK env Tryz.f26.results.toList) (collect B26 A26 []) 0 S (AL.v r0 (AL.v r1 AL.n)) h := by kernel_rfl
theorem t26 (S : Sg) : Tab (fun l vs h => stepAt (regK env orc46 nt26) (finK env Tryz.f26.results.toList) (collect B26 A26 []) l S vs h) (T26 S) := by
  unfold T26
  refine Tab.cons 0 (fun vs0 h q e0 => ?_) ?_
  · obtain ⟨r0, vs1, rfl, e1⟩ := uV_some e0
    obtain ⟨r1, vs2, rfl, e2⟩ := uV_some e1
    obtain ⟨rfl, ee⟩ := uN_some e2
    exact (q26x0 S r0 r1 h).symm.trans ee
  refine Tab.cons 1 (fun vs0 h q e0 => ?_) ?_
  · obtain ⟨r2, vs1, rfl, e1⟩ := uV_some e0
    obtain ⟨r3, vs2, rfl, e2⟩ := uV_some e1
    obtain ⟨r5, vs3, rfl, e3⟩ := uI_some e2
    obtain ⟨rfl, ee⟩ := uN_some e3
    exact (q26x1 S r2 r3 r5 h).symm.trans ee
  refine Tab.cons 4 (fun vs0 h q e0 => ?_) ?_
  · obtain ⟨r2, vs1, rfl, e1⟩ := uV_some e0
    obtain ⟨r3, vs2, rfl, e2⟩ := uV_some e1
    obtain ⟨rfl, ee⟩ := uN_some e2
    exact (q26x4 S r2 r3 h).symm.trans ee
  refine Tab.cons 2 (fun vs0 h q e0 => ?_) ?_
  · obtain ⟨r2, vs1, rfl, e1⟩ := uV_some e0
    obtain ⟨r3, vs2, rfl, e2⟩ := uV_some e1
    obtain ⟨r8, vs3, rfl, e3⟩ := uI_some e2
    obtain ⟨rfl, ee⟩ := uN_some e3
    exact (q26x2 S r2 r3 r8 h).symm.trans ee
  refine Tab.cons 3 (fun vs0 h q e0 => ?_) ?_
  · 
    obtain ⟨rfl, ee⟩ := uN_some e0
    exact (q26x3 S  h).symm.trans ee
  exact Tab.nil
theorem r26 : ∀ args h v h', F26 args h = some (v, h') → Runs (C46) (.call 26 args.toArray h) (.ret v h') := by
  intro args h v h' e
  exact fun_sound (C := C46) (fn := Tryz.f26) (body := B26) (np := 2) (A := A26) (T := T26) (kinds := [Kd.v, Kd.v]) (by kernel_rfl) (by kernel_rfl) (by kernel_rfl) (by kernel_rfl) (regK_ok env_ok) (by kernel_rfl) (fun S => t26 S) e
noncomputable def orc47 := orcQ 26 F26 orc46
noncomputable def C47 : Cfg := cfg orc47
theorem ok47 : C47.Ok := orcQ_ok (C := C46) ok46 r26
/-! ceroplast/ceroplastref01.Marks -/
noncomputable def B28 : Code := (Tryz.f28.body).getD .skip
noncomputable def A28 : G.Ann (List KI) := (G.Ann.node (some (0, [KI.reg 0 (Kd.v), KI.reg 1 (Kd.v)])) G.Ann.nil (G.Ann.node none G.Ann.nil (G.Ann.node none (G.Ann.node none G.Ann.nil (G.Ann.node none (G.Ann.node (some (1, [KI.reg 0 (Kd.v), KI.reg 1 (Kd.v), KI.reg 5 (Kd.b), KI.reg 6 (Kd.i .i64)])) (G.Ann.node none (G.Ann.node none G.Ann.nil (G.Ann.node none G.Ann.nil G.Ann.nil)) (G.Ann.node (some (2, [KI.reg 0 (Kd.v), KI.reg 1 (Kd.v), KI.reg 6 (Kd.i .i64)])) (G.Ann.node none G.Ann.nil G.Ann.nil) G.Ann.nil)) G.Ann.nil) G.Ann.nil)) (G.Ann.node (some (3, [KI.reg 5 (Kd.b)])) G.Ann.nil G.Ann.nil))))
noncomputable def P28x3 (h : Hp) (S : Nat → PAL → Option Value) (r5 : Bool) : Option Value :=
  some (Value.bool r5)
noncomputable def P28x2 (h : Hp) (S : Nat → PAL → Option Value) (r0 : Value) (r1 : Value) (r6 : Int) : Option Value :=
  idxSK 2 r0 r6 fun v0 =>
  loadNK 2 h v0 fun v1 =>
  idxSK 2 r1 r6 fun v2 =>
  loadNK 2 h v2 fun v3 =>
  optK (binV env .eql 84 (Operand.tmp 24) (Operand.tmp 28) v1 v3) fun v4 =>
  boolK v4 fun b5 =>
  wrap64 (Int.add r6 (Int.ofNat 1)) fun i6 =>
  S 1 (PAL.v r0 (PAL.v r1 (PAL.b b5 (PAL.i i6 PAL.n))))
noncomputable def P28x1 (h : Hp) (S : Nat → PAL → Option Value) (r0 : Value) (r1 : Value) (r5 : Bool) (r6 : Int) : Option Value :=
  ifB r5
  (lenSK r0 fun i0 =>
  boolZ (ltZ r6 i0) fun b1 =>
  ifB b1
  (S 2 (PAL.v r0 (PAL.v r1 (PAL.i r6 PAL.n))))
  (S 3 (PAL.b r5 PAL.n)))
  (S 3 (PAL.b r5 PAL.n))
noncomputable def P28x0 (h : Hp) (S : Nat → PAL → Option Value) (r0 : Value) (r1 : Value) : Option Value :=
  lenSK r0 fun i0 =>
  lenSK r1 fun i1 =>
  boolZ (eqZ i0 i1) fun b2 =>
  S 1 (PAL.v r0 (PAL.v r1 (PAL.b b2 (PAL.i (Int.ofNat 0) PAL.n))))
noncomputable def T28 (h : Hp) (S : Nat → PAL → Option Value) : Nat → PAL → Option Value := tabPC 0 (wV fun r0 => wV fun r1 => wN (P28x0 h S r0 r1)) (tabPC 1 (wV fun r0 => wV fun r1 => wB fun r5 => wI fun r6 => wN (P28x1 h S r0 r1 r5 r6)) (tabPC 2 (wV fun r0 => wV fun r1 => wI fun r6 => wN (P28x2 h S r0 r1 r6)) (tabPC 3 (wB fun r5 => wN (P28x3 h S r5)) (tabPN))))
noncomputable def F28 (args : List Value) (h : Hp) : Option Value := plainO (packArgs [Kd.v, Kd.v] args fun al => G.rec' (T28 h) 1000000 0 al)
def nt28 : Nat := 2 + (31 - 2)
theorem q28x3 (h : Hp) (S : Nat → PAL → Option Value) (r5 : Bool) : P28x3 h S r5 = G.stepAt packP unpackP evXV (regP env pf24 nt28 h) (finP env Tryz.f28.results.toList) (G.collect B28 A28 []) 3 S (PAL.b r5 PAL.n) := by kernel_rfl
theorem q28x2 (h : Hp) (S : Nat → PAL → Option Value) (r0 : Value) (r1 : Value) (r6 : Int) : P28x2 h S r0 r1 r6 = G.stepAt packP unpackP evXV (regP env pf24 nt28 h) (finP env Tryz.f28.results.toList) (G.collect B28 A28 []) 2 S (PAL.v r0 (PAL.v r1 (PAL.i r6 PAL.n))) := by kernel_rfl
theorem q28x1 (h : Hp) (S : Nat → PAL → Option Value) (r0 : Value) (r1 : Value) (r5 : Bool) (r6 : Int) : P28x1 h S r0 r1 r5 r6 = G.stepAt packP unpackP evXV (regP env pf24 nt28 h) (finP env Tryz.f28.results.toList) (G.collect B28 A28 []) 1 S (PAL.v r0 (PAL.v r1 (PAL.b r5 (PAL.i r6 PAL.n)))) := by kernel_rfl
theorem q28x0 (h : Hp) (S : Nat → PAL → Option Value) (r0 : Value) (r1 : Value) : P28x0 h S r0 r1 = G.stepAt packP unpackP evXV (regP env pf24 nt28 h) (finP env Tryz.f28.results.toList) (G.collect B28 A28 []) 0 S (PAL.v r0 (PAL.v r1 PAL.n)) := by kernel_rfl
theorem t28 (h : Hp) (S : Nat → PAL → Option Value) : TabP (fun l al => G.stepAt packP unpackP evXV (regP env pf24 nt28 h) (finP env Tryz.f28.results.toList) (G.collect B28 A28 []) l S al) (T28 h S) := by
  unfold T28
  refine TabP.cons 0 (fun vs0 q e0 => ?_) ?_
  · obtain ⟨r0, vs1, rfl, e1⟩ := wV_some e0
    obtain ⟨r1, vs2, rfl, e2⟩ := wV_some e1
    obtain ⟨rfl, ee⟩ := wN_some e2
    exact (q28x0 h S r0 r1).symm.trans ee
  refine TabP.cons 1 (fun vs0 q e0 => ?_) ?_
  · obtain ⟨r0, vs1, rfl, e1⟩ := wV_some e0
    obtain ⟨r1, vs2, rfl, e2⟩ := wV_some e1
    obtain ⟨r5, vs3, rfl, e3⟩ := wB_some e2
    obtain ⟨r6, vs4, rfl, e4⟩ := wI_some e3
    obtain ⟨rfl, ee⟩ := wN_some e4
    exact (q28x1 h S r0 r1 r5 r6).symm.trans ee
  refine TabP.cons 2 (fun vs0 q e0 => ?_) ?_
  · obtain ⟨r0, vs1, rfl, e1⟩ := wV_some e0
    obtain ⟨r1, vs2, rfl, e2⟩ := wV_some e1
    obtain ⟨r6, vs3, rfl, e3⟩ := wI_some e2
    obtain ⟨rfl, ee⟩ := wN_some e3
    exact (q28x2 h S r0 r1 r6).symm.trans ee
  refine TabP.cons 3 (fun vs0 q e0 => ?_) ?_
  · obtain ⟨r5, vs1, rfl, e1⟩ := wB_some e0
    obtain ⟨rfl, ee⟩ := wN_some e1
    exact (q28x3 h S r5).symm.trans ee
  exact TabP.nil
theorem r28 : PSound Tryz.prog 28 F28 := fun_soundP (C := C0) ok0 (pf := pf24) pfok24 (fn := Tryz.f28) (body := B28) (kinds := [Kd.v, Kd.v]) (A := A28) (T := T28) (by kernel_rfl) (by kernel_rfl) (by kernel_rfl) (by kernel_rfl) (fun h S => t28 h S)
noncomputable def pf25 : PF := pfC 28 F28 pf24
theorem pfok25 : PfSound Tryz.prog pf25 := pfC_ok r28 pfok24
noncomputable def orc48 := orcP 28 F28 orc47
noncomputable def C48 : Cfg := cfg orc48
theorem ok48 : C48.Ok := orcP_ok (C := C47) ok47 r28
noncomputable abbrev orcE := orc48
theorem okE : (cfg orcE).Ok := ok48
end Go.Proofs.YtgggdoahikgacaaGreatDoor.K
