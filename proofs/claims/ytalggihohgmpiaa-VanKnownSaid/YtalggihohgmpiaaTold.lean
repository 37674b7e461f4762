/- Functions told. -/
import Derived.Test.YtalggihohgmpiaaTab
open Go Go.Eng
set_option maxRecDepth 100000
set_option linter.unusedVariables false
namespace Go.Proofs.Ytalggihohgmpiaa.K
abbrev bn (a b : Ann) : Ann := .node none a b
abbrev bl : Ann := .nil
abbrev an {V : Type} (a b : G.Ann V) : G.Ann V := G.Ann.node none a b
abbrev al {V : Type} : G.Ann V := G.Ann.nil
noncomputable def B12 : Code := (Try.f12.body).getD .skip
noncomputable def A12 : G.Ann (List KI) := (G.Ann.node (some (0, [KI.reg 0 (Kd.i .i64), KI.reg 1 (Kd.i .i64)])) al (an al al))
noncomputable def P12x0 (h : Hp) (S : Nat → PAL → Option Value) (r0 : Int) (r1 : Int) : Option Value :=
  optK (buildV env 42 (List.toArray [(0, (Value.int .i64 r0)), (1, (Value.int .i64 r1))])) fun v0 =>
  aggK v0 fun l1 => ifB (Nat.beq (lenR l1) 2) (segR 0 l1 [(Value.int .i64 (Int.ofNat 0)), (Value.int .i64 (Int.ofNat 0))] fun c1 =>
  dropR c1 0 fun d2 => takeR d2 2 fun l2 => some (Value.agg (Array.mk l2))) none
noncomputable def T12 (h : Hp) (S : Nat → PAL → Option Value) : Nat → PAL → Option Value := tabPC 0 (wI fun r0 => wI fun r1 => wN (P12x0 h S r0 r1)) (tabPN)
noncomputable def F12 (args : List Value) (h : Hp) : Option Value := plainO (packArgs [Kd.i .i64, Kd.i .i64] args fun al => G.rec' (T12 h) 1000000 0 al)
def nt12 : Nat := 2 + (8 - 2)
theorem q12x0 (h : Hp) (S : Nat → PAL → Option Value) (r0 : Int) (r1 : Int) : P12x0 h S r0 r1 = G.stepAt packP unpackP evXV (regP env pf0 nt12 h) (finP env Try.f12.results.toList) (G.collect B12 A12 []) 0 S (PAL.i r0 (PAL.i r1 PAL.n)) := by kernel_rfl
theorem t12 (h : Hp) (S : Nat → PAL → Option Value) : TabP (fun l al => G.stepAt packP unpackP evXV (regP env pf0 nt12 h) (finP env Try.f12.results.toList) (G.collect B12 A12 []) l S al) (T12 h S) := by
  unfold T12
  refine TabP.cons 0 (fun vs0 q e0 => ?_) ?_
  · obtain ⟨r0, vs1, rfl, e1⟩ := wI_some e0
    obtain ⟨r1, vs2, rfl, e2⟩ := wI_some e1
    obtain ⟨rfl, ee⟩ := wN_some e2
    exact (q12x0 h S r0 r1).symm.trans ee
  exact TabP.nil
theorem r12 : PSound Try.prog 12 F12 := fun_soundP (C := C0) ok0 (pf := pf0) pfok0 (fn := Try.f12) (body := B12) (kinds := [Kd.i .i64, Kd.i .i64]) (A := A12) (T := T12) (by kernel_rfl) (by kernel_rfl) (by kernel_rfl) (by kernel_rfl) (fun h S => t12 h S)
noncomputable def pf1 : PF := pfC 12 F12 pf0
theorem pfok1 : PfSound Try.prog pf1 := pfC_ok r12 pfok0
noncomputable def orc1 := orcP 12 F12 orc0
noncomputable def C1 : Cfg := cfg orc1
theorem ok1 : C1.Ok := orcP_ok (C := C0) ok0 r12
noncomputable def B4 : Code := (Try.f4.body).getD .skip
def A4 : Ann := (Ann.node (some (0, [])) bl (bn bl bl))
noncomputable def P4x0 (S : Sg) (h : Hp) : CRes :=
  allocK h 26 [(Value.slice none 0 0), (Value.int .i64 (Int.ofNat 0)), (Value.int .i64 (Int.ofNat 0)), (Value.slice none 0 0), (Value.slice none 0 0)] fun a0 h0 =>
  pairK (optK (F12 [(Value.int .i64 (Int.ofNat 60)), (Value.int .i64 (Int.ofNat 80))] h0) fun v => some (v, h0)) fun v1 h1 =>
  pairK (optK (F12 [(Value.int .i64 (Int.ofNat 30)), (Value.int .i64 (Int.ofNat 50))] h1) fun v => some (v, h1)) fun v2 h2 =>
  pairK (buildSliceV env h2 33 2 (List.toArray [(0, v1), (1, v2)])) fun v3 h3 =>
  optK (buildV env 46 (List.toArray [(0, (Value.string (ByteArray.mk #[114, 101, 100]))), (1, (Value.int .i64 (Int.ofNat 5))), (2, (Value.int .i64 (Int.ofNat 100))), (3, v3)])) fun v4 =>
  pairK (optK (F12 [(Value.int .i64 (Int.ofNat 50)), (Value.int .i64 (Int.ofNat 60))] h3) fun v => some (v, h3)) fun v5 h5 =>
  pairK (optK (F12 [(Value.int .i64 (Int.ofNat 30)), (Value.int .i64 (Int.ofNat 40))] h5) fun v => some (v, h5)) fun v6 h6 =>
  pairK (buildSliceV env h6 33 2 (List.toArray [(0, v5), (1, v6)])) fun v7 h7 =>
  optK (buildV env 46 (List.toArray [(0, (Value.string (ByteArray.mk #[98, 108, 117, 101]))), (1, (Value.int .i64 (Int.ofNat 4))), (2, (Value.int .i64 (Int.ofNat 160))), (3, v7)])) fun v8 =>
  pairK (buildSliceV env h7 22 2 (List.toArray [(0, v4), (1, v8)])) fun v9 h9 =>
  optK (buildV env 48 (List.toArray [(0, (Value.string (ByteArray.mk #[104, 101, 97, 100, 115]))), (1, (Value.int .i64 (Int.ofNat 2))), (3, (Value.int .i64 (Int.ofNat 190)))])) fun v10 =>
  optK (buildV env 48 (List.toArray [(0, (Value.string (ByteArray.mk #[119, 105, 103, 115]))), (1, (Value.int .i64 (Int.ofNat 1))), (2, (Value.int .i64 (Int.ofNat 1))), (3, (Value.int .i64 (Int.ofNat 250)))])) fun v11 =>
  optK (buildV env 48 (List.toArray [(0, (Value.string (ByteArray.mk #[119, 97, 120]))), (1, (Value.int .i64 (Int.ofNat 3))), (3, (Value.int .i64 (Int.ofNat 230)))])) fun v12 =>
  optK (buildV env 48 (List.toArray [(0, (Value.string (ByteArray.mk #[103, 108, 97, 115, 115]))), (1, (Value.int .i64 (Int.ofNat 2))), (2, (Value.int .i64 (Int.ofNat 1))), (3, (Value.int .i64 (Int.ofNat 240)))])) fun v13 =>
  pairK (buildSliceV env h9 23 4 (List.toArray [(0, v10), (1, v11), (2, v12), (3, v13)])) fun v14 h14 =>
  optK (buildV env 50 (List.toArray [(0, (Value.int .i64 (Int.ofNat 0))), (1, (Value.int .i64 (Int.ofNat 2)))])) fun v15 =>
  pairK (buildSliceV env h14 24 1 (List.toArray [(0, v15)])) fun v16 h16 =>
  optK (buildV env 26 (List.toArray [(0, v9), (1, (Value.int .i64 (Int.ofNat 2))), (2, (Value.int .i64 (Int.ofNat 10))), (3, v14), (4, v16)])) fun v17 =>
  storeNK 5 h16 a0 v17 fun h18 =>
  loadNK 5 h18 a0 fun v19 => some (v19, h18)
noncomputable def T4 (S : Sg) : Sg := tabC 0 (uN fun h => P4x0 S  h) (tabN)
noncomputable def F4 (args : List Value) (h : Hp) : CRes := packVals [] args fun al => rec' T4 1000000 0 al h
def nt4 : Nat := 0 + (18 - 0)
theorem q4x0 (S : Sg) (h : Hp) : P4x0 S  h = stepAt (regK env orc1 (nt4)) (finK env Try.f4.results.toList) (collect B4 A4 []) 0 S AL.n h := by kernel_rfl
theorem t4 (S : Sg) : Tab (fun l vs h => stepAt (regK env orc1 nt4) (finK env Try.f4.results.toList) (collect B4 A4 []) l S vs h) (T4 S) := by
  unfold T4
  refine Tab.cons 0 (fun vs0 h q e0 => ?_) ?_
  · 
    obtain ⟨rfl, ee⟩ := uN_some e0
    exact (q4x0 S  h).symm.trans ee
  exact Tab.nil
theorem r4 : ∀ args h v h', F4 args h = some (v, h') → Runs (C1) (.call 4 args.toArray h) (.ret v h') := by
  intro args h v h' e
  exact fun_sound (C := C1) (fn := Try.f4) (body := B4) (np := 0) (A := A4) (T := T4) (kinds := []) (by kernel_rfl) (by kernel_rfl) (by kernel_rfl) (by kernel_rfl) (regK_ok env_ok) (by kernel_rfl) (fun S => t4 S) e
noncomputable def orc2 := orcQ 4 F4 orc1
noncomputable def C2 : Cfg := cfg orc2
theorem ok2 : C2.Ok := orcQ_ok (C := C1) ok1 r4
noncomputable def B6 : Code := (Try.f6.body).getD .skip
def A6 : Ann := (Ann.node (some (0, [])) bl (bn bl bl))
noncomputable def P6x0 (S : Sg) (h : Hp) : CRes :=
  pairK (buildSliceV env h 28 4 (List.toArray [(0, (Value.int .i64 (Int.ofNat 0))), (1, (Value.int .i64 (Int.ofNat 0))), (2, (Value.int .i64 (Int.ofNat 1))), (3, (Value.int .i64 (Int.ofNat 0)))])) fun v0 h0 =>
  some (v0, h0)
noncomputable def T6 (S : Sg) : Sg := tabC 0 (uN fun h => P6x0 S  h) (tabN)
noncomputable def F6 (args : List Value) (h : Hp) : CRes := packVals [] args fun al => rec' T6 1000000 0 al h
def nt6 : Nat := 0 + (2 - 0)
theorem q6x0 (S : Sg) (h : Hp) : P6x0 S  h = stepAt (regK env orc2 (nt6)) (finK env Try.f6.results.toList) (collect B6 A6 []) 0 S AL.n h := by kernel_rfl
theorem t6 (S : Sg) : Tab (fun l vs h => stepAt (regK env orc2 nt6) (finK env Try.f6.results.toList) (collect B6 A6 []) l S vs h) (T6 S) := by
  unfold T6
  refine Tab.cons 0 (fun vs0 h q e0 => ?_) ?_
  · 
    obtain ⟨rfl, ee⟩ := uN_some e0
    exact (q6x0 S  h).symm.trans ee
  exact Tab.nil
theorem r6 : ∀ args h v h', F6 args h = some (v, h') → Runs (C2) (.call 6 args.toArray h) (.ret v h') := by
  intro args h v h' e
  exact fun_sound (C := C2) (fn := Try.f6) (body := B6) (np := 0) (A := A6) (T := T6) (kinds := []) (by kernel_rfl) (by kernel_rfl) (by kernel_rfl) (by kernel_rfl) (regK_ok env_ok) (by kernel_rfl) (fun S => t6 S) e
noncomputable def orc3 := orcQ 6 F6 orc2
noncomputable def C3 : Cfg := cfg orc3
theorem ok3 : C3.Ok := orcQ_ok (C := C2) ok2 r6
noncomputable def B87 : Code := (Try.f87.body).getD .skip
def A87 : Ann := (Ann.node (some (0, [(0, Kd.v), (1, Kd.v), (2, Kd.v)])) bl (bn bl bl))
noncomputable def P87x0 (S : Sg) (r0 : Value) (r1 : Value) (r2 : Value) (h : Hp) : CRes :=
  allocK h 46 (Array.toList (Value.cells r0)) fun a0 h0 =>
  load1K (Hp.mk (Hp.next h0) (Hp.next h0) (Hp.objs h0)) r1 fun v1 =>
  leftK v1 (Hp.next h0) (Hp.mk (Hp.next h0) (Hp.next h0) (Hp.objs h0)) fun w2 n2 =>
  loadNK 4 (Hp.mk n2 n2 (Hp.objs h0)) a0 fun v3 =>
  leftK v3 n2 (Hp.mk n2 n2 (Hp.objs h0)) fun w4 n4 =>
  pairK (callF orc3 v1 [v3] (Hp.mk n4 n4 (addAll w4 (addAll w2 (Hp.objs h0))))) fun v5 h5 =>
  leftK v5 n4 h5 fun w6 n6 =>
  load1K (Hp.mk n6 n6 (Hp.objs h0)) r1 fun v7 =>
  leftK v7 n6 (Hp.mk n6 n6 (Hp.objs h0)) fun w8 n8 =>
  loadNK 4 (Hp.mk n8 n8 (Hp.objs h0)) r2 fun v9 =>
  leftK v9 n8 (Hp.mk n8 n8 (Hp.objs h0)) fun w10 n10 =>
  pairK (callF orc3 v7 [v9] (Hp.mk n10 (Hp.ro h0) (addAll w10 (addAll w8 (addAll w6 (addAll w4 (addAll w2 (Hp.objs h0)))))))) fun v11 h11 =>
  optK (binV env .eql 9 (Operand.tmp 7) (Operand.tmp 10) v5 v11) fun v12 =>
  boolK v12 fun b13 =>
  some ((Value.bool b13), h11)
noncomputable def T87 (S : Sg) : Sg := tabC 0 (uV fun r0 => uV fun r1 => uV fun r2 => uN fun h => P87x0 S r0 r1 r2 h) (tabN)
noncomputable def F87 (args : List Value) (h : Hp) : CRes := packVals [Kd.v, Kd.v, Kd.v] args fun al => rec' T87 1000000 0 al h
def nt87 : Nat := 3 + (12 - 3)
theorem q87x0 (S : Sg) (r0 : Value) (r1 : Value) (r2 : Value) (h : Hp) : P87x0 S r0 r1 r2 h = stepAt (regK env orc3 (nt87)) (finK env Try.f87.results.toList) (collect B87 A87 []) 0 S (AL.v r0 (AL.v r1 (AL.v r2 AL.n))) h := by kernel_rfl
theorem t87 (S : Sg) : Tab (fun l vs h => stepAt (regK env orc3 nt87) (finK env Try.f87.results.toList) (collect B87 A87 []) l S vs h) (T87 S) := by
  unfold T87
  refine Tab.cons 0 (fun vs0 h q e0 => ?_) ?_
  · obtain ⟨r0, vs1, rfl, e1⟩ := uV_some e0
    obtain ⟨r1, vs2, rfl, e2⟩ := uV_some e1
    obtain ⟨r2, vs3, rfl, e3⟩ := uV_some e2
    obtain ⟨rfl, ee⟩ := uN_some e3
    exact (q87x0 S r0 r1 r2 h).symm.trans ee
  exact Tab.nil
theorem r87 : ∀ args h v h', F87 args h = some (v, h') → Runs (C3) (.call 87 args.toArray h) (.ret v h') := by
  intro args h v h' e
  exact fun_sound (C := C3) (fn := Try.f87) (body := B87) (np := 3) (A := A87) (T := T87) (kinds := [Kd.v, Kd.v, Kd.v]) (by kernel_rfl) (by kernel_rfl) (by kernel_rfl) (by kernel_rfl) (regK_ok env_ok) (by kernel_rfl) (fun S => t87 S) e
noncomputable def orc4 := orcQ 87 F87 orc3
noncomputable def C4 : Cfg := cfg orc4
theorem ok4 : C4.Ok := orcQ_ok (C := C3) ok3 r87
noncomputable def B20 : Code := (Try.f20.body).getD .skip
noncomputable def A20 : G.Ann (List KI) := (G.Ann.node (some (0, [KI.reg 0 (Kd.i .i64), KI.reg 1 (Kd.i .i64), KI.reg 2 (Kd.v)])) al (an (an al (an (G.Ann.node (some (1, [KI.reg 0 (Kd.i .i64), KI.reg 1 (Kd.i .i64), KI.reg 9 (Kd.v), KI.reg 10 (Kd.i .i64), KI.reg 11 (Kd.i .i64)])) (an al (an (an al al) (an (an (an al (an al (an (an al al) al))) al) al))) al) al)) (G.Ann.node (some (2, [])) al al)))
noncomputable def P20x2 (h : Hp) (S : Nat → PAL → Option Value) : Option Value :=
  some (Value.bool true)
noncomputable def P20x1 (h : Hp) (S : Nat → PAL → Option Value) (r0 : Int) (r1 : Int) (r9 : Value) (r10 : Int) (r11 : Int) : Option Value :=
  boolZ (ltZ r11 r10) fun b0 =>
  ifB b0
  (idxSK 1 r9 r11 fun v1 =>
  load1K h v1 fun v2 =>
  intK .i64 v2 fun i3 =>
  boolZ (ltZ i3 r0) fun b4 =>
  ifB b4
  (some (Value.bool false))
  (boolZ (ltZ r1 i3) fun b5 =>
  ifB b5
  (some (Value.bool false))
  (wrap64 (Int.add r11 (Int.ofNat 1)) fun i6 =>
  S 1 (PAL.i r0 (PAL.i r1 (PAL.v r9 (PAL.i r10 (PAL.i i6 PAL.n))))))))
  (S 2 PAL.n)
noncomputable def P20x0 (h : Hp) (S : Nat → PAL → Option Value) (r0 : Int) (r1 : Int) (r2 : Value) : Option Value :=
  lenSK r2 fun i0 =>
  S 1 (PAL.i r0 (PAL.i r1 (PAL.v r2 (PAL.i i0 (PAL.i (Int.ofNat 0) PAL.n)))))
noncomputable def T20 (h : Hp) (S : Nat → PAL → Option Value) : Nat → PAL → Option Value := tabPC 0 (wI fun r0 => wI fun r1 => wV fun r2 => wN (P20x0 h S r0 r1 r2)) (tabPC 1 (wI fun r0 => wI fun r1 => wV fun r9 => wI fun r10 => wI fun r11 => wN (P20x1 h S r0 r1 r9 r10 r11)) (tabPC 2 (wN (P20x2 h S)) (tabPN)))
noncomputable def F20 (args : List Value) (h : Hp) : Option Value := plainO (packArgs [Kd.i .i64, Kd.i .i64, Kd.v] args fun al => G.rec' (T20 h) 1000000 0 al)
def nt20 : Nat := 3 + (24 - 3)
theorem q20x2 (h : Hp) (S : Nat → PAL → Option Value) : P20x2 h S = G.stepAt packP unpackP evXV (regP env pf1 nt20 h) (finP env Try.f20.results.toList) (G.collect B20 A20 []) 2 S PAL.n := by kernel_rfl
theorem q20x1 (h : Hp) (S : Nat → PAL → Option Value) (r0 : Int) (r1 : Int) (r9 : Value) (r10 : Int) (r11 : Int) : P20x1 h S r0 r1 r9 r10 r11 = G.stepAt packP unpackP evXV (regP env pf1 nt20 h) (finP env Try.f20.results.toList) (G.collect B20 A20 []) 1 S (PAL.i r0 (PAL.i r1 (PAL.v r9 (PAL.i r10 (PAL.i r11 PAL.n))))) := by kernel_rfl
theorem q20x0 (h : Hp) (S : Nat → PAL → Option Value) (r0 : Int) (r1 : Int) (r2 : Value) : P20x0 h S r0 r1 r2 = G.stepAt packP unpackP evXV (regP env pf1 nt20 h) (finP env Try.f20.results.toList) (G.collect B20 A20 []) 0 S (PAL.i r0 (PAL.i r1 (PAL.v r2 PAL.n))) := by kernel_rfl
theorem t20 (h : Hp) (S : Nat → PAL → Option Value) : TabP (fun l al => G.stepAt packP unpackP evXV (regP env pf1 nt20 h) (finP env Try.f20.results.toList) (G.collect B20 A20 []) l S al) (T20 h S) := by
  unfold T20
  refine TabP.cons 0 (fun vs0 q e0 => ?_) ?_
  · obtain ⟨r0, vs1, rfl, e1⟩ := wI_some e0
    obtain ⟨r1, vs2, rfl, e2⟩ := wI_some e1
    obtain ⟨r2, vs3, rfl, e3⟩ := wV_some e2
    obtain ⟨rfl, ee⟩ := wN_some e3
    exact (q20x0 h S r0 r1 r2).symm.trans ee
  refine TabP.cons 1 (fun vs0 q e0 => ?_) ?_
  · obtain ⟨r0, vs1, rfl, e1⟩ := wI_some e0
    obtain ⟨r1, vs2, rfl, e2⟩ := wI_some e1
    obtain ⟨r9, vs3, rfl, e3⟩ := wV_some e2
    obtain ⟨r10, vs4, rfl, e4⟩ := wI_some e3
    obtain ⟨r11, vs5, rfl, e5⟩ := wI_some e4
    obtain ⟨rfl, ee⟩ := wN_some e5
    exact (q20x1 h S r0 r1 r9 r10 r11).symm.trans ee
  refine TabP.cons 2 (fun vs0 q e0 => ?_) ?_
  · 
    obtain ⟨rfl, ee⟩ := wN_some e0
    exact (q20x2 h S).symm.trans ee
  exact TabP.nil
theorem r20 : PSound Try.prog 20 F20 := fun_soundP (C := C0) ok0 (pf := pf1) pfok1 (fn := Try.f20) (body := B20) (kinds := [Kd.i .i64, Kd.i .i64, Kd.v]) (A := A20) (T := T20) (by kernel_rfl) (by kernel_rfl) (by kernel_rfl) (by kernel_rfl) (fun h S => t20 h S)
noncomputable def pf2 : PF := pfC 20 F20 pf1
theorem pfok2 : PfSound Try.prog pf2 := pfC_ok r20 pfok1
noncomputable def orc5 := orcP 20 F20 orc4
noncomputable def C5 : Cfg := cfg orc5
theorem ok5 : C5.Ok := orcP_ok (C := C4) ok4 r20
noncomputable def B92 : Code := (Try.f92.body).getD .skip
noncomputable def A92 : G.Ann (List KI) := (G.Ann.node (some (0, [KI.reg 0 (Kd.i .u8)])) al (an al al))
noncomputable def P92x0 (h : Hp) (S : Nat → PAL → Option Value) (r0 : Int) : Option Value :=
  boolN (ltZ r0 (Int.ofNat 97)) fun b0 =>
  ifB b0
  (boolN (ltZ (Int.ofNat 122) r0) fun b1 =>
  some (Value.bool b1))
  (some (Value.bool false))
noncomputable def T92 (h : Hp) (S : Nat → PAL → Option Value) : Nat → PAL → Option Value := tabPC 0 (wI fun r0 => wN (P92x0 h S r0)) (tabPN)
noncomputable def F92 (args : List Value) (h : Hp) : Option Value := plainO (packArgs [Kd.i .u8] args fun al => G.rec' (T92 h) 1000000 0 al)
def nt92 : Nat := 1 + (9 - 1)
theorem q92x0 (h : Hp) (S : Nat → PAL → Option Value) (r0 : Int) : P92x0 h S r0 = G.stepAt packP unpackP evXV (regP env pf2 nt92 h) (finP env Try.f92.results.toList) (G.collect B92 A92 []) 0 S (PAL.i r0 PAL.n) := by kernel_rfl
theorem t92 (h : Hp) (S : Nat → PAL → Option Value) : TabP (fun l al => G.stepAt packP unpackP evXV (regP env pf2 nt92 h) (finP env Try.f92.results.toList) (G.collect B92 A92 []) l S al) (T92 h S) := by
  unfold T92
  refine TabP.cons 0 (fun vs0 q e0 => ?_) ?_
  · obtain ⟨r0, vs1, rfl, e1⟩ := wI_some e0
    obtain ⟨rfl, ee⟩ := wN_some e1
    exact (q92x0 h S r0).symm.trans ee
  exact TabP.nil
theorem r92 : PSound Try.prog 92 F92 := fun_soundP (C := C0) ok0 (pf := pf2) pfok2 (fn := Try.f92) (body := B92) (kinds := [Kd.i .u8]) (A := A92) (T := T92) (by kernel_rfl) (by kernel_rfl) (by kernel_rfl) (by kernel_rfl) (fun h S => t92 h S)
noncomputable def pf3 : PF := pfC 92 F92 pf2
theorem pfok3 : PfSound Try.prog pf3 := pfC_ok r92 pfok2
noncomputable def orc6 := orcP 92 F92 orc5
noncomputable def C6 : Cfg := cfg orc6
theorem ok6 : C6.Ok := orcP_ok (C := C5) ok5 r92
noncomputable def B93 : Code := (Try.f93.body).getD .skip
noncomputable def A93 : G.Ann (List KI) := (G.Ann.node (some (0, [KI.reg 0 (Kd.i .u8)])) al (an al al))
noncomputable def P93x0 (h : Hp) (S : Nat → PAL → Option Value) (r0 : Int) : Option Value :=
  boolN (ltZ r0 (Int.ofNat 48)) fun b0 =>
  ifB b0
  (boolN (ltZ (Int.ofNat 57) r0) fun b1 =>
  some (Value.bool b1))
  (some (Value.bool false))
noncomputable def T93 (h : Hp) (S : Nat → PAL → Option Value) : Nat → PAL → Option Value := tabPC 0 (wI fun r0 => wN (P93x0 h S r0)) (tabPN)
noncomputable def F93 (args : List Value) (h : Hp) : Option Value := plainO (packArgs [Kd.i .u8] args fun al => G.rec' (T93 h) 1000000 0 al)
def nt93 : Nat := 1 + (9 - 1)
theorem q93x0 (h : Hp) (S : Nat → PAL → Option Value) (r0 : Int) : P93x0 h S r0 = G.stepAt packP unpackP evXV (regP env pf3 nt93 h) (finP env Try.f93.results.toList) (G.collect B93 A93 []) 0 S (PAL.i r0 PAL.n) := by kernel_rfl
theorem t93 (h : Hp) (S : Nat → PAL → Option Value) : TabP (fun l al => G.stepAt packP unpackP evXV (regP env pf3 nt93 h) (finP env Try.f93.results.toList) (G.collect B93 A93 []) l S al) (T93 h S) := by
  unfold T93
  refine TabP.cons 0 (fun vs0 q e0 => ?_) ?_
  · obtain ⟨r0, vs1, rfl, e1⟩ := wI_some e0
    obtain ⟨rfl, ee⟩ := wN_some e1
    exact (q93x0 h S r0).symm.trans ee
  exact TabP.nil
theorem r93 : PSound Try.prog 93 F93 := fun_soundP (C := C0) ok0 (pf := pf3) pfok3 (fn := Try.f93) (body := B93) (kinds := [Kd.i .u8]) (A := A93) (T := T93) (by kernel_rfl) (by kernel_rfl) (by kernel_rfl) (by kernel_rfl) (fun h S => t93 h S)
noncomputable def pf4 : PF := pfC 93 F93 pf3
theorem pfok4 : PfSound Try.prog pf4 := pfC_ok r93 pfok3
noncomputable def orc7 := orcP 93 F93 orc6
noncomputable def C7 : Cfg := cfg orc7
theorem ok7 : C7.Ok := orcP_ok (C := C6) ok6 r93
noncomputable def B88 : Code := (Try.f88.body).getD .skip
def A88 : Ann := (Ann.node (some (0, [(0, Kd.v)])) bl (bn (bn bl (bn (bn bl bl) bl)) (bn (bn bl (bn (Ann.node (some (1, [(0, Kd.v), (16, Kd.i .i64), (17, Kd.i .i64)])) (bn bl (bn (bn bl bl) (bn (bn (bn bl (bn bl (bn (bn bl bl) bl))) bl) bl))) bl) bl)) (Ann.node (some (2, [])) bl bl))))
noncomputable def P88x2 (S : Sg) (h : Hp) : CRes :=
  some ((Value.bool true), h)
noncomputable def P88x1 (S : Sg) (r0 : Value) (r16 : Int) (r17 : Int) (h : Hp) : CRes :=
  boolZ (ltZ r17 r16) fun b0 =>
  ifB b0
  (optK (indexV env 9 r0 (Value.int .i64 r17)) fun v1 =>
  intK .u8 v1 fun i2 =>
  pairK (optK (F92 [(Value.int .u8 i2)] h) fun v => some (v, h)) fun v3 h3 =>
  boolK v3 fun b4 =>
  boolN b4 fun b5 =>
  ifB b5
  (optK (indexV env 9 r0 (Value.int .i64 r17)) fun v6 =>
  intK .u8 v6 fun i7 =>
  pairK (optK (F93 [(Value.int .u8 i7)] h3) fun v => some (v, h3)) fun v8 h8 =>
  boolK v8 fun b9 =>
  boolN b9 fun b10 =>
  ifB b10
  (optK (indexV env 9 r0 (Value.int .i64 r17)) fun v11 =>
  intK .u8 v11 fun i12 =>
  boolN (eqZ i12 (Int.ofNat 46)) fun b13 =>
  ifB b13
  (some ((Value.bool false), h8))
  (wrap64 (Int.add r17 (Int.ofNat 1)) fun i14 =>
  S 1 (AL.v r0 (AL.i r16 (AL.i i14 AL.n))) h8))
  (wrap64 (Int.add r17 (Int.ofNat 1)) fun i15 =>
  S 1 (AL.v r0 (AL.i r16 (AL.i i15 AL.n))) h8))
  (wrap64 (Int.add r17 (Int.ofNat 1)) fun i16 =>
  S 1 (AL.v r0 (AL.i r16 (AL.i i16 AL.n))) h3))
  (S 2 AL.n h)
noncomputable def P88x0 (S : Sg) (r0 : Value) (h : Hp) : CRes :=
  lenBK r0 fun i0 =>
  pairK (buildSliceV env h 28 1 (List.toArray [(0, (Value.int .i64 i0))])) fun v1 h1 =>
  pairK (optK (F20 [(Value.int .i64 (Int.ofNat 1)), (Value.int .i64 (Int.ofNat 16)), v1] h1) fun v => some (v, h1)) fun v2 h2 =>
  boolK v2 fun b3 =>
  boolN b3 fun b4 =>
  ifB b4
  (some ((Value.bool false), h2))
  (optK (indexV env 9 r0 (Value.int .i64 (Int.ofNat 0))) fun v5 =>
  intK .u8 v5 fun i6 =>
  pairK (optK (F92 [(Value.int .u8 i6)] h2) fun v => some (v, h2)) fun v7 h7 =>
  boolK v7 fun b8 =>
  boolN b8 fun b9 =>
  ifB b9
  (some ((Value.bool false), h7))
  (lenBK r0 fun i10 =>
  S 1 (AL.v r0 (AL.i i10 (AL.i (Int.ofNat 0) AL.n))) h7))
noncomputable def T88 (S : Sg) : Sg := tabC 0 (uV fun r0 => uN fun h => P88x0 S r0 h) (tabC 1 (uV fun r0 => uI fun r16 => uI fun r17 => uN fun h => P88x1 S r0 r16 r17 h) (tabC 2 (uN fun h => P88x2 S  h) (tabN)))
noncomputable def F88 (args : List Value) (h : Hp) : CRes := packVals [Kd.v] args fun al => rec' T88 1000000 0 al h
def nt88 : Nat := 1 + (39 - 1)
theorem q88x2 (S : Sg) (h : Hp) : P88x2 S  h = stepAt (regK env orc7 (nt88)) (finK env Try.f88.results.toList) (collect B88 A88 []) 2 S AL.n h := by kernel_rfl
theorem q88x1 (S : Sg) (r0 : Value) (r16 : Int) (r17 : Int) (h : Hp) : P88x1 S r0 r16 r17 h = stepAt (regK env orc7 (nt88)) (finK env Try.f88.results.toList) (collect B88 A88 []) 1 S (AL.v r0 (AL.i r16 (AL.i r17 AL.n))) h := by kernel_rfl
theorem q88x0 (S : Sg) (r0 : Value) (h : Hp) : P88x0 S r0 h = stepAt (regK env orc7 (nt88)) (finK env Try.f88.results.toList) (collect B88 A88 []) 0 S (AL.v r0 AL.n) h := by kernel_rfl
theorem t88 (S : Sg) : Tab (fun l vs h => stepAt (regK env orc7 nt88) (finK env Try.f88.results.toList) (collect B88 A88 []) l S vs h) (T88 S) := by
  unfold T88
  refine Tab.cons 0 (fun vs0 h q e0 => ?_) ?_
  · obtain ⟨r0, vs1, rfl, e1⟩ := uV_some e0
    obtain ⟨rfl, ee⟩ := uN_some e1
    exact (q88x0 S r0 h).symm.trans ee
  refine Tab.cons 1 (fun vs0 h q e0 => ?_) ?_
  · obtain ⟨r0, vs1, rfl, e1⟩ := uV_some e0
    obtain ⟨r16, vs2, rfl, e2⟩ := uI_some e1
    obtain ⟨r17, vs3, rfl, e3⟩ := uI_some e2
    obtain ⟨rfl, ee⟩ := uN_some e3
    exact (q88x1 S r0 r16 r17 h).symm.trans ee
  refine Tab.cons 2 (fun vs0 h q e0 => ?_) ?_
  · 
    obtain ⟨rfl, ee⟩ := uN_some e0
    exact (q88x2 S  h).symm.trans ee
  exact Tab.nil
theorem r88 : ∀ args h v h', F88 args h = some (v, h') → Runs (C7) (.call 88 args.toArray h) (.ret v h') := by
  intro args h v h' e
  exact fun_sound (C := C7) (fn := Try.f88) (body := B88) (np := 1) (A := A88) (T := T88) (kinds := [Kd.v]) (by kernel_rfl) (by kernel_rfl) (by kernel_rfl) (by kernel_rfl) (regK_ok env_ok) (by kernel_rfl) (fun S => t88 S) e
noncomputable def orc8 := orcQ 88 F88 orc7
noncomputable def C8 : Cfg := cfg orc8
theorem ok8 : C8.Ok := orcQ_ok (C := C7) ok7 r88
noncomputable def B94 : Code := (Try.f94.body).getD .skip
def A94 : Ann := (Ann.node (some (0, [(0, Kd.v), (1, Kd.v)])) bl (bn (bn bl (bn (Ann.node (some (1, [(0, Kd.v), (1, Kd.v), (7, Kd.i .i64), (8, Kd.i .i64)])) (bn bl (bn (bn bl bl) (bn (bn (bn bl (bn bl (bn (bn bl bl) bl))) bl) bl))) bl) bl)) (Ann.node (some (2, [])) bl bl)))
noncomputable def P94x2 (S : Sg) (h : Hp) : CRes :=
  some ((Value.int .i64 (Int.negSucc 0)), h)
noncomputable def P94x1 (S : Sg) (r0 : Value) (r1 : Value) (r7 : Int) (r8 : Int) (h : Hp) : CRes :=
  boolZ (ltZ r8 r7) fun b0 =>
  ifB b0
  (idxSK 4 r0 r8 fun v1 =>
  loadNK 4 h v1 fun v2 =>
  pairK (callF orc8 r1 [v2] h) fun v3 h3 =>
  boolK v3 fun b4 =>
  ifB b4
  (some ((Value.int .i64 r8), h3))
  (wrap64 (Int.add r8 (Int.ofNat 1)) fun i5 =>
  S 1 (AL.v r0 (AL.v r1 (AL.i r7 (AL.i i5 AL.n)))) h3))
  (S 2 AL.n h)
noncomputable def P94x0 (S : Sg) (r0 : Value) (r1 : Value) (h : Hp) : CRes :=
  lenSK r0 fun i0 =>
  S 1 (AL.v r0 (AL.v r1 (AL.i i0 (AL.i (Int.ofNat 0) AL.n)))) h
noncomputable def T94 (S : Sg) : Sg := tabC 0 (uV fun r0 => uV fun r1 => uN fun h => P94x0 S r0 r1 h) (tabC 1 (uV fun r0 => uV fun r1 => uI fun r7 => uI fun r8 => uN fun h => P94x1 S r0 r1 r7 r8 h) (tabC 2 (uN fun h => P94x2 S  h) (tabN)))
noncomputable def F94 (args : List Value) (h : Hp) : CRes := packVals [Kd.v, Kd.v] args fun al => rec' T94 1000000 0 al h
def nt94 : Nat := 2 + (19 - 2)
theorem q94x2 (S : Sg) (h : Hp) : P94x2 S  h = stepAt (regK env orc8 (nt94)) (finK env Try.f94.results.toList) (collect B94 A94 []) 2 S AL.n h := by kernel_rfl
theorem q94x1 (S : Sg) (r0 : Value) (r1 : Value) (r7 : Int) (r8 : Int) (h : Hp) : P94x1 S r0 r1 r7 r8 h = stepAt (regK env orc8 (nt94)) (finK env Try.f94.results.toList) (collect B94 A94 []) 1 S (AL.v r0 (AL.v r1 (AL.i r7 (AL.i r8 AL.n)))) h := by kernel_rfl
theorem q94x0 (S : Sg) (r0 : Value) (r1 : Value) (h : Hp) : P94x0 S r0 r1 h = stepAt (regK env orc8 (nt94)) (finK env Try.f94.results.toList) (collect B94 A94 []) 0 S (AL.v r0 (AL.v r1 AL.n)) h := by kernel_rfl
theorem t94 (S : Sg) : Tab (fun l vs h => stepAt (regK env orc8 nt94) (finK env Try.f94.results.toList) (collect B94 A94 []) l S vs h) (T94 S) := by
  unfold T94
  refine Tab.cons 0 (fun vs0 h q e0 => ?_) ?_
  · obtain ⟨r0, vs1, rfl, e1⟩ := uV_some e0
    obtain ⟨r1, vs2, rfl, e2⟩ := uV_some e1
    obtain ⟨rfl, ee⟩ := uN_some e2
    exact (q94x0 S r0 r1 h).symm.trans ee
  refine Tab.cons 1 (fun vs0 h q e0 => ?_) ?_
  · obtain ⟨r0, vs1, rfl, e1⟩ := uV_some e0
    obtain ⟨r1, vs2, rfl, e2⟩ := uV_some e1
    obtain ⟨r7, vs3, rfl, e3⟩ := uI_some e2
    obtain ⟨r8, vs4, rfl, e4⟩ := uI_some e3
    obtain ⟨rfl, ee⟩ := uN_some e4
    exact (q94x1 S r0 r1 r7 r8 h).symm.trans ee
  refine Tab.cons 2 (fun vs0 h q e0 => ?_) ?_
  · 
    obtain ⟨rfl, ee⟩ := uN_some e0
    exact (q94x2 S  h).symm.trans ee
  exact Tab.nil
theorem r94 : ∀ args h v h', F94 args h = some (v, h') → Runs (C8) (.call 94 args.toArray h) (.ret v h') := by
  intro args h v h' e
  exact fun_sound (C := C8) (fn := Try.f94) (body := B94) (np := 2) (A := A94) (T := T94) (kinds := [Kd.v, Kd.v]) (by kernel_rfl) (by kernel_rfl) (by kernel_rfl) (by kernel_rfl) (regK_ok env_ok) (by kernel_rfl) (fun S => t94 S) e
noncomputable def orc9 := orcQ 94 F94 orc8
noncomputable def C9 : Cfg := cfg orc9
theorem ok9 : C9.Ok := orcQ_ok (C := C8) ok8 r94
noncomputable def B89 : Code := (Try.f89.body).getD .skip
def A89 : Ann := (Ann.node (some (0, [(0, Kd.v), (1, Kd.v)])) bl (bn bl bl))
noncomputable def P89x0 (S : Sg) (r0 : Value) (r1 : Value) (h : Hp) : CRes :=
  pairK (callQ F94 [r0, r1] h) fun v0 h0 =>
  intK .i64 v0 fun i1 =>
  boolN (ltZ i1 (Int.ofNat 0)) fun b2 =>
  some ((Value.bool b2), h0)
noncomputable def T89 (S : Sg) : Sg := tabC 0 (uV fun r0 => uV fun r1 => uN fun h => P89x0 S r0 r1 h) (tabN)
noncomputable def F89 (args : List Value) (h : Hp) : CRes := packVals [Kd.v, Kd.v] args fun al => rec' T89 1000000 0 al h
def nt89 : Nat := 2 + (9 - 2)
theorem q89x0 (S : Sg) (r0 : Value) (r1 : Value) (h : Hp) : P89x0 S r0 r1 h = stepAt (regK env orc9 (nt89)) (finK env Try.f89.results.toList) (collect B89 A89 []) 0 S (AL.v r0 (AL.v r1 AL.n)) h := by kernel_rfl
theorem t89 (S : Sg) : Tab (fun l vs h => stepAt (regK env orc9 nt89) (finK env Try.f89.results.toList) (collect B89 A89 []) l S vs h) (T89 S) := by
  unfold T89
  refine Tab.cons 0 (fun vs0 h q e0 => ?_) ?_
  · obtain ⟨r0, vs1, rfl, e1⟩ := uV_some e0
    obtain ⟨r1, vs2, rfl, e2⟩ := uV_some e1
    obtain ⟨rfl, ee⟩ := uN_some e2
    exact (q89x0 S r0 r1 h).symm.trans ee
  exact Tab.nil
theorem r89 : ∀ args h v h', F89 args h = some (v, h') → Runs (C9) (.call 89 args.toArray h) (.ret v h') := by
  intro args h v h' e
  exact fun_sound (C := C9) (fn := Try.f89) (body := B89) (np := 2) (A := A89) (T := T89) (kinds := [Kd.v, Kd.v]) (by kernel_rfl) (by kernel_rfl) (by kernel_rfl) (by kernel_rfl) (regK_ok env_ok) (by kernel_rfl) (fun S => t89 S) e
noncomputable def orc10 := orcQ 89 F89 orc9
noncomputable def C10 : Cfg := cfg orc10
theorem ok10 : C10.Ok := orcQ_ok (C := C9) ok9 r89
noncomputable def B77 : Code := (Try.f77.body).getD .skip
def A77 : Ann := (Ann.node (some (0, [(0, Kd.v), (1, Kd.v), (2, Kd.v)])) bl (bn bl (bn (bn (bn bl (bn (bn bl bl) (bn bl (bn (bn bl bl) bl)))) bl) (bn bl bl))))
noncomputable def P77x0 (S : Sg) (r0 : Value) (r1 : Value) (r2 : Value) (h : Hp) : CRes :=
  allocK h 109 (Array.toList (Value.cells r0)) fun a0 h0 =>
  allocK h0 46 (Array.toList (Value.cells r2)) fun a1 h1 =>
  load1K h1 a0 fun v2 =>
  loadNK 4 h1 a1 fun v3 =>
  pairK (callF orc10 v2 [v3] h1) fun v4 h4 =>
  pairK (callQ F88 [v4] h4) fun v5 h5 =>
  boolK v5 fun b6 =>
  boolN b6 fun b7 =>
  ifB b7
  (some ((Value.int .i64 (Int.ofNat 6)), h5))
  (pairK (callQ F89 [r1, (Value.func (.func 87) (List.toArray []) (List.toArray [a0, a1]))] h5) fun v8 h8 =>
  boolK v8 fun b9 =>
  ifB b9
  (some ((Value.int .i64 (Int.ofNat 5)), h8))
  (some ((Value.int .i64 (Int.ofNat 0)), h8)))
noncomputable def T77 (S : Sg) : Sg := tabC 0 (uV fun r0 => uV fun r1 => uV fun r2 => uN fun h => P77x0 S r0 r1 r2 h) (tabN)
noncomputable def F77 (args : List Value) (h : Hp) : CRes := packVals [Kd.v, Kd.v, Kd.v] args fun al => rec' T77 1000000 0 al h
def nt77 : Nat := 3 + (19 - 3)
theorem q77x0 (S : Sg) (r0 : Value) (r1 : Value) (r2 : Value) (h : Hp) : P77x0 S r0 r1 r2 h = stepAt (regK env orc10 (nt77)) (finK env Try.f77.results.toList) (collect B77 A77 []) 0 S (AL.v r0 (AL.v r1 (AL.v r2 AL.n))) h := by kernel_rfl
theorem t77 (S : Sg) : Tab (fun l vs h => stepAt (regK env orc10 nt77) (finK env Try.f77.results.toList) (collect B77 A77 []) l S vs h) (T77 S) := by
  unfold T77
  refine Tab.cons 0 (fun vs0 h q e0 => ?_) ?_
  · obtain ⟨r0, vs1, rfl, e1⟩ := uV_some e0
    obtain ⟨r1, vs2, rfl, e2⟩ := uV_some e1
    obtain ⟨r2, vs3, rfl, e3⟩ := uV_some e2
    obtain ⟨rfl, ee⟩ := uN_some e3
    exact (q77x0 S r0 r1 r2 h).symm.trans ee
  exact Tab.nil
theorem r77 : ∀ args h v h', F77 args h = some (v, h') → Runs (C10) (.call 77 args.toArray h) (.ret v h') := by
  intro args h v h' e
  exact fun_sound (C := C10) (fn := Try.f77) (body := B77) (np := 3) (A := A77) (T := T77) (kinds := [Kd.v, Kd.v, Kd.v]) (by kernel_rfl) (by kernel_rfl) (by kernel_rfl) (by kernel_rfl) (regK_ok env_ok) (by kernel_rfl) (fun S => t77 S) e
noncomputable def orc11 := orcQ 77 F77 orc10
noncomputable def C11 : Cfg := cfg orc11
theorem ok11 : C11.Ok := orcQ_ok (C := C10) ok10 r77
noncomputable def B60 : Code := (Try.f60.body).getD .skip
def A60 : Ann := (Ann.node (some (0, [(0, Kd.v), (1, Kd.v), (2, Kd.v)])) bl (bn (bn bl (bn bl (bn (bn bl bl) bl))) (bn bl bl)))
noncomputable def P60x0 (S : Sg) (r0 : Value) (r1 : Value) (r2 : Value) (h : Hp) : CRes :=
  allocK h 112 (Array.toList (Value.cells r0)) fun a0 h0 =>
  allocK h0 46 (Array.toList (Value.cells r2)) fun a1 h1 =>
  ptrAddK 0 a0 fun v2 =>
  load1K h1 v2 fun v3 =>
  loadNK 4 h1 a1 fun v4 =>
  pairK (callQ F77 [v3, r1, v4] h1) fun v5 h5 =>
  intK .i64 v5 fun i6 =>
  boolN (eqZ i6 (Int.ofNat 0)) fun b7 =>
  ifB b7
  (some ((Value.int .i64 i6), h5))
  (ptrAddK 1 a0 fun v8 =>
  load1K h5 v8 fun v9 =>
  loadNK 4 h5 a1 fun v10 =>
  pairK (callF orc11 v9 [v10] h5) fun v11 h11 =>
  intK .i64 v11 fun i12 =>
  some ((Value.int .i64 i12), h11))
noncomputable def T60 (S : Sg) : Sg := tabC 0 (uV fun r0 => uV fun r1 => uV fun r2 => uN fun h => P60x0 S r0 r1 r2 h) (tabN)
noncomputable def F60 (args : List Value) (h : Hp) : CRes := packVals [Kd.v, Kd.v, Kd.v] args fun al => rec' T60 1000000 0 al h
def nt60 : Nat := 3 + (20 - 3)
theorem q60x0 (S : Sg) (r0 : Value) (r1 : Value) (r2 : Value) (h : Hp) : P60x0 S r0 r1 r2 h = stepAt (regK env orc11 (nt60)) (finK env Try.f60.results.toList) (collect B60 A60 []) 0 S (AL.v r0 (AL.v r1 (AL.v r2 AL.n))) h := by kernel_rfl
theorem t60 (S : Sg) : Tab (fun l vs h => stepAt (regK env orc11 nt60) (finK env Try.f60.results.toList) (collect B60 A60 []) l S vs h) (T60 S) := by
  unfold T60
  refine Tab.cons 0 (fun vs0 h q e0 => ?_) ?_
  · obtain ⟨r0, vs1, rfl, e1⟩ := uV_some e0
    obtain ⟨r1, vs2, rfl, e2⟩ := uV_some e1
    obtain ⟨r2, vs3, rfl, e3⟩ := uV_some e2
    obtain ⟨rfl, ee⟩ := uN_some e3
    exact (q60x0 S r0 r1 r2 h).symm.trans ee
  exact Tab.nil
theorem r60 : ∀ args h v h', F60 args h = some (v, h') → Runs (C11) (.call 60 args.toArray h) (.ret v h') := by
  intro args h v h' e
  exact fun_sound (C := C11) (fn := Try.f60) (body := B60) (np := 3) (A := A60) (T := T60) (kinds := [Kd.v, Kd.v, Kd.v]) (by kernel_rfl) (by kernel_rfl) (by kernel_rfl) (by kernel_rfl) (regK_ok env_ok) (by kernel_rfl) (fun S => t60 S) e
noncomputable def orc12 := orcQ 60 F60 orc11
noncomputable def C12 : Cfg := cfg orc12
theorem ok12 : C12.Ok := orcQ_ok (C := C11) ok11 r60
noncomputable def B90 : Code := (Try.f90.body).getD .skip
def A90 : Ann := (Ann.node (some (0, [(0, Kd.v), (1, Kd.v), (2, Kd.v)])) bl (bn bl bl))
noncomputable def P90x0 (S : Sg) (r0 : Value) (r1 : Value) (r2 : Value) (h : Hp) : CRes :=
  allocK h 48 (Array.toList (Value.cells r0)) fun a0 h0 =>
  load1K (Hp.mk (Hp.next h0) (Hp.next h0) (Hp.objs h0)) r1 fun v1 =>
  leftK v1 (Hp.next h0) (Hp.mk (Hp.next h0) (Hp.next h0) (Hp.objs h0)) fun w2 n2 =>
  loadNK 4 (Hp.mk n2 n2 (Hp.objs h0)) a0 fun v3 =>
  leftK v3 n2 (Hp.mk n2 n2 (Hp.objs h0)) fun w4 n4 =>
  pairK (callF orc12 v1 [v3] (Hp.mk n4 n4 (addAll w4 (addAll w2 (Hp.objs h0))))) fun v5 h5 =>
  leftK v5 n4 h5 fun w6 n6 =>
  load1K (Hp.mk n6 n6 (Hp.objs h0)) r1 fun v7 =>
  leftK v7 n6 (Hp.mk n6 n6 (Hp.objs h0)) fun w8 n8 =>
  loadNK 4 (Hp.mk n8 n8 (Hp.objs h0)) r2 fun v9 =>
  leftK v9 n8 (Hp.mk n8 n8 (Hp.objs h0)) fun w10 n10 =>
  pairK (callF orc12 v7 [v9] (Hp.mk n10 (Hp.ro h0) (addAll w10 (addAll w8 (addAll w6 (addAll w4 (addAll w2 (Hp.objs h0)))))))) fun v11 h11 =>
  optK (binV env .eql 9 (Operand.tmp 7) (Operand.tmp 10) v5 v11) fun v12 =>
  boolK v12 fun b13 =>
  some ((Value.bool b13), h11)
noncomputable def T90 (S : Sg) : Sg := tabC 0 (uV fun r0 => uV fun r1 => uV fun r2 => uN fun h => P90x0 S r0 r1 r2 h) (tabN)
noncomputable def F90 (args : List Value) (h : Hp) : CRes := packVals [Kd.v, Kd.v, Kd.v] args fun al => rec' T90 1000000 0 al h
def nt90 : Nat := 3 + (12 - 3)
theorem q90x0 (S : Sg) (r0 : Value) (r1 : Value) (r2 : Value) (h : Hp) : P90x0 S r0 r1 r2 h = stepAt (regK env orc12 (nt90)) (finK env Try.f90.results.toList) (collect B90 A90 []) 0 S (AL.v r0 (AL.v r1 (AL.v r2 AL.n))) h := by kernel_rfl
theorem t90 (S : Sg) : Tab (fun l vs h => stepAt (regK env orc12 nt90) (finK env Try.f90.results.toList) (collect B90 A90 []) l S vs h) (T90 S) := by
  unfold T90
  refine Tab.cons 0 (fun vs0 h q e0 => ?_) ?_
  · obtain ⟨r0, vs1, rfl, e1⟩ := uV_some e0
    obtain ⟨r1, vs2, rfl, e2⟩ := uV_some e1
    obtain ⟨r2, vs3, rfl, e3⟩ := uV_some e2
    obtain ⟨rfl, ee⟩ := uN_some e3
    exact (q90x0 S r0 r1 r2 h).symm.trans ee
  exact Tab.nil
theorem r90 : ∀ args h v h', F90 args h = some (v, h') → Runs (C12) (.call 90 args.toArray h) (.ret v h') := by
  intro args h v h' e
  exact fun_sound (C := C12) (fn := Try.f90) (body := B90) (np := 3) (A := A90) (T := T90) (kinds := [Kd.v, Kd.v, Kd.v]) (by kernel_rfl) (by kernel_rfl) (by kernel_rfl) (by kernel_rfl) (regK_ok env_ok) (by kernel_rfl) (fun S => t90 S) e
noncomputable def orc13 := orcQ 90 F90 orc12
noncomputable def C13 : Cfg := cfg orc13
theorem ok13 : C13.Ok := orcQ_ok (C := C12) ok12 r90
noncomputable def B95 : Code := (Try.f95.body).getD .skip
def A95 : Ann := (Ann.node (some (0, [(0, Kd.v), (1, Kd.v)])) bl (bn (bn bl (bn (Ann.node (some (1, [(0, Kd.v), (1, Kd.v), (7, Kd.i .i64), (8, Kd.i .i64)])) (bn bl (bn (bn bl bl) (bn (bn (bn bl (bn bl (bn (bn bl bl) bl))) bl) bl))) bl) bl)) (Ann.node (some (2, [])) bl bl)))
noncomputable def P95x2 (S : Sg) (h : Hp) : CRes :=
  some ((Value.int .i64 (Int.negSucc 0)), h)
noncomputable def P95x1 (S : Sg) (r0 : Value) (r1 : Value) (r7 : Int) (r8 : Int) (h : Hp) : CRes :=
  boolZ (ltZ r8 r7) fun b0 =>
  ifB b0
  (idxSK 4 r0 r8 fun v1 =>
  loadNK 4 h v1 fun v2 =>
  pairK (callF orc13 r1 [v2] h) fun v3 h3 =>
  boolK v3 fun b4 =>
  ifB b4
  (some ((Value.int .i64 r8), h3))
  (wrap64 (Int.add r8 (Int.ofNat 1)) fun i5 =>
  S 1 (AL.v r0 (AL.v r1 (AL.i r7 (AL.i i5 AL.n)))) h3))
  (S 2 AL.n h)
noncomputable def P95x0 (S : Sg) (r0 : Value) (r1 : Value) (h : Hp) : CRes :=
  lenSK r0 fun i0 =>
  S 1 (AL.v r0 (AL.v r1 (AL.i i0 (AL.i (Int.ofNat 0) AL.n)))) h
noncomputable def T95 (S : Sg) : Sg := tabC 0 (uV fun r0 => uV fun r1 => uN fun h => P95x0 S r0 r1 h) (tabC 1 (uV fun r0 => uV fun r1 => uI fun r7 => uI fun r8 => uN fun h => P95x1 S r0 r1 r7 r8 h) (tabC 2 (uN fun h => P95x2 S  h) (tabN)))
noncomputable def F95 (args : List Value) (h : Hp) : CRes := packVals [Kd.v, Kd.v] args fun al => rec' T95 1000000 0 al h
def nt95 : Nat := 2 + (19 - 2)
theorem q95x2 (S : Sg) (h : Hp) : P95x2 S  h = stepAt (regK env orc13 (nt95)) (finK env Try.f95.results.toList) (collect B95 A95 []) 2 S AL.n h := by kernel_rfl
theorem q95x1 (S : Sg) (r0 : Value) (r1 : Value) (r7 : Int) (r8 : Int) (h : Hp) : P95x1 S r0 r1 r7 r8 h = stepAt (regK env orc13 (nt95)) (finK env Try.f95.results.toList) (collect B95 A95 []) 1 S (AL.v r0 (AL.v r1 (AL.i r7 (AL.i r8 AL.n)))) h := by kernel_rfl
theorem q95x0 (S : Sg) (r0 : Value) (r1 : Value) (h : Hp) : P95x0 S r0 r1 h = stepAt (regK env orc13 (nt95)) (finK env Try.f95.results.toList) (collect B95 A95 []) 0 S (AL.v r0 (AL.v r1 AL.n)) h := by kernel_rfl
theorem t95 (S : Sg) : Tab (fun l vs h => stepAt (regK env orc13 nt95) (finK env Try.f95.results.toList) (collect B95 A95 []) l S vs h) (T95 S) := by
  unfold T95
  refine Tab.cons 0 (fun vs0 h q e0 => ?_) ?_
  · obtain ⟨r0, vs1, rfl, e1⟩ := uV_some e0
    obtain ⟨r1, vs2, rfl, e2⟩ := uV_some e1
    obtain ⟨rfl, ee⟩ := uN_some e2
    exact (q95x0 S r0 r1 h).symm.trans ee
  refine Tab.cons 1 (fun vs0 h q e0 => ?_) ?_
  · obtain ⟨r0, vs1, rfl, e1⟩ := uV_some e0
    obtain ⟨r1, vs2, rfl, e2⟩ := uV_some e1
    obtain ⟨r7, vs3, rfl, e3⟩ := uI_some e2
    obtain ⟨r8, vs4, rfl, e4⟩ := uI_some e3
    obtain ⟨rfl, ee⟩ := uN_some e4
    exact (q95x1 S r0 r1 r7 r8 h).symm.trans ee
  refine Tab.cons 2 (fun vs0 h q e0 => ?_) ?_
  · 
    obtain ⟨rfl, ee⟩ := uN_some e0
    exact (q95x2 S  h).symm.trans ee
  exact Tab.nil
theorem r95 : ∀ args h v h', F95 args h = some (v, h') → Runs (C13) (.call 95 args.toArray h) (.ret v h') := by
  intro args h v h' e
  exact fun_sound (C := C13) (fn := Try.f95) (body := B95) (np := 2) (A := A95) (T := T95) (kinds := [Kd.v, Kd.v]) (by kernel_rfl) (by kernel_rfl) (by kernel_rfl) (by kernel_rfl) (regK_ok env_ok) (by kernel_rfl) (fun S => t95 S) e
noncomputable def orc14 := orcQ 95 F95 orc13
noncomputable def C14 : Cfg := cfg orc14
theorem ok14 : C14.Ok := orcQ_ok (C := C13) ok13 r95
noncomputable def B91 : Code := (Try.f91.body).getD .skip
def A91 : Ann := (Ann.node (some (0, [(0, Kd.v), (1, Kd.v)])) bl (bn bl bl))
noncomputable def P91x0 (S : Sg) (r0 : Value) (r1 : Value) (h : Hp) : CRes :=
  pairK (callQ F95 [r0, r1] h) fun v0 h0 =>
  intK .i64 v0 fun i1 =>
  boolN (ltZ i1 (Int.ofNat 0)) fun b2 =>
  some ((Value.bool b2), h0)
noncomputable def T91 (S : Sg) : Sg := tabC 0 (uV fun r0 => uV fun r1 => uN fun h => P91x0 S r0 r1 h) (tabN)
noncomputable def F91 (args : List Value) (h : Hp) : CRes := packVals [Kd.v, Kd.v] args fun al => rec' T91 1000000 0 al h
def nt91 : Nat := 2 + (9 - 2)
theorem q91x0 (S : Sg) (r0 : Value) (r1 : Value) (h : Hp) : P91x0 S r0 r1 h = stepAt (regK env orc14 (nt91)) (finK env Try.f91.results.toList) (collect B91 A91 []) 0 S (AL.v r0 (AL.v r1 AL.n)) h := by kernel_rfl
theorem t91 (S : Sg) : Tab (fun l vs h => stepAt (regK env orc14 nt91) (finK env Try.f91.results.toList) (collect B91 A91 []) l S vs h) (T91 S) := by
  unfold T91
  refine Tab.cons 0 (fun vs0 h q e0 => ?_) ?_
  · obtain ⟨r0, vs1, rfl, e1⟩ := uV_some e0
    obtain ⟨r1, vs2, rfl, e2⟩ := uV_some e1
    obtain ⟨rfl, ee⟩ := uN_some e2
    exact (q91x0 S r0 r1 h).symm.trans ee
  exact Tab.nil
theorem r91 : ∀ args h v h', F91 args h = some (v, h') → Runs (C14) (.call 91 args.toArray h) (.ret v h') := by
  intro args h v h' e
  exact fun_sound (C := C14) (fn := Try.f91) (body := B91) (np := 2) (A := A91) (T := T91) (kinds := [Kd.v, Kd.v]) (by kernel_rfl) (by kernel_rfl) (by kernel_rfl) (by kernel_rfl) (regK_ok env_ok) (by kernel_rfl) (fun S => t91 S) e
noncomputable def orc15 := orcQ 91 F91 orc14
noncomputable def C15 : Cfg := cfg orc15
theorem ok15 : C15.Ok := orcQ_ok (C := C14) ok14 r91
noncomputable def B81 : Code := (Try.f81.body).getD .skip
def A81 : Ann := (Ann.node (some (0, [(0, Kd.v), (1, Kd.v), (2, Kd.v)])) bl (bn bl (bn (bn (bn bl (bn (bn bl bl) (bn bl (bn (bn bl bl) bl)))) bl) (bn bl bl))))
noncomputable def P81x0 (S : Sg) (r0 : Value) (r1 : Value) (r2 : Value) (h : Hp) : CRes :=
  allocK h 116 (Array.toList (Value.cells r0)) fun a0 h0 =>
  allocK h0 48 (Array.toList (Value.cells r2)) fun a1 h1 =>
  load1K h1 a0 fun v2 =>
  loadNK 4 h1 a1 fun v3 =>
  pairK (callF orc15 v2 [v3] h1) fun v4 h4 =>
  pairK (callQ F88 [v4] h4) fun v5 h5 =>
  boolK v5 fun b6 =>
  boolN b6 fun b7 =>
  ifB b7
  (some ((Value.int .i64 (Int.ofNat 6)), h5))
  (pairK (callQ F91 [r1, (Value.func (.func 90) (List.toArray []) (List.toArray [a0, a1]))] h5) fun v8 h8 =>
  boolK v8 fun b9 =>
  ifB b9
  (some ((Value.int .i64 (Int.ofNat 5)), h8))
  (some ((Value.int .i64 (Int.ofNat 0)), h8)))
noncomputable def T81 (S : Sg) : Sg := tabC 0 (uV fun r0 => uV fun r1 => uV fun r2 => uN fun h => P81x0 S r0 r1 r2 h) (tabN)
noncomputable def F81 (args : List Value) (h : Hp) : CRes := packVals [Kd.v, Kd.v, Kd.v] args fun al => rec' T81 1000000 0 al h
def nt81 : Nat := 3 + (19 - 3)
theorem q81x0 (S : Sg) (r0 : Value) (r1 : Value) (r2 : Value) (h : Hp) : P81x0 S r0 r1 r2 h = stepAt (regK env orc15 (nt81)) (finK env Try.f81.results.toList) (collect B81 A81 []) 0 S (AL.v r0 (AL.v r1 (AL.v r2 AL.n))) h := by kernel_rfl
theorem t81 (S : Sg) : Tab (fun l vs h => stepAt (regK env orc15 nt81) (finK env Try.f81.results.toList) (collect B81 A81 []) l S vs h) (T81 S) := by
  unfold T81
  refine Tab.cons 0 (fun vs0 h q e0 => ?_) ?_
  · obtain ⟨r0, vs1, rfl, e1⟩ := uV_some e0
    obtain ⟨r1, vs2, rfl, e2⟩ := uV_some e1
    obtain ⟨r2, vs3, rfl, e3⟩ := uV_some e2
    obtain ⟨rfl, ee⟩ := uN_some e3
    exact (q81x0 S r0 r1 r2 h).symm.trans ee
  exact Tab.nil
theorem r81 : ∀ args h v h', F81 args h = some (v, h') → Runs (C15) (.call 81 args.toArray h) (.ret v h') := by
  intro args h v h' e
  exact fun_sound (C := C15) (fn := Try.f81) (body := B81) (np := 3) (A := A81) (T := T81) (kinds := [Kd.v, Kd.v, Kd.v]) (by kernel_rfl) (by kernel_rfl) (by kernel_rfl) (by kernel_rfl) (regK_ok env_ok) (by kernel_rfl) (fun S => t81 S) e
noncomputable def orc16 := orcQ 81 F81 orc15
noncomputable def C16 : Cfg := cfg orc16
theorem ok16 : C16.Ok := orcQ_ok (C := C15) ok15 r81
noncomputable def B63 : Code := (Try.f63.body).getD .skip
def A63 : Ann := (Ann.node (some (0, [(0, Kd.v), (1, Kd.v), (2, Kd.v)])) bl (bn (bn bl (bn bl (bn (bn bl bl) bl))) (bn bl bl)))
noncomputable def P63x0 (S : Sg) (r0 : Value) (r1 : Value) (r2 : Value) (h : Hp) : CRes :=
  allocK h 119 (Array.toList (Value.cells r0)) fun a0 h0 =>
  allocK h0 48 (Array.toList (Value.cells r2)) fun a1 h1 =>
  ptrAddK 0 a0 fun v2 =>
  load1K h1 v2 fun v3 =>
  loadNK 4 h1 a1 fun v4 =>
  pairK (callQ F81 [v3, r1, v4] h1) fun v5 h5 =>
  intK .i64 v5 fun i6 =>
  boolN (eqZ i6 (Int.ofNat 0)) fun b7 =>
  ifB b7
  (some ((Value.int .i64 i6), h5))
  (ptrAddK 1 a0 fun v8 =>
  load1K h5 v8 fun v9 =>
  loadNK 4 h5 a1 fun v10 =>
  pairK (callF orc16 v9 [v10] h5) fun v11 h11 =>
  intK .i64 v11 fun i12 =>
  some ((Value.int .i64 i12), h11))
noncomputable def T63 (S : Sg) : Sg := tabC 0 (uV fun r0 => uV fun r1 => uV fun r2 => uN fun h => P63x0 S r0 r1 r2 h) (tabN)
noncomputable def F63 (args : List Value) (h : Hp) : CRes := packVals [Kd.v, Kd.v, Kd.v] args fun al => rec' T63 1000000 0 al h
def nt63 : Nat := 3 + (20 - 3)
theorem q63x0 (S : Sg) (r0 : Value) (r1 : Value) (r2 : Value) (h : Hp) : P63x0 S r0 r1 r2 h = stepAt (regK env orc16 (nt63)) (finK env Try.f63.results.toList) (collect B63 A63 []) 0 S (AL.v r0 (AL.v r1 (AL.v r2 AL.n))) h := by kernel_rfl
theorem t63 (S : Sg) : Tab (fun l vs h => stepAt (regK env orc16 nt63) (finK env Try.f63.results.toList) (collect B63 A63 []) l S vs h) (T63 S) := by
  unfold T63
  refine Tab.cons 0 (fun vs0 h q e0 => ?_) ?_
  · obtain ⟨r0, vs1, rfl, e1⟩ := uV_some e0
    obtain ⟨r1, vs2, rfl, e2⟩ := uV_some e1
    obtain ⟨r2, vs3, rfl, e3⟩ := uV_some e2
    obtain ⟨rfl, ee⟩ := uN_some e3
    exact (q63x0 S r0 r1 r2 h).symm.trans ee
  exact Tab.nil
theorem r63 : ∀ args h v h', F63 args h = some (v, h') → Runs (C16) (.call 63 args.toArray h) (.ret v h') := by
  intro args h v h' e
  exact fun_sound (C := C16) (fn := Try.f63) (body := B63) (np := 3) (A := A63) (T := T63) (kinds := [Kd.v, Kd.v, Kd.v]) (by kernel_rfl) (by kernel_rfl) (by kernel_rfl) (by kernel_rfl) (regK_ok env_ok) (by kernel_rfl) (fun S => t63 S) e
noncomputable def orc17 := orcQ 63 F63 orc16
noncomputable def C17 : Cfg := cfg orc17
theorem ok17 : C17.Ok := orcQ_ok (C := C16) ok16 r63
noncomputable def B15 : Code := (Try.f15.body).getD .skip
noncomputable def A15 : G.Ann (List KI) := (G.Ann.node (some (0, [KI.reg 0 (Kd.i .i64), KI.reg 1 (Kd.v)])) al (an al al))
noncomputable def P15x0 (h : Hp) (S : Nat → PAL → Option Value) (r0 : Int) (r1 : Value) : Option Value :=
  wrap64 (Int.sub r0 (Int.ofNat 1)) fun i0 =>
  optK (F20 [(Value.int .i64 (Int.ofNat 0)), (Value.int .i64 i0), r1] h) fun v1 =>
  boolK v1 fun b2 =>
  some (Value.bool b2)
noncomputable def T15 (h : Hp) (S : Nat → PAL → Option Value) : Nat → PAL → Option Value := tabPC 0 (wI fun r0 => wV fun r1 => wN (P15x0 h S r0 r1)) (tabPN)
noncomputable def F15 (args : List Value) (h : Hp) : Option Value := plainO (packArgs [Kd.i .i64, Kd.v] args fun al => G.rec' (T15 h) 1000000 0 al)
def nt15 : Nat := 2 + (9 - 2)
theorem q15x0 (h : Hp) (S : Nat → PAL → Option Value) (r0 : Int) (r1 : Value) : P15x0 h S r0 r1 = G.stepAt packP unpackP evXV (regP env pf4 nt15 h) (finP env Try.f15.results.toList) (G.collect B15 A15 []) 0 S (PAL.i r0 (PAL.v r1 PAL.n)) := by kernel_rfl
theorem t15 (h : Hp) (S : Nat → PAL → Option Value) : TabP (fun l al => G.stepAt packP unpackP evXV (regP env pf4 nt15 h) (finP env Try.f15.results.toList) (G.collect B15 A15 []) l S al) (T15 h S) := by
  unfold T15
  refine TabP.cons 0 (fun vs0 q e0 => ?_) ?_
  · obtain ⟨r0, vs1, rfl, e1⟩ := wI_some e0
    obtain ⟨r1, vs2, rfl, e2⟩ := wV_some e1
    obtain ⟨rfl, ee⟩ := wN_some e2
    exact (q15x0 h S r0 r1).symm.trans ee
  exact TabP.nil
theorem r15 : PSound Try.prog 15 F15 := fun_soundP (C := C0) ok0 (pf := pf4) pfok4 (fn := Try.f15) (body := B15) (kinds := [Kd.i .i64, Kd.v]) (A := A15) (T := T15) (by kernel_rfl) (by kernel_rfl) (by kernel_rfl) (by kernel_rfl) (fun h S => t15 h S)
noncomputable def pf5 : PF := pfC 15 F15 pf4
theorem pfok5 : PfSound Try.prog pf5 := pfC_ok r15 pfok4
noncomputable def orc18 := orcP 15 F15 orc17
noncomputable def C18 : Cfg := cfg orc18
theorem ok18 : C18.Ok := orcP_ok (C := C17) ok17 r15
noncomputable def B66 : Code := (Try.f66.body).getD .skip
def A66 : Ann := (Ann.node (some (0, [(0, Kd.i .i64), (1, Kd.v)])) bl (bn (bn (bn bl (bn (bn bl bl) (bn bl (bn (bn bl bl) bl)))) bl) (bn bl bl)))
noncomputable def P66x0 (S : Sg) (r0 : Int) (r1 : Value) (h : Hp) : CRes :=
  allocK h 50 (Array.toList (Value.cells r1)) fun a0 h0 =>
  ptrAddK 0 a0 fun v1 =>
  load1K h0 v1 fun v2 =>
  intK .i64 v2 fun i3 =>
  ptrAddK 1 a0 fun v4 =>
  load1K h0 v4 fun v5 =>
  intK .i64 v5 fun i6 =>
  pairK (buildSliceV env h0 28 2 (List.toArray [(0, (Value.int .i64 i3)), (1, (Value.int .i64 i6))])) fun v7 h7 =>
  pairK (optK (F15 [(Value.int .i64 r0), v7] h7) fun v => some (v, h7)) fun v8 h8 =>
  boolK v8 fun b9 =>
  boolN b9 fun b10 =>
  ifB b10
  (some ((Value.int .i64 (Int.ofNat 4)), h8))
  (ptrAddK 0 a0 fun v11 =>
  load1K h8 v11 fun v12 =>
  intK .i64 v12 fun i13 =>
  ptrAddK 1 a0 fun v14 =>
  load1K h8 v14 fun v15 =>
  intK .i64 v15 fun i16 =>
  boolN (ltZ i13 i16) fun b17 =>
  ifB b17
  (some ((Value.int .i64 (Int.ofNat 2)), h8))
  (some ((Value.int .i64 (Int.ofNat 0)), h8)))
noncomputable def T66 (S : Sg) : Sg := tabC 0 (uI fun r0 => uV fun r1 => uN fun h => P66x0 S r0 r1 h) (tabN)
noncomputable def F66 (args : List Value) (h : Hp) : CRes := packVals [Kd.i .i64, Kd.v] args fun al => rec' T66 1000000 0 al h
def nt66 : Nat := 2 + (20 - 2)
theorem q66x0 (S : Sg) (r0 : Int) (r1 : Value) (h : Hp) : P66x0 S r0 r1 h = stepAt (regK env orc18 (nt66)) (finK env Try.f66.results.toList) (collect B66 A66 []) 0 S (AL.i r0 (AL.v r1 AL.n)) h := by kernel_rfl
theorem t66 (S : Sg) : Tab (fun l vs h => stepAt (regK env orc18 nt66) (finK env Try.f66.results.toList) (collect B66 A66 []) l S vs h) (T66 S) := by
  unfold T66
  refine Tab.cons 0 (fun vs0 h q e0 => ?_) ?_
  · obtain ⟨r0, vs1, rfl, e1⟩ := uI_some e0
    obtain ⟨r1, vs2, rfl, e2⟩ := uV_some e1
    obtain ⟨rfl, ee⟩ := uN_some e2
    exact (q66x0 S r0 r1 h).symm.trans ee
  exact Tab.nil
theorem r66 : ∀ args h v h', F66 args h = some (v, h') → Runs (C18) (.call 66 args.toArray h) (.ret v h') := by
  intro args h v h' e
  exact fun_sound (C := C18) (fn := Try.f66) (body := B66) (np := 2) (A := A66) (T := T66) (kinds := [Kd.i .i64, Kd.v]) (by kernel_rfl) (by kernel_rfl) (by kernel_rfl) (by kernel_rfl) (regK_ok env_ok) (by kernel_rfl) (fun S => t66 S) e
noncomputable def orc19 := orcQ 66 F66 orc18
noncomputable def C19 : Cfg := cfg orc19
theorem ok19 : C19.Ok := orcQ_ok (C := C18) ok18 r66
noncomputable def B65 : Code := (Try.f65.body).getD .skip
def A65 : Ann := (Ann.node (some (0, [(0, Kd.v), (1, Kd.v), (2, Kd.v)])) bl (bn bl bl))
noncomputable def P65x0 (S : Sg) (r0 : Value) (r1 : Value) (r2 : Value) (h : Hp) : CRes :=
  allocK h 50 (Array.toList (Value.cells r1)) fun a0 h0 =>
  ptrAddK 3 r2 fun v1 =>
  load1K h0 v1 fun v2 =>
  lenSK v2 fun i3 =>
  loadNK 2 h0 a0 fun v4 =>
  pairK (callQ F66 [(Value.int .i64 i3), v4] h0) fun v5 h5 =>
  intK .i64 v5 fun i6 =>
  some ((Value.int .i64 i6), h5)
noncomputable def T65 (S : Sg) : Sg := tabC 0 (uV fun r0 => uV fun r1 => uV fun r2 => uN fun h => P65x0 S r0 r1 r2 h) (tabN)
noncomputable def F65 (args : List Value) (h : Hp) : CRes := packVals [Kd.v, Kd.v, Kd.v] args fun al => rec' T65 1000000 0 al h
def nt65 : Nat := 3 + (11 - 3)
theorem q65x0 (S : Sg) (r0 : Value) (r1 : Value) (r2 : Value) (h : Hp) : P65x0 S r0 r1 r2 h = stepAt (regK env orc19 (nt65)) (finK env Try.f65.results.toList) (collect B65 A65 []) 0 S (AL.v r0 (AL.v r1 (AL.v r2 AL.n))) h := by kernel_rfl
theorem t65 (S : Sg) : Tab (fun l vs h => stepAt (regK env orc19 nt65) (finK env Try.f65.results.toList) (collect B65 A65 []) l S vs h) (T65 S) := by
  unfold T65
  refine Tab.cons 0 (fun vs0 h q e0 => ?_) ?_
  · obtain ⟨r0, vs1, rfl, e1⟩ := uV_some e0
    obtain ⟨r1, vs2, rfl, e2⟩ := uV_some e1
    obtain ⟨r2, vs3, rfl, e3⟩ := uV_some e2
    obtain ⟨rfl, ee⟩ := uN_some e3
    exact (q65x0 S r0 r1 r2 h).symm.trans ee
  exact Tab.nil
theorem r65 : ∀ args h v h', F65 args h = some (v, h') → Runs (C19) (.call 65 args.toArray h) (.ret v h') := by
  intro args h v h' e
  exact fun_sound (C := C19) (fn := Try.f65) (body := B65) (np := 3) (A := A65) (T := T65) (kinds := [Kd.v, Kd.v, Kd.v]) (by kernel_rfl) (by kernel_rfl) (by kernel_rfl) (by kernel_rfl) (regK_ok env_ok) (by kernel_rfl) (fun S => t65 S) e
noncomputable def orc20 := orcQ 65 F65 orc19
noncomputable def C20 : Cfg := cfg orc20
theorem ok20 : C20.Ok := orcQ_ok (C := C19) ok19 r65
noncomputable def B86 : Code := (Try.f86.body).getD .skip
def A86 : Ann := (Ann.node (some (0, [(0, Kd.v), (1, Kd.v), (2, Kd.v), (3, Kd.v)])) bl (bn (bn (bn bl (bn (bn bl bl) (bn bl (bn (bn bl bl) bl)))) bl) (bn bl bl)))
noncomputable def P86x0 (S : Sg) (r0 : Value) (r1 : Value) (r2 : Value) (r3 : Value) (h : Hp) : CRes :=
  allocK h 42 (Array.toList (Value.cells r1)) fun a0 h0 =>
  load1K h0 r2 fun v1 =>
  intK .i64 v1 fun i2 =>
  load1K h0 r3 fun v3 =>
  intK .i64 v3 fun i4 =>
  ptrAddK 0 a0 fun v5 =>
  load1K h0 v5 fun v6 =>
  intK .i64 v6 fun i7 =>
  ptrAddK 1 a0 fun v8 =>
  load1K h0 v8 fun v9 =>
  intK .i64 v9 fun i10 =>
  pairK (buildSliceV env h0 28 2 (List.toArray [(0, (Value.int .i64 i7)), (1, (Value.int .i64 i10))])) fun v11 h11 =>
  pairK (optK (F20 [(Value.int .i64 i2), (Value.int .i64 i4), v11] h11) fun v => some (v, h11)) fun v12 h12 =>
  boolK v12 fun b13 =>
  boolN b13 fun b14 =>
  ifB b14
  (some ((Value.int .i64 (Int.ofNat 7)), h12))
  (ptrAddK 0 a0 fun v15 =>
  load1K h12 v15 fun v16 =>
  intK .i64 v16 fun i17 =>
  ptrAddK 1 a0 fun v18 =>
  load1K h12 v18 fun v19 =>
  intK .i64 v19 fun i20 =>
  boolZ (ltZ i20 i17) fun b21 =>
  ifB b21
  (some ((Value.int .i64 (Int.ofNat 2)), h12))
  (some ((Value.int .i64 (Int.ofNat 0)), h12)))
noncomputable def T86 (S : Sg) : Sg := tabC 0 (uV fun r0 => uV fun r1 => uV fun r2 => uV fun r3 => uN fun h => P86x0 S r0 r1 r2 r3 h) (tabN)
noncomputable def F86 (args : List Value) (h : Hp) : CRes := packVals [Kd.v, Kd.v, Kd.v, Kd.v] args fun al => rec' T86 1000000 0 al h
def nt86 : Nat := 4 + (23 - 4)
theorem q86x0 (S : Sg) (r0 : Value) (r1 : Value) (r2 : Value) (r3 : Value) (h : Hp) : P86x0 S r0 r1 r2 r3 h = stepAt (regK env orc20 (nt86)) (finK env Try.f86.results.toList) (collect B86 A86 []) 0 S (AL.v r0 (AL.v r1 (AL.v r2 (AL.v r3 AL.n)))) h := by kernel_rfl
theorem t86 (S : Sg) : Tab (fun l vs h => stepAt (regK env orc20 nt86) (finK env Try.f86.results.toList) (collect B86 A86 []) l S vs h) (T86 S) := by
  unfold T86
  refine Tab.cons 0 (fun vs0 h q e0 => ?_) ?_
  · obtain ⟨r0, vs1, rfl, e1⟩ := uV_some e0
    obtain ⟨r1, vs2, rfl, e2⟩ := uV_some e1
    obtain ⟨r2, vs3, rfl, e3⟩ := uV_some e2
    obtain ⟨r3, vs4, rfl, e4⟩ := uV_some e3
    obtain ⟨rfl, ee⟩ := uN_some e4
    exact (q86x0 S r0 r1 r2 r3 h).symm.trans ee
  exact Tab.nil
theorem r86 : ∀ args h v h', F86 args h = some (v, h') → Runs (C20) (.call 86 args.toArray h) (.ret v h') := by
  intro args h v h' e
  exact fun_sound (C := C20) (fn := Try.f86) (body := B86) (np := 4) (A := A86) (T := T86) (kinds := [Kd.v, Kd.v, Kd.v, Kd.v]) (by kernel_rfl) (by kernel_rfl) (by kernel_rfl) (by kernel_rfl) (regK_ok env_ok) (by kernel_rfl) (fun S => t86 S) e
noncomputable def orc21 := orcQ 86 F86 orc20
noncomputable def C21 : Cfg := cfg orc21
theorem ok21 : C21.Ok := orcQ_ok (C := C20) ok20 r86
noncomputable def B85 : Code := (Try.f85.body).getD .skip
def A85 : Ann := (Ann.node (some (0, [(0, Kd.v), (1, Kd.v)])) bl (bn (bn bl (bn (Ann.node (some (1, [(0, Kd.v), (1, Kd.v), (9, Kd.v), (10, Kd.i .i64), (11, Kd.i .i64)])) (bn bl (bn (bn bl bl) (bn (bn (bn bl (bn bl (bn bl (bn (bn bl bl) bl)))) bl) bl))) bl) bl)) (Ann.node (some (2, [])) bl bl)))
noncomputable def P85x2 (S : Sg) (h : Hp) : CRes :=
  some (Value.tuple (List.toArray [(Value.int .i64 (Int.ofNat 0)), (Value.int .i64 (Int.ofNat 0))]), h)
noncomputable def P85x1 (S : Sg) (r0 : Value) (r1 : Value) (r9 : Value) (r10 : Int) (r11 : Int) (h : Hp) : CRes :=
  boolZ (ltZ r11 r10) fun b0 =>
  ifB b0
  (idxSK 2 r9 r11 fun v1 =>
  loadNK 2 h v1 fun v2 =>
  allocK h 42 [(Value.int .i64 (Int.ofNat 0)), (Value.int .i64 (Int.ofNat 0))] fun a3 h3 =>
  storeNK 2 h3 a3 v2 fun h4 =>
  optK (sliceV env h4 33 r0 none (some (Value.int .i64 r11)) none) fun v5 =>
  loadNK 2 h4 a3 fun v6 =>
  pairK (callF orc21 r1 [v5, v6] h4) fun v7 h7 =>
  intK .i64 v7 fun i8 =>
  boolN (eqZ i8 (Int.ofNat 0)) fun b9 =>
  ifB b9
  (some (Value.tuple (List.toArray [(Value.int .i64 r11), (Value.int .i64 i8)]), h7))
  (wrap64 (Int.add r11 (Int.ofNat 1)) fun i10 =>
  S 1 (AL.v r0 (AL.v r1 (AL.v r9 (AL.i r10 (AL.i i10 AL.n))))) h7))
  (S 2 AL.n h)
noncomputable def P85x0 (S : Sg) (r0 : Value) (r1 : Value) (h : Hp) : CRes :=
  lenSK r0 fun i0 =>
  S 1 (AL.v r0 (AL.v r1 (AL.v r0 (AL.i i0 (AL.i (Int.ofNat 0) AL.n))))) h
noncomputable def T85 (S : Sg) : Sg := tabC 0 (uV fun r0 => uV fun r1 => uN fun h => P85x0 S r0 r1 h) (tabC 1 (uV fun r0 => uV fun r1 => uV fun r9 => uI fun r10 => uI fun r11 => uN fun h => P85x1 S r0 r1 r9 r10 r11 h) (tabC 2 (uN fun h => P85x2 S  h) (tabN)))
noncomputable def F85 (args : List Value) (h : Hp) : CRes := packVals [Kd.v, Kd.v] args fun al => rec' T85 1000000 0 al h
def nt85 : Nat := 2 + (27 - 2)
theorem q85x2 (S : Sg) (h : Hp) : P85x2 S  h = stepAt (regK env orc21 (nt85)) (finK env Try.f85.results.toList) (collect B85 A85 []) 2 S AL.n h := by kernel_rfl
theorem q85x1 (S : Sg) (r0 : Value) (r1 : Value) (r9 : Value) (r10 : Int) (r11 : Int) (h : Hp) : P85x1 S r0 r1 r9 r10 r11 h = stepAt (regK env orc21 (nt85)) (finK env Try.f85.results.toList) (collect B85 A85 []) 1 S (AL.v r0 (AL.v r1 (AL.v r9 (AL.i r10 (AL.i r11 AL.n))))) h := by kernel_rfl
theorem q85x0 (S : Sg) (r0 : Value) (r1 : Value) (h : Hp) : P85x0 S r0 r1 h = stepAt (regK env orc21 (nt85)) (finK env Try.f85.results.toList) (collect B85 A85 []) 0 S (AL.v r0 (AL.v r1 AL.n)) h := by kernel_rfl
theorem t85 (S : Sg) : Tab (fun l vs h => stepAt (regK env orc21 nt85) (finK env Try.f85.results.toList) (collect B85 A85 []) l S vs h) (T85 S) := by
  unfold T85
  refine Tab.cons 0 (fun vs0 h q e0 => ?_) ?_
  · obtain ⟨r0, vs1, rfl, e1⟩ := uV_some e0
    obtain ⟨r1, vs2, rfl, e2⟩ := uV_some e1
    obtain ⟨rfl, ee⟩ := uN_some e2
    exact (q85x0 S r0 r1 h).symm.trans ee
  refine Tab.cons 1 (fun vs0 h q e0 => ?_) ?_
  · obtain ⟨r0, vs1, rfl, e1⟩ := uV_some e0
    obtain ⟨r1, vs2, rfl, e2⟩ := uV_some e1
    obtain ⟨r9, vs3, rfl, e3⟩ := uV_some e2
    obtain ⟨r10, vs4, rfl, e4⟩ := uI_some e3
    obtain ⟨r11, vs5, rfl, e5⟩ := uI_some e4
    obtain ⟨rfl, ee⟩ := uN_some e5
    exact (q85x1 S r0 r1 r9 r10 r11 h).symm.trans ee
  refine Tab.cons 2 (fun vs0 h q e0 => ?_) ?_
  · 
    obtain ⟨rfl, ee⟩ := uN_some e0
    exact (q85x2 S  h).symm.trans ee
  exact Tab.nil
theorem r85 : ∀ args h v h', F85 args h = some (v, h') → Runs (C21) (.call 85 args.toArray h) (.ret v h') := by
  intro args h v h' e
  exact fun_sound (C := C21) (fn := Try.f85) (body := B85) (np := 2) (A := A85) (T := T85) (kinds := [Kd.v, Kd.v]) (by kernel_rfl) (by kernel_rfl) (by kernel_rfl) (by kernel_rfl) (regK_ok env_ok) (by kernel_rfl) (fun S => t85 S) e
noncomputable def orc22 := orcQ 85 F85 orc21
noncomputable def C22 : Cfg := cfg orc22
theorem ok22 : C22.Ok := orcQ_ok (C := C21) ok21 r85
noncomputable def B76 : Code := (Try.f76.body).getD .skip
def A76 : Ann := (Ann.node (some (0, [(0, Kd.i .i64), (1, Kd.i .i64), (2, Kd.v)])) bl (bn bl (bn bl bl)))
noncomputable def P76x0 (S : Sg) (r0 : Int) (r1 : Int) (r2 : Value) (h : Hp) : CRes :=
  allocK h 3 [(Value.int .i64 r0)] fun a0 h0 =>
  allocK h0 3 [(Value.int .i64 r1)] fun a1 h1 =>
  pairK (callQ F85 [r2, (Value.func (.func 86) (List.toArray []) (List.toArray [a0, a1]))] h1) fun v2 h2 =>
  extK v2 0 fun v3 =>
  intK .i64 v3 fun i4 =>
  extK v2 1 fun v5 =>
  intK .i64 v5 fun i6 =>
  some ((Value.int .i64 i6), h2)
noncomputable def T76 (S : Sg) : Sg := tabC 0 (uI fun r0 => uI fun r1 => uV fun r2 => uN fun h => P76x0 S r0 r1 r2 h) (tabN)
noncomputable def F76 (args : List Value) (h : Hp) : CRes := packVals [Kd.i .i64, Kd.i .i64, Kd.v] args fun al => rec' T76 1000000 0 al h
def nt76 : Nat := 3 + (16 - 3)
theorem q76x0 (S : Sg) (r0 : Int) (r1 : Int) (r2 : Value) (h : Hp) : P76x0 S r0 r1 r2 h = stepAt (regK env orc22 (nt76)) (finK env Try.f76.results.toList) (collect B76 A76 []) 0 S (AL.i r0 (AL.i r1 (AL.v r2 AL.n))) h := by kernel_rfl
theorem t76 (S : Sg) : Tab (fun l vs h => stepAt (regK env orc22 nt76) (finK env Try.f76.results.toList) (collect B76 A76 []) l S vs h) (T76 S) := by
  unfold T76
  refine Tab.cons 0 (fun vs0 h q e0 => ?_) ?_
  · obtain ⟨r0, vs1, rfl, e1⟩ := uI_some e0
    obtain ⟨r1, vs2, rfl, e2⟩ := uI_some e1
    obtain ⟨r2, vs3, rfl, e3⟩ := uV_some e2
    obtain ⟨rfl, ee⟩ := uN_some e3
    exact (q76x0 S r0 r1 r2 h).symm.trans ee
  exact Tab.nil
theorem r76 : ∀ args h v h', F76 args h = some (v, h') → Runs (C22) (.call 76 args.toArray h) (.ret v h') := by
  intro args h v h' e
  exact fun_sound (C := C22) (fn := Try.f76) (body := B76) (np := 3) (A := A76) (T := T76) (kinds := [Kd.i .i64, Kd.i .i64, Kd.v]) (by kernel_rfl) (by kernel_rfl) (by kernel_rfl) (by kernel_rfl) (regK_ok env_ok) (by kernel_rfl) (fun S => t76 S) e
noncomputable def orc23 := orcQ 76 F76 orc22
noncomputable def C23 : Cfg := cfg orc23
theorem ok23 : C23.Ok := orcQ_ok (C := C22) ok22 r76
noncomputable def B75 : Code := (Try.f75.body).getD .skip
def A75 : Ann := (Ann.node (some (0, [(0, Kd.v), (1, Kd.v)])) bl (bn (bn (bn (bn bl (bn bl bl)) (Ann.node (some (1, [(1, Kd.v), (2, Kd.v), (4, Kd.b)])) (bn bl bl) (bn bl (bn (bn bl bl) bl)))) bl) (Ann.node (some (2, [(2, Kd.v)])) bl bl)))
noncomputable def P75x2 (S : Sg) (r2 : Value) (h : Hp) : CRes :=
  ptrAddK 3 r2 fun v0 =>
  load1K h v0 fun v1 =>
  pairK (callQ F76 [(Value.int .i64 (Int.ofNat 0)), (Value.int .i64 (Int.ofNat 600)), v1] h) fun v2 h2 =>
  intK .i64 v2 fun i3 =>
  some ((Value.int .i64 i3), h2)
noncomputable def P75x1 (S : Sg) (r1 : Value) (r2 : Value) (r4 : Bool) (h : Hp) : CRes :=
  ifB r4
  (some ((Value.int .i64 (Int.ofNat 7)), h))
  (ptrAddK 3 r2 fun v0 =>
  load1K h v0 fun v1 =>
  lenSK v1 fun i2 =>
  load1K h r1 fun v3 =>
  intK .i64 v3 fun i4 =>
  boolN (eqZ i2 i4) fun b5 =>
  ifB b5
  (some ((Value.int .i64 (Int.ofNat 3)), h))
  (S 2 (AL.v r2 AL.n) h))
noncomputable def P75x0 (S : Sg) (r0 : Value) (r1 : Value) (h : Hp) : CRes :=
  allocK h 46 (Array.toList (Value.cells r0)) fun a0 h0 =>
  ptrAddK 1 a0 fun v1 =>
  load1K h0 v1 fun v2 =>
  intK .i64 v2 fun i3 =>
  pairK (buildSliceV env h0 28 1 (List.toArray [(0, (Value.int .i64 i3))])) fun v4 h4 =>
  pairK (optK (F20 [(Value.int .i64 (Int.ofNat 0)), (Value.int .i64 (Int.ofNat 20)), v4] h4) fun v => some (v, h4)) fun v5 h5 =>
  boolK v5 fun b6 =>
  boolN b6 fun b7 =>
  ifB b7
  (S 1 (AL.v r1 (AL.v a0 (AL.b b7 AL.n))) h5)
  (ptrAddK 2 a0 fun v8 =>
  load1K h5 v8 fun v9 =>
  intK .i64 v9 fun i10 =>
  pairK (buildSliceV env h5 28 1 (List.toArray [(0, (Value.int .i64 i10))])) fun v11 h11 =>
  pairK (optK (F20 [(Value.int .i64 (Int.ofNat 0)), (Value.int .i64 (Int.ofNat 5000)), v11] h11) fun v => some (v, h11)) fun v12 h12 =>
  boolK v12 fun b13 =>
  boolN b13 fun b14 =>
  S 1 (AL.v r1 (AL.v a0 (AL.b b14 AL.n))) h12)
noncomputable def T75 (S : Sg) : Sg := tabC 0 (uV fun r0 => uV fun r1 => uN fun h => P75x0 S r0 r1 h) (tabC 1 (uV fun r1 => uV fun r2 => uB fun r4 => uN fun h => P75x1 S r1 r2 r4 h) (tabC 2 (uV fun r2 => uN fun h => P75x2 S r2 h) (tabN)))
noncomputable def F75 (args : List Value) (h : Hp) : CRes := packVals [Kd.v, Kd.v] args fun al => rec' T75 1000000 0 al h
def nt75 : Nat := 2 + (24 - 2)
theorem q75x2 (S : Sg) (r2 : Value) (h : Hp) : P75x2 S r2 h = stepAt (regK env orc23 (nt75)) (finK env Try.f75.results.toList) (collect B75 A75 []) 2 S (AL.v r2 AL.n) h := by kernel_rfl
theorem q75x1 (S : Sg) (r1 : Value) (r2 : Value) (r4 : Bool) (h : Hp) : P75x1 S r1 r2 r4 h = stepAt (regK env orc23 (nt75)) (finK env Try.f75.results.toList) (collect B75 A75 []) 1 S (AL.v r1 (AL.v r2 (AL.b r4 AL.n))) h := by kernel_rfl
theorem q75x0 (S : Sg) (r0 : Value) (r1 : Value) (h : Hp) : P75x0 S r0 r1 h = stepAt (regK env orc23 (nt75)) (finK env Try.f75.results.toList) (collect B75 A75 []) 0 S (AL.v r0 (AL.v r1 AL.n)) h := by kernel_rfl
theorem t75 (S : Sg) : Tab (fun l vs h => stepAt (regK env orc23 nt75) (finK env Try.f75.results.toList) (collect B75 A75 []) l S vs h) (T75 S) := by
  unfold T75
  refine Tab.cons 0 (fun vs0 h q e0 => ?_) ?_
  · obtain ⟨r0, vs1, rfl, e1⟩ := uV_some e0
    obtain ⟨r1, vs2, rfl, e2⟩ := uV_some e1
    obtain ⟨rfl, ee⟩ := uN_some e2
    exact (q75x0 S r0 r1 h).symm.trans ee
  refine Tab.cons 1 (fun vs0 h q e0 => ?_) ?_
  · obtain ⟨r1, vs1, rfl, e1⟩ := uV_some e0
    obtain ⟨r2, vs2, rfl, e2⟩ := uV_some e1
    obtain ⟨r4, vs3, rfl, e3⟩ := uB_some e2
    obtain ⟨rfl, ee⟩ := uN_some e3
    exact (q75x1 S r1 r2 r4 h).symm.trans ee
  refine Tab.cons 2 (fun vs0 h q e0 => ?_) ?_
  · obtain ⟨r2, vs1, rfl, e1⟩ := uV_some e0
    obtain ⟨rfl, ee⟩ := uN_some e1
    exact (q75x2 S r2 h).symm.trans ee
  exact Tab.nil
theorem r75 : ∀ args h v h', F75 args h = some (v, h') → Runs (C23) (.call 75 args.toArray h) (.ret v h') := by
  intro args h v h' e
  exact fun_sound (C := C23) (fn := Try.f75) (body := B75) (np := 2) (A := A75) (T := T75) (kinds := [Kd.v, Kd.v]) (by kernel_rfl) (by kernel_rfl) (by kernel_rfl) (by kernel_rfl) (regK_ok env_ok) (by kernel_rfl) (fun S => t75 S) e
noncomputable def orc24 := orcQ 75 F75 orc23
noncomputable def C24 : Cfg := cfg orc24
theorem ok24 : C24.Ok := orcQ_ok (C := C23) ok23 r75
noncomputable def B74 : Code := (Try.f74.body).getD .skip
noncomputable def A74 : G.Ann (List KI) := (G.Ann.node (some (0, [KI.reg 0 (Kd.v)])) al (an al al))
noncomputable def P74x0 (h : Hp) (S : Nat → PAL → Option Value) (r0 : Value) : Option Value :=
  forceL (Array.toList (Value.cells r0)) fun c0 =>
  nthR c0 0 fun v1 =>
  some v1
noncomputable def T74 (h : Hp) (S : Nat → PAL → Option Value) : Nat → PAL → Option Value := tabPC 0 (wV fun r0 => wN (P74x0 h S r0)) (tabPN)
noncomputable def F74 (args : List Value) (h : Hp) : Option Value := plainO (packArgs [Kd.v] args fun al => G.rec' (T74 h) 1000000 0 al)
def nt74 : Nat := 1 + (5 - 1)
theorem q74x0 (h : Hp) (S : Nat → PAL → Option Value) (r0 : Value) : P74x0 h S r0 = G.stepAt packP unpackP evXV (regP env pf5 nt74 h) (finP env Try.f74.results.toList) (G.collect B74 A74 []) 0 S (PAL.v r0 PAL.n) := by kernel_rfl
theorem t74 (h : Hp) (S : Nat → PAL → Option Value) : TabP (fun l al => G.stepAt packP unpackP evXV (regP env pf5 nt74 h) (finP env Try.f74.results.toList) (G.collect B74 A74 []) l S al) (T74 h S) := by
  unfold T74
  refine TabP.cons 0 (fun vs0 q e0 => ?_) ?_
  · obtain ⟨r0, vs1, rfl, e1⟩ := wV_some e0
    obtain ⟨rfl, ee⟩ := wN_some e1
    exact (q74x0 h S r0).symm.trans ee
  exact TabP.nil
theorem r74 : PSound Try.prog 74 F74 := fun_soundP (C := C0) ok0 (pf := pf5) pfok5 (fn := Try.f74) (body := B74) (kinds := [Kd.v]) (A := A74) (T := T74) (by kernel_rfl) (by kernel_rfl) (by kernel_rfl) (by kernel_rfl) (fun h S => t74 h S)
noncomputable def pf6 : PF := pfC 74 F74 pf5
theorem pfok6 : PfSound Try.prog pf6 := pfC_ok r74 pfok5
noncomputable def orc25 := orcP 74 F74 orc24
noncomputable def C25 : Cfg := cfg orc25
theorem ok25 : C25.Ok := orcP_ok (C := C24) ok24 r74
noncomputable def B59 : Code := (Try.f59.body).getD .skip
def A59 : Ann := (Ann.node (some (0, [(0, Kd.i .i64)])) bl (bn bl bl))
noncomputable def P59x0 (S : Sg) (r0 : Int) (h : Hp) : CRes :=
  allocK h 3 [(Value.int .i64 r0)] fun a0 h0 =>
  allocK h0 112 [Value.nilFunc, Value.nilFunc] fun a1 h1 =>
  optK (buildV env 112 (List.toArray [(0, (Value.func (.func 74) #[] #[])), (1, (Value.func (.func 75) (List.toArray []) (List.toArray [a0])))])) fun v2 =>
  storeNK 2 h1 a1 v2 fun h3 =>
  loadNK 2 h3 a1 fun v4 => some (v4, h3)
noncomputable def T59 (S : Sg) : Sg := tabC 0 (uI fun r0 => uN fun h => P59x0 S r0 h) (tabN)
noncomputable def F59 (args : List Value) (h : Hp) : CRes := packVals [Kd.i .i64] args fun al => rec' T59 1000000 0 al h
def nt59 : Nat := 1 + (5 - 1)
theorem q59x0 (S : Sg) (r0 : Int) (h : Hp) : P59x0 S r0 h = stepAt (regK env orc25 (nt59)) (finK env Try.f59.results.toList) (collect B59 A59 []) 0 S (AL.i r0 AL.n) h := by kernel_rfl
theorem t59 (S : Sg) : Tab (fun l vs h => stepAt (regK env orc25 nt59) (finK env Try.f59.results.toList) (collect B59 A59 []) l S vs h) (T59 S) := by
  unfold T59
  refine Tab.cons 0 (fun vs0 h q e0 => ?_) ?_
  · obtain ⟨r0, vs1, rfl, e1⟩ := uI_some e0
    obtain ⟨rfl, ee⟩ := uN_some e1
    exact (q59x0 S r0 h).symm.trans ee
  exact Tab.nil
theorem r59 : ∀ args h v h', F59 args h = some (v, h') → Runs (C25) (.call 59 args.toArray h) (.ret v h') := by
  intro args h v h' e
  exact fun_sound (C := C25) (fn := Try.f59) (body := B59) (np := 1) (A := A59) (T := T59) (kinds := [Kd.i .i64]) (by kernel_rfl) (by kernel_rfl) (by kernel_rfl) (by kernel_rfl) (regK_ok env_ok) (by kernel_rfl) (fun S => t59 S) e
noncomputable def orc26 := orcQ 59 F59 orc25
noncomputable def C26 : Cfg := cfg orc26
theorem ok26 : C26.Ok := orcQ_ok (C := C25) ok25 r59
noncomputable def B73 : Code := (Try.f73.body).getD .skip
def A73 : Ann := (Ann.node (some (0, [(0, Kd.v), (1, Kd.v)])) bl (bn (bn bl (bn (Ann.node (some (1, [(0, Kd.v), (1, Kd.v), (9, Kd.v), (10, Kd.i .i64), (11, Kd.i .i64)])) (bn bl (bn (bn bl bl) (bn (bn (bn bl (bn bl (bn bl (bn (bn bl bl) bl)))) bl) bl))) bl) bl)) (Ann.node (some (2, [])) bl bl)))
noncomputable def P73x2 (S : Sg) (h : Hp) : CRes :=
  some (Value.tuple (List.toArray [(Value.int .i64 (Int.ofNat 0)), (Value.int .i64 (Int.ofNat 0))]), h)
noncomputable def P73x1 (S : Sg) (r0 : Value) (r1 : Value) (r9 : Value) (r10 : Int) (r11 : Int) (h : Hp) : CRes :=
  boolZ (ltZ r11 r10) fun b0 =>
  ifB b0
  (idxSK 4 r9 r11 fun v1 =>
  loadNK 4 h v1 fun v2 =>
  allocK h 46 [(Value.string (ByteArray.mk #[])), (Value.int .i64 (Int.ofNat 0)), (Value.int .i64 (Int.ofNat 0)), (Value.slice none 0 0)] fun a3 h3 =>
  storeNK 4 h3 a3 v2 fun h4 =>
  optK (sliceV env h4 22 r0 none (some (Value.int .i64 r11)) none) fun v5 =>
  loadNK 4 h4 a3 fun v6 =>
  pairK (callF orc26 r1 [v5, v6] h4) fun v7 h7 =>
  intK .i64 v7 fun i8 =>
  boolN (eqZ i8 (Int.ofNat 0)) fun b9 =>
  ifB b9
  (some (Value.tuple (List.toArray [(Value.int .i64 r11), (Value.int .i64 i8)]), h7))
  (wrap64 (Int.add r11 (Int.ofNat 1)) fun i10 =>
  S 1 (AL.v r0 (AL.v r1 (AL.v r9 (AL.i r10 (AL.i i10 AL.n))))) h7))
  (S 2 AL.n h)
noncomputable def P73x0 (S : Sg) (r0 : Value) (r1 : Value) (h : Hp) : CRes :=
  lenSK r0 fun i0 =>
  S 1 (AL.v r0 (AL.v r1 (AL.v r0 (AL.i i0 (AL.i (Int.ofNat 0) AL.n))))) h
noncomputable def T73 (S : Sg) : Sg := tabC 0 (uV fun r0 => uV fun r1 => uN fun h => P73x0 S r0 r1 h) (tabC 1 (uV fun r0 => uV fun r1 => uV fun r9 => uI fun r10 => uI fun r11 => uN fun h => P73x1 S r0 r1 r9 r10 r11 h) (tabC 2 (uN fun h => P73x2 S  h) (tabN)))
noncomputable def F73 (args : List Value) (h : Hp) : CRes := packVals [Kd.v, Kd.v] args fun al => rec' T73 1000000 0 al h
def nt73 : Nat := 2 + (27 - 2)
theorem q73x2 (S : Sg) (h : Hp) : P73x2 S  h = stepAt (regK env orc26 (nt73)) (finK env Try.f73.results.toList) (collect B73 A73 []) 2 S AL.n h := by kernel_rfl
theorem q73x1 (S : Sg) (r0 : Value) (r1 : Value) (r9 : Value) (r10 : Int) (r11 : Int) (h : Hp) : P73x1 S r0 r1 r9 r10 r11 h = stepAt (regK env orc26 (nt73)) (finK env Try.f73.results.toList) (collect B73 A73 []) 1 S (AL.v r0 (AL.v r1 (AL.v r9 (AL.i r10 (AL.i r11 AL.n))))) h := by kernel_rfl
theorem q73x0 (S : Sg) (r0 : Value) (r1 : Value) (h : Hp) : P73x0 S r0 r1 h = stepAt (regK env orc26 (nt73)) (finK env Try.f73.results.toList) (collect B73 A73 []) 0 S (AL.v r0 (AL.v r1 AL.n)) h := by kernel_rfl
theorem t73 (S : Sg) : Tab (fun l vs h => stepAt (regK env orc26 nt73) (finK env Try.f73.results.toList) (collect B73 A73 []) l S vs h) (T73 S) := by
  unfold T73
  refine Tab.cons 0 (fun vs0 h q e0 => ?_) ?_
  · obtain ⟨r0, vs1, rfl, e1⟩ := uV_some e0
    obtain ⟨r1, vs2, rfl, e2⟩ := uV_some e1
    obtain ⟨rfl, ee⟩ := uN_some e2
    exact (q73x0 S r0 r1 h).symm.trans ee
  refine Tab.cons 1 (fun vs0 h q e0 => ?_) ?_
  · obtain ⟨r0, vs1, rfl, e1⟩ := uV_some e0
    obtain ⟨r1, vs2, rfl, e2⟩ := uV_some e1
    obtain ⟨r9, vs3, rfl, e3⟩ := uV_some e2
    obtain ⟨r10, vs4, rfl, e4⟩ := uI_some e3
    obtain ⟨r11, vs5, rfl, e5⟩ := uI_some e4
    obtain ⟨rfl, ee⟩ := uN_some e5
    exact (q73x1 S r0 r1 r9 r10 r11 h).symm.trans ee
  refine Tab.cons 2 (fun vs0 h q e0 => ?_) ?_
  · 
    obtain ⟨rfl, ee⟩ := uN_some e0
    exact (q73x2 S  h).symm.trans ee
  exact Tab.nil
theorem r73 : ∀ args h v h', F73 args h = some (v, h') → Runs (C26) (.call 73 args.toArray h) (.ret v h') := by
  intro args h v h' e
  exact fun_sound (C := C26) (fn := Try.f73) (body := B73) (np := 2) (A := A73) (T := T73) (kinds := [Kd.v, Kd.v]) (by kernel_rfl) (by kernel_rfl) (by kernel_rfl) (by kernel_rfl) (regK_ok env_ok) (by kernel_rfl) (fun S => t73 S) e
noncomputable def orc27 := orcQ 73 F73 orc26
noncomputable def C27 : Cfg := cfg orc27
theorem ok27 : C27.Ok := orcQ_ok (C := C26) ok26 r73
noncomputable def B58 : Code := (Try.f58.body).getD .skip
def A58 : Ann := (Ann.node (some (0, [(0, Kd.v), (1, Kd.i .i64), (2, Kd.v)])) bl (bn (bn bl (bn (bn bl bl) bl)) (bn bl bl)))
noncomputable def P58x0 (S : Sg) (r0 : Value) (r1 : Int) (r2 : Value) (h : Hp) : CRes :=
  lenSK r0 fun i0 =>
  boolZ (ltZ r1 i0) fun b1 =>
  ifB b1
  (some (Value.tuple (List.toArray [(Value.int .i64 (Int.ofNat 0)), (Value.int .i64 (Int.ofNat 3))]), h))
  (pairK (callQ F73 [r0, r2] h) fun v2 h2 =>
  extK v2 0 fun v3 =>
  intK .i64 v3 fun i4 =>
  extK v2 1 fun v5 =>
  intK .i64 v5 fun i6 =>
  some (Value.tuple (List.toArray [(Value.int .i64 i4), (Value.int .i64 i6)]), h2))
noncomputable def T58 (S : Sg) : Sg := tabC 0 (uV fun r0 => uI fun r1 => uV fun r2 => uN fun h => P58x0 S r0 r1 r2 h) (tabN)
noncomputable def F58 (args : List Value) (h : Hp) : CRes := packVals [Kd.v, Kd.i .i64, Kd.v] args fun al => rec' T58 1000000 0 al h
def nt58 : Nat := 3 + (17 - 3)
theorem q58x0 (S : Sg) (r0 : Value) (r1 : Int) (r2 : Value) (h : Hp) : P58x0 S r0 r1 r2 h = stepAt (regK env orc27 (nt58)) (finK env Try.f58.results.toList) (collect B58 A58 []) 0 S (AL.v r0 (AL.i r1 (AL.v r2 AL.n))) h := by kernel_rfl
theorem t58 (S : Sg) : Tab (fun l vs h => stepAt (regK env orc27 nt58) (finK env Try.f58.results.toList) (collect B58 A58 []) l S vs h) (T58 S) := by
  unfold T58
  refine Tab.cons 0 (fun vs0 h q e0 => ?_) ?_
  · obtain ⟨r0, vs1, rfl, e1⟩ := uV_some e0
    obtain ⟨r1, vs2, rfl, e2⟩ := uI_some e1
    obtain ⟨r2, vs3, rfl, e3⟩ := uV_some e2
    obtain ⟨rfl, ee⟩ := uN_some e3
    exact (q58x0 S r0 r1 r2 h).symm.trans ee
  exact Tab.nil
theorem r58 : ∀ args h v h', F58 args h = some (v, h') → Runs (C27) (.call 58 args.toArray h) (.ret v h') := by
  intro args h v h' e
  exact fun_sound (C := C27) (fn := Try.f58) (body := B58) (np := 3) (A := A58) (T := T58) (kinds := [Kd.v, Kd.i .i64, Kd.v]) (by kernel_rfl) (by kernel_rfl) (by kernel_rfl) (by kernel_rfl) (regK_ok env_ok) (by kernel_rfl) (fun S => t58 S) e
noncomputable def orc28 := orcQ 58 F58 orc27
noncomputable def C28 : Cfg := cfg orc28
theorem ok28 : C28.Ok := orcQ_ok (C := C27) ok27 r58
noncomputable def B80 : Code := (Try.f80.body).getD .skip
def A80 : Ann := (Ann.node (some (0, [(0, Kd.v), (1, Kd.v)])) bl (bn (bn bl (bn (bn bl bl) bl)) (bn bl bl)))
noncomputable def P80x0 (S : Sg) (r0 : Value) (r1 : Value) (h : Hp) : CRes :=
  allocK h 48 (Array.toList (Value.cells r0)) fun a0 h0 =>
  ptrAddK 1 a0 fun v1 =>
  load1K h0 v1 fun v2 =>
  intK .i64 v2 fun i3 =>
  pairK (buildSliceV env h0 28 1 (List.toArray [(0, (Value.int .i64 i3))])) fun v4 h4 =>
  pairK (optK (F20 [(Value.int .i64 (Int.ofNat 1)), (Value.int .i64 (Int.ofNat 9)), v4] h4) fun v => some (v, h4)) fun v5 h5 =>
  boolK v5 fun b6 =>
  boolN b6 fun b7 =>
  ifB b7
  (some ((Value.int .i64 (Int.ofNat 7)), h5))
  (load1K h5 r1 fun v8 =>
  intK .i64 v8 fun i9 =>
  ptrAddK 2 a0 fun v10 =>
  load1K h5 v10 fun v11 =>
  intK .i64 v11 fun i12 =>
  pairK (buildSliceV env h5 28 1 (List.toArray [(0, (Value.int .i64 i12))])) fun v13 h13 =>
  pairK (optK (F15 [(Value.int .i64 i9), v13] h13) fun v => some (v, h13)) fun v14 h14 =>
  boolK v14 fun b15 =>
  boolN b15 fun b16 =>
  ifB b16
  (some ((Value.int .i64 (Int.ofNat 7)), h14))
  (ptrAddK 3 a0 fun v17 =>
  load1K h14 v17 fun v18 =>
  intK .i64 v18 fun i19 =>
  pairK (buildSliceV env h14 28 1 (List.toArray [(0, (Value.int .i64 i19))])) fun v20 h20 =>
  pairK (optK (F20 [(Value.int .i64 (Int.ofNat 0)), (Value.int .i64 (Int.ofNat 5000)), v20] h20) fun v => some (v, h20)) fun v21 h21 =>
  boolK v21 fun b22 =>
  boolN b22 fun b23 =>
  ifB b23
  (some ((Value.int .i64 (Int.ofNat 7)), h21))
  (some ((Value.int .i64 (Int.ofNat 0)), h21))))
noncomputable def T80 (S : Sg) : Sg := tabC 0 (uV fun r0 => uV fun r1 => uN fun h => P80x0 S r0 r1 h) (tabN)
noncomputable def F80 (args : List Value) (h : Hp) : CRes := packVals [Kd.v, Kd.v] args fun al => rec' T80 1000000 0 al h
def nt80 : Nat := 2 + (24 - 2)
theorem q80x0 (S : Sg) (r0 : Value) (r1 : Value) (h : Hp) : P80x0 S r0 r1 h = stepAt (regK env orc28 (nt80)) (finK env Try.f80.results.toList) (collect B80 A80 []) 0 S (AL.v r0 (AL.v r1 AL.n)) h := by kernel_rfl
theorem t80 (S : Sg) : Tab (fun l vs h => stepAt (regK env orc28 nt80) (finK env Try.f80.results.toList) (collect B80 A80 []) l S vs h) (T80 S) := by
  unfold T80
  refine Tab.cons 0 (fun vs0 h q e0 => ?_) ?_
  · obtain ⟨r0, vs1, rfl, e1⟩ := uV_some e0
    obtain ⟨r1, vs2, rfl, e2⟩ := uV_some e1
    obtain ⟨rfl, ee⟩ := uN_some e2
    exact (q80x0 S r0 r1 h).symm.trans ee
  exact Tab.nil
theorem r80 : ∀ args h v h', F80 args h = some (v, h') → Runs (C28) (.call 80 args.toArray h) (.ret v h') := by
  intro args h v h' e
  exact fun_sound (C := C28) (fn := Try.f80) (body := B80) (np := 2) (A := A80) (T := T80) (kinds := [Kd.v, Kd.v]) (by kernel_rfl) (by kernel_rfl) (by kernel_rfl) (by kernel_rfl) (regK_ok env_ok) (by kernel_rfl) (fun S => t80 S) e
noncomputable def orc29 := orcQ 80 F80 orc28
noncomputable def C29 : Cfg := cfg orc29
theorem ok29 : C29.Ok := orcQ_ok (C := C28) ok28 r80
noncomputable def B79 : Code := (Try.f79.body).getD .skip
noncomputable def A79 : G.Ann (List KI) := (G.Ann.node (some (0, [KI.reg 0 (Kd.v)])) al (an al al))
noncomputable def P79x0 (h : Hp) (S : Nat → PAL → Option Value) (r0 : Value) : Option Value :=
  forceL (Array.toList (Value.cells r0)) fun c0 =>
  nthR c0 0 fun v1 =>
  some v1
noncomputable def T79 (h : Hp) (S : Nat → PAL → Option Value) : Nat → PAL → Option Value := tabPC 0 (wV fun r0 => wN (P79x0 h S r0)) (tabPN)
noncomputable def F79 (args : List Value) (h : Hp) : Option Value := plainO (packArgs [Kd.v] args fun al => G.rec' (T79 h) 1000000 0 al)
def nt79 : Nat := 1 + (5 - 1)
theorem q79x0 (h : Hp) (S : Nat → PAL → Option Value) (r0 : Value) : P79x0 h S r0 = G.stepAt packP unpackP evXV (regP env pf6 nt79 h) (finP env Try.f79.results.toList) (G.collect B79 A79 []) 0 S (PAL.v r0 PAL.n) := by kernel_rfl
theorem t79 (h : Hp) (S : Nat → PAL → Option Value) : TabP (fun l al => G.stepAt packP unpackP evXV (regP env pf6 nt79 h) (finP env Try.f79.results.toList) (G.collect B79 A79 []) l S al) (T79 h S) := by
  unfold T79
  refine TabP.cons 0 (fun vs0 q e0 => ?_) ?_
  · obtain ⟨r0, vs1, rfl, e1⟩ := wV_some e0
    obtain ⟨rfl, ee⟩ := wN_some e1
    exact (q79x0 h S r0).symm.trans ee
  exact TabP.nil
theorem r79 : PSound Try.prog 79 F79 := fun_soundP (C := C0) ok0 (pf := pf6) pfok6 (fn := Try.f79) (body := B79) (kinds := [Kd.v]) (A := A79) (T := T79) (by kernel_rfl) (by kernel_rfl) (by kernel_rfl) (by kernel_rfl) (fun h S => t79 h S)
noncomputable def pf7 : PF := pfC 79 F79 pf6
theorem pfok7 : PfSound Try.prog pf7 := pfC_ok r79 pfok6
noncomputable def orc30 := orcP 79 F79 orc29
noncomputable def C30 : Cfg := cfg orc30
theorem ok30 : C30.Ok := orcP_ok (C := C29) ok29 r79
noncomputable def B62 : Code := (Try.f62.body).getD .skip
def A62 : Ann := (Ann.node (some (0, [(0, Kd.i .i64)])) bl (bn bl bl))
noncomputable def P62x0 (S : Sg) (r0 : Int) (h : Hp) : CRes :=
  allocK h 3 [(Value.int .i64 r0)] fun a0 h0 =>
  allocK h0 119 [Value.nilFunc, Value.nilFunc] fun a1 h1 =>
  optK (buildV env 119 (List.toArray [(0, (Value.func (.func 79) #[] #[])), (1, (Value.func (.func 80) (List.toArray []) (List.toArray [a0])))])) fun v2 =>
  storeNK 2 h1 a1 v2 fun h3 =>
  loadNK 2 h3 a1 fun v4 => some (v4, h3)
noncomputable def T62 (S : Sg) : Sg := tabC 0 (uI fun r0 => uN fun h => P62x0 S r0 h) (tabN)
noncomputable def F62 (args : List Value) (h : Hp) : CRes := packVals [Kd.i .i64] args fun al => rec' T62 1000000 0 al h
def nt62 : Nat := 1 + (5 - 1)
theorem q62x0 (S : Sg) (r0 : Int) (h : Hp) : P62x0 S r0 h = stepAt (regK env orc30 (nt62)) (finK env Try.f62.results.toList) (collect B62 A62 []) 0 S (AL.i r0 AL.n) h := by kernel_rfl
theorem t62 (S : Sg) : Tab (fun l vs h => stepAt (regK env orc30 nt62) (finK env Try.f62.results.toList) (collect B62 A62 []) l S vs h) (T62 S) := by
  unfold T62
  refine Tab.cons 0 (fun vs0 h q e0 => ?_) ?_
  · obtain ⟨r0, vs1, rfl, e1⟩ := uI_some e0
    obtain ⟨rfl, ee⟩ := uN_some e1
    exact (q62x0 S r0 h).symm.trans ee
  exact Tab.nil
theorem r62 : ∀ args h v h', F62 args h = some (v, h') → Runs (C30) (.call 62 args.toArray h) (.ret v h') := by
  intro args h v h' e
  exact fun_sound (C := C30) (fn := Try.f62) (body := B62) (np := 1) (A := A62) (T := T62) (kinds := [Kd.i .i64]) (by kernel_rfl) (by kernel_rfl) (by kernel_rfl) (by kernel_rfl) (regK_ok env_ok) (by kernel_rfl) (fun S => t62 S) e
noncomputable def orc31 := orcQ 62 F62 orc30
noncomputable def C31 : Cfg := cfg orc31
theorem ok31 : C31.Ok := orcQ_ok (C := C30) ok30 r62
noncomputable def B78 : Code := (Try.f78.body).getD .skip
def A78 : Ann := (Ann.node (some (0, [(0, Kd.v), (1, Kd.v)])) bl (bn (bn bl (bn (Ann.node (some (1, [(0, Kd.v), (1, Kd.v), (9, Kd.v), (10, Kd.i .i64), (11, Kd.i .i64)])) (bn bl (bn (bn bl bl) (bn (bn (bn bl (bn bl (bn bl (bn (bn bl bl) bl)))) bl) bl))) bl) bl)) (Ann.node (some (2, [])) bl bl)))
noncomputable def P78x2 (S : Sg) (h : Hp) : CRes :=
  some (Value.tuple (List.toArray [(Value.int .i64 (Int.ofNat 0)), (Value.int .i64 (Int.ofNat 0))]), h)
noncomputable def P78x1 (S : Sg) (r0 : Value) (r1 : Value) (r9 : Value) (r10 : Int) (r11 : Int) (h : Hp) : CRes :=
  boolZ (ltZ r11 r10) fun b0 =>
  ifB b0
  (idxSK 4 r9 r11 fun v1 =>
  loadNK 4 h v1 fun v2 =>
  allocK h 48 [(Value.string (ByteArray.mk #[])), (Value.int .i64 (Int.ofNat 0)), (Value.int .i64 (Int.ofNat 0)), (Value.int .i64 (Int.ofNat 0))] fun a3 h3 =>
  storeNK 4 h3 a3 v2 fun h4 =>
  optK (sliceV env h4 23 r0 none (some (Value.int .i64 r11)) none) fun v5 =>
  loadNK 4 h4 a3 fun v6 =>
  pairK (callF orc31 r1 [v5, v6] h4) fun v7 h7 =>
  intK .i64 v7 fun i8 =>
  boolN (eqZ i8 (Int.ofNat 0)) fun b9 =>
  ifB b9
  (some (Value.tuple (List.toArray [(Value.int .i64 r11), (Value.int .i64 i8)]), h7))
  (wrap64 (Int.add r11 (Int.ofNat 1)) fun i10 =>
  S 1 (AL.v r0 (AL.v r1 (AL.v r9 (AL.i r10 (AL.i i10 AL.n))))) h7))
  (S 2 AL.n h)
noncomputable def P78x0 (S : Sg) (r0 : Value) (r1 : Value) (h : Hp) : CRes :=
  lenSK r0 fun i0 =>
  S 1 (AL.v r0 (AL.v r1 (AL.v r0 (AL.i i0 (AL.i (Int.ofNat 0) AL.n))))) h
noncomputable def T78 (S : Sg) : Sg := tabC 0 (uV fun r0 => uV fun r1 => uN fun h => P78x0 S r0 r1 h) (tabC 1 (uV fun r0 => uV fun r1 => uV fun r9 => uI fun r10 => uI fun r11 => uN fun h => P78x1 S r0 r1 r9 r10 r11 h) (tabC 2 (uN fun h => P78x2 S  h) (tabN)))
noncomputable def F78 (args : List Value) (h : Hp) : CRes := packVals [Kd.v, Kd.v] args fun al => rec' T78 1000000 0 al h
def nt78 : Nat := 2 + (27 - 2)
theorem q78x2 (S : Sg) (h : Hp) : P78x2 S  h = stepAt (regK env orc31 (nt78)) (finK env Try.f78.results.toList) (collect B78 A78 []) 2 S AL.n h := by kernel_rfl
theorem q78x1 (S : Sg) (r0 : Value) (r1 : Value) (r9 : Value) (r10 : Int) (r11 : Int) (h : Hp) : P78x1 S r0 r1 r9 r10 r11 h = stepAt (regK env orc31 (nt78)) (finK env Try.f78.results.toList) (collect B78 A78 []) 1 S (AL.v r0 (AL.v r1 (AL.v r9 (AL.i r10 (AL.i r11 AL.n))))) h := by kernel_rfl
theorem q78x0 (S : Sg) (r0 : Value) (r1 : Value) (h : Hp) : P78x0 S r0 r1 h = stepAt (regK env orc31 (nt78)) (finK env Try.f78.results.toList) (collect B78 A78 []) 0 S (AL.v r0 (AL.v r1 AL.n)) h := by kernel_rfl
theorem t78 (S : Sg) : Tab (fun l vs h => stepAt (regK env orc31 nt78) (finK env Try.f78.results.toList) (collect B78 A78 []) l S vs h) (T78 S) := by
  unfold T78
  refine Tab.cons 0 (fun vs0 h q e0 => ?_) ?_
  · obtain ⟨r0, vs1, rfl, e1⟩ := uV_some e0
    obtain ⟨r1, vs2, rfl, e2⟩ := uV_some e1
    obtain ⟨rfl, ee⟩ := uN_some e2
    exact (q78x0 S r0 r1 h).symm.trans ee
  refine Tab.cons 1 (fun vs0 h q e0 => ?_) ?_
  · obtain ⟨r0, vs1, rfl, e1⟩ := uV_some e0
    obtain ⟨r1, vs2, rfl, e2⟩ := uV_some e1
    obtain ⟨r9, vs3, rfl, e3⟩ := uV_some e2
    obtain ⟨r10, vs4, rfl, e4⟩ := uI_some e3
    obtain ⟨r11, vs5, rfl, e5⟩ := uI_some e4
    obtain ⟨rfl, ee⟩ := uN_some e5
    exact (q78x1 S r0 r1 r9 r10 r11 h).symm.trans ee
  refine Tab.cons 2 (fun vs0 h q e0 => ?_) ?_
  · 
    obtain ⟨rfl, ee⟩ := uN_some e0
    exact (q78x2 S  h).symm.trans ee
  exact Tab.nil
theorem r78 : ∀ args h v h', F78 args h = some (v, h') → Runs (C31) (.call 78 args.toArray h) (.ret v h') := by
  intro args h v h' e
  exact fun_sound (C := C31) (fn := Try.f78) (body := B78) (np := 2) (A := A78) (T := T78) (kinds := [Kd.v, Kd.v]) (by kernel_rfl) (by kernel_rfl) (by kernel_rfl) (by kernel_rfl) (regK_ok env_ok) (by kernel_rfl) (fun S => t78 S) e
noncomputable def orc32 := orcQ 78 F78 orc31
noncomputable def C32 : Cfg := cfg orc32
theorem ok32 : C32.Ok := orcQ_ok (C := C31) ok31 r78
noncomputable def B61 : Code := (Try.f61.body).getD .skip
def A61 : Ann := (Ann.node (some (0, [(0, Kd.v), (1, Kd.i .i64), (2, Kd.v)])) bl (bn (bn bl (bn (bn bl bl) bl)) (bn bl bl)))
noncomputable def P61x0 (S : Sg) (r0 : Value) (r1 : Int) (r2 : Value) (h : Hp) : CRes :=
  lenSK r0 fun i0 =>
  boolZ (ltZ r1 i0) fun b1 =>
  ifB b1
  (some (Value.tuple (List.toArray [(Value.int .i64 (Int.ofNat 0)), (Value.int .i64 (Int.ofNat 3))]), h))
  (pairK (callQ F78 [r0, r2] h) fun v2 h2 =>
  extK v2 0 fun v3 =>
  intK .i64 v3 fun i4 =>
  extK v2 1 fun v5 =>
  intK .i64 v5 fun i6 =>
  some (Value.tuple (List.toArray [(Value.int .i64 i4), (Value.int .i64 i6)]), h2))
noncomputable def T61 (S : Sg) : Sg := tabC 0 (uV fun r0 => uI fun r1 => uV fun r2 => uN fun h => P61x0 S r0 r1 r2 h) (tabN)
noncomputable def F61 (args : List Value) (h : Hp) : CRes := packVals [Kd.v, Kd.i .i64, Kd.v] args fun al => rec' T61 1000000 0 al h
def nt61 : Nat := 3 + (17 - 3)
theorem q61x0 (S : Sg) (r0 : Value) (r1 : Int) (r2 : Value) (h : Hp) : P61x0 S r0 r1 r2 h = stepAt (regK env orc32 (nt61)) (finK env Try.f61.results.toList) (collect B61 A61 []) 0 S (AL.v r0 (AL.i r1 (AL.v r2 AL.n))) h := by kernel_rfl
theorem t61 (S : Sg) : Tab (fun l vs h => stepAt (regK env orc32 nt61) (finK env Try.f61.results.toList) (collect B61 A61 []) l S vs h) (T61 S) := by
  unfold T61
  refine Tab.cons 0 (fun vs0 h q e0 => ?_) ?_
  · obtain ⟨r0, vs1, rfl, e1⟩ := uV_some e0
    obtain ⟨r1, vs2, rfl, e2⟩ := uI_some e1
    obtain ⟨r2, vs3, rfl, e3⟩ := uV_some e2
    obtain ⟨rfl, ee⟩ := uN_some e3
    exact (q61x0 S r0 r1 r2 h).symm.trans ee
  exact Tab.nil
theorem r61 : ∀ args h v h', F61 args h = some (v, h') → Runs (C32) (.call 61 args.toArray h) (.ret v h') := by
  intro args h v h' e
  exact fun_sound (C := C32) (fn := Try.f61) (body := B61) (np := 3) (A := A61) (T := T61) (kinds := [Kd.v, Kd.i .i64, Kd.v]) (by kernel_rfl) (by kernel_rfl) (by kernel_rfl) (by kernel_rfl) (regK_ok env_ok) (by kernel_rfl) (fun S => t61 S) e
noncomputable def orc33 := orcQ 61 F61 orc32
noncomputable def C33 : Cfg := cfg orc33
theorem ok33 : C33.Ok := orcQ_ok (C := C32) ok32 r61
noncomputable def B82 : Code := (Try.f82.body).getD .skip
def A82 : Ann := (Ann.node (some (0, [(0, Kd.v), (1, Kd.v)])) bl (bn (bn bl (bn (Ann.node (some (1, [(0, Kd.v), (1, Kd.v), (9, Kd.v), (10, Kd.i .i64), (11, Kd.i .i64)])) (bn bl (bn (bn bl bl) (bn (bn (bn bl (bn bl (bn bl (bn (bn bl bl) bl)))) bl) bl))) bl) bl)) (Ann.node (some (2, [])) bl bl)))
noncomputable def P82x2 (S : Sg) (h : Hp) : CRes :=
  some (Value.tuple (List.toArray [(Value.int .i64 (Int.ofNat 0)), (Value.int .i64 (Int.ofNat 0))]), h)
noncomputable def P82x1 (S : Sg) (r0 : Value) (r1 : Value) (r9 : Value) (r10 : Int) (r11 : Int) (h : Hp) : CRes :=
  boolZ (ltZ r11 r10) fun b0 =>
  ifB b0
  (idxSK 2 r9 r11 fun v1 =>
  loadNK 2 h v1 fun v2 =>
  allocK h 50 [(Value.int .i64 (Int.ofNat 0)), (Value.int .i64 (Int.ofNat 0))] fun a3 h3 =>
  storeNK 2 h3 a3 v2 fun h4 =>
  optK (sliceV env h4 24 r0 none (some (Value.int .i64 r11)) none) fun v5 =>
  loadNK 2 h4 a3 fun v6 =>
  pairK (callF orc33 r1 [v5, v6] h4) fun v7 h7 =>
  intK .i64 v7 fun i8 =>
  boolN (eqZ i8 (Int.ofNat 0)) fun b9 =>
  ifB b9
  (some (Value.tuple (List.toArray [(Value.int .i64 r11), (Value.int .i64 i8)]), h7))
  (wrap64 (Int.add r11 (Int.ofNat 1)) fun i10 =>
  S 1 (AL.v r0 (AL.v r1 (AL.v r9 (AL.i r10 (AL.i i10 AL.n))))) h7))
  (S 2 AL.n h)
noncomputable def P82x0 (S : Sg) (r0 : Value) (r1 : Value) (h : Hp) : CRes :=
  lenSK r0 fun i0 =>
  S 1 (AL.v r0 (AL.v r1 (AL.v r0 (AL.i i0 (AL.i (Int.ofNat 0) AL.n))))) h
noncomputable def T82 (S : Sg) : Sg := tabC 0 (uV fun r0 => uV fun r1 => uN fun h => P82x0 S r0 r1 h) (tabC 1 (uV fun r0 => uV fun r1 => uV fun r9 => uI fun r10 => uI fun r11 => uN fun h => P82x1 S r0 r1 r9 r10 r11 h) (tabC 2 (uN fun h => P82x2 S  h) (tabN)))
noncomputable def F82 (args : List Value) (h : Hp) : CRes := packVals [Kd.v, Kd.v] args fun al => rec' T82 1000000 0 al h
def nt82 : Nat := 2 + (27 - 2)
theorem q82x2 (S : Sg) (h : Hp) : P82x2 S  h = stepAt (regK env orc33 (nt82)) (finK env Try.f82.results.toList) (collect B82 A82 []) 2 S AL.n h := by kernel_rfl
theorem q82x1 (S : Sg) (r0 : Value) (r1 : Value) (r9 : Value) (r10 : Int) (r11 : Int) (h : Hp) : P82x1 S r0 r1 r9 r10 r11 h = stepAt (regK env orc33 (nt82)) (finK env Try.f82.results.toList) (collect B82 A82 []) 1 S (AL.v r0 (AL.v r1 (AL.v r9 (AL.i r10 (AL.i r11 AL.n))))) h := by kernel_rfl
theorem q82x0 (S : Sg) (r0 : Value) (r1 : Value) (h : Hp) : P82x0 S r0 r1 h = stepAt (regK env orc33 (nt82)) (finK env Try.f82.results.toList) (collect B82 A82 []) 0 S (AL.v r0 (AL.v r1 AL.n)) h := by kernel_rfl
theorem t82 (S : Sg) : Tab (fun l vs h => stepAt (regK env orc33 nt82) (finK env Try.f82.results.toList) (collect B82 A82 []) l S vs h) (T82 S) := by
  unfold T82
  refine Tab.cons 0 (fun vs0 h q e0 => ?_) ?_
  · obtain ⟨r0, vs1, rfl, e1⟩ := uV_some e0
    obtain ⟨r1, vs2, rfl, e2⟩ := uV_some e1
    obtain ⟨rfl, ee⟩ := uN_some e2
    exact (q82x0 S r0 r1 h).symm.trans ee
  refine Tab.cons 1 (fun vs0 h q e0 => ?_) ?_
  · obtain ⟨r0, vs1, rfl, e1⟩ := uV_some e0
    obtain ⟨r1, vs2, rfl, e2⟩ := uV_some e1
    obtain ⟨r9, vs3, rfl, e3⟩ := uV_some e2
    obtain ⟨r10, vs4, rfl, e4⟩ := uI_some e3
    obtain ⟨r11, vs5, rfl, e5⟩ := uI_some e4
    obtain ⟨rfl, ee⟩ := uN_some e5
    exact (q82x1 S r0 r1 r9 r10 r11 h).symm.trans ee
  refine Tab.cons 2 (fun vs0 h q e0 => ?_) ?_
  · 
    obtain ⟨rfl, ee⟩ := uN_some e0
    exact (q82x2 S  h).symm.trans ee
  exact Tab.nil
theorem r82 : ∀ args h v h', F82 args h = some (v, h') → Runs (C33) (.call 82 args.toArray h) (.ret v h') := by
  intro args h v h' e
  exact fun_sound (C := C33) (fn := Try.f82) (body := B82) (np := 2) (A := A82) (T := T82) (kinds := [Kd.v, Kd.v]) (by kernel_rfl) (by kernel_rfl) (by kernel_rfl) (by kernel_rfl) (regK_ok env_ok) (by kernel_rfl) (fun S => t82 S) e
noncomputable def orc34 := orcQ 82 F82 orc33
noncomputable def C34 : Cfg := cfg orc34
theorem ok34 : C34.Ok := orcQ_ok (C := C33) ok33 r82
noncomputable def B64 : Code := (Try.f64.body).getD .skip
def A64 : Ann := (Ann.node (some (0, [(0, Kd.v), (1, Kd.i .i64), (2, Kd.v)])) bl (bn (bn bl (bn (bn bl bl) bl)) (bn bl bl)))
noncomputable def P64x0 (S : Sg) (r0 : Value) (r1 : Int) (r2 : Value) (h : Hp) : CRes :=
  lenSK r0 fun i0 =>
  boolZ (ltZ r1 i0) fun b1 =>
  ifB b1
  (some (Value.tuple (List.toArray [(Value.int .i64 (Int.ofNat 0)), (Value.int .i64 (Int.ofNat 3))]), h))
  (pairK (callQ F82 [r0, r2] h) fun v2 h2 =>
  extK v2 0 fun v3 =>
  intK .i64 v3 fun i4 =>
  extK v2 1 fun v5 =>
  intK .i64 v5 fun i6 =>
  some (Value.tuple (List.toArray [(Value.int .i64 i4), (Value.int .i64 i6)]), h2))
noncomputable def T64 (S : Sg) : Sg := tabC 0 (uV fun r0 => uI fun r1 => uV fun r2 => uN fun h => P64x0 S r0 r1 r2 h) (tabN)
noncomputable def F64 (args : List Value) (h : Hp) : CRes := packVals [Kd.v, Kd.i .i64, Kd.v] args fun al => rec' T64 1000000 0 al h
def nt64 : Nat := 3 + (17 - 3)
theorem q64x0 (S : Sg) (r0 : Value) (r1 : Int) (r2 : Value) (h : Hp) : P64x0 S r0 r1 r2 h = stepAt (regK env orc34 (nt64)) (finK env Try.f64.results.toList) (collect B64 A64 []) 0 S (AL.v r0 (AL.i r1 (AL.v r2 AL.n))) h := by kernel_rfl
theorem t64 (S : Sg) : Tab (fun l vs h => stepAt (regK env orc34 nt64) (finK env Try.f64.results.toList) (collect B64 A64 []) l S vs h) (T64 S) := by
  unfold T64
  refine Tab.cons 0 (fun vs0 h q e0 => ?_) ?_
  · obtain ⟨r0, vs1, rfl, e1⟩ := uV_some e0
    obtain ⟨r1, vs2, rfl, e2⟩ := uI_some e1
    obtain ⟨r2, vs3, rfl, e3⟩ := uV_some e2
    obtain ⟨rfl, ee⟩ := uN_some e3
    exact (q64x0 S r0 r1 r2 h).symm.trans ee
  exact Tab.nil
theorem r64 : ∀ args h v h', F64 args h = some (v, h') → Runs (C34) (.call 64 args.toArray h) (.ret v h') := by
  intro args h v h' e
  exact fun_sound (C := C34) (fn := Try.f64) (body := B64) (np := 3) (A := A64) (T := T64) (kinds := [Kd.v, Kd.i .i64, Kd.v]) (by kernel_rfl) (by kernel_rfl) (by kernel_rfl) (by kernel_rfl) (regK_ok env_ok) (by kernel_rfl) (fun S => t64 S) e
noncomputable def orc35 := orcQ 64 F64 orc34
noncomputable def C35 : Cfg := cfg orc35
theorem ok35 : C35.Ok := orcQ_ok (C := C34) ok34 r64
noncomputable def B45 : Code := (Try.f45.body).getD .skip
def A45 : Ann := (Ann.node (some (0, [(0, Kd.v)])) bl (bn (bn bl (bn (bn bl bl) bl)) (Ann.node (some (1, [(1, Kd.v)])) (bn bl (bn (bn bl bl) bl)) (bn (bn bl (bn bl (bn (bn bl bl) bl))) (bn (bn bl (bn bl (bn (bn bl bl) bl))) (bn bl (bn (bn bl (bn (bn bl bl) bl)) (bn bl bl))))))))
noncomputable def P45x1 (S : Sg) (r1 : Value) (h : Hp) : CRes :=
  ptrAddK 0 r1 fun v0 =>
  load1K h v0 fun v1 =>
  lenSK v1 fun i2 =>
  boolZ (eqZ i2 (Int.ofNat 0)) fun b3 =>
  ifB b3
  (some (Value.tuple (List.toArray [(Value.int .i64 (Int.ofNat 2)), (Value.int .i64 (Int.ofNat 0)), (Value.int .i64 (Int.ofNat 3))]), h))
  (ptrAddK 0 r1 fun v4 =>
  leftK v4 (Hp.next h) (Hp.mk (Hp.next h) (Hp.next h) T.nil) fun w5 n5 =>
  load1K (Hp.mk n5 n5 (addAll w5 (Hp.objs h))) v4 fun v6 =>
  leftK v6 n5 (Hp.mk n5 n5 (addAll w5 (Hp.objs h))) fun w7 n7 =>
  ptrAddK 1 r1 fun v8 =>
  leftK v8 n7 (Hp.mk n7 n7 T.nil) fun w9 n9 =>
  load1K (Hp.mk n9 n9 (addAll w9 (Hp.objs h))) v8 fun v10 =>
  intK .i64 v10 fun i11 =>
  pairK (callQ F59 [(Value.int .i64 i11)] (Hp.mk n9 n9 (addAll w9 (Hp.objs h)))) fun v12 h12 =>
  leftK v12 n9 h12 fun w13 n13 =>
  leftK (Value.func (.func 60) (List.toArray [v12]) (List.toArray [])) n13 (Hp.mk n13 n13 T.nil) fun w14 n14 =>
  pairK (callQ F58 [v6, (Value.int .i64 (Int.ofNat 3)), (Value.func (.func 60) (List.toArray [v12]) (List.toArray []))] (Hp.mk n14 n14 (addAll w14 (addAll w13 (addAll w9 (addAll w7 (addAll w5 (Hp.objs h)))))))) fun v15 h15 =>
  leftK v15 n14 h15 fun w16 n16 =>
  leftK v15 n16 (Hp.mk n16 n16 T.nil) fun w17 n17 =>
  extK v15 0 fun v18 =>
  intK .i64 v18 fun i19 =>
  extK v15 1 fun v20 =>
  intK .i64 v20 fun i21 =>
  boolN (eqZ i21 (Int.ofNat 0)) fun b22 =>
  ifB b22
  (some (Value.tuple (List.toArray [(Value.int .i64 (Int.ofNat 2)), (Value.int .i64 i19), (Value.int .i64 i21)]), (Hp.mk n17 (Hp.ro h) (addAll w17 (addAll w16 (addAll w14 (addAll w13 (addAll w9 (addAll w7 (addAll w5 (Hp.objs h)))))))))))
  (ptrAddK 3 r1 fun v23 =>
  leftK v23 (Hp.next (Hp.mk n17 (Hp.ro h) (addAll w17 (addAll w16 (addAll w14 (addAll w13 (addAll w9 (addAll w7 (addAll w5 (Hp.objs h)))))))))) (Hp.mk (Hp.next (Hp.mk n17 (Hp.ro h) (addAll w17 (addAll w16 (addAll w14 (addAll w13 (addAll w9 (addAll w7 (addAll w5 (Hp.objs h)))))))))) (Hp.next (Hp.mk n17 (Hp.ro h) (addAll w17 (addAll w16 (addAll w14 (addAll w13 (addAll w9 (addAll w7 (addAll w5 (Hp.objs h)))))))))) T.nil) fun w24 n24 =>
  load1K (Hp.mk n24 n24 (addAll w24 (Hp.objs (Hp.mk n17 (Hp.ro h) (addAll w17 (addAll w16 (addAll w14 (addAll w13 (addAll w9 (addAll w7 (addAll w5 (Hp.objs h)))))))))))) v23 fun v25 =>
  leftK v25 n24 (Hp.mk n24 n24 (addAll w24 (Hp.objs (Hp.mk n17 (Hp.ro h) (addAll w17 (addAll w16 (addAll w14 (addAll w13 (addAll w9 (addAll w7 (addAll w5 (Hp.objs h)))))))))))) fun w26 n26 =>
  ptrAddK 1 r1 fun v27 =>
  leftK v27 n26 (Hp.mk n26 n26 T.nil) fun w28 n28 =>
  load1K (Hp.mk n28 n28 (addAll w28 (Hp.objs (Hp.mk n17 (Hp.ro h) (addAll w17 (addAll w16 (addAll w14 (addAll w13 (addAll w9 (addAll w7 (addAll w5 (Hp.objs h)))))))))))) v27 fun v29 =>
  intK .i64 v29 fun i30 =>
  pairK (callQ F62 [(Value.int .i64 i30)] (Hp.mk n28 n28 (addAll w28 (Hp.objs (Hp.mk n17 (Hp.ro h) (addAll w17 (addAll w16 (addAll w14 (addAll w13 (addAll w9 (addAll w7 (addAll w5 (Hp.objs h))))))))))))) fun v31 h31 =>
  leftK v31 n28 h31 fun w32 n32 =>
  leftK (Value.func (.func 63) (List.toArray [v31]) (List.toArray [])) n32 (Hp.mk n32 n32 T.nil) fun w33 n33 =>
  pairK (callQ F61 [v25, (Value.int .i64 (Int.ofNat 6)), (Value.func (.func 63) (List.toArray [v31]) (List.toArray []))] (Hp.mk n33 n33 (addAll w33 (addAll w32 (addAll w28 (addAll w26 (addAll w24 (Hp.objs (Hp.mk n17 (Hp.ro h) (addAll w17 (addAll w16 (addAll w14 (addAll w13 (addAll w9 (addAll w7 (addAll w5 (Hp.objs h))))))))))))))))) fun v34 h34 =>
  leftK v34 n33 h34 fun w35 n35 =>
  leftK v34 n35 (Hp.mk n35 n35 T.nil) fun w36 n36 =>
  extK v34 0 fun v37 =>
  intK .i64 v37 fun i38 =>
  extK v34 1 fun v39 =>
  intK .i64 v39 fun i40 =>
  boolN (eqZ i40 (Int.ofNat 0)) fun b41 =>
  ifB b41
  (some (Value.tuple (List.toArray [(Value.int .i64 (Int.ofNat 3)), (Value.int .i64 i38), (Value.int .i64 i40)]), (Hp.mk n36 (Hp.ro (Hp.mk n17 (Hp.ro h) (addAll w17 (addAll w16 (addAll w14 (addAll w13 (addAll w9 (addAll w7 (addAll w5 (Hp.objs h)))))))))) (addAll w36 (addAll w35 (addAll w33 (addAll w32 (addAll w28 (addAll w26 (addAll w24 (Hp.objs (Hp.mk n17 (Hp.ro h) (addAll w17 (addAll w16 (addAll w14 (addAll w13 (addAll w9 (addAll w7 (addAll w5 (Hp.objs h))))))))))))))))))))
  (ptrAddK 4 r1 fun v42 =>
  load1K (Hp.mk n36 (Hp.ro (Hp.mk n17 (Hp.ro h) (addAll w17 (addAll w16 (addAll w14 (addAll w13 (addAll w9 (addAll w7 (addAll w5 (Hp.objs h)))))))))) (addAll w36 (addAll w35 (addAll w33 (addAll w32 (addAll w28 (addAll w26 (addAll w24 (Hp.objs (Hp.mk n17 (Hp.ro h) (addAll w17 (addAll w16 (addAll w14 (addAll w13 (addAll w9 (addAll w7 (addAll w5 (Hp.objs h)))))))))))))))))) v42 fun v43 =>
  pairK (callQ F64 [v43, (Value.int .i64 (Int.ofNat 4)), (Value.func (.func 65) (List.toArray []) (List.toArray [r1]))] (Hp.mk n36 (Hp.ro (Hp.mk n17 (Hp.ro h) (addAll w17 (addAll w16 (addAll w14 (addAll w13 (addAll w9 (addAll w7 (addAll w5 (Hp.objs h)))))))))) (addAll w36 (addAll w35 (addAll w33 (addAll w32 (addAll w28 (addAll w26 (addAll w24 (Hp.objs (Hp.mk n17 (Hp.ro h) (addAll w17 (addAll w16 (addAll w14 (addAll w13 (addAll w9 (addAll w7 (addAll w5 (Hp.objs h))))))))))))))))))) fun v44 h44 =>
  extK v44 0 fun v45 =>
  intK .i64 v45 fun i46 =>
  extK v44 1 fun v47 =>
  intK .i64 v47 fun i48 =>
  boolN (eqZ i48 (Int.ofNat 0)) fun b49 =>
  ifB b49
  (some (Value.tuple (List.toArray [(Value.int .i64 (Int.ofNat 4)), (Value.int .i64 i46), (Value.int .i64 i48)]), h44))
  (some (Value.tuple (List.toArray [(Value.int .i64 (Int.ofNat 0)), (Value.int .i64 (Int.ofNat 0)), (Value.int .i64 (Int.ofNat 0))]), h44)))))
noncomputable def P45x0 (S : Sg) (r0 : Value) (h : Hp) : CRes :=
  allocK h 26 (Array.toList (Value.cells r0)) fun a0 h0 =>
  ptrAddK 1 a0 fun v1 =>
  load1K h0 v1 fun v2 =>
  intK .i64 v2 fun i3 =>
  pairK (buildSliceV env h0 28 1 (List.toArray [(0, (Value.int .i64 i3))])) fun v4 h4 =>
  pairK (optK (F20 [(Value.int .i64 (Int.ofNat 1)), (Value.int .i64 (Int.ofNat 3)), v4] h4) fun v => some (v, h4)) fun v5 h5 =>
  boolK v5 fun b6 =>
  boolN b6 fun b7 =>
  ifB b7
  (some (Value.tuple (List.toArray [(Value.int .i64 (Int.ofNat 1)), (Value.int .i64 (Int.ofNat 0)), (Value.int .i64 (Int.ofNat 7))]), h5))
  (ptrAddK 2 a0 fun v8 =>
  load1K h5 v8 fun v9 =>
  intK .i64 v9 fun i10 =>
  pairK (buildSliceV env h5 28 1 (List.toArray [(0, (Value.int .i64 i10))])) fun v11 h11 =>
  pairK (optK (F20 [(Value.int .i64 (Int.ofNat 0)), (Value.int .i64 (Int.ofNat 60)), v11] h11) fun v => some (v, h11)) fun v12 h12 =>
  boolK v12 fun b13 =>
  boolN b13 fun b14 =>
  ifB b14
  (some (Value.tuple (List.toArray [(Value.int .i64 (Int.ofNat 1)), (Value.int .i64 (Int.ofNat 0)), (Value.int .i64 (Int.ofNat 7))]), h12))
  (S 1 (AL.v a0 AL.n) h12))
noncomputable def T45 (S : Sg) : Sg := tabC 0 (uV fun r0 => uN fun h => P45x0 S r0 h) (tabC 1 (uV fun r1 => uN fun h => P45x1 S r1 h) (tabN))
noncomputable def F45 (args : List Value) (h : Hp) : CRes := packVals [Kd.v] args fun al => rec' T45 1000000 0 al h
def nt45 : Nat := 1 + (64 - 1)
theorem q45x1 (S : Sg) (r1 : Value) (h : Hp) : P45x1 S r1 h = stepAt (regK env orc35 (nt45)) (finK env Try.f45.results.toList) (collect B45 A45 []) 1 S (AL.v r1 AL.n) h := by kernel_rfl
theorem q45x0 (S : Sg) (r0 : Value) (h : Hp) : P45x0 S r0 h = stepAt (regK env orc35 (nt45)) (finK env Try.f45.results.toList) (collect B45 A45 []) 0 S (AL.v r0 AL.n) h := by kernel_rfl
theorem t45 (S : Sg) : Tab (fun l vs h => stepAt (regK env orc35 nt45) (finK env Try.f45.results.toList) (collect B45 A45 []) l S vs h) (T45 S) := by
  unfold T45
  refine Tab.cons 0 (fun vs0 h q e0 => ?_) ?_
  · obtain ⟨r0, vs1, rfl, e1⟩ := uV_some e0
    obtain ⟨rfl, ee⟩ := uN_some e1
    exact (q45x0 S r0 h).symm.trans ee
  refine Tab.cons 1 (fun vs0 h q e0 => ?_) ?_
  · obtain ⟨r1, vs1, rfl, e1⟩ := uV_some e0
    obtain ⟨rfl, ee⟩ := uN_some e1
    exact (q45x1 S r1 h).symm.trans ee
  exact Tab.nil
theorem r45 : ∀ args h v h', F45 args h = some (v, h') → Runs (C35) (.call 45 args.toArray h) (.ret v h') := by
  intro args h v h' e
  exact fun_sound (C := C35) (fn := Try.f45) (body := B45) (np := 1) (A := A45) (T := T45) (kinds := [Kd.v]) (by kernel_rfl) (by kernel_rfl) (by kernel_rfl) (by kernel_rfl) (regK_ok env_ok) (by kernel_rfl) (fun S => t45 S) e
noncomputable def orc36 := orcQ 45 F45 orc35
noncomputable def C36 : Cfg := cfg orc36
theorem ok36 : C36.Ok := orcQ_ok (C := C35) ok35 r45
noncomputable def B27 : Code := (Try.f27.body).getD .skip
def A27 : Ann := (Ann.node (some (0, [(0, Kd.v)])) bl (bn (bn bl (bn bl (bn (bn bl bl) bl))) (bn bl bl)))
noncomputable def P27x0 (S : Sg) (r0 : Value) (h : Hp) : CRes :=
  allocK h 26 (Array.toList (Value.cells r0)) fun a0 h0 =>
  allocK h0 52 [(Value.slice none 0 0), (Value.int .i64 (Int.ofNat 0)), (Value.int .i64 (Int.ofNat 0)), (Value.slice none 0 0), (Value.slice none 0 0)] fun a1 h1 =>
  loadNK 5 h1 a0 fun v2 =>
  pairK (callQ F45 [v2] h1) fun v3 h3 =>
  extK v3 0 fun v4 =>
  intK .i64 v4 fun i5 =>
  extK v3 1 fun v6 =>
  intK .i64 v6 fun i7 =>
  extK v3 2 fun v8 =>
  intK .i64 v8 fun i9 =>
  boolN (eqZ i9 (Int.ofNat 0)) fun b10 =>
  ifB b10
  (optK (buildV env 52 (List.toArray [])) fun v11 =>
  storeNK 5 h3 a1 v11 fun h12 =>
  loadNK 5 h12 a1 fun v13 => some (Value.tuple (List.toArray [v13, (Value.int .i64 i9)]), h12))
  (loadNK 5 h3 a0 fun v14 =>
  optK (buildV env 52 (List.toArray [(0, v14)])) fun v15 =>
  storeNK 5 h3 a1 v15 fun h16 =>
  loadNK 5 h16 a1 fun v17 => some (Value.tuple (List.toArray [v17, (Value.int .i64 (Int.ofNat 0))]), h16))
noncomputable def T27 (S : Sg) : Sg := tabC 0 (uV fun r0 => uN fun h => P27x0 S r0 h) (tabN)
noncomputable def F27 (args : List Value) (h : Hp) : CRes := packVals [Kd.v] args fun al => rec' T27 1000000 0 al h
def nt27 : Nat := 1 + (19 - 1)
theorem q27x0 (S : Sg) (r0 : Value) (h : Hp) : P27x0 S r0 h = stepAt (regK env orc36 (nt27)) (finK env Try.f27.results.toList) (collect B27 A27 []) 0 S (AL.v r0 AL.n) h := by kernel_rfl
theorem t27 (S : Sg) : Tab (fun l vs h => stepAt (regK env orc36 nt27) (finK env Try.f27.results.toList) (collect B27 A27 []) l S vs h) (T27 S) := by
  unfold T27
  refine Tab.cons 0 (fun vs0 h q e0 => ?_) ?_
  · obtain ⟨r0, vs1, rfl, e1⟩ := uV_some e0
    obtain ⟨rfl, ee⟩ := uN_some e1
    exact (q27x0 S r0 h).symm.trans ee
  exact Tab.nil
theorem r27 : ∀ args h v h', F27 args h = some (v, h') → Runs (C36) (.call 27 args.toArray h) (.ret v h') := by
  intro args h v h' e
  exact fun_sound (C := C36) (fn := Try.f27) (body := B27) (np := 1) (A := A27) (T := T27) (kinds := [Kd.v]) (by kernel_rfl) (by kernel_rfl) (by kernel_rfl) (by kernel_rfl) (regK_ok env_ok) (by kernel_rfl) (fun S => t27 S) e
noncomputable def orc37 := orcQ 27 F27 orc36
noncomputable def C37 : Cfg := cfg orc37
theorem ok37 : C37.Ok := orcQ_ok (C := C36) ok36 r27
noncomputable def B29 : Code := (Try.f29.body).getD .skip
def A29 : Ann := (Ann.node (some (0, [(0, Kd.v)])) bl (bn bl (bn (bn bl (bn (Ann.node (some (1, [(0, Kd.v), (2, Kd.v), (3, Kd.v), (5, Kd.i .i64)])) (bn bl (bn (bn bl bl) (bn (bn (bn bl bl) bl) bl))) bl) bl)) (Ann.node (some (2, [(0, Kd.v), (2, Kd.v), (3, Kd.v)])) bl (bn bl bl)))))
noncomputable def P29x2 (S : Sg) (r0 : Value) (r2 : Value) (r3 : Value) (h : Hp) : CRes :=
  optK (sliceV env h 54 r3 none none none) fun v0 =>
  pairK (copyV env h #[28, 28] (List.toArray [v0, r0])) fun v1 h1 =>
  loadNK 6 h1 r3 fun v2 =>
  storeNK 6 h1 r2 v2 fun h3 =>
  loadNK 6 h3 r2 fun v4 => some (v4, h3)
noncomputable def P29x1 (S : Sg) (r0 : Value) (r2 : Value) (r3 : Value) (r5 : Int) (h : Hp) : CRes :=
  boolZ (ltZ r5 (Int.ofNat 6)) fun b0 =>
  ifB b0
  (idxAK 6 1 r3 r5 fun v1 =>
  store1K h v1 (Value.int .i64 (Int.negSucc 0)) fun h2 =>
  wrap64 (Int.add r5 (Int.ofNat 1)) fun i3 =>
  S 1 (AL.v r0 (AL.v r2 (AL.v r3 (AL.i i3 AL.n)))) h2)
  (S 2 (AL.v r0 (AL.v r2 (AL.v r3 AL.n))) h)
noncomputable def P29x0 (S : Sg) (r0 : Value) (h : Hp) : CRes :=
  allocK h 54 [(Value.int .i64 (Int.ofNat 0)), (Value.int .i64 (Int.ofNat 0)), (Value.int .i64 (Int.ofNat 0)), (Value.int .i64 (Int.ofNat 0)), (Value.int .i64 (Int.ofNat 0)), (Value.int .i64 (Int.ofNat 0))] fun a0 h0 =>
  allocK h0 54 [(Value.int .i64 (Int.ofNat 0)), (Value.int .i64 (Int.ofNat 0)), (Value.int .i64 (Int.ofNat 0)), (Value.int .i64 (Int.ofNat 0)), (Value.int .i64 (Int.ofNat 0)), (Value.int .i64 (Int.ofNat 0))] fun a1 h1 =>
  S 1 (AL.v r0 (AL.v a0 (AL.v a1 (AL.i (Int.ofNat 0) AL.n)))) h1
noncomputable def T29 (S : Sg) : Sg := tabC 0 (uV fun r0 => uN fun h => P29x0 S r0 h) (tabC 1 (uV fun r0 => uV fun r2 => uV fun r3 => uI fun r5 => uN fun h => P29x1 S r0 r2 r3 r5 h) (tabC 2 (uV fun r0 => uV fun r2 => uV fun r3 => uN fun h => P29x2 S r0 r2 r3 h) (tabN)))
noncomputable def F29 (args : List Value) (h : Hp) : CRes := packVals [Kd.v] args fun al => rec' T29 1000000 0 al h
def nt29 : Nat := 1 + (15 - 1)
theorem q29x2 (S : Sg) (r0 : Value) (r2 : Value) (r3 : Value) (h : Hp) : P29x2 S r0 r2 r3 h = stepAt (regK env orc37 (nt29)) (finK env Try.f29.results.toList) (collect B29 A29 []) 2 S (AL.v r0 (AL.v r2 (AL.v r3 AL.n))) h := by kernel_rfl
theorem q29x1 (S : Sg) (r0 : Value) (r2 : Value) (r3 : Value) (r5 : Int) (h : Hp) : P29x1 S r0 r2 r3 r5 h = stepAt (regK env orc37 (nt29)) (finK env Try.f29.results.toList) (collect B29 A29 []) 1 S (AL.v r0 (AL.v r2 (AL.v r3 (AL.i r5 AL.n)))) h := by kernel_rfl
theorem q29x0 (S : Sg) (r0 : Value) (h : Hp) : P29x0 S r0 h = stepAt (regK env orc37 (nt29)) (finK env Try.f29.results.toList) (collect B29 A29 []) 0 S (AL.v r0 AL.n) h := by kernel_rfl
theorem t29 (S : Sg) : Tab (fun l vs h => stepAt (regK env orc37 nt29) (finK env Try.f29.results.toList) (collect B29 A29 []) l S vs h) (T29 S) := by
  unfold T29
  refine Tab.cons 0 (fun vs0 h q e0 => ?_) ?_
  · obtain ⟨r0, vs1, rfl, e1⟩ := uV_some e0
    obtain ⟨rfl, ee⟩ := uN_some e1
    exact (q29x0 S r0 h).symm.trans ee
  refine Tab.cons 1 (fun vs0 h q e0 => ?_) ?_
  · obtain ⟨r0, vs1, rfl, e1⟩ := uV_some e0
    obtain ⟨r2, vs2, rfl, e2⟩ := uV_some e1
    obtain ⟨r3, vs3, rfl, e3⟩ := uV_some e2
    obtain ⟨r5, vs4, rfl, e4⟩ := uI_some e3
    obtain ⟨rfl, ee⟩ := uN_some e4
    exact (q29x1 S r0 r2 r3 r5 h).symm.trans ee
  refine Tab.cons 2 (fun vs0 h q e0 => ?_) ?_
  · obtain ⟨r0, vs1, rfl, e1⟩ := uV_some e0
    obtain ⟨r2, vs2, rfl, e2⟩ := uV_some e1
    obtain ⟨r3, vs3, rfl, e3⟩ := uV_some e2
    obtain ⟨rfl, ee⟩ := uN_some e3
    exact (q29x2 S r0 r2 r3 h).symm.trans ee
  exact Tab.nil
theorem r29 : ∀ args h v h', F29 args h = some (v, h') → Runs (C37) (.call 29 args.toArray h) (.ret v h') := by
  intro args h v h' e
  exact fun_sound (C := C37) (fn := Try.f29) (body := B29) (np := 1) (A := A29) (T := T29) (kinds := [Kd.v]) (by kernel_rfl) (by kernel_rfl) (by kernel_rfl) (by kernel_rfl) (regK_ok env_ok) (by kernel_rfl) (fun S => t29 S) e
noncomputable def orc38 := orcQ 29 F29 orc37
noncomputable def C38 : Cfg := cfg orc38
theorem ok38 : C38.Ok := orcQ_ok (C := C37) ok37 r29
noncomputable def B54 : Code := (Try.f54.body).getD .skip
def A54 : Ann := (Ann.node (some (0, [(0, Kd.v)])) bl (bn bl bl))
noncomputable def P54x0 (S : Sg) (r0 : Value) (h : Hp) : CRes :=
  allocK h 54 (Array.toList (Value.cells r0)) fun a0 h0 =>
  some ((Value.func (.func 68) (List.toArray []) (List.toArray [a0])), h0)
noncomputable def T54 (S : Sg) : Sg := tabC 0 (uV fun r0 => uN fun h => P54x0 S r0 h) (tabN)
noncomputable def F54 (args : List Value) (h : Hp) : CRes := packVals [Kd.v] args fun al => rec' T54 1000000 0 al h
def nt54 : Nat := 1 + (4 - 1)
theorem q54x0 (S : Sg) (r0 : Value) (h : Hp) : P54x0 S r0 h = stepAt (regK env orc38 (nt54)) (finK env Try.f54.results.toList) (collect B54 A54 []) 0 S (AL.v r0 AL.n) h := by kernel_rfl
theorem t54 (S : Sg) : Tab (fun l vs h => stepAt (regK env orc38 nt54) (finK env Try.f54.results.toList) (collect B54 A54 []) l S vs h) (T54 S) := by
  unfold T54
  refine Tab.cons 0 (fun vs0 h q e0 => ?_) ?_
  · obtain ⟨r0, vs1, rfl, e1⟩ := uV_some e0
    obtain ⟨rfl, ee⟩ := uN_some e1
    exact (q54x0 S r0 h).symm.trans ee
  exact Tab.nil
theorem r54 : ∀ args h v h', F54 args h = some (v, h') → Runs (C38) (.call 54 args.toArray h) (.ret v h') := by
  intro args h v h' e
  exact fun_sound (C := C38) (fn := Try.f54) (body := B54) (np := 1) (A := A54) (T := T54) (kinds := [Kd.v]) (by kernel_rfl) (by kernel_rfl) (by kernel_rfl) (by kernel_rfl) (regK_ok env_ok) (by kernel_rfl) (fun S => t54 S) e
noncomputable def orc39 := orcQ 54 F54 orc38
noncomputable def C39 : Cfg := cfg orc39
theorem ok39 : C39.Ok := orcQ_ok (C := C38) ok38 r54
noncomputable def B69 : Code := (Try.f69.body).getD .skip
noncomputable def A69 : G.Ann (List KI) := (G.Ann.node (some (0, [KI.reg 0 (Kd.v), KI.reg 1 (Kd.v)])) al (an (an al (an (G.Ann.node (some (1, [KI.reg 0 (Kd.v), KI.loc 3 3, KI.reg 7 (Kd.i .i64), KI.reg 8 (Kd.i .i64), KI.cells 3 [Kd.i .i64, Kd.i .i64]])) (an al (an (an al al) (an (an (an al (an al (an (an al al) al))) al) al))) al) al)) (G.Ann.node (some (2, [])) al al)))
noncomputable def P69x2 (h : Hp) (S : Nat → PAL → Option Value) : Option Value :=
  some (Value.int .i64 (Int.negSucc 0))
noncomputable def P69x1 (h : Hp) (S : Nat → PAL → Option Value) (r0 : Value) (r7 : Int) (r8 : Int) (c3x0 : Int) (c3x1 : Int) : Option Value :=
  boolZ (ltZ r8 r7) fun b0 =>
  ifB b0
  (idxSK 2 r0 r8 fun v1 =>
  loadNK 2 h v1 fun v2 =>
  optK (binV env .eql 50 (Operand.tmp 11) (Operand.tmp 15) (Value.agg (Array.mk [(Value.int .i64 c3x0), (Value.int .i64 c3x1)])) v2) fun v3 =>
  boolK v3 fun b4 =>
  ifB b4
  (some (Value.int .i64 r8))
  (wrap64 (Int.add r8 (Int.ofNat 1)) fun i5 =>
  S 1 (PAL.v r0 (PAL.i r7 (PAL.i i5 (PAL.i c3x0 (PAL.i c3x1 PAL.n)))))))
  (S 2 PAL.n)
noncomputable def P69x0 (h : Hp) (S : Nat → PAL → Option Value) (r0 : Value) (r1 : Value) : Option Value :=
  forceL (Array.toList (Value.cells r1)) fun c0 =>
  lenSK r0 fun i1 =>
  unconsK c0 fun a2 c2 =>
  intK .i64 a2 fun i3 =>
  unconsK c2 fun a4 c4 =>
  intK .i64 a4 fun i5 =>
  nilK c4 (S 1 (PAL.v r0 (PAL.i i1 (PAL.i (Int.ofNat 0) (PAL.i i3 (PAL.i i5 PAL.n))))))
noncomputable def T69 (h : Hp) (S : Nat → PAL → Option Value) : Nat → PAL → Option Value := tabPC 0 (wV fun r0 => wV fun r1 => wN (P69x0 h S r0 r1)) (tabPC 1 (wV fun r0 => wI fun r7 => wI fun r8 => wI fun c3x0 => wI fun c3x1 => wN (P69x1 h S r0 r7 r8 c3x0 c3x1)) (tabPC 2 (wN (P69x2 h S)) (tabPN)))
noncomputable def F69 (args : List Value) (h : Hp) : Option Value := plainO (packArgs [Kd.v, Kd.v] args fun al => G.rec' (T69 h) 1000000 0 al)
def nt69 : Nat := 2 + (19 - 2)
theorem q69x2 (h : Hp) (S : Nat → PAL → Option Value) : P69x2 h S = G.stepAt packP unpackP evXV (regP env pf7 nt69 h) (finP env Try.f69.results.toList) (G.collect B69 A69 []) 2 S PAL.n := by kernel_rfl
theorem q69x1 (h : Hp) (S : Nat → PAL → Option Value) (r0 : Value) (r7 : Int) (r8 : Int) (c3x0 : Int) (c3x1 : Int) : P69x1 h S r0 r7 r8 c3x0 c3x1 = G.stepAt packP unpackP evXV (regP env pf7 nt69 h) (finP env Try.f69.results.toList) (G.collect B69 A69 []) 1 S (PAL.v r0 (PAL.i r7 (PAL.i r8 (PAL.i c3x0 (PAL.i c3x1 PAL.n))))) := by kernel_rfl
theorem q69x0 (h : Hp) (S : Nat → PAL → Option Value) (r0 : Value) (r1 : Value) : P69x0 h S r0 r1 = G.stepAt packP unpackP evXV (regP env pf7 nt69 h) (finP env Try.f69.results.toList) (G.collect B69 A69 []) 0 S (PAL.v r0 (PAL.v r1 PAL.n)) := by kernel_rfl
theorem t69 (h : Hp) (S : Nat → PAL → Option Value) : TabP (fun l al => G.stepAt packP unpackP evXV (regP env pf7 nt69 h) (finP env Try.f69.results.toList) (G.collect B69 A69 []) l S al) (T69 h S) := by
  unfold T69
  refine TabP.cons 0 (fun vs0 q e0 => ?_) ?_
  · obtain ⟨r0, vs1, rfl, e1⟩ := wV_some e0
    obtain ⟨r1, vs2, rfl, e2⟩ := wV_some e1
    obtain ⟨rfl, ee⟩ := wN_some e2
    exact (q69x0 h S r0 r1).symm.trans ee
  refine TabP.cons 1 (fun vs0 q e0 => ?_) ?_
  · obtain ⟨r0, vs1, rfl, e1⟩ := wV_some e0
    obtain ⟨r7, vs2, rfl, e2⟩ := wI_some e1
    obtain ⟨r8, vs3, rfl, e3⟩ := wI_some e2
    obtain ⟨c3x0, vs4, rfl, e4⟩ := wI_some e3
    obtain ⟨c3x1, vs5, rfl, e5⟩ := wI_some e4
    obtain ⟨rfl, ee⟩ := wN_some e5
    exact (q69x1 h S r0 r7 r8 c3x0 c3x1).symm.trans ee
  refine TabP.cons 2 (fun vs0 q e0 => ?_) ?_
  · 
    obtain ⟨rfl, ee⟩ := wN_some e0
    exact (q69x2 h S).symm.trans ee
  exact TabP.nil
theorem r69 : PSound Try.prog 69 F69 := fun_soundP (C := C0) ok0 (pf := pf7) pfok7 (fn := Try.f69) (body := B69) (kinds := [Kd.v, Kd.v]) (A := A69) (T := T69) (by kernel_rfl) (by kernel_rfl) (by kernel_rfl) (by kernel_rfl) (fun h S => t69 h S)
noncomputable def pf8 : PF := pfC 69 F69 pf7
theorem pfok8 : PfSound Try.prog pf8 := pfC_ok r69 pfok7
noncomputable def orc40 := orcP 69 F69 orc39
noncomputable def C40 : Cfg := cfg orc40
theorem ok40 : C40.Ok := orcP_ok (C := C39) ok39 r69
noncomputable def B55 : Code := (Try.f55.body).getD .skip
noncomputable def A55 : G.Ann (List KI) := (G.Ann.node (some (0, [KI.reg 0 (Kd.v), KI.reg 1 (Kd.v)])) al (an al al))
noncomputable def P55x0 (h : Hp) (S : Nat → PAL → Option Value) (r0 : Value) (r1 : Value) : Option Value :=
  forceL (Array.toList (Value.cells r1)) fun c0 =>
  dropR c0 0 fun d1 => takeR d1 2 fun l1 =>
  optK (F69 [r0, (Value.agg (Array.mk l1))] h) fun v2 =>
  intK .i64 v2 fun i3 =>
  boolN (ltZ i3 (Int.ofNat 0)) fun b4 =>
  some (Value.bool b4)
noncomputable def T55 (h : Hp) (S : Nat → PAL → Option Value) : Nat → PAL → Option Value := tabPC 0 (wV fun r0 => wV fun r1 => wN (P55x0 h S r0 r1)) (tabPN)
noncomputable def F55 (args : List Value) (h : Hp) : Option Value := plainO (packArgs [Kd.v, Kd.v] args fun al => G.rec' (T55 h) 1000000 0 al)
def nt55 : Nat := 2 + (9 - 2)
theorem q55x0 (h : Hp) (S : Nat → PAL → Option Value) (r0 : Value) (r1 : Value) : P55x0 h S r0 r1 = G.stepAt packP unpackP evXV (regP env pf8 nt55 h) (finP env Try.f55.results.toList) (G.collect B55 A55 []) 0 S (PAL.v r0 (PAL.v r1 PAL.n)) := by kernel_rfl
theorem t55 (h : Hp) (S : Nat → PAL → Option Value) : TabP (fun l al => G.stepAt packP unpackP evXV (regP env pf8 nt55 h) (finP env Try.f55.results.toList) (G.collect B55 A55 []) l S al) (T55 h S) := by
  unfold T55
  refine TabP.cons 0 (fun vs0 q e0 => ?_) ?_
  · obtain ⟨r0, vs1, rfl, e1⟩ := wV_some e0
    obtain ⟨r1, vs2, rfl, e2⟩ := wV_some e1
    obtain ⟨rfl, ee⟩ := wN_some e2
    exact (q55x0 h S r0 r1).symm.trans ee
  exact TabP.nil
theorem r55 : PSound Try.prog 55 F55 := fun_soundP (C := C0) ok0 (pf := pf8) pfok8 (fn := Try.f55) (body := B55) (kinds := [Kd.v, Kd.v]) (A := A55) (T := T55) (by kernel_rfl) (by kernel_rfl) (by kernel_rfl) (by kernel_rfl) (fun h S => t55 h S)
noncomputable def pf9 : PF := pfC 55 F55 pf8
theorem pfok9 : PfSound Try.prog pf9 := pfC_ok r55 pfok8
noncomputable def orc41 := orcP 55 F55 orc40
noncomputable def C41 : Cfg := cfg orc41
theorem ok41 : C41.Ok := orcP_ok (C := C40) ok40 r55
noncomputable def B16 : Code := (Try.f16.body).getD .skip
noncomputable def A16 : G.Ann (List KI) := (G.Ann.node (some (0, [KI.reg 0 (Kd.v), KI.reg 1 (Kd.i .i64)])) al (an al (an (an al (an (G.Ann.node (some (1, [KI.reg 1 (Kd.i .i64), KI.loc 2 2, KI.loc 4 4, KI.loc 5 5, KI.reg 13 (Kd.i .i64), KI.reg 14 (Kd.i .i64), KI.list 2, KI.cells 4 [Kd.i .i64, Kd.i .i64, Kd.i .i64], KI.cells 5 [Kd.i .i64, Kd.i .i64, Kd.i .i64]])) (an al (an (an al al) (an (an (an al (an al (an al (an (G.Ann.node (some (2, [KI.reg 1 (Kd.i .i64), KI.loc 2 2, KI.loc 4 4, KI.loc 5 5, KI.reg 6 (Kd.i .i64), KI.reg 7 (Kd.b), KI.reg 13 (Kd.i .i64), KI.reg 14 (Kd.i .i64), KI.reg 20 (Kd.v), KI.reg 21 (Kd.i .i64), KI.reg 22 (Kd.i .i64), KI.list 2, KI.cells 4 [Kd.i .i64, Kd.i .i64, Kd.i .i64], KI.cells 5 [Kd.i .i64, Kd.i .i64, Kd.i .i64]])) (an al (an (an al al) (an (an (an al (an (an al (an al (an al (an al (an al (G.Ann.node (some (3, [KI.reg 1 (Kd.i .i64), KI.loc 2 2, KI.loc 4 4, KI.loc 5 5, KI.reg 6 (Kd.i .i64), KI.reg 7 (Kd.b), KI.reg 13 (Kd.i .i64), KI.reg 14 (Kd.i .i64), KI.reg 20 (Kd.v), KI.reg 21 (Kd.i .i64), KI.reg 22 (Kd.i .i64), KI.reg 39 (Kd.b), KI.list 2, KI.cells 4 [Kd.i .i64, Kd.i .i64, Kd.i .i64], KI.cells 5 [Kd.i .i64, Kd.i .i64, Kd.i .i64]])) al al)))))) al)) al) (G.Ann.node (some (4, [KI.reg 1 (Kd.i .i64), KI.loc 2 2, KI.loc 4 4, KI.loc 5 5, KI.reg 6 (Kd.i .i64), KI.reg 7 (Kd.b), KI.reg 13 (Kd.i .i64), KI.reg 14 (Kd.i .i64), KI.reg 20 (Kd.v), KI.reg 21 (Kd.i .i64), KI.reg 22 (Kd.i .i64), KI.list 2, KI.cells 4 [Kd.i .i64, Kd.i .i64, Kd.i .i64], KI.cells 5 [Kd.i .i64, Kd.i .i64, Kd.i .i64]])) al al)))) al) al)))) al) (G.Ann.node (some (5, [KI.reg 1 (Kd.i .i64), KI.loc 2 2, KI.loc 4 4, KI.loc 5 5, KI.reg 13 (Kd.i .i64), KI.reg 14 (Kd.i .i64), KI.list 2, KI.cells 4 [Kd.i .i64, Kd.i .i64, Kd.i .i64], KI.cells 5 [Kd.i .i64, Kd.i .i64, Kd.i .i64]])) al al)))) al) al)) (G.Ann.node (some (6, [KI.loc 4 4, KI.loc 5 5, KI.cells 4 [Kd.i .i64, Kd.i .i64, Kd.i .i64], KI.cells 5 [Kd.i .i64, Kd.i .i64, Kd.i .i64]])) al al))))
noncomputable def P16x6 (h : Hp) (S : Nat → PAL → Option Value) (c4x0 : Int) (c4x1 : Int) (c4x2 : Int) (c5x0 : Int) (c5x1 : Int) (c5x2 : Int) : Option Value :=
  aggK (Value.agg (Array.mk [(Value.int .i64 c5x0), (Value.int .i64 c5x1), (Value.int .i64 c5x2)])) fun l0 => ifB (Nat.beq (lenR l0) 3) (segR 0 l0 [(Value.int .i64 c4x0), (Value.int .i64 c4x1), (Value.int .i64 c4x2)] fun c0 =>
  dropR c0 0 fun d1 => takeR d1 3 fun l1 => some (Value.agg (Array.mk l1))) none
noncomputable def P16x5 (h : Hp) (S : Nat → PAL → Option Value) (r1 : Int) (r13 : Int) (r14 : Int) (c2 : List Value) (c4x0 : Int) (c4x1 : Int) (c4x2 : Int) (c5x0 : Int) (c5x1 : Int) (c5x2 : Int) : Option Value :=
  wrap64 (Int.add r14 (Int.ofNat 1)) fun i0 =>
  S 1 (PAL.i r1 (PAL.i r13 (PAL.i i0 (PAL.l c2 (PAL.i c4x0 (PAL.i c4x1 (PAL.i c4x2 (PAL.i c5x0 (PAL.i c5x1 (PAL.i c5x2 PAL.n))))))))))
noncomputable def P16x4 (h : Hp) (S : Nat → PAL → Option Value) (r1 : Int) (r6 : Int) (r7 : Bool) (r13 : Int) (r14 : Int) (r20 : Value) (r21 : Int) (r22 : Int) (c2 : List Value) (c4x0 : Int) (c4x1 : Int) (c4x2 : Int) (c5x0 : Int) (c5x1 : Int) (c5x2 : Int) : Option Value :=
  wrap64 (Int.add r22 (Int.ofNat 1)) fun i0 =>
  S 2 (PAL.i r1 (PAL.i r6 (PAL.b r7 (PAL.i r13 (PAL.i r14 (PAL.v r20 (PAL.i r21 (PAL.i i0 (PAL.l c2 (PAL.i c4x0 (PAL.i c4x1 (PAL.i c4x2 (PAL.i c5x0 (PAL.i c5x1 (PAL.i c5x2 PAL.n)))))))))))))))
noncomputable def P16x3 (h : Hp) (S : Nat → PAL → Option Value) (r1 : Int) (r6 : Int) (r7 : Bool) (r13 : Int) (r14 : Int) (r20 : Value) (r21 : Int) (r22 : Int) (r39 : Bool) (c2 : List Value) (c4x0 : Int) (c4x1 : Int) (c4x2 : Int) (c5x0 : Int) (c5x1 : Int) (c5x2 : Int) : Option Value :=
  ifB r39
  (onI r6 (fun n0 => ifB (Nat.ble (Nat.succ n0) 3) (forceN (Nat.add 0 (Nat.mul n0 1)) fun o0 =>
  nthR [(Value.int .i64 c5x0), (Value.int .i64 c5x1), (Value.int .i64 c5x2)] o0 fun v1 =>
  intK .i64 v1 fun i2 =>
  wrap64 (Int.add i2 (Int.ofNat 1)) fun i3 =>
  onI r6 (fun n4 => ifB (Nat.ble (Nat.succ n4) 3) (forceN (Nat.add 0 (Nat.mul n4 1)) fun o4 =>
  setNthR [(Value.int .i64 c5x0), (Value.int .i64 c5x1), (Value.int .i64 c5x2)] o4 (Value.int .i64 i3) fun c5 =>
  unconsK c5 fun a6 c6 =>
  intK .i64 a6 fun i7 =>
  unconsK c6 fun a8 c8 =>
  intK .i64 a8 fun i9 =>
  unconsK c8 fun a10 c10 =>
  intK .i64 a10 fun i11 =>
  nilK c10 (S 4 (PAL.i r1 (PAL.i r6 (PAL.b r7 (PAL.i r13 (PAL.i r14 (PAL.v r20 (PAL.i r21 (PAL.i r22 (PAL.l c2 (PAL.i c4x0 (PAL.i c4x1 (PAL.i c4x2 (PAL.i i7 (PAL.i i9 (PAL.i i11 PAL.n))))))))))))))))) none) (fun _ => none)) none) (fun _ => none))
  (S 4 (PAL.i r1 (PAL.i r6 (PAL.b r7 (PAL.i r13 (PAL.i r14 (PAL.v r20 (PAL.i r21 (PAL.i r22 (PAL.l c2 (PAL.i c4x0 (PAL.i c4x1 (PAL.i c4x2 (PAL.i c5x0 (PAL.i c5x1 (PAL.i c5x2 PAL.n))))))))))))))))
noncomputable def P16x2 (h : Hp) (S : Nat → PAL → Option Value) (r1 : Int) (r6 : Int) (r7 : Bool) (r13 : Int) (r14 : Int) (r20 : Value) (r21 : Int) (r22 : Int) (c2 : List Value) (c4x0 : Int) (c4x1 : Int) (c4x2 : Int) (c5x0 : Int) (c5x1 : Int) (c5x2 : Int) : Option Value :=
  boolZ (ltZ r22 r21) fun b0 =>
  ifB b0
  (idxSK 4 r20 r22 fun v1 =>
  loadNK 4 h v1 fun v2 =>
  aggK v2 fun l3 => ifB (Nat.beq (lenR l3) 4) (segR 0 l3 [(Value.string (ByteArray.mk #[])), (Value.int .i64 (Int.ofNat 0)), (Value.int .i64 (Int.ofNat 0)), (Value.int .i64 (Int.ofNat 0))] fun c3 =>
  onI r22 (fun n4 => ifB (Nat.ble (Nat.succ n4) 6) (forceN (Nat.add 5 (Nat.mul n4 1)) fun o4 =>
  nthR c2 o4 fun v5 =>
  intK .i64 v5 fun i6 =>
  boolN (eqZ i6 r1) fun b7 =>
  ifB b7
  (S 4 (PAL.i r1 (PAL.i r6 (PAL.b r7 (PAL.i r13 (PAL.i r14 (PAL.v r20 (PAL.i r21 (PAL.i r22 (PAL.l c2 (PAL.i c4x0 (PAL.i c4x1 (PAL.i c4x2 (PAL.i c5x0 (PAL.i c5x1 (PAL.i c5x2 PAL.n))))))))))))))))
  (nthR c3 2 fun v8 =>
  intK .i64 v8 fun i9 =>
  boolZ (eqZ i9 r6) fun b10 =>
  ifB b10
  (S 4 (PAL.i r1 (PAL.i r6 (PAL.b true (PAL.i r13 (PAL.i r14 (PAL.v r20 (PAL.i r21 (PAL.i r22 (PAL.l c2 (PAL.i c4x0 (PAL.i c4x1 (PAL.i c4x2 (PAL.i c5x0 (PAL.i c5x1 (PAL.i c5x2 PAL.n))))))))))))))))
  (nthR c3 2 fun v11 =>
  intK .i64 v11 fun i12 =>
  boolZ (ltZ r6 i12) fun b13 =>
  ifB b13
  (S 3 (PAL.i r1 (PAL.i r6 (PAL.b r7 (PAL.i r13 (PAL.i r14 (PAL.v r20 (PAL.i r21 (PAL.i r22 (PAL.b r7 (PAL.l c2 (PAL.i c4x0 (PAL.i c4x1 (PAL.i c4x2 (PAL.i c5x0 (PAL.i c5x1 (PAL.i c5x2 PAL.n)))))))))))))))))
  (S 3 (PAL.i r1 (PAL.i r6 (PAL.b r7 (PAL.i r13 (PAL.i r14 (PAL.v r20 (PAL.i r21 (PAL.i r22 (PAL.b false (PAL.l c2 (PAL.i c4x0 (PAL.i c4x1 (PAL.i c4x2 (PAL.i c5x0 (PAL.i c5x1 (PAL.i c5x2 PAL.n)))))))))))))))))))) none) (fun _ => none)) none)
  (S 5 (PAL.i r1 (PAL.i r13 (PAL.i r14 (PAL.l c2 (PAL.i c4x0 (PAL.i c4x1 (PAL.i c4x2 (PAL.i c5x0 (PAL.i c5x1 (PAL.i c5x2 PAL.n)))))))))))
noncomputable def P16x1 (h : Hp) (S : Nat → PAL → Option Value) (r1 : Int) (r13 : Int) (r14 : Int) (c2 : List Value) (c4x0 : Int) (c4x1 : Int) (c4x2 : Int) (c5x0 : Int) (c5x1 : Int) (c5x2 : Int) : Option Value :=
  boolZ (ltZ r14 r13) fun b0 =>
  ifB b0
  (nthR c2 3 fun v1 =>
  lenSK v1 fun i2 =>
  S 2 (PAL.i r1 (PAL.i r14 (PAL.b false (PAL.i r13 (PAL.i r14 (PAL.v v1 (PAL.i i2 (PAL.i (Int.ofNat 0) (PAL.l c2 (PAL.i c4x0 (PAL.i c4x1 (PAL.i c4x2 (PAL.i c5x0 (PAL.i c5x1 (PAL.i c5x2 PAL.n))))))))))))))))
  (S 6 (PAL.i c4x0 (PAL.i c4x1 (PAL.i c4x2 (PAL.i c5x0 (PAL.i c5x1 (PAL.i c5x2 PAL.n)))))))
noncomputable def P16x0 (h : Hp) (S : Nat → PAL → Option Value) (r0 : Value) (r1 : Int) : Option Value :=
  forceL (Array.toList (Value.cells r0)) fun c0 =>
  nthR c0 1 fun v1 =>
  intK .i64 v1 fun i2 =>
  S 1 (PAL.i r1 (PAL.i i2 (PAL.i (Int.ofNat 0) (PAL.l c0 (PAL.i (Int.ofNat 0) (PAL.i (Int.ofNat 0) (PAL.i (Int.ofNat 0) (PAL.i (Int.ofNat 0) (PAL.i (Int.ofNat 0) (PAL.i (Int.ofNat 0) PAL.n))))))))))
noncomputable def T16 (h : Hp) (S : Nat → PAL → Option Value) : Nat → PAL → Option Value := tabPC 0 (wV fun r0 => wI fun r1 => wN (P16x0 h S r0 r1)) (tabPC 1 (wI fun r1 => wI fun r13 => wI fun r14 => wL fun c2 => wI fun c4x0 => wI fun c4x1 => wI fun c4x2 => wI fun c5x0 => wI fun c5x1 => wI fun c5x2 => wN (P16x1 h S r1 r13 r14 c2 c4x0 c4x1 c4x2 c5x0 c5x1 c5x2)) (tabPC 2 (wI fun r1 => wI fun r6 => wB fun r7 => wI fun r13 => wI fun r14 => wV fun r20 => wI fun r21 => wI fun r22 => wL fun c2 => wI fun c4x0 => wI fun c4x1 => wI fun c4x2 => wI fun c5x0 => wI fun c5x1 => wI fun c5x2 => wN (P16x2 h S r1 r6 r7 r13 r14 r20 r21 r22 c2 c4x0 c4x1 c4x2 c5x0 c5x1 c5x2)) (tabPC 3 (wI fun r1 => wI fun r6 => wB fun r7 => wI fun r13 => wI fun r14 => wV fun r20 => wI fun r21 => wI fun r22 => wB fun r39 => wL fun c2 => wI fun c4x0 => wI fun c4x1 => wI fun c4x2 => wI fun c5x0 => wI fun c5x1 => wI fun c5x2 => wN (P16x3 h S r1 r6 r7 r13 r14 r20 r21 r22 r39 c2 c4x0 c4x1 c4x2 c5x0 c5x1 c5x2)) (tabPC 4 (wI fun r1 => wI fun r6 => wB fun r7 => wI fun r13 => wI fun r14 => wV fun r20 => wI fun r21 => wI fun r22 => wL fun c2 => wI fun c4x0 => wI fun c4x1 => wI fun c4x2 => wI fun c5x0 => wI fun c5x1 => wI fun c5x2 => wN (P16x4 h S r1 r6 r7 r13 r14 r20 r21 r22 c2 c4x0 c4x1 c4x2 c5x0 c5x1 c5x2)) (tabPC 5 (wI fun r1 => wI fun r13 => wI fun r14 => wL fun c2 => wI fun c4x0 => wI fun c4x1 => wI fun c4x2 => wI fun c5x0 => wI fun c5x1 => wI fun c5x2 => wN (P16x5 h S r1 r13 r14 c2 c4x0 c4x1 c4x2 c5x0 c5x1 c5x2)) (tabPC 6 (wI fun c4x0 => wI fun c4x1 => wI fun c4x2 => wI fun c5x0 => wI fun c5x1 => wI fun c5x2 => wN (P16x6 h S c4x0 c4x1 c4x2 c5x0 c5x1 c5x2)) (tabPN)))))))
noncomputable def F16 (args : List Value) (h : Hp) : Option Value := plainO (packArgs [Kd.v, Kd.i .i64] args fun al => G.rec' (T16 h) 1000000 0 al)
def nt16 : Nat := 2 + (55 - 2)
theorem q16x6 (h : Hp) (S : Nat → PAL → Option Value) (c4x0 : Int) (c4x1 : Int) (c4x2 : Int) (c5x0 : Int) (c5x1 : Int) (c5x2 : Int) : P16x6 h S c4x0 c4x1 c4x2 c5x0 c5x1 c5x2 = G.stepAt packP unpackP evXV (regP env pf9 nt16 h) (finP env Try.f16.results.toList) (G.collect B16 A16 []) 6 S (PAL.i c4x0 (PAL.i c4x1 (PAL.i c4x2 (PAL.i c5x0 (PAL.i c5x1 (PAL.i c5x2 PAL.n)))))) := by kernel_rfl
theorem q16x5 (h : Hp) (S : Nat → PAL → Option Value) (r1 : Int) (r13 : Int) (r14 : Int) (c2 : List Value) (c4x0 : Int) (c4x1 : Int) (c4x2 : Int) (c5x0 : Int) (c5x1 : Int) (c5x2 : Int) : P16x5 h S r1 r13 r14 c2 c4x0 c4x1 c4x2 c5x0 c5x1 c5x2 = G.stepAt packP unpackP evXV (regP env pf9 nt16 h) (finP env Try.f16.results.toList) (G.collect B16 A16 []) 5 S (PAL.i r1 (PAL.i r13 (PAL.i r14 (PAL.l c2 (PAL.i c4x0 (PAL.i c4x1 (PAL.i c4x2 (PAL.i c5x0 (PAL.i c5x1 (PAL.i c5x2 PAL.n)))))))))) := by kernel_rfl
theorem q16x4 (h : Hp) (S : Nat → PAL → Option Value) (r1 : Int) (r6 : Int) (r7 : Bool) (r13 : Int) (r14 : Int) (r20 : Value) (r21 : Int) (r22 : Int) (c2 : List Value) (c4x0 : Int) (c4x1 : Int) (c4x2 : Int) (c5x0 : Int) (c5x1 : Int) (c5x2 : Int) : P16x4 h S r1 r6 r7 r13 r14 r20 r21 r22 c2 c4x0 c4x1 c4x2 c5x0 c5x1 c5x2 = G.stepAt packP unpackP evXV (regP env pf9 nt16 h) (finP env Try.f16.results.toList) (G.collect B16 A16 []) 4 S (PAL.i r1 (PAL.i r6 (PAL.b r7 (PAL.i r13 (PAL.i r14 (PAL.v r20 (PAL.i r21 (PAL.i r22 (PAL.l c2 (PAL.i c4x0 (PAL.i c4x1 (PAL.i c4x2 (PAL.i c5x0 (PAL.i c5x1 (PAL.i c5x2 PAL.n))))))))))))))) := by kernel_rfl
theorem q16x3 (h : Hp) (S : Nat → PAL → Option Value) (r1 : Int) (r6 : Int) (r7 : Bool) (r13 : Int) (r14 : Int) (r20 : Value) (r21 : Int) (r22 : Int) (r39 : Bool) (c2 : List Value) (c4x0 : Int) (c4x1 : Int) (c4x2 : Int) (c5x0 : Int) (c5x1 : Int) (c5x2 : Int) : P16x3 h S r1 r6 r7 r13 r14 r20 r21 r22 r39 c2 c4x0 c4x1 c4x2 c5x0 c5x1 c5x2 = G.stepAt packP unpackP evXV (regP env pf9 nt16 h) (finP env Try.f16.results.toList) (G.collect B16 A16 []) 3 S (PAL.i r1 (PAL.i r6 (PAL.b r7 (PAL.i r13 (PAL.i r14 (PAL.v r20 (PAL.i r21 (PAL.i r22 (PAL.b r39 (PAL.l c2 (PAL.i c4x0 (PAL.i c4x1 (PAL.i c4x2 (PAL.i c5x0 (PAL.i c5x1 (PAL.i c5x2 PAL.n)))))))))))))))) := by kernel_rfl
theorem q16x2 (h : Hp) (S : Nat → PAL → Option Value) (r1 : Int) (r6 : Int) (r7 : Bool) (r13 : Int) (r14 : Int) (r20 : Value) (r21 : Int) (r22 : Int) (c2 : List Value) (c4x0 : Int) (c4x1 : Int) (c4x2 : Int) (c5x0 : Int) (c5x1 : Int) (c5x2 : Int) : P16x2 h S r1 r6 r7 r13 r14 r20 r21 r22 c2 c4x0 c4x1 c4x2 c5x0 c5x1 c5x2 = G.stepAt packP unpackP evXV (regP env pf9 nt16 h) (finP env Try.f16.results.toList) (G.collect B16 A16 []) 2 S (PAL.i r1 (PAL.i r6 (PAL.b r7 (PAL.i r13 (PAL.i r14 (PAL.v r20 (PAL.i r21 (PAL.i r22 (PAL.l c2 (PAL.i c4x0 (PAL.i c4x1 (PAL.i c4x2 (PAL.i c5x0 (PAL.i c5x1 (PAL.i c5x2 PAL.n))))))))))))))) := by kernel_rfl
theorem q16x1 (h : Hp) (S : Nat → PAL → Option Value) (r1 : Int) (r13 : Int) (r14 : Int) (c2 : List Value) (c4x0 : Int) (c4x1 : Int) (c4x2 : Int) (c5x0 : Int) (c5x1 : Int) (c5x2 : Int) : P16x1 h S r1 r13 r14 c2 c4x0 c4x1 c4x2 c5x0 c5x1 c5x2 = G.stepAt packP unpackP evXV (regP env pf9 nt16 h) (finP env Try.f16.results.toList) (G.collect B16 A16 []) 1 S (PAL.i r1 (PAL.i r13 (PAL.i r14 (PAL.l c2 (PAL.i c4x0 (PAL.i c4x1 (PAL.i c4x2 (PAL.i c5x0 (PAL.i c5x1 (PAL.i c5x2 PAL.n)))))))))) := by kernel_rfl
theorem q16x0 (h : Hp) (S : Nat → PAL → Option Value) (r0 : Value) (r1 : Int) : P16x0 h S r0 r1 = G.stepAt packP unpackP evXV (regP env pf9 nt16 h) (finP env Try.f16.results.toList) (G.collect B16 A16 []) 0 S (PAL.v r0 (PAL.i r1 PAL.n)) := by kernel_rfl
theorem t16 (h : Hp) (S : Nat → PAL → Option Value) : TabP (fun l al => G.stepAt packP unpackP evXV (regP env pf9 nt16 h) (finP env Try.f16.results.toList) (G.collect B16 A16 []) l S al) (T16 h S) := by
  unfold T16
  refine TabP.cons 0 (fun vs0 q e0 => ?_) ?_
  · obtain ⟨r0, vs1, rfl, e1⟩ := wV_some e0
    obtain ⟨r1, vs2, rfl, e2⟩ := wI_some e1
    obtain ⟨rfl, ee⟩ := wN_some e2
    exact (q16x0 h S r0 r1).symm.trans ee
  refine TabP.cons 1 (fun vs0 q e0 => ?_) ?_
  · obtain ⟨r1, vs1, rfl, e1⟩ := wI_some e0
    obtain ⟨r13, vs2, rfl, e2⟩ := wI_some e1
    obtain ⟨r14, vs3, rfl, e3⟩ := wI_some e2
    obtain ⟨c2, vs4, rfl, e4⟩ := wL_some e3
    obtain ⟨c4x0, vs5, rfl, e5⟩ := wI_some e4
    obtain ⟨c4x1, vs6, rfl, e6⟩ := wI_some e5
    obtain ⟨c4x2, vs7, rfl, e7⟩ := wI_some e6
    obtain ⟨c5x0, vs8, rfl, e8⟩ := wI_some e7
    obtain ⟨c5x1, vs9, rfl, e9⟩ := wI_some e8
    obtain ⟨c5x2, vs10, rfl, e10⟩ := wI_some e9
    obtain ⟨rfl, ee⟩ := wN_some e10
    exact (q16x1 h S r1 r13 r14 c2 c4x0 c4x1 c4x2 c5x0 c5x1 c5x2).symm.trans ee
  refine TabP.cons 2 (fun vs0 q e0 => ?_) ?_
  · obtain ⟨r1, vs1, rfl, e1⟩ := wI_some e0
    obtain ⟨r6, vs2, rfl, e2⟩ := wI_some e1
    obtain ⟨r7, vs3, rfl, e3⟩ := wB_some e2
    obtain ⟨r13, vs4, rfl, e4⟩ := wI_some e3
    obtain ⟨r14, vs5, rfl, e5⟩ := wI_some e4
    obtain ⟨r20, vs6, rfl, e6⟩ := wV_some e5
    obtain ⟨r21, vs7, rfl, e7⟩ := wI_some e6
    obtain ⟨r22, vs8, rfl, e8⟩ := wI_some e7
    obtain ⟨c2, vs9, rfl, e9⟩ := wL_some e8
    obtain ⟨c4x0, vs10, rfl, e10⟩ := wI_some e9
    obtain ⟨c4x1, vs11, rfl, e11⟩ := wI_some e10
    obtain ⟨c4x2, vs12, rfl, e12⟩ := wI_some e11
    obtain ⟨c5x0, vs13, rfl, e13⟩ := wI_some e12
    obtain ⟨c5x1, vs14, rfl, e14⟩ := wI_some e13
    obtain ⟨c5x2, vs15, rfl, e15⟩ := wI_some e14
    obtain ⟨rfl, ee⟩ := wN_some e15
    exact (q16x2 h S r1 r6 r7 r13 r14 r20 r21 r22 c2 c4x0 c4x1 c4x2 c5x0 c5x1 c5x2).symm.trans ee
  refine TabP.cons 3 (fun vs0 q e0 => ?_) ?_
  · obtain ⟨r1, vs1, rfl, e1⟩ := wI_some e0
    obtain ⟨r6, vs2, rfl, e2⟩ := wI_some e1
    obtain ⟨r7, vs3, rfl, e3⟩ := wB_some e2
    obtain ⟨r13, vs4, rfl, e4⟩ := wI_some e3
    obtain ⟨r14, vs5, rfl, e5⟩ := wI_some e4
    obtain ⟨r20, vs6, rfl, e6⟩ := wV_some e5
    obtain ⟨r21, vs7, rfl, e7⟩ := wI_some e6
    obtain ⟨r22, vs8, rfl, e8⟩ := wI_some e7
    obtain ⟨r39, vs9, rfl, e9⟩ := wB_some e8
    obtain ⟨c2, vs10, rfl, e10⟩ := wL_some e9
    obtain ⟨c4x0, vs11, rfl, e11⟩ := wI_some e10
    obtain ⟨c4x1, vs12, rfl, e12⟩ := wI_some e11
    obtain ⟨c4x2, vs13, rfl, e13⟩ := wI_some e12
    obtain ⟨c5x0, vs14, rfl, e14⟩ := wI_some e13
    obtain ⟨c5x1, vs15, rfl, e15⟩ := wI_some e14
    obtain ⟨c5x2, vs16, rfl, e16⟩ := wI_some e15
    obtain ⟨rfl, ee⟩ := wN_some e16
    exact (q16x3 h S r1 r6 r7 r13 r14 r20 r21 r22 r39 c2 c4x0 c4x1 c4x2 c5x0 c5x1 c5x2).symm.trans ee
  refine TabP.cons 4 (fun vs0 q e0 => ?_) ?_
  · obtain ⟨r1, vs1, rfl, e1⟩ := wI_some e0
    obtain ⟨r6, vs2, rfl, e2⟩ := wI_some e1
    obtain ⟨r7, vs3, rfl, e3⟩ := wB_some e2
    obtain ⟨r13, vs4, rfl, e4⟩ := wI_some e3
    obtain ⟨r14, vs5, rfl, e5⟩ := wI_some e4
    obtain ⟨r20, vs6, rfl, e6⟩ := wV_some e5
    obtain ⟨r21, vs7, rfl, e7⟩ := wI_some e6
    obtain ⟨r22, vs8, rfl, e8⟩ := wI_some e7
    obtain ⟨c2, vs9, rfl, e9⟩ := wL_some e8
    obtain ⟨c4x0, vs10, rfl, e10⟩ := wI_some e9
    obtain ⟨c4x1, vs11, rfl, e11⟩ := wI_some e10
    obtain ⟨c4x2, vs12, rfl, e12⟩ := wI_some e11
    obtain ⟨c5x0, vs13, rfl, e13⟩ := wI_some e12
    obtain ⟨c5x1, vs14, rfl, e14⟩ := wI_some e13
    obtain ⟨c5x2, vs15, rfl, e15⟩ := wI_some e14
    obtain ⟨rfl, ee⟩ := wN_some e15
    exact (q16x4 h S r1 r6 r7 r13 r14 r20 r21 r22 c2 c4x0 c4x1 c4x2 c5x0 c5x1 c5x2).symm.trans ee
  refine TabP.cons 5 (fun vs0 q e0 => ?_) ?_
  · obtain ⟨r1, vs1, rfl, e1⟩ := wI_some e0
    obtain ⟨r13, vs2, rfl, e2⟩ := wI_some e1
    obtain ⟨r14, vs3, rfl, e3⟩ := wI_some e2
    obtain ⟨c2, vs4, rfl, e4⟩ := wL_some e3
    obtain ⟨c4x0, vs5, rfl, e5⟩ := wI_some e4
    obtain ⟨c4x1, vs6, rfl, e6⟩ := wI_some e5
    obtain ⟨c4x2, vs7, rfl, e7⟩ := wI_some e6
    obtain ⟨c5x0, vs8, rfl, e8⟩ := wI_some e7
    obtain ⟨c5x1, vs9, rfl, e9⟩ := wI_some e8
    obtain ⟨c5x2, vs10, rfl, e10⟩ := wI_some e9
    obtain ⟨rfl, ee⟩ := wN_some e10
    exact (q16x5 h S r1 r13 r14 c2 c4x0 c4x1 c4x2 c5x0 c5x1 c5x2).symm.trans ee
  refine TabP.cons 6 (fun vs0 q e0 => ?_) ?_
  · obtain ⟨c4x0, vs1, rfl, e1⟩ := wI_some e0
    obtain ⟨c4x1, vs2, rfl, e2⟩ := wI_some e1
    obtain ⟨c4x2, vs3, rfl, e3⟩ := wI_some e2
    obtain ⟨c5x0, vs4, rfl, e4⟩ := wI_some e3
    obtain ⟨c5x1, vs5, rfl, e5⟩ := wI_some e4
    obtain ⟨c5x2, vs6, rfl, e6⟩ := wI_some e5
    obtain ⟨rfl, ee⟩ := wN_some e6
    exact (q16x6 h S c4x0 c4x1 c4x2 c5x0 c5x1 c5x2).symm.trans ee
  exact TabP.nil
theorem r16 : PSound Try.prog 16 F16 := fun_soundP (C := C0) ok0 (pf := pf9) pfok9 (fn := Try.f16) (body := B16) (kinds := [Kd.v, Kd.i .i64]) (A := A16) (T := T16) (by kernel_rfl) (by kernel_rfl) (by kernel_rfl) (by kernel_rfl) (fun h S => t16 h S)
noncomputable def pf10 : PF := pfC 16 F16 pf9
theorem pfok10 : PfSound Try.prog pf10 := pfC_ok r16 pfok9
noncomputable def orc42 := orcP 16 F16 orc41
noncomputable def C42 : Cfg := cfg orc42
theorem ok42 : C42.Ok := orcP_ok (C := C41) ok41 r16
noncomputable def B31 : Code := (Try.f31.body).getD .skip
noncomputable def A31 : G.Ann (List KI) := (G.Ann.node (some (0, [KI.reg 0 (Kd.v), KI.reg 1 (Kd.v)])) al (an al al))
noncomputable def P31x0 (h : Hp) (S : Nat → PAL → Option Value) (r0 : Value) (r1 : Value) : Option Value :=
  forceL (Array.toList (Value.cells r0)) fun c0 =>
  forceL (Array.toList (Value.cells r1)) fun c1 =>
  nthR c0 0 fun v2 =>
  intK .i64 v2 fun i3 =>
  nthR c1 0 fun v4 =>
  intK .i64 v4 fun i5 =>
  wrap64 (Int.add i3 i5) fun i6 =>
  nthR c0 1 fun v7 =>
  intK .i64 v7 fun i8 =>
  nthR c1 1 fun v9 =>
  intK .i64 v9 fun i10 =>
  wrap64 (Int.add i8 i10) fun i11 =>
  optK (buildV env 42 (List.toArray [(0, (Value.int .i64 i6)), (1, (Value.int .i64 i11))])) fun v12 =>
  aggK v12 fun l13 => ifB (Nat.beq (lenR l13) 2) (segR 0 l13 [(Value.int .i64 (Int.ofNat 0)), (Value.int .i64 (Int.ofNat 0))] fun c13 =>
  dropR c13 0 fun d14 => takeR d14 2 fun l14 => some (Value.agg (Array.mk l14))) none
noncomputable def T31 (h : Hp) (S : Nat → PAL → Option Value) : Nat → PAL → Option Value := tabPC 0 (wV fun r0 => wV fun r1 => wN (P31x0 h S r0 r1)) (tabPN)
noncomputable def F31 (args : List Value) (h : Hp) : Option Value := plainO (packArgs [Kd.v, Kd.v] args fun al => G.rec' (T31 h) 1000000 0 al)
def nt31 : Nat := 2 + (16 - 2)
theorem q31x0 (h : Hp) (S : Nat → PAL → Option Value) (r0 : Value) (r1 : Value) : P31x0 h S r0 r1 = G.stepAt packP unpackP evXV (regP env pf10 nt31 h) (finP env Try.f31.results.toList) (G.collect B31 A31 []) 0 S (PAL.v r0 (PAL.v r1 PAL.n)) := by kernel_rfl
theorem t31 (h : Hp) (S : Nat → PAL → Option Value) : TabP (fun l al => G.stepAt packP unpackP evXV (regP env pf10 nt31 h) (finP env Try.f31.results.toList) (G.collect B31 A31 []) l S al) (T31 h S) := by
  unfold T31
  refine TabP.cons 0 (fun vs0 q e0 => ?_) ?_
  · obtain ⟨r0, vs1, rfl, e1⟩ := wV_some e0
    obtain ⟨r1, vs2, rfl, e2⟩ := wV_some e1
    obtain ⟨rfl, ee⟩ := wN_some e2
    exact (q31x0 h S r0 r1).symm.trans ee
  exact TabP.nil
theorem r31 : PSound Try.prog 31 F31 := fun_soundP (C := C0) ok0 (pf := pf10) pfok10 (fn := Try.f31) (body := B31) (kinds := [Kd.v, Kd.v]) (A := A31) (T := T31) (by kernel_rfl) (by kernel_rfl) (by kernel_rfl) (by kernel_rfl) (fun h S => t31 h S)
noncomputable def pf11 : PF := pfC 31 F31 pf10
theorem pfok11 : PfSound Try.prog pf11 := pfC_ok r31 pfok10
noncomputable def orc43 := orcP 31 F31 orc42
noncomputable def C43 : Cfg := cfg orc43
theorem ok43 : C43.Ok := orcP_ok (C := C42) ok42 r31
noncomputable def B30 : Code := (Try.f30.body).getD .skip
def A30 : Ann := (Ann.node (some (0, [(0, Kd.v), (1, Kd.i .i64)])) bl (bn bl (bn bl (bn bl (bn (bn bl (bn (Ann.node (some (1, [(2, Kd.v), (4, Kd.v), (5, Kd.v), (6, Kd.v), (7, Kd.i .i64)])) (bn (bn bl (bn bl bl)) (bn (bn (bn bl bl) bl) bl)) bl) bl)) (Ann.node (some (2, [(4, Kd.v), (5, Kd.v)])) bl bl))))))
noncomputable def P30x2 (S : Sg) (r4 : Value) (r5 : Value) (h : Hp) : CRes :=
  loadNK 6 h r5 fun v0 =>
  storeNK 6 h r4 v0 fun h1 =>
  loadNK 6 h1 r4 fun v2 => some (v2, h1)
noncomputable def P30x1 (S : Sg) (r2 : Value) (r4 : Value) (r5 : Value) (r6 : Value) (r7 : Int) (h : Hp) : CRes :=
  ptrAddK 0 r2 fun v0 =>
  ptrAddK 0 v0 fun v1 =>
  ptrAddK 1 v1 fun v2 =>
  load1K h v2 fun v3 =>
  intK .i64 v3 fun i4 =>
  boolZ (ltZ r7 i4) fun b5 =>
  ifB b5
  (wrap64 (Int.sub r7 (Int.ofNat 1)) fun i6 =>
  idxAK 3 1 r6 i6 fun v7 =>
  load1K h v7 fun v8 =>
  intK .i64 v8 fun i9 =>
  ptrAddK 0 r2 fun v10 =>
  ptrAddK 0 v10 fun v11 =>
  ptrAddK 2 v11 fun v12 =>
  load1K h v12 fun v13 =>
  intK .i64 v13 fun i14 =>
  wrap64 (Int.mul i9 i14) fun i15 =>
  idxAK 3 2 r5 r7 fun v16 =>
  loadNK 2 h v16 fun v17 =>
  optK (buildV env 42 (List.toArray [(0, (Value.int .i64 i15)), (1, (Value.int .i64 i15))])) fun v18 =>
  pairK (optK (F31 [v17, v18] h) fun v => some (v, h)) fun v19 h19 =>
  idxAK 3 2 r5 r7 fun v20 =>
  storeNK 2 h19 v20 v19 fun h21 =>
  wrap64 (Int.add r7 (Int.ofNat 1)) fun i22 =>
  S 1 (AL.v r2 (AL.v r4 (AL.v r5 (AL.v r6 (AL.i i22 AL.n))))) h21)
  (S 2 (AL.v r4 (AL.v r5 AL.n)) h)
noncomputable def P30x0 (S : Sg) (r0 : Value) (r1 : Int) (h : Hp) : CRes :=
  allocK h 56 (Array.toList (Value.cells r0)) fun a0 h0 =>
  allocK h0 65 [(Value.int .i64 (Int.ofNat 0)), (Value.int .i64 (Int.ofNat 0)), (Value.int .i64 (Int.ofNat 0)), (Value.int .i64 (Int.ofNat 0)), (Value.int .i64 (Int.ofNat 0)), (Value.int .i64 (Int.ofNat 0))] fun a1 h1 =>
  allocK h1 65 [(Value.int .i64 (Int.ofNat 0)), (Value.int .i64 (Int.ofNat 0)), (Value.int .i64 (Int.ofNat 0)), (Value.int .i64 (Int.ofNat 0)), (Value.int .i64 (Int.ofNat 0)), (Value.int .i64 (Int.ofNat 0))] fun a2 h2 =>
  optK (sliceV env h2 65 a2 none none none) fun v3 =>
  ptrAddK 0 a0 fun v4 =>
  ptrAddK 0 v4 fun v5 =>
  ptrAddK 0 v5 fun v6 =>
  load1K h2 v6 fun v7 =>
  idxSK 4 v7 r1 fun v8 =>
  ptrAddK 3 v8 fun v9 =>
  load1K h2 v9 fun v10 =>
  pairK (copyV env h2 #[33, 33] (List.toArray [v3, v10])) fun v11 h11 =>
  loadNK 11 h11 a0 fun v12 =>
  pairK (optK (F16 [v12, (Value.int .i64 r1)] h11) fun v => some (v, h11)) fun v13 h13 =>
  allocK h13 61 [(Value.int .i64 (Int.ofNat 0)), (Value.int .i64 (Int.ofNat 0)), (Value.int .i64 (Int.ofNat 0))] fun a14 h14 =>
  storeNK 3 h14 a14 v13 fun h15 =>
  S 1 (AL.v a0 (AL.v a1 (AL.v a2 (AL.v a14 (AL.i (Int.ofNat 1) AL.n))))) h15
noncomputable def T30 (S : Sg) : Sg := tabC 0 (uV fun r0 => uI fun r1 => uN fun h => P30x0 S r0 r1 h) (tabC 1 (uV fun r2 => uV fun r4 => uV fun r5 => uV fun r6 => uI fun r7 => uN fun h => P30x1 S r2 r4 r5 r6 r7 h) (tabC 2 (uV fun r4 => uV fun r5 => uN fun h => P30x2 S r4 r5 h) (tabN)))
noncomputable def F30 (args : List Value) (h : Hp) : CRes := packVals [Kd.v, Kd.i .i64] args fun al => rec' T30 1000000 0 al h
def nt30 : Nat := 2 + (49 - 2)
theorem q30x2 (S : Sg) (r4 : Value) (r5 : Value) (h : Hp) : P30x2 S r4 r5 h = stepAt (regK env orc43 (nt30)) (finK env Try.f30.results.toList) (collect B30 A30 []) 2 S (AL.v r4 (AL.v r5 AL.n)) h := by kernel_rfl
theorem q30x1 (S : Sg) (r2 : Value) (r4 : Value) (r5 : Value) (r6 : Value) (r7 : Int) (h : Hp) : P30x1 S r2 r4 r5 r6 r7 h = stepAt (regK env orc43 (nt30)) (finK env Try.f30.results.toList) (collect B30 A30 []) 1 S (AL.v r2 (AL.v r4 (AL.v r5 (AL.v r6 (AL.i r7 AL.n))))) h := by kernel_rfl
theorem q30x0 (S : Sg) (r0 : Value) (r1 : Int) (h : Hp) : P30x0 S r0 r1 h = stepAt (regK env orc43 (nt30)) (finK env Try.f30.results.toList) (collect B30 A30 []) 0 S (AL.v r0 (AL.i r1 AL.n)) h := by kernel_rfl
theorem t30 (S : Sg) : Tab (fun l vs h => stepAt (regK env orc43 nt30) (finK env Try.f30.results.toList) (collect B30 A30 []) l S vs h) (T30 S) := by
  unfold T30
  refine Tab.cons 0 (fun vs0 h q e0 => ?_) ?_
  · obtain ⟨r0, vs1, rfl, e1⟩ := uV_some e0
    obtain ⟨r1, vs2, rfl, e2⟩ := uI_some e1
    obtain ⟨rfl, ee⟩ := uN_some e2
    exact (q30x0 S r0 r1 h).symm.trans ee
  refine Tab.cons 1 (fun vs0 h q e0 => ?_) ?_
  · obtain ⟨r2, vs1, rfl, e1⟩ := uV_some e0
    obtain ⟨r4, vs2, rfl, e2⟩ := uV_some e1
    obtain ⟨r5, vs3, rfl, e3⟩ := uV_some e2
    obtain ⟨r6, vs4, rfl, e4⟩ := uV_some e3
    obtain ⟨r7, vs5, rfl, e5⟩ := uI_some e4
    obtain ⟨rfl, ee⟩ := uN_some e5
    exact (q30x1 S r2 r4 r5 r6 r7 h).symm.trans ee
  refine Tab.cons 2 (fun vs0 h q e0 => ?_) ?_
  · obtain ⟨r4, vs1, rfl, e1⟩ := uV_some e0
    obtain ⟨r5, vs2, rfl, e2⟩ := uV_some e1
    obtain ⟨rfl, ee⟩ := uN_some e2
    exact (q30x2 S r4 r5 h).symm.trans ee
  exact Tab.nil
theorem r30 : ∀ args h v h', F30 args h = some (v, h') → Runs (C43) (.call 30 args.toArray h) (.ret v h') := by
  intro args h v h' e
  exact fun_sound (C := C43) (fn := Try.f30) (body := B30) (np := 2) (A := A30) (T := T30) (kinds := [Kd.v, Kd.i .i64]) (by kernel_rfl) (by kernel_rfl) (by kernel_rfl) (by kernel_rfl) (regK_ok env_ok) (by kernel_rfl) (fun S => t30 S) e
noncomputable def orc44 := orcQ 30 F30 orc43
noncomputable def C44 : Cfg := cfg orc44
theorem ok44 : C44.Ok := orcQ_ok (C := C43) ok43 r30
noncomputable def B18 : Code := (Try.f18.body).getD .skip
def A18 : Ann := (Ann.node (some (0, [(0, Kd.v), (1, Kd.i .i64)])) bl (bn bl (bn bl (bn bl (bn (bn bl (bn (Ann.node (some (1, [(4, Kd.v), (6, Kd.v), (7, Kd.v), (26, Kd.i .i64), (27, Kd.i .i64)])) (bn bl (bn (bn bl bl) (bn (bn (bn bl (bn bl bl)) bl) bl))) bl) bl)) (Ann.node (some (2, [(4, Kd.v), (7, Kd.v)])) bl bl))))))
noncomputable def P18x2 (S : Sg) (r4 : Value) (r7 : Value) (h : Hp) : CRes :=
  loadNK 6 h r7 fun v0 =>
  storeNK 6 h r4 v0 fun h1 =>
  loadNK 6 h1 r4 fun v2 => some (v2, h1)
noncomputable def P18x1 (S : Sg) (r4 : Value) (r6 : Value) (r7 : Value) (r26 : Int) (r27 : Int) (h : Hp) : CRes :=
  boolZ (ltZ r27 r26) fun b0 =>
  ifB b0
  (loadNK 2 h r6 fun v1 =>
  idxAK 3 2 r7 r27 fun v2 =>
  loadNK 2 h v2 fun v3 =>
  pairK (optK (F31 [v1, v3] h) fun v => some (v, h)) fun v4 h4 =>
  storeNK 2 h4 r6 v4 fun h5 =>
  loadNK 2 h5 r6 fun v6 =>
  idxAK 3 2 r7 r27 fun v7 =>
  storeNK 2 h5 v7 v6 fun h8 =>
  wrap64 (Int.add r27 (Int.ofNat 1)) fun i9 =>
  S 1 (AL.v r4 (AL.v r6 (AL.v r7 (AL.i r26 (AL.i i9 AL.n))))) h8)
  (S 2 (AL.v r4 (AL.v r7 AL.n)) h)
noncomputable def P18x0 (S : Sg) (r0 : Value) (r1 : Int) (h : Hp) : CRes :=
  allocK h 56 (Array.toList (Value.cells r0)) fun a0 h0 =>
  allocK h0 65 [(Value.int .i64 (Int.ofNat 0)), (Value.int .i64 (Int.ofNat 0)), (Value.int .i64 (Int.ofNat 0)), (Value.int .i64 (Int.ofNat 0)), (Value.int .i64 (Int.ofNat 0)), (Value.int .i64 (Int.ofNat 0))] fun a1 h1 =>
  ptrAddK 0 a0 fun v2 =>
  ptrAddK 0 v2 fun v3 =>
  ptrAddK 0 v3 fun v4 =>
  load1K h1 v4 fun v5 =>
  idxSK 4 v5 r1 fun v6 =>
  ptrAddK 2 v6 fun v7 =>
  load1K h1 v7 fun v8 =>
  intK .i64 v8 fun i9 =>
  optK (buildV env 42 (List.toArray [(0, (Value.int .i64 i9)), (1, (Value.int .i64 i9))])) fun v10 =>
  allocK h1 42 [(Value.int .i64 (Int.ofNat 0)), (Value.int .i64 (Int.ofNat 0))] fun a11 h11 =>
  storeNK 2 h11 a11 v10 fun h12 =>
  loadNK 11 h12 a0 fun v13 =>
  pairK (callQ F30 [v13, (Value.int .i64 r1)] h12) fun v14 h14 =>
  allocK h14 65 [(Value.int .i64 (Int.ofNat 0)), (Value.int .i64 (Int.ofNat 0)), (Value.int .i64 (Int.ofNat 0)), (Value.int .i64 (Int.ofNat 0)), (Value.int .i64 (Int.ofNat 0)), (Value.int .i64 (Int.ofNat 0))] fun a15 h15 =>
  storeNK 6 h15 a15 v14 fun h16 =>
  ptrAddK 0 a0 fun v17 =>
  ptrAddK 0 v17 fun v18 =>
  ptrAddK 1 v18 fun v19 =>
  load1K h16 v19 fun v20 =>
  intK .i64 v20 fun i21 =>
  S 1 (AL.v a1 (AL.v a11 (AL.v a15 (AL.i i21 (AL.i (Int.ofNat 0) AL.n))))) h16
noncomputable def T18 (S : Sg) : Sg := tabC 0 (uV fun r0 => uI fun r1 => uN fun h => P18x0 S r0 r1 h) (tabC 1 (uV fun r4 => uV fun r6 => uV fun r7 => uI fun r26 => uI fun r27 => uN fun h => P18x1 S r4 r6 r7 r26 r27 h) (tabC 2 (uV fun r4 => uV fun r7 => uN fun h => P18x2 S r4 r7 h) (tabN)))
noncomputable def F18 (args : List Value) (h : Hp) : CRes := packVals [Kd.v, Kd.i .i64] args fun al => rec' T18 1000000 0 al h
def nt18 : Nat := 2 + (40 - 2)
theorem q18x2 (S : Sg) (r4 : Value) (r7 : Value) (h : Hp) : P18x2 S r4 r7 h = stepAt (regK env orc44 (nt18)) (finK env Try.f18.results.toList) (collect B18 A18 []) 2 S (AL.v r4 (AL.v r7 AL.n)) h := by kernel_rfl
theorem q18x1 (S : Sg) (r4 : Value) (r6 : Value) (r7 : Value) (r26 : Int) (r27 : Int) (h : Hp) : P18x1 S r4 r6 r7 r26 r27 h = stepAt (regK env orc44 (nt18)) (finK env Try.f18.results.toList) (collect B18 A18 []) 1 S (AL.v r4 (AL.v r6 (AL.v r7 (AL.i r26 (AL.i r27 AL.n))))) h := by kernel_rfl
theorem q18x0 (S : Sg) (r0 : Value) (r1 : Int) (h : Hp) : P18x0 S r0 r1 h = stepAt (regK env orc44 (nt18)) (finK env Try.f18.results.toList) (collect B18 A18 []) 0 S (AL.v r0 (AL.i r1 AL.n)) h := by kernel_rfl
theorem t18 (S : Sg) : Tab (fun l vs h => stepAt (regK env orc44 nt18) (finK env Try.f18.results.toList) (collect B18 A18 []) l S vs h) (T18 S) := by
  unfold T18
  refine Tab.cons 0 (fun vs0 h q e0 => ?_) ?_
  · obtain ⟨r0, vs1, rfl, e1⟩ := uV_some e0
    obtain ⟨r1, vs2, rfl, e2⟩ := uI_some e1
    obtain ⟨rfl, ee⟩ := uN_some e2
    exact (q18x0 S r0 r1 h).symm.trans ee
  refine Tab.cons 1 (fun vs0 h q e0 => ?_) ?_
  · obtain ⟨r4, vs1, rfl, e1⟩ := uV_some e0
    obtain ⟨r6, vs2, rfl, e2⟩ := uV_some e1
    obtain ⟨r7, vs3, rfl, e3⟩ := uV_some e2
    obtain ⟨r26, vs4, rfl, e4⟩ := uI_some e3
    obtain ⟨r27, vs5, rfl, e5⟩ := uI_some e4
    obtain ⟨rfl, ee⟩ := uN_some e5
    exact (q18x1 S r4 r6 r7 r26 r27 h).symm.trans ee
  refine Tab.cons 2 (fun vs0 h q e0 => ?_) ?_
  · obtain ⟨r4, vs1, rfl, e1⟩ := uV_some e0
    obtain ⟨r7, vs2, rfl, e2⟩ := uV_some e1
    obtain ⟨rfl, ee⟩ := uN_some e2
    exact (q18x2 S r4 r7 h).symm.trans ee
  exact Tab.nil
theorem r18 : ∀ args h v h', F18 args h = some (v, h') → Runs (C44) (.call 18 args.toArray h) (.ret v h') := by
  intro args h v h' e
  exact fun_sound (C := C44) (fn := Try.f18) (body := B18) (np := 2) (A := A18) (T := T18) (kinds := [Kd.v, Kd.i .i64]) (by kernel_rfl) (by kernel_rfl) (by kernel_rfl) (by kernel_rfl) (regK_ok env_ok) (by kernel_rfl) (fun S => t18 S) e
noncomputable def orc45 := orcQ 18 F18 orc44
noncomputable def C45 : Cfg := cfg orc45
theorem ok45 : C45.Ok := orcQ_ok (C := C44) ok44 r18
noncomputable def B17 : Code := (Try.f17.body).getD .skip
def A17 : Ann := (Ann.node (some (0, [(0, Kd.v), (1, Kd.v)])) bl (bn bl (bn bl (bn bl bl))))
noncomputable def P17x0 (S : Sg) (r0 : Value) (r1 : Value) (h : Hp) : CRes :=
  allocK h 56 (Array.toList (Value.cells r0)) fun a0 h0 =>
  allocK h0 65 (Array.toList (Value.cells r1)) fun a1 h1 =>
  ptrAddK 0 a0 fun v2 =>
  ptrAddK 0 v2 fun v3 =>
  ptrAddK 1 v3 fun v4 =>
  load1K h1 v4 fun v5 =>
  intK .i64 v5 fun i6 =>
  pairK (makeSliceV env h1 33 (Value.int .i64 i6) (Value.int .i64 i6)) fun v7 h7 =>
  optK (sliceV env h7 65 a1 none none none) fun v8 =>
  pairK (copyV env h7 #[33, 33] (List.toArray [v7, v8])) fun v9 h9 =>
  some (v7, h9)
noncomputable def T17 (S : Sg) : Sg := tabC 0 (uV fun r0 => uV fun r1 => uN fun h => P17x0 S r0 r1 h) (tabN)
noncomputable def F17 (args : List Value) (h : Hp) : CRes := packVals [Kd.v, Kd.v] args fun al => rec' T17 1000000 0 al h
def nt17 : Nat := 2 + (15 - 2)
theorem q17x0 (S : Sg) (r0 : Value) (r1 : Value) (h : Hp) : P17x0 S r0 r1 h = stepAt (regK env orc45 (nt17)) (finK env Try.f17.results.toList) (collect B17 A17 []) 0 S (AL.v r0 (AL.v r1 AL.n)) h := by kernel_rfl
theorem t17 (S : Sg) : Tab (fun l vs h => stepAt (regK env orc45 nt17) (finK env Try.f17.results.toList) (collect B17 A17 []) l S vs h) (T17 S) := by
  unfold T17
  refine Tab.cons 0 (fun vs0 h q e0 => ?_) ?_
  · obtain ⟨r0, vs1, rfl, e1⟩ := uV_some e0
    obtain ⟨r1, vs2, rfl, e2⟩ := uV_some e1
    obtain ⟨rfl, ee⟩ := uN_some e2
    exact (q17x0 S r0 r1 h).symm.trans ee
  exact Tab.nil
theorem r17 : ∀ args h v h', F17 args h = some (v, h') → Runs (C45) (.call 17 args.toArray h) (.ret v h') := by
  intro args h v h' e
  exact fun_sound (C := C45) (fn := Try.f17) (body := B17) (np := 2) (A := A17) (T := T17) (kinds := [Kd.v, Kd.v]) (by kernel_rfl) (by kernel_rfl) (by kernel_rfl) (by kernel_rfl) (regK_ok env_ok) (by kernel_rfl) (fun S => t17 S) e
noncomputable def orc46 := orcQ 17 F17 orc45
noncomputable def C46 : Cfg := cfg orc46
theorem ok46 : C46.Ok := orcQ_ok (C := C45) ok45 r17
noncomputable def B32 : Code := (Try.f32.body).getD .skip
def A32 : Ann := (Ann.node (some (0, [(0, Kd.v), (1, Kd.i .i64)])) bl (bn bl bl))
noncomputable def P32x0 (S : Sg) (r0 : Value) (r1 : Int) (h : Hp) : CRes :=
  allocK h 56 (Array.toList (Value.cells r0)) fun a0 h0 =>
  allocK h0 42 [(Value.int .i64 (Int.ofNat 0)), (Value.int .i64 (Int.ofNat 0))] fun a1 h1 =>
  loadNK 11 h1 a0 fun v2 =>
  ptrAddK 5 a0 fun v3 =>
  idxAK 6 1 v3 r1 fun v4 =>
  load1K h1 v4 fun v5 =>
  intK .i64 v5 fun i6 =>
  pairK (pairK (callQ F18 [v2, (Value.int .i64 i6)] (Hp.mk (Hp.next h1) (Hp.next h1) (Hp.objs h1))) fun v _ => ifB (plainK v) (some (v, h1)) none) fun v7 h7 =>
  ptrAddK 0 a0 fun v8 =>
  ptrAddK 0 v8 fun v9 =>
  ptrAddK 3 v9 fun v10 =>
  load1K h7 v10 fun v11 =>
  idxSK 4 v11 r1 fun v12 =>
  ptrAddK 2 v12 fun v13 =>
  load1K h7 v13 fun v14 =>
  intK .i64 v14 fun i15 =>
  optK (indexV env 65 v7 (Value.int .i64 i15)) fun v16 =>
  storeNK 2 h7 a1 v16 fun h17 =>
  loadNK 2 h17 a1 fun v18 => some (v18, h17)
noncomputable def T32 (S : Sg) : Sg := tabC 0 (uV fun r0 => uI fun r1 => uN fun h => P32x0 S r0 r1 h) (tabN)
noncomputable def F32 (args : List Value) (h : Hp) : CRes := packVals [Kd.v, Kd.i .i64] args fun al => rec' T32 1000000 0 al h
def nt32 : Nat := 2 + (20 - 2)
theorem q32x0 (S : Sg) (r0 : Value) (r1 : Int) (h : Hp) : P32x0 S r0 r1 h = stepAt (regK env orc46 (nt32)) (finK env Try.f32.results.toList) (collect B32 A32 []) 0 S (AL.v r0 (AL.i r1 AL.n)) h := by kernel_rfl
theorem t32 (S : Sg) : Tab (fun l vs h => stepAt (regK env orc46 nt32) (finK env Try.f32.results.toList) (collect B32 A32 []) l S vs h) (T32 S) := by
  unfold T32
  refine Tab.cons 0 (fun vs0 h q e0 => ?_) ?_
  · obtain ⟨r0, vs1, rfl, e1⟩ := uV_some e0
    obtain ⟨r1, vs2, rfl, e2⟩ := uI_some e1
    obtain ⟨rfl, ee⟩ := uN_some e2
    exact (q32x0 S r0 r1 h).symm.trans ee
  exact Tab.nil
theorem r32 : ∀ args h v h', F32 args h = some (v, h') → Runs (C46) (.call 32 args.toArray h) (.ret v h') := by
  intro args h v h' e
  exact fun_sound (C := C46) (fn := Try.f32) (body := B32) (np := 2) (A := A32) (T := T32) (kinds := [Kd.v, Kd.i .i64]) (by kernel_rfl) (by kernel_rfl) (by kernel_rfl) (by kernel_rfl) (regK_ok env_ok) (by kernel_rfl) (fun S => t32 S) e
noncomputable def orc47 := orcQ 32 F32 orc46
noncomputable def C47 : Cfg := cfg orc47
theorem ok47 : C47.Ok := orcQ_ok (C := C46) ok46 r32
noncomputable def B19 : Code := (Try.f19.body).getD .skip
def A19 : Ann := (Ann.node (some (0, [(0, Kd.v), (1, Kd.i .i64)])) bl (bn (bn bl (bn (bn bl bl) bl)) (bn bl (bn (bn (bn bl (bn (bn bl bl) (bn bl (bn (bn bl bl) bl)))) bl) (bn bl bl)))))
noncomputable def P19x0 (S : Sg) (r0 : Value) (r1 : Int) (h : Hp) : CRes :=
  allocK h 56 (Array.toList (Value.cells r0)) fun a0 h0 =>
  ptrAddK 5 a0 fun v1 =>
  idxAK 6 1 v1 r1 fun v2 =>
  load1K h0 v2 fun v3 =>
  intK .i64 v3 fun i4 =>
  boolZ (eqZ i4 (Int.negSucc 0)) fun b5 =>
  ifB b5
  (some ((Value.int .i64 (Int.ofNat 2)), h0))
  (loadNK 11 (Hp.mk (Hp.next h0) (Hp.next h0) (Hp.objs h0)) a0 fun v6 =>
  leftK v6 (Hp.next h0) (Hp.mk (Hp.next h0) (Hp.next h0) (Hp.objs h0)) fun w7 n7 =>
  pairK (callQ F32 [v6, (Value.int .i64 r1)] (Hp.mk n7 n7 (addAll w7 (Hp.objs h0)))) fun v8 h8 =>
  leftK v8 n7 h8 fun w9 n9 =>
  ptrAddK 0 a0 fun v10 =>
  leftK v10 n9 (Hp.mk n9 n9 T.nil) fun w11 n11 =>
  ptrAddK 0 v10 fun v12 =>
  leftK v12 n11 (Hp.mk n11 n11 T.nil) fun w13 n13 =>
  ptrAddK 3 v12 fun v14 =>
  leftK v14 n13 (Hp.mk n13 n13 T.nil) fun w15 n15 =>
  load1K (Hp.mk n15 n15 (addAll w15 (addAll w13 (addAll w11 (Hp.objs h0))))) v14 fun v16 =>
  leftK v16 n15 (Hp.mk n15 n15 (addAll w15 (addAll w13 (addAll w11 (Hp.objs h0))))) fun w17 n17 =>
  idxSK 4 v16 r1 fun v18 =>
  leftK v18 n17 (Hp.mk n17 n17 T.nil) fun w19 n19 =>
  ptrAddK 3 v18 fun v20 =>
  leftK v20 n19 (Hp.mk n19 n19 T.nil) fun w21 n21 =>
  load1K (Hp.mk n21 n21 (addAll w21 (addAll w19 (addAll w17 (addAll w15 (addAll w13 (addAll w11 (Hp.objs h0)))))))) v20 fun v22 =>
  intK .i64 v22 fun i23 =>
  allocK (Hp.mk n21 n21 T.nil) 42 [(Value.int .i64 (Int.ofNat 0)), (Value.int .i64 (Int.ofNat 0))] fun a24 h24 =>
  leftK a24 n21 h24 fun w25 n25 =>
  storeQ env 42 a24 v8 n25 (Hp.next h0) (addAll w25 (addAll w9 (addAll w7 (Hp.objs h0)))) (fun b => (hasBlk w7 b || (hasBlk [] b || (hasBlk w9 b || (hasBlk w25 b || false))))) fun w26 =>
  ptrAddK 1 a24 fun v27 =>
  load1K (Hp.mk n25 (Hp.ro h0) (addAll w26 (addAll w25 (addAll w21 (addAll w19 (addAll w17 (addAll w15 (addAll w13 (addAll w11 (addAll w9 (addAll w7 (Hp.objs h0)))))))))))) v27 fun v28 =>
  intK .i64 v28 fun i29 =>
  boolN (ltZ i23 i29) fun b30 =>
  ifB b30
  (some ((Value.int .i64 (Int.ofNat 1)), (Hp.mk n25 (Hp.ro h0) (addAll w26 (addAll w25 (addAll w21 (addAll w19 (addAll w17 (addAll w15 (addAll w13 (addAll w11 (addAll w9 (addAll w7 (Hp.objs h0))))))))))))))
  (ptrAddK 0 a24 fun v31 =>
  load1K (Hp.mk n25 (Hp.ro h0) (addAll w26 (addAll w25 (addAll w21 (addAll w19 (addAll w17 (addAll w15 (addAll w13 (addAll w11 (addAll w9 (addAll w7 (Hp.objs h0)))))))))))) v31 fun v32 =>
  intK .i64 v32 fun i33 =>
  boolZ (ltZ i23 i33) fun b34 =>
  ifB b34
  (some ((Value.int .i64 (Int.ofNat 2)), (Hp.mk n25 (Hp.ro h0) (addAll w26 (addAll w25 (addAll w21 (addAll w19 (addAll w17 (addAll w15 (addAll w13 (addAll w11 (addAll w9 (addAll w7 (Hp.objs h0))))))))))))))
  (some ((Value.int .i64 (Int.ofNat 0)), (Hp.mk n25 (Hp.ro h0) (addAll w26 (addAll w25 (addAll w21 (addAll w19 (addAll w17 (addAll w15 (addAll w13 (addAll w11 (addAll w9 (addAll w7 (Hp.objs h0))))))))))))))))
noncomputable def T19 (S : Sg) : Sg := tabC 0 (uV fun r0 => uI fun r1 => uN fun h => P19x0 S r0 r1 h) (tabN)
noncomputable def F19 (args : List Value) (h : Hp) : CRes := packVals [Kd.v, Kd.i .i64] args fun al => rec' T19 1000000 0 al h
def nt19 : Nat := 2 + (33 - 2)
theorem q19x0 (S : Sg) (r0 : Value) (r1 : Int) (h : Hp) : P19x0 S r0 r1 h = stepAt (regK env orc47 (nt19)) (finK env Try.f19.results.toList) (collect B19 A19 []) 0 S (AL.v r0 (AL.i r1 AL.n)) h := by kernel_rfl
theorem t19 (S : Sg) : Tab (fun l vs h => stepAt (regK env orc47 nt19) (finK env Try.f19.results.toList) (collect B19 A19 []) l S vs h) (T19 S) := by
  unfold T19
  refine Tab.cons 0 (fun vs0 h q e0 => ?_) ?_
  · obtain ⟨r0, vs1, rfl, e1⟩ := uV_some e0
    obtain ⟨r1, vs2, rfl, e2⟩ := uI_some e1
    obtain ⟨rfl, ee⟩ := uN_some e2
    exact (q19x0 S r0 r1 h).symm.trans ee
  exact Tab.nil
theorem r19 : ∀ args h v h', F19 args h = some (v, h') → Runs (C47) (.call 19 args.toArray h) (.ret v h') := by
  intro args h v h' e
  exact fun_sound (C := C47) (fn := Try.f19) (body := B19) (np := 2) (A := A19) (T := T19) (kinds := [Kd.v, Kd.i .i64]) (by kernel_rfl) (by kernel_rfl) (by kernel_rfl) (by kernel_rfl) (regK_ok env_ok) (by kernel_rfl) (fun S => t19 S) e
noncomputable def orc48 := orcQ 19 F19 orc47
noncomputable def C48 : Cfg := cfg orc48
theorem ok48 : C48.Ok := orcQ_ok (C := C47) ok47 r19
noncomputable def B21 : Code := (Try.f21.body).getD .skip
def A21 : Ann := (Ann.node (some (0, [(0, Kd.v), (1, Kd.i .i64), (2, Kd.i .i64), (3, Kd.i .i64)])) bl (bn bl (bn bl (bn (bn bl (bn (Ann.node (some (1, [(2, Kd.i .i64), (4, Kd.v), (8, Kd.v), (9, Kd.v), (10, Kd.v), (11, Kd.i .i64)])) (bn (bn bl (bn bl bl)) (bn (bn bl bl) bl)) bl) bl)) (Ann.node (some (4, [(2, Kd.i .i64), (8, Kd.v), (9, Kd.v), (10, Kd.v)])) (bn bl (bn (Ann.node (some (2, [(8, Kd.v), (9, Kd.v), (10, Kd.v), (12, Kd.i .i64)])) (bn (bn bl (bn bl bl)) (bn (bn (bn bl bl) bl) bl)) bl) bl)) (Ann.node (some (3, [(8, Kd.v), (9, Kd.v)])) bl bl))))))
noncomputable def P21x3 (S : Sg) (r8 : Value) (r9 : Value) (h : Hp) : CRes :=
  loadNK 6 h r9 fun v0 =>
  storeNK 6 h r8 v0 fun h1 =>
  loadNK 6 h1 r8 fun v2 => some (v2, h1)
noncomputable def P21x2 (S : Sg) (r8 : Value) (r9 : Value) (r10 : Value) (r12 : Int) (h : Hp) : CRes :=
  boolN (ltZ r12 (Int.ofNat 0)) fun b0 =>
  ifB b0
  (wrap64 (Int.add r12 (Int.ofNat 1)) fun i1 =>
  idxAK 3 2 r9 i1 fun v2 =>
  leftK v2 (Hp.next h) (Hp.mk (Hp.next h) (Hp.next h) T.nil) fun w3 n3 =>
  loadNK 2 (Hp.mk n3 n3 (addAll w3 (Hp.objs h))) v2 fun v4 =>
  leftK v4 n3 (Hp.mk n3 n3 (addAll w3 (Hp.objs h))) fun w5 n5 =>
  wrap64 (Int.add r12 (Int.ofNat 1)) fun i6 =>
  idxAK 3 2 r10 i6 fun v7 =>
  leftK v7 n5 (Hp.mk n5 n5 T.nil) fun w8 n8 =>
  loadNK 2 (Hp.mk n8 n8 (addAll w8 (Hp.objs h))) v7 fun v9 =>
  leftK v9 n8 (Hp.mk n8 n8 (addAll w8 (Hp.objs h))) fun w10 n10 =>
  allocK (Hp.mk n10 n10 T.nil) 42 [(Value.int .i64 (Int.ofNat 0)), (Value.int .i64 (Int.ofNat 0))] fun a11 h11 =>
  leftK a11 n10 h11 fun w12 n12 =>
  allocK (Hp.mk n12 n12 T.nil) 42 [(Value.int .i64 (Int.ofNat 0)), (Value.int .i64 (Int.ofNat 0))] fun a13 h13 =>
  leftK a13 n12 h13 fun w14 n14 =>
  storeQ env 42 a11 v4 n14 (Hp.next h) (addAll w14 (addAll w12 (addAll w5 (addAll w3 (Hp.objs h))))) (fun b => (hasBlk [] b || (hasBlk [] b || (hasBlk w3 b || (hasBlk w5 b || (hasBlk w12 b || (hasBlk w14 b || false))))))) fun w15 =>
  storeNK 2 (Hp.mk n14 (Hp.ro h) (addAll w15 (addAll w14 (addAll w12 (addAll w10 (addAll w8 (addAll w5 (addAll w3 (Hp.objs h))))))))) a13 v9 fun h16 =>
  idxAK 3 2 r9 r12 fun v17 =>
  ptrAddK 0 v17 fun v18 =>
  load1K h16 v18 fun v19 =>
  intK .i64 v19 fun i20 =>
  ptrAddK 0 a11 fun v21 =>
  load1K h16 v21 fun v22 =>
  intK .i64 v22 fun i23 =>
  ptrAddK 1 a13 fun v24 =>
  load1K h16 v24 fun v25 =>
  intK .i64 v25 fun i26 =>
  wrap64 (Int.sub i23 i26) fun i27 =>
  maxZ i20 i27 fun i28 =>
  idxAK 3 2 r9 r12 fun v29 =>
  ptrAddK 1 v29 fun v30 =>
  load1K h16 v30 fun v31 =>
  intK .i64 v31 fun i32 =>
  ptrAddK 1 a11 fun v33 =>
  load1K h16 v33 fun v34 =>
  intK .i64 v34 fun i35 =>
  ptrAddK 0 a13 fun v36 =>
  load1K h16 v36 fun v37 =>
  intK .i64 v37 fun i38 =>
  wrap64 (Int.sub i35 i38) fun i39 =>
  minZ i32 i39 fun i40 =>
  optK (buildV env 42 (List.toArray [(0, (Value.int .i64 i28)), (1, (Value.int .i64 i40))])) fun v41 =>
  idxAK 3 2 r9 r12 fun v42 =>
  storeNK 2 h16 v42 v41 fun h43 =>
  wrap64 (Int.sub r12 (Int.ofNat 1)) fun i44 =>
  S 2 (AL.v r8 (AL.v r9 (AL.v r10 (AL.i i44 AL.n)))) h43)
  (S 3 (AL.v r8 (AL.v r9 AL.n)) h)
noncomputable def P21x4 (S : Sg) (r2 : Int) (r8 : Value) (r9 : Value) (r10 : Value) (h : Hp) : CRes :=
  wrap64 (Int.sub r2 (Int.ofNat 1)) fun i0 =>
  S 2 (AL.v r8 (AL.v r9 (AL.v r10 (AL.i i0 AL.n)))) h
noncomputable def P21x1 (S : Sg) (r2 : Int) (r4 : Value) (r8 : Value) (r9 : Value) (r10 : Value) (r11 : Int) (h : Hp) : CRes :=
  ptrAddK 0 r4 fun v0 =>
  ptrAddK 0 v0 fun v1 =>
  ptrAddK 1 v1 fun v2 =>
  load1K h v2 fun v3 =>
  intK .i64 v3 fun i4 =>
  boolZ (ltZ r11 i4) fun b5 =>
  ifB b5
  (wrap64 (Int.sub r11 (Int.ofNat 1)) fun i6 =>
  idxAK 3 2 r9 i6 fun v7 =>
  loadNK 2 h v7 fun v8 =>
  idxAK 3 2 r10 r11 fun v9 =>
  loadNK 2 h v9 fun v10 =>
  pairK (optK (F31 [v8, v10] h) fun v => some (v, h)) fun v11 h11 =>
  idxAK 3 2 r9 r11 fun v12 =>
  storeNK 2 h11 v12 v11 fun h13 =>
  wrap64 (Int.add r11 (Int.ofNat 1)) fun i14 =>
  S 1 (AL.i r2 (AL.v r4 (AL.v r8 (AL.v r9 (AL.v r10 (AL.i i14 AL.n)))))) h13)
  (S 4 (AL.i r2 (AL.v r8 (AL.v r9 (AL.v r10 AL.n)))) h)
noncomputable def P21x0 (S : Sg) (r0 : Value) (r1 : Int) (r2 : Int) (r3 : Int) (h : Hp) : CRes :=
  allocK h 56 (Array.toList (Value.cells r0)) fun a0 h0 =>
  allocK h0 65 [(Value.int .i64 (Int.ofNat 0)), (Value.int .i64 (Int.ofNat 0)), (Value.int .i64 (Int.ofNat 0)), (Value.int .i64 (Int.ofNat 0)), (Value.int .i64 (Int.ofNat 0)), (Value.int .i64 (Int.ofNat 0))] fun a1 h1 =>
  loadNK 11 (Hp.mk (Hp.next h1) (Hp.next h1) (Hp.objs h1)) a0 fun v2 =>
  leftK v2 (Hp.next h1) (Hp.mk (Hp.next h1) (Hp.next h1) (Hp.objs h1)) fun w3 n3 =>
  pairK (callQ F18 [v2, (Value.int .i64 r1)] (Hp.mk n3 n3 (addAll w3 (Hp.objs h1)))) fun v4 h4 =>
  leftK v4 n3 h4 fun w5 n5 =>
  loadNK 11 (Hp.mk n5 n5 (Hp.objs h1)) a0 fun v6 =>
  leftK v6 n5 (Hp.mk n5 n5 (Hp.objs h1)) fun w7 n7 =>
  pairK (callQ F30 [v6, (Value.int .i64 r1)] (Hp.mk n7 n7 (addAll w7 (addAll w5 (addAll w3 (Hp.objs h1)))))) fun v8 h8 =>
  leftK v8 n7 h8 fun w9 n9 =>
  allocK (Hp.mk n9 n9 T.nil) 65 [(Value.int .i64 (Int.ofNat 0)), (Value.int .i64 (Int.ofNat 0)), (Value.int .i64 (Int.ofNat 0)), (Value.int .i64 (Int.ofNat 0)), (Value.int .i64 (Int.ofNat 0)), (Value.int .i64 (Int.ofNat 0))] fun a10 h10 =>
  leftK a10 n9 h10 fun w11 n11 =>
  allocK (Hp.mk n11 n11 T.nil) 65 [(Value.int .i64 (Int.ofNat 0)), (Value.int .i64 (Int.ofNat 0)), (Value.int .i64 (Int.ofNat 0)), (Value.int .i64 (Int.ofNat 0)), (Value.int .i64 (Int.ofNat 0)), (Value.int .i64 (Int.ofNat 0))] fun a12 h12 =>
  leftK a12 n11 h12 fun w13 n13 =>
  storeNK 6 (Hp.mk n13 (Hp.ro h1) (addAll w13 (addAll w11 (addAll w9 (addAll w7 (addAll w5 (addAll w3 (Hp.objs h1)))))))) a10 v4 fun h14 =>
  storeNK 6 h14 a12 v8 fun h15 =>
  optK (buildV env 42 (List.toArray [(0, (Value.int .i64 r3)), (1, (Value.int .i64 r3))])) fun v16 =>
  idxAK 3 2 a10 r2 fun v17 =>
  storeNK 2 h15 v17 v16 fun h18 =>
  wrap64 (Int.add r2 (Int.ofNat 1)) fun i19 =>
  S 1 (AL.i r2 (AL.v a0 (AL.v a1 (AL.v a10 (AL.v a12 (AL.i i19 AL.n)))))) h18
noncomputable def T21 (S : Sg) : Sg := tabC 0 (uV fun r0 => uI fun r1 => uI fun r2 => uI fun r3 => uN fun h => P21x0 S r0 r1 r2 r3 h) (tabC 1 (uI fun r2 => uV fun r4 => uV fun r8 => uV fun r9 => uV fun r10 => uI fun r11 => uN fun h => P21x1 S r2 r4 r8 r9 r10 r11 h) (tabC 4 (uI fun r2 => uV fun r8 => uV fun r9 => uV fun r10 => uN fun h => P21x4 S r2 r8 r9 r10 h) (tabC 2 (uV fun r8 => uV fun r9 => uV fun r10 => uI fun r12 => uN fun h => P21x2 S r8 r9 r10 r12 h) (tabC 3 (uV fun r8 => uV fun r9 => uN fun h => P21x3 S r8 r9 h) (tabN)))))
noncomputable def F21 (args : List Value) (h : Hp) : CRes := packVals [Kd.v, Kd.i .i64, Kd.i .i64, Kd.i .i64] args fun al => rec' T21 1000000 0 al h
def nt21 : Nat := 4 + (84 - 4)
theorem q21x3 (S : Sg) (r8 : Value) (r9 : Value) (h : Hp) : P21x3 S r8 r9 h = stepAt (regK env orc48 (nt21)) (finK env Try.f21.results.toList) (collect B21 A21 []) 3 S (AL.v r8 (AL.v r9 AL.n)) h := by kernel_rfl
theorem q21x2 (S : Sg) (r8 : Value) (r9 : Value) (r10 : Value) (r12 : Int) (h : Hp) : P21x2 S r8 r9 r10 r12 h = stepAt (regK env orc48 (nt21)) (finK env Try.f21.results.toList) (collect B21 A21 []) 2 S (AL.v r8 (AL.v r9 (AL.v r10 (AL.i r12 AL.n)))) h := by kernel_rfl
theorem q21x4 (S : Sg) (r2 : Int) (r8 : Value) (r9 : Value) (r10 : Value) (h : Hp) : P21x4 S r2 r8 r9 r10 h = stepAt (regK env orc48 (nt21)) (finK env Try.f21.results.toList) (collect B21 A21 []) 4 S (AL.i r2 (AL.v r8 (AL.v r9 (AL.v r10 AL.n)))) h := by kernel_rfl
theorem q21x1 (S : Sg) (r2 : Int) (r4 : Value) (r8 : Value) (r9 : Value) (r10 : Value) (r11 : Int) (h : Hp) : P21x1 S r2 r4 r8 r9 r10 r11 h = stepAt (regK env orc48 (nt21)) (finK env Try.f21.results.toList) (collect B21 A21 []) 1 S (AL.i r2 (AL.v r4 (AL.v r8 (AL.v r9 (AL.v r10 (AL.i r11 AL.n)))))) h := by kernel_rfl
theorem q21x0 (S : Sg) (r0 : Value) (r1 : Int) (r2 : Int) (r3 : Int) (h : Hp) : P21x0 S r0 r1 r2 r3 h = stepAt (regK env orc48 (nt21)) (finK env Try.f21.results.toList) (collect B21 A21 []) 0 S (AL.v r0 (AL.i r1 (AL.i r2 (AL.i r3 AL.n)))) h := by kernel_rfl
theorem t21 (S : Sg) : Tab (fun l vs h => stepAt (regK env orc48 nt21) (finK env Try.f21.results.toList) (collect B21 A21 []) l S vs h) (T21 S) := by
  unfold T21
  refine Tab.cons 0 (fun vs0 h q e0 => ?_) ?_
  · obtain ⟨r0, vs1, rfl, e1⟩ := uV_some e0
    obtain ⟨r1, vs2, rfl, e2⟩ := uI_some e1
    obtain ⟨r2, vs3, rfl, e3⟩ := uI_some e2
    obtain ⟨r3, vs4, rfl, e4⟩ := uI_some e3
    obtain ⟨rfl, ee⟩ := uN_some e4
    exact (q21x0 S r0 r1 r2 r3 h).symm.trans ee
  refine Tab.cons 1 (fun vs0 h q e0 => ?_) ?_
  · obtain ⟨r2, vs1, rfl, e1⟩ := uI_some e0
    obtain ⟨r4, vs2, rfl, e2⟩ := uV_some e1
    obtain ⟨r8, vs3, rfl, e3⟩ := uV_some e2
    obtain ⟨r9, vs4, rfl, e4⟩ := uV_some e3
    obtain ⟨r10, vs5, rfl, e5⟩ := uV_some e4
    obtain ⟨r11, vs6, rfl, e6⟩ := uI_some e5
    obtain ⟨rfl, ee⟩ := uN_some e6
    exact (q21x1 S r2 r4 r8 r9 r10 r11 h).symm.trans ee
  refine Tab.cons 4 (fun vs0 h q e0 => ?_) ?_
  · obtain ⟨r2, vs1, rfl, e1⟩ := uI_some e0
    obtain ⟨r8, vs2, rfl, e2⟩ := uV_some e1
    obtain ⟨r9, vs3, rfl, e3⟩ := uV_some e2
    obtain ⟨r10, vs4, rfl, e4⟩ := uV_some e3
    obtain ⟨rfl, ee⟩ := uN_some e4
    exact (q21x4 S r2 r8 r9 r10 h).symm.trans ee
  refine Tab.cons 2 (fun vs0 h q e0 => ?_) ?_
  · obtain ⟨r8, vs1, rfl, e1⟩ := uV_some e0
    obtain ⟨r9, vs2, rfl, e2⟩ := uV_some e1
    obtain ⟨r10, vs3, rfl, e3⟩ := uV_some e2
    obtain ⟨r12, vs4, rfl, e4⟩ := uI_some e3
    obtain ⟨rfl, ee⟩ := uN_some e4
    exact (q21x2 S r8 r9 r10 r12 h).symm.trans ee
  refine Tab.cons 3 (fun vs0 h q e0 => ?_) ?_
  · obtain ⟨r8, vs1, rfl, e1⟩ := uV_some e0
    obtain ⟨r9, vs2, rfl, e2⟩ := uV_some e1
    obtain ⟨rfl, ee⟩ := uN_some e2
    exact (q21x3 S r8 r9 h).symm.trans ee
  exact Tab.nil
theorem r21 : ∀ args h v h', F21 args h = some (v, h') → Runs (C48) (.call 21 args.toArray h) (.ret v h') := by
  intro args h v h' e
  exact fun_sound (C := C48) (fn := Try.f21) (body := B21) (np := 4) (A := A21) (T := T21) (kinds := [Kd.v, Kd.i .i64, Kd.i .i64, Kd.i .i64]) (by kernel_rfl) (by kernel_rfl) (by kernel_rfl) (by kernel_rfl) (regK_ok env_ok) (by kernel_rfl) (fun S => t21 S) e
noncomputable def orc49 := orcQ 21 F21 orc48
noncomputable def C49 : Cfg := cfg orc49
theorem ok49 : C49.Ok := orcQ_ok (C := C48) ok48 r21
noncomputable def B10 : Code := (Try.f10.body).getD .skip
noncomputable def A10 : G.Ann (List KI) := (G.Ann.node (some (0, [KI.reg 0 (Kd.v), KI.reg 1 (Kd.v)])) al (an al (an (an al (an (G.Ann.node (some (1, [KI.reg 0 (Kd.v), KI.reg 1 (Kd.v), KI.reg 5 (Kd.b), KI.reg 6 (Kd.i .i64)])) (an (an al (an al al)) (G.Ann.node (some (2, [KI.reg 0 (Kd.v), KI.reg 1 (Kd.v), KI.reg 6 (Kd.i .i64)])) (an al al) al)) al) al)) (G.Ann.node (some (3, [KI.reg 5 (Kd.b)])) al al))))
noncomputable def P10x3 (h : Hp) (S : Nat → PAL → Option Value) (r5 : Bool) : Option Value :=
  some (Value.bool r5)
noncomputable def P10x2 (h : Hp) (S : Nat → PAL → Option Value) (r0 : Value) (r1 : Value) (r6 : Int) : Option Value :=
  idxSK 1 r0 r6 fun v0 =>
  load1K h v0 fun v1 =>
  intK .i64 v1 fun i2 =>
  idxSK 1 r1 r6 fun v3 =>
  load1K h v3 fun v4 =>
  intK .i64 v4 fun i5 =>
  boolZ (eqZ i2 i5) fun b6 =>
  wrap64 (Int.add r6 (Int.ofNat 1)) fun i7 =>
  S 1 (PAL.v r0 (PAL.v r1 (PAL.b b6 (PAL.i i7 PAL.n))))
noncomputable def P10x1 (h : Hp) (S : Nat → PAL → Option Value) (r0 : Value) (r1 : Value) (r5 : Bool) (r6 : Int) : Option Value :=
  ifB r5
  (lenSK r0 fun i0 =>
  boolZ (ltZ r6 i0) fun b1 =>
  ifB b1
  (S 2 (PAL.v r0 (PAL.v r1 (PAL.i r6 PAL.n))))
  (S 3 (PAL.b r5 PAL.n)))
  (S 3 (PAL.b r5 PAL.n))
noncomputable def P10x0 (h : Hp) (S : Nat → PAL → Option Value) (r0 : Value) (r1 : Value) : Option Value :=
  lenSK r0 fun i0 =>
  lenSK r1 fun i1 =>
  boolZ (eqZ i0 i1) fun b2 =>
  S 1 (PAL.v r0 (PAL.v r1 (PAL.b b2 (PAL.i (Int.ofNat 0) PAL.n))))
noncomputable def T10 (h : Hp) (S : Nat → PAL → Option Value) : Nat → PAL → Option Value := tabPC 0 (wV fun r0 => wV fun r1 => wN (P10x0 h S r0 r1)) (tabPC 1 (wV fun r0 => wV fun r1 => wB fun r5 => wI fun r6 => wN (P10x1 h S r0 r1 r5 r6)) (tabPC 2 (wV fun r0 => wV fun r1 => wI fun r6 => wN (P10x2 h S r0 r1 r6)) (tabPC 3 (wB fun r5 => wN (P10x3 h S r5)) (tabPN))))
noncomputable def F10 (args : List Value) (h : Hp) : Option Value := plainO (packArgs [Kd.v, Kd.v] args fun al => G.rec' (T10 h) 1000000 0 al)
def nt10 : Nat := 2 + (31 - 2)
theorem q10x3 (h : Hp) (S : Nat → PAL → Option Value) (r5 : Bool) : P10x3 h S r5 = G.stepAt packP unpackP evXV (regP env pf11 nt10 h) (finP env Try.f10.results.toList) (G.collect B10 A10 []) 3 S (PAL.b r5 PAL.n) := by kernel_rfl
theorem q10x2 (h : Hp) (S : Nat → PAL → Option Value) (r0 : Value) (r1 : Value) (r6 : Int) : P10x2 h S r0 r1 r6 = G.stepAt packP unpackP evXV (regP env pf11 nt10 h) (finP env Try.f10.results.toList) (G.collect B10 A10 []) 2 S (PAL.v r0 (PAL.v r1 (PAL.i r6 PAL.n))) := by kernel_rfl
theorem q10x1 (h : Hp) (S : Nat → PAL → Option Value) (r0 : Value) (r1 : Value) (r5 : Bool) (r6 : Int) : P10x1 h S r0 r1 r5 r6 = G.stepAt packP unpackP evXV (regP env pf11 nt10 h) (finP env Try.f10.results.toList) (G.collect B10 A10 []) 1 S (PAL.v r0 (PAL.v r1 (PAL.b r5 (PAL.i r6 PAL.n)))) := by kernel_rfl
theorem q10x0 (h : Hp) (S : Nat → PAL → Option Value) (r0 : Value) (r1 : Value) : P10x0 h S r0 r1 = G.stepAt packP unpackP evXV (regP env pf11 nt10 h) (finP env Try.f10.results.toList) (G.collect B10 A10 []) 0 S (PAL.v r0 (PAL.v r1 PAL.n)) := by kernel_rfl
theorem t10 (h : Hp) (S : Nat → PAL → Option Value) : TabP (fun l al => G.stepAt packP unpackP evXV (regP env pf11 nt10 h) (finP env Try.f10.results.toList) (G.collect B10 A10 []) l S al) (T10 h S) := by
  unfold T10
  refine TabP.cons 0 (fun vs0 q e0 => ?_) ?_
  · obtain ⟨r0, vs1, rfl, e1⟩ := wV_some e0
    obtain ⟨r1, vs2, rfl, e2⟩ := wV_some e1
    obtain ⟨rfl, ee⟩ := wN_some e2
    exact (q10x0 h S r0 r1).symm.trans ee
  refine TabP.cons 1 (fun vs0 q e0 => ?_) ?_
  · obtain ⟨r0, vs1, rfl, e1⟩ := wV_some e0
    obtain ⟨r1, vs2, rfl, e2⟩ := wV_some e1
    obtain ⟨r5, vs3, rfl, e3⟩ := wB_some e2
    obtain ⟨r6, vs4, rfl, e4⟩ := wI_some e3
    obtain ⟨rfl, ee⟩ := wN_some e4
    exact (q10x1 h S r0 r1 r5 r6).symm.trans ee
  refine TabP.cons 2 (fun vs0 q e0 => ?_) ?_
  · obtain ⟨r0, vs1, rfl, e1⟩ := wV_some e0
    obtain ⟨r1, vs2, rfl, e2⟩ := wV_some e1
    obtain ⟨r6, vs3, rfl, e3⟩ := wI_some e2
    obtain ⟨rfl, ee⟩ := wN_some e3
    exact (q10x2 h S r0 r1 r6).symm.trans ee
  refine TabP.cons 3 (fun vs0 q e0 => ?_) ?_
  · obtain ⟨r5, vs1, rfl, e1⟩ := wB_some e0
    obtain ⟨rfl, ee⟩ := wN_some e1
    exact (q10x3 h S r5).symm.trans ee
  exact TabP.nil
theorem r10 : PSound Try.prog 10 F10 := fun_soundP (C := C0) ok0 (pf := pf11) pfok11 (fn := Try.f10) (body := B10) (kinds := [Kd.v, Kd.v]) (A := A10) (T := T10) (by kernel_rfl) (by kernel_rfl) (by kernel_rfl) (by kernel_rfl) (fun h S => t10 h S)
noncomputable def pf12 : PF := pfC 10 F10 pf11
theorem pfok12 : PfSound Try.prog pf12 := pfC_ok r10 pfok11
noncomputable def orc50 := orcP 10 F10 orc49
noncomputable def C50 : Cfg := cfg orc50
theorem ok50 : C50.Ok := orcP_ok (C := C49) ok49 r10
noncomputable def B11 : Code := (Try.f11.body).getD .skip
noncomputable def A11 : G.Ann (List KI) := (G.Ann.node (some (0, [KI.reg 0 (Kd.v), KI.reg 1 (Kd.v)])) al (an al (an (an al (an (G.Ann.node (some (1, [KI.reg 0 (Kd.v), KI.reg 1 (Kd.v), KI.reg 5 (Kd.b), KI.reg 6 (Kd.i .i64)])) (an (an al (an al al)) (G.Ann.node (some (2, [KI.reg 0 (Kd.v), KI.reg 1 (Kd.v), KI.reg 6 (Kd.i .i64)])) (an al al) al)) al) al)) (G.Ann.node (some (3, [KI.reg 5 (Kd.b)])) al al))))
noncomputable def P11x3 (h : Hp) (S : Nat → PAL → Option Value) (r5 : Bool) : Option Value :=
  some (Value.bool r5)
noncomputable def P11x2 (h : Hp) (S : Nat → PAL → Option Value) (r0 : Value) (r1 : Value) (r6 : Int) : Option Value :=
  idxSK 2 r0 r6 fun v0 =>
  loadNK 2 h v0 fun v1 =>
  idxSK 2 r1 r6 fun v2 =>
  loadNK 2 h v2 fun v3 =>
  optK (binV env .eql 42 (Operand.tmp 24) (Operand.tmp 28) v1 v3) fun v4 =>
  boolK v4 fun b5 =>
  wrap64 (Int.add r6 (Int.ofNat 1)) fun i6 =>
  S 1 (PAL.v r0 (PAL.v r1 (PAL.b b5 (PAL.i i6 PAL.n))))
noncomputable def P11x1 (h : Hp) (S : Nat → PAL → Option Value) (r0 : Value) (r1 : Value) (r5 : Bool) (r6 : Int) : Option Value :=
  ifB r5
  (lenSK r0 fun i0 =>
  boolZ (ltZ r6 i0) fun b1 =>
  ifB b1
  (S 2 (PAL.v r0 (PAL.v r1 (PAL.i r6 PAL.n))))
  (S 3 (PAL.b r5 PAL.n)))
  (S 3 (PAL.b r5 PAL.n))
noncomputable def P11x0 (h : Hp) (S : Nat → PAL → Option Value) (r0 : Value) (r1 : Value) : Option Value :=
  lenSK r0 fun i0 =>
  lenSK r1 fun i1 =>
  boolZ (eqZ i0 i1) fun b2 =>
  S 1 (PAL.v r0 (PAL.v r1 (PAL.b b2 (PAL.i (Int.ofNat 0) PAL.n))))
noncomputable def T11 (h : Hp) (S : Nat → PAL → Option Value) : Nat → PAL → Option Value := tabPC 0 (wV fun r0 => wV fun r1 => wN (P11x0 h S r0 r1)) (tabPC 1 (wV fun r0 => wV fun r1 => wB fun r5 => wI fun r6 => wN (P11x1 h S r0 r1 r5 r6)) (tabPC 2 (wV fun r0 => wV fun r1 => wI fun r6 => wN (P11x2 h S r0 r1 r6)) (tabPC 3 (wB fun r5 => wN (P11x3 h S r5)) (tabPN))))
noncomputable def F11 (args : List Value) (h : Hp) : Option Value := plainO (packArgs [Kd.v, Kd.v] args fun al => G.rec' (T11 h) 1000000 0 al)
def nt11 : Nat := 2 + (31 - 2)
theorem q11x3 (h : Hp) (S : Nat → PAL → Option Value) (r5 : Bool) : P11x3 h S r5 = G.stepAt packP unpackP evXV (regP env pf12 nt11 h) (finP env Try.f11.results.toList) (G.collect B11 A11 []) 3 S (PAL.b r5 PAL.n) := by kernel_rfl
theorem q11x2 (h : Hp) (S : Nat → PAL → Option Value) (r0 : Value) (r1 : Value) (r6 : Int) : P11x2 h S r0 r1 r6 = G.stepAt packP unpackP evXV (regP env pf12 nt11 h) (finP env Try.f11.results.toList) (G.collect B11 A11 []) 2 S (PAL.v r0 (PAL.v r1 (PAL.i r6 PAL.n))) := by kernel_rfl
theorem q11x1 (h : Hp) (S : Nat → PAL → Option Value) (r0 : Value) (r1 : Value) (r5 : Bool) (r6 : Int) : P11x1 h S r0 r1 r5 r6 = G.stepAt packP unpackP evXV (regP env pf12 nt11 h) (finP env Try.f11.results.toList) (G.collect B11 A11 []) 1 S (PAL.v r0 (PAL.v r1 (PAL.b r5 (PAL.i r6 PAL.n)))) := by kernel_rfl
theorem q11x0 (h : Hp) (S : Nat → PAL → Option Value) (r0 : Value) (r1 : Value) : P11x0 h S r0 r1 = G.stepAt packP unpackP evXV (regP env pf12 nt11 h) (finP env Try.f11.results.toList) (G.collect B11 A11 []) 0 S (PAL.v r0 (PAL.v r1 PAL.n)) := by kernel_rfl
theorem t11 (h : Hp) (S : Nat → PAL → Option Value) : TabP (fun l al => G.stepAt packP unpackP evXV (regP env pf12 nt11 h) (finP env Try.f11.results.toList) (G.collect B11 A11 []) l S al) (T11 h S) := by
  unfold T11
  refine TabP.cons 0 (fun vs0 q e0 => ?_) ?_
  · obtain ⟨r0, vs1, rfl, e1⟩ := wV_some e0
    obtain ⟨r1, vs2, rfl, e2⟩ := wV_some e1
    obtain ⟨rfl, ee⟩ := wN_some e2
    exact (q11x0 h S r0 r1).symm.trans ee
  refine TabP.cons 1 (fun vs0 q e0 => ?_) ?_
  · obtain ⟨r0, vs1, rfl, e1⟩ := wV_some e0
    obtain ⟨r1, vs2, rfl, e2⟩ := wV_some e1
    obtain ⟨r5, vs3, rfl, e3⟩ := wB_some e2
    obtain ⟨r6, vs4, rfl, e4⟩ := wI_some e3
    obtain ⟨rfl, ee⟩ := wN_some e4
    exact (q11x1 h S r0 r1 r5 r6).symm.trans ee
  refine TabP.cons 2 (fun vs0 q e0 => ?_) ?_
  · obtain ⟨r0, vs1, rfl, e1⟩ := wV_some e0
    obtain ⟨r1, vs2, rfl, e2⟩ := wV_some e1
    obtain ⟨r6, vs3, rfl, e3⟩ := wI_some e2
    obtain ⟨rfl, ee⟩ := wN_some e3
    exact (q11x2 h S r0 r1 r6).symm.trans ee
  refine TabP.cons 3 (fun vs0 q e0 => ?_) ?_
  · obtain ⟨r5, vs1, rfl, e1⟩ := wB_some e0
    obtain ⟨rfl, ee⟩ := wN_some e1
    exact (q11x3 h S r5).symm.trans ee
  exact TabP.nil
theorem r11 : PSound Try.prog 11 F11 := fun_soundP (C := C0) ok0 (pf := pf12) pfok12 (fn := Try.f11) (body := B11) (kinds := [Kd.v, Kd.v]) (A := A11) (T := T11) (by kernel_rfl) (by kernel_rfl) (by kernel_rfl) (by kernel_rfl) (fun h S => t11 h S)
noncomputable def pf13 : PF := pfC 11 F11 pf12
theorem pfok13 : PfSound Try.prog pf13 := pfC_ok r11 pfok12
noncomputable def orc51 := orcP 11 F11 orc50
noncomputable def C51 : Cfg := cfg orc51
theorem ok51 : C51.Ok := orcP_ok (C := C50) ok50 r11
noncomputable def B46 : Code := (Try.f46.body).getD .skip
def A46 : Ann := (Ann.node (some (0, [(0, Kd.v)])) bl (bn bl (bn (bn bl (bn (Ann.node (some (1, [(3, Kd.v), (8, Kd.i .i64), (9, Kd.i .i64)])) (bn bl (bn (bn bl bl) (bn (bn (bn bl bl) bl) bl))) bl) bl)) (Ann.node (some (2, [(3, Kd.v)])) bl bl))))
noncomputable def P46x2 (S : Sg) (r3 : Value) (h : Hp) : CRes :=
  pairK (buildSliceV env h 28 1 (List.toArray [(0, (Value.int .i64 (Int.negSucc 0)))])) fun v0 h0 =>
  pairK (appendV env h0 #[28, 28] (List.toArray [r3, v0])) fun v1 h1 =>
  some (v1, h1)
noncomputable def P46x1 (S : Sg) (r3 : Value) (r8 : Int) (r9 : Int) (h : Hp) : CRes :=
  boolZ (ltZ r9 r8) fun b0 =>
  ifB b0
  (pairK (buildSliceV env h 28 1 (List.toArray [(0, (Value.int .i64 r9))])) fun v1 h1 =>
  pairK (appendV env h1 #[28, 28] (List.toArray [r3, v1])) fun v2 h2 =>
  wrap64 (Int.add r9 (Int.ofNat 1)) fun i3 =>
  S 1 (AL.v v2 (AL.i r8 (AL.i i3 AL.n))) h2)
  (S 2 (AL.v r3 AL.n) h)
noncomputable def P46x0 (S : Sg) (r0 : Value) (h : Hp) : CRes :=
  allocK h 52 (Array.toList (Value.cells r0)) fun a0 h0 =>
  ptrAddK 0 a0 fun v1 =>
  ptrAddK 0 v1 fun v2 =>
  load1K h0 v2 fun v3 =>
  lenSK v3 fun i4 =>
  S 1 (AL.v (Value.slice none 0 0) (AL.i i4 (AL.i (Int.ofNat 0) AL.n))) h0
noncomputable def T46 (S : Sg) : Sg := tabC 0 (uV fun r0 => uN fun h => P46x0 S r0 h) (tabC 1 (uV fun r3 => uI fun r8 => uI fun r9 => uN fun h => P46x1 S r3 r8 r9 h) (tabC 2 (uV fun r3 => uN fun h => P46x2 S r3 h) (tabN)))
noncomputable def F46 (args : List Value) (h : Hp) : CRes := packVals [Kd.v] args fun al => rec' T46 1000000 0 al h
def nt46 : Nat := 1 + (20 - 1)
theorem q46x2 (S : Sg) (r3 : Value) (h : Hp) : P46x2 S r3 h = stepAt (regK env orc51 (nt46)) (finK env Try.f46.results.toList) (collect B46 A46 []) 2 S (AL.v r3 AL.n) h := by kernel_rfl
theorem q46x1 (S : Sg) (r3 : Value) (r8 : Int) (r9 : Int) (h : Hp) : P46x1 S r3 r8 r9 h = stepAt (regK env orc51 (nt46)) (finK env Try.f46.results.toList) (collect B46 A46 []) 1 S (AL.v r3 (AL.i r8 (AL.i r9 AL.n))) h := by kernel_rfl
theorem q46x0 (S : Sg) (r0 : Value) (h : Hp) : P46x0 S r0 h = stepAt (regK env orc51 (nt46)) (finK env Try.f46.results.toList) (collect B46 A46 []) 0 S (AL.v r0 AL.n) h := by kernel_rfl
theorem t46 (S : Sg) : Tab (fun l vs h => stepAt (regK env orc51 nt46) (finK env Try.f46.results.toList) (collect B46 A46 []) l S vs h) (T46 S) := by
  unfold T46
  refine Tab.cons 0 (fun vs0 h q e0 => ?_) ?_
  · obtain ⟨r0, vs1, rfl, e1⟩ := uV_some e0
    obtain ⟨rfl, ee⟩ := uN_some e1
    exact (q46x0 S r0 h).symm.trans ee
  refine Tab.cons 1 (fun vs0 h q e0 => ?_) ?_
  · obtain ⟨r3, vs1, rfl, e1⟩ := uV_some e0
    obtain ⟨r8, vs2, rfl, e2⟩ := uI_some e1
    obtain ⟨r9, vs3, rfl, e3⟩ := uI_some e2
    obtain ⟨rfl, ee⟩ := uN_some e3
    exact (q46x1 S r3 r8 r9 h).symm.trans ee
  refine Tab.cons 2 (fun vs0 h q e0 => ?_) ?_
  · obtain ⟨r3, vs1, rfl, e1⟩ := uV_some e0
    obtain ⟨rfl, ee⟩ := uN_some e1
    exact (q46x2 S r3 h).symm.trans ee
  exact Tab.nil
theorem r46 : ∀ args h v h', F46 args h = some (v, h') → Runs (C51) (.call 46 args.toArray h) (.ret v h') := by
  intro args h v h' e
  exact fun_sound (C := C51) (fn := Try.f46) (body := B46) (np := 1) (A := A46) (T := T46) (kinds := [Kd.v]) (by kernel_rfl) (by kernel_rfl) (by kernel_rfl) (by kernel_rfl) (regK_ok env_ok) (by kernel_rfl) (fun S => t46 S) e
noncomputable def orc52 := orcQ 46 F46 orc51
noncomputable def C52 : Cfg := cfg orc52
theorem ok52 : C52.Ok := orcQ_ok (C := C51) ok51 r46
noncomputable def B33 : Code := (Try.f33.body).getD .skip
def A33 : Ann := (Ann.node (some (0, [(0, Kd.v)])) bl (bn bl (bn bl bl)))
noncomputable def P33x0 (S : Sg) (r0 : Value) (h : Hp) : CRes :=
  allocK h 52 (Array.toList (Value.cells r0)) fun a0 h0 =>
  loadNK 5 h0 a0 fun v1 =>
  pairK (callQ F46 [v1] h0) fun v2 h2 =>
  allocK h2 28 [(Value.slice none 0 0)] fun a3 h3 =>
  store1K h3 a3 v2 fun h4 =>
  some ((Value.func (.func 47) (List.toArray []) (List.toArray [a0, a3])), h4)
noncomputable def T33 (S : Sg) : Sg := tabC 0 (uV fun r0 => uN fun h => P33x0 S r0 h) (tabN)
noncomputable def F33 (args : List Value) (h : Hp) : CRes := packVals [Kd.v] args fun al => rec' T33 1000000 0 al h
def nt33 : Nat := 1 + (7 - 1)
theorem q33x0 (S : Sg) (r0 : Value) (h : Hp) : P33x0 S r0 h = stepAt (regK env orc52 (nt33)) (finK env Try.f33.results.toList) (collect B33 A33 []) 0 S (AL.v r0 AL.n) h := by kernel_rfl
theorem t33 (S : Sg) : Tab (fun l vs h => stepAt (regK env orc52 nt33) (finK env Try.f33.results.toList) (collect B33 A33 []) l S vs h) (T33 S) := by
  unfold T33
  refine Tab.cons 0 (fun vs0 h q e0 => ?_) ?_
  · obtain ⟨r0, vs1, rfl, e1⟩ := uV_some e0
    obtain ⟨rfl, ee⟩ := uN_some e1
    exact (q33x0 S r0 h).symm.trans ee
  exact Tab.nil
theorem r33 : ∀ args h v h', F33 args h = some (v, h') → Runs (C52) (.call 33 args.toArray h) (.ret v h') := by
  intro args h v h' e
  exact fun_sound (C := C52) (fn := Try.f33) (body := B33) (np := 1) (A := A33) (T := T33) (kinds := [Kd.v]) (by kernel_rfl) (by kernel_rfl) (by kernel_rfl) (by kernel_rfl) (regK_ok env_ok) (by kernel_rfl) (fun S => t33 S) e
noncomputable def orc53 := orcQ 33 F33 orc52
noncomputable def C53 : Cfg := cfg orc53
theorem ok53 : C53.Ok := orcQ_ok (C := C52) ok52 r33
noncomputable def B38 : Code := (Try.f38.body).getD .skip
def A38 : Ann := (Ann.node (some (0, [(0, Kd.v), (1, Kd.i .i64)])) bl (bn bl bl))
noncomputable def P38x0 (S : Sg) (r0 : Value) (r1 : Int) (h : Hp) : CRes :=
  allocK h 56 (Array.toList (Value.cells r0)) fun a0 h0 =>
  loadNK 11 h0 a0 fun v1 =>
  pairK (callQ F19 [v1, (Value.int .i64 r1)] h0) fun v2 h2 =>
  intK .i64 v2 fun i3 =>
  boolZ (eqZ i3 (Int.ofNat 1)) fun b4 =>
  some ((Value.bool b4), h2)
noncomputable def T38 (S : Sg) : Sg := tabC 0 (uV fun r0 => uI fun r1 => uN fun h => P38x0 S r0 r1 h) (tabN)
noncomputable def F38 (args : List Value) (h : Hp) : CRes := packVals [Kd.v, Kd.i .i64] args fun al => rec' T38 1000000 0 al h
def nt38 : Nat := 2 + (9 - 2)
theorem q38x0 (S : Sg) (r0 : Value) (r1 : Int) (h : Hp) : P38x0 S r0 r1 h = stepAt (regK env orc53 (nt38)) (finK env Try.f38.results.toList) (collect B38 A38 []) 0 S (AL.v r0 (AL.i r1 AL.n)) h := by kernel_rfl
theorem t38 (S : Sg) : Tab (fun l vs h => stepAt (regK env orc53 nt38) (finK env Try.f38.results.toList) (collect B38 A38 []) l S vs h) (T38 S) := by
  unfold T38
  refine Tab.cons 0 (fun vs0 h q e0 => ?_) ?_
  · obtain ⟨r0, vs1, rfl, e1⟩ := uV_some e0
    obtain ⟨r1, vs2, rfl, e2⟩ := uI_some e1
    obtain ⟨rfl, ee⟩ := uN_some e2
    exact (q38x0 S r0 r1 h).symm.trans ee
  exact Tab.nil
theorem r38 : ∀ args h v h', F38 args h = some (v, h') → Runs (C53) (.call 38 args.toArray h) (.ret v h') := by
  intro args h v h' e
  exact fun_sound (C := C53) (fn := Try.f38) (body := B38) (np := 2) (A := A38) (T := T38) (kinds := [Kd.v, Kd.i .i64]) (by kernel_rfl) (by kernel_rfl) (by kernel_rfl) (by kernel_rfl) (regK_ok env_ok) (by kernel_rfl) (fun S => t38 S) e
noncomputable def orc54 := orcQ 38 F38 orc53
noncomputable def C54 : Cfg := cfg orc54
theorem ok54 : C54.Ok := orcQ_ok (C := C53) ok53 r38
noncomputable def B49 : Code := (Try.f49.body).getD .skip
def A49 : Ann := (Ann.node (some (0, [(0, Kd.i .i64), (1, Kd.v)])) bl (bn bl (bn (bn bl (bn (Ann.node (some (1, [(1, Kd.v), (5, Kd.i .i64), (7, Kd.i .i64), (8, Kd.i .i64)])) (bn bl (bn (bn bl bl) (bn (bn (bn bl (bn bl (bn bl bl))) bl) bl))) bl) bl)) (Ann.node (some (2, [(5, Kd.i .i64)])) bl bl))))
noncomputable def P49x2 (S : Sg) (r5 : Int) (h : Hp) : CRes :=
  some ((Value.int .i64 r5), h)
noncomputable def P49x1 (S : Sg) (r1 : Value) (r5 : Int) (r7 : Int) (r8 : Int) (h : Hp) : CRes :=
  boolZ (ltZ r8 r7) fun b0 =>
  ifB b0
  (pairK (callF orc54 r1 [(Value.int .i64 r8)] h) fun v1 h1 =>
  boolK v1 fun b2 =>
  ifB b2
  (wrap64 (Int.add r5 (Int.ofNat 1)) fun i3 =>
  wrap64 (Int.add r8 (Int.ofNat 1)) fun i4 =>
  S 1 (AL.v r1 (AL.i i3 (AL.i r7 (AL.i i4 AL.n)))) h1)
  (wrap64 (Int.add r8 (Int.ofNat 1)) fun i5 =>
  S 1 (AL.v r1 (AL.i r5 (AL.i r7 (AL.i i5 AL.n)))) h1))
  (S 2 (AL.i r5 AL.n) h)
noncomputable def P49x0 (S : Sg) (r0 : Int) (r1 : Value) (h : Hp) : CRes :=
  S 1 (AL.v r1 (AL.i (Int.ofNat 0) (AL.i r0 (AL.i (Int.ofNat 0) AL.n)))) h
noncomputable def T49 (S : Sg) : Sg := tabC 0 (uI fun r0 => uV fun r1 => uN fun h => P49x0 S r0 r1 h) (tabC 1 (uV fun r1 => uI fun r5 => uI fun r7 => uI fun r8 => uN fun h => P49x1 S r1 r5 r7 r8 h) (tabC 2 (uI fun r5 => uN fun h => P49x2 S r5 h) (tabN)))
noncomputable def F49 (args : List Value) (h : Hp) : CRes := packVals [Kd.i .i64, Kd.v] args fun al => rec' T49 1000000 0 al h
def nt49 : Nat := 2 + (18 - 2)
theorem q49x2 (S : Sg) (r5 : Int) (h : Hp) : P49x2 S r5 h = stepAt (regK env orc54 (nt49)) (finK env Try.f49.results.toList) (collect B49 A49 []) 2 S (AL.i r5 AL.n) h := by kernel_rfl
theorem q49x1 (S : Sg) (r1 : Value) (r5 : Int) (r7 : Int) (r8 : Int) (h : Hp) : P49x1 S r1 r5 r7 r8 h = stepAt (regK env orc54 (nt49)) (finK env Try.f49.results.toList) (collect B49 A49 []) 1 S (AL.v r1 (AL.i r5 (AL.i r7 (AL.i r8 AL.n)))) h := by kernel_rfl
theorem q49x0 (S : Sg) (r0 : Int) (r1 : Value) (h : Hp) : P49x0 S r0 r1 h = stepAt (regK env orc54 (nt49)) (finK env Try.f49.results.toList) (collect B49 A49 []) 0 S (AL.i r0 (AL.v r1 AL.n)) h := by kernel_rfl
theorem t49 (S : Sg) : Tab (fun l vs h => stepAt (regK env orc54 nt49) (finK env Try.f49.results.toList) (collect B49 A49 []) l S vs h) (T49 S) := by
  unfold T49
  refine Tab.cons 0 (fun vs0 h q e0 => ?_) ?_
  · obtain ⟨r0, vs1, rfl, e1⟩ := uI_some e0
    obtain ⟨r1, vs2, rfl, e2⟩ := uV_some e1
    obtain ⟨rfl, ee⟩ := uN_some e2
    exact (q49x0 S r0 r1 h).symm.trans ee
  refine Tab.cons 1 (fun vs0 h q e0 => ?_) ?_
  · obtain ⟨r1, vs1, rfl, e1⟩ := uV_some e0
    obtain ⟨r5, vs2, rfl, e2⟩ := uI_some e1
    obtain ⟨r7, vs3, rfl, e3⟩ := uI_some e2
    obtain ⟨r8, vs4, rfl, e4⟩ := uI_some e3
    obtain ⟨rfl, ee⟩ := uN_some e4
    exact (q49x1 S r1 r5 r7 r8 h).symm.trans ee
  refine Tab.cons 2 (fun vs0 h q e0 => ?_) ?_
  · obtain ⟨r5, vs1, rfl, e1⟩ := uI_some e0
    obtain ⟨rfl, ee⟩ := uN_some e1
    exact (q49x2 S r5 h).symm.trans ee
  exact Tab.nil
theorem r49 : ∀ args h v h', F49 args h = some (v, h') → Runs (C54) (.call 49 args.toArray h) (.ret v h') := by
  intro args h v h' e
  exact fun_sound (C := C54) (fn := Try.f49) (body := B49) (np := 2) (A := A49) (T := T49) (kinds := [Kd.i .i64, Kd.v]) (by kernel_rfl) (by kernel_rfl) (by kernel_rfl) (by kernel_rfl) (regK_ok env_ok) (by kernel_rfl) (fun S => t49 S) e
noncomputable def orc55 := orcQ 49 F49 orc54
noncomputable def C55 : Cfg := cfg orc55
theorem ok55 : C55.Ok := orcQ_ok (C := C54) ok54 r49
noncomputable def B34 : Code := (Try.f34.body).getD .skip
def A34 : Ann := (Ann.node (some (0, [(0, Kd.v)])) bl (bn bl (bn (bn bl (bn (Ann.node (some (1, [(1, Kd.v), (2, Kd.v), (3, Kd.v), (20, Kd.i .i64), (21, Kd.i .i64)])) (bn bl (bn (bn bl bl) (bn (bn (bn bl (bn bl (bn (Ann.node (some (2, [(1, Kd.v), (2, Kd.v), (3, Kd.v), (20, Kd.i .i64), (21, Kd.i .i64), (26, Kd.v), (27, Kd.i .i64)])) (bn bl (bn (bn bl bl) (bn (bn (bn bl bl) bl) bl))) bl) bl))) bl) (Ann.node (some (3, [(1, Kd.v), (2, Kd.v), (3, Kd.v), (20, Kd.i .i64), (21, Kd.i .i64)])) bl bl)))) bl) bl)) (Ann.node (some (4, [(2, Kd.v), (3, Kd.v)])) bl bl))))
noncomputable def P34x4 (S : Sg) (r2 : Value) (r3 : Value) (h : Hp) : CRes :=
  loadNK 2 h r3 fun v0 =>
  storeNK 2 h r2 v0 fun h1 =>
  loadNK 2 h1 r2 fun v2 => some (v2, h1)
noncomputable def P34x3 (S : Sg) (r1 : Value) (r2 : Value) (r3 : Value) (r20 : Int) (r21 : Int) (h : Hp) : CRes :=
  wrap64 (Int.add r21 (Int.ofNat 1)) fun i0 =>
  S 1 (AL.v r1 (AL.v r2 (AL.v r3 (AL.i r20 (AL.i i0 AL.n))))) h
noncomputable def P34x2 (S : Sg) (r1 : Value) (r2 : Value) (r3 : Value) (r20 : Int) (r21 : Int) (r26 : Value) (r27 : Int) (h : Hp) : CRes :=
  boolZ (ltZ r27 (Int.ofNat 3)) fun b0 =>
  ifB b0
  (optK (indexV env 61 r26 (Value.int .i64 r27)) fun v1 =>
  intK .i64 v1 fun i2 =>
  ptrAddK 1 r3 fun v3 =>
  load1K h v3 fun v4 =>
  intK .i64 v4 fun i5 =>
  wrap64 (Int.add i5 i2) fun i6 =>
  ptrAddK 1 r3 fun v7 =>
  store1K h v7 (Value.int .i64 i6) fun h8 =>
  wrap64 (Int.add r27 (Int.ofNat 1)) fun i9 =>
  S 2 (AL.v r1 (AL.v r2 (AL.v r3 (AL.i r20 (AL.i r21 (AL.v r26 (AL.i i9 AL.n))))))) h8)
  (S 3 (AL.v r1 (AL.v r2 (AL.v r3 (AL.i r20 (AL.i r21 AL.n))))) h)
noncomputable def P34x1 (S : Sg) (r1 : Value) (r2 : Value) (r3 : Value) (r20 : Int) (r21 : Int) (h : Hp) : CRes :=
  boolZ (ltZ r21 r20) fun b0 =>
  ifB b0
  (loadNK 11 h r1 fun v1 =>
  pairK (optK (F16 [v1, (Value.int .i64 r21)] h) fun v => some (v, h)) fun v2 h2 =>
  S 2 (AL.v r1 (AL.v r2 (AL.v r3 (AL.i r20 (AL.i r21 (AL.v v2 (AL.i (Int.ofNat 0) AL.n))))))) h2)
  (S 4 (AL.v r2 (AL.v r3 AL.n)) h)
noncomputable def P34x0 (S : Sg) (r0 : Value) (h : Hp) : CRes :=
  allocK h 56 (Array.toList (Value.cells r0)) fun a0 h0 =>
  allocK h0 81 [(Value.int .i64 (Int.ofNat 0)), (Value.int .i64 (Int.ofNat 0))] fun a1 h1 =>
  ptrAddK 0 a0 fun v2 =>
  ptrAddK 0 v2 fun v3 =>
  ptrAddK 3 v3 fun v4 =>
  load1K h1 v4 fun v5 =>
  lenSK v5 fun i6 =>
  loadNK 11 h1 a0 fun v7 =>
  pairK (callQ F49 [(Value.int .i64 i6), (Value.func (.func 38) (List.toArray [v7]) (List.toArray []))] h1) fun v8 h8 =>
  intK .i64 v8 fun i9 =>
  optK (buildV env 81 (List.toArray [(0, (Value.int .i64 i9))])) fun v10 =>
  allocK h8 81 [(Value.int .i64 (Int.ofNat 0)), (Value.int .i64 (Int.ofNat 0))] fun a11 h11 =>
  storeNK 2 h11 a11 v10 fun h12 =>
  ptrAddK 0 a0 fun v13 =>
  ptrAddK 0 v13 fun v14 =>
  ptrAddK 0 v14 fun v15 =>
  load1K h12 v15 fun v16 =>
  lenSK v16 fun i17 =>
  S 1 (AL.v a0 (AL.v a1 (AL.v a11 (AL.i i17 (AL.i (Int.ofNat 0) AL.n))))) h12
noncomputable def T34 (S : Sg) : Sg := tabC 0 (uV fun r0 => uN fun h => P34x0 S r0 h) (tabC 1 (uV fun r1 => uV fun r2 => uV fun r3 => uI fun r20 => uI fun r21 => uN fun h => P34x1 S r1 r2 r3 r20 r21 h) (tabC 2 (uV fun r1 => uV fun r2 => uV fun r3 => uI fun r20 => uI fun r21 => uV fun r26 => uI fun r27 => uN fun h => P34x2 S r1 r2 r3 r20 r21 r26 r27 h) (tabC 3 (uV fun r1 => uV fun r2 => uV fun r3 => uI fun r20 => uI fun r21 => uN fun h => P34x3 S r1 r2 r3 r20 r21 h) (tabC 4 (uV fun r2 => uV fun r3 => uN fun h => P34x4 S r2 r3 h) (tabN)))))
noncomputable def F34 (args : List Value) (h : Hp) : CRes := packVals [Kd.v] args fun al => rec' T34 1000000 0 al h
def nt34 : Nat := 1 + (38 - 1)
theorem q34x4 (S : Sg) (r2 : Value) (r3 : Value) (h : Hp) : P34x4 S r2 r3 h = stepAt (regK env orc55 (nt34)) (finK env Try.f34.results.toList) (collect B34 A34 []) 4 S (AL.v r2 (AL.v r3 AL.n)) h := by kernel_rfl
theorem q34x3 (S : Sg) (r1 : Value) (r2 : Value) (r3 : Value) (r20 : Int) (r21 : Int) (h : Hp) : P34x3 S r1 r2 r3 r20 r21 h = stepAt (regK env orc55 (nt34)) (finK env Try.f34.results.toList) (collect B34 A34 []) 3 S (AL.v r1 (AL.v r2 (AL.v r3 (AL.i r20 (AL.i r21 AL.n))))) h := by kernel_rfl
theorem q34x2 (S : Sg) (r1 : Value) (r2 : Value) (r3 : Value) (r20 : Int) (r21 : Int) (r26 : Value) (r27 : Int) (h : Hp) : P34x2 S r1 r2 r3 r20 r21 r26 r27 h = stepAt (regK env orc55 (nt34)) (finK env Try.f34.results.toList) (collect B34 A34 []) 2 S (AL.v r1 (AL.v r2 (AL.v r3 (AL.i r20 (AL.i r21 (AL.v r26 (AL.i r27 AL.n))))))) h := by kernel_rfl
theorem q34x1 (S : Sg) (r1 : Value) (r2 : Value) (r3 : Value) (r20 : Int) (r21 : Int) (h : Hp) : P34x1 S r1 r2 r3 r20 r21 h = stepAt (regK env orc55 (nt34)) (finK env Try.f34.results.toList) (collect B34 A34 []) 1 S (AL.v r1 (AL.v r2 (AL.v r3 (AL.i r20 (AL.i r21 AL.n))))) h := by kernel_rfl
theorem q34x0 (S : Sg) (r0 : Value) (h : Hp) : P34x0 S r0 h = stepAt (regK env orc55 (nt34)) (finK env Try.f34.results.toList) (collect B34 A34 []) 0 S (AL.v r0 AL.n) h := by kernel_rfl
theorem t34 (S : Sg) : Tab (fun l vs h => stepAt (regK env orc55 nt34) (finK env Try.f34.results.toList) (collect B34 A34 []) l S vs h) (T34 S) := by
  unfold T34
  refine Tab.cons 0 (fun vs0 h q e0 => ?_) ?_
  · obtain ⟨r0, vs1, rfl, e1⟩ := uV_some e0
    obtain ⟨rfl, ee⟩ := uN_some e1
    exact (q34x0 S r0 h).symm.trans ee
  refine Tab.cons 1 (fun vs0 h q e0 => ?_) ?_
  · obtain ⟨r1, vs1, rfl, e1⟩ := uV_some e0
    obtain ⟨r2, vs2, rfl, e2⟩ := uV_some e1
    obtain ⟨r3, vs3, rfl, e3⟩ := uV_some e2
    obtain ⟨r20, vs4, rfl, e4⟩ := uI_some e3
    obtain ⟨r21, vs5, rfl, e5⟩ := uI_some e4
    obtain ⟨rfl, ee⟩ := uN_some e5
    exact (q34x1 S r1 r2 r3 r20 r21 h).symm.trans ee
  refine Tab.cons 2 (fun vs0 h q e0 => ?_) ?_
  · obtain ⟨r1, vs1, rfl, e1⟩ := uV_some e0
    obtain ⟨r2, vs2, rfl, e2⟩ := uV_some e1
    obtain ⟨r3, vs3, rfl, e3⟩ := uV_some e2
    obtain ⟨r20, vs4, rfl, e4⟩ := uI_some e3
    obtain ⟨r21, vs5, rfl, e5⟩ := uI_some e4
    obtain ⟨r26, vs6, rfl, e6⟩ := uV_some e5
    obtain ⟨r27, vs7, rfl, e7⟩ := uI_some e6
    obtain ⟨rfl, ee⟩ := uN_some e7
    exact (q34x2 S r1 r2 r3 r20 r21 r26 r27 h).symm.trans ee
  refine Tab.cons 3 (fun vs0 h q e0 => ?_) ?_
  · obtain ⟨r1, vs1, rfl, e1⟩ := uV_some e0
    obtain ⟨r2, vs2, rfl, e2⟩ := uV_some e1
    obtain ⟨r3, vs3, rfl, e3⟩ := uV_some e2
    obtain ⟨r20, vs4, rfl, e4⟩ := uI_some e3
    obtain ⟨r21, vs5, rfl, e5⟩ := uI_some e4
    obtain ⟨rfl, ee⟩ := uN_some e5
    exact (q34x3 S r1 r2 r3 r20 r21 h).symm.trans ee
  refine Tab.cons 4 (fun vs0 h q e0 => ?_) ?_
  · obtain ⟨r2, vs1, rfl, e1⟩ := uV_some e0
    obtain ⟨r3, vs2, rfl, e2⟩ := uV_some e1
    obtain ⟨rfl, ee⟩ := uN_some e2
    exact (q34x4 S r2 r3 h).symm.trans ee
  exact Tab.nil
theorem r34 : ∀ args h v h', F34 args h = some (v, h') → Runs (C55) (.call 34 args.toArray h) (.ret v h') := by
  intro args h v h' e
  exact fun_sound (C := C55) (fn := Try.f34) (body := B34) (np := 1) (A := A34) (T := T34) (kinds := [Kd.v]) (by kernel_rfl) (by kernel_rfl) (by kernel_rfl) (by kernel_rfl) (regK_ok env_ok) (by kernel_rfl) (fun S => t34 S) e
noncomputable def orc56 := orcQ 34 F34 orc55
noncomputable def C56 : Cfg := cfg orc56
theorem ok56 : C56.Ok := orcQ_ok (C := C55) ok55 r34
noncomputable def B35 : Code := (Try.f35.body).getD .skip
noncomputable def A35 : G.Ann (List KI) := (G.Ann.node (some (0, [KI.reg 0 (Kd.v), KI.reg 1 (Kd.v)])) al (an al al))
noncomputable def P35x0 (h : Hp) (S : Nat → PAL → Option Value) (r0 : Value) (r1 : Value) : Option Value :=
  forceL (Array.toList (Value.cells r0)) fun c0 =>
  forceL (Array.toList (Value.cells r1)) fun c1 =>
  nthR c0 0 fun v2 =>
  intK .i64 v2 fun i3 =>
  nthR c1 0 fun v4 =>
  intK .i64 v4 fun i5 =>
  boolZ (ltZ i5 i3) fun b6 =>
  ifB b6
  (some (Value.bool true))
  (nthR c0 0 fun v7 =>
  intK .i64 v7 fun i8 =>
  nthR c1 0 fun v9 =>
  intK .i64 v9 fun i10 =>
  boolZ (eqZ i8 i10) fun b11 =>
  ifB b11
  (nthR c0 1 fun v12 =>
  intK .i64 v12 fun i13 =>
  nthR c1 1 fun v14 =>
  intK .i64 v14 fun i15 =>
  boolZ (ltZ i13 i15) fun b16 =>
  some (Value.bool b16))
  (some (Value.bool false)))
noncomputable def T35 (h : Hp) (S : Nat → PAL → Option Value) : Nat → PAL → Option Value := tabPC 0 (wV fun r0 => wV fun r1 => wN (P35x0 h S r0 r1)) (tabPN)
noncomputable def F35 (args : List Value) (h : Hp) : Option Value := plainO (packArgs [Kd.v, Kd.v] args fun al => G.rec' (T35 h) 1000000 0 al)
def nt35 : Nat := 2 + (24 - 2)
theorem q35x0 (h : Hp) (S : Nat → PAL → Option Value) (r0 : Value) (r1 : Value) : P35x0 h S r0 r1 = G.stepAt packP unpackP evXV (regP env pf13 nt35 h) (finP env Try.f35.results.toList) (G.collect B35 A35 []) 0 S (PAL.v r0 (PAL.v r1 PAL.n)) := by kernel_rfl
theorem t35 (h : Hp) (S : Nat → PAL → Option Value) : TabP (fun l al => G.stepAt packP unpackP evXV (regP env pf13 nt35 h) (finP env Try.f35.results.toList) (G.collect B35 A35 []) l S al) (T35 h S) := by
  unfold T35
  refine TabP.cons 0 (fun vs0 q e0 => ?_) ?_
  · obtain ⟨r0, vs1, rfl, e1⟩ := wV_some e0
    obtain ⟨r1, vs2, rfl, e2⟩ := wV_some e1
    obtain ⟨rfl, ee⟩ := wN_some e2
    exact (q35x0 h S r0 r1).symm.trans ee
  exact TabP.nil
theorem r35 : PSound Try.prog 35 F35 := fun_soundP (C := C0) ok0 (pf := pf13) pfok13 (fn := Try.f35) (body := B35) (kinds := [Kd.v, Kd.v]) (A := A35) (T := T35) (by kernel_rfl) (by kernel_rfl) (by kernel_rfl) (by kernel_rfl) (fun h S => t35 h S)
noncomputable def pf14 : PF := pfC 35 F35 pf13
theorem pfok14 : PfSound Try.prog pf14 := pfC_ok r35 pfok13
noncomputable def orc57 := orcP 35 F35 orc56
noncomputable def C57 : Cfg := cfg orc57
theorem ok57 : C57.Ok := orcP_ok (C := C56) ok56 r35
noncomputable def B36 : Code := (Try.f36.body).getD .skip
def A36 : Ann := (Ann.node (some (0, [(0, Kd.i .i64), (1, Kd.i .i64)])) bl (bn bl (bn bl (bn bl bl))))
noncomputable def P36x0 (S : Sg) (r0 : Int) (r1 : Int) (h : Hp) : CRes :=
  allocK h 54 [(Value.int .i64 (Int.ofNat 0)), (Value.int .i64 (Int.ofNat 0)), (Value.int .i64 (Int.ofNat 0)), (Value.int .i64 (Int.ofNat 0)), (Value.int .i64 (Int.ofNat 0)), (Value.int .i64 (Int.ofNat 0))] fun a0 h0 =>
  pairK (callQ F29 [(Value.slice none 0 0)] h0) fun v1 h1 =>
  allocK h1 54 [(Value.int .i64 (Int.ofNat 0)), (Value.int .i64 (Int.ofNat 0)), (Value.int .i64 (Int.ofNat 0)), (Value.int .i64 (Int.ofNat 0)), (Value.int .i64 (Int.ofNat 0)), (Value.int .i64 (Int.ofNat 0))] fun a2 h2 =>
  storeNK 6 h2 a2 v1 fun h3 =>
  idxAK 6 1 a2 r0 fun v4 =>
  store1K h3 v4 (Value.int .i64 r1) fun h5 =>
  loadNK 6 h5 a2 fun v6 =>
  storeNK 6 h5 a0 v6 fun h7 =>
  loadNK 6 h7 a0 fun v8 => some (v8, h7)
noncomputable def T36 (S : Sg) : Sg := tabC 0 (uI fun r0 => uI fun r1 => uN fun h => P36x0 S r0 r1 h) (tabN)
noncomputable def F36 (args : List Value) (h : Hp) : CRes := packVals [Kd.i .i64, Kd.i .i64] args fun al => rec' T36 1000000 0 al h
def nt36 : Nat := 2 + (11 - 2)
theorem q36x0 (S : Sg) (r0 : Int) (r1 : Int) (h : Hp) : P36x0 S r0 r1 h = stepAt (regK env orc57 (nt36)) (finK env Try.f36.results.toList) (collect B36 A36 []) 0 S (AL.i r0 (AL.i r1 AL.n)) h := by kernel_rfl
theorem t36 (S : Sg) : Tab (fun l vs h => stepAt (regK env orc57 nt36) (finK env Try.f36.results.toList) (collect B36 A36 []) l S vs h) (T36 S) := by
  unfold T36
  refine Tab.cons 0 (fun vs0 h q e0 => ?_) ?_
  · obtain ⟨r0, vs1, rfl, e1⟩ := uI_some e0
    obtain ⟨r1, vs2, rfl, e2⟩ := uI_some e1
    obtain ⟨rfl, ee⟩ := uN_some e2
    exact (q36x0 S r0 r1 h).symm.trans ee
  exact Tab.nil
theorem r36 : ∀ args h v h', F36 args h = some (v, h') → Runs (C57) (.call 36 args.toArray h) (.ret v h') := by
  intro args h v h' e
  exact fun_sound (C := C57) (fn := Try.f36) (body := B36) (np := 2) (A := A36) (T := T36) (kinds := [Kd.i .i64, Kd.i .i64]) (by kernel_rfl) (by kernel_rfl) (by kernel_rfl) (by kernel_rfl) (regK_ok env_ok) (by kernel_rfl) (fun S => t36 S) e
noncomputable def orc58 := orcQ 36 F36 orc57
noncomputable def C58 : Cfg := cfg orc58
theorem ok58 : C58.Ok := orcQ_ok (C := C57) ok57 r36
noncomputable def B25 : Code := (Try.f25.body).getD .skip
def A25 : Ann := (Ann.node (some (0, [])) bl (bn bl (bn bl (bn bl (bn (bn bl (bn (Ann.node (some (1, [(0, Kd.v), (1, Kd.v), (2, Kd.i .i64)])) (bn (bn bl (bn bl bl)) (bn (bn bl bl) bl)) bl) bl)) (Ann.node (some (2, [(0, Kd.v), (1, Kd.v)])) bl bl))))))
noncomputable def P25x2 (S : Sg) (r0 : Value) (r1 : Value) (h : Hp) : CRes :=
  loadNK 5 h r1 fun v0 =>
  storeNK 5 h r0 v0 fun h1 =>
  loadNK 5 h1 r0 fun v2 => some (v2, h1)
noncomputable def P25x1 (S : Sg) (r0 : Value) (r1 : Value) (r2 : Int) (h : Hp) : CRes :=
  ptrAddK 3 r1 fun v0 =>
  load1K h v0 fun v1 =>
  lenSK v1 fun i2 =>
  boolZ (ltZ r2 i2) fun b3 =>
  ifB b3
  (ptrAddK 3 r1 fun v4 =>
  load1K h v4 fun v5 =>
  idxSK 4 v5 r2 fun v6 =>
  ptrAddK 3 v6 fun v7 =>
  store1K h v7 (Value.int .i64 (Int.ofNat 400)) fun h8 =>
  wrap64 (Int.add r2 (Int.ofNat 1)) fun i9 =>
  S 1 (AL.v r0 (AL.v r1 (AL.i i9 AL.n))) h8)
  (S 2 (AL.v r0 (AL.v r1 AL.n)) h)
noncomputable def P25x0 (S : Sg) (h : Hp) : CRes :=
  allocK h 26 [(Value.slice none 0 0), (Value.int .i64 (Int.ofNat 0)), (Value.int .i64 (Int.ofNat 0)), (Value.slice none 0 0), (Value.slice none 0 0)] fun a0 h0 =>
  pairK (callQ F4 [] h0) fun v1 h1 =>
  allocK h1 26 [(Value.slice none 0 0), (Value.int .i64 (Int.ofNat 0)), (Value.int .i64 (Int.ofNat 0)), (Value.slice none 0 0), (Value.slice none 0 0)] fun a2 h2 =>
  storeNK 5 h2 a2 v1 fun h3 =>
  ptrAddK 0 a2 fun v4 =>
  load1K h3 v4 fun v5 =>
  optK (sliceV env h3 22 v5 none (some (Value.int .i64 (Int.ofNat 1))) none) fun v6 =>
  ptrAddK 0 a2 fun v7 =>
  store1K h3 v7 v6 fun h8 =>
  ptrAddK 0 a2 fun v9 =>
  load1K h8 v9 fun v10 =>
  idxSK 4 v10 (Int.ofNat 0) fun v11 =>
  ptrAddK 1 v11 fun v12 =>
  store1K h8 v12 (Value.int .i64 (Int.ofNat 9)) fun h13 =>
  S 1 (AL.v a0 (AL.v a2 (AL.i (Int.ofNat 0) AL.n))) h13
noncomputable def T25 (S : Sg) : Sg := tabC 0 (uN fun h => P25x0 S  h) (tabC 1 (uV fun r0 => uV fun r1 => uI fun r2 => uN fun h => P25x1 S r0 r1 r2 h) (tabC 2 (uV fun r0 => uV fun r1 => uN fun h => P25x2 S r0 r1 h) (tabN)))
noncomputable def F25 (args : List Value) (h : Hp) : CRes := packVals [] args fun al => rec' T25 1000000 0 al h
def nt25 : Nat := 0 + (25 - 0)
theorem q25x2 (S : Sg) (r0 : Value) (r1 : Value) (h : Hp) : P25x2 S r0 r1 h = stepAt (regK env orc58 (nt25)) (finK env Try.f25.results.toList) (collect B25 A25 []) 2 S (AL.v r0 (AL.v r1 AL.n)) h := by kernel_rfl
theorem q25x1 (S : Sg) (r0 : Value) (r1 : Value) (r2 : Int) (h : Hp) : P25x1 S r0 r1 r2 h = stepAt (regK env orc58 (nt25)) (finK env Try.f25.results.toList) (collect B25 A25 []) 1 S (AL.v r0 (AL.v r1 (AL.i r2 AL.n))) h := by kernel_rfl
theorem q25x0 (S : Sg) (h : Hp) : P25x0 S  h = stepAt (regK env orc58 (nt25)) (finK env Try.f25.results.toList) (collect B25 A25 []) 0 S AL.n h := by kernel_rfl
theorem t25 (S : Sg) : Tab (fun l vs h => stepAt (regK env orc58 nt25) (finK env Try.f25.results.toList) (collect B25 A25 []) l S vs h) (T25 S) := by
  unfold T25
  refine Tab.cons 0 (fun vs0 h q e0 => ?_) ?_
  · 
    obtain ⟨rfl, ee⟩ := uN_some e0
    exact (q25x0 S  h).symm.trans ee
  refine Tab.cons 1 (fun vs0 h q e0 => ?_) ?_
  · obtain ⟨r0, vs1, rfl, e1⟩ := uV_some e0
    obtain ⟨r1, vs2, rfl, e2⟩ := uV_some e1
    obtain ⟨r2, vs3, rfl, e3⟩ := uI_some e2
    obtain ⟨rfl, ee⟩ := uN_some e3
    exact (q25x1 S r0 r1 r2 h).symm.trans ee
  refine Tab.cons 2 (fun vs0 h q e0 => ?_) ?_
  · obtain ⟨r0, vs1, rfl, e1⟩ := uV_some e0
    obtain ⟨r1, vs2, rfl, e2⟩ := uV_some e1
    obtain ⟨rfl, ee⟩ := uN_some e2
    exact (q25x2 S r0 r1 h).symm.trans ee
  exact Tab.nil
theorem r25 : ∀ args h v h', F25 args h = some (v, h') → Runs (C58) (.call 25 args.toArray h) (.ret v h') := by
  intro args h v h' e
  exact fun_sound (C := C58) (fn := Try.f25) (body := B25) (np := 0) (A := A25) (T := T25) (kinds := []) (by kernel_rfl) (by kernel_rfl) (by kernel_rfl) (by kernel_rfl) (regK_ok env_ok) (by kernel_rfl) (fun S => t25 S) e
noncomputable def orc59 := orcQ 25 F25 orc58
noncomputable def C59 : Cfg := cfg orc59
theorem ok59 : C59.Ok := orcQ_ok (C := C58) ok58 r25
noncomputable def B51 : Code := (Try.f51.body).getD .skip
noncomputable def A51 : G.Ann (List KI) := (G.Ann.node (some (0, [KI.reg 0 (Kd.i .i64), KI.reg 1 (Kd.i .i64)])) al (an al al))
noncomputable def P51x0 (h : Hp) (S : Nat → PAL → Option Value) (r0 : Int) (r1 : Int) : Option Value :=
  shrZ .i64 r0 r1 (shrI (binW env .shr 3 (Value.int .i64 r0) (Value.int .i64 r1)) (Value.int .i64 r0) (Value.int .i64 r1)) fun i0 =>
  andZ .i64 i0 (Int.ofNat 1) (andI (binW env .and 3 (Value.int .i64 i0) (Value.int .i64 (Int.ofNat 1))) (Value.int .i64 i0) (Value.int .i64 (Int.ofNat 1))) fun i1 =>
  boolZ (eqZ i1 (Int.ofNat 1)) fun b2 =>
  some (Value.bool b2)
noncomputable def T51 (h : Hp) (S : Nat → PAL → Option Value) : Nat → PAL → Option Value := tabPC 0 (wI fun r0 => wI fun r1 => wN (P51x0 h S r0 r1)) (tabPN)
noncomputable def F51 (args : List Value) (h : Hp) : Option Value := plainO (packArgs [Kd.i .i64, Kd.i .i64] args fun al => G.rec' (T51 h) 1000000 0 al)
def nt51 : Nat := 2 + (10 - 2)
theorem q51x0 (h : Hp) (S : Nat → PAL → Option Value) (r0 : Int) (r1 : Int) : P51x0 h S r0 r1 = G.stepAt packP unpackP evXV (regP env pf14 nt51 h) (finP env Try.f51.results.toList) (G.collect B51 A51 []) 0 S (PAL.i r0 (PAL.i r1 PAL.n)) := by kernel_rfl
theorem t51 (h : Hp) (S : Nat → PAL → Option Value) : TabP (fun l al => G.stepAt packP unpackP evXV (regP env pf14 nt51 h) (finP env Try.f51.results.toList) (G.collect B51 A51 []) l S al) (T51 h S) := by
  unfold T51
  refine TabP.cons 0 (fun vs0 q e0 => ?_) ?_
  · obtain ⟨r0, vs1, rfl, e1⟩ := wI_some e0
    obtain ⟨r1, vs2, rfl, e2⟩ := wI_some e1
    obtain ⟨rfl, ee⟩ := wN_some e2
    exact (q51x0 h S r0 r1).symm.trans ee
  exact TabP.nil
theorem r51 : PSound Try.prog 51 F51 := fun_soundP (C := C0) ok0 (pf := pf14) pfok14 (fn := Try.f51) (body := B51) (kinds := [Kd.i .i64, Kd.i .i64]) (A := A51) (T := T51) (by kernel_rfl) (by kernel_rfl) (by kernel_rfl) (by kernel_rfl) (fun h S => t51 h S)
noncomputable def pf15 : PF := pfC 51 F51 pf14
theorem pfok15 : PfSound Try.prog pf15 := pfC_ok r51 pfok14
noncomputable def orc60 := orcP 51 F51 orc59
noncomputable def C60 : Cfg := cfg orc60
theorem ok60 : C60.Ok := orcP_ok (C := C59) ok59 r51
noncomputable def B39 : Code := (Try.f39.body).getD .skip
def A39 : Ann := (Ann.node (some (0, [(0, Kd.v), (1, Kd.i .i64)])) bl (bn bl (bn (bn bl (bn (Ann.node (some (1, [(1, Kd.i .i64), (2, Kd.v), (4, Kd.v), (5, Kd.v), (10, Kd.v), (11, Kd.i .i64), (12, Kd.i .i64)])) (bn bl (bn (bn bl bl) (bn (bn (bn bl (bn bl (bn bl bl))) bl) bl))) bl) bl)) (Ann.node (some (2, [(2, Kd.v), (4, Kd.v), (5, Kd.v)])) bl (bn bl bl)))))
noncomputable def P39x2 (S : Sg) (r2 : Value) (r4 : Value) (r5 : Value) (h : Hp) : CRes :=
  ptrAddK 0 r2 fun v0 =>
  ptrAddK 4 v0 fun v1 =>
  store1K h v1 r5 fun h2 =>
  loadNK 5 h2 r2 fun v3 =>
  storeNK 5 h2 r4 v3 fun h4 =>
  loadNK 5 h4 r4 fun v5 => some (v5, h4)
noncomputable def P39x1 (S : Sg) (r1 : Int) (r2 : Value) (r4 : Value) (r5 : Value) (r10 : Value) (r11 : Int) (r12 : Int) (h : Hp) : CRes :=
  boolZ (ltZ r12 r11) fun b0 =>
  ifB b0
  (idxSK 2 r10 r12 fun v1 =>
  loadNK 2 h v1 fun v2 =>
  allocK h 50 [(Value.int .i64 (Int.ofNat 0)), (Value.int .i64 (Int.ofNat 0))] fun a3 h3 =>
  storeNK 2 h3 a3 v2 fun h4 =>
  pairK (optK (F51 [(Value.int .i64 r1), (Value.int .i64 r12)] h4) fun v => some (v, h4)) fun v5 h5 =>
  boolK v5 fun b6 =>
  boolN b6 fun b7 =>
  ifB b7
  (loadNK 2 h5 a3 fun v8 =>
  pairK (buildSliceV env h5 24 1 (List.toArray [(0, v8)])) fun v9 h9 =>
  pairK (appendV env h9 #[24, 24] (List.toArray [r5, v9])) fun v10 h10 =>
  wrap64 (Int.add r12 (Int.ofNat 1)) fun i11 =>
  S 1 (AL.i r1 (AL.v r2 (AL.v r4 (AL.v v10 (AL.v r10 (AL.i r11 (AL.i i11 AL.n))))))) h10)
  (wrap64 (Int.add r12 (Int.ofNat 1)) fun i12 =>
  S 1 (AL.i r1 (AL.v r2 (AL.v r4 (AL.v r5 (AL.v r10 (AL.i r11 (AL.i i12 AL.n))))))) h5))
  (S 2 (AL.v r2 (AL.v r4 (AL.v r5 AL.n))) h)
noncomputable def P39x0 (S : Sg) (r0 : Value) (r1 : Int) (h : Hp) : CRes :=
  allocK h 52 (Array.toList (Value.cells r0)) fun a0 h0 =>
  allocK h0 52 [(Value.slice none 0 0), (Value.int .i64 (Int.ofNat 0)), (Value.int .i64 (Int.ofNat 0)), (Value.slice none 0 0), (Value.slice none 0 0)] fun a1 h1 =>
  ptrAddK 0 a0 fun v2 =>
  ptrAddK 4 v2 fun v3 =>
  load1K h1 v3 fun v4 =>
  lenSK v4 fun i5 =>
  S 1 (AL.i r1 (AL.v a0 (AL.v a1 (AL.v (Value.slice none 0 0) (AL.v v4 (AL.i i5 (AL.i (Int.ofNat 0) AL.n))))))) h1
noncomputable def T39 (S : Sg) : Sg := tabC 0 (uV fun r0 => uI fun r1 => uN fun h => P39x0 S r0 r1 h) (tabC 1 (uI fun r1 => uV fun r2 => uV fun r4 => uV fun r5 => uV fun r10 => uI fun r11 => uI fun r12 => uN fun h => P39x1 S r1 r2 r4 r5 r10 r11 r12 h) (tabC 2 (uV fun r2 => uV fun r4 => uV fun r5 => uN fun h => P39x2 S r2 r4 r5 h) (tabN)))
noncomputable def F39 (args : List Value) (h : Hp) : CRes := packVals [Kd.v, Kd.i .i64] args fun al => rec' T39 1000000 0 al h
def nt39 : Nat := 2 + (30 - 2)
theorem q39x2 (S : Sg) (r2 : Value) (r4 : Value) (r5 : Value) (h : Hp) : P39x2 S r2 r4 r5 h = stepAt (regK env orc60 (nt39)) (finK env Try.f39.results.toList) (collect B39 A39 []) 2 S (AL.v r2 (AL.v r4 (AL.v r5 AL.n))) h := by kernel_rfl
theorem q39x1 (S : Sg) (r1 : Int) (r2 : Value) (r4 : Value) (r5 : Value) (r10 : Value) (r11 : Int) (r12 : Int) (h : Hp) : P39x1 S r1 r2 r4 r5 r10 r11 r12 h = stepAt (regK env orc60 (nt39)) (finK env Try.f39.results.toList) (collect B39 A39 []) 1 S (AL.i r1 (AL.v r2 (AL.v r4 (AL.v r5 (AL.v r10 (AL.i r11 (AL.i r12 AL.n))))))) h := by kernel_rfl
theorem q39x0 (S : Sg) (r0 : Value) (r1 : Int) (h : Hp) : P39x0 S r0 r1 h = stepAt (regK env orc60 (nt39)) (finK env Try.f39.results.toList) (collect B39 A39 []) 0 S (AL.v r0 (AL.i r1 AL.n)) h := by kernel_rfl
theorem t39 (S : Sg) : Tab (fun l vs h => stepAt (regK env orc60 nt39) (finK env Try.f39.results.toList) (collect B39 A39 []) l S vs h) (T39 S) := by
  unfold T39
  refine Tab.cons 0 (fun vs0 h q e0 => ?_) ?_
  · obtain ⟨r0, vs1, rfl, e1⟩ := uV_some e0
    obtain ⟨r1, vs2, rfl, e2⟩ := uI_some e1
    obtain ⟨rfl, ee⟩ := uN_some e2
    exact (q39x0 S r0 r1 h).symm.trans ee
  refine Tab.cons 1 (fun vs0 h q e0 => ?_) ?_
  · obtain ⟨r1, vs1, rfl, e1⟩ := uI_some e0
    obtain ⟨r2, vs2, rfl, e2⟩ := uV_some e1
    obtain ⟨r4, vs3, rfl, e3⟩ := uV_some e2
    obtain ⟨r5, vs4, rfl, e4⟩ := uV_some e3
    obtain ⟨r10, vs5, rfl, e5⟩ := uV_some e4
    obtain ⟨r11, vs6, rfl, e6⟩ := uI_some e5
    obtain ⟨r12, vs7, rfl, e7⟩ := uI_some e6
    obtain ⟨rfl, ee⟩ := uN_some e7
    exact (q39x1 S r1 r2 r4 r5 r10 r11 r12 h).symm.trans ee
  refine Tab.cons 2 (fun vs0 h q e0 => ?_) ?_
  · obtain ⟨r2, vs1, rfl, e1⟩ := uV_some e0
    obtain ⟨r4, vs2, rfl, e2⟩ := uV_some e1
    obtain ⟨r5, vs3, rfl, e3⟩ := uV_some e2
    obtain ⟨rfl, ee⟩ := uN_some e3
    exact (q39x2 S r2 r4 r5 h).symm.trans ee
  exact Tab.nil
theorem r39 : ∀ args h v h', F39 args h = some (v, h') → Runs (C60) (.call 39 args.toArray h) (.ret v h') := by
  intro args h v h' e
  exact fun_sound (C := C60) (fn := Try.f39) (body := B39) (np := 2) (A := A39) (T := T39) (kinds := [Kd.v, Kd.i .i64]) (by kernel_rfl) (by kernel_rfl) (by kernel_rfl) (by kernel_rfl) (regK_ok env_ok) (by kernel_rfl) (fun S => t39 S) e
noncomputable def orc61 := orcQ 39 F39 orc60
noncomputable def C61 : Cfg := cfg orc61
theorem ok61 : C61.Ok := orcQ_ok (C := C60) ok60 r39
noncomputable def B67 : Code := (Try.f67.body).getD .skip
noncomputable def A67 : G.Ann (List KI) := (G.Ann.node (some (0, [KI.reg 0 (Kd.v), KI.reg 1 (Kd.i .i64)])) al (an (an al (an (G.Ann.node (some (1, [KI.reg 0 (Kd.v), KI.reg 1 (Kd.i .i64), KI.reg 7 (Kd.i .i64), KI.reg 8 (Kd.i .i64)])) (an al (an (an al al) (an (an (an al (an al (an (an al al) al))) al) al))) al) al)) (G.Ann.node (some (2, [])) al al)))
noncomputable def P67x2 (h : Hp) (S : Nat → PAL → Option Value) : Option Value :=
  some (Value.int .i64 (Int.negSucc 0))
noncomputable def P67x1 (h : Hp) (S : Nat → PAL → Option Value) (r0 : Value) (r1 : Int) (r7 : Int) (r8 : Int) : Option Value :=
  boolZ (ltZ r8 r7) fun b0 =>
  ifB b0
  (idxSK 1 r0 r8 fun v1 =>
  load1K h v1 fun v2 =>
  intK .i64 v2 fun i3 =>
  boolZ (eqZ r1 i3) fun b4 =>
  ifB b4
  (some (Value.int .i64 r8))
  (wrap64 (Int.add r8 (Int.ofNat 1)) fun i5 =>
  S 1 (PAL.v r0 (PAL.i r1 (PAL.i r7 (PAL.i i5 PAL.n))))))
  (S 2 PAL.n)
noncomputable def P67x0 (h : Hp) (S : Nat → PAL → Option Value) (r0 : Value) (r1 : Int) : Option Value :=
  lenSK r0 fun i0 =>
  S 1 (PAL.v r0 (PAL.i r1 (PAL.i i0 (PAL.i (Int.ofNat 0) PAL.n))))
noncomputable def T67 (h : Hp) (S : Nat → PAL → Option Value) : Nat → PAL → Option Value := tabPC 0 (wV fun r0 => wI fun r1 => wN (P67x0 h S r0 r1)) (tabPC 1 (wV fun r0 => wI fun r1 => wI fun r7 => wI fun r8 => wN (P67x1 h S r0 r1 r7 r8)) (tabPC 2 (wN (P67x2 h S)) (tabPN)))
noncomputable def F67 (args : List Value) (h : Hp) : Option Value := plainO (packArgs [Kd.v, Kd.i .i64] args fun al => G.rec' (T67 h) 1000000 0 al)
def nt67 : Nat := 2 + (19 - 2)
theorem q67x2 (h : Hp) (S : Nat → PAL → Option Value) : P67x2 h S = G.stepAt packP unpackP evXV (regP env pf15 nt67 h) (finP env Try.f67.results.toList) (G.collect B67 A67 []) 2 S PAL.n := by kernel_rfl
theorem q67x1 (h : Hp) (S : Nat → PAL → Option Value) (r0 : Value) (r1 : Int) (r7 : Int) (r8 : Int) : P67x1 h S r0 r1 r7 r8 = G.stepAt packP unpackP evXV (regP env pf15 nt67 h) (finP env Try.f67.results.toList) (G.collect B67 A67 []) 1 S (PAL.v r0 (PAL.i r1 (PAL.i r7 (PAL.i r8 PAL.n)))) := by kernel_rfl
theorem q67x0 (h : Hp) (S : Nat → PAL → Option Value) (r0 : Value) (r1 : Int) : P67x0 h S r0 r1 = G.stepAt packP unpackP evXV (regP env pf15 nt67 h) (finP env Try.f67.results.toList) (G.collect B67 A67 []) 0 S (PAL.v r0 (PAL.i r1 PAL.n)) := by kernel_rfl
theorem t67 (h : Hp) (S : Nat → PAL → Option Value) : TabP (fun l al => G.stepAt packP unpackP evXV (regP env pf15 nt67 h) (finP env Try.f67.results.toList) (G.collect B67 A67 []) l S al) (T67 h S) := by
  unfold T67
  refine TabP.cons 0 (fun vs0 q e0 => ?_) ?_
  · obtain ⟨r0, vs1, rfl, e1⟩ := wV_some e0
    obtain ⟨r1, vs2, rfl, e2⟩ := wI_some e1
    obtain ⟨rfl, ee⟩ := wN_some e2
    exact (q67x0 h S r0 r1).symm.trans ee
  refine TabP.cons 1 (fun vs0 q e0 => ?_) ?_
  · obtain ⟨r0, vs1, rfl, e1⟩ := wV_some e0
    obtain ⟨r1, vs2, rfl, e2⟩ := wI_some e1
    obtain ⟨r7, vs3, rfl, e3⟩ := wI_some e2
    obtain ⟨r8, vs4, rfl, e4⟩ := wI_some e3
    obtain ⟨rfl, ee⟩ := wN_some e4
    exact (q67x1 h S r0 r1 r7 r8).symm.trans ee
  refine TabP.cons 2 (fun vs0 q e0 => ?_) ?_
  · 
    obtain ⟨rfl, ee⟩ := wN_some e0
    exact (q67x2 h S).symm.trans ee
  exact TabP.nil
theorem r67 : PSound Try.prog 67 F67 := fun_soundP (C := C0) ok0 (pf := pf15) pfok15 (fn := Try.f67) (body := B67) (kinds := [Kd.v, Kd.i .i64]) (A := A67) (T := T67) (by kernel_rfl) (by kernel_rfl) (by kernel_rfl) (by kernel_rfl) (fun h S => t67 h S)
noncomputable def pf16 : PF := pfC 67 F67 pf15
theorem pfok16 : PfSound Try.prog pf16 := pfC_ok r67 pfok15
noncomputable def orc62 := orcP 67 F67 orc61
noncomputable def C62 : Cfg := cfg orc62
theorem ok62 : C62.Ok := orcP_ok (C := C61) ok61 r67
noncomputable def B52 : Code := (Try.f52.body).getD .skip
noncomputable def A52 : G.Ann (List KI) := (G.Ann.node (some (0, [KI.reg 0 (Kd.v), KI.reg 1 (Kd.i .i64)])) al (an al al))
noncomputable def P52x0 (h : Hp) (S : Nat → PAL → Option Value) (r0 : Value) (r1 : Int) : Option Value :=
  optK (F67 [r0, (Value.int .i64 r1)] h) fun v0 =>
  intK .i64 v0 fun i1 =>
  boolN (ltZ i1 (Int.ofNat 0)) fun b2 =>
  some (Value.bool b2)
noncomputable def T52 (h : Hp) (S : Nat → PAL → Option Value) : Nat → PAL → Option Value := tabPC 0 (wV fun r0 => wI fun r1 => wN (P52x0 h S r0 r1)) (tabPN)
noncomputable def F52 (args : List Value) (h : Hp) : Option Value := plainO (packArgs [Kd.v, Kd.i .i64] args fun al => G.rec' (T52 h) 1000000 0 al)
def nt52 : Nat := 2 + (9 - 2)
theorem q52x0 (h : Hp) (S : Nat → PAL → Option Value) (r0 : Value) (r1 : Int) : P52x0 h S r0 r1 = G.stepAt packP unpackP evXV (regP env pf16 nt52 h) (finP env Try.f52.results.toList) (G.collect B52 A52 []) 0 S (PAL.v r0 (PAL.i r1 PAL.n)) := by kernel_rfl
theorem t52 (h : Hp) (S : Nat → PAL → Option Value) : TabP (fun l al => G.stepAt packP unpackP evXV (regP env pf16 nt52 h) (finP env Try.f52.results.toList) (G.collect B52 A52 []) l S al) (T52 h S) := by
  unfold T52
  refine TabP.cons 0 (fun vs0 q e0 => ?_) ?_
  · obtain ⟨r0, vs1, rfl, e1⟩ := wV_some e0
    obtain ⟨r1, vs2, rfl, e2⟩ := wI_some e1
    obtain ⟨rfl, ee⟩ := wN_some e2
    exact (q52x0 h S r0 r1).symm.trans ee
  exact TabP.nil
theorem r52 : PSound Try.prog 52 F52 := fun_soundP (C := C0) ok0 (pf := pf16) pfok16 (fn := Try.f52) (body := B52) (kinds := [Kd.v, Kd.i .i64]) (A := A52) (T := T52) (by kernel_rfl) (by kernel_rfl) (by kernel_rfl) (by kernel_rfl) (fun h S => t52 h S)
noncomputable def pf17 : PF := pfC 52 F52 pf16
theorem pfok17 : PfSound Try.prog pf17 := pfC_ok r52 pfok16
noncomputable def orc63 := orcP 52 F52 orc62
noncomputable def C63 : Cfg := cfg orc63
theorem ok63 : C63.Ok := orcP_ok (C := C62) ok62 r52
noncomputable def B53 : Code := (Try.f53.body).getD .skip
def A53 : Ann := (Ann.node (some (0, [(0, Kd.v)])) bl (bn bl (bn (bn bl (bn (Ann.node (some (1, [(1, Kd.v), (3, Kd.i .i64), (9, Kd.v), (10, Kd.i .i64), (11, Kd.i .i64)])) (bn bl (bn (bn bl bl) (bn (bn (bn bl bl) bl) bl))) bl) bl)) (Ann.node (some (2, [(3, Kd.i .i64)])) bl bl))))
noncomputable def P53x2 (S : Sg) (r3 : Int) (h : Hp) : CRes :=
  some ((Value.int .i64 r3), h)
noncomputable def P53x1 (S : Sg) (r1 : Value) (r3 : Int) (r9 : Value) (r10 : Int) (r11 : Int) (h : Hp) : CRes :=
  boolZ (ltZ r11 r10) fun b0 =>
  ifB b0
  (idxSK 4 r9 r11 fun v1 =>
  loadNK 4 h v1 fun v2 =>
  allocK h 48 [(Value.string (ByteArray.mk #[])), (Value.int .i64 (Int.ofNat 0)), (Value.int .i64 (Int.ofNat 0)), (Value.int .i64 (Int.ofNat 0))] fun a3 h3 =>
  storeNK 4 h3 a3 v2 fun h4 =>
  loadNK 11 h4 r1 fun v5 =>
  pairK (pairK (callQ F32 [v5, (Value.int .i64 r11)] (Hp.mk (Hp.next h4) (Hp.next h4) (Hp.objs h4))) fun v _ => ifB (plainK v) (some (v, h4)) none) fun v6 h6 =>
  partSK 1 v6 fun v7 =>
  intK .i64 v7 fun i8 =>
  ptrAddK 3 a3 fun v9 =>
  load1K h6 v9 fun v10 =>
  intK .i64 v10 fun i11 =>
  wrap64 (Int.sub i8 i11) fun i12 =>
  maxZ r3 i12 fun i13 =>
  wrap64 (Int.add r11 (Int.ofNat 1)) fun i14 =>
  S 1 (AL.v r1 (AL.i i13 (AL.v r9 (AL.i r10 (AL.i i14 AL.n))))) h6)
  (S 2 (AL.i r3 AL.n) h)
noncomputable def P53x0 (S : Sg) (r0 : Value) (h : Hp) : CRes :=
  allocK h 56 (Array.toList (Value.cells r0)) fun a0 h0 =>
  ptrAddK 0 a0 fun v1 =>
  ptrAddK 0 v1 fun v2 =>
  ptrAddK 3 v2 fun v3 =>
  load1K h0 v3 fun v4 =>
  lenSK v4 fun i5 =>
  S 1 (AL.v a0 (AL.i (Int.ofNat 0) (AL.v v4 (AL.i i5 (AL.i (Int.ofNat 0) AL.n))))) h0
noncomputable def T53 (S : Sg) : Sg := tabC 0 (uV fun r0 => uN fun h => P53x0 S r0 h) (tabC 1 (uV fun r1 => uI fun r3 => uV fun r9 => uI fun r10 => uI fun r11 => uN fun h => P53x1 S r1 r3 r9 r10 r11 h) (tabC 2 (uI fun r3 => uN fun h => P53x2 S r3 h) (tabN)))
noncomputable def F53 (args : List Value) (h : Hp) : CRes := packVals [Kd.v] args fun al => rec' T53 1000000 0 al h
def nt53 : Nat := 1 + (27 - 1)
theorem q53x2 (S : Sg) (r3 : Int) (h : Hp) : P53x2 S r3 h = stepAt (regK env orc63 (nt53)) (finK env Try.f53.results.toList) (collect B53 A53 []) 2 S (AL.i r3 AL.n) h := by kernel_rfl
theorem q53x1 (S : Sg) (r1 : Value) (r3 : Int) (r9 : Value) (r10 : Int) (r11 : Int) (h : Hp) : P53x1 S r1 r3 r9 r10 r11 h = stepAt (regK env orc63 (nt53)) (finK env Try.f53.results.toList) (collect B53 A53 []) 1 S (AL.v r1 (AL.i r3 (AL.v r9 (AL.i r10 (AL.i r11 AL.n))))) h := by kernel_rfl
theorem q53x0 (S : Sg) (r0 : Value) (h : Hp) : P53x0 S r0 h = stepAt (regK env orc63 (nt53)) (finK env Try.f53.results.toList) (collect B53 A53 []) 0 S (AL.v r0 AL.n) h := by kernel_rfl
theorem t53 (S : Sg) : Tab (fun l vs h => stepAt (regK env orc63 nt53) (finK env Try.f53.results.toList) (collect B53 A53 []) l S vs h) (T53 S) := by
  unfold T53
  refine Tab.cons 0 (fun vs0 h q e0 => ?_) ?_
  · obtain ⟨r0, vs1, rfl, e1⟩ := uV_some e0
    obtain ⟨rfl, ee⟩ := uN_some e1
    exact (q53x0 S r0 h).symm.trans ee
  refine Tab.cons 1 (fun vs0 h q e0 => ?_) ?_
  · obtain ⟨r1, vs1, rfl, e1⟩ := uV_some e0
    obtain ⟨r3, vs2, rfl, e2⟩ := uI_some e1
    obtain ⟨r9, vs3, rfl, e3⟩ := uV_some e2
    obtain ⟨r10, vs4, rfl, e4⟩ := uI_some e3
    obtain ⟨r11, vs5, rfl, e5⟩ := uI_some e4
    obtain ⟨rfl, ee⟩ := uN_some e5
    exact (q53x1 S r1 r3 r9 r10 r11 h).symm.trans ee
  refine Tab.cons 2 (fun vs0 h q e0 => ?_) ?_
  · obtain ⟨r3, vs1, rfl, e1⟩ := uI_some e0
    obtain ⟨rfl, ee⟩ := uN_some e1
    exact (q53x2 S r3 h).symm.trans ee
  exact Tab.nil
theorem r53 : ∀ args h v h', F53 args h = some (v, h') → Runs (C63) (.call 53 args.toArray h) (.ret v h') := by
  intro args h v h' e
  exact fun_sound (C := C63) (fn := Try.f53) (body := B53) (np := 1) (A := A53) (T := T53) (kinds := [Kd.v]) (by kernel_rfl) (by kernel_rfl) (by kernel_rfl) (by kernel_rfl) (regK_ok env_ok) (by kernel_rfl) (fun S => t53 S) e
noncomputable def orc64 := orcQ 53 F53 orc63
noncomputable def C64 : Cfg := cfg orc64
theorem ok64 : C64.Ok := orcQ_ok (C := C63) ok63 r53
noncomputable def B84 : Code := (Try.f84.body).getD .skip
noncomputable def A84 : G.Ann (List KI) := (G.Ann.node (some (0, [KI.reg 0 (Kd.i .u64)])) al (an al (an al (an al (an al (an al (an al (an al al))))))))
noncomputable def P84x0 (h : Hp) (S : Nat → PAL → Option Value) (r0 : Int) : Option Value :=
  shrZ .u64 r0 (Int.ofNat 1) (shrI (binW env .shr 129 (Value.int .u64 r0) (Value.int .u64 (Int.ofNat 1))) (Value.int .u64 r0) (Value.int .u64 (Int.ofNat 1))) fun i0 =>
  andZ .u64 i0 (Int.ofNat 6148914691236517205) (andI (binW env .and 129 (Value.int .u64 i0) (Value.int .u64 (Int.ofNat 6148914691236517205))) (Value.int .u64 i0) (Value.int .u64 (Int.ofNat 6148914691236517205))) fun i1 =>
  andZ .u64 r0 (Int.ofNat 6148914691236517205) (andI (binW env .and 129 (Value.int .u64 r0) (Value.int .u64 (Int.ofNat 6148914691236517205))) (Value.int .u64 r0) (Value.int .u64 (Int.ofNat 6148914691236517205))) fun i2 =>
  forceI (wrapF .u64 (Int.add i1 i2)) fun i3 =>
  shrZ .u64 i3 (Int.ofNat 2) (shrI (binW env .shr 129 (Value.int .u64 i3) (Value.int .u64 (Int.ofNat 2))) (Value.int .u64 i3) (Value.int .u64 (Int.ofNat 2))) fun i4 =>
  andZ .u64 i4 (Int.ofNat 3689348814741910323) (andI (binW env .and 129 (Value.int .u64 i4) (Value.int .u64 (Int.ofNat 3689348814741910323))) (Value.int .u64 i4) (Value.int .u64 (Int.ofNat 3689348814741910323))) fun i5 =>
  andZ .u64 i3 (Int.ofNat 3689348814741910323) (andI (binW env .and 129 (Value.int .u64 i3) (Value.int .u64 (Int.ofNat 3689348814741910323))) (Value.int .u64 i3) (Value.int .u64 (Int.ofNat 3689348814741910323))) fun i6 =>
  forceI (wrapF .u64 (Int.add i5 i6)) fun i7 =>
  shrZ .u64 i7 (Int.ofNat 4) (shrI (binW env .shr 129 (Value.int .u64 i7) (Value.int .u64 (Int.ofNat 4))) (Value.int .u64 i7) (Value.int .u64 (Int.ofNat 4))) fun i8 =>
  forceI (wrapF .u64 (Int.add i8 i7)) fun i9 =>
  andZ .u64 i9 (Int.ofNat 1085102592571150095) (andI (binW env .and 129 (Value.int .u64 i9) (Value.int .u64 (Int.ofNat 1085102592571150095))) (Value.int .u64 i9) (Value.int .u64 (Int.ofNat 1085102592571150095))) fun i10 =>
  shrZ .u64 i10 (Int.ofNat 8) (shrI (binW env .shr 129 (Value.int .u64 i10) (Value.int .u64 (Int.ofNat 8))) (Value.int .u64 i10) (Value.int .u64 (Int.ofNat 8))) fun i11 =>
  forceI (wrapF .u64 (Int.add i10 i11)) fun i12 =>
  shrZ .u64 i12 (Int.ofNat 16) (shrI (binW env .shr 129 (Value.int .u64 i12) (Value.int .u64 (Int.ofNat 16))) (Value.int .u64 i12) (Value.int .u64 (Int.ofNat 16))) fun i13 =>
  forceI (wrapF .u64 (Int.add i12 i13)) fun i14 =>
  shrZ .u64 i14 (Int.ofNat 32) (shrI (binW env .shr 129 (Value.int .u64 i14) (Value.int .u64 (Int.ofNat 32))) (Value.int .u64 i14) (Value.int .u64 (Int.ofNat 32))) fun i15 =>
  forceI (wrapF .u64 (Int.add i14 i15)) fun i16 =>
  wrap64 i16 fun i17 =>
  andZ .i64 i17 (Int.ofNat 127) (andI (binW env .and 3 (Value.int .i64 i17) (Value.int .i64 (Int.ofNat 127))) (Value.int .i64 i17) (Value.int .i64 (Int.ofNat 127))) fun i18 =>
  some (Value.int .i64 i18)
noncomputable def T84 (h : Hp) (S : Nat → PAL → Option Value) : Nat → PAL → Option Value := tabPC 0 (wI fun r0 => wN (P84x0 h S r0)) (tabPN)
noncomputable def F84 (args : List Value) (h : Hp) : Option Value := plainO (packArgs [Kd.i .u64] args fun al => G.rec' (T84 h) 1000000 0 al)
def nt84 : Nat := 1 + (35 - 1)
theorem q84x0 (h : Hp) (S : Nat → PAL → Option Value) (r0 : Int) : P84x0 h S r0 = G.stepAt packP unpackP evXV (regP env pf17 nt84 h) (finP env Try.f84.results.toList) (G.collect B84 A84 []) 0 S (PAL.i r0 PAL.n) := by kernel_rfl
theorem t84 (h : Hp) (S : Nat → PAL → Option Value) : TabP (fun l al => G.stepAt packP unpackP evXV (regP env pf17 nt84 h) (finP env Try.f84.results.toList) (G.collect B84 A84 []) l S al) (T84 h S) := by
  unfold T84
  refine TabP.cons 0 (fun vs0 q e0 => ?_) ?_
  · obtain ⟨r0, vs1, rfl, e1⟩ := wI_some e0
    obtain ⟨rfl, ee⟩ := wN_some e1
    exact (q84x0 h S r0).symm.trans ee
  exact TabP.nil
theorem r84 : PSound Try.prog 84 F84 := fun_soundP (C := C0) ok0 (pf := pf17) pfok17 (fn := Try.f84) (body := B84) (kinds := [Kd.i .u64]) (A := A84) (T := T84) (by kernel_rfl) (by kernel_rfl) (by kernel_rfl) (by kernel_rfl) (fun h S => t84 h S)
noncomputable def pf18 : PF := pfC 84 F84 pf17
theorem pfok18 : PfSound Try.prog pf18 := pfC_ok r84 pfok17
noncomputable def orc65 := orcP 84 F84 orc64
noncomputable def C65 : Cfg := cfg orc65
theorem ok65 : C65.Ok := orcP_ok (C := C64) ok64 r84
noncomputable def B72 : Code := (Try.f72.body).getD .skip
noncomputable def A72 : G.Ann (List KI) := (G.Ann.node (some (0, [KI.reg 0 (Kd.i .u64)])) al (an (an (an al al) al) (an al al)))
noncomputable def P72x0 (h : Hp) (S : Nat → PAL → Option Value) (r0 : Int) : Option Value :=
  optK (F84 [(Value.int .u64 r0)] h) fun v0 =>
  intK .i64 v0 fun i1 =>
  some (Value.int .i64 i1)
noncomputable def T72 (h : Hp) (S : Nat → PAL → Option Value) : Nat → PAL → Option Value := tabPC 0 (wI fun r0 => wN (P72x0 h S r0)) (tabPN)
noncomputable def F72 (args : List Value) (h : Hp) : Option Value := plainO (packArgs [Kd.i .u64] args fun al => G.rec' (T72 h) 1000000 0 al)
def nt72 : Nat := 1 + (8 - 1)
theorem q72x0 (h : Hp) (S : Nat → PAL → Option Value) (r0 : Int) : P72x0 h S r0 = G.stepAt packP unpackP evXV (regP env pf18 nt72 h) (finP env Try.f72.results.toList) (G.collect B72 A72 []) 0 S (PAL.i r0 PAL.n) := by kernel_rfl
theorem t72 (h : Hp) (S : Nat → PAL → Option Value) : TabP (fun l al => G.stepAt packP unpackP evXV (regP env pf18 nt72 h) (finP env Try.f72.results.toList) (G.collect B72 A72 []) l S al) (T72 h S) := by
  unfold T72
  refine TabP.cons 0 (fun vs0 q e0 => ?_) ?_
  · obtain ⟨r0, vs1, rfl, e1⟩ := wI_some e0
    obtain ⟨rfl, ee⟩ := wN_some e1
    exact (q72x0 h S r0).symm.trans ee
  exact TabP.nil
theorem r72 : PSound Try.prog 72 F72 := fun_soundP (C := C0) ok0 (pf := pf18) pfok18 (fn := Try.f72) (body := B72) (kinds := [Kd.i .u64]) (A := A72) (T := T72) (by kernel_rfl) (by kernel_rfl) (by kernel_rfl) (by kernel_rfl) (fun h S => t72 h S)
noncomputable def pf19 : PF := pfC 72 F72 pf18
theorem pfok19 : PfSound Try.prog pf19 := pfC_ok r72 pfok18
noncomputable def orc66 := orcP 72 F72 orc65
noncomputable def C66 : Cfg := cfg orc66
theorem ok66 : C66.Ok := orcP_ok (C := C65) ok65 r72
noncomputable def B57 : Code := (Try.f57.body).getD .skip
noncomputable def A57 : G.Ann (List KI) := (G.Ann.node (some (0, [KI.reg 0 (Kd.i .i64), KI.reg 1 (Kd.i .i64)])) al (an (an al (an al (an (an al al) al))) (an al (an al (an al al)))))
noncomputable def P57x0 (h : Hp) (S : Nat → PAL → Option Value) (r0 : Int) (r1 : Int) : Option Value :=
  forceI (wrapF .u64 r0) fun i0 =>
  optK (F72 [(Value.int .u64 i0)] h) fun v1 =>
  intK .i64 v1 fun i2 =>
  forceI (wrapF .u64 r1) fun i3 =>
  optK (F72 [(Value.int .u64 i3)] h) fun v4 =>
  intK .i64 v4 fun i5 =>
  boolN (eqZ i2 i5) fun b6 =>
  ifB b6
  (boolZ (ltZ i2 i5) fun b7 =>
  some (Value.bool b7))
  (slowI .i64 (xorI (binW env .xor 3 (Value.int .i64 r0) (Value.int .i64 r1)) (Value.int .i64 r0) (Value.int .i64 r1)) fun i8 =>
  wrap64 (Int.sub 0 i8) fun i9 =>
  andZ .i64 i8 i9 (andI (binW env .and 3 (Value.int .i64 i8) (Value.int .i64 i9)) (Value.int .i64 i8) (Value.int .i64 i9)) fun i10 =>
  andZ .i64 r0 i10 (andI (binW env .and 3 (Value.int .i64 r0) (Value.int .i64 i10)) (Value.int .i64 r0) (Value.int .i64 i10)) fun i11 =>
  boolN (eqZ i11 (Int.ofNat 0)) fun b12 =>
  some (Value.bool b12))
noncomputable def T57 (h : Hp) (S : Nat → PAL → Option Value) : Nat → PAL → Option Value := tabPC 0 (wI fun r0 => wI fun r1 => wN (P57x0 h S r0 r1)) (tabPN)
noncomputable def F57 (args : List Value) (h : Hp) : Option Value := plainO (packArgs [Kd.i .i64, Kd.i .i64] args fun al => G.rec' (T57 h) 1000000 0 al)
def nt57 : Nat := 2 + (32 - 2)
theorem q57x0 (h : Hp) (S : Nat → PAL → Option Value) (r0 : Int) (r1 : Int) : P57x0 h S r0 r1 = G.stepAt packP unpackP evXV (regP env pf19 nt57 h) (finP env Try.f57.results.toList) (G.collect B57 A57 []) 0 S (PAL.i r0 (PAL.i r1 PAL.n)) := by kernel_rfl
theorem t57 (h : Hp) (S : Nat → PAL → Option Value) : TabP (fun l al => G.stepAt packP unpackP evXV (regP env pf19 nt57 h) (finP env Try.f57.results.toList) (G.collect B57 A57 []) l S al) (T57 h S) := by
  unfold T57
  refine TabP.cons 0 (fun vs0 q e0 => ?_) ?_
  · obtain ⟨r0, vs1, rfl, e1⟩ := wI_some e0
    obtain ⟨r1, vs2, rfl, e2⟩ := wI_some e1
    obtain ⟨rfl, ee⟩ := wN_some e2
    exact (q57x0 h S r0 r1).symm.trans ee
  exact TabP.nil
theorem r57 : PSound Try.prog 57 F57 := fun_soundP (C := C0) ok0 (pf := pf19) pfok19 (fn := Try.f57) (body := B57) (kinds := [Kd.i .i64, Kd.i .i64]) (A := A57) (T := T57) (by kernel_rfl) (by kernel_rfl) (by kernel_rfl) (by kernel_rfl) (fun h S => t57 h S)
noncomputable def pf20 : PF := pfC 57 F57 pf19
theorem pfok20 : PfSound Try.prog pf20 := pfC_ok r57 pfok19
noncomputable def orc67 := orcP 57 F57 orc66
noncomputable def C67 : Cfg := cfg orc67
theorem ok67 : C67.Ok := orcP_ok (C := C66) ok66 r57
noncomputable def B70 : Code := (Try.f70.body).getD .skip
noncomputable def A70 : G.Ann (List KI) := (G.Ann.node (some (0, [KI.reg 0 (Kd.i .u32)])) al (an (an al (an (an al al) al)) (G.Ann.node (some (2, [KI.reg 0 (Kd.i .u32), KI.reg 2 (Kd.i .i64)])) (an al (an (an al al) al)) (G.Ann.node (some (1, [KI.reg 0 (Kd.i .u32), KI.reg 2 (Kd.i .i64)])) al al))))
noncomputable def P70x1 (h : Hp) (S : Nat → PAL → Option Value) (r0 : Int) (r2 : Int) : Option Value :=
  forceI (wrapF .u8 r0) fun i0 =>
  optK (indexV env 9 (Value.string (ByteArray.mk #[0, 1, 2, 2, 3, 3, 3, 3, 4, 4, 4, 4, 4, 4, 4, 4, 5, 5, 5, 5, 5, 5, 5, 5, 5, 5, 5, 5, 5, 5, 5, 5, 6, 6, 6, 6, 6, 6, 6, 6, 6, 6, 6, 6, 6, 6, 6, 6, 6, 6, 6, 6, 6, 6, 6, 6, 6, 6, 6, 6, 6, 6, 6, 6, 7, 7, 7, 7, 7, 7, 7, 7, 7, 7, 7, 7, 7, 7, 7, 7, 7, 7, 7, 7, 7, 7, 7, 7, 7, 7, 7, 7, 7, 7, 7, 7, 7, 7, 7, 7, 7, 7, 7, 7, 7, 7, 7, 7, 7, 7, 7, 7, 7, 7, 7, 7, 7, 7, 7, 7, 7, 7, 7, 7, 7, 7, 7, 7, 8, 8, 8, 8, 8, 8, 8, 8, 8, 8, 8, 8, 8, 8, 8, 8, 8, 8, 8, 8, 8, 8, 8, 8, 8, 8, 8, 8, 8, 8, 8, 8, 8, 8, 8, 8, 8, 8, 8, 8, 8, 8, 8, 8, 8, 8, 8, 8, 8, 8, 8, 8, 8, 8, 8, 8, 8, 8, 8, 8, 8, 8, 8, 8, 8, 8, 8, 8, 8, 8, 8, 8, 8, 8, 8, 8, 8, 8, 8, 8, 8, 8, 8, 8, 8, 8, 8, 8, 8, 8, 8, 8, 8, 8, 8, 8, 8, 8, 8, 8, 8, 8, 8, 8, 8, 8, 8, 8, 8, 8, 8, 8, 8, 8, 8, 8, 8, 8, 8, 8, 8, 8, 8, 8, 8, 8, 8, 8])) (Value.int .u8 i0)) fun v1 =>
  intK .u8 v1 fun i2 =>
  wrap64 i2 fun i3 =>
  wrap64 (Int.add r2 i3) fun i4 =>
  some (Value.int .i64 i4)
noncomputable def P70x2 (h : Hp) (S : Nat → PAL → Option Value) (r0 : Int) (r2 : Int) : Option Value :=
  boolN (ltZ r0 (Int.ofNat 256)) fun b0 =>
  ifB b0
  (shrZ .u32 r0 (Int.ofNat 8) (shrI (binW env .shr 127 (Value.int .u32 r0) (Value.int .u64 (Int.ofNat 8))) (Value.int .u32 r0) (Value.int .u64 (Int.ofNat 8))) fun i1 =>
  wrap64 (Int.add r2 (Int.ofNat 8)) fun i2 =>
  S 1 (PAL.i i1 (PAL.i i2 PAL.n)))
  (S 1 (PAL.i r0 (PAL.i r2 PAL.n)))
noncomputable def P70x0 (h : Hp) (S : Nat → PAL → Option Value) (r0 : Int) : Option Value :=
  boolN (ltZ r0 (Int.ofNat 65536)) fun b0 =>
  ifB b0
  (shrZ .u32 r0 (Int.ofNat 16) (shrI (binW env .shr 127 (Value.int .u32 r0) (Value.int .u64 (Int.ofNat 16))) (Value.int .u32 r0) (Value.int .u64 (Int.ofNat 16))) fun i1 =>
  S 2 (PAL.i i1 (PAL.i (Int.ofNat 16) PAL.n)))
  (S 2 (PAL.i r0 (PAL.i (Int.ofNat 0) PAL.n)))
noncomputable def T70 (h : Hp) (S : Nat → PAL → Option Value) : Nat → PAL → Option Value := tabPC 0 (wI fun r0 => wN (P70x0 h S r0)) (tabPC 2 (wI fun r0 => wI fun r2 => wN (P70x2 h S r0 r2)) (tabPC 1 (wI fun r0 => wI fun r2 => wN (P70x1 h S r0 r2)) (tabPN)))
noncomputable def F70 (args : List Value) (h : Hp) : Option Value := plainO (packArgs [Kd.i .u32] args fun al => G.rec' (T70 h) 1000000 0 al)
def nt70 : Nat := 1 + (19 - 1)
theorem q70x1 (h : Hp) (S : Nat → PAL → Option Value) (r0 : Int) (r2 : Int) : P70x1 h S r0 r2 = G.stepAt packP unpackP evXV (regP env pf20 nt70 h) (finP env Try.f70.results.toList) (G.collect B70 A70 []) 1 S (PAL.i r0 (PAL.i r2 PAL.n)) := by kernel_rfl
theorem q70x2 (h : Hp) (S : Nat → PAL → Option Value) (r0 : Int) (r2 : Int) : P70x2 h S r0 r2 = G.stepAt packP unpackP evXV (regP env pf20 nt70 h) (finP env Try.f70.results.toList) (G.collect B70 A70 []) 2 S (PAL.i r0 (PAL.i r2 PAL.n)) := by kernel_rfl
theorem q70x0 (h : Hp) (S : Nat → PAL → Option Value) (r0 : Int) : P70x0 h S r0 = G.stepAt packP unpackP evXV (regP env pf20 nt70 h) (finP env Try.f70.results.toList) (G.collect B70 A70 []) 0 S (PAL.i r0 PAL.n) := by kernel_rfl
theorem t70 (h : Hp) (S : Nat → PAL → Option Value) : TabP (fun l al => G.stepAt packP unpackP evXV (regP env pf20 nt70 h) (finP env Try.f70.results.toList) (G.collect B70 A70 []) l S al) (T70 h S) := by
  unfold T70
  refine TabP.cons 0 (fun vs0 q e0 => ?_) ?_
  · obtain ⟨r0, vs1, rfl, e1⟩ := wI_some e0
    obtain ⟨rfl, ee⟩ := wN_some e1
    exact (q70x0 h S r0).symm.trans ee
  refine TabP.cons 2 (fun vs0 q e0 => ?_) ?_
  · obtain ⟨r0, vs1, rfl, e1⟩ := wI_some e0
    obtain ⟨r2, vs2, rfl, e2⟩ := wI_some e1
    obtain ⟨rfl, ee⟩ := wN_some e2
    exact (q70x2 h S r0 r2).symm.trans ee
  refine TabP.cons 1 (fun vs0 q e0 => ?_) ?_
  · obtain ⟨r0, vs1, rfl, e1⟩ := wI_some e0
    obtain ⟨r2, vs2, rfl, e2⟩ := wI_some e1
    obtain ⟨rfl, ee⟩ := wN_some e2
    exact (q70x1 h S r0 r2).symm.trans ee
  exact TabP.nil
theorem r70 : PSound Try.prog 70 F70 := fun_soundP (C := C0) ok0 (pf := pf20) pfok20 (fn := Try.f70) (body := B70) (kinds := [Kd.i .u32]) (A := A70) (T := T70) (by kernel_rfl) (by kernel_rfl) (by kernel_rfl) (by kernel_rfl) (fun h S => t70 h S)
noncomputable def pf21 : PF := pfC 70 F70 pf20
theorem pfok21 : PfSound Try.prog pf21 := pfC_ok r70 pfok20
noncomputable def orc68 := orcP 70 F70 orc67
noncomputable def C68 : Cfg := cfg orc68
theorem ok68 : C68.Ok := orcP_ok (C := C67) ok67 r70
noncomputable def B71 : Code := (Try.f71.body).getD .skip
noncomputable def A71 : G.Ann (List KI) := (G.Ann.node (some (0, [KI.reg 0 (Kd.i .u64)])) al (an (an al (an (an al al) al)) (G.Ann.node (some (3, [KI.reg 0 (Kd.i .u64), KI.reg 2 (Kd.i .i64)])) (an al (an (an al al) al)) (G.Ann.node (some (2, [KI.reg 0 (Kd.i .u64), KI.reg 2 (Kd.i .i64)])) (an al (an (an al al) al)) (G.Ann.node (some (1, [KI.reg 0 (Kd.i .u64), KI.reg 2 (Kd.i .i64)])) al al)))))
noncomputable def P71x1 (h : Hp) (S : Nat → PAL → Option Value) (r0 : Int) (r2 : Int) : Option Value :=
  forceI (wrapF .u8 r0) fun i0 =>
  optK (indexV env 9 (Value.string (ByteArray.mk #[0, 1, 2, 2, 3, 3, 3, 3, 4, 4, 4, 4, 4, 4, 4, 4, 5, 5, 5, 5, 5, 5, 5, 5, 5, 5, 5, 5, 5, 5, 5, 5, 6, 6, 6, 6, 6, 6, 6, 6, 6, 6, 6, 6, 6, 6, 6, 6, 6, 6, 6, 6, 6, 6, 6, 6, 6, 6, 6, 6, 6, 6, 6, 6, 7, 7, 7, 7, 7, 7, 7, 7, 7, 7, 7, 7, 7, 7, 7, 7, 7, 7, 7, 7, 7, 7, 7, 7, 7, 7, 7, 7, 7, 7, 7, 7, 7, 7, 7, 7, 7, 7, 7, 7, 7, 7, 7, 7, 7, 7, 7, 7, 7, 7, 7, 7, 7, 7, 7, 7, 7, 7, 7, 7, 7, 7, 7, 7, 8, 8, 8, 8, 8, 8, 8, 8, 8, 8, 8, 8, 8, 8, 8, 8, 8, 8, 8, 8, 8, 8, 8, 8, 8, 8, 8, 8, 8, 8, 8, 8, 8, 8, 8, 8, 8, 8, 8, 8, 8, 8, 8, 8, 8, 8, 8, 8, 8, 8, 8, 8, 8, 8, 8, 8, 8, 8, 8, 8, 8, 8, 8, 8, 8, 8, 8, 8, 8, 8, 8, 8, 8, 8, 8, 8, 8, 8, 8, 8, 8, 8, 8, 8, 8, 8, 8, 8, 8, 8, 8, 8, 8, 8, 8, 8, 8, 8, 8, 8, 8, 8, 8, 8, 8, 8, 8, 8, 8, 8, 8, 8, 8, 8, 8, 8, 8, 8, 8, 8, 8, 8, 8, 8, 8, 8, 8, 8])) (Value.int .u8 i0)) fun v1 =>
  intK .u8 v1 fun i2 =>
  wrap64 i2 fun i3 =>
  wrap64 (Int.add r2 i3) fun i4 =>
  some (Value.int .i64 i4)
noncomputable def P71x2 (h : Hp) (S : Nat → PAL → Option Value) (r0 : Int) (r2 : Int) : Option Value :=
  boolN (ltZ r0 (Int.ofNat 256)) fun b0 =>
  ifB b0
  (shrZ .u64 r0 (Int.ofNat 8) (shrI (binW env .shr 129 (Value.int .u64 r0) (Value.int .u64 (Int.ofNat 8))) (Value.int .u64 r0) (Value.int .u64 (Int.ofNat 8))) fun i1 =>
  wrap64 (Int.add r2 (Int.ofNat 8)) fun i2 =>
  S 1 (PAL.i i1 (PAL.i i2 PAL.n)))
  (S 1 (PAL.i r0 (PAL.i r2 PAL.n)))
noncomputable def P71x3 (h : Hp) (S : Nat → PAL → Option Value) (r0 : Int) (r2 : Int) : Option Value :=
  boolN (ltZ r0 (Int.ofNat 65536)) fun b0 =>
  ifB b0
  (shrZ .u64 r0 (Int.ofNat 16) (shrI (binW env .shr 129 (Value.int .u64 r0) (Value.int .u64 (Int.ofNat 16))) (Value.int .u64 r0) (Value.int .u64 (Int.ofNat 16))) fun i1 =>
  wrap64 (Int.add r2 (Int.ofNat 16)) fun i2 =>
  S 2 (PAL.i i1 (PAL.i i2 PAL.n)))
  (S 2 (PAL.i r0 (PAL.i r2 PAL.n)))
noncomputable def P71x0 (h : Hp) (S : Nat → PAL → Option Value) (r0 : Int) : Option Value :=
  boolN (ltZ r0 (Int.ofNat 4294967296)) fun b0 =>
  ifB b0
  (shrZ .u64 r0 (Int.ofNat 32) (shrI (binW env .shr 129 (Value.int .u64 r0) (Value.int .u64 (Int.ofNat 32))) (Value.int .u64 r0) (Value.int .u64 (Int.ofNat 32))) fun i1 =>
  S 3 (PAL.i i1 (PAL.i (Int.ofNat 32) PAL.n)))
  (S 3 (PAL.i r0 (PAL.i (Int.ofNat 0) PAL.n)))
noncomputable def T71 (h : Hp) (S : Nat → PAL → Option Value) : Nat → PAL → Option Value := tabPC 0 (wI fun r0 => wN (P71x0 h S r0)) (tabPC 3 (wI fun r0 => wI fun r2 => wN (P71x3 h S r0 r2)) (tabPC 2 (wI fun r0 => wI fun r2 => wN (P71x2 h S r0 r2)) (tabPC 1 (wI fun r0 => wI fun r2 => wN (P71x1 h S r0 r2)) (tabPN))))
noncomputable def F71 (args : List Value) (h : Hp) : Option Value := plainO (packArgs [Kd.i .u64] args fun al => G.rec' (T71 h) 1000000 0 al)
def nt71 : Nat := 1 + (25 - 1)
theorem q71x1 (h : Hp) (S : Nat → PAL → Option Value) (r0 : Int) (r2 : Int) : P71x1 h S r0 r2 = G.stepAt packP unpackP evXV (regP env pf21 nt71 h) (finP env Try.f71.results.toList) (G.collect B71 A71 []) 1 S (PAL.i r0 (PAL.i r2 PAL.n)) := by kernel_rfl
theorem q71x2 (h : Hp) (S : Nat → PAL → Option Value) (r0 : Int) (r2 : Int) : P71x2 h S r0 r2 = G.stepAt packP unpackP evXV (regP env pf21 nt71 h) (finP env Try.f71.results.toList) (G.collect B71 A71 []) 2 S (PAL.i r0 (PAL.i r2 PAL.n)) := by kernel_rfl
theorem q71x3 (h : Hp) (S : Nat → PAL → Option Value) (r0 : Int) (r2 : Int) : P71x3 h S r0 r2 = G.stepAt packP unpackP evXV (regP env pf21 nt71 h) (finP env Try.f71.results.toList) (G.collect B71 A71 []) 3 S (PAL.i r0 (PAL.i r2 PAL.n)) := by kernel_rfl
theorem q71x0 (h : Hp) (S : Nat → PAL → Option Value) (r0 : Int) : P71x0 h S r0 = G.stepAt packP unpackP evXV (regP env pf21 nt71 h) (finP env Try.f71.results.toList) (G.collect B71 A71 []) 0 S (PAL.i r0 PAL.n) := by kernel_rfl
theorem t71 (h : Hp) (S : Nat → PAL → Option Value) : TabP (fun l al => G.stepAt packP unpackP evXV (regP env pf21 nt71 h) (finP env Try.f71.results.toList) (G.collect B71 A71 []) l S al) (T71 h S) := by
  unfold T71
  refine TabP.cons 0 (fun vs0 q e0 => ?_) ?_
  · obtain ⟨r0, vs1, rfl, e1⟩ := wI_some e0
    obtain ⟨rfl, ee⟩ := wN_some e1
    exact (q71x0 h S r0).symm.trans ee
  refine TabP.cons 3 (fun vs0 q e0 => ?_) ?_
  · obtain ⟨r0, vs1, rfl, e1⟩ := wI_some e0
    obtain ⟨r2, vs2, rfl, e2⟩ := wI_some e1
    obtain ⟨rfl, ee⟩ := wN_some e2
    exact (q71x3 h S r0 r2).symm.trans ee
  refine TabP.cons 2 (fun vs0 q e0 => ?_) ?_
  · obtain ⟨r0, vs1, rfl, e1⟩ := wI_some e0
    obtain ⟨r2, vs2, rfl, e2⟩ := wI_some e1
    obtain ⟨rfl, ee⟩ := wN_some e2
    exact (q71x2 h S r0 r2).symm.trans ee
  refine TabP.cons 1 (fun vs0 q e0 => ?_) ?_
  · obtain ⟨r0, vs1, rfl, e1⟩ := wI_some e0
    obtain ⟨r2, vs2, rfl, e2⟩ := wI_some e1
    obtain ⟨rfl, ee⟩ := wN_some e2
    exact (q71x1 h S r0 r2).symm.trans ee
  exact TabP.nil
theorem r71 : PSound Try.prog 71 F71 := fun_soundP (C := C0) ok0 (pf := pf21) pfok21 (fn := Try.f71) (body := B71) (kinds := [Kd.i .u64]) (A := A71) (T := T71) (by kernel_rfl) (by kernel_rfl) (by kernel_rfl) (by kernel_rfl) (fun h S => t71 h S)
noncomputable def pf22 : PF := pfC 71 F71 pf21
theorem pfok22 : PfSound Try.prog pf22 := pfC_ok r71 pfok21
noncomputable def orc69 := orcP 71 F71 orc68
noncomputable def C69 : Cfg := cfg orc69
theorem ok69 : C69.Ok := orcP_ok (C := C68) ok68 r71
noncomputable def B56 : Code := (Try.f56.body).getD .skip
noncomputable def A56 : G.Ann (List KI) := (G.Ann.node (some (0, [KI.reg 0 (Kd.i .u64)])) al (an (an (an al al) al) (an al al)))
noncomputable def P56x0 (h : Hp) (S : Nat → PAL → Option Value) (r0 : Int) : Option Value :=
  optK (F71 [(Value.int .u64 r0)] h) fun v0 =>
  intK .i64 v0 fun i1 =>
  some (Value.int .i64 i1)
noncomputable def T56 (h : Hp) (S : Nat → PAL → Option Value) : Nat → PAL → Option Value := tabPC 0 (wI fun r0 => wN (P56x0 h S r0)) (tabPN)
noncomputable def F56 (args : List Value) (h : Hp) : Option Value := plainO (packArgs [Kd.i .u64] args fun al => G.rec' (T56 h) 1000000 0 al)
def nt56 : Nat := 1 + (8 - 1)
theorem q56x0 (h : Hp) (S : Nat → PAL → Option Value) (r0 : Int) : P56x0 h S r0 = G.stepAt packP unpackP evXV (regP env pf22 nt56 h) (finP env Try.f56.results.toList) (G.collect B56 A56 []) 0 S (PAL.i r0 PAL.n) := by kernel_rfl
theorem t56 (h : Hp) (S : Nat → PAL → Option Value) : TabP (fun l al => G.stepAt packP unpackP evXV (regP env pf22 nt56 h) (finP env Try.f56.results.toList) (G.collect B56 A56 []) l S al) (T56 h S) := by
  unfold T56
  refine TabP.cons 0 (fun vs0 q e0 => ?_) ?_
  · obtain ⟨r0, vs1, rfl, e1⟩ := wI_some e0
    obtain ⟨rfl, ee⟩ := wN_some e1
    exact (q56x0 h S r0).symm.trans ee
  exact TabP.nil
theorem r56 : PSound Try.prog 56 F56 := fun_soundP (C := C0) ok0 (pf := pf22) pfok22 (fn := Try.f56) (body := B56) (kinds := [Kd.i .u64]) (A := A56) (T := T56) (by kernel_rfl) (by kernel_rfl) (by kernel_rfl) (by kernel_rfl) (fun h S => t56 h S)
noncomputable def pf23 : PF := pfC 56 F56 pf22
theorem pfok23 : PfSound Try.prog pf23 := pfC_ok r56 pfok22
noncomputable def orc70 := orcP 56 F56 orc69
noncomputable def C70 : Cfg := cfg orc70
theorem ok70 : C70.Ok := orcP_ok (C := C69) ok69 r56
noncomputable def B43 : Code := (Try.f43.body).getD .skip
def A43 : Ann := (Ann.node (some (0, [(0, Kd.i .i64)])) bl (bn bl (bn (bn bl (bn (Ann.node (some (1, [(0, Kd.i .i64), (3, Kd.v), (7, Kd.i .i64), (8, Kd.i .i64)])) (bn bl (bn (bn bl bl) (bn (bn (bn bl (bn bl (bn bl bl))) bl) bl))) bl) bl)) (Ann.node (some (2, [(3, Kd.v)])) bl bl))))
noncomputable def P43x2 (S : Sg) (r3 : Value) (h : Hp) : CRes :=
  some (r3, h)
noncomputable def P43x1 (S : Sg) (r0 : Int) (r3 : Value) (r7 : Int) (r8 : Int) (h : Hp) : CRes :=
  boolZ (ltZ r8 r7) fun b0 =>
  ifB b0
  (pairK (optK (F51 [(Value.int .i64 r0), (Value.int .i64 r8)] h) fun v => some (v, h)) fun v1 h1 =>
  boolK v1 fun b2 =>
  ifB b2
  (pairK (buildSliceV env h1 28 1 (List.toArray [(0, (Value.int .i64 r8))])) fun v3 h3 =>
  pairK (appendV env h3 #[28, 28] (List.toArray [r3, v3])) fun v4 h4 =>
  wrap64 (Int.add r8 (Int.ofNat 1)) fun i5 =>
  S 1 (AL.i r0 (AL.v v4 (AL.i r7 (AL.i i5 AL.n)))) h4)
  (wrap64 (Int.add r8 (Int.ofNat 1)) fun i6 =>
  S 1 (AL.i r0 (AL.v r3 (AL.i r7 (AL.i i6 AL.n)))) h1))
  (S 2 (AL.v r3 AL.n) h)
noncomputable def P43x0 (S : Sg) (r0 : Int) (h : Hp) : CRes :=
  forceI (wrapF .u64 r0) fun i0 =>
  pairK (optK (F56 [(Value.int .u64 i0)] h) fun v => some (v, h)) fun v1 h1 =>
  intK .i64 v1 fun i2 =>
  S 1 (AL.i r0 (AL.v (Value.slice none 0 0) (AL.i i2 (AL.i (Int.ofNat 0) AL.n)))) h1
noncomputable def T43 (S : Sg) : Sg := tabC 0 (uI fun r0 => uN fun h => P43x0 S r0 h) (tabC 1 (uI fun r0 => uV fun r3 => uI fun r7 => uI fun r8 => uN fun h => P43x1 S r0 r3 r7 r8 h) (tabC 2 (uV fun r3 => uN fun h => P43x2 S r3 h) (tabN)))
noncomputable def F43 (args : List Value) (h : Hp) : CRes := packVals [Kd.i .i64] args fun al => rec' T43 1000000 0 al h
def nt43 : Nat := 1 + (20 - 1)
theorem q43x2 (S : Sg) (r3 : Value) (h : Hp) : P43x2 S r3 h = stepAt (regK env orc70 (nt43)) (finK env Try.f43.results.toList) (collect B43 A43 []) 2 S (AL.v r3 AL.n) h := by kernel_rfl
theorem q43x1 (S : Sg) (r0 : Int) (r3 : Value) (r7 : Int) (r8 : Int) (h : Hp) : P43x1 S r0 r3 r7 r8 h = stepAt (regK env orc70 (nt43)) (finK env Try.f43.results.toList) (collect B43 A43 []) 1 S (AL.i r0 (AL.v r3 (AL.i r7 (AL.i r8 AL.n)))) h := by kernel_rfl
theorem q43x0 (S : Sg) (r0 : Int) (h : Hp) : P43x0 S r0 h = stepAt (regK env orc70 (nt43)) (finK env Try.f43.results.toList) (collect B43 A43 []) 0 S (AL.i r0 AL.n) h := by kernel_rfl
theorem t43 (S : Sg) : Tab (fun l vs h => stepAt (regK env orc70 nt43) (finK env Try.f43.results.toList) (collect B43 A43 []) l S vs h) (T43 S) := by
  unfold T43
  refine Tab.cons 0 (fun vs0 h q e0 => ?_) ?_
  · obtain ⟨r0, vs1, rfl, e1⟩ := uI_some e0
    obtain ⟨rfl, ee⟩ := uN_some e1
    exact (q43x0 S r0 h).symm.trans ee
  refine Tab.cons 1 (fun vs0 h q e0 => ?_) ?_
  · obtain ⟨r0, vs1, rfl, e1⟩ := uI_some e0
    obtain ⟨r3, vs2, rfl, e2⟩ := uV_some e1
    obtain ⟨r7, vs3, rfl, e3⟩ := uI_some e2
    obtain ⟨r8, vs4, rfl, e4⟩ := uI_some e3
    obtain ⟨rfl, ee⟩ := uN_some e4
    exact (q43x1 S r0 r3 r7 r8 h).symm.trans ee
  refine Tab.cons 2 (fun vs0 h q e0 => ?_) ?_
  · obtain ⟨r3, vs1, rfl, e1⟩ := uV_some e0
    obtain ⟨rfl, ee⟩ := uN_some e1
    exact (q43x2 S r3 h).symm.trans ee
  exact Tab.nil
theorem r43 : ∀ args h v h', F43 args h = some (v, h') → Runs (C70) (.call 43 args.toArray h) (.ret v h') := by
  intro args h v h' e
  exact fun_sound (C := C70) (fn := Try.f43) (body := B43) (np := 1) (A := A43) (T := T43) (kinds := [Kd.i .i64]) (by kernel_rfl) (by kernel_rfl) (by kernel_rfl) (by kernel_rfl) (regK_ok env_ok) (by kernel_rfl) (fun S => t43 S) e
noncomputable def orc71 := orcQ 43 F43 orc70
noncomputable def C71 : Cfg := cfg orc71
theorem ok71 : C71.Ok := orcQ_ok (C := C70) ok70 r43
noncomputable abbrev orcE := orc71
theorem okE : (cfg orcE).Ok := ok71
end Go.Proofs.Ytalggihohgmpiaa.K
