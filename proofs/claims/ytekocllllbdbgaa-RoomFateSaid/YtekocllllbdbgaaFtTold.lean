/- Functions told. -/
import Derived.Test.YtekocllllbdbgaaFtTab
open Go Go.Eng
set_option maxRecDepth 100000
set_option linter.unusedVariables false
namespace Go.Proofs.Ytekocllllbdbgaa.K
abbrev bn (a b : Ann) : Ann := .node none a b
abbrev bl : Ann := .nil
abbrev ki (n : Nat) : Value := Value.int .i64 (Int.ofNat n)
abbrev an {V : Type} (a b : G.Ann V) : G.Ann V := G.Ann.node none a b
abbrev al {V : Type} : G.Ann V := G.Ann.nil
noncomputable def B27 : Code := (Try.f27.body).getD .skip
noncomputable def A27 : G.Ann (List KI) := (G.Ann.node (some (0, [KI.reg 0 (Kd.i .i64), KI.reg 1 (Kd.i .i64)])) al (an al al))
noncomputable def P27x0 (h : Hp) (S : Nat → PAL → Option Value) (r0 : Int) (r1 : Int) : Option Value :=
  optK (buildV env 23 (List.toArray [(0, (Value.int .i64 r0)), (1, (Value.int .i64 r1))])) fun v0 =>
  aggK v0 fun l1 => ifB (Nat.beq (lenR l1) 2) (segR 0 l1 [(Value.int .i64 (Int.ofNat 0)), (Value.int .i64 (Int.ofNat 0))] fun c1 =>
  dropR c1 0 fun d2 => takeR d2 2 fun l2 => some (Value.agg (Array.mk l2))) none
noncomputable def T27 (h : Hp) (S : Nat → PAL → Option Value) : Nat → PAL → Option Value := tabPC 0 (wI fun r0 => wI fun r1 => wN (P27x0 h S r0 r1)) (tabPN)
noncomputable def F27 (args : List Value) (h : Hp) : Option Value := plainO (packArgs [Kd.i .i64, Kd.i .i64] args fun al => G.rec' (T27 h) 1000000 0 al)
def nt27 : Nat := 2 + (8 - 2)
theorem q27x0 (h : Hp) (S : Nat → PAL → Option Value) (r0 : Int) (r1 : Int) : P27x0 h S r0 r1 = G.stepAt packP unpackP evXV (regP env pf0 nt27 h) (finP env Try.f27.results.toList) (G.collect B27 A27 []) 0 S (PAL.i r0 (PAL.i r1 PAL.n)) := by kernel_rfl
theorem t27 (h : Hp) (S : Nat → PAL → Option Value) : TabP (fun l al => G.stepAt packP unpackP evXV (regP env pf0 nt27 h) (finP env Try.f27.results.toList) (G.collect B27 A27 []) l S al) (T27 h S) := by
  unfold T27
  refine TabP.cons 0 (fun vs0 q e0 => ?_) ?_
  · obtain ⟨r0, vs1, rfl, e1⟩ := wI_some e0
    obtain ⟨r1, vs2, rfl, e2⟩ := wI_some e1
    obtain ⟨rfl, ee⟩ := wN_some e2
    exact (q27x0 h S r0 r1).symm.trans ee
  exact TabP.nil
theorem r27 : PSound Try.prog 27 F27 := fun_soundP (C := C0) ok0 (pf := pf0) pfok0 (fn := Try.f27) (body := B27) (kinds := [Kd.i .i64, Kd.i .i64]) (A := A27) (T := T27) (by kernel_rfl) (by kernel_rfl) (by kernel_rfl) (by kernel_rfl) (fun h S => t27 h S)
noncomputable def pf1 : PF := pfC 27 F27 pf0
theorem pfok1 : PfSound Try.prog pf1 := pfC_ok r27 pfok0
noncomputable def orc1 := orcP 27 F27 orc0
noncomputable def C1 : Cfg := cfg orc1
theorem ok1 : C1.Ok := orcP_ok (C := C0) ok0 r27
noncomputable def B66 : Code := (Try.f66.body).getD .skip
noncomputable def A66 : G.Ann (List KI) := (G.Ann.node (some (0, [KI.reg 0 (Kd.v), KI.reg 1 (Kd.i .i64), KI.reg 2 (Kd.i .i64), KI.reg 3 (Kd.v), KI.reg 4 (Kd.i .i64)])) al (an al al))
noncomputable def P66x0 (h : Hp) (S : Nat → PAL → Option Value) (r0 : Value) (r1 : Int) (r2 : Int) (r3 : Value) (r4 : Int) : Option Value :=
  forceL (Array.toList (Value.cells r3)) fun c0 =>
  nthR c0 0 fun v1 =>
  intK .i64 v1 fun i2 =>
  nthR c0 1 fun v3 =>
  intK .i64 v3 fun i4 =>
  optK (buildV env 56 (List.toArray [(0, r0), (1, (Value.int .i64 r1)), (2, (Value.int .i64 r2)), (3, (Value.int .i64 i2)), (4, (Value.int .i64 i4)), (5, (Value.int .i64 r4))])) fun v5 =>
  aggK v5 fun l6 => ifB (Nat.beq (lenR l6) 6) (segR 0 l6 [(Value.string (ByteArray.mk #[])), (Value.int .i64 (Int.ofNat 0)), (Value.int .i64 (Int.ofNat 0)), (Value.int .i64 (Int.ofNat 0)), (Value.int .i64 (Int.ofNat 0)), (Value.int .i64 (Int.ofNat 0))] fun c6 =>
  dropR c6 0 fun d7 => takeR d7 6 fun l7 => some (Value.agg (Array.mk l7))) none
noncomputable def T66 (h : Hp) (S : Nat → PAL → Option Value) : Nat → PAL → Option Value := tabPC 0 (wV fun r0 => wI fun r1 => wI fun r2 => wV fun r3 => wI fun r4 => wN (P66x0 h S r0 r1 r2 r3 r4)) (tabPN)
noncomputable def F66 (args : List Value) (h : Hp) : Option Value := plainO (packArgs [Kd.v, Kd.i .i64, Kd.i .i64, Kd.v, Kd.i .i64] args fun al => G.rec' (T66 h) 1000000 0 al)
def nt66 : Nat := 5 + (20 - 5)
theorem q66x0 (h : Hp) (S : Nat → PAL → Option Value) (r0 : Value) (r1 : Int) (r2 : Int) (r3 : Value) (r4 : Int) : P66x0 h S r0 r1 r2 r3 r4 = G.stepAt packP unpackP evXV (regP env pf1 nt66 h) (finP env Try.f66.results.toList) (G.collect B66 A66 []) 0 S (PAL.v r0 (PAL.i r1 (PAL.i r2 (PAL.v r3 (PAL.i r4 PAL.n))))) := by kernel_rfl
theorem t66 (h : Hp) (S : Nat → PAL → Option Value) : TabP (fun l al => G.stepAt packP unpackP evXV (regP env pf1 nt66 h) (finP env Try.f66.results.toList) (G.collect B66 A66 []) l S al) (T66 h S) := by
  unfold T66
  refine TabP.cons 0 (fun vs0 q e0 => ?_) ?_
  · obtain ⟨r0, vs1, rfl, e1⟩ := wV_some e0
    obtain ⟨r1, vs2, rfl, e2⟩ := wI_some e1
    obtain ⟨r2, vs3, rfl, e3⟩ := wI_some e2
    obtain ⟨r3, vs4, rfl, e4⟩ := wV_some e3
    obtain ⟨r4, vs5, rfl, e5⟩ := wI_some e4
    obtain ⟨rfl, ee⟩ := wN_some e5
    exact (q66x0 h S r0 r1 r2 r3 r4).symm.trans ee
  exact TabP.nil
theorem r66 : PSound Try.prog 66 F66 := fun_soundP (C := C0) ok0 (pf := pf1) pfok1 (fn := Try.f66) (body := B66) (kinds := [Kd.v, Kd.i .i64, Kd.i .i64, Kd.v, Kd.i .i64]) (A := A66) (T := T66) (by kernel_rfl) (by kernel_rfl) (by kernel_rfl) (by kernel_rfl) (fun h S => t66 h S)
noncomputable def pf2 : PF := pfC 66 F66 pf1
theorem pfok2 : PfSound Try.prog pf2 := pfC_ok r66 pfok1
noncomputable def orc2 := orcP 66 F66 orc1
noncomputable def C2 : Cfg := cfg orc2
theorem ok2 : C2.Ok := orcP_ok (C := C1) ok1 r66
noncomputable def B20 : Code := (Try.f20.body).getD .skip
def A20 : Ann := (Ann.node (some (0, [(0, Kd.v)])) bl (bn bl bl))
noncomputable def P20x0 (S : Sg) (r0 : Value) (h : Hp) : CRes :=
  allocK h 28 [(Value.int .i64 (Int.ofNat 0)), (Value.int .i64 (Int.ofNat 0)), (Value.int .i64 (Int.ofNat 0)), (Value.slice none 0 0), (Value.slice none 0 0), (Value.slice none 0 0), (Value.slice none 0 0)] fun a0 h0 =>
  pairK (optK (F27 [(Value.int .i64 (Int.ofNat 30)), (Value.int .i64 (Int.ofNat 50))] h0) fun v => some (v, h0)) fun v1 h1 =>
  pairK (buildSliceV env h1 24 2 (List.toArray [(0, (Value.int .i64 (Int.ofNat 300))), (1, (Value.int .i64 (Int.ofNat 250)))])) fun v2 h2 =>
  pairK (optK (F27 [(Value.int .i64 (Int.ofNat 0)), (Value.int .i64 (Int.ofNat 2))] h2) fun v => some (v, h2)) fun v3 h3 =>
  pairK (buildSliceV env h3 78 1 (List.toArray [(0, v3)])) fun v4 h4 =>
  optK (buildV env 80 (List.toArray [(0, (Value.string (ByteArray.mk #[100, 111, 111, 114]))), (2, v4), (3, (Value.int .i64 (Int.ofNat 1)))])) fun v5 =>
  pairK (optK (F27 [(Value.int .i64 (Int.ofNat 15)), (Value.int .i64 (Int.ofNat 20))] h4) fun v => some (v, h4)) fun v6 h6 =>
  pairK (buildSliceV env h6 78 1 (List.toArray [(0, v6)])) fun v7 h7 =>
  optK (buildV env 80 (List.toArray [(0, (Value.string (ByteArray.mk #[104, 101, 97, 114, 116, 104]))), (1, (Value.bool true)), (2, v7), (3, (Value.int .i64 (Int.ofNat 3)))])) fun v8 =>
  pairK (optK (F27 [(Value.int .i64 (Int.ofNat 8)), (Value.int .i64 (Int.ofNat 10))] h7) fun v => some (v, h7)) fun v9 h9 =>
  pairK (buildSliceV env h9 78 1 (List.toArray [(0, v9)])) fun v10 h10 =>
  optK (buildV env 80 (List.toArray [(0, (Value.string (ByteArray.mk #[110, 105, 99, 104, 101]))), (1, (Value.bool true)), (2, v10), (3, (Value.int .i64 (Int.ofNat 2)))])) fun v11 =>
  pairK (buildSliceV env h10 25 3 (List.toArray [(0, v5), (1, v8), (2, v11)])) fun v12 h12 =>
  pairK (optK (F27 [(Value.int .i64 (Int.ofNat 40)), (Value.int .i64 (Int.ofNat 75))] h12) fun v => some (v, h12)) fun v13 h13 =>
  pairK (optK (F66 [(Value.string (ByteArray.mk #[107, 105, 110, 103])), (Value.int .i64 (Int.ofNat 1)), (Value.int .i64 (Int.ofNat 200)), v13, (Value.int .i64 (Int.ofNat 9))] h13) fun v => some (v, h13)) fun v14 h14 =>
  pairK (optK (F27 [(Value.int .i64 (Int.ofNat 30)), (Value.int .i64 (Int.ofNat 60))] h14) fun v => some (v, h14)) fun v15 h15 =>
  pairK (optK (F66 [(Value.string (ByteArray.mk #[110, 117, 110])), (Value.int .i64 (Int.ofNat 2)), (Value.int .i64 (Int.ofNat 150)), v15, (Value.int .i64 (Int.ofNat 5))] h15) fun v => some (v, h15)) fun v16 h16 =>
  pairK (optK (F27 [(Value.int .i64 (Int.ofNat 35)), (Value.int .i64 (Int.ofNat 65))] h16) fun v => some (v, h16)) fun v17 h17 =>
  pairK (optK (F66 [(Value.string (ByteArray.mk #[116, 104, 105, 101, 102])), (Value.int .i64 (Int.ofNat 3)), (Value.int .i64 (Int.ofNat 120)), v17, (Value.int .i64 (Int.ofNat 7))] h17) fun v => some (v, h17)) fun v18 h18 =>
  pairK (buildSliceV env h18 26 3 (List.toArray [(0, v14), (1, v16), (2, v18)])) fun v19 h19 =>
  optK (buildV env 28 (List.toArray [(0, v1), (1, (Value.int .i64 (Int.ofNat 1))), (2, v2), (3, v12), (4, v19), (5, r0)])) fun v20 =>
  storeNK 7 h19 a0 v20 fun h21 =>
  loadNK 7 h21 a0 fun v22 => some (v22, h21)
noncomputable def T20 (S : Sg) : Sg := tabC 0 (uV fun r0 => uN fun h => P20x0 S r0 h) (tabN)
noncomputable def F20 (args : List Value) (h : Hp) : CRes := packVals [Kd.v] args fun al => rec' T20 1000000 0 al h
def nt20 : Nat := 1 + (24 - 1)
theorem q20x0 (S : Sg) (r0 : Value) (h : Hp) : P20x0 S r0 h = stepAt (regK env orc2 (nt20)) (finK env Try.f20.results.toList) (collect B20 A20 []) 0 S (AL.v r0 AL.n) h := by kernel_rfl
theorem t20 (S : Sg) : Tab (fun l vs h => stepAt (regK env orc2 nt20) (finK env Try.f20.results.toList) (collect B20 A20 []) l S vs h) (T20 S) := by
  unfold T20
  refine Tab.cons 0 (fun vs0 h q e0 => ?_) ?_
  · obtain ⟨r0, vs1, rfl, e1⟩ := uV_some e0
    obtain ⟨rfl, ee⟩ := uN_some e1
    exact (q20x0 S r0 h).symm.trans ee
  exact Tab.nil
theorem r20 : ∀ args h v h', F20 args h = some (v, h') → Runs (C2) (.call 20 args.toArray h) (.ret v h') := by
  intro args h v h' e
  exact fun_sound (C := C2) (fn := Try.f20) (body := B20) (np := 1) (A := A20) (T := T20) (kinds := [Kd.v]) (by kernel_rfl) (by kernel_rfl) (by kernel_rfl) (by kernel_rfl) (regK_ok env_ok) (by kernel_rfl) (fun S => t20 S) e
noncomputable def orc3 := orcQ 20 F20 orc2
noncomputable def C3 : Cfg := cfg orc3
theorem ok3 : C3.Ok := orcQ_ok (C := C2) ok2 r20
noncomputable def B44 : Code := (Try.f44.body).getD .skip
noncomputable def A44 : G.Ann (List KI) := (G.Ann.node (some (0, [KI.reg 0 (Kd.i .i64), KI.reg 1 (Kd.i .i64), KI.reg 2 (Kd.v)])) al (an (an al (an (G.Ann.node (some (1, [KI.reg 0 (Kd.i .i64), KI.reg 1 (Kd.i .i64), KI.reg 9 (Kd.v), KI.reg 10 (Kd.i .i64), KI.reg 11 (Kd.i .i64)])) (an al (an (an al al) (an (an (an al (an al (an (an al al) al))) al) al))) al) al)) (G.Ann.node (some (2, [])) al al)))
noncomputable def P44x2 (h : Hp) (S : Nat → PAL → Option Value) : Option Value :=
  some (Value.bool true)
noncomputable def P44x1 (h : Hp) (S : Nat → PAL → Option Value) (r0 : Int) (r1 : Int) (r9 : Value) (r10 : Int) (r11 : Int) : Option Value :=
  boolZ (ltZ r11 r10) fun b0 =>
  ifB b0
  (idxSK 1 r9 r11 fun v1 =>
  load1K h v1 fun v2 =>
  intK .i64 v2 fun i3 =>
  boolZ (ltZ i3 r0) fun b4 =>
  ifB b4
  (some (Value.bool false))
  (boolZ (ltZ r1 i3) fun b5 =>
  ifB b5
  (some (Value.bool false))
  (wrap64 (Int.add r11 (Int.ofNat 1)) fun i6 =>
  S 1 (PAL.i r0 (PAL.i r1 (PAL.v r9 (PAL.i r10 (PAL.i i6 PAL.n))))))))
  (S 2 PAL.n)
noncomputable def P44x0 (h : Hp) (S : Nat → PAL → Option Value) (r0 : Int) (r1 : Int) (r2 : Value) : Option Value :=
  lenSK r2 fun i0 =>
  S 1 (PAL.i r0 (PAL.i r1 (PAL.v r2 (PAL.i i0 (PAL.i (Int.ofNat 0) PAL.n)))))
noncomputable def T44 (h : Hp) (S : Nat → PAL → Option Value) : Nat → PAL → Option Value := tabPC 0 (wI fun r0 => wI fun r1 => wV fun r2 => wN (P44x0 h S r0 r1 r2)) (tabPC 1 (wI fun r0 => wI fun r1 => wV fun r9 => wI fun r10 => wI fun r11 => wN (P44x1 h S r0 r1 r9 r10 r11)) (tabPC 2 (wN (P44x2 h S)) (tabPN)))
noncomputable def F44 (args : List Value) (h : Hp) : Option Value := plainO (packArgs [Kd.i .i64, Kd.i .i64, Kd.v] args fun al => G.rec' (T44 h) 1000000 0 al)
def nt44 : Nat := 3 + (24 - 3)
theorem q44x2 (h : Hp) (S : Nat → PAL → Option Value) : P44x2 h S = G.stepAt packP unpackP evXV (regP env pf2 nt44 h) (finP env Try.f44.results.toList) (G.collect B44 A44 []) 2 S PAL.n := by kernel_rfl
theorem q44x1 (h : Hp) (S : Nat → PAL → Option Value) (r0 : Int) (r1 : Int) (r9 : Value) (r10 : Int) (r11 : Int) : P44x1 h S r0 r1 r9 r10 r11 = G.stepAt packP unpackP evXV (regP env pf2 nt44 h) (finP env Try.f44.results.toList) (G.collect B44 A44 []) 1 S (PAL.i r0 (PAL.i r1 (PAL.v r9 (PAL.i r10 (PAL.i r11 PAL.n))))) := by kernel_rfl
theorem q44x0 (h : Hp) (S : Nat → PAL → Option Value) (r0 : Int) (r1 : Int) (r2 : Value) : P44x0 h S r0 r1 r2 = G.stepAt packP unpackP evXV (regP env pf2 nt44 h) (finP env Try.f44.results.toList) (G.collect B44 A44 []) 0 S (PAL.i r0 (PAL.i r1 (PAL.v r2 PAL.n))) := by kernel_rfl
theorem t44 (h : Hp) (S : Nat → PAL → Option Value) : TabP (fun l al => G.stepAt packP unpackP evXV (regP env pf2 nt44 h) (finP env Try.f44.results.toList) (G.collect B44 A44 []) l S al) (T44 h S) := by
  unfold T44
  refine TabP.cons 0 (fun vs0 q e0 => ?_) ?_
  · obtain ⟨r0, vs1, rfl, e1⟩ := wI_some e0
    obtain ⟨r1, vs2, rfl, e2⟩ := wI_some e1
    obtain ⟨r2, vs3, rfl, e3⟩ := wV_some e2
    obtain ⟨rfl, ee⟩ := wN_some e3
    exact (q44x0 h S r0 r1 r2).symm.trans ee
  refine TabP.cons 1 (fun vs0 q e0 => ?_) ?_
  · obtain ⟨r0, vs1, rfl, e1⟩ := wI_some e0
    obtain ⟨r1, vs2, rfl, e2⟩ := wI_some e1
    obtain ⟨r9, vs3, rfl, e3⟩ := wV_some e2
    obtain ⟨r10, vs4, rfl, e4⟩ := wI_some e3
    obtain ⟨r11, vs5, rfl, e5⟩ := wI_some e4
    obtain ⟨rfl, ee⟩ := wN_some e5
    exact (q44x1 h S r0 r1 r9 r10 r11).symm.trans ee
  refine TabP.cons 2 (fun vs0 q e0 => ?_) ?_
  · 
    obtain ⟨rfl, ee⟩ := wN_some e0
    exact (q44x2 h S).symm.trans ee
  exact TabP.nil
theorem r44 : PSound Try.prog 44 F44 := fun_soundP (C := C0) ok0 (pf := pf2) pfok2 (fn := Try.f44) (body := B44) (kinds := [Kd.i .i64, Kd.i .i64, Kd.v]) (A := A44) (T := T44) (by kernel_rfl) (by kernel_rfl) (by kernel_rfl) (by kernel_rfl) (fun h S => t44 h S)
noncomputable def pf3 : PF := pfC 44 F44 pf2
theorem pfok3 : PfSound Try.prog pf3 := pfC_ok r44 pfok2
noncomputable def orc4 := orcP 44 F44 orc3
noncomputable def C4 : Cfg := cfg orc4
theorem ok4 : C4.Ok := orcP_ok (C := C3) ok3 r44
noncomputable def B46 : Code := (Try.f46.body).getD .skip
def A46 : Ann := (Ann.node (some (0, [(0, Kd.v), (1, Kd.i .i64)])) bl (bn (bn bl (bn (bn bl bl) bl)) (bn bl bl)))
noncomputable def P46x0 (S : Sg) (r0 : Value) (r1 : Int) (h : Hp) : CRes :=
  pairK (buildSliceV env h 24 1 (List.toArray [(0, (Value.int .i64 r1))])) fun v0 h0 =>
  pairK (optK (F44 [(Value.int .i64 (Int.ofNat 0)), (Value.int .i64 (Int.ofNat 2000)), v0] h0) fun v => some (v, h0)) fun v1 h1 =>
  boolK v1 fun b2 =>
  boolN b2 fun b3 =>
  ifB b3
  (some ((Value.int .i64 (Int.ofNat 7)), h1))
  (some ((Value.int .i64 (Int.ofNat 0)), h1))
noncomputable def T46 (S : Sg) : Sg := tabC 0 (uV fun r0 => uI fun r1 => uN fun h => P46x0 S r0 r1 h) (tabN)
noncomputable def F46 (args : List Value) (h : Hp) : CRes := packVals [Kd.v, Kd.i .i64] args fun al => rec' T46 1000000 0 al h
def nt46 : Nat := 2 + (9 - 2)
theorem q46x0 (S : Sg) (r0 : Value) (r1 : Int) (h : Hp) : P46x0 S r0 r1 h = stepAt (regK env orc4 (nt46)) (finK env Try.f46.results.toList) (collect B46 A46 []) 0 S (AL.v r0 (AL.i r1 AL.n)) h := by kernel_rfl
theorem t46 (S : Sg) : Tab (fun l vs h => stepAt (regK env orc4 nt46) (finK env Try.f46.results.toList) (collect B46 A46 []) l S vs h) (T46 S) := by
  unfold T46
  refine Tab.cons 0 (fun vs0 h q e0 => ?_) ?_
  · obtain ⟨r0, vs1, rfl, e1⟩ := uV_some e0
    obtain ⟨r1, vs2, rfl, e2⟩ := uI_some e1
    obtain ⟨rfl, ee⟩ := uN_some e2
    exact (q46x0 S r0 r1 h).symm.trans ee
  exact Tab.nil
theorem r46 : ∀ args h v h', F46 args h = some (v, h') → Runs (C4) (.call 46 args.toArray h) (.ret v h') := by
  intro args h v h' e
  exact fun_sound (C := C4) (fn := Try.f46) (body := B46) (np := 2) (A := A46) (T := T46) (kinds := [Kd.v, Kd.i .i64]) (by kernel_rfl) (by kernel_rfl) (by kernel_rfl) (by kernel_rfl) (regK_ok env_ok) (by kernel_rfl) (fun S => t46 S) e
noncomputable def orc5 := orcQ 46 F46 orc4
noncomputable def C5 : Cfg := cfg orc5
theorem ok5 : C5.Ok := orcQ_ok (C := C4) ok4 r46
noncomputable def B91 : Code := (Try.f91.body).getD .skip
noncomputable def A91 : G.Ann (List KI) := (G.Ann.node (some (0, [KI.reg 0 (Kd.v), KI.reg 1 (Kd.v)])) al (an al al))
noncomputable def P91x0 (h : Hp) (S : Nat → PAL → Option Value) (r0 : Value) (r1 : Value) : Option Value :=
  forceL (Array.toList (Value.cells r0)) fun c0 =>
  nthR c0 0 fun v1 =>
  ptrAddK 0 r1 fun v2 =>
  load1K h v2 fun v3 =>
  optK (binV env .eql 9 (Operand.tmp 5) (Operand.tmp 7) v1 v3) fun v4 =>
  boolK v4 fun b5 =>
  some (Value.bool b5)
noncomputable def T91 (h : Hp) (S : Nat → PAL → Option Value) : Nat → PAL → Option Value := tabPC 0 (wV fun r0 => wV fun r1 => wN (P91x0 h S r0 r1)) (tabPN)
noncomputable def F91 (args : List Value) (h : Hp) : Option Value := plainO (packArgs [Kd.v, Kd.v] args fun al => G.rec' (T91 h) 1000000 0 al)
def nt91 : Nat := 2 + (9 - 2)
theorem q91x0 (h : Hp) (S : Nat → PAL → Option Value) (r0 : Value) (r1 : Value) : P91x0 h S r0 r1 = G.stepAt packP unpackP evXV (regP env pf3 nt91 h) (finP env Try.f91.results.toList) (G.collect B91 A91 []) 0 S (PAL.v r0 (PAL.v r1 PAL.n)) := by kernel_rfl
theorem t91 (h : Hp) (S : Nat → PAL → Option Value) : TabP (fun l al => G.stepAt packP unpackP evXV (regP env pf3 nt91 h) (finP env Try.f91.results.toList) (G.collect B91 A91 []) l S al) (T91 h S) := by
  unfold T91
  refine TabP.cons 0 (fun vs0 q e0 => ?_) ?_
  · obtain ⟨r0, vs1, rfl, e1⟩ := wV_some e0
    obtain ⟨r1, vs2, rfl, e2⟩ := wV_some e1
    obtain ⟨rfl, ee⟩ := wN_some e2
    exact (q91x0 h S r0 r1).symm.trans ee
  exact TabP.nil
theorem r91 : PSound Try.prog 91 F91 := fun_soundP (C := C0) ok0 (pf := pf3) pfok3 (fn := Try.f91) (body := B91) (kinds := [Kd.v, Kd.v]) (A := A91) (T := T91) (by kernel_rfl) (by kernel_rfl) (by kernel_rfl) (by kernel_rfl) (fun h S => t91 h S)
noncomputable def pf4 : PF := pfC 91 F91 pf3
theorem pfok4 : PfSound Try.prog pf4 := pfC_ok r91 pfok3
noncomputable def orc6 := orcP 91 F91 orc5
noncomputable def C6 : Cfg := cfg orc6
theorem ok6 : C6.Ok := orcP_ok (C := C5) ok5 r91
noncomputable def B112 : Code := (Try.f112.body).getD .skip
noncomputable def A112 : G.Ann (List KI) := (G.Ann.node (some (0, [KI.reg 0 (Kd.i .u8)])) al (an al al))
noncomputable def P112x0 (h : Hp) (S : Nat → PAL → Option Value) (r0 : Int) : Option Value :=
  boolN (ltZ r0 (Int.ofNat 97)) fun b0 =>
  ifB b0
  (boolN (ltZ (Int.ofNat 122) r0) fun b1 =>
  some (Value.bool b1))
  (some (Value.bool false))
noncomputable def T112 (h : Hp) (S : Nat → PAL → Option Value) : Nat → PAL → Option Value := tabPC 0 (wI fun r0 => wN (P112x0 h S r0)) (tabPN)
noncomputable def F112 (args : List Value) (h : Hp) : Option Value := plainO (packArgs [Kd.i .u8] args fun al => G.rec' (T112 h) 1000000 0 al)
def nt112 : Nat := 1 + (9 - 1)
theorem q112x0 (h : Hp) (S : Nat → PAL → Option Value) (r0 : Int) : P112x0 h S r0 = G.stepAt packP unpackP evXV (regP env pf4 nt112 h) (finP env Try.f112.results.toList) (G.collect B112 A112 []) 0 S (PAL.i r0 PAL.n) := by kernel_rfl
theorem t112 (h : Hp) (S : Nat → PAL → Option Value) : TabP (fun l al => G.stepAt packP unpackP evXV (regP env pf4 nt112 h) (finP env Try.f112.results.toList) (G.collect B112 A112 []) l S al) (T112 h S) := by
  unfold T112
  refine TabP.cons 0 (fun vs0 q e0 => ?_) ?_
  · obtain ⟨r0, vs1, rfl, e1⟩ := wI_some e0
    obtain ⟨rfl, ee⟩ := wN_some e1
    exact (q112x0 h S r0).symm.trans ee
  exact TabP.nil
theorem r112 : PSound Try.prog 112 F112 := fun_soundP (C := C0) ok0 (pf := pf4) pfok4 (fn := Try.f112) (body := B112) (kinds := [Kd.i .u8]) (A := A112) (T := T112) (by kernel_rfl) (by kernel_rfl) (by kernel_rfl) (by kernel_rfl) (fun h S => t112 h S)
noncomputable def pf5 : PF := pfC 112 F112 pf4
theorem pfok5 : PfSound Try.prog pf5 := pfC_ok r112 pfok4
noncomputable def orc7 := orcP 112 F112 orc6
noncomputable def C7 : Cfg := cfg orc7
theorem ok7 : C7.Ok := orcP_ok (C := C6) ok6 r112
noncomputable def B113 : Code := (Try.f113.body).getD .skip
noncomputable def A113 : G.Ann (List KI) := (G.Ann.node (some (0, [KI.reg 0 (Kd.i .u8)])) al (an al al))
noncomputable def P113x0 (h : Hp) (S : Nat → PAL → Option Value) (r0 : Int) : Option Value :=
  boolN (ltZ r0 (Int.ofNat 48)) fun b0 =>
  ifB b0
  (boolN (ltZ (Int.ofNat 57) r0) fun b1 =>
  some (Value.bool b1))
  (some (Value.bool false))
noncomputable def T113 (h : Hp) (S : Nat → PAL → Option Value) : Nat → PAL → Option Value := tabPC 0 (wI fun r0 => wN (P113x0 h S r0)) (tabPN)
noncomputable def F113 (args : List Value) (h : Hp) : Option Value := plainO (packArgs [Kd.i .u8] args fun al => G.rec' (T113 h) 1000000 0 al)
def nt113 : Nat := 1 + (9 - 1)
theorem q113x0 (h : Hp) (S : Nat → PAL → Option Value) (r0 : Int) : P113x0 h S r0 = G.stepAt packP unpackP evXV (regP env pf5 nt113 h) (finP env Try.f113.results.toList) (G.collect B113 A113 []) 0 S (PAL.i r0 PAL.n) := by kernel_rfl
theorem t113 (h : Hp) (S : Nat → PAL → Option Value) : TabP (fun l al => G.stepAt packP unpackP evXV (regP env pf5 nt113 h) (finP env Try.f113.results.toList) (G.collect B113 A113 []) l S al) (T113 h S) := by
  unfold T113
  refine TabP.cons 0 (fun vs0 q e0 => ?_) ?_
  · obtain ⟨r0, vs1, rfl, e1⟩ := wI_some e0
    obtain ⟨rfl, ee⟩ := wN_some e1
    exact (q113x0 h S r0).symm.trans ee
  exact TabP.nil
theorem r113 : PSound Try.prog 113 F113 := fun_soundP (C := C0) ok0 (pf := pf5) pfok5 (fn := Try.f113) (body := B113) (kinds := [Kd.i .u8]) (A := A113) (T := T113) (by kernel_rfl) (by kernel_rfl) (by kernel_rfl) (by kernel_rfl) (fun h S => t113 h S)
noncomputable def pf6 : PF := pfC 113 F113 pf5
theorem pfok6 : PfSound Try.prog pf6 := pfC_ok r113 pfok5
noncomputable def orc8 := orcP 113 F113 orc7
noncomputable def C8 : Cfg := cfg orc8
theorem ok8 : C8.Ok := orcP_ok (C := C7) ok7 r113
noncomputable def B89 : Code := (Try.f89.body).getD .skip
def A89 : Ann := (Ann.node (some (0, [(0, Kd.v)])) bl (bn (bn bl (bn (bn bl bl) bl)) (bn (bn bl (bn (Ann.node (some (1, [(0, Kd.v), (16, Kd.i .i64), (17, Kd.i .i64)])) (bn bl (bn (bn bl bl) (bn (bn (bn bl (bn bl (bn (bn bl bl) bl))) bl) bl))) bl) bl)) (Ann.node (some (2, [])) bl bl))))
noncomputable def P89x2 (S : Sg) (h : Hp) : CRes :=
  some ((Value.bool true), h)
noncomputable def P89x1 (S : Sg) (r0 : Value) (r16 : Int) (r17 : Int) (h : Hp) : CRes :=
  boolZ (ltZ r17 r16) fun b0 =>
  ifB b0
  (optK (indexV env 9 r0 (Value.int .i64 r17)) fun v1 =>
  intK .u8 v1 fun i2 =>
  pairK (optK (F112 [(Value.int .u8 i2)] h) fun v => some (v, h)) fun v3 h3 =>
  boolK v3 fun b4 =>
  boolN b4 fun b5 =>
  ifB b5
  (optK (indexV env 9 r0 (Value.int .i64 r17)) fun v6 =>
  intK .u8 v6 fun i7 =>
  pairK (optK (F113 [(Value.int .u8 i7)] h3) fun v => some (v, h3)) fun v8 h8 =>
  boolK v8 fun b9 =>
  boolN b9 fun b10 =>
  ifB b10
  (optK (indexV env 9 r0 (Value.int .i64 r17)) fun v11 =>
  intK .u8 v11 fun i12 =>
  boolN (eqZ i12 (Int.ofNat 46)) fun b13 =>
  ifB b13
  (some ((Value.bool false), h8))
  (wrap64 (Int.add r17 (Int.ofNat 1)) fun i14 =>
  S 1 (AL.v r0 (AL.i r16 (AL.i i14 AL.n))) h8))
  (wrap64 (Int.add r17 (Int.ofNat 1)) fun i15 =>
  S 1 (AL.v r0 (AL.i r16 (AL.i i15 AL.n))) h8))
  (wrap64 (Int.add r17 (Int.ofNat 1)) fun i16 =>
  S 1 (AL.v r0 (AL.i r16 (AL.i i16 AL.n))) h3))
  (S 2 AL.n h)
noncomputable def P89x0 (S : Sg) (r0 : Value) (h : Hp) : CRes :=
  lenBK r0 fun i0 =>
  pairK (buildSliceV env h 24 1 (List.toArray [(0, (Value.int .i64 i0))])) fun v1 h1 =>
  pairK (optK (F44 [(Value.int .i64 (Int.ofNat 1)), (Value.int .i64 (Int.ofNat 16)), v1] h1) fun v => some (v, h1)) fun v2 h2 =>
  boolK v2 fun b3 =>
  boolN b3 fun b4 =>
  ifB b4
  (some ((Value.bool false), h2))
  (optK (indexV env 9 r0 (Value.int .i64 (Int.ofNat 0))) fun v5 =>
  intK .u8 v5 fun i6 =>
  pairK (optK (F112 [(Value.int .u8 i6)] h2) fun v => some (v, h2)) fun v7 h7 =>
  boolK v7 fun b8 =>
  boolN b8 fun b9 =>
  ifB b9
  (some ((Value.bool false), h7))
  (lenBK r0 fun i10 =>
  S 1 (AL.v r0 (AL.i i10 (AL.i (Int.ofNat 0) AL.n))) h7))
noncomputable def T89 (S : Sg) : Sg := tabC 0 (uV fun r0 => uN fun h => P89x0 S r0 h) (tabC 1 (uV fun r0 => uI fun r16 => uI fun r17 => uN fun h => P89x1 S r0 r16 r17 h) (tabC 2 (uN fun h => P89x2 S  h) (tabN)))
noncomputable def F89 (args : List Value) (h : Hp) : CRes := packVals [Kd.v] args fun al => rec' T89 1000000 0 al h
def nt89 : Nat := 1 + (39 - 1)
theorem q89x2 (S : Sg) (h : Hp) : P89x2 S  h = stepAt (regK env orc8 (nt89)) (finK env Try.f89.results.toList) (collect B89 A89 []) 2 S AL.n h := by kernel_rfl
theorem q89x1 (S : Sg) (r0 : Value) (r16 : Int) (r17 : Int) (h : Hp) : P89x1 S r0 r16 r17 h = stepAt (regK env orc8 (nt89)) (finK env Try.f89.results.toList) (collect B89 A89 []) 1 S (AL.v r0 (AL.i r16 (AL.i r17 AL.n))) h := by kernel_rfl
theorem q89x0 (S : Sg) (r0 : Value) (h : Hp) : P89x0 S r0 h = stepAt (regK env orc8 (nt89)) (finK env Try.f89.results.toList) (collect B89 A89 []) 0 S (AL.v r0 AL.n) h := by kernel_rfl
theorem t89 (S : Sg) : Tab (fun l vs h => stepAt (regK env orc8 nt89) (finK env Try.f89.results.toList) (collect B89 A89 []) l S vs h) (T89 S) := by
  unfold T89
  refine Tab.cons 0 (fun vs0 h q e0 => ?_) ?_
  · obtain ⟨r0, vs1, rfl, e1⟩ := uV_some e0
    obtain ⟨rfl, ee⟩ := uN_some e1
    exact (q89x0 S r0 h).symm.trans ee
  refine Tab.cons 1 (fun vs0 h q e0 => ?_) ?_
  · obtain ⟨r0, vs1, rfl, e1⟩ := uV_some e0
    obtain ⟨r16, vs2, rfl, e2⟩ := uI_some e1
    obtain ⟨r17, vs3, rfl, e3⟩ := uI_some e2
    obtain ⟨rfl, ee⟩ := uN_some e3
    exact (q89x1 S r0 r16 r17 h).symm.trans ee
  refine Tab.cons 2 (fun vs0 h q e0 => ?_) ?_
  · 
    obtain ⟨rfl, ee⟩ := uN_some e0
    exact (q89x2 S  h).symm.trans ee
  exact Tab.nil
theorem r89 : ∀ args h v h', F89 args h = some (v, h') → Runs (C8) (.call 89 args.toArray h) (.ret v h') := by
  intro args h v h' e
  exact fun_sound (C := C8) (fn := Try.f89) (body := B89) (np := 1) (A := A89) (T := T89) (kinds := [Kd.v]) (by kernel_rfl) (by kernel_rfl) (by kernel_rfl) (by kernel_rfl) (regK_ok env_ok) (by kernel_rfl) (fun S => t89 S) e
noncomputable def orc9 := orcQ 89 F89 orc8
noncomputable def C9 : Cfg := cfg orc9
theorem ok9 : C9.Ok := orcQ_ok (C := C8) ok8 r89
noncomputable def B114 : Code := (Try.f114.body).getD .skip
def A114 : Ann := (Ann.node (some (0, [(0, Kd.v), (1, Kd.v)])) bl (bn (bn bl (bn (Ann.node (some (1, [(0, Kd.v), (1, Kd.v), (7, Kd.i .i64), (8, Kd.i .i64)])) (bn bl (bn (bn bl bl) (bn (bn (bn bl (bn bl (bn (bn bl bl) bl))) bl) bl))) bl) bl)) (Ann.node (some (2, [])) bl bl)))
noncomputable def P114x2 (S : Sg) (h : Hp) : CRes :=
  some ((Value.int .i64 (Int.negSucc 0)), h)
noncomputable def P114x1 (S : Sg) (r0 : Value) (r1 : Value) (r7 : Int) (r8 : Int) (h : Hp) : CRes :=
  boolZ (ltZ r8 r7) fun b0 =>
  ifB b0
  (idxSK 4 r0 r8 fun v1 =>
  loadNK 4 h v1 fun v2 =>
  pairK (callF orc9 r1 [v2] h) fun v3 h3 =>
  boolK v3 fun b4 =>
  ifB b4
  (some ((Value.int .i64 r8), h3))
  (wrap64 (Int.add r8 (Int.ofNat 1)) fun i5 =>
  S 1 (AL.v r0 (AL.v r1 (AL.i r7 (AL.i i5 AL.n)))) h3))
  (S 2 AL.n h)
noncomputable def P114x0 (S : Sg) (r0 : Value) (r1 : Value) (h : Hp) : CRes :=
  lenSK r0 fun i0 =>
  S 1 (AL.v r0 (AL.v r1 (AL.i i0 (AL.i (Int.ofNat 0) AL.n)))) h
noncomputable def T114 (S : Sg) : Sg := tabC 0 (uV fun r0 => uV fun r1 => uN fun h => P114x0 S r0 r1 h) (tabC 1 (uV fun r0 => uV fun r1 => uI fun r7 => uI fun r8 => uN fun h => P114x1 S r0 r1 r7 r8 h) (tabC 2 (uN fun h => P114x2 S  h) (tabN)))
noncomputable def F114 (args : List Value) (h : Hp) : CRes := packVals [Kd.v, Kd.v] args fun al => rec' T114 1000000 0 al h
def nt114 : Nat := 2 + (19 - 2)
theorem q114x2 (S : Sg) (h : Hp) : P114x2 S  h = stepAt (regK env orc9 (nt114)) (finK env Try.f114.results.toList) (collect B114 A114 []) 2 S AL.n h := by kernel_rfl
theorem q114x1 (S : Sg) (r0 : Value) (r1 : Value) (r7 : Int) (r8 : Int) (h : Hp) : P114x1 S r0 r1 r7 r8 h = stepAt (regK env orc9 (nt114)) (finK env Try.f114.results.toList) (collect B114 A114 []) 1 S (AL.v r0 (AL.v r1 (AL.i r7 (AL.i r8 AL.n)))) h := by kernel_rfl
theorem q114x0 (S : Sg) (r0 : Value) (r1 : Value) (h : Hp) : P114x0 S r0 r1 h = stepAt (regK env orc9 (nt114)) (finK env Try.f114.results.toList) (collect B114 A114 []) 0 S (AL.v r0 (AL.v r1 AL.n)) h := by kernel_rfl
theorem t114 (S : Sg) : Tab (fun l vs h => stepAt (regK env orc9 nt114) (finK env Try.f114.results.toList) (collect B114 A114 []) l S vs h) (T114 S) := by
  unfold T114
  refine Tab.cons 0 (fun vs0 h q e0 => ?_) ?_
  · obtain ⟨r0, vs1, rfl, e1⟩ := uV_some e0
    obtain ⟨r1, vs2, rfl, e2⟩ := uV_some e1
    obtain ⟨rfl, ee⟩ := uN_some e2
    exact (q114x0 S r0 r1 h).symm.trans ee
  refine Tab.cons 1 (fun vs0 h q e0 => ?_) ?_
  · obtain ⟨r0, vs1, rfl, e1⟩ := uV_some e0
    obtain ⟨r1, vs2, rfl, e2⟩ := uV_some e1
    obtain ⟨r7, vs3, rfl, e3⟩ := uI_some e2
    obtain ⟨r8, vs4, rfl, e4⟩ := uI_some e3
    obtain ⟨rfl, ee⟩ := uN_some e4
    exact (q114x1 S r0 r1 r7 r8 h).symm.trans ee
  refine Tab.cons 2 (fun vs0 h q e0 => ?_) ?_
  · 
    obtain ⟨rfl, ee⟩ := uN_some e0
    exact (q114x2 S  h).symm.trans ee
  exact Tab.nil
theorem r114 : ∀ args h v h', F114 args h = some (v, h') → Runs (C9) (.call 114 args.toArray h) (.ret v h') := by
  intro args h v h' e
  exact fun_sound (C := C9) (fn := Try.f114) (body := B114) (np := 2) (A := A114) (T := T114) (kinds := [Kd.v, Kd.v]) (by kernel_rfl) (by kernel_rfl) (by kernel_rfl) (by kernel_rfl) (regK_ok env_ok) (by kernel_rfl) (fun S => t114 S) e
noncomputable def orc10 := orcQ 114 F114 orc9
noncomputable def C10 : Cfg := cfg orc10
theorem ok10 : C10.Ok := orcQ_ok (C := C9) ok9 r114
noncomputable def B90 : Code := (Try.f90.body).getD .skip
def A90 : Ann := (Ann.node (some (0, [(0, Kd.v), (1, Kd.v)])) bl (bn bl bl))
noncomputable def P90x0 (S : Sg) (r0 : Value) (r1 : Value) (h : Hp) : CRes :=
  pairK (callQ F114 [r0, r1] h) fun v0 h0 =>
  intK .i64 v0 fun i1 =>
  boolN (ltZ i1 (Int.ofNat 0)) fun b2 =>
  some ((Value.bool b2), h0)
noncomputable def T90 (S : Sg) : Sg := tabC 0 (uV fun r0 => uV fun r1 => uN fun h => P90x0 S r0 r1 h) (tabN)
noncomputable def F90 (args : List Value) (h : Hp) : CRes := packVals [Kd.v, Kd.v] args fun al => rec' T90 1000000 0 al h
def nt90 : Nat := 2 + (9 - 2)
theorem q90x0 (S : Sg) (r0 : Value) (r1 : Value) (h : Hp) : P90x0 S r0 r1 h = stepAt (regK env orc10 (nt90)) (finK env Try.f90.results.toList) (collect B90 A90 []) 0 S (AL.v r0 (AL.v r1 AL.n)) h := by kernel_rfl
theorem t90 (S : Sg) : Tab (fun l vs h => stepAt (regK env orc10 nt90) (finK env Try.f90.results.toList) (collect B90 A90 []) l S vs h) (T90 S) := by
  unfold T90
  refine Tab.cons 0 (fun vs0 h q e0 => ?_) ?_
  · obtain ⟨r0, vs1, rfl, e1⟩ := uV_some e0
    obtain ⟨r1, vs2, rfl, e2⟩ := uV_some e1
    obtain ⟨rfl, ee⟩ := uN_some e2
    exact (q90x0 S r0 r1 h).symm.trans ee
  exact Tab.nil
theorem r90 : ∀ args h v h', F90 args h = some (v, h') → Runs (C10) (.call 90 args.toArray h) (.ret v h') := by
  intro args h v h' e
  exact fun_sound (C := C10) (fn := Try.f90) (body := B90) (np := 2) (A := A90) (T := T90) (kinds := [Kd.v, Kd.v]) (by kernel_rfl) (by kernel_rfl) (by kernel_rfl) (by kernel_rfl) (regK_ok env_ok) (by kernel_rfl) (fun S => t90 S) e
noncomputable def orc11 := orcQ 90 F90 orc10
noncomputable def C11 : Cfg := cfg orc11
theorem ok11 : C11.Ok := orcQ_ok (C := C10) ok10 r90
noncomputable def B86 : Code := (Try.f86.body).getD .skip
def A86 : Ann := (Ann.node (some (0, [(0, Kd.v), (1, Kd.v), (2, Kd.v), (3, Kd.v)])) bl (bn (bn (bn bl (bn (bn bl bl) (bn bl (bn (bn bl bl) bl)))) bl) (bn bl bl)))
noncomputable def P86x0 (S : Sg) (r0 : Value) (r1 : Value) (r2 : Value) (r3 : Value) (h : Hp) : CRes :=
  allocK h 23 (Array.toList (Value.cells r1)) fun a0 h0 =>
  load1K h0 r2 fun v1 =>
  intK .i64 v1 fun i2 =>
  load1K h0 r3 fun v3 =>
  intK .i64 v3 fun i4 =>
  ptrAddK 0 a0 fun v5 =>
  load1K h0 v5 fun v6 =>
  intK .i64 v6 fun i7 =>
  ptrAddK 1 a0 fun v8 =>
  load1K h0 v8 fun v9 =>
  intK .i64 v9 fun i10 =>
  pairK (buildSliceV env h0 24 2 (List.toArray [(0, (Value.int .i64 i7)), (1, (Value.int .i64 i10))])) fun v11 h11 =>
  pairK (optK (F44 [(Value.int .i64 i2), (Value.int .i64 i4), v11] h11) fun v => some (v, h11)) fun v12 h12 =>
  boolK v12 fun b13 =>
  boolN b13 fun b14 =>
  ifB b14
  (some ((Value.int .i64 (Int.ofNat 7)), h12))
  (ptrAddK 0 a0 fun v15 =>
  load1K h12 v15 fun v16 =>
  intK .i64 v16 fun i17 =>
  ptrAddK 1 a0 fun v18 =>
  load1K h12 v18 fun v19 =>
  intK .i64 v19 fun i20 =>
  boolZ (ltZ i20 i17) fun b21 =>
  ifB b21
  (some ((Value.int .i64 (Int.ofNat 2)), h12))
  (some ((Value.int .i64 (Int.ofNat 0)), h12)))
noncomputable def T86 (S : Sg) : Sg := tabC 0 (uV fun r0 => uV fun r1 => uV fun r2 => uV fun r3 => uN fun h => P86x0 S r0 r1 r2 r3 h) (tabN)
noncomputable def F86 (args : List Value) (h : Hp) : CRes := packVals [Kd.v, Kd.v, Kd.v, Kd.v] args fun al => rec' T86 1000000 0 al h
def nt86 : Nat := 4 + (23 - 4)
theorem q86x0 (S : Sg) (r0 : Value) (r1 : Value) (r2 : Value) (r3 : Value) (h : Hp) : P86x0 S r0 r1 r2 r3 h = stepAt (regK env orc11 (nt86)) (finK env Try.f86.results.toList) (collect B86 A86 []) 0 S (AL.v r0 (AL.v r1 (AL.v r2 (AL.v r3 AL.n)))) h := by kernel_rfl
theorem t86 (S : Sg) : Tab (fun l vs h => stepAt (regK env orc11 nt86) (finK env Try.f86.results.toList) (collect B86 A86 []) l S vs h) (T86 S) := by
  unfold T86
  refine Tab.cons 0 (fun vs0 h q e0 => ?_) ?_
  · obtain ⟨r0, vs1, rfl, e1⟩ := uV_some e0
    obtain ⟨r1, vs2, rfl, e2⟩ := uV_some e1
    obtain ⟨r2, vs3, rfl, e3⟩ := uV_some e2
    obtain ⟨r3, vs4, rfl, e4⟩ := uV_some e3
    obtain ⟨rfl, ee⟩ := uN_some e4
    exact (q86x0 S r0 r1 r2 r3 h).symm.trans ee
  exact Tab.nil
theorem r86 : ∀ args h v h', F86 args h = some (v, h') → Runs (C11) (.call 86 args.toArray h) (.ret v h') := by
  intro args h v h' e
  exact fun_sound (C := C11) (fn := Try.f86) (body := B86) (np := 4) (A := A86) (T := T86) (kinds := [Kd.v, Kd.v, Kd.v, Kd.v]) (by kernel_rfl) (by kernel_rfl) (by kernel_rfl) (by kernel_rfl) (regK_ok env_ok) (by kernel_rfl) (fun S => t86 S) e
noncomputable def orc12 := orcQ 86 F86 orc11
noncomputable def C12 : Cfg := cfg orc12
theorem ok12 : C12.Ok := orcQ_ok (C := C11) ok11 r86
noncomputable def B85 : Code := (Try.f85.body).getD .skip
def A85 : Ann := (Ann.node (some (0, [(0, Kd.v), (1, Kd.v)])) bl (bn (bn bl (bn (Ann.node (some (1, [(0, Kd.v), (1, Kd.v), (9, Kd.v), (10, Kd.i .i64), (11, Kd.i .i64)])) (bn bl (bn (bn bl bl) (bn (bn (bn bl (bn bl (bn bl (bn (bn bl bl) bl)))) bl) bl))) bl) bl)) (Ann.node (some (2, [])) bl bl)))
noncomputable def P85x2 (S : Sg) (h : Hp) : CRes :=
  some (Value.tuple (List.toArray [(Value.int .i64 (Int.ofNat 0)), (Value.int .i64 (Int.ofNat 0))]), h)
noncomputable def P85x1 (S : Sg) (r0 : Value) (r1 : Value) (r9 : Value) (r10 : Int) (r11 : Int) (h : Hp) : CRes :=
  boolZ (ltZ r11 r10) fun b0 =>
  ifB b0
  (idxSK 2 r9 r11 fun v1 =>
  loadNK 2 h v1 fun v2 =>
  allocK h 23 [(Value.int .i64 (Int.ofNat 0)), (Value.int .i64 (Int.ofNat 0))] fun a3 h3 =>
  storeNK 2 h3 a3 v2 fun h4 =>
  optK (sliceV env h4 78 r0 none (some (Value.int .i64 r11)) none) fun v5 =>
  loadNK 2 h4 a3 fun v6 =>
  pairK (callF orc12 r1 [v5, v6] h4) fun v7 h7 =>
  intK .i64 v7 fun i8 =>
  boolN (eqZ i8 (Int.ofNat 0)) fun b9 =>
  ifB b9
  (some (Value.tuple (List.toArray [(Value.int .i64 r11), (Value.int .i64 i8)]), h7))
  (wrap64 (Int.add r11 (Int.ofNat 1)) fun i10 =>
  S 1 (AL.v r0 (AL.v r1 (AL.v r9 (AL.i r10 (AL.i i10 AL.n))))) h7))
  (S 2 AL.n h)
noncomputable def P85x0 (S : Sg) (r0 : Value) (r1 : Value) (h : Hp) : CRes :=
  lenSK r0 fun i0 =>
  S 1 (AL.v r0 (AL.v r1 (AL.v r0 (AL.i i0 (AL.i (Int.ofNat 0) AL.n))))) h
noncomputable def T85 (S : Sg) : Sg := tabC 0 (uV fun r0 => uV fun r1 => uN fun h => P85x0 S r0 r1 h) (tabC 1 (uV fun r0 => uV fun r1 => uV fun r9 => uI fun r10 => uI fun r11 => uN fun h => P85x1 S r0 r1 r9 r10 r11 h) (tabC 2 (uN fun h => P85x2 S  h) (tabN)))
noncomputable def F85 (args : List Value) (h : Hp) : CRes := packVals [Kd.v, Kd.v] args fun al => rec' T85 1000000 0 al h
def nt85 : Nat := 2 + (27 - 2)
theorem q85x2 (S : Sg) (h : Hp) : P85x2 S  h = stepAt (regK env orc12 (nt85)) (finK env Try.f85.results.toList) (collect B85 A85 []) 2 S AL.n h := by kernel_rfl
theorem q85x1 (S : Sg) (r0 : Value) (r1 : Value) (r9 : Value) (r10 : Int) (r11 : Int) (h : Hp) : P85x1 S r0 r1 r9 r10 r11 h = stepAt (regK env orc12 (nt85)) (finK env Try.f85.results.toList) (collect B85 A85 []) 1 S (AL.v r0 (AL.v r1 (AL.v r9 (AL.i r10 (AL.i r11 AL.n))))) h := by kernel_rfl
theorem q85x0 (S : Sg) (r0 : Value) (r1 : Value) (h : Hp) : P85x0 S r0 r1 h = stepAt (regK env orc12 (nt85)) (finK env Try.f85.results.toList) (collect B85 A85 []) 0 S (AL.v r0 (AL.v r1 AL.n)) h := by kernel_rfl
theorem t85 (S : Sg) : Tab (fun l vs h => stepAt (regK env orc12 nt85) (finK env Try.f85.results.toList) (collect B85 A85 []) l S vs h) (T85 S) := by
  unfold T85
  refine Tab.cons 0 (fun vs0 h q e0 => ?_) ?_
  · obtain ⟨r0, vs1, rfl, e1⟩ := uV_some e0
    obtain ⟨r1, vs2, rfl, e2⟩ := uV_some e1
    obtain ⟨rfl, ee⟩ := uN_some e2
    exact (q85x0 S r0 r1 h).symm.trans ee
  refine Tab.cons 1 (fun vs0 h q e0 => ?_) ?_
  · obtain ⟨r0, vs1, rfl, e1⟩ := uV_some e0
    obtain ⟨r1, vs2, rfl, e2⟩ := uV_some e1
    obtain ⟨r9, vs3, rfl, e3⟩ := uV_some e2
    obtain ⟨r10, vs4, rfl, e4⟩ := uI_some e3
    obtain ⟨r11, vs5, rfl, e5⟩ := uI_some e4
    obtain ⟨rfl, ee⟩ := uN_some e5
    exact (q85x1 S r0 r1 r9 r10 r11 h).symm.trans ee
  refine Tab.cons 2 (fun vs0 h q e0 => ?_) ?_
  · 
    obtain ⟨rfl, ee⟩ := uN_some e0
    exact (q85x2 S  h).symm.trans ee
  exact Tab.nil
theorem r85 : ∀ args h v h', F85 args h = some (v, h') → Runs (C12) (.call 85 args.toArray h) (.ret v h') := by
  intro args h v h' e
  exact fun_sound (C := C12) (fn := Try.f85) (body := B85) (np := 2) (A := A85) (T := T85) (kinds := [Kd.v, Kd.v]) (by kernel_rfl) (by kernel_rfl) (by kernel_rfl) (by kernel_rfl) (regK_ok env_ok) (by kernel_rfl) (fun S => t85 S) e
noncomputable def orc13 := orcQ 85 F85 orc12
noncomputable def C13 : Cfg := cfg orc13
theorem ok13 : C13.Ok := orcQ_ok (C := C12) ok12 r85
noncomputable def B43 : Code := (Try.f43.body).getD .skip
def A43 : Ann := (Ann.node (some (0, [(0, Kd.i .i64), (1, Kd.i .i64), (2, Kd.v)])) bl (bn bl (bn bl bl)))
noncomputable def P43x0 (S : Sg) (r0 : Int) (r1 : Int) (r2 : Value) (h : Hp) : CRes :=
  allocK h 3 [(Value.int .i64 r0)] fun a0 h0 =>
  allocK h0 3 [(Value.int .i64 r1)] fun a1 h1 =>
  pairK (callQ F85 [r2, (Value.func (.func 86) (List.toArray []) (List.toArray [a0, a1]))] h1) fun v2 h2 =>
  extK v2 0 fun v3 =>
  intK .i64 v3 fun i4 =>
  extK v2 1 fun v5 =>
  intK .i64 v5 fun i6 =>
  some ((Value.int .i64 i6), h2)
noncomputable def T43 (S : Sg) : Sg := tabC 0 (uI fun r0 => uI fun r1 => uV fun r2 => uN fun h => P43x0 S r0 r1 r2 h) (tabN)
noncomputable def F43 (args : List Value) (h : Hp) : CRes := packVals [Kd.i .i64, Kd.i .i64, Kd.v] args fun al => rec' T43 1000000 0 al h
def nt43 : Nat := 3 + (16 - 3)
theorem q43x0 (S : Sg) (r0 : Int) (r1 : Int) (r2 : Value) (h : Hp) : P43x0 S r0 r1 r2 h = stepAt (regK env orc13 (nt43)) (finK env Try.f43.results.toList) (collect B43 A43 []) 0 S (AL.i r0 (AL.i r1 (AL.v r2 AL.n))) h := by kernel_rfl
theorem t43 (S : Sg) : Tab (fun l vs h => stepAt (regK env orc13 nt43) (finK env Try.f43.results.toList) (collect B43 A43 []) l S vs h) (T43 S) := by
  unfold T43
  refine Tab.cons 0 (fun vs0 h q e0 => ?_) ?_
  · obtain ⟨r0, vs1, rfl, e1⟩ := uI_some e0
    obtain ⟨r1, vs2, rfl, e2⟩ := uI_some e1
    obtain ⟨r2, vs3, rfl, e3⟩ := uV_some e2
    obtain ⟨rfl, ee⟩ := uN_some e3
    exact (q43x0 S r0 r1 r2 h).symm.trans ee
  exact Tab.nil
theorem r43 : ∀ args h v h', F43 args h = some (v, h') → Runs (C13) (.call 43 args.toArray h) (.ret v h') := by
  intro args h v h' e
  exact fun_sound (C := C13) (fn := Try.f43) (body := B43) (np := 3) (A := A43) (T := T43) (kinds := [Kd.i .i64, Kd.i .i64, Kd.v]) (by kernel_rfl) (by kernel_rfl) (by kernel_rfl) (by kernel_rfl) (regK_ok env_ok) (by kernel_rfl) (fun S => t43 S) e
noncomputable def orc14 := orcQ 43 F43 orc13
noncomputable def C14 : Cfg := cfg orc14
theorem ok14 : C14.Ok := orcQ_ok (C := C13) ok13 r43
noncomputable def B59 : Code := (Try.f59.body).getD .skip
noncomputable def A59 : G.Ann (List KI) := (G.Ann.node (some (0, [KI.reg 0 (Kd.i .i64), KI.reg 1 (Kd.v)])) al (an al al))
noncomputable def P59x0 (h : Hp) (S : Nat → PAL → Option Value) (r0 : Int) (r1 : Value) : Option Value :=
  wrap64 (Int.sub r0 (Int.ofNat 1)) fun i0 =>
  optK (F44 [(Value.int .i64 (Int.ofNat 0)), (Value.int .i64 i0), r1] h) fun v1 =>
  boolK v1 fun b2 =>
  some (Value.bool b2)
noncomputable def T59 (h : Hp) (S : Nat → PAL → Option Value) : Nat → PAL → Option Value := tabPC 0 (wI fun r0 => wV fun r1 => wN (P59x0 h S r0 r1)) (tabPN)
noncomputable def F59 (args : List Value) (h : Hp) : Option Value := plainO (packArgs [Kd.i .i64, Kd.v] args fun al => G.rec' (T59 h) 1000000 0 al)
def nt59 : Nat := 2 + (9 - 2)
theorem q59x0 (h : Hp) (S : Nat → PAL → Option Value) (r0 : Int) (r1 : Value) : P59x0 h S r0 r1 = G.stepAt packP unpackP evXV (regP env pf6 nt59 h) (finP env Try.f59.results.toList) (G.collect B59 A59 []) 0 S (PAL.i r0 (PAL.v r1 PAL.n)) := by kernel_rfl
theorem t59 (h : Hp) (S : Nat → PAL → Option Value) : TabP (fun l al => G.stepAt packP unpackP evXV (regP env pf6 nt59 h) (finP env Try.f59.results.toList) (G.collect B59 A59 []) l S al) (T59 h S) := by
  unfold T59
  refine TabP.cons 0 (fun vs0 q e0 => ?_) ?_
  · obtain ⟨r0, vs1, rfl, e1⟩ := wI_some e0
    obtain ⟨r1, vs2, rfl, e2⟩ := wV_some e1
    obtain ⟨rfl, ee⟩ := wN_some e2
    exact (q59x0 h S r0 r1).symm.trans ee
  exact TabP.nil
theorem r59 : PSound Try.prog 59 F59 := fun_soundP (C := C0) ok0 (pf := pf6) pfok6 (fn := Try.f59) (body := B59) (kinds := [Kd.i .i64, Kd.v]) (A := A59) (T := T59) (by kernel_rfl) (by kernel_rfl) (by kernel_rfl) (by kernel_rfl) (fun h S => t59 h S)
noncomputable def pf7 : PF := pfC 59 F59 pf6
theorem pfok7 : PfSound Try.prog pf7 := pfC_ok r59 pfok6
noncomputable def orc15 := orcP 59 F59 orc14
noncomputable def C15 : Cfg := cfg orc15
theorem ok15 : C15.Ok := orcP_ok (C := C14) ok14 r59
noncomputable def B49 : Code := (Try.f49.body).getD .skip
def A49 : Ann := (Ann.node (some (0, [(0, Kd.v), (1, Kd.v), (2, Kd.v)])) bl (bn (bn (bn bl (bn (bn bl bl) (bn bl (bn (bn bl bl) (bn bl (bn (bn bl bl) bl)))))) bl) (bn (bn bl (bn bl (bn (bn bl bl) bl))) (bn (bn bl (bn (bn bl bl) bl)) (bn bl bl)))))
noncomputable def P49x0 (S : Sg) (r0 : Value) (r1 : Value) (r2 : Value) (h : Hp) : CRes :=
  allocK h 28 (Array.toList (Value.cells r0)) fun a0 h0 =>
  allocK h0 80 (Array.toList (Value.cells r2)) fun a1 h1 =>
  ptrAddK 0 a1 fun v2 =>
  load1K h1 v2 fun v3 =>
  pairK (callQ F89 [v3] h1) fun v4 h4 =>
  boolK v4 fun b5 =>
  boolN b5 fun b6 =>
  ifB b6
  (some ((Value.int .i64 (Int.ofNat 6)), h4))
  (pairK (callQ F90 [r1, (Value.func (.func 91) (List.toArray []) (List.toArray [a1]))] h4) fun v7 h7 =>
  boolK v7 fun b8 =>
  ifB b8
  (some ((Value.int .i64 (Int.ofNat 5)), h7))
  (ptrAddK 2 a1 fun v9 =>
  load1K h7 v9 fun v10 =>
  lenSK v10 fun i11 =>
  ptrAddK 2 a0 fun v12 =>
  load1K h7 v12 fun v13 =>
  intK .i64 v13 fun i14 =>
  boolN (eqZ i11 i14) fun b15 =>
  ifB b15
  (some ((Value.int .i64 (Int.ofNat 3)), h7))
  (ptrAddK 2 a1 fun v16 =>
  load1K h7 v16 fun v17 =>
  pairK (callQ F43 [(Value.int .i64 (Int.ofNat 0)), (Value.int .i64 (Int.ofNat 60)), v17] h7) fun v18 h18 =>
  intK .i64 v18 fun i19 =>
  boolN (eqZ i19 (Int.ofNat 0)) fun b20 =>
  ifB b20
  (some ((Value.int .i64 i19), h18))
  (ptrAddK 3 a0 fun v21 =>
  load1K h18 v21 fun v22 =>
  lenSK v22 fun i23 =>
  slowI .i64 (shlI (binW env .shl 3 (Value.int .i64 (Int.ofNat 1)) (Value.int .i64 i23)) (Value.int .i64 (Int.ofNat 1)) (Value.int .i64 i23)) fun i24 =>
  ptrAddK 3 a1 fun v25 =>
  load1K h18 v25 fun v26 =>
  intK .i64 v26 fun i27 =>
  pairK (buildSliceV env h18 24 1 (List.toArray [(0, (Value.int .i64 i27))])) fun v28 h28 =>
  pairK (optK (F59 [(Value.int .i64 i24), v28] h28) fun v => some (v, h28)) fun v29 h29 =>
  boolK v29 fun b30 =>
  boolN b30 fun b31 =>
  ifB b31
  (some ((Value.int .i64 (Int.ofNat 4)), h29))
  (some ((Value.int .i64 (Int.ofNat 0)), h29))))))
noncomputable def T49 (S : Sg) : Sg := tabC 0 (uV fun r0 => uV fun r1 => uV fun r2 => uN fun h => P49x0 S r0 r1 r2 h) (tabN)
noncomputable def F49 (args : List Value) (h : Hp) : CRes := packVals [Kd.v, Kd.v, Kd.v] args fun al => rec' T49 1000000 0 al h
def nt49 : Nat := 3 + (39 - 3)
theorem q49x0 (S : Sg) (r0 : Value) (r1 : Value) (r2 : Value) (h : Hp) : P49x0 S r0 r1 r2 h = stepAt (regK env orc15 (nt49)) (finK env Try.f49.results.toList) (collect B49 A49 []) 0 S (AL.v r0 (AL.v r1 (AL.v r2 AL.n))) h := by kernel_rfl
theorem t49 (S : Sg) : Tab (fun l vs h => stepAt (regK env orc15 nt49) (finK env Try.f49.results.toList) (collect B49 A49 []) l S vs h) (T49 S) := by
  unfold T49
  refine Tab.cons 0 (fun vs0 h q e0 => ?_) ?_
  · obtain ⟨r0, vs1, rfl, e1⟩ := uV_some e0
    obtain ⟨r1, vs2, rfl, e2⟩ := uV_some e1
    obtain ⟨r2, vs3, rfl, e3⟩ := uV_some e2
    obtain ⟨rfl, ee⟩ := uN_some e3
    exact (q49x0 S r0 r1 r2 h).symm.trans ee
  exact Tab.nil
theorem r49 : ∀ args h v h', F49 args h = some (v, h') → Runs (C15) (.call 49 args.toArray h) (.ret v h') := by
  intro args h v h' e
  exact fun_sound (C := C15) (fn := Try.f49) (body := B49) (np := 3) (A := A49) (T := T49) (kinds := [Kd.v, Kd.v, Kd.v]) (by kernel_rfl) (by kernel_rfl) (by kernel_rfl) (by kernel_rfl) (regK_ok env_ok) (by kernel_rfl) (fun S => t49 S) e
noncomputable def orc16 := orcQ 49 F49 orc15
noncomputable def C16 : Cfg := cfg orc16
theorem ok16 : C16.Ok := orcQ_ok (C := C15) ok15 r49
noncomputable def B48 : Code := (Try.f48.body).getD .skip
def A48 : Ann := (Ann.node (some (0, [(0, Kd.v), (1, Kd.v), (2, Kd.v)])) bl (bn bl bl))
noncomputable def P48x0 (S : Sg) (r0 : Value) (r1 : Value) (r2 : Value) (h : Hp) : CRes :=
  allocK h 80 (Array.toList (Value.cells r1)) fun a0 h0 =>
  loadNK 7 h0 r2 fun v1 =>
  loadNK 4 h0 a0 fun v2 =>
  pairK (callQ F49 [v1, r0, v2] h0) fun v3 h3 =>
  intK .i64 v3 fun i4 =>
  some ((Value.int .i64 i4), h3)
noncomputable def T48 (S : Sg) : Sg := tabC 0 (uV fun r0 => uV fun r1 => uV fun r2 => uN fun h => P48x0 S r0 r1 r2 h) (tabN)
noncomputable def F48 (args : List Value) (h : Hp) : CRes := packVals [Kd.v, Kd.v, Kd.v] args fun al => rec' T48 1000000 0 al h
def nt48 : Nat := 3 + (10 - 3)
theorem q48x0 (S : Sg) (r0 : Value) (r1 : Value) (r2 : Value) (h : Hp) : P48x0 S r0 r1 r2 h = stepAt (regK env orc16 (nt48)) (finK env Try.f48.results.toList) (collect B48 A48 []) 0 S (AL.v r0 (AL.v r1 (AL.v r2 AL.n))) h := by kernel_rfl
theorem t48 (S : Sg) : Tab (fun l vs h => stepAt (regK env orc16 nt48) (finK env Try.f48.results.toList) (collect B48 A48 []) l S vs h) (T48 S) := by
  unfold T48
  refine Tab.cons 0 (fun vs0 h q e0 => ?_) ?_
  · obtain ⟨r0, vs1, rfl, e1⟩ := uV_some e0
    obtain ⟨r1, vs2, rfl, e2⟩ := uV_some e1
    obtain ⟨r2, vs3, rfl, e3⟩ := uV_some e2
    obtain ⟨rfl, ee⟩ := uN_some e3
    exact (q48x0 S r0 r1 r2 h).symm.trans ee
  exact Tab.nil
theorem r48 : ∀ args h v h', F48 args h = some (v, h') → Runs (C16) (.call 48 args.toArray h) (.ret v h') := by
  intro args h v h' e
  exact fun_sound (C := C16) (fn := Try.f48) (body := B48) (np := 3) (A := A48) (T := T48) (kinds := [Kd.v, Kd.v, Kd.v]) (by kernel_rfl) (by kernel_rfl) (by kernel_rfl) (by kernel_rfl) (regK_ok env_ok) (by kernel_rfl) (fun S => t48 S) e
noncomputable def orc17 := orcQ 48 F48 orc16
noncomputable def C17 : Cfg := cfg orc17
theorem ok17 : C17.Ok := orcQ_ok (C := C16) ok16 r48
noncomputable def B94 : Code := (Try.f94.body).getD .skip
noncomputable def A94 : G.Ann (List KI) := (G.Ann.node (some (0, [KI.reg 0 (Kd.v), KI.reg 1 (Kd.v)])) al (an al al))
noncomputable def P94x0 (h : Hp) (S : Nat → PAL → Option Value) (r0 : Value) (r1 : Value) : Option Value :=
  forceL (Array.toList (Value.cells r0)) fun c0 =>
  nthR c0 0 fun v1 =>
  ptrAddK 0 r1 fun v2 =>
  load1K h v2 fun v3 =>
  optK (binV env .eql 9 (Operand.tmp 5) (Operand.tmp 7) v1 v3) fun v4 =>
  boolK v4 fun b5 =>
  some (Value.bool b5)
noncomputable def T94 (h : Hp) (S : Nat → PAL → Option Value) : Nat → PAL → Option Value := tabPC 0 (wV fun r0 => wV fun r1 => wN (P94x0 h S r0 r1)) (tabPN)
noncomputable def F94 (args : List Value) (h : Hp) : Option Value := plainO (packArgs [Kd.v, Kd.v] args fun al => G.rec' (T94 h) 1000000 0 al)
def nt94 : Nat := 2 + (9 - 2)
theorem q94x0 (h : Hp) (S : Nat → PAL → Option Value) (r0 : Value) (r1 : Value) : P94x0 h S r0 r1 = G.stepAt packP unpackP evXV (regP env pf7 nt94 h) (finP env Try.f94.results.toList) (G.collect B94 A94 []) 0 S (PAL.v r0 (PAL.v r1 PAL.n)) := by kernel_rfl
theorem t94 (h : Hp) (S : Nat → PAL → Option Value) : TabP (fun l al => G.stepAt packP unpackP evXV (regP env pf7 nt94 h) (finP env Try.f94.results.toList) (G.collect B94 A94 []) l S al) (T94 h S) := by
  unfold T94
  refine TabP.cons 0 (fun vs0 q e0 => ?_) ?_
  · obtain ⟨r0, vs1, rfl, e1⟩ := wV_some e0
    obtain ⟨r1, vs2, rfl, e2⟩ := wV_some e1
    obtain ⟨rfl, ee⟩ := wN_some e2
    exact (q94x0 h S r0 r1).symm.trans ee
  exact TabP.nil
theorem r94 : PSound Try.prog 94 F94 := fun_soundP (C := C0) ok0 (pf := pf7) pfok7 (fn := Try.f94) (body := B94) (kinds := [Kd.v, Kd.v]) (A := A94) (T := T94) (by kernel_rfl) (by kernel_rfl) (by kernel_rfl) (by kernel_rfl) (fun h S => t94 h S)
noncomputable def pf8 : PF := pfC 94 F94 pf7
theorem pfok8 : PfSound Try.prog pf8 := pfC_ok r94 pfok7
noncomputable def orc18 := orcP 94 F94 orc17
noncomputable def C18 : Cfg := cfg orc18
theorem ok18 : C18.Ok := orcP_ok (C := C17) ok17 r94
noncomputable def B115 : Code := (Try.f115.body).getD .skip
def A115 : Ann := (Ann.node (some (0, [(0, Kd.v), (1, Kd.v)])) bl (bn (bn bl (bn (Ann.node (some (1, [(0, Kd.v), (1, Kd.v), (7, Kd.i .i64), (8, Kd.i .i64)])) (bn bl (bn (bn bl bl) (bn (bn (bn bl (bn bl (bn (bn bl bl) bl))) bl) bl))) bl) bl)) (Ann.node (some (2, [])) bl bl)))
noncomputable def P115x2 (S : Sg) (h : Hp) : CRes :=
  some ((Value.int .i64 (Int.negSucc 0)), h)
noncomputable def P115x1 (S : Sg) (r0 : Value) (r1 : Value) (r7 : Int) (r8 : Int) (h : Hp) : CRes :=
  boolZ (ltZ r8 r7) fun b0 =>
  ifB b0
  (idxSK 6 r0 r8 fun v1 =>
  loadNK 6 h v1 fun v2 =>
  pairK (callF orc18 r1 [v2] h) fun v3 h3 =>
  boolK v3 fun b4 =>
  ifB b4
  (some ((Value.int .i64 r8), h3))
  (wrap64 (Int.add r8 (Int.ofNat 1)) fun i5 =>
  S 1 (AL.v r0 (AL.v r1 (AL.i r7 (AL.i i5 AL.n)))) h3))
  (S 2 AL.n h)
noncomputable def P115x0 (S : Sg) (r0 : Value) (r1 : Value) (h : Hp) : CRes :=
  lenSK r0 fun i0 =>
  S 1 (AL.v r0 (AL.v r1 (AL.i i0 (AL.i (Int.ofNat 0) AL.n)))) h
noncomputable def T115 (S : Sg) : Sg := tabC 0 (uV fun r0 => uV fun r1 => uN fun h => P115x0 S r0 r1 h) (tabC 1 (uV fun r0 => uV fun r1 => uI fun r7 => uI fun r8 => uN fun h => P115x1 S r0 r1 r7 r8 h) (tabC 2 (uN fun h => P115x2 S  h) (tabN)))
noncomputable def F115 (args : List Value) (h : Hp) : CRes := packVals [Kd.v, Kd.v] args fun al => rec' T115 1000000 0 al h
def nt115 : Nat := 2 + (19 - 2)
theorem q115x2 (S : Sg) (h : Hp) : P115x2 S  h = stepAt (regK env orc18 (nt115)) (finK env Try.f115.results.toList) (collect B115 A115 []) 2 S AL.n h := by kernel_rfl
theorem q115x1 (S : Sg) (r0 : Value) (r1 : Value) (r7 : Int) (r8 : Int) (h : Hp) : P115x1 S r0 r1 r7 r8 h = stepAt (regK env orc18 (nt115)) (finK env Try.f115.results.toList) (collect B115 A115 []) 1 S (AL.v r0 (AL.v r1 (AL.i r7 (AL.i r8 AL.n)))) h := by kernel_rfl
theorem q115x0 (S : Sg) (r0 : Value) (r1 : Value) (h : Hp) : P115x0 S r0 r1 h = stepAt (regK env orc18 (nt115)) (finK env Try.f115.results.toList) (collect B115 A115 []) 0 S (AL.v r0 (AL.v r1 AL.n)) h := by kernel_rfl
theorem t115 (S : Sg) : Tab (fun l vs h => stepAt (regK env orc18 nt115) (finK env Try.f115.results.toList) (collect B115 A115 []) l S vs h) (T115 S) := by
  unfold T115
  refine Tab.cons 0 (fun vs0 h q e0 => ?_) ?_
  · obtain ⟨r0, vs1, rfl, e1⟩ := uV_some e0
    obtain ⟨r1, vs2, rfl, e2⟩ := uV_some e1
    obtain ⟨rfl, ee⟩ := uN_some e2
    exact (q115x0 S r0 r1 h).symm.trans ee
  refine Tab.cons 1 (fun vs0 h q e0 => ?_) ?_
  · obtain ⟨r0, vs1, rfl, e1⟩ := uV_some e0
    obtain ⟨r1, vs2, rfl, e2⟩ := uV_some e1
    obtain ⟨r7, vs3, rfl, e3⟩ := uI_some e2
    obtain ⟨r8, vs4, rfl, e4⟩ := uI_some e3
    obtain ⟨rfl, ee⟩ := uN_some e4
    exact (q115x1 S r0 r1 r7 r8 h).symm.trans ee
  refine Tab.cons 2 (fun vs0 h q e0 => ?_) ?_
  · 
    obtain ⟨rfl, ee⟩ := uN_some e0
    exact (q115x2 S  h).symm.trans ee
  exact Tab.nil
theorem r115 : ∀ args h v h', F115 args h = some (v, h') → Runs (C18) (.call 115 args.toArray h) (.ret v h') := by
  intro args h v h' e
  exact fun_sound (C := C18) (fn := Try.f115) (body := B115) (np := 2) (A := A115) (T := T115) (kinds := [Kd.v, Kd.v]) (by kernel_rfl) (by kernel_rfl) (by kernel_rfl) (by kernel_rfl) (regK_ok env_ok) (by kernel_rfl) (fun S => t115 S) e
noncomputable def orc19 := orcQ 115 F115 orc18
noncomputable def C19 : Cfg := cfg orc19
theorem ok19 : C19.Ok := orcQ_ok (C := C18) ok18 r115
noncomputable def B93 : Code := (Try.f93.body).getD .skip
def A93 : Ann := (Ann.node (some (0, [(0, Kd.v), (1, Kd.v)])) bl (bn bl bl))
noncomputable def P93x0 (S : Sg) (r0 : Value) (r1 : Value) (h : Hp) : CRes :=
  pairK (callQ F115 [r0, r1] h) fun v0 h0 =>
  intK .i64 v0 fun i1 =>
  boolN (ltZ i1 (Int.ofNat 0)) fun b2 =>
  some ((Value.bool b2), h0)
noncomputable def T93 (S : Sg) : Sg := tabC 0 (uV fun r0 => uV fun r1 => uN fun h => P93x0 S r0 r1 h) (tabN)
noncomputable def F93 (args : List Value) (h : Hp) : CRes := packVals [Kd.v, Kd.v] args fun al => rec' T93 1000000 0 al h
def nt93 : Nat := 2 + (9 - 2)
theorem q93x0 (S : Sg) (r0 : Value) (r1 : Value) (h : Hp) : P93x0 S r0 r1 h = stepAt (regK env orc19 (nt93)) (finK env Try.f93.results.toList) (collect B93 A93 []) 0 S (AL.v r0 (AL.v r1 AL.n)) h := by kernel_rfl
theorem t93 (S : Sg) : Tab (fun l vs h => stepAt (regK env orc19 nt93) (finK env Try.f93.results.toList) (collect B93 A93 []) l S vs h) (T93 S) := by
  unfold T93
  refine Tab.cons 0 (fun vs0 h q e0 => ?_) ?_
  · obtain ⟨r0, vs1, rfl, e1⟩ := uV_some e0
    obtain ⟨r1, vs2, rfl, e2⟩ := uV_some e1
    obtain ⟨rfl, ee⟩ := uN_some e2
    exact (q93x0 S r0 r1 h).symm.trans ee
  exact Tab.nil
theorem r93 : ∀ args h v h', F93 args h = some (v, h') → Runs (C19) (.call 93 args.toArray h) (.ret v h') := by
  intro args h v h' e
  exact fun_sound (C := C19) (fn := Try.f93) (body := B93) (np := 2) (A := A93) (T := T93) (kinds := [Kd.v, Kd.v]) (by kernel_rfl) (by kernel_rfl) (by kernel_rfl) (by kernel_rfl) (regK_ok env_ok) (by kernel_rfl) (fun S => t93 S) e
noncomputable def orc20 := orcQ 93 F93 orc19
noncomputable def C20 : Cfg := cfg orc20
theorem ok20 : C20.Ok := orcQ_ok (C := C19) ok19 r93
noncomputable def B95 : Code := (Try.f95.body).getD .skip
def A95 : Ann := (Ann.node (some (0, [(0, Kd.i .i64)])) bl (bn bl bl))
noncomputable def P95x0 (S : Sg) (r0 : Int) (h : Hp) : CRes :=
  pairK (buildSliceV env h 24 1 (List.toArray [(0, (Value.int .i64 r0))])) fun v0 h0 =>
  pairK (optK (F44 [(Value.int .i64 (Int.ofNat 0)), (Value.int .i64 (Int.ofNat 9)), v0] h0) fun v => some (v, h0)) fun v1 h1 =>
  boolK v1 fun b2 =>
  some ((Value.bool b2), h1)
noncomputable def T95 (S : Sg) : Sg := tabC 0 (uI fun r0 => uN fun h => P95x0 S r0 h) (tabN)
noncomputable def F95 (args : List Value) (h : Hp) : CRes := packVals [Kd.i .i64] args fun al => rec' T95 1000000 0 al h
def nt95 : Nat := 1 + (6 - 1)
theorem q95x0 (S : Sg) (r0 : Int) (h : Hp) : P95x0 S r0 h = stepAt (regK env orc20 (nt95)) (finK env Try.f95.results.toList) (collect B95 A95 []) 0 S (AL.i r0 AL.n) h := by kernel_rfl
theorem t95 (S : Sg) : Tab (fun l vs h => stepAt (regK env orc20 nt95) (finK env Try.f95.results.toList) (collect B95 A95 []) l S vs h) (T95 S) := by
  unfold T95
  refine Tab.cons 0 (fun vs0 h q e0 => ?_) ?_
  · obtain ⟨r0, vs1, rfl, e1⟩ := uI_some e0
    obtain ⟨rfl, ee⟩ := uN_some e1
    exact (q95x0 S r0 h).symm.trans ee
  exact Tab.nil
theorem r95 : ∀ args h v h', F95 args h = some (v, h') → Runs (C20) (.call 95 args.toArray h) (.ret v h') := by
  intro args h v h' e
  exact fun_sound (C := C20) (fn := Try.f95) (body := B95) (np := 1) (A := A95) (T := T95) (kinds := [Kd.i .i64]) (by kernel_rfl) (by kernel_rfl) (by kernel_rfl) (by kernel_rfl) (regK_ok env_ok) (by kernel_rfl) (fun S => t95 S) e
noncomputable def orc21 := orcQ 95 F95 orc20
noncomputable def C21 : Cfg := cfg orc21
theorem ok21 : C21.Ok := orcQ_ok (C := C20) ok20 r95
noncomputable def B51 : Code := (Try.f51.body).getD .skip
def A51 : Ann := (Ann.node (some (0, [(0, Kd.v), (1, Kd.v)])) bl (bn (bn (bn bl (bn (bn bl bl) (bn bl (bn (bn bl bl) (bn (bn bl (bn bl (bn bl (bn bl (bn bl (bn bl bl)))))) (Ann.node (some (1, [(3, Kd.v), (14, Kd.b)])) (bn bl bl) (bn bl (bn (bn bl bl) bl)))))))) bl) (Ann.node (some (2, [])) bl bl)))
noncomputable def P51x2 (S : Sg) (h : Hp) : CRes :=
  some ((Value.int .i64 (Int.ofNat 0)), h)
noncomputable def P51x1 (S : Sg) (r3 : Value) (r14 : Bool) (h : Hp) : CRes :=
  ifB r14
  (some ((Value.int .i64 (Int.ofNat 7)), h))
  (ptrAddK 3 r3 fun v0 =>
  load1K h v0 fun v1 =>
  intK .i64 v1 fun i2 =>
  ptrAddK 4 r3 fun v3 =>
  load1K h v3 fun v4 =>
  intK .i64 v4 fun i5 =>
  boolZ (ltZ i5 i2) fun b6 =>
  ifB b6
  (some ((Value.int .i64 (Int.ofNat 2)), h))
  (S 2 AL.n h))
noncomputable def P51x0 (S : Sg) (r0 : Value) (r1 : Value) (h : Hp) : CRes :=
  allocK h 56 (Array.toList (Value.cells r1)) fun a0 h0 =>
  ptrAddK 0 a0 fun v1 =>
  load1K h0 v1 fun v2 =>
  pairK (callQ F89 [v2] h0) fun v3 h3 =>
  boolK v3 fun b4 =>
  boolN b4 fun b5 =>
  ifB b5
  (some ((Value.int .i64 (Int.ofNat 6)), h3))
  (pairK (callQ F93 [r0, (Value.func (.func 94) (List.toArray []) (List.toArray [a0]))] h3) fun v6 h6 =>
  boolK v6 fun b7 =>
  ifB b7
  (some ((Value.int .i64 (Int.ofNat 5)), h6))
  (ptrAddK 1 a0 fun v8 =>
  load1K h6 v8 fun v9 =>
  intK .i64 v9 fun i10 =>
  pairK (callQ F95 [(Value.int .i64 i10)] h6) fun v11 h11 =>
  boolK v11 fun b12 =>
  boolN b12 fun b13 =>
  ifB b13
  (S 1 (AL.v a0 (AL.b b13 AL.n)) h11)
  (ptrAddK 2 a0 fun v14 =>
  load1K h11 v14 fun v15 =>
  intK .i64 v15 fun i16 =>
  pairK (buildSliceV env h11 24 1 (List.toArray [(0, (Value.int .i64 i16))])) fun v17 h17 =>
  pairK (optK (F44 [(Value.int .i64 (Int.ofNat 1)), (Value.int .i64 (Int.ofNat 500)), v17] h17) fun v => some (v, h17)) fun v18 h18 =>
  boolK v18 fun b19 =>
  boolN b19 fun b20 =>
  ifB b20
  (S 1 (AL.v a0 (AL.b b20 AL.n)) h18)
  (ptrAddK 3 a0 fun v21 =>
  load1K h18 v21 fun v22 =>
  intK .i64 v22 fun i23 =>
  ptrAddK 4 a0 fun v24 =>
  load1K h18 v24 fun v25 =>
  intK .i64 v25 fun i26 =>
  pairK (buildSliceV env h18 24 2 (List.toArray [(0, (Value.int .i64 i23)), (1, (Value.int .i64 i26))])) fun v27 h27 =>
  pairK (optK (F44 [(Value.int .i64 (Int.negSucc 99)), (Value.int .i64 (Int.ofNat 100)), v27] h27) fun v => some (v, h27)) fun v28 h28 =>
  boolK v28 fun b29 =>
  boolN b29 fun b30 =>
  ifB b30
  (S 1 (AL.v a0 (AL.b b30 AL.n)) h28)
  (ptrAddK 5 a0 fun v31 =>
  load1K h28 v31 fun v32 =>
  intK .i64 v32 fun i33 =>
  pairK (buildSliceV env h28 24 1 (List.toArray [(0, (Value.int .i64 i33))])) fun v34 h34 =>
  pairK (optK (F44 [(Value.int .i64 (Int.ofNat 0)), (Value.int .i64 (Int.ofNat 100)), v34] h34) fun v => some (v, h34)) fun v35 h35 =>
  boolK v35 fun b36 =>
  boolN b36 fun b37 =>
  S 1 (AL.v a0 (AL.b b37 AL.n)) h35)))))
noncomputable def T51 (S : Sg) : Sg := tabC 0 (uV fun r0 => uV fun r1 => uN fun h => P51x0 S r0 r1 h) (tabC 1 (uV fun r3 => uB fun r14 => uN fun h => P51x1 S r3 r14 h) (tabC 2 (uN fun h => P51x2 S  h) (tabN)))
noncomputable def F51 (args : List Value) (h : Hp) : CRes := packVals [Kd.v, Kd.v] args fun al => rec' T51 1000000 0 al h
def nt51 : Nat := 2 + (42 - 2)
theorem q51x2 (S : Sg) (h : Hp) : P51x2 S  h = stepAt (regK env orc21 (nt51)) (finK env Try.f51.results.toList) (collect B51 A51 []) 2 S AL.n h := by kernel_rfl
theorem q51x1 (S : Sg) (r3 : Value) (r14 : Bool) (h : Hp) : P51x1 S r3 r14 h = stepAt (regK env orc21 (nt51)) (finK env Try.f51.results.toList) (collect B51 A51 []) 1 S (AL.v r3 (AL.b r14 AL.n)) h := by kernel_rfl
theorem q51x0 (S : Sg) (r0 : Value) (r1 : Value) (h : Hp) : P51x0 S r0 r1 h = stepAt (regK env orc21 (nt51)) (finK env Try.f51.results.toList) (collect B51 A51 []) 0 S (AL.v r0 (AL.v r1 AL.n)) h := by kernel_rfl
theorem t51 (S : Sg) : Tab (fun l vs h => stepAt (regK env orc21 nt51) (finK env Try.f51.results.toList) (collect B51 A51 []) l S vs h) (T51 S) := by
  unfold T51
  refine Tab.cons 0 (fun vs0 h q e0 => ?_) ?_
  · obtain ⟨r0, vs1, rfl, e1⟩ := uV_some e0
    obtain ⟨r1, vs2, rfl, e2⟩ := uV_some e1
    obtain ⟨rfl, ee⟩ := uN_some e2
    exact (q51x0 S r0 r1 h).symm.trans ee
  refine Tab.cons 1 (fun vs0 h q e0 => ?_) ?_
  · obtain ⟨r3, vs1, rfl, e1⟩ := uV_some e0
    obtain ⟨r14, vs2, rfl, e2⟩ := uB_some e1
    obtain ⟨rfl, ee⟩ := uN_some e2
    exact (q51x1 S r3 r14 h).symm.trans ee
  refine Tab.cons 2 (fun vs0 h q e0 => ?_) ?_
  · 
    obtain ⟨rfl, ee⟩ := uN_some e0
    exact (q51x2 S  h).symm.trans ee
  exact Tab.nil
theorem r51 : ∀ args h v h', F51 args h = some (v, h') → Runs (C21) (.call 51 args.toArray h) (.ret v h') := by
  intro args h v h' e
  exact fun_sound (C := C21) (fn := Try.f51) (body := B51) (np := 2) (A := A51) (T := T51) (kinds := [Kd.v, Kd.v]) (by kernel_rfl) (by kernel_rfl) (by kernel_rfl) (by kernel_rfl) (regK_ok env_ok) (by kernel_rfl) (fun S => t51 S) e
noncomputable def orc22 := orcQ 51 F51 orc21
noncomputable def C22 : Cfg := cfg orc22
theorem ok22 : C22.Ok := orcQ_ok (C := C21) ok21 r51
noncomputable def B52 : Code := (Try.f52.body).getD .skip
def A52 : Ann := (Ann.node (some (0, [(0, Kd.v), (1, Kd.i .i64)])) bl (bn (bn bl (bn (bn bl bl) bl)) (bn bl bl)))
noncomputable def P52x0 (S : Sg) (r0 : Value) (r1 : Int) (h : Hp) : CRes :=
  pairK (callQ F95 [(Value.int .i64 r1)] h) fun v0 h0 =>
  boolK v0 fun b1 =>
  boolN b1 fun b2 =>
  ifB b2
  (some ((Value.int .i64 (Int.ofNat 7)), h0))
  (some ((Value.int .i64 (Int.ofNat 0)), h0))
noncomputable def T52 (S : Sg) : Sg := tabC 0 (uV fun r0 => uI fun r1 => uN fun h => P52x0 S r0 r1 h) (tabN)
noncomputable def F52 (args : List Value) (h : Hp) : CRes := packVals [Kd.v, Kd.i .i64] args fun al => rec' T52 1000000 0 al h
def nt52 : Nat := 2 + (8 - 2)
theorem q52x0 (S : Sg) (r0 : Value) (r1 : Int) (h : Hp) : P52x0 S r0 r1 h = stepAt (regK env orc22 (nt52)) (finK env Try.f52.results.toList) (collect B52 A52 []) 0 S (AL.v r0 (AL.i r1 AL.n)) h := by kernel_rfl
theorem t52 (S : Sg) : Tab (fun l vs h => stepAt (regK env orc22 nt52) (finK env Try.f52.results.toList) (collect B52 A52 []) l S vs h) (T52 S) := by
  unfold T52
  refine Tab.cons 0 (fun vs0 h q e0 => ?_) ?_
  · obtain ⟨r0, vs1, rfl, e1⟩ := uV_some e0
    obtain ⟨r1, vs2, rfl, e2⟩ := uI_some e1
    obtain ⟨rfl, ee⟩ := uN_some e2
    exact (q52x0 S r0 r1 h).symm.trans ee
  exact Tab.nil
theorem r52 : ∀ args h v h', F52 args h = some (v, h') → Runs (C22) (.call 52 args.toArray h) (.ret v h') := by
  intro args h v h' e
  exact fun_sound (C := C22) (fn := Try.f52) (body := B52) (np := 2) (A := A52) (T := T52) (kinds := [Kd.v, Kd.i .i64]) (by kernel_rfl) (by kernel_rfl) (by kernel_rfl) (by kernel_rfl) (regK_ok env_ok) (by kernel_rfl) (fun S => t52 S) e
noncomputable def orc23 := orcQ 52 F52 orc22
noncomputable def C23 : Cfg := cfg orc23
theorem ok23 : C23.Ok := orcQ_ok (C := C22) ok22 r52
noncomputable def B87 : Code := (Try.f87.body).getD .skip
def A87 : Ann := (Ann.node (some (0, [(0, Kd.v), (1, Kd.v)])) bl (bn (bn bl (bn (Ann.node (some (1, [(0, Kd.v), (1, Kd.v), (9, Kd.v), (10, Kd.i .i64), (11, Kd.i .i64)])) (bn bl (bn (bn bl bl) (bn (bn (bn bl (bn bl (bn bl (bn (bn bl bl) bl)))) bl) bl))) bl) bl)) (Ann.node (some (2, [])) bl bl)))
noncomputable def P87x2 (S : Sg) (h : Hp) : CRes :=
  some (Value.tuple (List.toArray [(Value.int .i64 (Int.ofNat 0)), (Value.int .i64 (Int.ofNat 0))]), h)
noncomputable def P87x1 (S : Sg) (r0 : Value) (r1 : Value) (r9 : Value) (r10 : Int) (r11 : Int) (h : Hp) : CRes :=
  boolZ (ltZ r11 r10) fun b0 =>
  ifB b0
  (idxSK 1 r9 r11 fun v1 =>
  load1K h v1 fun v2 =>
  intK .i64 v2 fun i3 =>
  optK (sliceV env h 24 r0 none (some (Value.int .i64 r11)) none) fun v4 =>
  pairK (callF orc23 r1 [v4, (Value.int .i64 i3)] h) fun v5 h5 =>
  intK .i64 v5 fun i6 =>
  boolN (eqZ i6 (Int.ofNat 0)) fun b7 =>
  ifB b7
  (some (Value.tuple (List.toArray [(Value.int .i64 r11), (Value.int .i64 i6)]), h5))
  (wrap64 (Int.add r11 (Int.ofNat 1)) fun i8 =>
  S 1 (AL.v r0 (AL.v r1 (AL.v r9 (AL.i r10 (AL.i i8 AL.n))))) h5))
  (S 2 AL.n h)
noncomputable def P87x0 (S : Sg) (r0 : Value) (r1 : Value) (h : Hp) : CRes :=
  lenSK r0 fun i0 =>
  S 1 (AL.v r0 (AL.v r1 (AL.v r0 (AL.i i0 (AL.i (Int.ofNat 0) AL.n))))) h
noncomputable def T87 (S : Sg) : Sg := tabC 0 (uV fun r0 => uV fun r1 => uN fun h => P87x0 S r0 r1 h) (tabC 1 (uV fun r0 => uV fun r1 => uV fun r9 => uI fun r10 => uI fun r11 => uN fun h => P87x1 S r0 r1 r9 r10 r11 h) (tabC 2 (uN fun h => P87x2 S  h) (tabN)))
noncomputable def F87 (args : List Value) (h : Hp) : CRes := packVals [Kd.v, Kd.v] args fun al => rec' T87 1000000 0 al h
def nt87 : Nat := 2 + (27 - 2)
theorem q87x2 (S : Sg) (h : Hp) : P87x2 S  h = stepAt (regK env orc23 (nt87)) (finK env Try.f87.results.toList) (collect B87 A87 []) 2 S AL.n h := by kernel_rfl
theorem q87x1 (S : Sg) (r0 : Value) (r1 : Value) (r9 : Value) (r10 : Int) (r11 : Int) (h : Hp) : P87x1 S r0 r1 r9 r10 r11 h = stepAt (regK env orc23 (nt87)) (finK env Try.f87.results.toList) (collect B87 A87 []) 1 S (AL.v r0 (AL.v r1 (AL.v r9 (AL.i r10 (AL.i r11 AL.n))))) h := by kernel_rfl
theorem q87x0 (S : Sg) (r0 : Value) (r1 : Value) (h : Hp) : P87x0 S r0 r1 h = stepAt (regK env orc23 (nt87)) (finK env Try.f87.results.toList) (collect B87 A87 []) 0 S (AL.v r0 (AL.v r1 AL.n)) h := by kernel_rfl
theorem t87 (S : Sg) : Tab (fun l vs h => stepAt (regK env orc23 nt87) (finK env Try.f87.results.toList) (collect B87 A87 []) l S vs h) (T87 S) := by
  unfold T87
  refine Tab.cons 0 (fun vs0 h q e0 => ?_) ?_
  · obtain ⟨r0, vs1, rfl, e1⟩ := uV_some e0
    obtain ⟨r1, vs2, rfl, e2⟩ := uV_some e1
    obtain ⟨rfl, ee⟩ := uN_some e2
    exact (q87x0 S r0 r1 h).symm.trans ee
  refine Tab.cons 1 (fun vs0 h q e0 => ?_) ?_
  · obtain ⟨r0, vs1, rfl, e1⟩ := uV_some e0
    obtain ⟨r1, vs2, rfl, e2⟩ := uV_some e1
    obtain ⟨r9, vs3, rfl, e3⟩ := uV_some e2
    obtain ⟨r10, vs4, rfl, e4⟩ := uI_some e3
    obtain ⟨r11, vs5, rfl, e5⟩ := uI_some e4
    obtain ⟨rfl, ee⟩ := uN_some e5
    exact (q87x1 S r0 r1 r9 r10 r11 h).symm.trans ee
  refine Tab.cons 2 (fun vs0 h q e0 => ?_) ?_
  · 
    obtain ⟨rfl, ee⟩ := uN_some e0
    exact (q87x2 S  h).symm.trans ee
  exact Tab.nil
theorem r87 : ∀ args h v h', F87 args h = some (v, h') → Runs (C23) (.call 87 args.toArray h) (.ret v h') := by
  intro args h v h' e
  exact fun_sound (C := C23) (fn := Try.f87) (body := B87) (np := 2) (A := A87) (T := T87) (kinds := [Kd.v, Kd.v]) (by kernel_rfl) (by kernel_rfl) (by kernel_rfl) (by kernel_rfl) (regK_ok env_ok) (by kernel_rfl) (fun S => t87 S) e
noncomputable def orc24 := orcQ 87 F87 orc23
noncomputable def C24 : Cfg := cfg orc24
theorem ok24 : C24.Ok := orcQ_ok (C := C23) ok23 r87
noncomputable def B45 : Code := (Try.f45.body).getD .skip
def A45 : Ann := (Ann.node (some (0, [(0, Kd.v), (1, Kd.i .i64), (2, Kd.v)])) bl (bn (bn bl (bn (bn bl bl) bl)) (bn bl bl)))
noncomputable def P45x0 (S : Sg) (r0 : Value) (r1 : Int) (r2 : Value) (h : Hp) : CRes :=
  lenSK r0 fun i0 =>
  boolZ (ltZ r1 i0) fun b1 =>
  ifB b1
  (some (Value.tuple (List.toArray [(Value.int .i64 (Int.ofNat 0)), (Value.int .i64 (Int.ofNat 3))]), h))
  (pairK (callQ F87 [r0, r2] h) fun v2 h2 =>
  extK v2 0 fun v3 =>
  intK .i64 v3 fun i4 =>
  extK v2 1 fun v5 =>
  intK .i64 v5 fun i6 =>
  some (Value.tuple (List.toArray [(Value.int .i64 i4), (Value.int .i64 i6)]), h2))
noncomputable def T45 (S : Sg) : Sg := tabC 0 (uV fun r0 => uI fun r1 => uV fun r2 => uN fun h => P45x0 S r0 r1 r2 h) (tabN)
noncomputable def F45 (args : List Value) (h : Hp) : CRes := packVals [Kd.v, Kd.i .i64, Kd.v] args fun al => rec' T45 1000000 0 al h
def nt45 : Nat := 3 + (17 - 3)
theorem q45x0 (S : Sg) (r0 : Value) (r1 : Int) (r2 : Value) (h : Hp) : P45x0 S r0 r1 r2 h = stepAt (regK env orc24 (nt45)) (finK env Try.f45.results.toList) (collect B45 A45 []) 0 S (AL.v r0 (AL.i r1 (AL.v r2 AL.n))) h := by kernel_rfl
theorem t45 (S : Sg) : Tab (fun l vs h => stepAt (regK env orc24 nt45) (finK env Try.f45.results.toList) (collect B45 A45 []) l S vs h) (T45 S) := by
  unfold T45
  refine Tab.cons 0 (fun vs0 h q e0 => ?_) ?_
  · obtain ⟨r0, vs1, rfl, e1⟩ := uV_some e0
    obtain ⟨r1, vs2, rfl, e2⟩ := uI_some e1
    obtain ⟨r2, vs3, rfl, e3⟩ := uV_some e2
    obtain ⟨rfl, ee⟩ := uN_some e3
    exact (q45x0 S r0 r1 r2 h).symm.trans ee
  exact Tab.nil
theorem r45 : ∀ args h v h', F45 args h = some (v, h') → Runs (C24) (.call 45 args.toArray h) (.ret v h') := by
  intro args h v h' e
  exact fun_sound (C := C24) (fn := Try.f45) (body := B45) (np := 3) (A := A45) (T := T45) (kinds := [Kd.v, Kd.i .i64, Kd.v]) (by kernel_rfl) (by kernel_rfl) (by kernel_rfl) (by kernel_rfl) (regK_ok env_ok) (by kernel_rfl) (fun S => t45 S) e
noncomputable def orc25 := orcQ 45 F45 orc24
noncomputable def C25 : Cfg := cfg orc25
theorem ok25 : C25.Ok := orcQ_ok (C := C24) ok24 r45
noncomputable def B88 : Code := (Try.f88.body).getD .skip
def A88 : Ann := (Ann.node (some (0, [(0, Kd.v), (1, Kd.v)])) bl (bn (bn bl (bn (Ann.node (some (1, [(0, Kd.v), (1, Kd.v), (9, Kd.v), (10, Kd.i .i64), (11, Kd.i .i64)])) (bn bl (bn (bn bl bl) (bn (bn (bn bl (bn bl (bn bl (bn (bn bl bl) bl)))) bl) bl))) bl) bl)) (Ann.node (some (2, [])) bl bl)))
noncomputable def P88x2 (S : Sg) (h : Hp) : CRes :=
  some (Value.tuple (List.toArray [(Value.int .i64 (Int.ofNat 0)), (Value.int .i64 (Int.ofNat 0))]), h)
noncomputable def P88x1 (S : Sg) (r0 : Value) (r1 : Value) (r9 : Value) (r10 : Int) (r11 : Int) (h : Hp) : CRes :=
  boolZ (ltZ r11 r10) fun b0 =>
  ifB b0
  (idxSK 4 r9 r11 fun v1 =>
  loadNK 4 h v1 fun v2 =>
  allocK h 80 [(Value.string (ByteArray.mk #[])), (Value.bool false), (Value.slice none 0 0), (Value.int .i64 (Int.ofNat 0))] fun a3 h3 =>
  storeNK 4 h3 a3 v2 fun h4 =>
  optK (sliceV env h4 25 r0 none (some (Value.int .i64 r11)) none) fun v5 =>
  loadNK 4 h4 a3 fun v6 =>
  pairK (callF orc25 r1 [v5, v6] h4) fun v7 h7 =>
  intK .i64 v7 fun i8 =>
  boolN (eqZ i8 (Int.ofNat 0)) fun b9 =>
  ifB b9
  (some (Value.tuple (List.toArray [(Value.int .i64 r11), (Value.int .i64 i8)]), h7))
  (wrap64 (Int.add r11 (Int.ofNat 1)) fun i10 =>
  S 1 (AL.v r0 (AL.v r1 (AL.v r9 (AL.i r10 (AL.i i10 AL.n))))) h7))
  (S 2 AL.n h)
noncomputable def P88x0 (S : Sg) (r0 : Value) (r1 : Value) (h : Hp) : CRes :=
  lenSK r0 fun i0 =>
  S 1 (AL.v r0 (AL.v r1 (AL.v r0 (AL.i i0 (AL.i (Int.ofNat 0) AL.n))))) h
noncomputable def T88 (S : Sg) : Sg := tabC 0 (uV fun r0 => uV fun r1 => uN fun h => P88x0 S r0 r1 h) (tabC 1 (uV fun r0 => uV fun r1 => uV fun r9 => uI fun r10 => uI fun r11 => uN fun h => P88x1 S r0 r1 r9 r10 r11 h) (tabC 2 (uN fun h => P88x2 S  h) (tabN)))
noncomputable def F88 (args : List Value) (h : Hp) : CRes := packVals [Kd.v, Kd.v] args fun al => rec' T88 1000000 0 al h
def nt88 : Nat := 2 + (27 - 2)
theorem q88x2 (S : Sg) (h : Hp) : P88x2 S  h = stepAt (regK env orc25 (nt88)) (finK env Try.f88.results.toList) (collect B88 A88 []) 2 S AL.n h := by kernel_rfl
theorem q88x1 (S : Sg) (r0 : Value) (r1 : Value) (r9 : Value) (r10 : Int) (r11 : Int) (h : Hp) : P88x1 S r0 r1 r9 r10 r11 h = stepAt (regK env orc25 (nt88)) (finK env Try.f88.results.toList) (collect B88 A88 []) 1 S (AL.v r0 (AL.v r1 (AL.v r9 (AL.i r10 (AL.i r11 AL.n))))) h := by kernel_rfl
theorem q88x0 (S : Sg) (r0 : Value) (r1 : Value) (h : Hp) : P88x0 S r0 r1 h = stepAt (regK env orc25 (nt88)) (finK env Try.f88.results.toList) (collect B88 A88 []) 0 S (AL.v r0 (AL.v r1 AL.n)) h := by kernel_rfl
theorem t88 (S : Sg) : Tab (fun l vs h => stepAt (regK env orc25 nt88) (finK env Try.f88.results.toList) (collect B88 A88 []) l S vs h) (T88 S) := by
  unfold T88
  refine Tab.cons 0 (fun vs0 h q e0 => ?_) ?_
  · obtain ⟨r0, vs1, rfl, e1⟩ := uV_some e0
    obtain ⟨r1, vs2, rfl, e2⟩ := uV_some e1
    obtain ⟨rfl, ee⟩ := uN_some e2
    exact (q88x0 S r0 r1 h).symm.trans ee
  refine Tab.cons 1 (fun vs0 h q e0 => ?_) ?_
  · obtain ⟨r0, vs1, rfl, e1⟩ := uV_some e0
    obtain ⟨r1, vs2, rfl, e2⟩ := uV_some e1
    obtain ⟨r9, vs3, rfl, e3⟩ := uV_some e2
    obtain ⟨r10, vs4, rfl, e4⟩ := uI_some e3
    obtain ⟨r11, vs5, rfl, e5⟩ := uI_some e4
    obtain ⟨rfl, ee⟩ := uN_some e5
    exact (q88x1 S r0 r1 r9 r10 r11 h).symm.trans ee
  refine Tab.cons 2 (fun vs0 h q e0 => ?_) ?_
  · 
    obtain ⟨rfl, ee⟩ := uN_some e0
    exact (q88x2 S  h).symm.trans ee
  exact Tab.nil
theorem r88 : ∀ args h v h', F88 args h = some (v, h') → Runs (C25) (.call 88 args.toArray h) (.ret v h') := by
  intro args h v h' e
  exact fun_sound (C := C25) (fn := Try.f88) (body := B88) (np := 2) (A := A88) (T := T88) (kinds := [Kd.v, Kd.v]) (by kernel_rfl) (by kernel_rfl) (by kernel_rfl) (by kernel_rfl) (regK_ok env_ok) (by kernel_rfl) (fun S => t88 S) e
noncomputable def orc26 := orcQ 88 F88 orc25
noncomputable def C26 : Cfg := cfg orc26
theorem ok26 : C26.Ok := orcQ_ok (C := C25) ok25 r88
noncomputable def B47 : Code := (Try.f47.body).getD .skip
def A47 : Ann := (Ann.node (some (0, [(0, Kd.v), (1, Kd.i .i64), (2, Kd.v)])) bl (bn (bn bl (bn (bn bl bl) bl)) (bn bl bl)))
noncomputable def P47x0 (S : Sg) (r0 : Value) (r1 : Int) (r2 : Value) (h : Hp) : CRes :=
  lenSK r0 fun i0 =>
  boolZ (ltZ r1 i0) fun b1 =>
  ifB b1
  (some (Value.tuple (List.toArray [(Value.int .i64 (Int.ofNat 0)), (Value.int .i64 (Int.ofNat 3))]), h))
  (pairK (callQ F88 [r0, r2] h) fun v2 h2 =>
  extK v2 0 fun v3 =>
  intK .i64 v3 fun i4 =>
  extK v2 1 fun v5 =>
  intK .i64 v5 fun i6 =>
  some (Value.tuple (List.toArray [(Value.int .i64 i4), (Value.int .i64 i6)]), h2))
noncomputable def T47 (S : Sg) : Sg := tabC 0 (uV fun r0 => uI fun r1 => uV fun r2 => uN fun h => P47x0 S r0 r1 r2 h) (tabN)
noncomputable def F47 (args : List Value) (h : Hp) : CRes := packVals [Kd.v, Kd.i .i64, Kd.v] args fun al => rec' T47 1000000 0 al h
def nt47 : Nat := 3 + (17 - 3)
theorem q47x0 (S : Sg) (r0 : Value) (r1 : Int) (r2 : Value) (h : Hp) : P47x0 S r0 r1 r2 h = stepAt (regK env orc26 (nt47)) (finK env Try.f47.results.toList) (collect B47 A47 []) 0 S (AL.v r0 (AL.i r1 (AL.v r2 AL.n))) h := by kernel_rfl
theorem t47 (S : Sg) : Tab (fun l vs h => stepAt (regK env orc26 nt47) (finK env Try.f47.results.toList) (collect B47 A47 []) l S vs h) (T47 S) := by
  unfold T47
  refine Tab.cons 0 (fun vs0 h q e0 => ?_) ?_
  · obtain ⟨r0, vs1, rfl, e1⟩ := uV_some e0
    obtain ⟨r1, vs2, rfl, e2⟩ := uI_some e1
    obtain ⟨r2, vs3, rfl, e3⟩ := uV_some e2
    obtain ⟨rfl, ee⟩ := uN_some e3
    exact (q47x0 S r0 r1 r2 h).symm.trans ee
  exact Tab.nil
theorem r47 : ∀ args h v h', F47 args h = some (v, h') → Runs (C26) (.call 47 args.toArray h) (.ret v h') := by
  intro args h v h' e
  exact fun_sound (C := C26) (fn := Try.f47) (body := B47) (np := 3) (A := A47) (T := T47) (kinds := [Kd.v, Kd.i .i64, Kd.v]) (by kernel_rfl) (by kernel_rfl) (by kernel_rfl) (by kernel_rfl) (regK_ok env_ok) (by kernel_rfl) (fun S => t47 S) e
noncomputable def orc27 := orcQ 47 F47 orc26
noncomputable def C27 : Cfg := cfg orc27
theorem ok27 : C27.Ok := orcQ_ok (C := C26) ok26 r47
noncomputable def B92 : Code := (Try.f92.body).getD .skip
def A92 : Ann := (Ann.node (some (0, [(0, Kd.v), (1, Kd.v)])) bl (bn (bn bl (bn (Ann.node (some (1, [(0, Kd.v), (1, Kd.v), (9, Kd.v), (10, Kd.i .i64), (11, Kd.i .i64)])) (bn bl (bn (bn bl bl) (bn (bn (bn bl (bn bl (bn bl (bn (bn bl bl) bl)))) bl) bl))) bl) bl)) (Ann.node (some (2, [])) bl bl)))
noncomputable def P92x2 (S : Sg) (h : Hp) : CRes :=
  some (Value.tuple (List.toArray [(Value.int .i64 (Int.ofNat 0)), (Value.int .i64 (Int.ofNat 0))]), h)
noncomputable def P92x1 (S : Sg) (r0 : Value) (r1 : Value) (r9 : Value) (r10 : Int) (r11 : Int) (h : Hp) : CRes :=
  boolZ (ltZ r11 r10) fun b0 =>
  ifB b0
  (idxSK 6 r9 r11 fun v1 =>
  loadNK 6 h v1 fun v2 =>
  allocK h 56 [(Value.string (ByteArray.mk #[])), (Value.int .i64 (Int.ofNat 0)), (Value.int .i64 (Int.ofNat 0)), (Value.int .i64 (Int.ofNat 0)), (Value.int .i64 (Int.ofNat 0)), (Value.int .i64 (Int.ofNat 0))] fun a3 h3 =>
  storeNK 6 h3 a3 v2 fun h4 =>
  optK (sliceV env h4 26 r0 none (some (Value.int .i64 r11)) none) fun v5 =>
  loadNK 6 h4 a3 fun v6 =>
  pairK (callF orc27 r1 [v5, v6] h4) fun v7 h7 =>
  intK .i64 v7 fun i8 =>
  boolN (eqZ i8 (Int.ofNat 0)) fun b9 =>
  ifB b9
  (some (Value.tuple (List.toArray [(Value.int .i64 r11), (Value.int .i64 i8)]), h7))
  (wrap64 (Int.add r11 (Int.ofNat 1)) fun i10 =>
  S 1 (AL.v r0 (AL.v r1 (AL.v r9 (AL.i r10 (AL.i i10 AL.n))))) h7))
  (S 2 AL.n h)
noncomputable def P92x0 (S : Sg) (r0 : Value) (r1 : Value) (h : Hp) : CRes :=
  lenSK r0 fun i0 =>
  S 1 (AL.v r0 (AL.v r1 (AL.v r0 (AL.i i0 (AL.i (Int.ofNat 0) AL.n))))) h
noncomputable def T92 (S : Sg) : Sg := tabC 0 (uV fun r0 => uV fun r1 => uN fun h => P92x0 S r0 r1 h) (tabC 1 (uV fun r0 => uV fun r1 => uV fun r9 => uI fun r10 => uI fun r11 => uN fun h => P92x1 S r0 r1 r9 r10 r11 h) (tabC 2 (uN fun h => P92x2 S  h) (tabN)))
noncomputable def F92 (args : List Value) (h : Hp) : CRes := packVals [Kd.v, Kd.v] args fun al => rec' T92 1000000 0 al h
def nt92 : Nat := 2 + (27 - 2)
theorem q92x2 (S : Sg) (h : Hp) : P92x2 S  h = stepAt (regK env orc27 (nt92)) (finK env Try.f92.results.toList) (collect B92 A92 []) 2 S AL.n h := by kernel_rfl
theorem q92x1 (S : Sg) (r0 : Value) (r1 : Value) (r9 : Value) (r10 : Int) (r11 : Int) (h : Hp) : P92x1 S r0 r1 r9 r10 r11 h = stepAt (regK env orc27 (nt92)) (finK env Try.f92.results.toList) (collect B92 A92 []) 1 S (AL.v r0 (AL.v r1 (AL.v r9 (AL.i r10 (AL.i r11 AL.n))))) h := by kernel_rfl
theorem q92x0 (S : Sg) (r0 : Value) (r1 : Value) (h : Hp) : P92x0 S r0 r1 h = stepAt (regK env orc27 (nt92)) (finK env Try.f92.results.toList) (collect B92 A92 []) 0 S (AL.v r0 (AL.v r1 AL.n)) h := by kernel_rfl
theorem t92 (S : Sg) : Tab (fun l vs h => stepAt (regK env orc27 nt92) (finK env Try.f92.results.toList) (collect B92 A92 []) l S vs h) (T92 S) := by
  unfold T92
  refine Tab.cons 0 (fun vs0 h q e0 => ?_) ?_
  · obtain ⟨r0, vs1, rfl, e1⟩ := uV_some e0
    obtain ⟨r1, vs2, rfl, e2⟩ := uV_some e1
    obtain ⟨rfl, ee⟩ := uN_some e2
    exact (q92x0 S r0 r1 h).symm.trans ee
  refine Tab.cons 1 (fun vs0 h q e0 => ?_) ?_
  · obtain ⟨r0, vs1, rfl, e1⟩ := uV_some e0
    obtain ⟨r1, vs2, rfl, e2⟩ := uV_some e1
    obtain ⟨r9, vs3, rfl, e3⟩ := uV_some e2
    obtain ⟨r10, vs4, rfl, e4⟩ := uI_some e3
    obtain ⟨r11, vs5, rfl, e5⟩ := uI_some e4
    obtain ⟨rfl, ee⟩ := uN_some e5
    exact (q92x1 S r0 r1 r9 r10 r11 h).symm.trans ee
  refine Tab.cons 2 (fun vs0 h q e0 => ?_) ?_
  · 
    obtain ⟨rfl, ee⟩ := uN_some e0
    exact (q92x2 S  h).symm.trans ee
  exact Tab.nil
theorem r92 : ∀ args h v h', F92 args h = some (v, h') → Runs (C27) (.call 92 args.toArray h) (.ret v h') := by
  intro args h v h' e
  exact fun_sound (C := C27) (fn := Try.f92) (body := B92) (np := 2) (A := A92) (T := T92) (kinds := [Kd.v, Kd.v]) (by kernel_rfl) (by kernel_rfl) (by kernel_rfl) (by kernel_rfl) (regK_ok env_ok) (by kernel_rfl) (fun S => t92 S) e
noncomputable def orc28 := orcQ 92 F92 orc27
noncomputable def C28 : Cfg := cfg orc28
theorem ok28 : C28.Ok := orcQ_ok (C := C27) ok27 r92
noncomputable def B50 : Code := (Try.f50.body).getD .skip
def A50 : Ann := (Ann.node (some (0, [(0, Kd.v), (1, Kd.i .i64), (2, Kd.v)])) bl (bn (bn bl (bn (bn bl bl) bl)) (bn bl bl)))
noncomputable def P50x0 (S : Sg) (r0 : Value) (r1 : Int) (r2 : Value) (h : Hp) : CRes :=
  lenSK r0 fun i0 =>
  boolZ (ltZ r1 i0) fun b1 =>
  ifB b1
  (some (Value.tuple (List.toArray [(Value.int .i64 (Int.ofNat 0)), (Value.int .i64 (Int.ofNat 3))]), h))
  (pairK (callQ F92 [r0, r2] h) fun v2 h2 =>
  extK v2 0 fun v3 =>
  intK .i64 v3 fun i4 =>
  extK v2 1 fun v5 =>
  intK .i64 v5 fun i6 =>
  some (Value.tuple (List.toArray [(Value.int .i64 i4), (Value.int .i64 i6)]), h2))
noncomputable def T50 (S : Sg) : Sg := tabC 0 (uV fun r0 => uI fun r1 => uV fun r2 => uN fun h => P50x0 S r0 r1 r2 h) (tabN)
noncomputable def F50 (args : List Value) (h : Hp) : CRes := packVals [Kd.v, Kd.i .i64, Kd.v] args fun al => rec' T50 1000000 0 al h
def nt50 : Nat := 3 + (17 - 3)
theorem q50x0 (S : Sg) (r0 : Value) (r1 : Int) (r2 : Value) (h : Hp) : P50x0 S r0 r1 r2 h = stepAt (regK env orc28 (nt50)) (finK env Try.f50.results.toList) (collect B50 A50 []) 0 S (AL.v r0 (AL.i r1 (AL.v r2 AL.n))) h := by kernel_rfl
theorem t50 (S : Sg) : Tab (fun l vs h => stepAt (regK env orc28 nt50) (finK env Try.f50.results.toList) (collect B50 A50 []) l S vs h) (T50 S) := by
  unfold T50
  refine Tab.cons 0 (fun vs0 h q e0 => ?_) ?_
  · obtain ⟨r0, vs1, rfl, e1⟩ := uV_some e0
    obtain ⟨r1, vs2, rfl, e2⟩ := uI_some e1
    obtain ⟨r2, vs3, rfl, e3⟩ := uV_some e2
    obtain ⟨rfl, ee⟩ := uN_some e3
    exact (q50x0 S r0 r1 r2 h).symm.trans ee
  exact Tab.nil
theorem r50 : ∀ args h v h', F50 args h = some (v, h') → Runs (C28) (.call 50 args.toArray h) (.ret v h') := by
  intro args h v h' e
  exact fun_sound (C := C28) (fn := Try.f50) (body := B50) (np := 3) (A := A50) (T := T50) (kinds := [Kd.v, Kd.i .i64, Kd.v]) (by kernel_rfl) (by kernel_rfl) (by kernel_rfl) (by kernel_rfl) (regK_ok env_ok) (by kernel_rfl) (fun S => t50 S) e
noncomputable def orc29 := orcQ 50 F50 orc28
noncomputable def C29 : Cfg := cfg orc29
theorem ok29 : C29.Ok := orcQ_ok (C := C28) ok28 r50
noncomputable def B13 : Code := (Try.f13.body).getD .skip
def A13 : Ann := (Ann.node (some (0, [(0, Kd.v)])) bl (bn (bn bl (bn bl (bn (bn bl bl) bl))) (bn (bn bl (bn (bn bl bl) bl)) (bn (bn bl (bn bl (bn (bn bl bl) bl))) (bn bl (bn (bn bl (bn (bn bl bl) bl)) (bn (bn bl (bn bl (bn (bn bl bl) bl))) (bn (bn bl (bn bl (bn (bn bl bl) bl))) (bn bl bl)))))))))
noncomputable def P13x0 (S : Sg) (r0 : Value) (h : Hp) : CRes :=
  allocK h 28 (Array.toList (Value.cells r0)) fun a0 h0 =>
  ptrAddK 0 a0 fun v1 =>
  loadNK 2 h0 v1 fun v2 =>
  pairK (buildSliceV env h0 78 1 (List.toArray [(0, v2)])) fun v3 h3 =>
  pairK (callQ F43 [(Value.int .i64 (Int.negSucc 99)), (Value.int .i64 (Int.ofNat 100)), v3] h3) fun v4 h4 =>
  intK .i64 v4 fun i5 =>
  boolN (eqZ i5 (Int.ofNat 0)) fun b6 =>
  ifB b6
  (some (Value.tuple (List.toArray [(Value.int .i64 (Int.ofNat 1)), (Value.int .i64 (Int.ofNat 0)), (Value.int .i64 i5)]), h4))
  (ptrAddK 2 a0 fun v7 =>
  load1K h4 v7 fun v8 =>
  intK .i64 v8 fun i9 =>
  pairK (buildSliceV env h4 24 1 (List.toArray [(0, (Value.int .i64 i9))])) fun v10 h10 =>
  pairK (optK (F44 [(Value.int .i64 (Int.ofNat 0)), (Value.int .i64 (Int.ofNat 3)), v10] h10) fun v => some (v, h10)) fun v11 h11 =>
  boolK v11 fun b12 =>
  boolN b12 fun b13 =>
  ifB b13
  (some (Value.tuple (List.toArray [(Value.int .i64 (Int.ofNat 2)), (Value.int .i64 (Int.ofNat 0)), (Value.int .i64 (Int.ofNat 7))]), h11))
  (ptrAddK 3 a0 fun v14 =>
  load1K h11 v14 fun v15 =>
  pairK (callQ F45 [v15, (Value.int .i64 (Int.ofNat 4)), (Value.func (.func 46) #[] #[])] h11) fun v16 h16 =>
  extK v16 0 fun v17 =>
  intK .i64 v17 fun i18 =>
  extK v16 1 fun v19 =>
  intK .i64 v19 fun i20 =>
  boolN (eqZ i20 (Int.ofNat 0)) fun b21 =>
  ifB b21
  (some (Value.tuple (List.toArray [(Value.int .i64 (Int.ofNat 3)), (Value.int .i64 i18), (Value.int .i64 i20)]), h16))
  (ptrAddK 4 a0 fun v22 =>
  load1K h16 v22 fun v23 =>
  pairK (callQ F47 [v23, (Value.int .i64 (Int.ofNat 5)), (Value.func (.func 48) (List.toArray []) (List.toArray [a0]))] h16) fun v24 h24 =>
  extK v24 0 fun v25 =>
  intK .i64 v25 fun i26 =>
  extK v24 1 fun v27 =>
  intK .i64 v27 fun i28 =>
  boolN (eqZ i28 (Int.ofNat 0)) fun b29 =>
  ifB b29
  (some (Value.tuple (List.toArray [(Value.int .i64 (Int.ofNat 4)), (Value.int .i64 i26), (Value.int .i64 i28)]), h24))
  (ptrAddK 5 a0 fun v30 =>
  load1K h24 v30 fun v31 =>
  pairK (callQ F50 [v31, (Value.int .i64 (Int.ofNat 5)), (Value.func (.func 51) #[] #[])] h24) fun v32 h32 =>
  extK v32 0 fun v33 =>
  intK .i64 v33 fun i34 =>
  extK v32 1 fun v35 =>
  intK .i64 v35 fun i36 =>
  boolN (eqZ i36 (Int.ofNat 0)) fun b37 =>
  ifB b37
  (some (Value.tuple (List.toArray [(Value.int .i64 (Int.ofNat 5)), (Value.int .i64 i34), (Value.int .i64 i36)]), h32))
  (ptrAddK 6 a0 fun v38 =>
  load1K h32 v38 fun v39 =>
  pairK (callQ F45 [v39, (Value.int .i64 (Int.ofNat 3)), (Value.func (.func 52) #[] #[])] h32) fun v40 h40 =>
  extK v40 0 fun v41 =>
  intK .i64 v41 fun i42 =>
  extK v40 1 fun v43 =>
  intK .i64 v43 fun i44 =>
  boolN (eqZ i44 (Int.ofNat 0)) fun b45 =>
  ifB b45
  (some (Value.tuple (List.toArray [(Value.int .i64 (Int.ofNat 6)), (Value.int .i64 i42), (Value.int .i64 i44)]), h40))
  (some (Value.tuple (List.toArray [(Value.int .i64 (Int.ofNat 0)), (Value.int .i64 (Int.ofNat 0)), (Value.int .i64 (Int.ofNat 0))]), h40)))))))
noncomputable def T13 (S : Sg) : Sg := tabC 0 (uV fun r0 => uN fun h => P13x0 S r0 h) (tabN)
noncomputable def F13 (args : List Value) (h : Hp) : CRes := packVals [Kd.v] args fun al => rec' T13 1000000 0 al h
def nt13 : Nat := 1 + (65 - 1)
theorem q13x0 (S : Sg) (r0 : Value) (h : Hp) : P13x0 S r0 h = stepAt (regK env orc29 (nt13)) (finK env Try.f13.results.toList) (collect B13 A13 []) 0 S (AL.v r0 AL.n) h := by kernel_rfl
theorem t13 (S : Sg) : Tab (fun l vs h => stepAt (regK env orc29 nt13) (finK env Try.f13.results.toList) (collect B13 A13 []) l S vs h) (T13 S) := by
  unfold T13
  refine Tab.cons 0 (fun vs0 h q e0 => ?_) ?_
  · obtain ⟨r0, vs1, rfl, e1⟩ := uV_some e0
    obtain ⟨rfl, ee⟩ := uN_some e1
    exact (q13x0 S r0 h).symm.trans ee
  exact Tab.nil
theorem r13 : ∀ args h v h', F13 args h = some (v, h') → Runs (C29) (.call 13 args.toArray h) (.ret v h') := by
  intro args h v h' e
  exact fun_sound (C := C29) (fn := Try.f13) (body := B13) (np := 1) (A := A13) (T := T13) (kinds := [Kd.v]) (by kernel_rfl) (by kernel_rfl) (by kernel_rfl) (by kernel_rfl) (regK_ok env_ok) (by kernel_rfl) (fun S => t13 S) e
noncomputable def orc30 := orcQ 13 F13 orc29
noncomputable def C30 : Cfg := cfg orc30
theorem ok30 : C30.Ok := orcQ_ok (C := C29) ok29 r13
noncomputable def B58 : Code := (Try.f58.body).getD .skip
def A58 : Ann := (Ann.node (some (0, [(0, Kd.v)])) bl (bn (bn bl (bn bl (bn (bn bl bl) bl))) (bn bl bl)))
noncomputable def P58x0 (S : Sg) (r0 : Value) (h : Hp) : CRes :=
  allocK h 28 (Array.toList (Value.cells r0)) fun a0 h0 =>
  allocK h0 97 [(Value.int .i64 (Int.ofNat 0)), (Value.int .i64 (Int.ofNat 0)), (Value.int .i64 (Int.ofNat 0)), (Value.slice none 0 0), (Value.slice none 0 0), (Value.slice none 0 0), (Value.slice none 0 0)] fun a1 h1 =>
  loadNK 7 h1 a0 fun v2 =>
  pairK (callQ F13 [v2] h1) fun v3 h3 =>
  extK v3 0 fun v4 =>
  intK .i64 v4 fun i5 =>
  extK v3 1 fun v6 =>
  intK .i64 v6 fun i7 =>
  extK v3 2 fun v8 =>
  intK .i64 v8 fun i9 =>
  boolN (eqZ i9 (Int.ofNat 0)) fun b10 =>
  ifB b10
  (optK (buildV env 97 (List.toArray [])) fun v11 =>
  storeNK 7 h3 a1 v11 fun h12 =>
  loadNK 7 h12 a1 fun v13 => some (Value.tuple (List.toArray [v13, (Value.int .i64 i9)]), h12))
  (loadNK 7 h3 a0 fun v14 =>
  optK (buildV env 97 (List.toArray [(0, v14)])) fun v15 =>
  storeNK 7 h3 a1 v15 fun h16 =>
  loadNK 7 h16 a1 fun v17 => some (Value.tuple (List.toArray [v17, (Value.int .i64 (Int.ofNat 0))]), h16))
noncomputable def T58 (S : Sg) : Sg := tabC 0 (uV fun r0 => uN fun h => P58x0 S r0 h) (tabN)
noncomputable def F58 (args : List Value) (h : Hp) : CRes := packVals [Kd.v] args fun al => rec' T58 1000000 0 al h
def nt58 : Nat := 1 + (19 - 1)
theorem q58x0 (S : Sg) (r0 : Value) (h : Hp) : P58x0 S r0 h = stepAt (regK env orc30 (nt58)) (finK env Try.f58.results.toList) (collect B58 A58 []) 0 S (AL.v r0 AL.n) h := by kernel_rfl
theorem t58 (S : Sg) : Tab (fun l vs h => stepAt (regK env orc30 nt58) (finK env Try.f58.results.toList) (collect B58 A58 []) l S vs h) (T58 S) := by
  unfold T58
  refine Tab.cons 0 (fun vs0 h q e0 => ?_) ?_
  · obtain ⟨r0, vs1, rfl, e1⟩ := uV_some e0
    obtain ⟨rfl, ee⟩ := uN_some e1
    exact (q58x0 S r0 h).symm.trans ee
  exact Tab.nil
theorem r58 : ∀ args h v h', F58 args h = some (v, h') → Runs (C30) (.call 58 args.toArray h) (.ret v h') := by
  intro args h v h' e
  exact fun_sound (C := C30) (fn := Try.f58) (body := B58) (np := 1) (A := A58) (T := T58) (kinds := [Kd.v]) (by kernel_rfl) (by kernel_rfl) (by kernel_rfl) (by kernel_rfl) (regK_ok env_ok) (by kernel_rfl) (fun S => t58 S) e
noncomputable def orc31 := orcQ 58 F58 orc30
noncomputable def C31 : Cfg := cfg orc31
theorem ok31 : C31.Ok := orcQ_ok (C := C30) ok30 r58
noncomputable def B60 : Code := (Try.f60.body).getD .skip
def A60 : Ann := (Ann.node (some (0, [(0, Kd.v), (1, Kd.i .i64)])) bl (bn (bn bl (bn (bn bl bl) bl)) (bn bl bl)))
noncomputable def P60x0 (S : Sg) (r0 : Value) (r1 : Int) (h : Hp) : CRes :=
  allocK h 97 (Array.toList (Value.cells r0)) fun a0 h0 =>
  ptrAddK 0 a0 fun v1 =>
  ptrAddK 2 v1 fun v2 =>
  load1K h0 v2 fun v3 =>
  intK .i64 v3 fun i4 =>
  slowI .i64 (shlI (binW env .shl 3 (Value.int .i64 (Int.ofNat 1)) (Value.int .i64 i4)) (Value.int .i64 (Int.ofNat 1)) (Value.int .i64 i4)) fun i5 =>
  pairK (buildSliceV env h0 24 1 (List.toArray [(0, (Value.int .i64 r1))])) fun v6 h6 =>
  pairK (optK (F59 [(Value.int .i64 i5), v6] h6) fun v => some (v, h6)) fun v7 h7 =>
  boolK v7 fun b8 =>
  boolN b8 fun b9 =>
  ifB b9
  (some ((Value.int .i64 (Int.ofNat 7)), h7))
  (some ((Value.int .i64 (Int.ofNat 0)), h7))
noncomputable def T60 (S : Sg) : Sg := tabC 0 (uV fun r0 => uI fun r1 => uN fun h => P60x0 S r0 r1 h) (tabN)
noncomputable def F60 (args : List Value) (h : Hp) : CRes := packVals [Kd.v, Kd.i .i64] args fun al => rec' T60 1000000 0 al h
def nt60 : Nat := 2 + (13 - 2)
theorem q60x0 (S : Sg) (r0 : Value) (r1 : Int) (h : Hp) : P60x0 S r0 r1 h = stepAt (regK env orc31 (nt60)) (finK env Try.f60.results.toList) (collect B60 A60 []) 0 S (AL.v r0 (AL.i r1 AL.n)) h := by kernel_rfl
theorem t60 (S : Sg) : Tab (fun l vs h => stepAt (regK env orc31 nt60) (finK env Try.f60.results.toList) (collect B60 A60 []) l S vs h) (T60 S) := by
  unfold T60
  refine Tab.cons 0 (fun vs0 h q e0 => ?_) ?_
  · obtain ⟨r0, vs1, rfl, e1⟩ := uV_some e0
    obtain ⟨r1, vs2, rfl, e2⟩ := uI_some e1
    obtain ⟨rfl, ee⟩ := uN_some e2
    exact (q60x0 S r0 r1 h).symm.trans ee
  exact Tab.nil
theorem r60 : ∀ args h v h', F60 args h = some (v, h') → Runs (C31) (.call 60 args.toArray h) (.ret v h') := by
  intro args h v h' e
  exact fun_sound (C := C31) (fn := Try.f60) (body := B60) (np := 2) (A := A60) (T := T60) (kinds := [Kd.v, Kd.i .i64]) (by kernel_rfl) (by kernel_rfl) (by kernel_rfl) (by kernel_rfl) (regK_ok env_ok) (by kernel_rfl) (fun S => t60 S) e
noncomputable def orc32 := orcQ 60 F60 orc31
noncomputable def C32 : Cfg := cfg orc32
theorem ok32 : C32.Ok := orcQ_ok (C := C31) ok31 r60
noncomputable def B100 : Code := (Try.f100.body).getD .skip
noncomputable def A100 : G.Ann (List KI) := (G.Ann.node (some (0, [KI.reg 0 (Kd.i .i64), KI.reg 1 (Kd.i .i64)])) al (an al al))
noncomputable def P100x0 (h : Hp) (S : Nat → PAL → Option Value) (r0 : Int) (r1 : Int) : Option Value :=
  shrZ .i64 r0 r1 (shrI (binW env .shr 3 (Value.int .i64 r0) (Value.int .i64 r1)) (Value.int .i64 r0) (Value.int .i64 r1)) fun i0 =>
  andZ .i64 i0 (Int.ofNat 1) (andI (binW env .and 3 (Value.int .i64 i0) (Value.int .i64 (Int.ofNat 1))) (Value.int .i64 i0) (Value.int .i64 (Int.ofNat 1))) fun i1 =>
  boolZ (eqZ i1 (Int.ofNat 1)) fun b2 =>
  some (Value.bool b2)
noncomputable def T100 (h : Hp) (S : Nat → PAL → Option Value) : Nat → PAL → Option Value := tabPC 0 (wI fun r0 => wI fun r1 => wN (P100x0 h S r0 r1)) (tabPN)
noncomputable def F100 (args : List Value) (h : Hp) : Option Value := plainO (packArgs [Kd.i .i64, Kd.i .i64] args fun al => G.rec' (T100 h) 1000000 0 al)
def nt100 : Nat := 2 + (10 - 2)
theorem q100x0 (h : Hp) (S : Nat → PAL → Option Value) (r0 : Int) (r1 : Int) : P100x0 h S r0 r1 = G.stepAt packP unpackP evXV (regP env pf8 nt100 h) (finP env Try.f100.results.toList) (G.collect B100 A100 []) 0 S (PAL.i r0 (PAL.i r1 PAL.n)) := by kernel_rfl
theorem t100 (h : Hp) (S : Nat → PAL → Option Value) : TabP (fun l al => G.stepAt packP unpackP evXV (regP env pf8 nt100 h) (finP env Try.f100.results.toList) (G.collect B100 A100 []) l S al) (T100 h S) := by
  unfold T100
  refine TabP.cons 0 (fun vs0 q e0 => ?_) ?_
  · obtain ⟨r0, vs1, rfl, e1⟩ := wI_some e0
    obtain ⟨r1, vs2, rfl, e2⟩ := wI_some e1
    obtain ⟨rfl, ee⟩ := wN_some e2
    exact (q100x0 h S r0 r1).symm.trans ee
  exact TabP.nil
theorem r100 : PSound Try.prog 100 F100 := fun_soundP (C := C0) ok0 (pf := pf8) pfok8 (fn := Try.f100) (body := B100) (kinds := [Kd.i .i64, Kd.i .i64]) (A := A100) (T := T100) (by kernel_rfl) (by kernel_rfl) (by kernel_rfl) (by kernel_rfl) (fun h S => t100 h S)
noncomputable def pf9 : PF := pfC 100 F100 pf8
theorem pfok9 : PfSound Try.prog pf9 := pfC_ok r100 pfok8
noncomputable def orc33 := orcP 100 F100 orc32
noncomputable def C33 : Cfg := cfg orc33
theorem ok33 : C33.Ok := orcP_ok (C := C32) ok32 r100
noncomputable def B61 : Code := (Try.f61.body).getD .skip
noncomputable def A61 : G.Ann (List KI) := (G.Ann.node (some (0, [KI.reg 0 (Kd.v), KI.reg 1 (Kd.i .i64)])) al (an al (an (an al (an (G.Ann.node (some (1, [KI.loc 2 2, KI.loc 4 4, KI.loc 5 5, KI.reg 19 (Kd.v), KI.reg 20 (Kd.i .i64), KI.reg 21 (Kd.i .i64), KI.list 2, KI.cells 4 [Kd.i .i64, Kd.i .i64], KI.cells 5 [Kd.i .i64, Kd.i .i64]])) (an al (an (an al al) (an (an (an al (an al (an (an al al) al))) al) al))) al) al)) (G.Ann.node (some (2, [KI.loc 4 4, KI.loc 5 5, KI.cells 4 [Kd.i .i64, Kd.i .i64], KI.cells 5 [Kd.i .i64, Kd.i .i64]])) al al))))
noncomputable def P61x2 (h : Hp) (S : Nat → PAL → Option Value) (c4x0 : Int) (c4x1 : Int) (c5x0 : Int) (c5x1 : Int) : Option Value :=
  aggK (Value.agg (Array.mk [(Value.int .i64 c5x0), (Value.int .i64 c5x1)])) fun l0 => ifB (Nat.beq (lenR l0) 2) (segR 0 l0 [(Value.int .i64 c4x0), (Value.int .i64 c4x1)] fun c0 =>
  dropR c0 0 fun d1 => takeR d1 2 fun l1 => some (Value.agg (Array.mk l1))) none
noncomputable def P61x1 (h : Hp) (S : Nat → PAL → Option Value) (r19 : Value) (r20 : Int) (r21 : Int) (c2 : List Value) (c4x0 : Int) (c4x1 : Int) (c5x0 : Int) (c5x1 : Int) : Option Value :=
  boolZ (ltZ r21 r20) fun b0 =>
  ifB b0
  (idxSK 2 r19 r21 fun v1 =>
  loadNK 2 h v1 fun v2 =>
  aggK v2 fun l3 => ifB (Nat.beq (lenR l3) 2) (segR 0 l3 [(Value.int .i64 (Int.ofNat 0)), (Value.int .i64 (Int.ofNat 0))] fun c3 =>
  nthR c2 7 fun v4 =>
  intK .i64 v4 fun i5 =>
  optK (F100 [(Value.int .i64 i5), (Value.int .i64 r21)] h) fun v6 =>
  boolK v6 fun b7 =>
  ifB b7
  (nthR c3 0 fun v8 =>
  intK .i64 v8 fun i9 =>
  wrap64 (Int.add c5x0 i9) fun i10 =>
  nthR c3 1 fun v11 =>
  intK .i64 v11 fun i12 =>
  wrap64 (Int.add c5x1 i12) fun i13 =>
  wrap64 (Int.add r21 (Int.ofNat 1)) fun i14 =>
  S 1 (PAL.v r19 (PAL.i r20 (PAL.i i14 (PAL.l c2 (PAL.i c4x0 (PAL.i c4x1 (PAL.i i10 (PAL.i i13 PAL.n)))))))))
  (wrap64 (Int.add r21 (Int.ofNat 1)) fun i15 =>
  S 1 (PAL.v r19 (PAL.i r20 (PAL.i i15 (PAL.l c2 (PAL.i c4x0 (PAL.i c4x1 (PAL.i c5x0 (PAL.i c5x1 PAL.n)))))))))) none)
  (S 2 (PAL.i c4x0 (PAL.i c4x1 (PAL.i c5x0 (PAL.i c5x1 PAL.n)))))
noncomputable def P61x0 (h : Hp) (S : Nat → PAL → Option Value) (r0 : Value) (r1 : Int) : Option Value :=
  forceL (Array.toList (Value.cells r0)) fun c0 =>
  dropR c0 0 fun d1 => takeR d1 2 fun l1 =>
  aggK (Value.agg (Array.mk l1)) fun l2 => ifB (Nat.beq (lenR l2) 2) (segR 0 l2 [(Value.int .i64 (Int.ofNat 0)), (Value.int .i64 (Int.ofNat 0))] fun c2 =>
  nthR c0 4 fun v3 =>
  idxSK 4 v3 r1 fun v4 =>
  ptrAddK 2 v4 fun v5 =>
  load1K h v5 fun v6 =>
  lenSK v6 fun i7 =>
  unconsK c2 fun a8 c8 =>
  intK .i64 a8 fun i9 =>
  unconsK c8 fun a10 c10 =>
  intK .i64 a10 fun i11 =>
  nilK c10 (S 1 (PAL.v v6 (PAL.i i7 (PAL.i (Int.ofNat 0) (PAL.l c0 (PAL.i (Int.ofNat 0) (PAL.i (Int.ofNat 0) (PAL.i i9 (PAL.i i11 PAL.n)))))))))) none
noncomputable def T61 (h : Hp) (S : Nat → PAL → Option Value) : Nat → PAL → Option Value := tabPC 0 (wV fun r0 => wI fun r1 => wN (P61x0 h S r0 r1)) (tabPC 1 (wV fun r19 => wI fun r20 => wI fun r21 => wL fun c2 => wI fun c4x0 => wI fun c4x1 => wI fun c5x0 => wI fun c5x1 => wN (P61x1 h S r19 r20 r21 c2 c4x0 c4x1 c5x0 c5x1)) (tabPC 2 (wI fun c4x0 => wI fun c4x1 => wI fun c5x0 => wI fun c5x1 => wN (P61x2 h S c4x0 c4x1 c5x0 c5x1)) (tabPN)))
noncomputable def F61 (args : List Value) (h : Hp) : Option Value := plainO (packArgs [Kd.v, Kd.i .i64] args fun al => G.rec' (T61 h) 1000000 0 al)
def nt61 : Nat := 2 + (44 - 2)
theorem q61x2 (h : Hp) (S : Nat → PAL → Option Value) (c4x0 : Int) (c4x1 : Int) (c5x0 : Int) (c5x1 : Int) : P61x2 h S c4x0 c4x1 c5x0 c5x1 = G.stepAt packP unpackP evXV (regP env pf9 nt61 h) (finP env Try.f61.results.toList) (G.collect B61 A61 []) 2 S (PAL.i c4x0 (PAL.i c4x1 (PAL.i c5x0 (PAL.i c5x1 PAL.n)))) := by kernel_rfl
theorem q61x1 (h : Hp) (S : Nat → PAL → Option Value) (r19 : Value) (r20 : Int) (r21 : Int) (c2 : List Value) (c4x0 : Int) (c4x1 : Int) (c5x0 : Int) (c5x1 : Int) : P61x1 h S r19 r20 r21 c2 c4x0 c4x1 c5x0 c5x1 = G.stepAt packP unpackP evXV (regP env pf9 nt61 h) (finP env Try.f61.results.toList) (G.collect B61 A61 []) 1 S (PAL.v r19 (PAL.i r20 (PAL.i r21 (PAL.l c2 (PAL.i c4x0 (PAL.i c4x1 (PAL.i c5x0 (PAL.i c5x1 PAL.n)))))))) := by kernel_rfl
theorem q61x0 (h : Hp) (S : Nat → PAL → Option Value) (r0 : Value) (r1 : Int) : P61x0 h S r0 r1 = G.stepAt packP unpackP evXV (regP env pf9 nt61 h) (finP env Try.f61.results.toList) (G.collect B61 A61 []) 0 S (PAL.v r0 (PAL.i r1 PAL.n)) := by kernel_rfl
theorem t61 (h : Hp) (S : Nat → PAL → Option Value) : TabP (fun l al => G.stepAt packP unpackP evXV (regP env pf9 nt61 h) (finP env Try.f61.results.toList) (G.collect B61 A61 []) l S al) (T61 h S) := by
  unfold T61
  refine TabP.cons 0 (fun vs0 q e0 => ?_) ?_
  · obtain ⟨r0, vs1, rfl, e1⟩ := wV_some e0
    obtain ⟨r1, vs2, rfl, e2⟩ := wI_some e1
    obtain ⟨rfl, ee⟩ := wN_some e2
    exact (q61x0 h S r0 r1).symm.trans ee
  refine TabP.cons 1 (fun vs0 q e0 => ?_) ?_
  · obtain ⟨r19, vs1, rfl, e1⟩ := wV_some e0
    obtain ⟨r20, vs2, rfl, e2⟩ := wI_some e1
    obtain ⟨r21, vs3, rfl, e3⟩ := wI_some e2
    obtain ⟨c2, vs4, rfl, e4⟩ := wL_some e3
    obtain ⟨c4x0, vs5, rfl, e5⟩ := wI_some e4
    obtain ⟨c4x1, vs6, rfl, e6⟩ := wI_some e5
    obtain ⟨c5x0, vs7, rfl, e7⟩ := wI_some e6
    obtain ⟨c5x1, vs8, rfl, e8⟩ := wI_some e7
    obtain ⟨rfl, ee⟩ := wN_some e8
    exact (q61x1 h S r19 r20 r21 c2 c4x0 c4x1 c5x0 c5x1).symm.trans ee
  refine TabP.cons 2 (fun vs0 q e0 => ?_) ?_
  · obtain ⟨c4x0, vs1, rfl, e1⟩ := wI_some e0
    obtain ⟨c4x1, vs2, rfl, e2⟩ := wI_some e1
    obtain ⟨c5x0, vs3, rfl, e3⟩ := wI_some e2
    obtain ⟨c5x1, vs4, rfl, e4⟩ := wI_some e3
    obtain ⟨rfl, ee⟩ := wN_some e4
    exact (q61x2 h S c4x0 c4x1 c5x0 c5x1).symm.trans ee
  exact TabP.nil
theorem r61 : PSound Try.prog 61 F61 := fun_soundP (C := C0) ok0 (pf := pf9) pfok9 (fn := Try.f61) (body := B61) (kinds := [Kd.v, Kd.i .i64]) (A := A61) (T := T61) (by kernel_rfl) (by kernel_rfl) (by kernel_rfl) (by kernel_rfl) (fun h S => t61 h S)
noncomputable def pf10 : PF := pfC 61 F61 pf9
theorem pfok10 : PfSound Try.prog pf10 := pfC_ok r61 pfok9
noncomputable def orc34 := orcP 61 F61 orc33
noncomputable def C34 : Cfg := cfg orc34
theorem ok34 : C34.Ok := orcP_ok (C := C33) ok33 r61
noncomputable def B15 : Code := (Try.f15.body).getD .skip
def A15 : Ann := (Ann.node (some (0, [(0, Kd.v), (1, Kd.i .i64), (2, Kd.i .i64)])) bl (bn bl (bn (bn bl (bn (bn bl bl) bl)) (bn (bn bl (bn (bn bl bl) bl)) (bn (bn bl (bn bl (bn (bn bl bl) bl))) (bn bl bl))))))
noncomputable def P15x0 (S : Sg) (r0 : Value) (r1 : Int) (r2 : Int) (h : Hp) : CRes :=
  allocK h 28 (Array.toList (Value.cells r0)) fun a0 h0 =>
  allocK h0 23 [(Value.int .i64 (Int.ofNat 0)), (Value.int .i64 (Int.ofNat 0))] fun a1 h1 =>
  loadNK 7 h1 a0 fun v2 =>
  pairK (callQ F58 [v2] h1) fun v3 h3 =>
  extK v3 0 fun v4 =>
  extK v3 1 fun v5 =>
  intK .i64 v5 fun i6 =>
  allocK h3 97 [(Value.int .i64 (Int.ofNat 0)), (Value.int .i64 (Int.ofNat 0)), (Value.int .i64 (Int.ofNat 0)), (Value.slice none 0 0), (Value.slice none 0 0), (Value.slice none 0 0), (Value.slice none 0 0)] fun a7 h7 =>
  storeNK 7 h7 a7 v4 fun h8 =>
  boolN (eqZ i6 (Int.ofNat 0)) fun b9 =>
  ifB b9
  (optK (buildV env 23 (List.toArray [])) fun v10 =>
  storeNK 2 h8 a1 v10 fun h11 =>
  loadNK 2 h11 a1 fun v12 => some (Value.tuple (List.toArray [v12, (Value.int .i64 i6)]), h11))
  (ptrAddK 0 a7 fun v13 =>
  ptrAddK 4 v13 fun v14 =>
  load1K h8 v14 fun v15 =>
  lenSK v15 fun i16 =>
  pairK (buildSliceV env h8 24 1 (List.toArray [(0, (Value.int .i64 r1))])) fun v17 h17 =>
  pairK (optK (F59 [(Value.int .i64 i16), v17] h17) fun v => some (v, h17)) fun v18 h18 =>
  boolK v18 fun b19 =>
  boolN b19 fun b20 =>
  ifB b20
  (optK (buildV env 23 (List.toArray [])) fun v21 =>
  storeNK 2 h18 a1 v21 fun h22 =>
  loadNK 2 h22 a1 fun v23 => some (Value.tuple (List.toArray [v23, (Value.int .i64 (Int.ofNat 4))]), h22))
  (loadNK 7 h18 a7 fun v24 =>
  pairK (callQ F60 [v24, (Value.int .i64 r2)] h18) fun v25 h25 =>
  intK .i64 v25 fun i26 =>
  boolN (eqZ i26 (Int.ofNat 0)) fun b27 =>
  ifB b27
  (optK (buildV env 23 (List.toArray [])) fun v28 =>
  storeNK 2 h25 a1 v28 fun h29 =>
  loadNK 2 h29 a1 fun v30 => some (Value.tuple (List.toArray [v30, (Value.int .i64 i26)]), h29))
  (loadNK 7 h25 a7 fun v31 =>
  optK (buildV env 103 (List.toArray [(0, v31), (1, (Value.int .i64 r2))])) fun v32 =>
  pairK (optK (F61 [v32, (Value.int .i64 r1)] h25) fun v => some (v, h25)) fun v33 h33 =>
  storeNK 2 h33 a1 v33 fun h34 =>
  loadNK 2 h34 a1 fun v35 => some (Value.tuple (List.toArray [v35, (Value.int .i64 (Int.ofNat 0))]), h34))))
noncomputable def T15 (S : Sg) : Sg := tabC 0 (uV fun r0 => uI fun r1 => uI fun r2 => uN fun h => P15x0 S r0 r1 r2 h) (tabN)
noncomputable def F15 (args : List Value) (h : Hp) : CRes := packVals [Kd.v, Kd.i .i64, Kd.i .i64] args fun al => rec' T15 1000000 0 al h
def nt15 : Nat := 3 + (41 - 3)
theorem q15x0 (S : Sg) (r0 : Value) (r1 : Int) (r2 : Int) (h : Hp) : P15x0 S r0 r1 r2 h = stepAt (regK env orc34 (nt15)) (finK env Try.f15.results.toList) (collect B15 A15 []) 0 S (AL.v r0 (AL.i r1 (AL.i r2 AL.n))) h := by kernel_rfl
theorem t15 (S : Sg) : Tab (fun l vs h => stepAt (regK env orc34 nt15) (finK env Try.f15.results.toList) (collect B15 A15 []) l S vs h) (T15 S) := by
  unfold T15
  refine Tab.cons 0 (fun vs0 h q e0 => ?_) ?_
  · obtain ⟨r0, vs1, rfl, e1⟩ := uV_some e0
    obtain ⟨r1, vs2, rfl, e2⟩ := uI_some e1
    obtain ⟨r2, vs3, rfl, e3⟩ := uI_some e2
    obtain ⟨rfl, ee⟩ := uN_some e3
    exact (q15x0 S r0 r1 r2 h).symm.trans ee
  exact Tab.nil
theorem r15 : ∀ args h v h', F15 args h = some (v, h') → Runs (C34) (.call 15 args.toArray h) (.ret v h') := by
  intro args h v h' e
  exact fun_sound (C := C34) (fn := Try.f15) (body := B15) (np := 3) (A := A15) (T := T15) (kinds := [Kd.v, Kd.i .i64, Kd.i .i64]) (by kernel_rfl) (by kernel_rfl) (by kernel_rfl) (by kernel_rfl) (regK_ok env_ok) (by kernel_rfl) (fun S => t15 S) e
noncomputable def orc35 := orcQ 15 F15 orc34
noncomputable def C35 : Cfg := cfg orc35
theorem ok35 : C35.Ok := orcQ_ok (C := C34) ok34 r15
noncomputable def B64 : Code := (Try.f64.body).getD .skip
def A64 : Ann := (Ann.node (some (0, [(0, Kd.v), (1, Kd.i .i64), (2, Kd.i .i64)])) bl (bn bl (bn bl (bn (bn (bn bl (bn (bn bl bl) (bn bl (bn (bn bl bl) bl)))) bl) (bn bl bl)))))
noncomputable def P64x0 (S : Sg) (r0 : Value) (r1 : Int) (r2 : Int) (h : Hp) : CRes :=
  allocK h 103 (Array.toList (Value.cells r0)) fun a0 h0 =>
  loadNK 8 (Hp.mk (Hp.next h0) (Hp.next h0) (Hp.objs h0)) a0 fun v1 =>
  leftK v1 (Hp.next h0) (Hp.mk (Hp.next h0) (Hp.next h0) (Hp.objs h0)) fun w2 n2 =>
  pairK (optK (F61 [v1, (Value.int .i64 r2)] (Hp.mk n2 n2 (addAll w2 (Hp.objs h0)))) fun v => some (v, (Hp.mk n2 n2 (addAll w2 (Hp.objs h0))))) fun v3 h3 =>
  leftK v3 n2 h3 fun w4 n4 =>
  ptrAddK 0 a0 fun v5 =>
  leftK v5 n4 (Hp.mk n4 n4 T.nil) fun w6 n6 =>
  ptrAddK 0 v5 fun v7 =>
  leftK v7 n6 (Hp.mk n6 n6 T.nil) fun w8 n8 =>
  ptrAddK 5 v7 fun v9 =>
  leftK v9 n8 (Hp.mk n8 n8 T.nil) fun w10 n10 =>
  load1K (Hp.mk n10 n10 (addAll w10 (addAll w8 (addAll w6 (Hp.objs h0))))) v9 fun v11 =>
  leftK v11 n10 (Hp.mk n10 n10 (addAll w10 (addAll w8 (addAll w6 (Hp.objs h0))))) fun w12 n12 =>
  idxSK 6 v11 r1 fun v13 =>
  leftK v13 n12 (Hp.mk n12 n12 T.nil) fun w14 n14 =>
  loadNK 6 (Hp.mk n14 n14 (addAll w14 (addAll w12 (addAll w10 (addAll w8 (addAll w6 (Hp.objs h0))))))) v13 fun v15 =>
  leftK v15 n14 (Hp.mk n14 n14 (addAll w14 (addAll w12 (addAll w10 (addAll w8 (addAll w6 (Hp.objs h0))))))) fun w16 n16 =>
  allocK (Hp.mk n16 n16 T.nil) 23 [(Value.int .i64 (Int.ofNat 0)), (Value.int .i64 (Int.ofNat 0))] fun a17 h17 =>
  leftK a17 n16 h17 fun w18 n18 =>
  allocK (Hp.mk n18 n18 T.nil) 56 [(Value.string (ByteArray.mk #[])), (Value.int .i64 (Int.ofNat 0)), (Value.int .i64 (Int.ofNat 0)), (Value.int .i64 (Int.ofNat 0)), (Value.int .i64 (Int.ofNat 0)), (Value.int .i64 (Int.ofNat 0))] fun a19 h19 =>
  leftK a19 n18 h19 fun w20 n20 =>
  storeQ env 23 a17 v3 n20 (Hp.next h0) (addAll w20 (addAll w18 (addAll w4 (addAll w2 (Hp.objs h0))))) (fun b => (hasBlk w2 b || (hasBlk [] b || (hasBlk w4 b || (hasBlk w18 b || (hasBlk w20 b || false)))))) fun w21 =>
  storeNK 6 (Hp.mk n20 (Hp.ro h0) (addAll w21 (addAll w20 (addAll w18 (addAll w16 (addAll w14 (addAll w12 (addAll w10 (addAll w8 (addAll w6 (addAll w4 (addAll w2 (Hp.objs h0))))))))))))) a19 v15 fun h22 =>
  ptrAddK 0 a17 fun v23 =>
  load1K h22 v23 fun v24 =>
  intK .i64 v24 fun i25 =>
  ptrAddK 3 a19 fun v26 =>
  load1K h22 v26 fun v27 =>
  intK .i64 v27 fun i28 =>
  maxZ i25 i28 fun i29 =>
  ptrAddK 1 a17 fun v30 =>
  load1K h22 v30 fun v31 =>
  intK .i64 v31 fun i32 =>
  ptrAddK 4 a19 fun v33 =>
  load1K h22 v33 fun v34 =>
  intK .i64 v34 fun i35 =>
  minZ i32 i35 fun i36 =>
  optK (buildV env 23 (List.toArray [(0, (Value.int .i64 i29)), (1, (Value.int .i64 i36))])) fun v37 =>
  allocK h22 23 [(Value.int .i64 (Int.ofNat 0)), (Value.int .i64 (Int.ofNat 0))] fun a38 h38 =>
  storeNK 2 h38 a38 v37 fun h39 =>
  loadNK 2 h39 a38 fun v40 =>
  loadNK 2 h39 a17 fun v41 =>
  optK (binV env .eql 23 (Operand.tmp 32) (Operand.tmp 33) v40 v41) fun v42 =>
  boolK v42 fun b43 =>
  ifB b43
  (some ((Value.int .i64 (Int.ofNat 1)), h39))
  (ptrAddK 0 a38 fun v44 =>
  load1K h39 v44 fun v45 =>
  intK .i64 v45 fun i46 =>
  ptrAddK 1 a38 fun v47 =>
  load1K h39 v47 fun v48 =>
  intK .i64 v48 fun i49 =>
  boolZ (ltZ i49 i46) fun b50 =>
  ifB b50
  (some ((Value.int .i64 (Int.ofNat 2)), h39))
  (some ((Value.int .i64 (Int.ofNat 0)), h39)))
noncomputable def T64 (S : Sg) : Sg := tabC 0 (uV fun r0 => uI fun r1 => uI fun r2 => uN fun h => P64x0 S r0 r1 r2 h) (tabN)
noncomputable def F64 (args : List Value) (h : Hp) : CRes := packVals [Kd.v, Kd.i .i64, Kd.i .i64] args fun al => rec' T64 1000000 0 al h
def nt64 : Nat := 3 + (41 - 3)
theorem q64x0 (S : Sg) (r0 : Value) (r1 : Int) (r2 : Int) (h : Hp) : P64x0 S r0 r1 r2 h = stepAt (regK env orc35 (nt64)) (finK env Try.f64.results.toList) (collect B64 A64 []) 0 S (AL.v r0 (AL.i r1 (AL.i r2 AL.n))) h := by kernel_rfl
theorem t64 (S : Sg) : Tab (fun l vs h => stepAt (regK env orc35 nt64) (finK env Try.f64.results.toList) (collect B64 A64 []) l S vs h) (T64 S) := by
  unfold T64
  refine Tab.cons 0 (fun vs0 h q e0 => ?_) ?_
  · obtain ⟨r0, vs1, rfl, e1⟩ := uV_some e0
    obtain ⟨r1, vs2, rfl, e2⟩ := uI_some e1
    obtain ⟨r2, vs3, rfl, e3⟩ := uI_some e2
    obtain ⟨rfl, ee⟩ := uN_some e3
    exact (q64x0 S r0 r1 r2 h).symm.trans ee
  exact Tab.nil
theorem r64 : ∀ args h v h', F64 args h = some (v, h') → Runs (C35) (.call 64 args.toArray h) (.ret v h') := by
  intro args h v h' e
  exact fun_sound (C := C35) (fn := Try.f64) (body := B64) (np := 3) (A := A64) (T := T64) (kinds := [Kd.v, Kd.i .i64, Kd.i .i64]) (by kernel_rfl) (by kernel_rfl) (by kernel_rfl) (by kernel_rfl) (regK_ok env_ok) (by kernel_rfl) (fun S => t64 S) e
noncomputable def orc36 := orcQ 64 F64 orc35
noncomputable def C36 : Cfg := cfg orc36
theorem ok36 : C36.Ok := orcQ_ok (C := C35) ok35 r64
noncomputable def B17 : Code := (Try.f17.body).getD .skip
def A17 : Ann := (Ann.node (some (0, [(0, Kd.v), (1, Kd.i .i64), (2, Kd.i .i64), (3, Kd.i .i64)])) bl (bn bl (bn (bn bl (bn (bn bl bl) bl)) (bn (bn bl (bn (bn bl bl) bl)) (Ann.node (some (1, [(1, Kd.i .i64), (2, Kd.i .i64), (3, Kd.i .i64), (10, Kd.v)])) (bn bl (bn bl (bn (bn bl bl) bl))) (bn bl bl))))))
noncomputable def P17x1 (S : Sg) (r1 : Int) (r2 : Int) (r3 : Int) (r10 : Value) (h : Hp) : CRes :=
  loadNK 7 h r10 fun v0 =>
  pairK (callQ F60 [v0, (Value.int .i64 r3)] h) fun v1 h1 =>
  intK .i64 v1 fun i2 =>
  boolN (eqZ i2 (Int.ofNat 0)) fun b3 =>
  ifB b3
  (some (Value.tuple (List.toArray [(Value.int .i64 (Int.ofNat 0)), (Value.int .i64 i2)]), h1))
  (loadNK 7 h1 r10 fun v4 =>
  optK (buildV env 103 (List.toArray [(0, v4), (1, (Value.int .i64 r3))])) fun v5 =>
  pairK (callQ F64 [v5, (Value.int .i64 r1), (Value.int .i64 r2)] h1) fun v6 h6 =>
  intK .i64 v6 fun i7 =>
  some (Value.tuple (List.toArray [(Value.int .i64 i7), (Value.int .i64 (Int.ofNat 0))]), h6))
noncomputable def P17x0 (S : Sg) (r0 : Value) (r1 : Int) (r2 : Int) (r3 : Int) (h : Hp) : CRes :=
  allocK h 28 (Array.toList (Value.cells r0)) fun a0 h0 =>
  loadNK 7 h0 a0 fun v1 =>
  pairK (callQ F58 [v1] h0) fun v2 h2 =>
  extK v2 0 fun v3 =>
  extK v2 1 fun v4 =>
  intK .i64 v4 fun i5 =>
  allocK h2 97 [(Value.int .i64 (Int.ofNat 0)), (Value.int .i64 (Int.ofNat 0)), (Value.int .i64 (Int.ofNat 0)), (Value.slice none 0 0), (Value.slice none 0 0), (Value.slice none 0 0), (Value.slice none 0 0)] fun a6 h6 =>
  storeNK 7 h6 a6 v3 fun h7 =>
  boolN (eqZ i5 (Int.ofNat 0)) fun b8 =>
  ifB b8
  (some (Value.tuple (List.toArray [(Value.int .i64 (Int.ofNat 0)), (Value.int .i64 i5)]), h7))
  (ptrAddK 0 a6 fun v9 =>
  ptrAddK 5 v9 fun v10 =>
  load1K h7 v10 fun v11 =>
  lenSK v11 fun i12 =>
  pairK (buildSliceV env h7 24 1 (List.toArray [(0, (Value.int .i64 r1))])) fun v13 h13 =>
  pairK (optK (F59 [(Value.int .i64 i12), v13] h13) fun v => some (v, h13)) fun v14 h14 =>
  boolK v14 fun b15 =>
  boolN b15 fun b16 =>
  ifB b16
  (some (Value.tuple (List.toArray [(Value.int .i64 (Int.ofNat 0)), (Value.int .i64 (Int.ofNat 4))]), h14))
  (ptrAddK 0 a6 fun v17 =>
  ptrAddK 4 v17 fun v18 =>
  load1K h14 v18 fun v19 =>
  lenSK v19 fun i20 =>
  pairK (buildSliceV env h14 24 1 (List.toArray [(0, (Value.int .i64 r2))])) fun v21 h21 =>
  pairK (optK (F59 [(Value.int .i64 i20), v21] h21) fun v => some (v, h21)) fun v22 h22 =>
  boolK v22 fun b23 =>
  boolN b23 fun b24 =>
  ifB b24
  (some (Value.tuple (List.toArray [(Value.int .i64 (Int.ofNat 0)), (Value.int .i64 (Int.ofNat 4))]), h22))
  (S 1 (AL.i r1 (AL.i r2 (AL.i r3 (AL.v a6 AL.n)))) h22)))
noncomputable def T17 (S : Sg) : Sg := tabC 0 (uV fun r0 => uI fun r1 => uI fun r2 => uI fun r3 => uN fun h => P17x0 S r0 r1 r2 r3 h) (tabC 1 (uI fun r1 => uI fun r2 => uI fun r3 => uV fun r10 => uN fun h => P17x1 S r1 r2 r3 r10 h) (tabN))
noncomputable def F17 (args : List Value) (h : Hp) : CRes := packVals [Kd.v, Kd.i .i64, Kd.i .i64, Kd.i .i64] args fun al => rec' T17 1000000 0 al h
def nt17 : Nat := 4 + (51 - 4)
theorem q17x1 (S : Sg) (r1 : Int) (r2 : Int) (r3 : Int) (r10 : Value) (h : Hp) : P17x1 S r1 r2 r3 r10 h = stepAt (regK env orc36 (nt17)) (finK env Try.f17.results.toList) (collect B17 A17 []) 1 S (AL.i r1 (AL.i r2 (AL.i r3 (AL.v r10 AL.n)))) h := by kernel_rfl
theorem q17x0 (S : Sg) (r0 : Value) (r1 : Int) (r2 : Int) (r3 : Int) (h : Hp) : P17x0 S r0 r1 r2 r3 h = stepAt (regK env orc36 (nt17)) (finK env Try.f17.results.toList) (collect B17 A17 []) 0 S (AL.v r0 (AL.i r1 (AL.i r2 (AL.i r3 AL.n)))) h := by kernel_rfl
theorem t17 (S : Sg) : Tab (fun l vs h => stepAt (regK env orc36 nt17) (finK env Try.f17.results.toList) (collect B17 A17 []) l S vs h) (T17 S) := by
  unfold T17
  refine Tab.cons 0 (fun vs0 h q e0 => ?_) ?_
  · obtain ⟨r0, vs1, rfl, e1⟩ := uV_some e0
    obtain ⟨r1, vs2, rfl, e2⟩ := uI_some e1
    obtain ⟨r2, vs3, rfl, e3⟩ := uI_some e2
    obtain ⟨r3, vs4, rfl, e4⟩ := uI_some e3
    obtain ⟨rfl, ee⟩ := uN_some e4
    exact (q17x0 S r0 r1 r2 r3 h).symm.trans ee
  refine Tab.cons 1 (fun vs0 h q e0 => ?_) ?_
  · obtain ⟨r1, vs1, rfl, e1⟩ := uI_some e0
    obtain ⟨r2, vs2, rfl, e2⟩ := uI_some e1
    obtain ⟨r3, vs3, rfl, e3⟩ := uI_some e2
    obtain ⟨r10, vs4, rfl, e4⟩ := uV_some e3
    obtain ⟨rfl, ee⟩ := uN_some e4
    exact (q17x1 S r1 r2 r3 r10 h).symm.trans ee
  exact Tab.nil
theorem r17 : ∀ args h v h', F17 args h = some (v, h') → Runs (C36) (.call 17 args.toArray h) (.ret v h') := by
  intro args h v h' e
  exact fun_sound (C := C36) (fn := Try.f17) (body := B17) (np := 4) (A := A17) (T := T17) (kinds := [Kd.v, Kd.i .i64, Kd.i .i64, Kd.i .i64]) (by kernel_rfl) (by kernel_rfl) (by kernel_rfl) (by kernel_rfl) (regK_ok env_ok) (by kernel_rfl) (fun S => t17 S) e
noncomputable def orc37 := orcQ 17 F17 orc36
noncomputable def C37 : Cfg := cfg orc37
theorem ok37 : C37.Ok := orcQ_ok (C := C36) ok36 r17
noncomputable def B78 : Code := (Try.f78.body).getD .skip
noncomputable def A78 : G.Ann (List KI) := (G.Ann.node (some (0, [])) al (an al (an (an al (an (G.Ann.node (some (1, [KI.loc 0 0, KI.loc 1 1, KI.reg 3 (Kd.i .i64), KI.list 0, KI.list 1])) (an al (an (an al al) (an (an (an al al) al) al))) al) al)) (G.Ann.node (some (2, [KI.loc 0 0, KI.loc 1 1, KI.list 0, KI.list 1])) al al))))
noncomputable def P78x2 (h : Hp) (S : Nat → PAL → Option Value) (c0 : List Value) (c1 : List Value) : Option Value :=
  dropR c1 0 fun d0 => takeR d0 5 fun l0 =>
  aggK (Value.agg (Array.mk l0)) fun l1 => ifB (Nat.beq (lenR l1) 5) (segR 0 l1 c0 fun c1 =>
  dropR c1 0 fun d2 => takeR d2 5 fun l2 => some (Value.agg (Array.mk l2))) none
noncomputable def P78x1 (h : Hp) (S : Nat → PAL → Option Value) (r3 : Int) (c0 : List Value) (c1 : List Value) : Option Value :=
  boolZ (ltZ r3 (Int.ofNat 5)) fun b0 =>
  ifB b0
  (onI r3 (fun n1 => ifB (Nat.ble (Nat.succ n1) 5) (forceN (Nat.add 0 (Nat.mul n1 1)) fun o1 =>
  setNthR c1 o1 (Value.int .i64 (Int.negSucc 0)) fun c2 =>
  wrap64 (Int.add r3 (Int.ofNat 1)) fun i3 =>
  S 1 (PAL.i i3 (PAL.l c0 (PAL.l c2 PAL.n)))) none) (fun _ => none))
  (S 2 (PAL.l c0 (PAL.l c1 PAL.n)))
noncomputable def P78x0 (h : Hp) (S : Nat → PAL → Option Value) : Option Value :=
  S 1 (PAL.i (Int.ofNat 0) (PAL.l [(Value.int .i64 (Int.ofNat 0)), (Value.int .i64 (Int.ofNat 0)), (Value.int .i64 (Int.ofNat 0)), (Value.int .i64 (Int.ofNat 0)), (Value.int .i64 (Int.ofNat 0))] (PAL.l [(Value.int .i64 (Int.ofNat 0)), (Value.int .i64 (Int.ofNat 0)), (Value.int .i64 (Int.ofNat 0)), (Value.int .i64 (Int.ofNat 0)), (Value.int .i64 (Int.ofNat 0))] PAL.n)))
noncomputable def T78 (h : Hp) (S : Nat → PAL → Option Value) : Nat → PAL → Option Value := tabPC 0 (wN (P78x0 h S)) (tabPC 1 (wI fun r3 => wL fun c0 => wL fun c1 => wN (P78x1 h S r3 c0 c1)) (tabPC 2 (wL fun c0 => wL fun c1 => wN (P78x2 h S c0 c1)) (tabPN)))
noncomputable def F78 (args : List Value) (h : Hp) : Option Value := plainO (packArgs [] args fun al => G.rec' (T78 h) 1000000 0 al)
def nt78 : Nat := 0 + (10 - 0)
theorem q78x2 (h : Hp) (S : Nat → PAL → Option Value) (c0 : List Value) (c1 : List Value) : P78x2 h S c0 c1 = G.stepAt packP unpackP evXV (regP env pf10 nt78 h) (finP env Try.f78.results.toList) (G.collect B78 A78 []) 2 S (PAL.l c0 (PAL.l c1 PAL.n)) := by kernel_rfl
theorem q78x1 (h : Hp) (S : Nat → PAL → Option Value) (r3 : Int) (c0 : List Value) (c1 : List Value) : P78x1 h S r3 c0 c1 = G.stepAt packP unpackP evXV (regP env pf10 nt78 h) (finP env Try.f78.results.toList) (G.collect B78 A78 []) 1 S (PAL.i r3 (PAL.l c0 (PAL.l c1 PAL.n))) := by kernel_rfl
theorem q78x0 (h : Hp) (S : Nat → PAL → Option Value) : P78x0 h S = G.stepAt packP unpackP evXV (regP env pf10 nt78 h) (finP env Try.f78.results.toList) (G.collect B78 A78 []) 0 S PAL.n := by kernel_rfl
theorem t78 (h : Hp) (S : Nat → PAL → Option Value) : TabP (fun l al => G.stepAt packP unpackP evXV (regP env pf10 nt78 h) (finP env Try.f78.results.toList) (G.collect B78 A78 []) l S al) (T78 h S) := by
  unfold T78
  refine TabP.cons 0 (fun vs0 q e0 => ?_) ?_
  · 
    obtain ⟨rfl, ee⟩ := wN_some e0
    exact (q78x0 h S).symm.trans ee
  refine TabP.cons 1 (fun vs0 q e0 => ?_) ?_
  · obtain ⟨r3, vs1, rfl, e1⟩ := wI_some e0
    obtain ⟨c0, vs2, rfl, e2⟩ := wL_some e1
    obtain ⟨c1, vs3, rfl, e3⟩ := wL_some e2
    obtain ⟨rfl, ee⟩ := wN_some e3
    exact (q78x1 h S r3 c0 c1).symm.trans ee
  refine TabP.cons 2 (fun vs0 q e0 => ?_) ?_
  · obtain ⟨c0, vs1, rfl, e1⟩ := wL_some e0
    obtain ⟨c1, vs2, rfl, e2⟩ := wL_some e1
    obtain ⟨rfl, ee⟩ := wN_some e2
    exact (q78x2 h S c0 c1).symm.trans ee
  exact TabP.nil
theorem r78 : PSound Try.prog 78 F78 := fun_soundP (C := C0) ok0 (pf := pf10) pfok10 (fn := Try.f78) (body := B78) (kinds := []) (A := A78) (T := T78) (by kernel_rfl) (by kernel_rfl) (by kernel_rfl) (by kernel_rfl) (fun h S => t78 h S)
noncomputable def pf11 : PF := pfC 78 F78 pf10
theorem pfok11 : PfSound Try.prog pf11 := pfC_ok r78 pfok10
noncomputable def orc38 := orcP 78 F78 orc37
noncomputable def C38 : Cfg := cfg orc38
theorem ok38 : C38.Ok := orcP_ok (C := C37) ok37 r78
noncomputable def B101 : Code := (Try.f101.body).getD .skip
def A101 : Ann := (Ann.node (some (0, [(0, Kd.v)])) bl (bn bl (bn (bn bl (bn (Ann.node (some (1, [(3, Kd.v), (8, Kd.i .i64), (9, Kd.i .i64)])) (bn bl (bn (bn bl bl) (bn (bn (bn bl bl) bl) bl))) bl) bl)) (Ann.node (some (2, [(3, Kd.v)])) bl bl))))
noncomputable def P101x2 (S : Sg) (r3 : Value) (h : Hp) : CRes :=
  pairK (buildSliceV env h 24 1 (List.toArray [(0, (Value.int .i64 (Int.negSucc 0)))])) fun v0 h0 =>
  pairK (appendV env h0 #[24, 24] (List.toArray [r3, v0])) fun v1 h1 =>
  some (v1, h1)
noncomputable def P101x1 (S : Sg) (r3 : Value) (r8 : Int) (r9 : Int) (h : Hp) : CRes :=
  boolZ (ltZ r9 r8) fun b0 =>
  ifB b0
  (pairK (buildSliceV env h 24 1 (List.toArray [(0, (Value.int .i64 r9))])) fun v1 h1 =>
  pairK (appendV env h1 #[24, 24] (List.toArray [r3, v1])) fun v2 h2 =>
  wrap64 (Int.add r9 (Int.ofNat 1)) fun i3 =>
  S 1 (AL.v v2 (AL.i r8 (AL.i i3 AL.n))) h2)
  (S 2 (AL.v r3 AL.n) h)
noncomputable def P101x0 (S : Sg) (r0 : Value) (h : Hp) : CRes :=
  allocK h 97 (Array.toList (Value.cells r0)) fun a0 h0 =>
  ptrAddK 0 a0 fun v1 =>
  ptrAddK 4 v1 fun v2 =>
  load1K h0 v2 fun v3 =>
  lenSK v3 fun i4 =>
  S 1 (AL.v (Value.slice none 0 0) (AL.i i4 (AL.i (Int.ofNat 0) AL.n))) h0
noncomputable def T101 (S : Sg) : Sg := tabC 0 (uV fun r0 => uN fun h => P101x0 S r0 h) (tabC 1 (uV fun r3 => uI fun r8 => uI fun r9 => uN fun h => P101x1 S r3 r8 r9 h) (tabC 2 (uV fun r3 => uN fun h => P101x2 S r3 h) (tabN)))
noncomputable def F101 (args : List Value) (h : Hp) : CRes := packVals [Kd.v] args fun al => rec' T101 1000000 0 al h
def nt101 : Nat := 1 + (20 - 1)
theorem q101x2 (S : Sg) (r3 : Value) (h : Hp) : P101x2 S r3 h = stepAt (regK env orc38 (nt101)) (finK env Try.f101.results.toList) (collect B101 A101 []) 2 S (AL.v r3 AL.n) h := by kernel_rfl
theorem q101x1 (S : Sg) (r3 : Value) (r8 : Int) (r9 : Int) (h : Hp) : P101x1 S r3 r8 r9 h = stepAt (regK env orc38 (nt101)) (finK env Try.f101.results.toList) (collect B101 A101 []) 1 S (AL.v r3 (AL.i r8 (AL.i r9 AL.n))) h := by kernel_rfl
theorem q101x0 (S : Sg) (r0 : Value) (h : Hp) : P101x0 S r0 h = stepAt (regK env orc38 (nt101)) (finK env Try.f101.results.toList) (collect B101 A101 []) 0 S (AL.v r0 AL.n) h := by kernel_rfl
theorem t101 (S : Sg) : Tab (fun l vs h => stepAt (regK env orc38 nt101) (finK env Try.f101.results.toList) (collect B101 A101 []) l S vs h) (T101 S) := by
  unfold T101
  refine Tab.cons 0 (fun vs0 h q e0 => ?_) ?_
  · obtain ⟨r0, vs1, rfl, e1⟩ := uV_some e0
    obtain ⟨rfl, ee⟩ := uN_some e1
    exact (q101x0 S r0 h).symm.trans ee
  refine Tab.cons 1 (fun vs0 h q e0 => ?_) ?_
  · obtain ⟨r3, vs1, rfl, e1⟩ := uV_some e0
    obtain ⟨r8, vs2, rfl, e2⟩ := uI_some e1
    obtain ⟨r9, vs3, rfl, e3⟩ := uI_some e2
    obtain ⟨rfl, ee⟩ := uN_some e3
    exact (q101x1 S r3 r8 r9 h).symm.trans ee
  refine Tab.cons 2 (fun vs0 h q e0 => ?_) ?_
  · obtain ⟨r3, vs1, rfl, e1⟩ := uV_some e0
    obtain ⟨rfl, ee⟩ := uN_some e1
    exact (q101x2 S r3 h).symm.trans ee
  exact Tab.nil
theorem r101 : ∀ args h v h', F101 args h = some (v, h') → Runs (C38) (.call 101 args.toArray h) (.ret v h') := by
  intro args h v h' e
  exact fun_sound (C := C38) (fn := Try.f101) (body := B101) (np := 1) (A := A101) (T := T101) (kinds := [Kd.v]) (by kernel_rfl) (by kernel_rfl) (by kernel_rfl) (by kernel_rfl) (regK_ok env_ok) (by kernel_rfl) (fun S => t101 S) e
noncomputable def orc39 := orcQ 101 F101 orc38
noncomputable def C39 : Cfg := cfg orc39
theorem ok39 : C39.Ok := orcQ_ok (C := C38) ok38 r101
noncomputable def B79 : Code := (Try.f79.body).getD .skip
def A79 : Ann := (Ann.node (some (0, [(0, Kd.v)])) bl (bn bl bl))
noncomputable def P79x0 (S : Sg) (r0 : Value) (h : Hp) : CRes :=
  allocK h 112 (Array.toList (Value.cells r0)) fun a0 h0 =>
  some ((Value.func (.func 110) (List.toArray []) (List.toArray [a0])), h0)
noncomputable def T79 (S : Sg) : Sg := tabC 0 (uV fun r0 => uN fun h => P79x0 S r0 h) (tabN)
noncomputable def F79 (args : List Value) (h : Hp) : CRes := packVals [Kd.v] args fun al => rec' T79 1000000 0 al h
def nt79 : Nat := 1 + (4 - 1)
theorem q79x0 (S : Sg) (r0 : Value) (h : Hp) : P79x0 S r0 h = stepAt (regK env orc39 (nt79)) (finK env Try.f79.results.toList) (collect B79 A79 []) 0 S (AL.v r0 AL.n) h := by kernel_rfl
theorem t79 (S : Sg) : Tab (fun l vs h => stepAt (regK env orc39 nt79) (finK env Try.f79.results.toList) (collect B79 A79 []) l S vs h) (T79 S) := by
  unfold T79
  refine Tab.cons 0 (fun vs0 h q e0 => ?_) ?_
  · obtain ⟨r0, vs1, rfl, e1⟩ := uV_some e0
    obtain ⟨rfl, ee⟩ := uN_some e1
    exact (q79x0 S r0 h).symm.trans ee
  exact Tab.nil
theorem r79 : ∀ args h v h', F79 args h = some (v, h') → Runs (C39) (.call 79 args.toArray h) (.ret v h') := by
  intro args h v h' e
  exact fun_sound (C := C39) (fn := Try.f79) (body := B79) (np := 1) (A := A79) (T := T79) (kinds := [Kd.v]) (by kernel_rfl) (by kernel_rfl) (by kernel_rfl) (by kernel_rfl) (regK_ok env_ok) (by kernel_rfl) (fun S => t79 S) e
noncomputable def orc40 := orcQ 79 F79 orc39
noncomputable def C40 : Cfg := cfg orc40
theorem ok40 : C40.Ok := orcQ_ok (C := C39) ok39 r79
noncomputable def B102 : Code := (Try.f102.body).getD .skip
def A102 : Ann := (Ann.node (some (0, [(0, Kd.v)])) bl (bn bl bl))
noncomputable def P102x0 (S : Sg) (r0 : Value) (h : Hp) : CRes :=
  allocK h 97 (Array.toList (Value.cells r0)) fun a0 h0 =>
  loadNK 7 h0 a0 fun v1 =>
  optK (buildV env 161 (List.toArray [(0, (Value.func (.func 116) (List.toArray [v1]) (List.toArray []))), (1, (Value.bool true))])) fun v2 =>
  loadNK 7 h0 a0 fun v3 =>
  optK (buildV env 161 (List.toArray [(0, (Value.func (.func 117) (List.toArray [v3]) (List.toArray []))), (1, (Value.bool true))])) fun v4 =>
  loadNK 7 h0 a0 fun v5 =>
  optK (buildV env 161 (List.toArray [(0, (Value.func (.func 118) (List.toArray [v5]) (List.toArray []))), (1, (Value.bool false))])) fun v6 =>
  pairK (buildSliceV env h0 147 3 (List.toArray [(0, v2), (1, v4), (2, v6)])) fun v7 h7 =>
  some (v7, h7)
noncomputable def T102 (S : Sg) : Sg := tabC 0 (uV fun r0 => uN fun h => P102x0 S r0 h) (tabN)
noncomputable def F102 (args : List Value) (h : Hp) : CRes := packVals [Kd.v] args fun al => rec' T102 1000000 0 al h
def nt102 : Nat := 1 + (13 - 1)
theorem q102x0 (S : Sg) (r0 : Value) (h : Hp) : P102x0 S r0 h = stepAt (regK env orc40 (nt102)) (finK env Try.f102.results.toList) (collect B102 A102 []) 0 S (AL.v r0 AL.n) h := by kernel_rfl
theorem t102 (S : Sg) : Tab (fun l vs h => stepAt (regK env orc40 nt102) (finK env Try.f102.results.toList) (collect B102 A102 []) l S vs h) (T102 S) := by
  unfold T102
  refine Tab.cons 0 (fun vs0 h q e0 => ?_) ?_
  · obtain ⟨r0, vs1, rfl, e1⟩ := uV_some e0
    obtain ⟨rfl, ee⟩ := uN_some e1
    exact (q102x0 S r0 h).symm.trans ee
  exact Tab.nil
theorem r102 : ∀ args h v h', F102 args h = some (v, h') → Runs (C40) (.call 102 args.toArray h) (.ret v h') := by
  intro args h v h' e
  exact fun_sound (C := C40) (fn := Try.f102) (body := B102) (np := 1) (A := A102) (T := T102) (kinds := [Kd.v]) (by kernel_rfl) (by kernel_rfl) (by kernel_rfl) (by kernel_rfl) (regK_ok env_ok) (by kernel_rfl) (fun S => t102 S) e
noncomputable def orc41 := orcQ 102 F102 orc40
noncomputable def C41 : Cfg := cfg orc41
theorem ok41 : C41.Ok := orcQ_ok (C := C40) ok40 r102
noncomputable def B67 : Code := (Try.f67.body).getD .skip
def A67 : Ann := (Ann.node (some (0, [(0, Kd.v)])) bl (bn bl (bn bl bl)))
noncomputable def P67x0 (S : Sg) (r0 : Value) (h : Hp) : CRes :=
  allocK h 97 (Array.toList (Value.cells r0)) fun a0 h0 =>
  loadNK 7 (Hp.mk (Hp.next h0) (Hp.next h0) (Hp.objs h0)) a0 fun v1 =>
  leftK v1 (Hp.next h0) (Hp.mk (Hp.next h0) (Hp.next h0) (Hp.objs h0)) fun w2 n2 =>
  pairK (callQ F101 [v1] (Hp.mk n2 n2 (addAll w2 (Hp.objs h0)))) fun v3 h3 =>
  leftK v3 n2 h3 fun w4 n4 =>
  loadNK 7 (Hp.mk n4 n4 (Hp.objs h0)) a0 fun v5 =>
  leftK v5 n4 (Hp.mk n4 n4 (Hp.objs h0)) fun w6 n6 =>
  pairK (callQ F102 [v5] (Hp.mk n6 n6 (addAll w6 (addAll w4 (addAll w2 (Hp.objs h0)))))) fun v7 h7 =>
  leftK v7 n6 h7 fun w8 n8 =>
  allocK (Hp.mk n8 n8 T.nil) 24 [(Value.slice none 0 0)] fun a9 h9 =>
  leftK a9 n8 h9 fun w10 n10 =>
  allocK (Hp.mk n10 n10 T.nil) 147 [(Value.slice none 0 0)] fun a11 h11 =>
  leftK a11 n10 h11 fun w12 n12 =>
  store1K (Hp.mk n12 (Hp.ro h0) (addAll w12 (addAll w10 (addAll w8 (addAll w6 (addAll w4 (addAll w2 (Hp.objs h0)))))))) a9 v3 fun h13 =>
  store1K h13 a11 v7 fun h14 =>
  some ((Value.func (.func 103) (List.toArray []) (List.toArray [a0, a11, a9])), h14)
noncomputable def T67 (S : Sg) : Sg := tabC 0 (uV fun r0 => uN fun h => P67x0 S r0 h) (tabN)
noncomputable def F67 (args : List Value) (h : Hp) : CRes := packVals [Kd.v] args fun al => rec' T67 1000000 0 al h
def nt67 : Nat := 1 + (10 - 1)
theorem q67x0 (S : Sg) (r0 : Value) (h : Hp) : P67x0 S r0 h = stepAt (regK env orc41 (nt67)) (finK env Try.f67.results.toList) (collect B67 A67 []) 0 S (AL.v r0 AL.n) h := by kernel_rfl
theorem t67 (S : Sg) : Tab (fun l vs h => stepAt (regK env orc41 nt67) (finK env Try.f67.results.toList) (collect B67 A67 []) l S vs h) (T67 S) := by
  unfold T67
  refine Tab.cons 0 (fun vs0 h q e0 => ?_) ?_
  · obtain ⟨r0, vs1, rfl, e1⟩ := uV_some e0
    obtain ⟨rfl, ee⟩ := uN_some e1
    exact (q67x0 S r0 h).symm.trans ee
  exact Tab.nil
theorem r67 : ∀ args h v h', F67 args h = some (v, h') → Runs (C41) (.call 67 args.toArray h) (.ret v h') := by
  intro args h v h' e
  exact fun_sound (C := C41) (fn := Try.f67) (body := B67) (np := 1) (A := A67) (T := T67) (kinds := [Kd.v]) (by kernel_rfl) (by kernel_rfl) (by kernel_rfl) (by kernel_rfl) (regK_ok env_ok) (by kernel_rfl) (fun S => t67 S) e
noncomputable def orc42 := orcQ 67 F67 orc41
noncomputable def C42 : Cfg := cfg orc42
theorem ok42 : C42.Ok := orcQ_ok (C := C41) ok41 r67
noncomputable def B69 : Code := (Try.f69.body).getD .skip
def A69 : Ann := (Ann.node (some (0, [(0, Kd.v), (1, Kd.v)])) bl (bn bl (bn bl (bn bl bl))))
noncomputable def P69x0 (S : Sg) (r0 : Value) (r1 : Value) (h : Hp) : CRes :=
  allocK h 97 (Array.toList (Value.cells r0)) fun a0 h0 =>
  allocK h0 112 (Array.toList (Value.cells r1)) fun a1 h1 =>
  allocK h1 41 [(Value.int .i64 (Int.ofNat 0)), (Value.slice none 0 0)] fun a2 h2 =>
  ptrAddK 0 a0 fun v3 =>
  ptrAddK 5 v3 fun v4 =>
  load1K h2 v4 fun v5 =>
  lenSK v5 fun i6 =>
  pairK (makeSliceV env h2 24 (Value.int .i64 i6) (Value.int .i64 i6)) fun v7 h7 =>
  ptrAddK 1 a1 fun v8 =>
  optK (sliceV env h7 110 v8 none none none) fun v9 =>
  pairK (copyV env h7 #[24, 24] (List.toArray [v7, v9])) fun v10 h10 =>
  ptrAddK 0 a1 fun v11 =>
  load1K h10 v11 fun v12 =>
  intK .i64 v12 fun i13 =>
  optK (buildV env 41 (List.toArray [(0, (Value.int .i64 i13)), (1, v7)])) fun v14 =>
  storeNK 2 h10 a2 v14 fun h15 =>
  loadNK 2 h15 a2 fun v16 => some (v16, h15)
noncomputable def T69 (S : Sg) : Sg := tabC 0 (uV fun r0 => uV fun r1 => uN fun h => P69x0 S r0 r1 h) (tabN)
noncomputable def F69 (args : List Value) (h : Hp) : CRes := packVals [Kd.v, Kd.v] args fun al => rec' T69 1000000 0 al h
def nt69 : Nat := 2 + (19 - 2)
theorem q69x0 (S : Sg) (r0 : Value) (r1 : Value) (h : Hp) : P69x0 S r0 r1 h = stepAt (regK env orc42 (nt69)) (finK env Try.f69.results.toList) (collect B69 A69 []) 0 S (AL.v r0 (AL.v r1 AL.n)) h := by kernel_rfl
theorem t69 (S : Sg) : Tab (fun l vs h => stepAt (regK env orc42 nt69) (finK env Try.f69.results.toList) (collect B69 A69 []) l S vs h) (T69 S) := by
  unfold T69
  refine Tab.cons 0 (fun vs0 h q e0 => ?_) ?_
  · obtain ⟨r0, vs1, rfl, e1⟩ := uV_some e0
    obtain ⟨r1, vs2, rfl, e2⟩ := uV_some e1
    obtain ⟨rfl, ee⟩ := uN_some e2
    exact (q69x0 S r0 r1 h).symm.trans ee
  exact Tab.nil
theorem r69 : ∀ args h v h', F69 args h = some (v, h') → Runs (C42) (.call 69 args.toArray h) (.ret v h') := by
  intro args h v h' e
  exact fun_sound (C := C42) (fn := Try.f69) (body := B69) (np := 2) (A := A69) (T := T69) (kinds := [Kd.v, Kd.v]) (by kernel_rfl) (by kernel_rfl) (by kernel_rfl) (by kernel_rfl) (regK_ok env_ok) (by kernel_rfl) (fun S => t69 S) e
noncomputable def orc43 := orcQ 69 F69 orc42
noncomputable def C43 : Cfg := cfg orc43
theorem ok43 : C43.Ok := orcQ_ok (C := C42) ok42 r69
noncomputable def B23 : Code := (Try.f23.body).getD .skip
noncomputable def A23 : G.Ann (List KI) := (G.Ann.node (some (0, [KI.reg 0 (Kd.i .i64), KI.reg 1 (Kd.v)])) al (an al al))
noncomputable def P23x0 (h : Hp) (S : Nat → PAL → Option Value) (r0 : Int) (r1 : Value) : Option Value :=
  optK (buildV env 41 (List.toArray [(0, (Value.int .i64 r0)), (1, r1)])) fun v0 =>
  aggK v0 fun l1 => ifB (Nat.beq (lenR l1) 2) (segR 0 l1 [(Value.int .i64 (Int.ofNat 0)), (Value.slice none 0 0)] fun c1 =>
  dropR c1 0 fun d2 => takeR d2 2 fun l2 => some (Value.agg (Array.mk l2))) none
noncomputable def T23 (h : Hp) (S : Nat → PAL → Option Value) : Nat → PAL → Option Value := tabPC 0 (wI fun r0 => wV fun r1 => wN (P23x0 h S r0 r1)) (tabPN)
noncomputable def F23 (args : List Value) (h : Hp) : Option Value := plainO (packArgs [Kd.i .i64, Kd.v] args fun al => G.rec' (T23 h) 1000000 0 al)
def nt23 : Nat := 2 + (8 - 2)
theorem q23x0 (h : Hp) (S : Nat → PAL → Option Value) (r0 : Int) (r1 : Value) : P23x0 h S r0 r1 = G.stepAt packP unpackP evXV (regP env pf11 nt23 h) (finP env Try.f23.results.toList) (G.collect B23 A23 []) 0 S (PAL.i r0 (PAL.v r1 PAL.n)) := by kernel_rfl
theorem t23 (h : Hp) (S : Nat → PAL → Option Value) : TabP (fun l al => G.stepAt packP unpackP evXV (regP env pf11 nt23 h) (finP env Try.f23.results.toList) (G.collect B23 A23 []) l S al) (T23 h S) := by
  unfold T23
  refine TabP.cons 0 (fun vs0 q e0 => ?_) ?_
  · obtain ⟨r0, vs1, rfl, e1⟩ := wI_some e0
    obtain ⟨r1, vs2, rfl, e2⟩ := wV_some e1
    obtain ⟨rfl, ee⟩ := wN_some e2
    exact (q23x0 h S r0 r1).symm.trans ee
  exact TabP.nil
theorem r23 : PSound Try.prog 23 F23 := fun_soundP (C := C0) ok0 (pf := pf11) pfok11 (fn := Try.f23) (body := B23) (kinds := [Kd.i .i64, Kd.v]) (A := A23) (T := T23) (by kernel_rfl) (by kernel_rfl) (by kernel_rfl) (by kernel_rfl) (fun h S => t23 h S)
noncomputable def pf12 : PF := pfC 23 F23 pf11
theorem pfok12 : PfSound Try.prog pf12 := pfC_ok r23 pfok11
noncomputable def orc44 := orcP 23 F23 orc43
noncomputable def C44 : Cfg := cfg orc44
theorem ok44 : C44.Ok := orcP_ok (C := C43) ok43 r23
noncomputable def B122 : Code := (Try.f122.body).getD .skip
noncomputable def A122 : G.Ann (List KI) := (G.Ann.node (some (0, [KI.reg 0 (Kd.v), KI.reg 1 (Kd.i .i64)])) al (an (an al (an (G.Ann.node (some (1, [KI.reg 0 (Kd.v), KI.reg 1 (Kd.i .i64), KI.reg 7 (Kd.i .i64), KI.reg 8 (Kd.i .i64)])) (an al (an (an al al) (an (an (an al (an al (an (an al al) al))) al) al))) al) al)) (G.Ann.node (some (2, [])) al al)))
noncomputable def P122x2 (h : Hp) (S : Nat → PAL → Option Value) : Option Value :=
  some (Value.int .i64 (Int.negSucc 0))
noncomputable def P122x1 (h : Hp) (S : Nat → PAL → Option Value) (r0 : Value) (r1 : Int) (r7 : Int) (r8 : Int) : Option Value :=
  boolZ (ltZ r8 r7) fun b0 =>
  ifB b0
  (idxSK 1 r0 r8 fun v1 =>
  load1K h v1 fun v2 =>
  intK .i64 v2 fun i3 =>
  boolZ (eqZ r1 i3) fun b4 =>
  ifB b4
  (some (Value.int .i64 r8))
  (wrap64 (Int.add r8 (Int.ofNat 1)) fun i5 =>
  S 1 (PAL.v r0 (PAL.i r1 (PAL.i r7 (PAL.i i5 PAL.n))))))
  (S 2 PAL.n)
noncomputable def P122x0 (h : Hp) (S : Nat → PAL → Option Value) (r0 : Value) (r1 : Int) : Option Value :=
  lenSK r0 fun i0 =>
  S 1 (PAL.v r0 (PAL.i r1 (PAL.i i0 (PAL.i (Int.ofNat 0) PAL.n))))
noncomputable def T122 (h : Hp) (S : Nat → PAL → Option Value) : Nat → PAL → Option Value := tabPC 0 (wV fun r0 => wI fun r1 => wN (P122x0 h S r0 r1)) (tabPC 1 (wV fun r0 => wI fun r1 => wI fun r7 => wI fun r8 => wN (P122x1 h S r0 r1 r7 r8)) (tabPC 2 (wN (P122x2 h S)) (tabPN)))
noncomputable def F122 (args : List Value) (h : Hp) : Option Value := plainO (packArgs [Kd.v, Kd.i .i64] args fun al => G.rec' (T122 h) 1000000 0 al)
def nt122 : Nat := 2 + (19 - 2)
theorem q122x2 (h : Hp) (S : Nat → PAL → Option Value) : P122x2 h S = G.stepAt packP unpackP evXV (regP env pf12 nt122 h) (finP env Try.f122.results.toList) (G.collect B122 A122 []) 2 S PAL.n := by kernel_rfl
theorem q122x1 (h : Hp) (S : Nat → PAL → Option Value) (r0 : Value) (r1 : Int) (r7 : Int) (r8 : Int) : P122x1 h S r0 r1 r7 r8 = G.stepAt packP unpackP evXV (regP env pf12 nt122 h) (finP env Try.f122.results.toList) (G.collect B122 A122 []) 1 S (PAL.v r0 (PAL.i r1 (PAL.i r7 (PAL.i r8 PAL.n)))) := by kernel_rfl
theorem q122x0 (h : Hp) (S : Nat → PAL → Option Value) (r0 : Value) (r1 : Int) : P122x0 h S r0 r1 = G.stepAt packP unpackP evXV (regP env pf12 nt122 h) (finP env Try.f122.results.toList) (G.collect B122 A122 []) 0 S (PAL.v r0 (PAL.i r1 PAL.n)) := by kernel_rfl
theorem t122 (h : Hp) (S : Nat → PAL → Option Value) : TabP (fun l al => G.stepAt packP unpackP evXV (regP env pf12 nt122 h) (finP env Try.f122.results.toList) (G.collect B122 A122 []) l S al) (T122 h S) := by
  unfold T122
  refine TabP.cons 0 (fun vs0 q e0 => ?_) ?_
  · obtain ⟨r0, vs1, rfl, e1⟩ := wV_some e0
    obtain ⟨r1, vs2, rfl, e2⟩ := wI_some e1
    obtain ⟨rfl, ee⟩ := wN_some e2
    exact (q122x0 h S r0 r1).symm.trans ee
  refine TabP.cons 1 (fun vs0 q e0 => ?_) ?_
  · obtain ⟨r0, vs1, rfl, e1⟩ := wV_some e0
    obtain ⟨r1, vs2, rfl, e2⟩ := wI_some e1
    obtain ⟨r7, vs3, rfl, e3⟩ := wI_some e2
    obtain ⟨r8, vs4, rfl, e4⟩ := wI_some e3
    obtain ⟨rfl, ee⟩ := wN_some e4
    exact (q122x1 h S r0 r1 r7 r8).symm.trans ee
  refine TabP.cons 2 (fun vs0 q e0 => ?_) ?_
  · 
    obtain ⟨rfl, ee⟩ := wN_some e0
    exact (q122x2 h S).symm.trans ee
  exact TabP.nil
theorem r122 : PSound Try.prog 122 F122 := fun_soundP (C := C0) ok0 (pf := pf12) pfok12 (fn := Try.f122) (body := B122) (kinds := [Kd.v, Kd.i .i64]) (A := A122) (T := T122) (by kernel_rfl) (by kernel_rfl) (by kernel_rfl) (by kernel_rfl) (fun h S => t122 h S)
noncomputable def pf13 : PF := pfC 122 F122 pf12
theorem pfok13 : PfSound Try.prog pf13 := pfC_ok r122 pfok12
noncomputable def orc45 := orcP 122 F122 orc44
noncomputable def C45 : Cfg := cfg orc45
theorem ok45 : C45.Ok := orcP_ok (C := C44) ok44 r122
noncomputable def B121 : Code := (Try.f121.body).getD .skip
noncomputable def A121 : G.Ann (List KI) := (G.Ann.node (some (0, [KI.reg 0 (Kd.v), KI.reg 1 (Kd.i .i64)])) al (an al al))
noncomputable def P121x0 (h : Hp) (S : Nat → PAL → Option Value) (r0 : Value) (r1 : Int) : Option Value :=
  optK (F122 [r0, (Value.int .i64 r1)] h) fun v0 =>
  intK .i64 v0 fun i1 =>
  boolN (ltZ i1 (Int.ofNat 0)) fun b2 =>
  some (Value.bool b2)
noncomputable def T121 (h : Hp) (S : Nat → PAL → Option Value) : Nat → PAL → Option Value := tabPC 0 (wV fun r0 => wI fun r1 => wN (P121x0 h S r0 r1)) (tabPN)
noncomputable def F121 (args : List Value) (h : Hp) : Option Value := plainO (packArgs [Kd.v, Kd.i .i64] args fun al => G.rec' (T121 h) 1000000 0 al)
def nt121 : Nat := 2 + (9 - 2)
theorem q121x0 (h : Hp) (S : Nat → PAL → Option Value) (r0 : Value) (r1 : Int) : P121x0 h S r0 r1 = G.stepAt packP unpackP evXV (regP env pf13 nt121 h) (finP env Try.f121.results.toList) (G.collect B121 A121 []) 0 S (PAL.v r0 (PAL.i r1 PAL.n)) := by kernel_rfl
theorem t121 (h : Hp) (S : Nat → PAL → Option Value) : TabP (fun l al => G.stepAt packP unpackP evXV (regP env pf13 nt121 h) (finP env Try.f121.results.toList) (G.collect B121 A121 []) l S al) (T121 h S) := by
  unfold T121
  refine TabP.cons 0 (fun vs0 q e0 => ?_) ?_
  · obtain ⟨r0, vs1, rfl, e1⟩ := wV_some e0
    obtain ⟨r1, vs2, rfl, e2⟩ := wI_some e1
    obtain ⟨rfl, ee⟩ := wN_some e2
    exact (q121x0 h S r0 r1).symm.trans ee
  exact TabP.nil
theorem r121 : PSound Try.prog 121 F121 := fun_soundP (C := C0) ok0 (pf := pf13) pfok13 (fn := Try.f121) (body := B121) (kinds := [Kd.v, Kd.i .i64]) (A := A121) (T := T121) (by kernel_rfl) (by kernel_rfl) (by kernel_rfl) (by kernel_rfl) (fun h S => t121 h S)
noncomputable def pf14 : PF := pfC 121 F121 pf13
theorem pfok14 : PfSound Try.prog pf14 := pfC_ok r121 pfok13
noncomputable def orc46 := orcP 121 F121 orc45
noncomputable def C46 : Cfg := cfg orc46
theorem ok46 : C46.Ok := orcP_ok (C := C45) ok45 r121
noncomputable def B111 : Code := (Try.f111.body).getD .skip
def A111 : Ann := (Ann.node (some (0, [(0, Kd.v), (1, Kd.v)])) bl (bn (bn bl (bn bl (bn (bn bl bl) bl))) (bn (bn bl (bn (bn bl bl) bl)) (bn (bn bl (bn (Ann.node (some (1, [(2, Kd.v), (3, Kd.v), (26, Kd.v), (27, Kd.i .i64), (28, Kd.i .i64)])) (bn bl (bn (bn bl bl) (bn (bn (bn bl (bn bl (bn (bn bl bl) bl))) bl) bl))) bl) bl)) (Ann.node (some (4, [(3, Kd.v)])) (bn bl (bn (Ann.node (some (2, [(3, Kd.v), (46, Kd.v), (47, Kd.i .i64), (48, Kd.i .i64)])) (bn bl (bn (bn bl bl) (bn (bn (bn bl (bn bl (bn (bn bl bl) bl))) bl) bl))) bl) bl)) (Ann.node (some (3, [])) bl bl))))))
noncomputable def P111x3 (S : Sg) (h : Hp) : CRes :=
  some ((Value.int .i64 (Int.ofNat 0)), h)
noncomputable def P111x2 (S : Sg) (r3 : Value) (r46 : Value) (r47 : Int) (r48 : Int) (h : Hp) : CRes :=
  boolZ (ltZ r48 r47) fun b0 =>
  ifB b0
  (idxSK 1 r46 r48 fun v1 =>
  load1K h v1 fun v2 =>
  intK .i64 v2 fun i3 =>
  boolN (eqZ i3 (Int.negSucc 0)) fun b4 =>
  ifB b4
  (ptrAddK 1 r3 fun v5 =>
  load1K h v5 fun v6 =>
  optK (sliceV env h 24 v6 none (some (Value.int .i64 r48)) none) fun v7 =>
  pairK (optK (F121 [v7, (Value.int .i64 i3)] h) fun v => some (v, h)) fun v8 h8 =>
  boolK v8 fun b9 =>
  ifB b9
  (some ((Value.int .i64 (Int.ofNat 5)), h8))
  (wrap64 (Int.add r48 (Int.ofNat 1)) fun i10 =>
  S 2 (AL.v r3 (AL.v r46 (AL.i r47 (AL.i i10 AL.n)))) h8))
  (wrap64 (Int.add r48 (Int.ofNat 1)) fun i11 =>
  S 2 (AL.v r3 (AL.v r46 (AL.i r47 (AL.i i11 AL.n)))) h))
  (S 3 AL.n h)
noncomputable def P111x4 (S : Sg) (r3 : Value) (h : Hp) : CRes :=
  ptrAddK 1 r3 fun v0 =>
  load1K h v0 fun v1 =>
  lenSK v1 fun i2 =>
  S 2 (AL.v r3 (AL.v v1 (AL.i i2 (AL.i (Int.ofNat 0) AL.n)))) h
noncomputable def P111x1 (S : Sg) (r2 : Value) (r3 : Value) (r26 : Value) (r27 : Int) (r28 : Int) (h : Hp) : CRes :=
  boolZ (ltZ r28 r27) fun b0 =>
  ifB b0
  (idxSK 1 r26 r28 fun v1 =>
  load1K h v1 fun v2 =>
  intK .i64 v2 fun i3 =>
  boolN (eqZ i3 (Int.negSucc 0)) fun b4 =>
  ifB b4
  (ptrAddK 0 r2 fun v5 =>
  ptrAddK 4 v5 fun v6 =>
  load1K h v6 fun v7 =>
  lenSK v7 fun i8 =>
  pairK (buildSliceV env h 24 1 (List.toArray [(0, (Value.int .i64 i3))])) fun v9 h9 =>
  pairK (optK (F59 [(Value.int .i64 i8), v9] h9) fun v => some (v, h9)) fun v10 h10 =>
  boolK v10 fun b11 =>
  boolN b11 fun b12 =>
  ifB b12
  (some ((Value.int .i64 (Int.ofNat 4)), h10))
  (wrap64 (Int.add r28 (Int.ofNat 1)) fun i13 =>
  S 1 (AL.v r2 (AL.v r3 (AL.v r26 (AL.i r27 (AL.i i13 AL.n))))) h10))
  (wrap64 (Int.add r28 (Int.ofNat 1)) fun i14 =>
  S 1 (AL.v r2 (AL.v r3 (AL.v r26 (AL.i r27 (AL.i i14 AL.n))))) h))
  (S 4 (AL.v r3 AL.n) h)
noncomputable def P111x0 (S : Sg) (r0 : Value) (r1 : Value) (h : Hp) : CRes :=
  allocK h 97 (Array.toList (Value.cells r0)) fun a0 h0 =>
  allocK h0 41 (Array.toList (Value.cells r1)) fun a1 h1 =>
  loadNK 7 h1 a0 fun v2 =>
  ptrAddK 0 a1 fun v3 =>
  load1K h1 v3 fun v4 =>
  intK .i64 v4 fun i5 =>
  pairK (callQ F60 [v2, (Value.int .i64 i5)] h1) fun v6 h6 =>
  intK .i64 v6 fun i7 =>
  boolN (eqZ i7 (Int.ofNat 0)) fun b8 =>
  ifB b8
  (some ((Value.int .i64 i7), h6))
  (ptrAddK 1 a1 fun v9 =>
  load1K h6 v9 fun v10 =>
  lenSK v10 fun i11 =>
  ptrAddK 0 a0 fun v12 =>
  ptrAddK 5 v12 fun v13 =>
  load1K h6 v13 fun v14 =>
  lenSK v14 fun i15 =>
  boolN (eqZ i11 i15) fun b16 =>
  ifB b16
  (some ((Value.int .i64 (Int.ofNat 3)), h6))
  (ptrAddK 1 a1 fun v17 =>
  load1K h6 v17 fun v18 =>
  lenSK v18 fun i19 =>
  S 1 (AL.v a0 (AL.v a1 (AL.v v18 (AL.i i19 (AL.i (Int.ofNat 0) AL.n))))) h6))
noncomputable def T111 (S : Sg) : Sg := tabC 0 (uV fun r0 => uV fun r1 => uN fun h => P111x0 S r0 r1 h) (tabC 1 (uV fun r2 => uV fun r3 => uV fun r26 => uI fun r27 => uI fun r28 => uN fun h => P111x1 S r2 r3 r26 r27 r28 h) (tabC 4 (uV fun r3 => uN fun h => P111x4 S r3 h) (tabC 2 (uV fun r3 => uV fun r46 => uI fun r47 => uI fun r48 => uN fun h => P111x2 S r3 r46 r47 r48 h) (tabC 3 (uN fun h => P111x3 S  h) (tabN)))))
noncomputable def F111 (args : List Value) (h : Hp) : CRes := packVals [Kd.v, Kd.v] args fun al => rec' T111 1000000 0 al h
def nt111 : Nat := 2 + (64 - 2)
theorem q111x3 (S : Sg) (h : Hp) : P111x3 S  h = stepAt (regK env orc46 (nt111)) (finK env Try.f111.results.toList) (collect B111 A111 []) 3 S AL.n h := by kernel_rfl
theorem q111x2 (S : Sg) (r3 : Value) (r46 : Value) (r47 : Int) (r48 : Int) (h : Hp) : P111x2 S r3 r46 r47 r48 h = stepAt (regK env orc46 (nt111)) (finK env Try.f111.results.toList) (collect B111 A111 []) 2 S (AL.v r3 (AL.v r46 (AL.i r47 (AL.i r48 AL.n)))) h := by kernel_rfl
theorem q111x4 (S : Sg) (r3 : Value) (h : Hp) : P111x4 S r3 h = stepAt (regK env orc46 (nt111)) (finK env Try.f111.results.toList) (collect B111 A111 []) 4 S (AL.v r3 AL.n) h := by kernel_rfl
theorem q111x1 (S : Sg) (r2 : Value) (r3 : Value) (r26 : Value) (r27 : Int) (r28 : Int) (h : Hp) : P111x1 S r2 r3 r26 r27 r28 h = stepAt (regK env orc46 (nt111)) (finK env Try.f111.results.toList) (collect B111 A111 []) 1 S (AL.v r2 (AL.v r3 (AL.v r26 (AL.i r27 (AL.i r28 AL.n))))) h := by kernel_rfl
theorem q111x0 (S : Sg) (r0 : Value) (r1 : Value) (h : Hp) : P111x0 S r0 r1 h = stepAt (regK env orc46 (nt111)) (finK env Try.f111.results.toList) (collect B111 A111 []) 0 S (AL.v r0 (AL.v r1 AL.n)) h := by kernel_rfl
theorem t111 (S : Sg) : Tab (fun l vs h => stepAt (regK env orc46 nt111) (finK env Try.f111.results.toList) (collect B111 A111 []) l S vs h) (T111 S) := by
  unfold T111
  refine Tab.cons 0 (fun vs0 h q e0 => ?_) ?_
  · obtain ⟨r0, vs1, rfl, e1⟩ := uV_some e0
    obtain ⟨r1, vs2, rfl, e2⟩ := uV_some e1
    obtain ⟨rfl, ee⟩ := uN_some e2
    exact (q111x0 S r0 r1 h).symm.trans ee
  refine Tab.cons 1 (fun vs0 h q e0 => ?_) ?_
  · obtain ⟨r2, vs1, rfl, e1⟩ := uV_some e0
    obtain ⟨r3, vs2, rfl, e2⟩ := uV_some e1
    obtain ⟨r26, vs3, rfl, e3⟩ := uV_some e2
    obtain ⟨r27, vs4, rfl, e4⟩ := uI_some e3
    obtain ⟨r28, vs5, rfl, e5⟩ := uI_some e4
    obtain ⟨rfl, ee⟩ := uN_some e5
    exact (q111x1 S r2 r3 r26 r27 r28 h).symm.trans ee
  refine Tab.cons 4 (fun vs0 h q e0 => ?_) ?_
  · obtain ⟨r3, vs1, rfl, e1⟩ := uV_some e0
    obtain ⟨rfl, ee⟩ := uN_some e1
    exact (q111x4 S r3 h).symm.trans ee
  refine Tab.cons 2 (fun vs0 h q e0 => ?_) ?_
  · obtain ⟨r3, vs1, rfl, e1⟩ := uV_some e0
    obtain ⟨r46, vs2, rfl, e2⟩ := uV_some e1
    obtain ⟨r47, vs3, rfl, e3⟩ := uI_some e2
    obtain ⟨r48, vs4, rfl, e4⟩ := uI_some e3
    obtain ⟨rfl, ee⟩ := uN_some e4
    exact (q111x2 S r3 r46 r47 r48 h).symm.trans ee
  refine Tab.cons 3 (fun vs0 h q e0 => ?_) ?_
  · 
    obtain ⟨rfl, ee⟩ := uN_some e0
    exact (q111x3 S  h).symm.trans ee
  exact Tab.nil
theorem r111 : ∀ args h v h', F111 args h = some (v, h') → Runs (C46) (.call 111 args.toArray h) (.ret v h') := by
  intro args h v h' e
  exact fun_sound (C := C46) (fn := Try.f111) (body := B111) (np := 2) (A := A111) (T := T111) (kinds := [Kd.v, Kd.v]) (by kernel_rfl) (by kernel_rfl) (by kernel_rfl) (by kernel_rfl) (regK_ok env_ok) (by kernel_rfl) (fun S => t111 S) e
noncomputable def orc47 := orcQ 111 F111 orc46
noncomputable def C47 : Cfg := cfg orc47
theorem ok47 : C47.Ok := orcQ_ok (C := C46) ok46 r111
noncomputable def B83 : Code := (Try.f83.body).getD .skip
def A83 : Ann := (Ann.node (some (0, [(0, Kd.v), (1, Kd.v)])) bl (bn bl (bn (bn bl (bn (bn bl bl) bl)) (bn (bn bl (bn bl (bn (bn bl bl) bl))) (bn bl (bn bl (bn bl bl)))))))
noncomputable def P83x0 (S : Sg) (r0 : Value) (r1 : Value) (h : Hp) : CRes :=
  allocK h 28 (Array.toList (Value.cells r0)) fun a0 h0 =>
  allocK h0 41 (Array.toList (Value.cells r1)) fun a1 h1 =>
  allocK h1 97 [(Value.int .i64 (Int.ofNat 0)), (Value.int .i64 (Int.ofNat 0)), (Value.int .i64 (Int.ofNat 0)), (Value.slice none 0 0), (Value.slice none 0 0), (Value.slice none 0 0), (Value.slice none 0 0)] fun a2 h2 =>
  allocK h2 112 [(Value.int .i64 (Int.ofNat 0)), (Value.int .i64 (Int.ofNat 0)), (Value.int .i64 (Int.ofNat 0)), (Value.int .i64 (Int.ofNat 0)), (Value.int .i64 (Int.ofNat 0)), (Value.int .i64 (Int.ofNat 0))] fun a3 h3 =>
  loadNK 7 h3 a0 fun v4 =>
  pairK (callQ F58 [v4] h3) fun v5 h5 =>
  extK v5 0 fun v6 =>
  extK v5 1 fun v7 =>
  intK .i64 v7 fun i8 =>
  allocK h5 97 [(Value.int .i64 (Int.ofNat 0)), (Value.int .i64 (Int.ofNat 0)), (Value.int .i64 (Int.ofNat 0)), (Value.slice none 0 0), (Value.slice none 0 0), (Value.slice none 0 0), (Value.slice none 0 0)] fun a9 h9 =>
  storeNK 7 h9 a9 v6 fun h10 =>
  boolN (eqZ i8 (Int.ofNat 0)) fun b11 =>
  ifB b11
  (optK (buildV env 97 (List.toArray [])) fun v12 =>
  optK (buildV env 112 (List.toArray [])) fun v13 =>
  storeNK 7 h10 a2 v12 fun h14 =>
  storeNK 6 h14 a3 v13 fun h15 =>
  loadNK 7 h15 a2 fun v16 => loadNK 6 h15 a3 fun v17 => some (Value.tuple (List.toArray [v16, v17, (Value.int .i64 i8)]), h15))
  (loadNK 7 h10 a9 fun v18 =>
  loadNK 2 h10 a1 fun v19 =>
  pairK (callQ F111 [v18, v19] h10) fun v20 h20 =>
  intK .i64 v20 fun i21 =>
  boolN (eqZ i21 (Int.ofNat 0)) fun b22 =>
  ifB b22
  (optK (buildV env 97 (List.toArray [])) fun v23 =>
  optK (buildV env 112 (List.toArray [])) fun v24 =>
  storeNK 7 h20 a2 v23 fun h25 =>
  storeNK 6 h25 a3 v24 fun h26 =>
  loadNK 7 h26 a2 fun v27 => loadNK 6 h26 a3 fun v28 => some (Value.tuple (List.toArray [v27, v28, (Value.int .i64 i21)]), h26))
  (ptrAddK 0 a1 fun v29 =>
  leftK v29 (Hp.next h20) (Hp.mk (Hp.next h20) (Hp.next h20) T.nil) fun w30 n30 =>
  load1K (Hp.mk n30 n30 (addAll w30 (Hp.objs h20))) v29 fun v31 =>
  intK .i64 v31 fun i32 =>
  pairK (optK (F78 [] (Hp.mk n30 n30 (Hp.objs h20))) fun v => some (v, (Hp.mk n30 n30 (Hp.objs h20)))) fun v33 h33 =>
  leftK v33 n30 h33 fun w34 n34 =>
  optK (buildV env 112 (List.toArray [(0, (Value.int .i64 i32)), (1, v33)])) fun v35 =>
  leftK v35 n34 (Hp.mk n34 n34 T.nil) fun w36 n36 =>
  allocK (Hp.mk n36 n36 T.nil) 112 [(Value.int .i64 (Int.ofNat 0)), (Value.int .i64 (Int.ofNat 0)), (Value.int .i64 (Int.ofNat 0)), (Value.int .i64 (Int.ofNat 0)), (Value.int .i64 (Int.ofNat 0)), (Value.int .i64 (Int.ofNat 0))] fun a37 h37 =>
  leftK a37 n36 h37 fun w38 n38 =>
  storeNK 6 (Hp.mk n38 (Hp.ro h20) (addAll w38 (addAll w36 (addAll w34 (addAll w30 (Hp.objs h20)))))) a37 v35 fun h39 =>
  ptrAddK 1 a37 fun v40 =>
  optK (sliceV env h39 110 v40 none none none) fun v41 =>
  ptrAddK 1 a1 fun v42 =>
  load1K h39 v42 fun v43 =>
  pairK (copyV env h39 #[24, 24] (List.toArray [v41, v43])) fun v44 h44 =>
  loadNK 7 (Hp.mk (Hp.next h44) (Hp.next h44) (Hp.objs h44)) a9 fun v45 =>
  leftK v45 (Hp.next h44) (Hp.mk (Hp.next h44) (Hp.next h44) (Hp.objs h44)) fun w46 n46 =>
  loadNK 6 (Hp.mk n46 n46 (Hp.objs h44)) a37 fun v47 =>
  leftK v47 n46 (Hp.mk n46 n46 (Hp.objs h44)) fun w48 n48 =>
  storeQ env 97 a2 v45 n48 (Hp.next h44) (addAll w46 (Hp.objs h44)) (fun b => (hasBlk w46 b || false)) fun w49 =>
  storeNK 6 (Hp.mk n48 (Hp.ro h44) (addAll w49 (addAll w48 (addAll w46 (Hp.objs h44))))) a3 v47 fun h50 =>
  loadNK 7 h50 a2 fun v51 => loadNK 6 h50 a3 fun v52 => some (Value.tuple (List.toArray [v51, v52, (Value.int .i64 (Int.ofNat 0))]), h50)))
noncomputable def T83 (S : Sg) : Sg := tabC 0 (uV fun r0 => uV fun r1 => uN fun h => P83x0 S r0 r1 h) (tabN)
noncomputable def F83 (args : List Value) (h : Hp) : CRes := packVals [Kd.v, Kd.v] args fun al => rec' T83 1000000 0 al h
def nt83 : Nat := 2 + (40 - 2)
theorem q83x0 (S : Sg) (r0 : Value) (r1 : Value) (h : Hp) : P83x0 S r0 r1 h = stepAt (regK env orc47 (nt83)) (finK env Try.f83.results.toList) (collect B83 A83 []) 0 S (AL.v r0 (AL.v r1 AL.n)) h := by kernel_rfl
theorem t83 (S : Sg) : Tab (fun l vs h => stepAt (regK env orc47 nt83) (finK env Try.f83.results.toList) (collect B83 A83 []) l S vs h) (T83 S) := by
  unfold T83
  refine Tab.cons 0 (fun vs0 h q e0 => ?_) ?_
  · obtain ⟨r0, vs1, rfl, e1⟩ := uV_some e0
    obtain ⟨r1, vs2, rfl, e2⟩ := uV_some e1
    obtain ⟨rfl, ee⟩ := uN_some e2
    exact (q83x0 S r0 r1 h).symm.trans ee
  exact Tab.nil
theorem r83 : ∀ args h v h', F83 args h = some (v, h') → Runs (C47) (.call 83 args.toArray h) (.ret v h') := by
  intro args h v h' e
  exact fun_sound (C := C47) (fn := Try.f83) (body := B83) (np := 2) (A := A83) (T := T83) (kinds := [Kd.v, Kd.v]) (by kernel_rfl) (by kernel_rfl) (by kernel_rfl) (by kernel_rfl) (regK_ok env_ok) (by kernel_rfl) (fun S => t83 S) e
noncomputable def orc48 := orcQ 83 F83 orc47
noncomputable def C48 : Cfg := cfg orc48
theorem ok48 : C48.Ok := orcQ_ok (C := C47) ok47 r83
noncomputable def B73 : Code := (Try.f73.body).getD .skip
def A73 : Ann := (Ann.node (some (0, [(0, Kd.v), (1, Kd.i .i64)])) bl (bn bl (bn (bn bl (bn (Ann.node (some (1, [(1, Kd.i .i64), (2, Kd.v), (4, Kd.v), (5, Kd.v), (10, Kd.v), (11, Kd.i .i64), (12, Kd.i .i64)])) (bn bl (bn (bn bl bl) (bn (bn (bn bl (bn bl (bn bl bl))) bl) bl))) bl) bl)) (Ann.node (some (2, [(2, Kd.v), (4, Kd.v), (5, Kd.v)])) bl (bn bl bl)))))
noncomputable def P73x2 (S : Sg) (r2 : Value) (r4 : Value) (r5 : Value) (h : Hp) : CRes :=
  ptrAddK 0 r2 fun v0 =>
  ptrAddK 6 v0 fun v1 =>
  store1K h v1 r5 fun h2 =>
  loadNK 7 h2 r2 fun v3 =>
  storeNK 7 h2 r4 v3 fun h4 =>
  loadNK 7 h4 r4 fun v5 => some (v5, h4)
noncomputable def P73x1 (S : Sg) (r1 : Int) (r2 : Value) (r4 : Value) (r5 : Value) (r10 : Value) (r11 : Int) (r12 : Int) (h : Hp) : CRes :=
  boolZ (ltZ r12 r11) fun b0 =>
  ifB b0
  (idxSK 1 r10 r12 fun v1 =>
  load1K h v1 fun v2 =>
  intK .i64 v2 fun i3 =>
  pairK (optK (F100 [(Value.int .i64 r1), (Value.int .i64 r12)] h) fun v => some (v, h)) fun v4 h4 =>
  boolK v4 fun b5 =>
  boolN b5 fun b6 =>
  ifB b6
  (pairK (buildSliceV env h4 24 1 (List.toArray [(0, (Value.int .i64 i3))])) fun v7 h7 =>
  pairK (appendV env h7 #[24, 24] (List.toArray [r5, v7])) fun v8 h8 =>
  wrap64 (Int.add r12 (Int.ofNat 1)) fun i9 =>
  S 1 (AL.i r1 (AL.v r2 (AL.v r4 (AL.v v8 (AL.v r10 (AL.i r11 (AL.i i9 AL.n))))))) h8)
  (wrap64 (Int.add r12 (Int.ofNat 1)) fun i10 =>
  S 1 (AL.i r1 (AL.v r2 (AL.v r4 (AL.v r5 (AL.v r10 (AL.i r11 (AL.i i10 AL.n))))))) h4))
  (S 2 (AL.v r2 (AL.v r4 (AL.v r5 AL.n))) h)
noncomputable def P73x0 (S : Sg) (r0 : Value) (r1 : Int) (h : Hp) : CRes :=
  allocK h 97 (Array.toList (Value.cells r0)) fun a0 h0 =>
  allocK h0 97 [(Value.int .i64 (Int.ofNat 0)), (Value.int .i64 (Int.ofNat 0)), (Value.int .i64 (Int.ofNat 0)), (Value.slice none 0 0), (Value.slice none 0 0), (Value.slice none 0 0), (Value.slice none 0 0)] fun a1 h1 =>
  ptrAddK 0 a0 fun v2 =>
  ptrAddK 6 v2 fun v3 =>
  load1K h1 v3 fun v4 =>
  lenSK v4 fun i5 =>
  S 1 (AL.i r1 (AL.v a0 (AL.v a1 (AL.v (Value.slice none 0 0) (AL.v v4 (AL.i i5 (AL.i (Int.ofNat 0) AL.n))))))) h1
noncomputable def T73 (S : Sg) : Sg := tabC 0 (uV fun r0 => uI fun r1 => uN fun h => P73x0 S r0 r1 h) (tabC 1 (uI fun r1 => uV fun r2 => uV fun r4 => uV fun r5 => uV fun r10 => uI fun r11 => uI fun r12 => uN fun h => P73x1 S r1 r2 r4 r5 r10 r11 r12 h) (tabC 2 (uV fun r2 => uV fun r4 => uV fun r5 => uN fun h => P73x2 S r2 r4 r5 h) (tabN)))
noncomputable def F73 (args : List Value) (h : Hp) : CRes := packVals [Kd.v, Kd.i .i64] args fun al => rec' T73 1000000 0 al h
def nt73 : Nat := 2 + (30 - 2)
theorem q73x2 (S : Sg) (r2 : Value) (r4 : Value) (r5 : Value) (h : Hp) : P73x2 S r2 r4 r5 h = stepAt (regK env orc48 (nt73)) (finK env Try.f73.results.toList) (collect B73 A73 []) 2 S (AL.v r2 (AL.v r4 (AL.v r5 AL.n))) h := by kernel_rfl
theorem q73x1 (S : Sg) (r1 : Int) (r2 : Value) (r4 : Value) (r5 : Value) (r10 : Value) (r11 : Int) (r12 : Int) (h : Hp) : P73x1 S r1 r2 r4 r5 r10 r11 r12 h = stepAt (regK env orc48 (nt73)) (finK env Try.f73.results.toList) (collect B73 A73 []) 1 S (AL.i r1 (AL.v r2 (AL.v r4 (AL.v r5 (AL.v r10 (AL.i r11 (AL.i r12 AL.n))))))) h := by kernel_rfl
theorem q73x0 (S : Sg) (r0 : Value) (r1 : Int) (h : Hp) : P73x0 S r0 r1 h = stepAt (regK env orc48 (nt73)) (finK env Try.f73.results.toList) (collect B73 A73 []) 0 S (AL.v r0 (AL.i r1 AL.n)) h := by kernel_rfl
theorem t73 (S : Sg) : Tab (fun l vs h => stepAt (regK env orc48 nt73) (finK env Try.f73.results.toList) (collect B73 A73 []) l S vs h) (T73 S) := by
  unfold T73
  refine Tab.cons 0 (fun vs0 h q e0 => ?_) ?_
  · obtain ⟨r0, vs1, rfl, e1⟩ := uV_some e0
    obtain ⟨r1, vs2, rfl, e2⟩ := uI_some e1
    obtain ⟨rfl, ee⟩ := uN_some e2
    exact (q73x0 S r0 r1 h).symm.trans ee
  refine Tab.cons 1 (fun vs0 h q e0 => ?_) ?_
  · obtain ⟨r1, vs1, rfl, e1⟩ := uI_some e0
    obtain ⟨r2, vs2, rfl, e2⟩ := uV_some e1
    obtain ⟨r4, vs3, rfl, e3⟩ := uV_some e2
    obtain ⟨r5, vs4, rfl, e4⟩ := uV_some e3
    obtain ⟨r10, vs5, rfl, e5⟩ := uV_some e4
    obtain ⟨r11, vs6, rfl, e6⟩ := uI_some e5
    obtain ⟨r12, vs7, rfl, e7⟩ := uI_some e6
    obtain ⟨rfl, ee⟩ := uN_some e7
    exact (q73x1 S r1 r2 r4 r5 r10 r11 r12 h).symm.trans ee
  refine Tab.cons 2 (fun vs0 h q e0 => ?_) ?_
  · obtain ⟨r2, vs1, rfl, e1⟩ := uV_some e0
    obtain ⟨r4, vs2, rfl, e2⟩ := uV_some e1
    obtain ⟨r5, vs3, rfl, e3⟩ := uV_some e2
    obtain ⟨rfl, ee⟩ := uN_some e3
    exact (q73x2 S r2 r4 r5 h).symm.trans ee
  exact Tab.nil
theorem r73 : ∀ args h v h', F73 args h = some (v, h') → Runs (C48) (.call 73 args.toArray h) (.ret v h') := by
  intro args h v h' e
  exact fun_sound (C := C48) (fn := Try.f73) (body := B73) (np := 2) (A := A73) (T := T73) (kinds := [Kd.v, Kd.i .i64]) (by kernel_rfl) (by kernel_rfl) (by kernel_rfl) (by kernel_rfl) (regK_ok env_ok) (by kernel_rfl) (fun S => t73 S) e
noncomputable def orc49 := orcQ 73 F73 orc48
noncomputable def C49 : Cfg := cfg orc49
theorem ok49 : C49.Ok := orcQ_ok (C := C48) ok48 r73
noncomputable def B109 : Code := (Try.f109.body).getD .skip
noncomputable def A109 : G.Ann (List KI) := (G.Ann.node (some (0, [KI.reg 0 (Kd.i .u64)])) al (an al (an al (an al (an al (an al (an al (an al al))))))))
noncomputable def P109x0 (h : Hp) (S : Nat → PAL → Option Value) (r0 : Int) : Option Value :=
  shrZ .u64 r0 (Int.ofNat 1) (shrI (binW env .shr 155 (Value.int .u64 r0) (Value.int .u64 (Int.ofNat 1))) (Value.int .u64 r0) (Value.int .u64 (Int.ofNat 1))) fun i0 =>
  andZ .u64 i0 (Int.ofNat 6148914691236517205) (andI (binW env .and 155 (Value.int .u64 i0) (Value.int .u64 (Int.ofNat 6148914691236517205))) (Value.int .u64 i0) (Value.int .u64 (Int.ofNat 6148914691236517205))) fun i1 =>
  andZ .u64 r0 (Int.ofNat 6148914691236517205) (andI (binW env .and 155 (Value.int .u64 r0) (Value.int .u64 (Int.ofNat 6148914691236517205))) (Value.int .u64 r0) (Value.int .u64 (Int.ofNat 6148914691236517205))) fun i2 =>
  forceI (wrapF .u64 (Int.add i1 i2)) fun i3 =>
  shrZ .u64 i3 (Int.ofNat 2) (shrI (binW env .shr 155 (Value.int .u64 i3) (Value.int .u64 (Int.ofNat 2))) (Value.int .u64 i3) (Value.int .u64 (Int.ofNat 2))) fun i4 =>
  andZ .u64 i4 (Int.ofNat 3689348814741910323) (andI (binW env .and 155 (Value.int .u64 i4) (Value.int .u64 (Int.ofNat 3689348814741910323))) (Value.int .u64 i4) (Value.int .u64 (Int.ofNat 3689348814741910323))) fun i5 =>
  andZ .u64 i3 (Int.ofNat 3689348814741910323) (andI (binW env .and 155 (Value.int .u64 i3) (Value.int .u64 (Int.ofNat 3689348814741910323))) (Value.int .u64 i3) (Value.int .u64 (Int.ofNat 3689348814741910323))) fun i6 =>
  forceI (wrapF .u64 (Int.add i5 i6)) fun i7 =>
  shrZ .u64 i7 (Int.ofNat 4) (shrI (binW env .shr 155 (Value.int .u64 i7) (Value.int .u64 (Int.ofNat 4))) (Value.int .u64 i7) (Value.int .u64 (Int.ofNat 4))) fun i8 =>
  forceI (wrapF .u64 (Int.add i8 i7)) fun i9 =>
  andZ .u64 i9 (Int.ofNat 1085102592571150095) (andI (binW env .and 155 (Value.int .u64 i9) (Value.int .u64 (Int.ofNat 1085102592571150095))) (Value.int .u64 i9) (Value.int .u64 (Int.ofNat 1085102592571150095))) fun i10 =>
  shrZ .u64 i10 (Int.ofNat 8) (shrI (binW env .shr 155 (Value.int .u64 i10) (Value.int .u64 (Int.ofNat 8))) (Value.int .u64 i10) (Value.int .u64 (Int.ofNat 8))) fun i11 =>
  forceI (wrapF .u64 (Int.add i10 i11)) fun i12 =>
  shrZ .u64 i12 (Int.ofNat 16) (shrI (binW env .shr 155 (Value.int .u64 i12) (Value.int .u64 (Int.ofNat 16))) (Value.int .u64 i12) (Value.int .u64 (Int.ofNat 16))) fun i13 =>
  forceI (wrapF .u64 (Int.add i12 i13)) fun i14 =>
  shrZ .u64 i14 (Int.ofNat 32) (shrI (binW env .shr 155 (Value.int .u64 i14) (Value.int .u64 (Int.ofNat 32))) (Value.int .u64 i14) (Value.int .u64 (Int.ofNat 32))) fun i15 =>
  forceI (wrapF .u64 (Int.add i14 i15)) fun i16 =>
  wrap64 i16 fun i17 =>
  andZ .i64 i17 (Int.ofNat 127) (andI (binW env .and 3 (Value.int .i64 i17) (Value.int .i64 (Int.ofNat 127))) (Value.int .i64 i17) (Value.int .i64 (Int.ofNat 127))) fun i18 =>
  some (Value.int .i64 i18)
noncomputable def T109 (h : Hp) (S : Nat → PAL → Option Value) : Nat → PAL → Option Value := tabPC 0 (wI fun r0 => wN (P109x0 h S r0)) (tabPN)
noncomputable def F109 (args : List Value) (h : Hp) : Option Value := plainO (packArgs [Kd.i .u64] args fun al => G.rec' (T109 h) 1000000 0 al)
def nt109 : Nat := 1 + (35 - 1)
theorem q109x0 (h : Hp) (S : Nat → PAL → Option Value) (r0 : Int) : P109x0 h S r0 = G.stepAt packP unpackP evXV (regP env pf14 nt109 h) (finP env Try.f109.results.toList) (G.collect B109 A109 []) 0 S (PAL.i r0 PAL.n) := by kernel_rfl
theorem t109 (h : Hp) (S : Nat → PAL → Option Value) : TabP (fun l al => G.stepAt packP unpackP evXV (regP env pf14 nt109 h) (finP env Try.f109.results.toList) (G.collect B109 A109 []) l S al) (T109 h S) := by
  unfold T109
  refine TabP.cons 0 (fun vs0 q e0 => ?_) ?_
  · obtain ⟨r0, vs1, rfl, e1⟩ := wI_some e0
    obtain ⟨rfl, ee⟩ := wN_some e1
    exact (q109x0 h S r0).symm.trans ee
  exact TabP.nil
theorem r109 : PSound Try.prog 109 F109 := fun_soundP (C := C0) ok0 (pf := pf14) pfok14 (fn := Try.f109) (body := B109) (kinds := [Kd.i .u64]) (A := A109) (T := T109) (by kernel_rfl) (by kernel_rfl) (by kernel_rfl) (by kernel_rfl) (fun h S => t109 h S)
noncomputable def pf15 : PF := pfC 109 F109 pf14
theorem pfok15 : PfSound Try.prog pf15 := pfC_ok r109 pfok14
noncomputable def orc50 := orcP 109 F109 orc49
noncomputable def C50 : Cfg := cfg orc50
theorem ok50 : C50.Ok := orcP_ok (C := C49) ok49 r109
noncomputable def B76 : Code := (Try.f76.body).getD .skip
noncomputable def A76 : G.Ann (List KI) := (G.Ann.node (some (0, [KI.reg 0 (Kd.i .u64)])) al (an (an (an al al) al) (an al al)))
noncomputable def P76x0 (h : Hp) (S : Nat → PAL → Option Value) (r0 : Int) : Option Value :=
  optK (F109 [(Value.int .u64 r0)] h) fun v0 =>
  intK .i64 v0 fun i1 =>
  some (Value.int .i64 i1)
noncomputable def T76 (h : Hp) (S : Nat → PAL → Option Value) : Nat → PAL → Option Value := tabPC 0 (wI fun r0 => wN (P76x0 h S r0)) (tabPN)
noncomputable def F76 (args : List Value) (h : Hp) : Option Value := plainO (packArgs [Kd.i .u64] args fun al => G.rec' (T76 h) 1000000 0 al)
def nt76 : Nat := 1 + (8 - 1)
theorem q76x0 (h : Hp) (S : Nat → PAL → Option Value) (r0 : Int) : P76x0 h S r0 = G.stepAt packP unpackP evXV (regP env pf15 nt76 h) (finP env Try.f76.results.toList) (G.collect B76 A76 []) 0 S (PAL.i r0 PAL.n) := by kernel_rfl
theorem t76 (h : Hp) (S : Nat → PAL → Option Value) : TabP (fun l al => G.stepAt packP unpackP evXV (regP env pf15 nt76 h) (finP env Try.f76.results.toList) (G.collect B76 A76 []) l S al) (T76 h S) := by
  unfold T76
  refine TabP.cons 0 (fun vs0 q e0 => ?_) ?_
  · obtain ⟨r0, vs1, rfl, e1⟩ := wI_some e0
    obtain ⟨rfl, ee⟩ := wN_some e1
    exact (q76x0 h S r0).symm.trans ee
  exact TabP.nil
theorem r76 : PSound Try.prog 76 F76 := fun_soundP (C := C0) ok0 (pf := pf15) pfok15 (fn := Try.f76) (body := B76) (kinds := [Kd.i .u64]) (A := A76) (T := T76) (by kernel_rfl) (by kernel_rfl) (by kernel_rfl) (by kernel_rfl) (fun h S => t76 h S)
noncomputable def pf16 : PF := pfC 76 F76 pf15
theorem pfok16 : PfSound Try.prog pf16 := pfC_ok r76 pfok15
noncomputable def orc51 := orcP 76 F76 orc50
noncomputable def C51 : Cfg := cfg orc51
theorem ok51 : C51.Ok := orcP_ok (C := C50) ok50 r76
noncomputable def B106 : Code := (Try.f106.body).getD .skip
noncomputable def A106 : G.Ann (List KI) := (G.Ann.node (some (0, [KI.reg 0 (Kd.i .i64), KI.reg 1 (Kd.i .i64)])) al (an (an al (an al (an (an al al) al))) (an al (an al (an al al)))))
noncomputable def P106x0 (h : Hp) (S : Nat → PAL → Option Value) (r0 : Int) (r1 : Int) : Option Value :=
  forceI (wrapF .u64 r0) fun i0 =>
  optK (F76 [(Value.int .u64 i0)] h) fun v1 =>
  intK .i64 v1 fun i2 =>
  forceI (wrapF .u64 r1) fun i3 =>
  optK (F76 [(Value.int .u64 i3)] h) fun v4 =>
  intK .i64 v4 fun i5 =>
  boolN (eqZ i2 i5) fun b6 =>
  ifB b6
  (boolZ (ltZ i2 i5) fun b7 =>
  some (Value.bool b7))
  (slowI .i64 (xorI (binW env .xor 3 (Value.int .i64 r0) (Value.int .i64 r1)) (Value.int .i64 r0) (Value.int .i64 r1)) fun i8 =>
  wrap64 (Int.sub 0 i8) fun i9 =>
  andZ .i64 i8 i9 (andI (binW env .and 3 (Value.int .i64 i8) (Value.int .i64 i9)) (Value.int .i64 i8) (Value.int .i64 i9)) fun i10 =>
  andZ .i64 r0 i10 (andI (binW env .and 3 (Value.int .i64 r0) (Value.int .i64 i10)) (Value.int .i64 r0) (Value.int .i64 i10)) fun i11 =>
  boolN (eqZ i11 (Int.ofNat 0)) fun b12 =>
  some (Value.bool b12))
noncomputable def T106 (h : Hp) (S : Nat → PAL → Option Value) : Nat → PAL → Option Value := tabPC 0 (wI fun r0 => wI fun r1 => wN (P106x0 h S r0 r1)) (tabPN)
noncomputable def F106 (args : List Value) (h : Hp) : Option Value := plainO (packArgs [Kd.i .i64, Kd.i .i64] args fun al => G.rec' (T106 h) 1000000 0 al)
def nt106 : Nat := 2 + (32 - 2)
theorem q106x0 (h : Hp) (S : Nat → PAL → Option Value) (r0 : Int) (r1 : Int) : P106x0 h S r0 r1 = G.stepAt packP unpackP evXV (regP env pf16 nt106 h) (finP env Try.f106.results.toList) (G.collect B106 A106 []) 0 S (PAL.i r0 (PAL.i r1 PAL.n)) := by kernel_rfl
theorem t106 (h : Hp) (S : Nat → PAL → Option Value) : TabP (fun l al => G.stepAt packP unpackP evXV (regP env pf16 nt106 h) (finP env Try.f106.results.toList) (G.collect B106 A106 []) l S al) (T106 h S) := by
  unfold T106
  refine TabP.cons 0 (fun vs0 q e0 => ?_) ?_
  · obtain ⟨r0, vs1, rfl, e1⟩ := wI_some e0
    obtain ⟨r1, vs2, rfl, e2⟩ := wI_some e1
    obtain ⟨rfl, ee⟩ := wN_some e2
    exact (q106x0 h S r0 r1).symm.trans ee
  exact TabP.nil
theorem r106 : PSound Try.prog 106 F106 := fun_soundP (C := C0) ok0 (pf := pf16) pfok16 (fn := Try.f106) (body := B106) (kinds := [Kd.i .i64, Kd.i .i64]) (A := A106) (T := T106) (by kernel_rfl) (by kernel_rfl) (by kernel_rfl) (by kernel_rfl) (fun h S => t106 h S)
noncomputable def pf17 : PF := pfC 106 F106 pf16
theorem pfok17 : PfSound Try.prog pf17 := pfC_ok r106 pfok16
noncomputable def orc52 := orcP 106 F106 orc51
noncomputable def C52 : Cfg := cfg orc52
theorem ok52 : C52.Ok := orcP_ok (C := C51) ok51 r106
noncomputable def B119 : Code := (Try.f119.body).getD .skip
noncomputable def A119 : G.Ann (List KI) := (G.Ann.node (some (0, [KI.reg 0 (Kd.i .u32)])) al (an (an al (an (an al al) al)) (G.Ann.node (some (2, [KI.reg 0 (Kd.i .u32), KI.reg 2 (Kd.i .i64)])) (an al (an (an al al) al)) (G.Ann.node (some (1, [KI.reg 0 (Kd.i .u32), KI.reg 2 (Kd.i .i64)])) al al))))
noncomputable def P119x1 (h : Hp) (S : Nat → PAL → Option Value) (r0 : Int) (r2 : Int) : Option Value :=
  forceI (wrapF .u8 r0) fun i0 =>
  optK (indexV env 9 (Value.string (ByteArray.mk #[0, 1, 2, 2, 3, 3, 3, 3, 4, 4, 4, 4, 4, 4, 4, 4, 5, 5, 5, 5, 5, 5, 5, 5, 5, 5, 5, 5, 5, 5, 5, 5, 6, 6, 6, 6, 6, 6, 6, 6, 6, 6, 6, 6, 6, 6, 6, 6, 6, 6, 6, 6, 6, 6, 6, 6, 6, 6, 6, 6, 6, 6, 6, 6, 7, 7, 7, 7, 7, 7, 7, 7, 7, 7, 7, 7, 7, 7, 7, 7, 7, 7, 7, 7, 7, 7, 7, 7, 7, 7, 7, 7, 7, 7, 7, 7, 7, 7, 7, 7, 7, 7, 7, 7, 7, 7, 7, 7, 7, 7, 7, 7, 7, 7, 7, 7, 7, 7, 7, 7, 7, 7, 7, 7, 7, 7, 7, 7, 8, 8, 8, 8, 8, 8, 8, 8, 8, 8, 8, 8, 8, 8, 8, 8, 8, 8, 8, 8, 8, 8, 8, 8, 8, 8, 8, 8, 8, 8, 8, 8, 8, 8, 8, 8, 8, 8, 8, 8, 8, 8, 8, 8, 8, 8, 8, 8, 8, 8, 8, 8, 8, 8, 8, 8, 8, 8, 8, 8, 8, 8, 8, 8, 8, 8, 8, 8, 8, 8, 8, 8, 8, 8, 8, 8, 8, 8, 8, 8, 8, 8, 8, 8, 8, 8, 8, 8, 8, 8, 8, 8, 8, 8, 8, 8, 8, 8, 8, 8, 8, 8, 8, 8, 8, 8, 8, 8, 8, 8, 8, 8, 8, 8, 8, 8, 8, 8, 8, 8, 8, 8, 8, 8, 8, 8, 8, 8])) (Value.int .u8 i0)) fun v1 =>
  intK .u8 v1 fun i2 =>
  wrap64 i2 fun i3 =>
  wrap64 (Int.add r2 i3) fun i4 =>
  some (Value.int .i64 i4)
noncomputable def P119x2 (h : Hp) (S : Nat → PAL → Option Value) (r0 : Int) (r2 : Int) : Option Value :=
  boolN (ltZ r0 (Int.ofNat 256)) fun b0 =>
  ifB b0
  (shrZ .u32 r0 (Int.ofNat 8) (shrI (binW env .shr 153 (Value.int .u32 r0) (Value.int .u64 (Int.ofNat 8))) (Value.int .u32 r0) (Value.int .u64 (Int.ofNat 8))) fun i1 =>
  wrap64 (Int.add r2 (Int.ofNat 8)) fun i2 =>
  S 1 (PAL.i i1 (PAL.i i2 PAL.n)))
  (S 1 (PAL.i r0 (PAL.i r2 PAL.n)))
noncomputable def P119x0 (h : Hp) (S : Nat → PAL → Option Value) (r0 : Int) : Option Value :=
  boolN (ltZ r0 (Int.ofNat 65536)) fun b0 =>
  ifB b0
  (shrZ .u32 r0 (Int.ofNat 16) (shrI (binW env .shr 153 (Value.int .u32 r0) (Value.int .u64 (Int.ofNat 16))) (Value.int .u32 r0) (Value.int .u64 (Int.ofNat 16))) fun i1 =>
  S 2 (PAL.i i1 (PAL.i (Int.ofNat 16) PAL.n)))
  (S 2 (PAL.i r0 (PAL.i (Int.ofNat 0) PAL.n)))
noncomputable def T119 (h : Hp) (S : Nat → PAL → Option Value) : Nat → PAL → Option Value := tabPC 0 (wI fun r0 => wN (P119x0 h S r0)) (tabPC 2 (wI fun r0 => wI fun r2 => wN (P119x2 h S r0 r2)) (tabPC 1 (wI fun r0 => wI fun r2 => wN (P119x1 h S r0 r2)) (tabPN)))
noncomputable def F119 (args : List Value) (h : Hp) : Option Value := plainO (packArgs [Kd.i .u32] args fun al => G.rec' (T119 h) 1000000 0 al)
def nt119 : Nat := 1 + (19 - 1)
theorem q119x1 (h : Hp) (S : Nat → PAL → Option Value) (r0 : Int) (r2 : Int) : P119x1 h S r0 r2 = G.stepAt packP unpackP evXV (regP env pf17 nt119 h) (finP env Try.f119.results.toList) (G.collect B119 A119 []) 1 S (PAL.i r0 (PAL.i r2 PAL.n)) := by kernel_rfl
theorem q119x2 (h : Hp) (S : Nat → PAL → Option Value) (r0 : Int) (r2 : Int) : P119x2 h S r0 r2 = G.stepAt packP unpackP evXV (regP env pf17 nt119 h) (finP env Try.f119.results.toList) (G.collect B119 A119 []) 2 S (PAL.i r0 (PAL.i r2 PAL.n)) := by kernel_rfl
theorem q119x0 (h : Hp) (S : Nat → PAL → Option Value) (r0 : Int) : P119x0 h S r0 = G.stepAt packP unpackP evXV (regP env pf17 nt119 h) (finP env Try.f119.results.toList) (G.collect B119 A119 []) 0 S (PAL.i r0 PAL.n) := by kernel_rfl
theorem t119 (h : Hp) (S : Nat → PAL → Option Value) : TabP (fun l al => G.stepAt packP unpackP evXV (regP env pf17 nt119 h) (finP env Try.f119.results.toList) (G.collect B119 A119 []) l S al) (T119 h S) := by
  unfold T119
  refine TabP.cons 0 (fun vs0 q e0 => ?_) ?_
  · obtain ⟨r0, vs1, rfl, e1⟩ := wI_some e0
    obtain ⟨rfl, ee⟩ := wN_some e1
    exact (q119x0 h S r0).symm.trans ee
  refine TabP.cons 2 (fun vs0 q e0 => ?_) ?_
  · obtain ⟨r0, vs1, rfl, e1⟩ := wI_some e0
    obtain ⟨r2, vs2, rfl, e2⟩ := wI_some e1
    obtain ⟨rfl, ee⟩ := wN_some e2
    exact (q119x2 h S r0 r2).symm.trans ee
  refine TabP.cons 1 (fun vs0 q e0 => ?_) ?_
  · obtain ⟨r0, vs1, rfl, e1⟩ := wI_some e0
    obtain ⟨r2, vs2, rfl, e2⟩ := wI_some e1
    obtain ⟨rfl, ee⟩ := wN_some e2
    exact (q119x1 h S r0 r2).symm.trans ee
  exact TabP.nil
theorem r119 : PSound Try.prog 119 F119 := fun_soundP (C := C0) ok0 (pf := pf17) pfok17 (fn := Try.f119) (body := B119) (kinds := [Kd.i .u32]) (A := A119) (T := T119) (by kernel_rfl) (by kernel_rfl) (by kernel_rfl) (by kernel_rfl) (fun h S => t119 h S)
noncomputable def pf18 : PF := pfC 119 F119 pf17
theorem pfok18 : PfSound Try.prog pf18 := pfC_ok r119 pfok17
noncomputable def orc53 := orcP 119 F119 orc52
noncomputable def C53 : Cfg := cfg orc53
theorem ok53 : C53.Ok := orcP_ok (C := C52) ok52 r119
noncomputable def B120 : Code := (Try.f120.body).getD .skip
noncomputable def A120 : G.Ann (List KI) := (G.Ann.node (some (0, [KI.reg 0 (Kd.i .u64)])) al (an (an al (an (an al al) al)) (G.Ann.node (some (3, [KI.reg 0 (Kd.i .u64), KI.reg 2 (Kd.i .i64)])) (an al (an (an al al) al)) (G.Ann.node (some (2, [KI.reg 0 (Kd.i .u64), KI.reg 2 (Kd.i .i64)])) (an al (an (an al al) al)) (G.Ann.node (some (1, [KI.reg 0 (Kd.i .u64), KI.reg 2 (Kd.i .i64)])) al al)))))
noncomputable def P120x1 (h : Hp) (S : Nat → PAL → Option Value) (r0 : Int) (r2 : Int) : Option Value :=
  forceI (wrapF .u8 r0) fun i0 =>
  optK (indexV env 9 (Value.string (ByteArray.mk #[0, 1, 2, 2, 3, 3, 3, 3, 4, 4, 4, 4, 4, 4, 4, 4, 5, 5, 5, 5, 5, 5, 5, 5, 5, 5, 5, 5, 5, 5, 5, 5, 6, 6, 6, 6, 6, 6, 6, 6, 6, 6, 6, 6, 6, 6, 6, 6, 6, 6, 6, 6, 6, 6, 6, 6, 6, 6, 6, 6, 6, 6, 6, 6, 7, 7, 7, 7, 7, 7, 7, 7, 7, 7, 7, 7, 7, 7, 7, 7, 7, 7, 7, 7, 7, 7, 7, 7, 7, 7, 7, 7, 7, 7, 7, 7, 7, 7, 7, 7, 7, 7, 7, 7, 7, 7, 7, 7, 7, 7, 7, 7, 7, 7, 7, 7, 7, 7, 7, 7, 7, 7, 7, 7, 7, 7, 7, 7, 8, 8, 8, 8, 8, 8, 8, 8, 8, 8, 8, 8, 8, 8, 8, 8, 8, 8, 8, 8, 8, 8, 8, 8, 8, 8, 8, 8, 8, 8, 8, 8, 8, 8, 8, 8, 8, 8, 8, 8, 8, 8, 8, 8, 8, 8, 8, 8, 8, 8, 8, 8, 8, 8, 8, 8, 8, 8, 8, 8, 8, 8, 8, 8, 8, 8, 8, 8, 8, 8, 8, 8, 8, 8, 8, 8, 8, 8, 8, 8, 8, 8, 8, 8, 8, 8, 8, 8, 8, 8, 8, 8, 8, 8, 8, 8, 8, 8, 8, 8, 8, 8, 8, 8, 8, 8, 8, 8, 8, 8, 8, 8, 8, 8, 8, 8, 8, 8, 8, 8, 8, 8, 8, 8, 8, 8, 8, 8])) (Value.int .u8 i0)) fun v1 =>
  intK .u8 v1 fun i2 =>
  wrap64 i2 fun i3 =>
  wrap64 (Int.add r2 i3) fun i4 =>
  some (Value.int .i64 i4)
noncomputable def P120x2 (h : Hp) (S : Nat → PAL → Option Value) (r0 : Int) (r2 : Int) : Option Value :=
  boolN (ltZ r0 (Int.ofNat 256)) fun b0 =>
  ifB b0
  (shrZ .u64 r0 (Int.ofNat 8) (shrI (binW env .shr 155 (Value.int .u64 r0) (Value.int .u64 (Int.ofNat 8))) (Value.int .u64 r0) (Value.int .u64 (Int.ofNat 8))) fun i1 =>
  wrap64 (Int.add r2 (Int.ofNat 8)) fun i2 =>
  S 1 (PAL.i i1 (PAL.i i2 PAL.n)))
  (S 1 (PAL.i r0 (PAL.i r2 PAL.n)))
noncomputable def P120x3 (h : Hp) (S : Nat → PAL → Option Value) (r0 : Int) (r2 : Int) : Option Value :=
  boolN (ltZ r0 (Int.ofNat 65536)) fun b0 =>
  ifB b0
  (shrZ .u64 r0 (Int.ofNat 16) (shrI (binW env .shr 155 (Value.int .u64 r0) (Value.int .u64 (Int.ofNat 16))) (Value.int .u64 r0) (Value.int .u64 (Int.ofNat 16))) fun i1 =>
  wrap64 (Int.add r2 (Int.ofNat 16)) fun i2 =>
  S 2 (PAL.i i1 (PAL.i i2 PAL.n)))
  (S 2 (PAL.i r0 (PAL.i r2 PAL.n)))
noncomputable def P120x0 (h : Hp) (S : Nat → PAL → Option Value) (r0 : Int) : Option Value :=
  boolN (ltZ r0 (Int.ofNat 4294967296)) fun b0 =>
  ifB b0
  (shrZ .u64 r0 (Int.ofNat 32) (shrI (binW env .shr 155 (Value.int .u64 r0) (Value.int .u64 (Int.ofNat 32))) (Value.int .u64 r0) (Value.int .u64 (Int.ofNat 32))) fun i1 =>
  S 3 (PAL.i i1 (PAL.i (Int.ofNat 32) PAL.n)))
  (S 3 (PAL.i r0 (PAL.i (Int.ofNat 0) PAL.n)))
noncomputable def T120 (h : Hp) (S : Nat → PAL → Option Value) : Nat → PAL → Option Value := tabPC 0 (wI fun r0 => wN (P120x0 h S r0)) (tabPC 3 (wI fun r0 => wI fun r2 => wN (P120x3 h S r0 r2)) (tabPC 2 (wI fun r0 => wI fun r2 => wN (P120x2 h S r0 r2)) (tabPC 1 (wI fun r0 => wI fun r2 => wN (P120x1 h S r0 r2)) (tabPN))))
noncomputable def F120 (args : List Value) (h : Hp) : Option Value := plainO (packArgs [Kd.i .u64] args fun al => G.rec' (T120 h) 1000000 0 al)
def nt120 : Nat := 1 + (25 - 1)
theorem q120x1 (h : Hp) (S : Nat → PAL → Option Value) (r0 : Int) (r2 : Int) : P120x1 h S r0 r2 = G.stepAt packP unpackP evXV (regP env pf18 nt120 h) (finP env Try.f120.results.toList) (G.collect B120 A120 []) 1 S (PAL.i r0 (PAL.i r2 PAL.n)) := by kernel_rfl
theorem q120x2 (h : Hp) (S : Nat → PAL → Option Value) (r0 : Int) (r2 : Int) : P120x2 h S r0 r2 = G.stepAt packP unpackP evXV (regP env pf18 nt120 h) (finP env Try.f120.results.toList) (G.collect B120 A120 []) 2 S (PAL.i r0 (PAL.i r2 PAL.n)) := by kernel_rfl
theorem q120x3 (h : Hp) (S : Nat → PAL → Option Value) (r0 : Int) (r2 : Int) : P120x3 h S r0 r2 = G.stepAt packP unpackP evXV (regP env pf18 nt120 h) (finP env Try.f120.results.toList) (G.collect B120 A120 []) 3 S (PAL.i r0 (PAL.i r2 PAL.n)) := by kernel_rfl
theorem q120x0 (h : Hp) (S : Nat → PAL → Option Value) (r0 : Int) : P120x0 h S r0 = G.stepAt packP unpackP evXV (regP env pf18 nt120 h) (finP env Try.f120.results.toList) (G.collect B120 A120 []) 0 S (PAL.i r0 PAL.n) := by kernel_rfl
theorem t120 (h : Hp) (S : Nat → PAL → Option Value) : TabP (fun l al => G.stepAt packP unpackP evXV (regP env pf18 nt120 h) (finP env Try.f120.results.toList) (G.collect B120 A120 []) l S al) (T120 h S) := by
  unfold T120
  refine TabP.cons 0 (fun vs0 q e0 => ?_) ?_
  · obtain ⟨r0, vs1, rfl, e1⟩ := wI_some e0
    obtain ⟨rfl, ee⟩ := wN_some e1
    exact (q120x0 h S r0).symm.trans ee
  refine TabP.cons 3 (fun vs0 q e0 => ?_) ?_
  · obtain ⟨r0, vs1, rfl, e1⟩ := wI_some e0
    obtain ⟨r2, vs2, rfl, e2⟩ := wI_some e1
    obtain ⟨rfl, ee⟩ := wN_some e2
    exact (q120x3 h S r0 r2).symm.trans ee
  refine TabP.cons 2 (fun vs0 q e0 => ?_) ?_
  · obtain ⟨r0, vs1, rfl, e1⟩ := wI_some e0
    obtain ⟨r2, vs2, rfl, e2⟩ := wI_some e1
    obtain ⟨rfl, ee⟩ := wN_some e2
    exact (q120x2 h S r0 r2).symm.trans ee
  refine TabP.cons 1 (fun vs0 q e0 => ?_) ?_
  · obtain ⟨r0, vs1, rfl, e1⟩ := wI_some e0
    obtain ⟨r2, vs2, rfl, e2⟩ := wI_some e1
    obtain ⟨rfl, ee⟩ := wN_some e2
    exact (q120x1 h S r0 r2).symm.trans ee
  exact TabP.nil
theorem r120 : PSound Try.prog 120 F120 := fun_soundP (C := C0) ok0 (pf := pf18) pfok18 (fn := Try.f120) (body := B120) (kinds := [Kd.i .u64]) (A := A120) (T := T120) (by kernel_rfl) (by kernel_rfl) (by kernel_rfl) (by kernel_rfl) (fun h S => t120 h S)
noncomputable def pf19 : PF := pfC 120 F120 pf18
theorem pfok19 : PfSound Try.prog pf19 := pfC_ok r120 pfok18
noncomputable def orc54 := orcP 120 F120 orc53
noncomputable def C54 : Cfg := cfg orc54
theorem ok54 : C54.Ok := orcP_ok (C := C53) ok53 r120
noncomputable def B107 : Code := (Try.f107.body).getD .skip
noncomputable def A107 : G.Ann (List KI) := (G.Ann.node (some (0, [KI.reg 0 (Kd.i .u64)])) al (an (an (an al al) al) (an al al)))
noncomputable def P107x0 (h : Hp) (S : Nat → PAL → Option Value) (r0 : Int) : Option Value :=
  optK (F120 [(Value.int .u64 r0)] h) fun v0 =>
  intK .i64 v0 fun i1 =>
  some (Value.int .i64 i1)
noncomputable def T107 (h : Hp) (S : Nat → PAL → Option Value) : Nat → PAL → Option Value := tabPC 0 (wI fun r0 => wN (P107x0 h S r0)) (tabPN)
noncomputable def F107 (args : List Value) (h : Hp) : Option Value := plainO (packArgs [Kd.i .u64] args fun al => G.rec' (T107 h) 1000000 0 al)
def nt107 : Nat := 1 + (8 - 1)
theorem q107x0 (h : Hp) (S : Nat → PAL → Option Value) (r0 : Int) : P107x0 h S r0 = G.stepAt packP unpackP evXV (regP env pf19 nt107 h) (finP env Try.f107.results.toList) (G.collect B107 A107 []) 0 S (PAL.i r0 PAL.n) := by kernel_rfl
theorem t107 (h : Hp) (S : Nat → PAL → Option Value) : TabP (fun l al => G.stepAt packP unpackP evXV (regP env pf19 nt107 h) (finP env Try.f107.results.toList) (G.collect B107 A107 []) l S al) (T107 h S) := by
  unfold T107
  refine TabP.cons 0 (fun vs0 q e0 => ?_) ?_
  · obtain ⟨r0, vs1, rfl, e1⟩ := wI_some e0
    obtain ⟨rfl, ee⟩ := wN_some e1
    exact (q107x0 h S r0).symm.trans ee
  exact TabP.nil
theorem r107 : PSound Try.prog 107 F107 := fun_soundP (C := C0) ok0 (pf := pf19) pfok19 (fn := Try.f107) (body := B107) (kinds := [Kd.i .u64]) (A := A107) (T := T107) (by kernel_rfl) (by kernel_rfl) (by kernel_rfl) (by kernel_rfl) (fun h S => t107 h S)
noncomputable def pf20 : PF := pfC 107 F107 pf19
theorem pfok20 : PfSound Try.prog pf20 := pfC_ok r107 pfok19
noncomputable def orc55 := orcP 107 F107 orc54
noncomputable def C55 : Cfg := cfg orc55
theorem ok55 : C55.Ok := orcP_ok (C := C54) ok54 r107
noncomputable def B75 : Code := (Try.f75.body).getD .skip
def A75 : Ann := (Ann.node (some (0, [(0, Kd.i .i64)])) bl (bn bl (bn (bn bl (bn (Ann.node (some (1, [(0, Kd.i .i64), (3, Kd.v), (7, Kd.i .i64), (8, Kd.i .i64)])) (bn bl (bn (bn bl bl) (bn (bn (bn bl (bn bl (bn bl bl))) bl) bl))) bl) bl)) (Ann.node (some (2, [(3, Kd.v)])) bl bl))))
noncomputable def P75x2 (S : Sg) (r3 : Value) (h : Hp) : CRes :=
  some (r3, h)
noncomputable def P75x1 (S : Sg) (r0 : Int) (r3 : Value) (r7 : Int) (r8 : Int) (h : Hp) : CRes :=
  boolZ (ltZ r8 r7) fun b0 =>
  ifB b0
  (pairK (optK (F100 [(Value.int .i64 r0), (Value.int .i64 r8)] h) fun v => some (v, h)) fun v1 h1 =>
  boolK v1 fun b2 =>
  ifB b2
  (pairK (buildSliceV env h1 24 1 (List.toArray [(0, (Value.int .i64 r8))])) fun v3 h3 =>
  pairK (appendV env h3 #[24, 24] (List.toArray [r3, v3])) fun v4 h4 =>
  wrap64 (Int.add r8 (Int.ofNat 1)) fun i5 =>
  S 1 (AL.i r0 (AL.v v4 (AL.i r7 (AL.i i5 AL.n)))) h4)
  (wrap64 (Int.add r8 (Int.ofNat 1)) fun i6 =>
  S 1 (AL.i r0 (AL.v r3 (AL.i r7 (AL.i i6 AL.n)))) h1))
  (S 2 (AL.v r3 AL.n) h)
noncomputable def P75x0 (S : Sg) (r0 : Int) (h : Hp) : CRes :=
  forceI (wrapF .u64 r0) fun i0 =>
  pairK (optK (F107 [(Value.int .u64 i0)] h) fun v => some (v, h)) fun v1 h1 =>
  intK .i64 v1 fun i2 =>
  S 1 (AL.i r0 (AL.v (Value.slice none 0 0) (AL.i i2 (AL.i (Int.ofNat 0) AL.n)))) h1
noncomputable def T75 (S : Sg) : Sg := tabC 0 (uI fun r0 => uN fun h => P75x0 S r0 h) (tabC 1 (uI fun r0 => uV fun r3 => uI fun r7 => uI fun r8 => uN fun h => P75x1 S r0 r3 r7 r8 h) (tabC 2 (uV fun r3 => uN fun h => P75x2 S r3 h) (tabN)))
noncomputable def F75 (args : List Value) (h : Hp) : CRes := packVals [Kd.i .i64] args fun al => rec' T75 1000000 0 al h
def nt75 : Nat := 1 + (20 - 1)
theorem q75x2 (S : Sg) (r3 : Value) (h : Hp) : P75x2 S r3 h = stepAt (regK env orc55 (nt75)) (finK env Try.f75.results.toList) (collect B75 A75 []) 2 S (AL.v r3 AL.n) h := by kernel_rfl
theorem q75x1 (S : Sg) (r0 : Int) (r3 : Value) (r7 : Int) (r8 : Int) (h : Hp) : P75x1 S r0 r3 r7 r8 h = stepAt (regK env orc55 (nt75)) (finK env Try.f75.results.toList) (collect B75 A75 []) 1 S (AL.i r0 (AL.v r3 (AL.i r7 (AL.i r8 AL.n)))) h := by kernel_rfl
theorem q75x0 (S : Sg) (r0 : Int) (h : Hp) : P75x0 S r0 h = stepAt (regK env orc55 (nt75)) (finK env Try.f75.results.toList) (collect B75 A75 []) 0 S (AL.i r0 AL.n) h := by kernel_rfl
theorem t75 (S : Sg) : Tab (fun l vs h => stepAt (regK env orc55 nt75) (finK env Try.f75.results.toList) (collect B75 A75 []) l S vs h) (T75 S) := by
  unfold T75
  refine Tab.cons 0 (fun vs0 h q e0 => ?_) ?_
  · obtain ⟨r0, vs1, rfl, e1⟩ := uI_some e0
    obtain ⟨rfl, ee⟩ := uN_some e1
    exact (q75x0 S r0 h).symm.trans ee
  refine Tab.cons 1 (fun vs0 h q e0 => ?_) ?_
  · obtain ⟨r0, vs1, rfl, e1⟩ := uI_some e0
    obtain ⟨r3, vs2, rfl, e2⟩ := uV_some e1
    obtain ⟨r7, vs3, rfl, e3⟩ := uI_some e2
    obtain ⟨r8, vs4, rfl, e4⟩ := uI_some e3
    obtain ⟨rfl, ee⟩ := uN_some e4
    exact (q75x1 S r0 r3 r7 r8 h).symm.trans ee
  refine Tab.cons 2 (fun vs0 h q e0 => ?_) ?_
  · obtain ⟨r3, vs1, rfl, e1⟩ := uV_some e0
    obtain ⟨rfl, ee⟩ := uN_some e1
    exact (q75x2 S r3 h).symm.trans ee
  exact Tab.nil
theorem r75 : ∀ args h v h', F75 args h = some (v, h') → Runs (C55) (.call 75 args.toArray h) (.ret v h') := by
  intro args h v h' e
  exact fun_sound (C := C55) (fn := Try.f75) (body := B75) (np := 1) (A := A75) (T := T75) (kinds := [Kd.i .i64]) (by kernel_rfl) (by kernel_rfl) (by kernel_rfl) (by kernel_rfl) (regK_ok env_ok) (by kernel_rfl) (fun S => t75 S) e
noncomputable def orc56 := orcQ 75 F75 orc55
noncomputable def C56 : Cfg := cfg orc56
theorem ok56 : C56.Ok := orcQ_ok (C := C55) ok55 r75
noncomputable def B77 : Code := (Try.f77.body).getD .skip
def A77 : Ann := (Ann.node (some (0, [(0, Kd.v), (1, Kd.i .i64)])) bl (bn (bn bl (bn (Ann.node (some (1, [(1, Kd.i .i64), (2, Kd.v), (10, Kd.i .i64), (11, Kd.i .i64)])) (bn bl (bn (bn bl bl) (bn (bn (bn bl (bn bl (bn (bn bl bl) bl))) bl) bl))) bl) bl)) (Ann.node (some (2, [])) bl bl)))
noncomputable def P77x2 (S : Sg) (h : Hp) : CRes :=
  some ((Value.bool false), h)
noncomputable def P77x1 (S : Sg) (r1 : Int) (r2 : Value) (r10 : Int) (r11 : Int) (h : Hp) : CRes :=
  boolZ (ltZ r11 r10) fun b0 =>
  ifB b0
  (loadNK 8 h r2 fun v1 =>
  pairK (callQ F64 [v1, (Value.int .i64 r1), (Value.int .i64 r11)] h) fun v2 h2 =>
  intK .i64 v2 fun i3 =>
  boolZ (eqZ i3 (Int.ofNat 1)) fun b4 =>
  ifB b4
  (some ((Value.bool true), h2))
  (wrap64 (Int.add r11 (Int.ofNat 1)) fun i5 =>
  S 1 (AL.i r1 (AL.v r2 (AL.i r10 (AL.i i5 AL.n)))) h2))
  (S 2 AL.n h)
noncomputable def P77x0 (S : Sg) (r0 : Value) (r1 : Int) (h : Hp) : CRes :=
  allocK h 103 (Array.toList (Value.cells r0)) fun a0 h0 =>
  ptrAddK 0 a0 fun v1 =>
  ptrAddK 0 v1 fun v2 =>
  ptrAddK 4 v2 fun v3 =>
  load1K h0 v3 fun v4 =>
  lenSK v4 fun i5 =>
  S 1 (AL.i r1 (AL.v a0 (AL.i i5 (AL.i (Int.ofNat 0) AL.n)))) h0
noncomputable def T77 (S : Sg) : Sg := tabC 0 (uV fun r0 => uI fun r1 => uN fun h => P77x0 S r0 r1 h) (tabC 1 (uI fun r1 => uV fun r2 => uI fun r10 => uI fun r11 => uN fun h => P77x1 S r1 r2 r10 r11 h) (tabC 2 (uN fun h => P77x2 S  h) (tabN)))
noncomputable def F77 (args : List Value) (h : Hp) : CRes := packVals [Kd.v, Kd.i .i64] args fun al => rec' T77 1000000 0 al h
def nt77 : Nat := 2 + (20 - 2)
theorem q77x2 (S : Sg) (h : Hp) : P77x2 S  h = stepAt (regK env orc56 (nt77)) (finK env Try.f77.results.toList) (collect B77 A77 []) 2 S AL.n h := by kernel_rfl
theorem q77x1 (S : Sg) (r1 : Int) (r2 : Value) (r10 : Int) (r11 : Int) (h : Hp) : P77x1 S r1 r2 r10 r11 h = stepAt (regK env orc56 (nt77)) (finK env Try.f77.results.toList) (collect B77 A77 []) 1 S (AL.i r1 (AL.v r2 (AL.i r10 (AL.i r11 AL.n)))) h := by kernel_rfl
theorem q77x0 (S : Sg) (r0 : Value) (r1 : Int) (h : Hp) : P77x0 S r0 r1 h = stepAt (regK env orc56 (nt77)) (finK env Try.f77.results.toList) (collect B77 A77 []) 0 S (AL.v r0 (AL.i r1 AL.n)) h := by kernel_rfl
theorem t77 (S : Sg) : Tab (fun l vs h => stepAt (regK env orc56 nt77) (finK env Try.f77.results.toList) (collect B77 A77 []) l S vs h) (T77 S) := by
  unfold T77
  refine Tab.cons 0 (fun vs0 h q e0 => ?_) ?_
  · obtain ⟨r0, vs1, rfl, e1⟩ := uV_some e0
    obtain ⟨r1, vs2, rfl, e2⟩ := uI_some e1
    obtain ⟨rfl, ee⟩ := uN_some e2
    exact (q77x0 S r0 r1 h).symm.trans ee
  refine Tab.cons 1 (fun vs0 h q e0 => ?_) ?_
  · obtain ⟨r1, vs1, rfl, e1⟩ := uI_some e0
    obtain ⟨r2, vs2, rfl, e2⟩ := uV_some e1
    obtain ⟨r10, vs3, rfl, e3⟩ := uI_some e2
    obtain ⟨r11, vs4, rfl, e4⟩ := uI_some e3
    obtain ⟨rfl, ee⟩ := uN_some e4
    exact (q77x1 S r1 r2 r10 r11 h).symm.trans ee
  refine Tab.cons 2 (fun vs0 h q e0 => ?_) ?_
  · 
    obtain ⟨rfl, ee⟩ := uN_some e0
    exact (q77x2 S  h).symm.trans ee
  exact Tab.nil
theorem r77 : ∀ args h v h', F77 args h = some (v, h') → Runs (C56) (.call 77 args.toArray h) (.ret v h') := by
  intro args h v h' e
  exact fun_sound (C := C56) (fn := Try.f77) (body := B77) (np := 2) (A := A77) (T := T77) (kinds := [Kd.v, Kd.i .i64]) (by kernel_rfl) (by kernel_rfl) (by kernel_rfl) (by kernel_rfl) (regK_ok env_ok) (by kernel_rfl) (fun S => t77 S) e
noncomputable def orc57 := orcQ 77 F77 orc56
noncomputable def C57 : Cfg := cfg orc57
theorem ok57 : C57.Ok := orcQ_ok (C := C56) ok56 r77
noncomputable def B25 : Code := (Try.f25.body).getD .skip
def A25 : Ann := (Ann.node (some (0, [(0, Kd.v), (1, Kd.i .i64)])) bl (bn bl (bn (bn bl (bn (bn bl bl) bl)) (bn (bn bl (bn (bn bl bl) bl)) (bn bl (bn (bn bl (bn (Ann.node (some (1, [(1, Kd.i .i64), (6, Kd.v), (8, Kd.i .i64), (9, Kd.b), (32, Kd.i .i64), (33, Kd.i .i64)])) (bn bl (bn (bn bl bl) (bn (bn (bn bl (bn bl (bn bl (Ann.node (some (2, [(1, Kd.i .i64), (6, Kd.v), (8, Kd.i .i64), (9, Kd.b), (10, Kd.i .i64), (11, Kd.v), (12, Kd.b), (32, Kd.i .i64), (33, Kd.i .i64)])) bl (bn bl bl))))) bl) (Ann.node (some (3, [(1, Kd.i .i64), (6, Kd.v), (8, Kd.i .i64), (9, Kd.b), (32, Kd.i .i64), (33, Kd.i .i64)])) bl bl)))) bl) bl)) (Ann.node (some (4, [(8, Kd.i .i64), (9, Kd.b)])) (bn bl (bn (bn bl bl) bl)) (bn bl bl))))))))
noncomputable def P25x4 (S : Sg) (r8 : Int) (r9 : Bool) (h : Hp) : CRes :=
  boolN r9 fun b0 =>
  ifB b0
  (some (Value.tuple (List.toArray [(Value.int .i64 (Int.ofNat 0)), (Value.int .i64 (Int.ofNat 9))]), h))
  (some (Value.tuple (List.toArray [(Value.int .i64 r8), (Value.int .i64 (Int.ofNat 0))]), h))
noncomputable def P25x3 (S : Sg) (r1 : Int) (r6 : Value) (r8 : Int) (r9 : Bool) (r32 : Int) (r33 : Int) (h : Hp) : CRes :=
  wrap64 (Int.add r33 (Int.ofNat 1)) fun i0 =>
  S 1 (AL.i r1 (AL.v r6 (AL.i r8 (AL.b r9 (AL.i r32 (AL.i i0 AL.n)))))) h
noncomputable def P25x2 (S : Sg) (r1 : Int) (r6 : Value) (r8 : Int) (r9 : Bool) (r10 : Int) (r11 : Value) (r12 : Bool) (r32 : Int) (r33 : Int) (h : Hp) : CRes :=
  ifB r12
  (loadNK 8 h r11 fun v0 =>
  pairK (callQ F77 [v0, (Value.int .i64 r1)] h) fun v1 h1 =>
  boolK v1 fun b2 =>
  ifB b2
  (S 3 (AL.i r1 (AL.v r6 (AL.i r10 (AL.b true (AL.i r32 (AL.i r33 AL.n)))))) h1)
  (S 3 (AL.i r1 (AL.v r6 (AL.i r8 (AL.b r9 (AL.i r32 (AL.i r33 AL.n)))))) h1))
  (S 3 (AL.i r1 (AL.v r6 (AL.i r8 (AL.b r9 (AL.i r32 (AL.i r33 AL.n)))))) h)
noncomputable def P25x1 (S : Sg) (r1 : Int) (r6 : Value) (r8 : Int) (r9 : Bool) (r32 : Int) (r33 : Int) (h : Hp) : CRes :=
  boolZ (ltZ r33 r32) fun b0 =>
  ifB b0
  (loadNK 7 h r6 fun v1 =>
  optK (buildV env 103 (List.toArray [(0, v1), (1, (Value.int .i64 r33))])) fun v2 =>
  allocK h 103 [(Value.int .i64 (Int.ofNat 0)), (Value.int .i64 (Int.ofNat 0)), (Value.int .i64 (Int.ofNat 0)), (Value.slice none 0 0), (Value.slice none 0 0), (Value.slice none 0 0), (Value.slice none 0 0), (Value.int .i64 (Int.ofNat 0))] fun a3 h3 =>
  storeNK 8 h3 a3 v2 fun h4 =>
  boolN r9 fun b5 =>
  ifB b5
  (S 2 (AL.i r1 (AL.v r6 (AL.i r8 (AL.b r9 (AL.i r33 (AL.v a3 (AL.b true (AL.i r32 (AL.i r33 AL.n))))))))) h4)
  (forceI (wrapF .u64 r33) fun i6 =>
  pairK (optK (F76 [(Value.int .u64 i6)] h4) fun v => some (v, h4)) fun v7 h7 =>
  intK .i64 v7 fun i8 =>
  forceI (wrapF .u64 r8) fun i9 =>
  pairK (optK (F76 [(Value.int .u64 i9)] h7) fun v => some (v, h7)) fun v10 h10 =>
  intK .i64 v10 fun i11 =>
  boolZ (ltZ i8 i11) fun b12 =>
  S 2 (AL.i r1 (AL.v r6 (AL.i r8 (AL.b r9 (AL.i r33 (AL.v a3 (AL.b b12 (AL.i r32 (AL.i r33 AL.n))))))))) h10))
  (S 4 (AL.i r8 (AL.b r9 AL.n)) h)
noncomputable def P25x0 (S : Sg) (r0 : Value) (r1 : Int) (h : Hp) : CRes :=
  allocK h 28 (Array.toList (Value.cells r0)) fun a0 h0 =>
  loadNK 7 h0 a0 fun v1 =>
  pairK (callQ F58 [v1] h0) fun v2 h2 =>
  extK v2 0 fun v3 =>
  extK v2 1 fun v4 =>
  intK .i64 v4 fun i5 =>
  allocK h2 97 [(Value.int .i64 (Int.ofNat 0)), (Value.int .i64 (Int.ofNat 0)), (Value.int .i64 (Int.ofNat 0)), (Value.slice none 0 0), (Value.slice none 0 0), (Value.slice none 0 0), (Value.slice none 0 0)] fun a6 h6 =>
  storeNK 7 h6 a6 v3 fun h7 =>
  boolN (eqZ i5 (Int.ofNat 0)) fun b8 =>
  ifB b8
  (some (Value.tuple (List.toArray [(Value.int .i64 (Int.ofNat 0)), (Value.int .i64 i5)]), h7))
  (ptrAddK 0 a6 fun v9 =>
  ptrAddK 5 v9 fun v10 =>
  load1K h7 v10 fun v11 =>
  lenSK v11 fun i12 =>
  pairK (buildSliceV env h7 24 1 (List.toArray [(0, (Value.int .i64 r1))])) fun v13 h13 =>
  pairK (optK (F59 [(Value.int .i64 i12), v13] h13) fun v => some (v, h13)) fun v14 h14 =>
  boolK v14 fun b15 =>
  boolN b15 fun b16 =>
  ifB b16
  (some (Value.tuple (List.toArray [(Value.int .i64 (Int.ofNat 0)), (Value.int .i64 (Int.ofNat 4))]), h14))
  (ptrAddK 0 a6 fun v17 =>
  ptrAddK 2 v17 fun v18 =>
  load1K h14 v18 fun v19 =>
  intK .i64 v19 fun i20 =>
  slowI .i64 (shlI (binW env .shl 3 (Value.int .i64 (Int.ofNat 1)) (Value.int .i64 i20)) (Value.int .i64 (Int.ofNat 1)) (Value.int .i64 i20)) fun i21 =>
  S 1 (AL.i r1 (AL.v a6 (AL.i (Int.ofNat 0) (AL.b false (AL.i i21 (AL.i (Int.ofNat 0) AL.n)))))) h14))
noncomputable def T25 (S : Sg) : Sg := tabC 0 (uV fun r0 => uI fun r1 => uN fun h => P25x0 S r0 r1 h) (tabC 1 (uI fun r1 => uV fun r6 => uI fun r8 => uB fun r9 => uI fun r32 => uI fun r33 => uN fun h => P25x1 S r1 r6 r8 r9 r32 r33 h) (tabC 2 (uI fun r1 => uV fun r6 => uI fun r8 => uB fun r9 => uI fun r10 => uV fun r11 => uB fun r12 => uI fun r32 => uI fun r33 => uN fun h => P25x2 S r1 r6 r8 r9 r10 r11 r12 r32 r33 h) (tabC 3 (uI fun r1 => uV fun r6 => uI fun r8 => uB fun r9 => uI fun r32 => uI fun r33 => uN fun h => P25x3 S r1 r6 r8 r9 r32 r33 h) (tabC 4 (uI fun r8 => uB fun r9 => uN fun h => P25x4 S r8 r9 h) (tabN)))))
noncomputable def F25 (args : List Value) (h : Hp) : CRes := packVals [Kd.v, Kd.i .i64] args fun al => rec' T25 1000000 0 al h
def nt25 : Nat := 2 + (61 - 2)
theorem q25x4 (S : Sg) (r8 : Int) (r9 : Bool) (h : Hp) : P25x4 S r8 r9 h = stepAt (regK env orc57 (nt25)) (finK env Try.f25.results.toList) (collect B25 A25 []) 4 S (AL.i r8 (AL.b r9 AL.n)) h := by kernel_rfl
theorem q25x3 (S : Sg) (r1 : Int) (r6 : Value) (r8 : Int) (r9 : Bool) (r32 : Int) (r33 : Int) (h : Hp) : P25x3 S r1 r6 r8 r9 r32 r33 h = stepAt (regK env orc57 (nt25)) (finK env Try.f25.results.toList) (collect B25 A25 []) 3 S (AL.i r1 (AL.v r6 (AL.i r8 (AL.b r9 (AL.i r32 (AL.i r33 AL.n)))))) h := by kernel_rfl
theorem q25x2 (S : Sg) (r1 : Int) (r6 : Value) (r8 : Int) (r9 : Bool) (r10 : Int) (r11 : Value) (r12 : Bool) (r32 : Int) (r33 : Int) (h : Hp) : P25x2 S r1 r6 r8 r9 r10 r11 r12 r32 r33 h = stepAt (regK env orc57 (nt25)) (finK env Try.f25.results.toList) (collect B25 A25 []) 2 S (AL.i r1 (AL.v r6 (AL.i r8 (AL.b r9 (AL.i r10 (AL.v r11 (AL.b r12 (AL.i r32 (AL.i r33 AL.n))))))))) h := by kernel_rfl
theorem q25x1 (S : Sg) (r1 : Int) (r6 : Value) (r8 : Int) (r9 : Bool) (r32 : Int) (r33 : Int) (h : Hp) : P25x1 S r1 r6 r8 r9 r32 r33 h = stepAt (regK env orc57 (nt25)) (finK env Try.f25.results.toList) (collect B25 A25 []) 1 S (AL.i r1 (AL.v r6 (AL.i r8 (AL.b r9 (AL.i r32 (AL.i r33 AL.n)))))) h := by kernel_rfl
theorem q25x0 (S : Sg) (r0 : Value) (r1 : Int) (h : Hp) : P25x0 S r0 r1 h = stepAt (regK env orc57 (nt25)) (finK env Try.f25.results.toList) (collect B25 A25 []) 0 S (AL.v r0 (AL.i r1 AL.n)) h := by kernel_rfl
theorem t25 (S : Sg) : Tab (fun l vs h => stepAt (regK env orc57 nt25) (finK env Try.f25.results.toList) (collect B25 A25 []) l S vs h) (T25 S) := by
  unfold T25
  refine Tab.cons 0 (fun vs0 h q e0 => ?_) ?_
  · obtain ⟨r0, vs1, rfl, e1⟩ := uV_some e0
    obtain ⟨r1, vs2, rfl, e2⟩ := uI_some e1
    obtain ⟨rfl, ee⟩ := uN_some e2
    exact (q25x0 S r0 r1 h).symm.trans ee
  refine Tab.cons 1 (fun vs0 h q e0 => ?_) ?_
  · obtain ⟨r1, vs1, rfl, e1⟩ := uI_some e0
    obtain ⟨r6, vs2, rfl, e2⟩ := uV_some e1
    obtain ⟨r8, vs3, rfl, e3⟩ := uI_some e2
    obtain ⟨r9, vs4, rfl, e4⟩ := uB_some e3
    obtain ⟨r32, vs5, rfl, e5⟩ := uI_some e4
    obtain ⟨r33, vs6, rfl, e6⟩ := uI_some e5
    obtain ⟨rfl, ee⟩ := uN_some e6
    exact (q25x1 S r1 r6 r8 r9 r32 r33 h).symm.trans ee
  refine Tab.cons 2 (fun vs0 h q e0 => ?_) ?_
  · obtain ⟨r1, vs1, rfl, e1⟩ := uI_some e0
    obtain ⟨r6, vs2, rfl, e2⟩ := uV_some e1
    obtain ⟨r8, vs3, rfl, e3⟩ := uI_some e2
    obtain ⟨r9, vs4, rfl, e4⟩ := uB_some e3
    obtain ⟨r10, vs5, rfl, e5⟩ := uI_some e4
    obtain ⟨r11, vs6, rfl, e6⟩ := uV_some e5
    obtain ⟨r12, vs7, rfl, e7⟩ := uB_some e6
    obtain ⟨r32, vs8, rfl, e8⟩ := uI_some e7
    obtain ⟨r33, vs9, rfl, e9⟩ := uI_some e8
    obtain ⟨rfl, ee⟩ := uN_some e9
    exact (q25x2 S r1 r6 r8 r9 r10 r11 r12 r32 r33 h).symm.trans ee
  refine Tab.cons 3 (fun vs0 h q e0 => ?_) ?_
  · obtain ⟨r1, vs1, rfl, e1⟩ := uI_some e0
    obtain ⟨r6, vs2, rfl, e2⟩ := uV_some e1
    obtain ⟨r8, vs3, rfl, e3⟩ := uI_some e2
    obtain ⟨r9, vs4, rfl, e4⟩ := uB_some e3
    obtain ⟨r32, vs5, rfl, e5⟩ := uI_some e4
    obtain ⟨r33, vs6, rfl, e6⟩ := uI_some e5
    obtain ⟨rfl, ee⟩ := uN_some e6
    exact (q25x3 S r1 r6 r8 r9 r32 r33 h).symm.trans ee
  refine Tab.cons 4 (fun vs0 h q e0 => ?_) ?_
  · obtain ⟨r8, vs1, rfl, e1⟩ := uI_some e0
    obtain ⟨r9, vs2, rfl, e2⟩ := uB_some e1
    obtain ⟨rfl, ee⟩ := uN_some e2
    exact (q25x4 S r8 r9 h).symm.trans ee
  exact Tab.nil
theorem r25 : ∀ args h v h', F25 args h = some (v, h') → Runs (C57) (.call 25 args.toArray h) (.ret v h') := by
  intro args h v h' e
  exact fun_sound (C := C57) (fn := Try.f25) (body := B25) (np := 2) (A := A25) (T := T25) (kinds := [Kd.v, Kd.i .i64]) (by kernel_rfl) (by kernel_rfl) (by kernel_rfl) (by kernel_rfl) (regK_ok env_ok) (by kernel_rfl) (fun S => t25 S) e
noncomputable def orc58 := orcQ 25 F25 orc57
noncomputable def C58 : Cfg := cfg orc58
theorem ok58 : C58.Ok := orcQ_ok (C := C57) ok57 r25
noncomputable def B80 : Code := (Try.f80.body).getD .skip
def A80 : Ann := (Ann.node (some (0, [(0, Kd.v), (1, Kd.i .i64), (2, Kd.i .i64)])) bl (bn bl (bn bl bl)))
noncomputable def P80x0 (S : Sg) (r0 : Value) (r1 : Int) (r2 : Int) (h : Hp) : CRes :=
  allocK h 103 (Array.toList (Value.cells r0)) fun a0 h0 =>
  loadNK 8 (Hp.mk (Hp.next h0) (Hp.next h0) (Hp.objs h0)) a0 fun v1 =>
  leftK v1 (Hp.next h0) (Hp.mk (Hp.next h0) (Hp.next h0) (Hp.objs h0)) fun w2 n2 =>
  pairK (optK (F61 [v1, (Value.int .i64 r2)] (Hp.mk n2 n2 (addAll w2 (Hp.objs h0)))) fun v => some (v, (Hp.mk n2 n2 (addAll w2 (Hp.objs h0))))) fun v3 h3 =>
  leftK v3 n2 h3 fun w4 n4 =>
  ptrAddK 0 a0 fun v5 =>
  leftK v5 n4 (Hp.mk n4 n4 T.nil) fun w6 n6 =>
  ptrAddK 0 v5 fun v7 =>
  leftK v7 n6 (Hp.mk n6 n6 T.nil) fun w8 n8 =>
  ptrAddK 5 v7 fun v9 =>
  leftK v9 n8 (Hp.mk n8 n8 T.nil) fun w10 n10 =>
  load1K (Hp.mk n10 n10 (addAll w10 (addAll w8 (addAll w6 (Hp.objs h0))))) v9 fun v11 =>
  leftK v11 n10 (Hp.mk n10 n10 (addAll w10 (addAll w8 (addAll w6 (Hp.objs h0))))) fun w12 n12 =>
  idxSK 6 v11 r1 fun v13 =>
  leftK v13 n12 (Hp.mk n12 n12 T.nil) fun w14 n14 =>
  loadNK 6 (Hp.mk n14 n14 (addAll w14 (addAll w12 (addAll w10 (addAll w8 (addAll w6 (Hp.objs h0))))))) v13 fun v15 =>
  leftK v15 n14 (Hp.mk n14 n14 (addAll w14 (addAll w12 (addAll w10 (addAll w8 (addAll w6 (Hp.objs h0))))))) fun w16 n16 =>
  allocK (Hp.mk n16 n16 T.nil) 23 [(Value.int .i64 (Int.ofNat 0)), (Value.int .i64 (Int.ofNat 0))] fun a17 h17 =>
  leftK a17 n16 h17 fun w18 n18 =>
  allocK (Hp.mk n18 n18 T.nil) 56 [(Value.string (ByteArray.mk #[])), (Value.int .i64 (Int.ofNat 0)), (Value.int .i64 (Int.ofNat 0)), (Value.int .i64 (Int.ofNat 0)), (Value.int .i64 (Int.ofNat 0)), (Value.int .i64 (Int.ofNat 0))] fun a19 h19 =>
  leftK a19 n18 h19 fun w20 n20 =>
  storeQ env 23 a17 v3 n20 (Hp.next h0) (addAll w20 (addAll w18 (addAll w4 (addAll w2 (Hp.objs h0))))) (fun b => (hasBlk w2 b || (hasBlk [] b || (hasBlk w4 b || (hasBlk w18 b || (hasBlk w20 b || false)))))) fun w21 =>
  storeNK 6 (Hp.mk n20 (Hp.ro h0) (addAll w21 (addAll w20 (addAll w18 (addAll w16 (addAll w14 (addAll w12 (addAll w10 (addAll w8 (addAll w6 (addAll w4 (addAll w2 (Hp.objs h0))))))))))))) a19 v15 fun h22 =>
  ptrAddK 0 a17 fun v23 =>
  load1K h22 v23 fun v24 =>
  intK .i64 v24 fun i25 =>
  ptrAddK 3 a19 fun v26 =>
  load1K h22 v26 fun v27 =>
  intK .i64 v27 fun i28 =>
  wrap64 (Int.sub i25 i28) fun i29 =>
  ptrAddK 4 a19 fun v30 =>
  load1K h22 v30 fun v31 =>
  intK .i64 v31 fun i32 =>
  ptrAddK 1 a17 fun v33 =>
  load1K h22 v33 fun v34 =>
  intK .i64 v34 fun i35 =>
  wrap64 (Int.sub i32 i35) fun i36 =>
  minZ i29 i36 fun i37 =>
  some ((Value.int .i64 i37), h22)
noncomputable def T80 (S : Sg) : Sg := tabC 0 (uV fun r0 => uI fun r1 => uI fun r2 => uN fun h => P80x0 S r0 r1 r2 h) (tabN)
noncomputable def F80 (args : List Value) (h : Hp) : CRes := packVals [Kd.v, Kd.i .i64, Kd.i .i64] args fun al => rec' T80 1000000 0 al h
def nt80 : Nat := 3 + (30 - 3)
theorem q80x0 (S : Sg) (r0 : Value) (r1 : Int) (r2 : Int) (h : Hp) : P80x0 S r0 r1 r2 h = stepAt (regK env orc58 (nt80)) (finK env Try.f80.results.toList) (collect B80 A80 []) 0 S (AL.v r0 (AL.i r1 (AL.i r2 AL.n))) h := by kernel_rfl
theorem t80 (S : Sg) : Tab (fun l vs h => stepAt (regK env orc58 nt80) (finK env Try.f80.results.toList) (collect B80 A80 []) l S vs h) (T80 S) := by
  unfold T80
  refine Tab.cons 0 (fun vs0 h q e0 => ?_) ?_
  · obtain ⟨r0, vs1, rfl, e1⟩ := uV_some e0
    obtain ⟨r1, vs2, rfl, e2⟩ := uI_some e1
    obtain ⟨r2, vs3, rfl, e3⟩ := uI_some e2
    obtain ⟨rfl, ee⟩ := uN_some e3
    exact (q80x0 S r0 r1 r2 h).symm.trans ee
  exact Tab.nil
theorem r80 : ∀ args h v h', F80 args h = some (v, h') → Runs (C58) (.call 80 args.toArray h) (.ret v h') := by
  intro args h v h' e
  exact fun_sound (C := C58) (fn := Try.f80) (body := B80) (np := 3) (A := A80) (T := T80) (kinds := [Kd.v, Kd.i .i64, Kd.i .i64]) (by kernel_rfl) (by kernel_rfl) (by kernel_rfl) (by kernel_rfl) (regK_ok env_ok) (by kernel_rfl) (fun S => t80 S) e
noncomputable def orc59 := orcQ 80 F80 orc58
noncomputable def C59 : Cfg := cfg orc59
theorem ok59 : C59.Ok := orcQ_ok (C := C58) ok58 r80
noncomputable def B65 : Code := (Try.f65.body).getD .skip
noncomputable def A65 : G.Ann (List KI) := (G.Ann.node (some (0, [KI.reg 0 (Kd.v), KI.reg 1 (Kd.v)])) al (an al (an (an al (an (G.Ann.node (some (1, [KI.reg 0 (Kd.v), KI.reg 1 (Kd.v), KI.reg 5 (Kd.b), KI.reg 6 (Kd.i .i64)])) (an (an al (an al al)) (G.Ann.node (some (2, [KI.reg 0 (Kd.v), KI.reg 1 (Kd.v), KI.reg 6 (Kd.i .i64)])) (an al al) al)) al) al)) (G.Ann.node (some (3, [KI.reg 5 (Kd.b)])) al al))))
noncomputable def P65x3 (h : Hp) (S : Nat → PAL → Option Value) (r5 : Bool) : Option Value :=
  some (Value.bool r5)
noncomputable def P65x2 (h : Hp) (S : Nat → PAL → Option Value) (r0 : Value) (r1 : Value) (r6 : Int) : Option Value :=
  idxSK 1 r0 r6 fun v0 =>
  load1K h v0 fun v1 =>
  intK .i64 v1 fun i2 =>
  idxSK 1 r1 r6 fun v3 =>
  load1K h v3 fun v4 =>
  intK .i64 v4 fun i5 =>
  boolZ (eqZ i2 i5) fun b6 =>
  wrap64 (Int.add r6 (Int.ofNat 1)) fun i7 =>
  S 1 (PAL.v r0 (PAL.v r1 (PAL.b b6 (PAL.i i7 PAL.n))))
noncomputable def P65x1 (h : Hp) (S : Nat → PAL → Option Value) (r0 : Value) (r1 : Value) (r5 : Bool) (r6 : Int) : Option Value :=
  ifB r5
  (lenSK r0 fun i0 =>
  boolZ (ltZ r6 i0) fun b1 =>
  ifB b1
  (S 2 (PAL.v r0 (PAL.v r1 (PAL.i r6 PAL.n))))
  (S 3 (PAL.b r5 PAL.n)))
  (S 3 (PAL.b r5 PAL.n))
noncomputable def P65x0 (h : Hp) (S : Nat → PAL → Option Value) (r0 : Value) (r1 : Value) : Option Value :=
  lenSK r0 fun i0 =>
  lenSK r1 fun i1 =>
  boolZ (eqZ i0 i1) fun b2 =>
  S 1 (PAL.v r0 (PAL.v r1 (PAL.b b2 (PAL.i (Int.ofNat 0) PAL.n))))
noncomputable def T65 (h : Hp) (S : Nat → PAL → Option Value) : Nat → PAL → Option Value := tabPC 0 (wV fun r0 => wV fun r1 => wN (P65x0 h S r0 r1)) (tabPC 1 (wV fun r0 => wV fun r1 => wB fun r5 => wI fun r6 => wN (P65x1 h S r0 r1 r5 r6)) (tabPC 2 (wV fun r0 => wV fun r1 => wI fun r6 => wN (P65x2 h S r0 r1 r6)) (tabPC 3 (wB fun r5 => wN (P65x3 h S r5)) (tabPN))))
noncomputable def F65 (args : List Value) (h : Hp) : Option Value := plainO (packArgs [Kd.v, Kd.v] args fun al => G.rec' (T65 h) 1000000 0 al)
def nt65 : Nat := 2 + (31 - 2)
theorem q65x3 (h : Hp) (S : Nat → PAL → Option Value) (r5 : Bool) : P65x3 h S r5 = G.stepAt packP unpackP evXV (regP env pf20 nt65 h) (finP env Try.f65.results.toList) (G.collect B65 A65 []) 3 S (PAL.b r5 PAL.n) := by kernel_rfl
theorem q65x2 (h : Hp) (S : Nat → PAL → Option Value) (r0 : Value) (r1 : Value) (r6 : Int) : P65x2 h S r0 r1 r6 = G.stepAt packP unpackP evXV (regP env pf20 nt65 h) (finP env Try.f65.results.toList) (G.collect B65 A65 []) 2 S (PAL.v r0 (PAL.v r1 (PAL.i r6 PAL.n))) := by kernel_rfl
theorem q65x1 (h : Hp) (S : Nat → PAL → Option Value) (r0 : Value) (r1 : Value) (r5 : Bool) (r6 : Int) : P65x1 h S r0 r1 r5 r6 = G.stepAt packP unpackP evXV (regP env pf20 nt65 h) (finP env Try.f65.results.toList) (G.collect B65 A65 []) 1 S (PAL.v r0 (PAL.v r1 (PAL.b r5 (PAL.i r6 PAL.n)))) := by kernel_rfl
theorem q65x0 (h : Hp) (S : Nat → PAL → Option Value) (r0 : Value) (r1 : Value) : P65x0 h S r0 r1 = G.stepAt packP unpackP evXV (regP env pf20 nt65 h) (finP env Try.f65.results.toList) (G.collect B65 A65 []) 0 S (PAL.v r0 (PAL.v r1 PAL.n)) := by kernel_rfl
theorem t65 (h : Hp) (S : Nat → PAL → Option Value) : TabP (fun l al => G.stepAt packP unpackP evXV (regP env pf20 nt65 h) (finP env Try.f65.results.toList) (G.collect B65 A65 []) l S al) (T65 h S) := by
  unfold T65
  refine TabP.cons 0 (fun vs0 q e0 => ?_) ?_
  · obtain ⟨r0, vs1, rfl, e1⟩ := wV_some e0
    obtain ⟨r1, vs2, rfl, e2⟩ := wV_some e1
    obtain ⟨rfl, ee⟩ := wN_some e2
    exact (q65x0 h S r0 r1).symm.trans ee
  refine TabP.cons 1 (fun vs0 q e0 => ?_) ?_
  · obtain ⟨r0, vs1, rfl, e1⟩ := wV_some e0
    obtain ⟨r1, vs2, rfl, e2⟩ := wV_some e1
    obtain ⟨r5, vs3, rfl, e3⟩ := wB_some e2
    obtain ⟨r6, vs4, rfl, e4⟩ := wI_some e3
    obtain ⟨rfl, ee⟩ := wN_some e4
    exact (q65x1 h S r0 r1 r5 r6).symm.trans ee
  refine TabP.cons 2 (fun vs0 q e0 => ?_) ?_
  · obtain ⟨r0, vs1, rfl, e1⟩ := wV_some e0
    obtain ⟨r1, vs2, rfl, e2⟩ := wV_some e1
    obtain ⟨r6, vs3, rfl, e3⟩ := wI_some e2
    obtain ⟨rfl, ee⟩ := wN_some e3
    exact (q65x2 h S r0 r1 r6).symm.trans ee
  refine TabP.cons 3 (fun vs0 q e0 => ?_) ?_
  · obtain ⟨r5, vs1, rfl, e1⟩ := wB_some e0
    obtain ⟨rfl, ee⟩ := wN_some e1
    exact (q65x3 h S r5).symm.trans ee
  exact TabP.nil
theorem r65 : PSound Try.prog 65 F65 := fun_soundP (C := C0) ok0 (pf := pf20) pfok20 (fn := Try.f65) (body := B65) (kinds := [Kd.v, Kd.v]) (A := A65) (T := T65) (by kernel_rfl) (by kernel_rfl) (by kernel_rfl) (by kernel_rfl) (fun h S => t65 h S)
noncomputable def pf21 : PF := pfC 65 F65 pf20
theorem pfok21 : PfSound Try.prog pf21 := pfC_ok r65 pfok20
noncomputable def orc60 := orcP 65 F65 orc59
noncomputable def C60 : Cfg := cfg orc60
theorem ok60 : C60.Ok := orcP_ok (C := C59) ok59 r65
noncomputable def B28 : Code := (Try.f28.body).getD .skip
noncomputable def A28 : G.Ann (List KI) := (G.Ann.node (some (0, [KI.reg 0 (Kd.v), KI.reg 1 (Kd.v)])) al (an al al))
noncomputable def P28x0 (h : Hp) (S : Nat → PAL → Option Value) (r0 : Value) (r1 : Value) : Option Value :=
  forceL (Array.toList (Value.cells r0)) fun c0 =>
  forceL (Array.toList (Value.cells r1)) fun c1 =>
  nthR c0 0 fun v2 =>
  intK .i64 v2 fun i3 =>
  nthR c1 0 fun v4 =>
  intK .i64 v4 fun i5 =>
  boolZ (eqZ i3 i5) fun b6 =>
  ifB b6
  (nthR c0 1 fun v7 =>
  nthR c1 1 fun v8 =>
  optK (F65 [v7, v8] h) fun v9 =>
  boolK v9 fun b10 =>
  some (Value.bool b10))
  (some (Value.bool false))
noncomputable def T28 (h : Hp) (S : Nat → PAL → Option Value) : Nat → PAL → Option Value := tabPC 0 (wV fun r0 => wV fun r1 => wN (P28x0 h S r0 r1)) (tabPN)
noncomputable def F28 (args : List Value) (h : Hp) : Option Value := plainO (packArgs [Kd.v, Kd.v] args fun al => G.rec' (T28 h) 1000000 0 al)
def nt28 : Nat := 2 + (17 - 2)
theorem q28x0 (h : Hp) (S : Nat → PAL → Option Value) (r0 : Value) (r1 : Value) : P28x0 h S r0 r1 = G.stepAt packP unpackP evXV (regP env pf21 nt28 h) (finP env Try.f28.results.toList) (G.collect B28 A28 []) 0 S (PAL.v r0 (PAL.v r1 PAL.n)) := by kernel_rfl
theorem t28 (h : Hp) (S : Nat → PAL → Option Value) : TabP (fun l al => G.stepAt packP unpackP evXV (regP env pf21 nt28 h) (finP env Try.f28.results.toList) (G.collect B28 A28 []) l S al) (T28 h S) := by
  unfold T28
  refine TabP.cons 0 (fun vs0 q e0 => ?_) ?_
  · obtain ⟨r0, vs1, rfl, e1⟩ := wV_some e0
    obtain ⟨r1, vs2, rfl, e2⟩ := wV_some e1
    obtain ⟨rfl, ee⟩ := wN_some e2
    exact (q28x0 h S r0 r1).symm.trans ee
  exact TabP.nil
theorem r28 : PSound Try.prog 28 F28 := fun_soundP (C := C0) ok0 (pf := pf21) pfok21 (fn := Try.f28) (body := B28) (kinds := [Kd.v, Kd.v]) (A := A28) (T := T28) (by kernel_rfl) (by kernel_rfl) (by kernel_rfl) (by kernel_rfl) (fun h S => t28 h S)
noncomputable def pf22 : PF := pfC 28 F28 pf21
theorem pfok22 : PfSound Try.prog pf22 := pfC_ok r28 pfok21
noncomputable def orc61 := orcP 28 F28 orc60
noncomputable def C61 : Cfg := cfg orc61
theorem ok61 : C61.Ok := orcP_ok (C := C60) ok60 r28
noncomputable abbrev orcE := orc61
theorem okE : (cfg orcE).Ok := ok61
end Go.Proofs.Ytekocllllbdbgaa.K
