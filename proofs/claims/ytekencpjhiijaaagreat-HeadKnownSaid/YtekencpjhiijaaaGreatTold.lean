/- Functions told. -/
import Derived.Test.YtekencpjhiijaaaGreatTab
open Go Go.Eng
set_option maxRecDepth 100000
set_option linter.unusedVariables false
namespace Go.Proofs.YtekencpjhiijaaaGreat.K
/-! ceroplast/ceroplastlaw03.shown -/
noncomputable def B15 : Code := (Tryz.f15.body).getD .skip
noncomputable def A15 : G.Ann (List KI) := (G.Ann.node (some (0, [KI.reg 0 (Kd.i .i64), KI.reg 1 (Kd.v)])) G.Ann.nil (G.Ann.node none G.Ann.nil G.Ann.nil))
noncomputable def P15x0 (h : Hp) (S : Nat → PAL → Option Value) (r0 : Int) (r1 : Value) : Option Value :=
  optK (buildV env 47 (List.toArray [(0, (Value.int .i64 r0)), (1, r1)])) fun v0 =>
  aggK v0 fun l1 => ifB (Nat.beq (lenR l1) 2) (segR 0 l1 [(Value.int .i64 (Int.ofNat 0)), (Value.string (ByteArray.mk #[]))] fun c1 =>
  dropR c1 0 fun d2 => takeR d2 2 fun l2 => some (Value.agg (Array.mk l2))) none
noncomputable def T15 (h : Hp) (S : Nat → PAL → Option Value) : Nat → PAL → Option Value := tabPC 0 (wI fun r0 => wV fun r1 => wN (P15x0 h S r0 r1)) (tabPN)
noncomputable def F15 (args : List Value) (h : Hp) : Option Value := plainO (packArgs [Kd.i .i64, Kd.v] args fun al => G.rec' (T15 h) 1000000 0 al)
def nt15 : Nat := 2 + (8 - 2)
theorem q15x0 (h : Hp) (S : Nat → PAL → Option Value) (r0 : Int) (r1 : Value) : P15x0 h S r0 r1 = G.stepAt packP unpackP evXV (regP env pf0 nt15 h) (finP env Tryz.f15.results.toList) (G.collect B15 A15 []) 0 S (PAL.i r0 (PAL.v r1 PAL.n)) := by kernel_rfl
theorem t15 (h : Hp) (S : Nat → PAL → Option Value) : TabP (fun l al => G.stepAt packP unpackP evXV (regP env pf0 nt15 h) (finP env Tryz.f15.results.toList) (G.collect B15 A15 []) l S al) (T15 h S) := by
  unfold T15
  refine TabP.cons 0 (fun vs0 q e0 => ?_) ?_
  · obtain ⟨r0, vs1, rfl, e1⟩ := wI_some e0
    obtain ⟨r1, vs2, rfl, e2⟩ := wV_some e1
    obtain ⟨rfl, ee⟩ := wN_some e2
    exact (q15x0 h S r0 r1).symm.trans ee
  exact TabP.nil
theorem r15 : PSound Tryz.prog 15 F15 := fun_soundP (C := C0) ok0 (pf := pf0) pfok0 (fn := Tryz.f15) (body := B15) (kinds := [Kd.i .i64, Kd.v]) (A := A15) (T := T15) (by kernel_rfl) (by kernel_rfl) (by kernel_rfl) (by kernel_rfl) (fun h S => t15 h S)
noncomputable def pf1 : PF := pfC 15 F15 pf0
theorem pfok1 : PfSound Tryz.prog pf1 := pfC_ok r15 pfok0
noncomputable def orc1 := orcP 15 F15 orc0
noncomputable def C1 : Cfg := cfg orc1
theorem ok1 : C1.Ok := orcP_ok (C := C0) ok0 r15
/-! ceroplast/ceroplastlaw03.body -/
noncomputable def B14 : Code := (Tryz.f14.body).getD .skip
noncomputable def A14 : G.Ann (List KI) := (G.Ann.node (some (0, [KI.reg 0 (Kd.v), KI.reg 1 (Kd.v)])) G.Ann.nil (G.Ann.node none G.Ann.nil G.Ann.nil))
noncomputable def P14x0 (h : Hp) (S : Nat → PAL → Option Value) (r0 : Value) (r1 : Value) : Option Value :=
  optK (buildV env 44 (List.toArray [(0, r0), (1, r1)])) fun v0 =>
  aggK v0 fun l1 => ifB (Nat.beq (lenR l1) 2) (segR 0 l1 [(Value.string (ByteArray.mk #[])), (Value.slice none 0 0)] fun c1 =>
  dropR c1 0 fun d2 => takeR d2 2 fun l2 => some (Value.agg (Array.mk l2))) none
noncomputable def T14 (h : Hp) (S : Nat → PAL → Option Value) : Nat → PAL → Option Value := tabPC 0 (wV fun r0 => wV fun r1 => wN (P14x0 h S r0 r1)) (tabPN)
noncomputable def F14 (args : List Value) (h : Hp) : Option Value := plainO (packArgs [Kd.v, Kd.v] args fun al => G.rec' (T14 h) 1000000 0 al)
def nt14 : Nat := 2 + (8 - 2)
theorem q14x0 (h : Hp) (S : Nat → PAL → Option Value) (r0 : Value) (r1 : Value) : P14x0 h S r0 r1 = G.stepAt packP unpackP evXV (regP env pf1 nt14 h) (finP env Tryz.f14.results.toList) (G.collect B14 A14 []) 0 S (PAL.v r0 (PAL.v r1 PAL.n)) := by kernel_rfl
theorem t14 (h : Hp) (S : Nat → PAL → Option Value) : TabP (fun l al => G.stepAt packP unpackP evXV (regP env pf1 nt14 h) (finP env Tryz.f14.results.toList) (G.collect B14 A14 []) l S al) (T14 h S) := by
  unfold T14
  refine TabP.cons 0 (fun vs0 q e0 => ?_) ?_
  · obtain ⟨r0, vs1, rfl, e1⟩ := wV_some e0
    obtain ⟨r1, vs2, rfl, e2⟩ := wV_some e1
    obtain ⟨rfl, ee⟩ := wN_some e2
    exact (q14x0 h S r0 r1).symm.trans ee
  exact TabP.nil
theorem r14 : PSound Tryz.prog 14 F14 := fun_soundP (C := C0) ok0 (pf := pf1) pfok1 (fn := Tryz.f14) (body := B14) (kinds := [Kd.v, Kd.v]) (A := A14) (T := T14) (by kernel_rfl) (by kernel_rfl) (by kernel_rfl) (by kernel_rfl) (fun h S => t14 h S)
noncomputable def pf2 : PF := pfC 14 F14 pf1
theorem pfok2 : PfSound Tryz.prog pf2 := pfC_ok r14 pfok1
noncomputable def orc2 := orcP 14 F14 orc1
noncomputable def C2 : Cfg := cfg orc2
theorem ok2 : C2.Ok := orcP_ok (C := C1) ok1 r14
/-! ceroplast/ceroplastlaw03.seen -/
noncomputable def B16 : Code := (Tryz.f16.body).getD .skip
noncomputable def A16 : G.Ann (List KI) := (G.Ann.node (some (0, [KI.reg 0 (Kd.i .i64), KI.reg 1 (Kd.i .i64), KI.reg 2 (Kd.i .i64)])) G.Ann.nil (G.Ann.node none G.Ann.nil G.Ann.nil))
noncomputable def P16x0 (h : Hp) (S : Nat → PAL → Option Value) (r0 : Int) (r1 : Int) (r2 : Int) : Option Value :=
  optK (buildV env 50 (List.toArray [(0, (Value.int .i64 r0)), (1, (Value.int .i64 (Int.ofNat 3))), (2, (Value.int .i64 r1)), (3, (Value.int .i64 r2))])) fun v0 =>
  aggK v0 fun l1 => ifB (Nat.beq (lenR l1) 7) (segR 0 l1 [(Value.int .i64 (Int.ofNat 0)), (Value.int .i64 (Int.ofNat 0)), (Value.int .i64 (Int.ofNat 0)), (Value.int .i64 (Int.ofNat 0)), (Value.int .i64 (Int.ofNat 0)), (Value.int .i64 (Int.ofNat 0)), (Value.int .i64 (Int.ofNat 0))] fun c1 =>
  dropR c1 0 fun d2 => takeR d2 7 fun l2 => some (Value.agg (Array.mk l2))) none
noncomputable def T16 (h : Hp) (S : Nat → PAL → Option Value) : Nat → PAL → Option Value := tabPC 0 (wI fun r0 => wI fun r1 => wI fun r2 => wN (P16x0 h S r0 r1 r2)) (tabPN)
noncomputable def F16 (args : List Value) (h : Hp) : Option Value := plainO (packArgs [Kd.i .i64, Kd.i .i64, Kd.i .i64] args fun al => G.rec' (T16 h) 1000000 0 al)
def nt16 : Nat := 3 + (11 - 3)
theorem q16x0 (h : Hp) (S : Nat → PAL → Option Value) (r0 : Int) (r1 : Int) (r2 : Int) : P16x0 h S r0 r1 r2 = G.stepAt packP unpackP evXV (regP env pf2 nt16 h) (finP env Tryz.f16.results.toList) (G.collect B16 A16 []) 0 S (PAL.i r0 (PAL.i r1 (PAL.i r2 PAL.n))) := by kernel_rfl
theorem t16 (h : Hp) (S : Nat → PAL → Option Value) : TabP (fun l al => G.stepAt packP unpackP evXV (regP env pf2 nt16 h) (finP env Tryz.f16.results.toList) (G.collect B16 A16 []) l S al) (T16 h S) := by
  unfold T16
  refine TabP.cons 0 (fun vs0 q e0 => ?_) ?_
  · obtain ⟨r0, vs1, rfl, e1⟩ := wI_some e0
    obtain ⟨r1, vs2, rfl, e2⟩ := wI_some e1
    obtain ⟨r2, vs3, rfl, e3⟩ := wI_some e2
    obtain ⟨rfl, ee⟩ := wN_some e3
    exact (q16x0 h S r0 r1 r2).symm.trans ee
  exact TabP.nil
theorem r16 : PSound Tryz.prog 16 F16 := fun_soundP (C := C0) ok0 (pf := pf2) pfok2 (fn := Tryz.f16) (body := B16) (kinds := [Kd.i .i64, Kd.i .i64, Kd.i .i64]) (A := A16) (T := T16) (by kernel_rfl) (by kernel_rfl) (by kernel_rfl) (by kernel_rfl) (fun h S => t16 h S)
noncomputable def pf3 : PF := pfC 16 F16 pf2
theorem pfok3 : PfSound Tryz.prog pf3 := pfC_ok r16 pfok2
noncomputable def orc3 := orcP 16 F16 orc2
noncomputable def C3 : Cfg := cfg orc3
theorem ok3 : C3.Ok := orcP_ok (C := C2) ok2 r16
/-! ceroplast/ceroplastlaw03.Book -/
noncomputable def B4 : Code := (Tryz.f4.body).getD .skip
def A4 : Ann := (Ann.node (some (0, [(0, Kd.b)])) Ann.nil (Ann.node none Ann.nil (Ann.node none (Ann.node none Ann.nil (Ann.node none Ann.nil Ann.nil)) (Ann.node none Ann.nil Ann.nil))))
noncomputable def P4x0 (S : Sg) (r0 : Bool) (h : Hp) : CRes :=
  allocK h 26 [(Value.slice none 0 0), (Value.slice none 0 0), (Value.slice none 0 0)] fun a0 h0 =>
  pairK (optK (F15 [(Value.int .i64 (Int.ofNat 0)), (Value.string (ByteArray.mk #[107, 105, 110, 103]))] h0) fun v => some (v, h0)) fun v1 h1 =>
  pairK (optK (F15 [(Value.int .i64 (Int.ofNat 20)), (Value.string (ByteArray.mk #[98, 105, 115, 104, 111, 112]))] h1) fun v => some (v, h1)) fun v2 h2 =>
  pairK (buildSliceV env h2 42 2 (List.toArray [(0, v1), (1, v2)])) fun v3 h3 =>
  pairK (optK (F14 [(Value.string (ByteArray.mk #[107])), v3] h3) fun v => some (v, h3)) fun v4 h4 =>
  pairK (optK (F15 [(Value.int .i64 (Int.ofNat 0)), (Value.string (ByteArray.mk #[99, 108, 111, 119, 110]))] h4) fun v => some (v, h4)) fun v5 h5 =>
  pairK (buildSliceV env h5 42 1 (List.toArray [(0, v5)])) fun v6 h6 =>
  pairK (optK (F14 [(Value.string (ByteArray.mk #[99])), v6] h6) fun v => some (v, h6)) fun v7 h7 =>
  pairK (optK (F15 [(Value.int .i64 (Int.ofNat 0)), (Value.string (ByteArray.mk #[110, 117, 110]))] h7) fun v => some (v, h7)) fun v8 h8 =>
  pairK (buildSliceV env h8 42 1 (List.toArray [(0, v8)])) fun v9 h9 =>
  pairK (optK (F14 [(Value.string (ByteArray.mk #[110])), v9] h9) fun v => some (v, h9)) fun v10 h10 =>
  pairK (optK (F15 [(Value.int .i64 (Int.ofNat 10)), (Value.string (ByteArray.mk #[106, 117, 100, 103, 101]))] h10) fun v => some (v, h10)) fun v11 h11 =>
  pairK (buildSliceV env h11 42 1 (List.toArray [(0, v11)])) fun v12 h12 =>
  pairK (optK (F14 [(Value.string (ByteArray.mk #[106])), v12] h12) fun v => some (v, h12)) fun v13 h13 =>
  pairK (buildSliceV env h13 22 4 (List.toArray [(0, v4), (1, v7), (2, v10), (3, v13)])) fun v14 h14 =>
  pairK (buildSliceV env h14 23 4 (List.toArray [(0, (Value.string (ByteArray.mk #[97, 100, 97]))), (1, (Value.string (ByteArray.mk #[98, 101, 110]))), (2, (Value.string (ByteArray.mk #[99, 121]))), (3, (Value.string (ByteArray.mk #[100, 111, 116])))])) fun v15 h15 =>
  optK (buildV env 50 (List.toArray [(0, (Value.int .i64 (Int.ofNat 5))), (2, (Value.int .i64 (Int.ofNat 0))), (3, (Value.int .i64 (Int.ofNat 1)))])) fun v16 =>
  optK (buildV env 50 (List.toArray [(0, (Value.int .i64 (Int.ofNat 10))), (1, (Value.int .i64 (Int.ofNat 1))), (2, (Value.int .i64 (Int.ofNat 0))), (3, (Value.int .i64 (Int.ofNat 2))), (4, (Value.int .i64 (Int.ofNat 1))), (5, (Value.int .i64 (Int.ofNat 3)))])) fun v17 =>
  optK (buildV env 50 (List.toArray [(0, (Value.int .i64 (Int.ofNat 15))), (1, (Value.int .i64 (Int.ofNat 2))), (6, (Value.int .i64 (Int.ofNat 7)))])) fun v18 =>
  pairK (optK (F16 [(Value.int .i64 (Int.ofNat 18)), (Value.int .i64 (Int.ofNat 0)), (Value.int .i64 (Int.ofNat 2))] h15) fun v => some (v, h15)) fun v19 h19 =>
  pairK (buildSliceV env h19 24 4 (List.toArray [(0, v16), (1, v17), (2, v18), (3, v19)])) fun v20 h20 =>
  optK (buildV env 26 (List.toArray [(0, v14), (1, v15), (2, v20)])) fun v21 =>
  allocK h20 26 [(Value.slice none 0 0), (Value.slice none 0 0), (Value.slice none 0 0)] fun a22 h22 =>
  storeNK 3 h22 a22 v21 fun h23 =>
  ifB r0
  (ptrAddK 2 a22 fun v24 =>
  load1K h23 v24 fun v25 =>
  pairK (pairK (optK (F16 [(Value.int .i64 (Int.ofNat 25)), (Value.int .i64 (Int.ofNat 1)), (Value.int .i64 (Int.ofNat 2))] (Hp.mk (Hp.next h23) (Hp.next h23) (Hp.objs h23))) fun v => some (v, (Hp.mk (Hp.next h23) (Hp.next h23) (Hp.objs h23)))) fun v _ => ifB (plainK v) (some (v, h23)) none) fun v26 h26 =>
  pairK (buildSliceV env h26 24 1 (List.toArray [(0, v26)])) fun v27 h27 =>
  pairK (appendV env h27 #[24, 24] (List.toArray [v25, v27])) fun v28 h28 =>
  ptrAddK 2 a22 fun v29 =>
  store1K h28 v29 v28 fun h30 =>
  loadNK 3 h30 a22 fun v31 =>
  storeNK 3 h30 a0 v31 fun h32 =>
  loadNK 3 h32 a0 fun v33 => some (v33, h32))
  (loadNK 3 h23 a22 fun v34 =>
  storeNK 3 h23 a0 v34 fun h35 =>
  loadNK 3 h35 a0 fun v36 => some (v36, h35))
noncomputable def T4 (S : Sg) : Sg := tabC 0 (uB fun r0 => uN fun h => P4x0 S r0 h) (tabN)
noncomputable def F4 (args : List Value) (h : Hp) : CRes := packVals [Kd.b] args fun al => rec' T4 1000000 0 al h
def nt4 : Nat := 1 + (33 - 1)
theorem q4x0 (S : Sg) (r0 : Bool) (h : Hp) : P4x0 S r0 h = stepAt (regK env orc3 (nt4)) (finK env Tryz.f4.results.toList) (collect B4 A4 []) 0 S (AL.b r0 AL.n) h := by kernel_rfl
theorem t4 (S : Sg) : Tab (fun l vs h => stepAt (regK env orc3 nt4) (finK env Tryz.f4.results.toList) (collect B4 A4 []) l S vs h) (T4 S) := by
  unfold T4
  refine Tab.cons 0 (fun vs0 h q e0 => ?_) ?_
  · obtain ⟨r0, vs1, rfl, e1⟩ := uB_some e0
    obtain ⟨rfl, ee⟩ := uN_some e1
    exact (q4x0 S r0 h).symm.trans ee
  exact Tab.nil
theorem r4 : ∀ args h v h', F4 args h = some (v, h') → Runs (C3) (.call 4 args.toArray h) (.ret v h') := by
  intro args h v h' e
  exact fun_sound (C := C3) (fn := Tryz.f4) (body := B4) (np := 1) (A := A4) (T := T4) (kinds := [Kd.b]) (by kernel_rfl) (by kernel_rfl) (by kernel_rfl) (by kernel_rfl) (regK_ok env_ok) (by kernel_rfl) (fun S => t4 S) e
noncomputable def orc4 := orcQ 4 F4 orc3
noncomputable def C4 : Cfg := cfg orc4
theorem ok4 : C4.Ok := orcQ_ok (C := C3) ok3 r4
/-! slices.Index[[]int,int] -/
noncomputable def B45 : Code := (Tryz.f45.body).getD .skip
noncomputable def A45 : G.Ann (List KI) := (G.Ann.node (some (0, [KI.reg 0 (Kd.v), KI.reg 1 (Kd.i .i64)])) G.Ann.nil (G.Ann.node none (G.Ann.node none G.Ann.nil (G.Ann.node none (G.Ann.node (some (1, [KI.reg 0 (Kd.v), KI.reg 1 (Kd.i .i64), KI.reg 7 (Kd.i .i64), KI.reg 8 (Kd.i .i64)])) (G.Ann.node none G.Ann.nil (G.Ann.node none (G.Ann.node none G.Ann.nil G.Ann.nil) (G.Ann.node none (G.Ann.node none (G.Ann.node none G.Ann.nil (G.Ann.node none G.Ann.nil (G.Ann.node none (G.Ann.node none G.Ann.nil G.Ann.nil) G.Ann.nil))) G.Ann.nil) G.Ann.nil))) G.Ann.nil) G.Ann.nil)) (G.Ann.node (some (2, [])) G.Ann.nil G.Ann.nil)))
noncomputable def P45x2 (h : Hp) (S : Nat → PAL → Option Value) : Option Value :=
  some (Value.int .i64 (Int.negSucc 0))
noncomputable def P45x1 (h : Hp) (S : Nat → PAL → Option Value) (r0 : Value) (r1 : Int) (r7 : Int) (r8 : Int) : Option Value :=
  boolZ (ltZ r8 r7) fun b0 =>
  ifB b0
  (idxSK 1 r0 r8 fun v1 =>
  load1K h v1 fun v2 =>
  intK .i64 v2 fun i3 =>
  boolZ (eqZ r1 i3) fun b4 =>
  ifB b4
  (some (Value.int .i64 r8))
  (wrap64 (Int.add r8 (Int.ofNat 1)) fun i5 =>
  S 1 (PAL.v r0 (PAL.i r1 (PAL.i r7 (PAL.i i5 PAL.n))))))
  (S 2 PAL.n)
noncomputable def P45x0 (h : Hp) (S : Nat → PAL → Option Value) (r0 : Value) (r1 : Int) : Option Value :=
  lenSK r0 fun i0 =>
  S 1 (PAL.v r0 (PAL.i r1 (PAL.i i0 (PAL.i (Int.ofNat 0) PAL.n))))
noncomputable def T45 (h : Hp) (S : Nat → PAL → Option Value) : Nat → PAL → Option Value := tabPC 0 (wV fun r0 => wI fun r1 => wN (P45x0 h S r0 r1)) (tabPC 1 (wV fun r0 => wI fun r1 => wI fun r7 => wI fun r8 => wN (P45x1 h S r0 r1 r7 r8)) (tabPC 2 (wN (P45x2 h S)) (tabPN)))
noncomputable def F45 (args : List Value) (h : Hp) : Option Value := plainO (packArgs [Kd.v, Kd.i .i64] args fun al => G.rec' (T45 h) 1000000 0 al)
def nt45 : Nat := 2 + (19 - 2)
theorem q45x2 (h : Hp) (S : Nat → PAL → Option Value) : P45x2 h S = G.stepAt packP unpackP evXV (regP env pf3 nt45 h) (finP env Tryz.f45.results.toList) (G.collect B45 A45 []) 2 S PAL.n := by kernel_rfl
theorem q45x1 (h : Hp) (S : Nat → PAL → Option Value) (r0 : Value) (r1 : Int) (r7 : Int) (r8 : Int) : P45x1 h S r0 r1 r7 r8 = G.stepAt packP unpackP evXV (regP env pf3 nt45 h) (finP env Tryz.f45.results.toList) (G.collect B45 A45 []) 1 S (PAL.v r0 (PAL.i r1 (PAL.i r7 (PAL.i r8 PAL.n)))) := by kernel_rfl
theorem q45x0 (h : Hp) (S : Nat → PAL → Option Value) (r0 : Value) (r1 : Int) : P45x0 h S r0 r1 = G.stepAt packP unpackP evXV (regP env pf3 nt45 h) (finP env Tryz.f45.results.toList) (G.collect B45 A45 []) 0 S (PAL.v r0 (PAL.i r1 PAL.n)) := by kernel_rfl
theorem t45 (h : Hp) (S : Nat → PAL → Option Value) : TabP (fun l al => G.stepAt packP unpackP evXV (regP env pf3 nt45 h) (finP env Tryz.f45.results.toList) (G.collect B45 A45 []) l S al) (T45 h S) := by
  unfold T45
  refine TabP.cons 0 (fun vs0 q e0 => ?_) ?_
  · obtain ⟨r0, vs1, rfl, e1⟩ := wV_some e0
    obtain ⟨r1, vs2, rfl, e2⟩ := wI_some e1
    obtain ⟨rfl, ee⟩ := wN_some e2
    exact (q45x0 h S r0 r1).symm.trans ee
  refine TabP.cons 1 (fun vs0 q e0 => ?_) ?_
  · obtain ⟨r0, vs1, rfl, e1⟩ := wV_some e0
    obtain ⟨r1, vs2, rfl, e2⟩ := wI_some e1
    obtain ⟨r7, vs3, rfl, e3⟩ := wI_some e2
    obtain ⟨r8, vs4, rfl, e4⟩ := wI_some e3
    obtain ⟨rfl, ee⟩ := wN_some e4
    exact (q45x1 h S r0 r1 r7 r8).symm.trans ee
  refine TabP.cons 2 (fun vs0 q e0 => ?_) ?_
  · 
    obtain ⟨rfl, ee⟩ := wN_some e0
    exact (q45x2 h S).symm.trans ee
  exact TabP.nil
theorem r45 : PSound Tryz.prog 45 F45 := fun_soundP (C := C0) ok0 (pf := pf3) pfok3 (fn := Tryz.f45) (body := B45) (kinds := [Kd.v, Kd.i .i64]) (A := A45) (T := T45) (by kernel_rfl) (by kernel_rfl) (by kernel_rfl) (by kernel_rfl) (fun h S => t45 h S)
noncomputable def pf4 : PF := pfC 45 F45 pf3
theorem pfok4 : PfSound Tryz.prog pf4 := pfC_ok r45 pfok3
noncomputable def orc5 := orcP 45 F45 orc4
noncomputable def C5 : Cfg := cfg orc5
theorem ok5 : C5.Ok := orcP_ok (C := C4) ok4 r45
/-! (ceroplast/head.holding).bodyOf -/
noncomputable def B21 : Code := (Tryz.f21.body).getD .skip
def A21 : Ann := (Ann.node (some (0, [(0, Kd.v), (1, Kd.i .i64)])) Ann.nil (Ann.node none Ann.nil Ann.nil))
noncomputable def P21x0 (S : Sg) (r0 : Value) (r1 : Int) (h : Hp) : CRes :=
  allocK h 62 (Array.toList (Value.cells r0)) fun a0 h0 =>
  optK (sliceV env h0 62 a0 none none none) fun v1 =>
  pairK (optK (F45 [v1, (Value.int .i64 r1)] h0) fun v => some (v, h0)) fun v2 h2 =>
  intK .i64 v2 fun i3 =>
  some ((Value.int .i64 i3), h2)
noncomputable def T21 (S : Sg) : Sg := tabC 0 (uV fun r0 => uI fun r1 => uN fun h => P21x0 S r0 r1 h) (tabN)
noncomputable def F21 (args : List Value) (h : Hp) : CRes := packVals [Kd.v, Kd.i .i64] args fun al => rec' T21 1000000 0 al h
def nt21 : Nat := 2 + (8 - 2)
theorem q21x0 (S : Sg) (r0 : Value) (r1 : Int) (h : Hp) : P21x0 S r0 r1 h = stepAt (regK env orc5 (nt21)) (finK env Tryz.f21.results.toList) (collect B21 A21 []) 0 S (AL.v r0 (AL.i r1 AL.n)) h := by kernel_rfl
theorem t21 (S : Sg) : Tab (fun l vs h => stepAt (regK env orc5 nt21) (finK env Tryz.f21.results.toList) (collect B21 A21 []) l S vs h) (T21 S) := by
  unfold T21
  refine Tab.cons 0 (fun vs0 h q e0 => ?_) ?_
  · obtain ⟨r0, vs1, rfl, e1⟩ := uV_some e0
    obtain ⟨r1, vs2, rfl, e2⟩ := uI_some e1
    obtain ⟨rfl, ee⟩ := uN_some e2
    exact (q21x0 S r0 r1 h).symm.trans ee
  exact Tab.nil
theorem r21 : ∀ args h v h', F21 args h = some (v, h') → Runs (C5) (.call 21 args.toArray h) (.ret v h') := by
  intro args h v h' e
  exact fun_sound (C := C5) (fn := Tryz.f21) (body := B21) (np := 2) (A := A21) (T := T21) (kinds := [Kd.v, Kd.i .i64]) (by kernel_rfl) (by kernel_rfl) (by kernel_rfl) (by kernel_rfl) (regK_ok env_ok) (by kernel_rfl) (fun S => t21 S) e
noncomputable def orc6 := orcQ 21 F21 orc5
noncomputable def C6 : Cfg := cfg orc6
theorem ok6 : C6.Ok := orcQ_ok (C := C5) ok5 r21
/-! ceroplast/head.Where$1 -/
noncomputable def B20 : Code := (Tryz.f20.body).getD .skip
def A20 : Ann := (Ann.node (some (0, [(0, Kd.v), (1, Kd.v)])) Ann.nil (Ann.node none Ann.nil Ann.nil))
noncomputable def P20x0 (S : Sg) (r0 : Value) (r1 : Value) (h : Hp) : CRes :=
  allocK h 62 (Array.toList (Value.cells r0)) fun a0 h0 =>
  loadNK 5 h0 a0 fun v1 =>
  load1K h0 r1 fun v2 =>
  intK .i64 v2 fun i3 =>
  pairK (callQ F21 [v1, (Value.int .i64 i3)] h0) fun v4 h4 =>
  intK .i64 v4 fun i5 =>
  some ((Value.int .i64 i5), h4)
noncomputable def T20 (S : Sg) : Sg := tabC 0 (uV fun r0 => uV fun r1 => uN fun h => P20x0 S r0 r1 h) (tabN)
noncomputable def F20 (args : List Value) (h : Hp) : CRes := packVals [Kd.v, Kd.v] args fun al => rec' T20 1000000 0 al h
def nt20 : Nat := 2 + (7 - 2)
theorem q20x0 (S : Sg) (r0 : Value) (r1 : Value) (h : Hp) : P20x0 S r0 r1 h = stepAt (regK env orc6 (nt20)) (finK env Tryz.f20.results.toList) (collect B20 A20 []) 0 S (AL.v r0 (AL.v r1 AL.n)) h := by kernel_rfl
theorem t20 (S : Sg) : Tab (fun l vs h => stepAt (regK env orc6 nt20) (finK env Tryz.f20.results.toList) (collect B20 A20 []) l S vs h) (T20 S) := by
  unfold T20
  refine Tab.cons 0 (fun vs0 h q e0 => ?_) ?_
  · obtain ⟨r0, vs1, rfl, e1⟩ := uV_some e0
    obtain ⟨r1, vs2, rfl, e2⟩ := uV_some e1
    obtain ⟨rfl, ee⟩ := uN_some e2
    exact (q20x0 S r0 r1 h).symm.trans ee
  exact Tab.nil
theorem r20 : ∀ args h v h', F20 args h = some (v, h') → Runs (C6) (.call 20 args.toArray h) (.ret v h') := by
  intro args h v h' e
  exact fun_sound (C := C6) (fn := Tryz.f20) (body := B20) (np := 2) (A := A20) (T := T20) (kinds := [Kd.v, Kd.v]) (by kernel_rfl) (by kernel_rfl) (by kernel_rfl) (by kernel_rfl) (regK_ok env_ok) (by kernel_rfl) (fun S => t20 S) e
noncomputable def orc7 := orcQ 20 F20 orc6
noncomputable def C7 : Cfg := cfg orc7
theorem ok7 : C7.Ok := orcQ_ok (C := C6) ok6 r20
/-! ceroplast/check.Within -/
noncomputable def B42 : Code := (Tryz.f42.body).getD .skip
noncomputable def A42 : G.Ann (List KI) := (G.Ann.node (some (0, [KI.reg 0 (Kd.i .i64), KI.reg 1 (Kd.i .i64), KI.reg 2 (Kd.v)])) G.Ann.nil (G.Ann.node none (G.Ann.node none G.Ann.nil (G.Ann.node none (G.Ann.node (some (1, [KI.reg 0 (Kd.i .i64), KI.reg 1 (Kd.i .i64), KI.reg 9 (Kd.v), KI.reg 10 (Kd.i .i64), KI.reg 11 (Kd.i .i64)])) (G.Ann.node none G.Ann.nil (G.Ann.node none (G.Ann.node none G.Ann.nil G.Ann.nil) (G.Ann.node none (G.Ann.node none (G.Ann.node none G.Ann.nil (G.Ann.node none G.Ann.nil (G.Ann.node none (G.Ann.node none G.Ann.nil G.Ann.nil) G.Ann.nil))) G.Ann.nil) G.Ann.nil))) G.Ann.nil) G.Ann.nil)) (G.Ann.node (some (2, [])) G.Ann.nil G.Ann.nil)))
noncomputable def P42x2 (h : Hp) (S : Nat → PAL → Option Value) : Option Value :=
  some (Value.bool true)
noncomputable def P42x1 (h : Hp) (S : Nat → PAL → Option Value) (r0 : Int) (r1 : Int) (r9 : Value) (r10 : Int) (r11 : Int) : Option Value :=
  boolZ (ltZ r11 r10) fun b0 =>
  ifB b0
  (idxSK 1 r9 r11 fun v1 =>
  load1K h v1 fun v2 =>
  intK .i64 v2 fun i3 =>
  boolZ (ltZ i3 r0) fun b4 =>
  ifB b4
  (some (Value.bool false))
  (boolZ (ltZ r1 i3) fun b5 =>
  ifB b5
  (some (Value.bool false))
  (wrap64 (Int.add r11 (Int.ofNat 1)) fun i6 =>
  S 1 (PAL.i r0 (PAL.i r1 (PAL.v r9 (PAL.i r10 (PAL.i i6 PAL.n))))))))
  (S 2 PAL.n)
noncomputable def P42x0 (h : Hp) (S : Nat → PAL → Option Value) (r0 : Int) (r1 : Int) (r2 : Value) : Option Value :=
  lenSK r2 fun i0 =>
  S 1 (PAL.i r0 (PAL.i r1 (PAL.v r2 (PAL.i i0 (PAL.i (Int.ofNat 0) PAL.n)))))
noncomputable def T42 (h : Hp) (S : Nat → PAL → Option Value) : Nat → PAL → Option Value := tabPC 0 (wI fun r0 => wI fun r1 => wV fun r2 => wN (P42x0 h S r0 r1 r2)) (tabPC 1 (wI fun r0 => wI fun r1 => wV fun r9 => wI fun r10 => wI fun r11 => wN (P42x1 h S r0 r1 r9 r10 r11)) (tabPC 2 (wN (P42x2 h S)) (tabPN)))
noncomputable def F42 (args : List Value) (h : Hp) : Option Value := plainO (packArgs [Kd.i .i64, Kd.i .i64, Kd.v] args fun al => G.rec' (T42 h) 1000000 0 al)
def nt42 : Nat := 3 + (24 - 3)
theorem q42x2 (h : Hp) (S : Nat → PAL → Option Value) : P42x2 h S = G.stepAt packP unpackP evXV (regP env pf4 nt42 h) (finP env Tryz.f42.results.toList) (G.collect B42 A42 []) 2 S PAL.n := by kernel_rfl
theorem q42x1 (h : Hp) (S : Nat → PAL → Option Value) (r0 : Int) (r1 : Int) (r9 : Value) (r10 : Int) (r11 : Int) : P42x1 h S r0 r1 r9 r10 r11 = G.stepAt packP unpackP evXV (regP env pf4 nt42 h) (finP env Tryz.f42.results.toList) (G.collect B42 A42 []) 1 S (PAL.i r0 (PAL.i r1 (PAL.v r9 (PAL.i r10 (PAL.i r11 PAL.n))))) := by kernel_rfl
theorem q42x0 (h : Hp) (S : Nat → PAL → Option Value) (r0 : Int) (r1 : Int) (r2 : Value) : P42x0 h S r0 r1 r2 = G.stepAt packP unpackP evXV (regP env pf4 nt42 h) (finP env Tryz.f42.results.toList) (G.collect B42 A42 []) 0 S (PAL.i r0 (PAL.i r1 (PAL.v r2 PAL.n))) := by kernel_rfl
theorem t42 (h : Hp) (S : Nat → PAL → Option Value) : TabP (fun l al => G.stepAt packP unpackP evXV (regP env pf4 nt42 h) (finP env Tryz.f42.results.toList) (G.collect B42 A42 []) l S al) (T42 h S) := by
  unfold T42
  refine TabP.cons 0 (fun vs0 q e0 => ?_) ?_
  · obtain ⟨r0, vs1, rfl, e1⟩ := wI_some e0
    obtain ⟨r1, vs2, rfl, e2⟩ := wI_some e1
    obtain ⟨r2, vs3, rfl, e3⟩ := wV_some e2
    obtain ⟨rfl, ee⟩ := wN_some e3
    exact (q42x0 h S r0 r1 r2).symm.trans ee
  refine TabP.cons 1 (fun vs0 q e0 => ?_) ?_
  · obtain ⟨r0, vs1, rfl, e1⟩ := wI_some e0
    obtain ⟨r1, vs2, rfl, e2⟩ := wI_some e1
    obtain ⟨r9, vs3, rfl, e3⟩ := wV_some e2
    obtain ⟨r10, vs4, rfl, e4⟩ := wI_some e3
    obtain ⟨r11, vs5, rfl, e5⟩ := wI_some e4
    obtain ⟨rfl, ee⟩ := wN_some e5
    exact (q42x1 h S r0 r1 r9 r10 r11).symm.trans ee
  refine TabP.cons 2 (fun vs0 q e0 => ?_) ?_
  · 
    obtain ⟨rfl, ee⟩ := wN_some e0
    exact (q42x2 h S).symm.trans ee
  exact TabP.nil
theorem r42 : PSound Tryz.prog 42 F42 := fun_soundP (C := C0) ok0 (pf := pf4) pfok4 (fn := Tryz.f42) (body := B42) (kinds := [Kd.i .i64, Kd.i .i64, Kd.v]) (A := A42) (T := T42) (by kernel_rfl) (by kernel_rfl) (by kernel_rfl) (by kernel_rfl) (fun h S => t42 h S)
noncomputable def pf5 : PF := pfC 42 F42 pf4
theorem pfok5 : PfSound Tryz.prog pf5 := pfC_ok r42 pfok4
noncomputable def orc8 := orcP 42 F42 orc7
noncomputable def C8 : Cfg := cfg orc8
theorem ok8 : C8.Ok := orcP_ok (C := C7) ok7 r42
/-! ceroplast/head.pairOf -/
noncomputable def B115 : Code := (Tryz.f115.body).getD .skip
noncomputable def A115 : G.Ann (List KI) := (G.Ann.node (some (0, [KI.reg 0 (Kd.i .i64), KI.reg 1 (Kd.i .i64)])) G.Ann.nil (G.Ann.node none G.Ann.nil G.Ann.nil))
noncomputable def P115x0 (h : Hp) (S : Nat → PAL → Option Value) (r0 : Int) (r1 : Int) : Option Value :=
  minZ r0 r1 fun i0 =>
  maxZ r0 r1 fun i1 =>
  optK (buildV env 77 (List.toArray [(0, (Value.int .i64 i0)), (1, (Value.int .i64 i1))])) fun v2 =>
  aggK v2 fun l3 => ifB (Nat.beq (lenR l3) 2) (segR 0 l3 [(Value.int .i64 (Int.ofNat 0)), (Value.int .i64 (Int.ofNat 0))] fun c3 =>
  dropR c3 0 fun d4 => takeR d4 2 fun l4 => some (Value.agg (Array.mk l4))) none
noncomputable def T115 (h : Hp) (S : Nat → PAL → Option Value) : Nat → PAL → Option Value := tabPC 0 (wI fun r0 => wI fun r1 => wN (P115x0 h S r0 r1)) (tabPN)
noncomputable def F115 (args : List Value) (h : Hp) : Option Value := plainO (packArgs [Kd.i .i64, Kd.i .i64] args fun al => G.rec' (T115 h) 1000000 0 al)
def nt115 : Nat := 2 + (12 - 2)
theorem q115x0 (h : Hp) (S : Nat → PAL → Option Value) (r0 : Int) (r1 : Int) : P115x0 h S r0 r1 = G.stepAt packP unpackP evXV (regP env pf5 nt115 h) (finP env Tryz.f115.results.toList) (G.collect B115 A115 []) 0 S (PAL.i r0 (PAL.i r1 PAL.n)) := by kernel_rfl
theorem t115 (h : Hp) (S : Nat → PAL → Option Value) : TabP (fun l al => G.stepAt packP unpackP evXV (regP env pf5 nt115 h) (finP env Tryz.f115.results.toList) (G.collect B115 A115 []) l S al) (T115 h S) := by
  unfold T115
  refine TabP.cons 0 (fun vs0 q e0 => ?_) ?_
  · obtain ⟨r0, vs1, rfl, e1⟩ := wI_some e0
    obtain ⟨r1, vs2, rfl, e2⟩ := wI_some e1
    obtain ⟨rfl, ee⟩ := wN_some e2
    exact (q115x0 h S r0 r1).symm.trans ee
  exact TabP.nil
theorem r115 : PSound Tryz.prog 115 F115 := fun_soundP (C := C0) ok0 (pf := pf5) pfok5 (fn := Tryz.f115) (body := B115) (kinds := [Kd.i .i64, Kd.i .i64]) (A := A115) (T := T115) (by kernel_rfl) (by kernel_rfl) (by kernel_rfl) (by kernel_rfl) (fun h S => t115 h S)
noncomputable def pf6 : PF := pfC 115 F115 pf5
theorem pfok6 : PfSound Tryz.prog pf6 := pfC_ok r115 pfok5
noncomputable def orc9 := orcP 115 F115 orc8
noncomputable def C9 : Cfg := cfg orc9
theorem ok9 : C9.Ok := orcP_ok (C := C8) ok8 r115
/-! ceroplast/head.isSwap -/
noncomputable def B75 : Code := (Tryz.f75.body).getD .skip
noncomputable def A75 : G.Ann (List KI) := (G.Ann.node (some (0, [KI.reg 0 (Kd.v), KI.reg 1 (Kd.v)])) G.Ann.nil (G.Ann.node none G.Ann.nil G.Ann.nil))
noncomputable def P75x0 (h : Hp) (S : Nat → PAL → Option Value) (r0 : Value) (r1 : Value) : Option Value :=
  forceL (Array.toList (Value.cells r0)) fun c0 =>
  forceL (Array.toList (Value.cells r1)) fun c1 =>
  dropR c1 0 fun d2 => takeR d2 2 fun l2 =>
  nthR c0 2 fun v3 =>
  intK .i64 v3 fun i4 =>
  nthR c0 3 fun v5 =>
  intK .i64 v5 fun i6 =>
  optK (F115 [(Value.int .i64 i4), (Value.int .i64 i6)] h) fun v7 =>
  optK (binV env .eql 77 (Operand.tmp 5) (Operand.tmp 10) (Value.agg (Array.mk l2)) v7) fun v8 =>
  boolK v8 fun b9 =>
  some (Value.bool b9)
noncomputable def T75 (h : Hp) (S : Nat → PAL → Option Value) : Nat → PAL → Option Value := tabPC 0 (wV fun r0 => wV fun r1 => wN (P75x0 h S r0 r1)) (tabPN)
noncomputable def F75 (args : List Value) (h : Hp) : Option Value := plainO (packArgs [Kd.v, Kd.v] args fun al => G.rec' (T75 h) 1000000 0 al)
def nt75 : Nat := 2 + (12 - 2)
theorem q75x0 (h : Hp) (S : Nat → PAL → Option Value) (r0 : Value) (r1 : Value) : P75x0 h S r0 r1 = G.stepAt packP unpackP evXV (regP env pf6 nt75 h) (finP env Tryz.f75.results.toList) (G.collect B75 A75 []) 0 S (PAL.v r0 (PAL.v r1 PAL.n)) := by kernel_rfl
theorem t75 (h : Hp) (S : Nat → PAL → Option Value) : TabP (fun l al => G.stepAt packP unpackP evXV (regP env pf6 nt75 h) (finP env Tryz.f75.results.toList) (G.collect B75 A75 []) l S al) (T75 h S) := by
  unfold T75
  refine TabP.cons 0 (fun vs0 q e0 => ?_) ?_
  · obtain ⟨r0, vs1, rfl, e1⟩ := wV_some e0
    obtain ⟨r1, vs2, rfl, e2⟩ := wV_some e1
    obtain ⟨rfl, ee⟩ := wN_some e2
    exact (q75x0 h S r0 r1).symm.trans ee
  exact TabP.nil
theorem r75 : PSound Tryz.prog 75 F75 := fun_soundP (C := C0) ok0 (pf := pf6) pfok6 (fn := Tryz.f75) (body := B75) (kinds := [Kd.v, Kd.v]) (A := A75) (T := T75) (by kernel_rfl) (by kernel_rfl) (by kernel_rfl) (by kernel_rfl) (fun h S => t75 h S)
noncomputable def pf7 : PF := pfC 75 F75 pf6
theorem pfok7 : PfSound Tryz.prog pf7 := pfC_ok r75 pfok6
noncomputable def orc10 := orcP 75 F75 orc9
noncomputable def C10 : Cfg := cfg orc10
theorem ok10 : C10.Ok := orcP_ok (C := C9) ok9 r75
/-! ceroplast/head.nothingSeen -/
noncomputable def B76 : Code := (Tryz.f76.body).getD .skip
noncomputable def A76 : G.Ann (List KI) := (G.Ann.node (some (0, [KI.reg 0 (Kd.v), KI.reg 1 (Kd.v)])) G.Ann.nil (G.Ann.node none G.Ann.nil G.Ann.nil))
noncomputable def P76x0 (h : Hp) (S : Nat → PAL → Option Value) (r0 : Value) (r1 : Value) : Option Value :=
  forceL (Array.toList (Value.cells r0)) fun c0 =>
  forceL (Array.toList (Value.cells r1)) fun c1 =>
  some (Value.bool true)
noncomputable def T76 (h : Hp) (S : Nat → PAL → Option Value) : Nat → PAL → Option Value := tabPC 0 (wV fun r0 => wV fun r1 => wN (P76x0 h S r0 r1)) (tabPN)
noncomputable def F76 (args : List Value) (h : Hp) : Option Value := plainO (packArgs [Kd.v, Kd.v] args fun al => G.rec' (T76 h) 1000000 0 al)
def nt76 : Nat := 2 + (5 - 2)
theorem q76x0 (h : Hp) (S : Nat → PAL → Option Value) (r0 : Value) (r1 : Value) : P76x0 h S r0 r1 = G.stepAt packP unpackP evXV (regP env pf7 nt76 h) (finP env Tryz.f76.results.toList) (G.collect B76 A76 []) 0 S (PAL.v r0 (PAL.v r1 PAL.n)) := by kernel_rfl
theorem t76 (h : Hp) (S : Nat → PAL → Option Value) : TabP (fun l al => G.stepAt packP unpackP evXV (regP env pf7 nt76 h) (finP env Tryz.f76.results.toList) (G.collect B76 A76 []) l S al) (T76 h S) := by
  unfold T76
  refine TabP.cons 0 (fun vs0 q e0 => ?_) ?_
  · obtain ⟨r0, vs1, rfl, e1⟩ := wV_some e0
    obtain ⟨r1, vs2, rfl, e2⟩ := wV_some e1
    obtain ⟨rfl, ee⟩ := wN_some e2
    exact (q76x0 h S r0 r1).symm.trans ee
  exact TabP.nil
theorem r76 : PSound Tryz.prog 76 F76 := fun_soundP (C := C0) ok0 (pf := pf7) pfok7 (fn := Tryz.f76) (body := B76) (kinds := [Kd.v, Kd.v]) (A := A76) (T := T76) (by kernel_rfl) (by kernel_rfl) (by kernel_rfl) (by kernel_rfl) (fun h S => t76 h S)
noncomputable def pf8 : PF := pfC 76 F76 pf7
theorem pfok8 : PfSound Tryz.prog pf8 := pfC_ok r76 pfok7
noncomputable def orc11 := orcP 76 F76 orc10
noncomputable def C11 : Cfg := cfg orc11
theorem ok11 : C11.Ok := orcP_ok (C := C10) ok10 r76
/-! ceroplast/head.isEither -/
noncomputable def B77 : Code := (Tryz.f77.body).getD .skip
noncomputable def A77 : G.Ann (List KI) := (G.Ann.node (some (0, [KI.reg 0 (Kd.v), KI.reg 1 (Kd.v)])) G.Ann.nil (G.Ann.node none G.Ann.nil G.Ann.nil))
noncomputable def P77x0 (h : Hp) (S : Nat → PAL → Option Value) (r0 : Value) (r1 : Value) : Option Value :=
  forceL (Array.toList (Value.cells r0)) fun c0 =>
  forceL (Array.toList (Value.cells r1)) fun c1 =>
  dropR c1 0 fun d2 => takeR d2 2 fun l2 =>
  nthR c0 2 fun v3 =>
  intK .i64 v3 fun i4 =>
  nthR c0 3 fun v5 =>
  intK .i64 v5 fun i6 =>
  optK (F115 [(Value.int .i64 i4), (Value.int .i64 i6)] h) fun v7 =>
  optK (binV env .eql 77 (Operand.tmp 5) (Operand.tmp 10) (Value.agg (Array.mk l2)) v7) fun v8 =>
  boolK v8 fun b9 =>
  ifB b9
  (some (Value.bool true))
  (dropR c1 0 fun d10 => takeR d10 2 fun l10 =>
  nthR c0 4 fun v11 =>
  intK .i64 v11 fun i12 =>
  nthR c0 5 fun v13 =>
  intK .i64 v13 fun i14 =>
  optK (F115 [(Value.int .i64 i12), (Value.int .i64 i14)] h) fun v15 =>
  optK (binV env .eql 77 (Operand.tmp 13) (Operand.tmp 18) (Value.agg (Array.mk l10)) v15) fun v16 =>
  boolK v16 fun b17 =>
  some (Value.bool b17))
noncomputable def T77 (h : Hp) (S : Nat → PAL → Option Value) : Nat → PAL → Option Value := tabPC 0 (wV fun r0 => wV fun r1 => wN (P77x0 h S r0 r1)) (tabPN)
noncomputable def F77 (args : List Value) (h : Hp) : Option Value := plainO (packArgs [Kd.v, Kd.v] args fun al => G.rec' (T77 h) 1000000 0 al)
def nt77 : Nat := 2 + (21 - 2)
theorem q77x0 (h : Hp) (S : Nat → PAL → Option Value) (r0 : Value) (r1 : Value) : P77x0 h S r0 r1 = G.stepAt packP unpackP evXV (regP env pf8 nt77 h) (finP env Tryz.f77.results.toList) (G.collect B77 A77 []) 0 S (PAL.v r0 (PAL.v r1 PAL.n)) := by kernel_rfl
theorem t77 (h : Hp) (S : Nat → PAL → Option Value) : TabP (fun l al => G.stepAt packP unpackP evXV (regP env pf8 nt77 h) (finP env Tryz.f77.results.toList) (G.collect B77 A77 []) l S al) (T77 h S) := by
  unfold T77
  refine TabP.cons 0 (fun vs0 q e0 => ?_) ?_
  · obtain ⟨r0, vs1, rfl, e1⟩ := wV_some e0
    obtain ⟨r1, vs2, rfl, e2⟩ := wV_some e1
    obtain ⟨rfl, ee⟩ := wN_some e2
    exact (q77x0 h S r0 r1).symm.trans ee
  exact TabP.nil
theorem r77 : PSound Tryz.prog 77 F77 := fun_soundP (C := C0) ok0 (pf := pf8) pfok8 (fn := Tryz.f77) (body := B77) (kinds := [Kd.v, Kd.v]) (A := A77) (T := T77) (by kernel_rfl) (by kernel_rfl) (by kernel_rfl) (by kernel_rfl) (fun h S => t77 h S)
noncomputable def pf9 : PF := pfC 77 F77 pf8
theorem pfok9 : PfSound Tryz.prog pf9 := pfC_ok r77 pfok8
noncomputable def orc12 := orcP 77 F77 orc11
noncomputable def C12 : Cfg := cfg orc12
theorem ok12 : C12.Ok := orcP_ok (C := C11) ok11 r77
/-! ceroplast/sets.Has -/
noncomputable def B67 : Code := (Tryz.f67.body).getD .skip
noncomputable def A67 : G.Ann (List KI) := (G.Ann.node (some (0, [KI.reg 0 (Kd.i .i64), KI.reg 1 (Kd.i .i64)])) G.Ann.nil (G.Ann.node none G.Ann.nil G.Ann.nil))
noncomputable def P67x0 (h : Hp) (S : Nat → PAL → Option Value) (r0 : Int) (r1 : Int) : Option Value :=
  shrZ .i64 r0 r1 (shrI (binW env .shr 3 (Value.int .i64 r0) (Value.int .i64 r1)) (Value.int .i64 r0) (Value.int .i64 r1)) fun i0 =>
  andZ .i64 i0 (Int.ofNat 1) (andI (binW env .and 3 (Value.int .i64 i0) (Value.int .i64 (Int.ofNat 1))) (Value.int .i64 i0) (Value.int .i64 (Int.ofNat 1))) fun i1 =>
  boolZ (eqZ i1 (Int.ofNat 1)) fun b2 =>
  some (Value.bool b2)
noncomputable def T67 (h : Hp) (S : Nat → PAL → Option Value) : Nat → PAL → Option Value := tabPC 0 (wI fun r0 => wI fun r1 => wN (P67x0 h S r0 r1)) (tabPN)
noncomputable def F67 (args : List Value) (h : Hp) : Option Value := plainO (packArgs [Kd.i .i64, Kd.i .i64] args fun al => G.rec' (T67 h) 1000000 0 al)
def nt67 : Nat := 2 + (10 - 2)
theorem q67x0 (h : Hp) (S : Nat → PAL → Option Value) (r0 : Int) (r1 : Int) : P67x0 h S r0 r1 = G.stepAt packP unpackP evXV (regP env pf9 nt67 h) (finP env Tryz.f67.results.toList) (G.collect B67 A67 []) 0 S (PAL.i r0 (PAL.i r1 PAL.n)) := by kernel_rfl
theorem t67 (h : Hp) (S : Nat → PAL → Option Value) : TabP (fun l al => G.stepAt packP unpackP evXV (regP env pf9 nt67 h) (finP env Tryz.f67.results.toList) (G.collect B67 A67 []) l S al) (T67 h S) := by
  unfold T67
  refine TabP.cons 0 (fun vs0 q e0 => ?_) ?_
  · obtain ⟨r0, vs1, rfl, e1⟩ := wI_some e0
    obtain ⟨r1, vs2, rfl, e2⟩ := wI_some e1
    obtain ⟨rfl, ee⟩ := wN_some e2
    exact (q67x0 h S r0 r1).symm.trans ee
  exact TabP.nil
theorem r67 : PSound Tryz.prog 67 F67 := fun_soundP (C := C0) ok0 (pf := pf9) pfok9 (fn := Tryz.f67) (body := B67) (kinds := [Kd.i .i64, Kd.i .i64]) (A := A67) (T := T67) (by kernel_rfl) (by kernel_rfl) (by kernel_rfl) (by kernel_rfl) (fun h S => t67 h S)
noncomputable def pf10 : PF := pfC 67 F67 pf9
theorem pfok10 : PfSound Tryz.prog pf10 := pfC_ok r67 pfok9
noncomputable def orc13 := orcP 67 F67 orc12
noncomputable def C13 : Cfg := cfg orc13
theorem ok13 : C13.Ok := orcP_ok (C := C12) ok12 r67
/-! ceroplast/head.isSome -/
noncomputable def B78 : Code := (Tryz.f78.body).getD .skip
noncomputable def A78 : G.Ann (List KI) := (G.Ann.node (some (0, [KI.reg 0 (Kd.v), KI.reg 1 (Kd.v)])) G.Ann.nil (G.Ann.node none G.Ann.nil G.Ann.nil))
noncomputable def P78x0 (h : Hp) (S : Nat → PAL → Option Value) (r0 : Value) (r1 : Value) : Option Value :=
  forceL (Array.toList (Value.cells r0)) fun c0 =>
  forceL (Array.toList (Value.cells r1)) fun c1 =>
  nthR c1 0 fun v2 =>
  intK .i64 v2 fun i3 =>
  nthR c1 1 fun v4 =>
  intK .i64 v4 fun i5 =>
  boolZ (ltZ i3 i5) fun b6 =>
  ifB b6
  (nthR c0 6 fun v7 =>
  intK .i64 v7 fun i8 =>
  nthR c1 0 fun v9 =>
  intK .i64 v9 fun i10 =>
  optK (F67 [(Value.int .i64 i8), (Value.int .i64 i10)] h) fun v11 =>
  boolK v11 fun b12 =>
  ifB b12
  (nthR c0 6 fun v13 =>
  intK .i64 v13 fun i14 =>
  nthR c1 1 fun v15 =>
  intK .i64 v15 fun i16 =>
  optK (F67 [(Value.int .i64 i14), (Value.int .i64 i16)] h) fun v17 =>
  boolK v17 fun b18 =>
  some (Value.bool b18))
  (some (Value.bool false)))
  (some (Value.bool false))
noncomputable def T78 (h : Hp) (S : Nat → PAL → Option Value) : Nat → PAL → Option Value := tabPC 0 (wV fun r0 => wV fun r1 => wN (P78x0 h S r0 r1)) (tabPN)
noncomputable def F78 (args : List Value) (h : Hp) : Option Value := plainO (packArgs [Kd.v, Kd.v] args fun al => G.rec' (T78 h) 1000000 0 al)
def nt78 : Nat := 2 + (24 - 2)
theorem q78x0 (h : Hp) (S : Nat → PAL → Option Value) (r0 : Value) (r1 : Value) : P78x0 h S r0 r1 = G.stepAt packP unpackP evXV (regP env pf10 nt78 h) (finP env Tryz.f78.results.toList) (G.collect B78 A78 []) 0 S (PAL.v r0 (PAL.v r1 PAL.n)) := by kernel_rfl
theorem t78 (h : Hp) (S : Nat → PAL → Option Value) : TabP (fun l al => G.stepAt packP unpackP evXV (regP env pf10 nt78 h) (finP env Tryz.f78.results.toList) (G.collect B78 A78 []) l S al) (T78 h S) := by
  unfold T78
  refine TabP.cons 0 (fun vs0 q e0 => ?_) ?_
  · obtain ⟨r0, vs1, rfl, e1⟩ := wV_some e0
    obtain ⟨r1, vs2, rfl, e2⟩ := wV_some e1
    obtain ⟨rfl, ee⟩ := wN_some e2
    exact (q78x0 h S r0 r1).symm.trans ee
  exact TabP.nil
theorem r78 : PSound Tryz.prog 78 F78 := fun_soundP (C := C0) ok0 (pf := pf10) pfok10 (fn := Tryz.f78) (body := B78) (kinds := [Kd.v, Kd.v]) (A := A78) (T := T78) (by kernel_rfl) (by kernel_rfl) (by kernel_rfl) (by kernel_rfl) (fun h S => t78 h S)
noncomputable def pf11 : PF := pfC 78 F78 pf10
theorem pfok11 : PfSound Tryz.prog pf11 := pfC_ok r78 pfok10
noncomputable def orc14 := orcP 78 F78 orc13
noncomputable def C14 : Cfg := cfg orc14
theorem ok14 : C14.Ok := orcP_ok (C := C13) ok13 r78
/-! ceroplast/head.none -/
noncomputable def B72 : Code := (Tryz.f72.body).getD .skip
noncomputable def A72 : G.Ann (List KI) := (G.Ann.node (some (0, [])) G.Ann.nil (G.Ann.node none G.Ann.nil G.Ann.nil))
noncomputable def P72x0 (h : Hp) (S : Nat → PAL → Option Value) : Option Value :=
  optK (buildV env 77 (List.toArray [])) fun v0 =>
  aggK v0 fun l1 => ifB (Nat.beq (lenR l1) 2) (segR 0 l1 [(Value.int .i64 (Int.ofNat 0)), (Value.int .i64 (Int.ofNat 0))] fun c1 =>
  dropR c1 0 fun d2 => takeR d2 2 fun l2 => some (Value.agg (Array.mk l2))) none
noncomputable def T72 (h : Hp) (S : Nat → PAL → Option Value) : Nat → PAL → Option Value := tabPC 0 (wN (P72x0 h S)) (tabPN)
noncomputable def F72 (args : List Value) (h : Hp) : Option Value := plainO (packArgs [] args fun al => G.rec' (T72 h) 1000000 0 al)
def nt72 : Nat := 0 + (2 - 0)
theorem q72x0 (h : Hp) (S : Nat → PAL → Option Value) : P72x0 h S = G.stepAt packP unpackP evXV (regP env pf11 nt72 h) (finP env Tryz.f72.results.toList) (G.collect B72 A72 []) 0 S PAL.n := by kernel_rfl
theorem t72 (h : Hp) (S : Nat → PAL → Option Value) : TabP (fun l al => G.stepAt packP unpackP evXV (regP env pf11 nt72 h) (finP env Tryz.f72.results.toList) (G.collect B72 A72 []) l S al) (T72 h S) := by
  unfold T72
  refine TabP.cons 0 (fun vs0 q e0 => ?_) ?_
  · 
    obtain ⟨rfl, ee⟩ := wN_some e0
    exact (q72x0 h S).symm.trans ee
  exact TabP.nil
theorem r72 : PSound Tryz.prog 72 F72 := fun_soundP (C := C0) ok0 (pf := pf11) pfok11 (fn := Tryz.f72) (body := B72) (kinds := []) (A := A72) (T := T72) (by kernel_rfl) (by kernel_rfl) (by kernel_rfl) (by kernel_rfl) (fun h S => t72 h S)
noncomputable def pf12 : PF := pfC 72 F72 pf11
theorem pfok12 : PfSound Tryz.prog pf12 := pfC_ok r72 pfok11
noncomputable def orc15 := orcP 72 F72 orc14
noncomputable def C15 : Cfg := cfg orc15
theorem ok15 : C15.Ok := orcP_ok (C := C14) ok14 r72
/-! ceroplast/head.isNone -/
noncomputable def B79 : Code := (Tryz.f79.body).getD .skip
noncomputable def A79 : G.Ann (List KI) := (G.Ann.node (some (0, [KI.reg 0 (Kd.v), KI.reg 1 (Kd.v)])) G.Ann.nil (G.Ann.node none G.Ann.nil G.Ann.nil))
noncomputable def P79x0 (h : Hp) (S : Nat → PAL → Option Value) (r0 : Value) (r1 : Value) : Option Value :=
  forceL (Array.toList (Value.cells r0)) fun c0 =>
  forceL (Array.toList (Value.cells r1)) fun c1 =>
  dropR c1 0 fun d2 => takeR d2 2 fun l2 =>
  optK (F72 [] h) fun v3 =>
  optK (binV env .eql 77 (Operand.tmp 5) (Operand.tmp 6) (Value.agg (Array.mk l2)) v3) fun v4 =>
  boolK v4 fun b5 =>
  some (Value.bool b5)
noncomputable def T79 (h : Hp) (S : Nat → PAL → Option Value) : Nat → PAL → Option Value := tabPC 0 (wV fun r0 => wV fun r1 => wN (P79x0 h S r0 r1)) (tabPN)
noncomputable def F79 (args : List Value) (h : Hp) : Option Value := plainO (packArgs [Kd.v, Kd.v] args fun al => G.rec' (T79 h) 1000000 0 al)
def nt79 : Nat := 2 + (8 - 2)
theorem q79x0 (h : Hp) (S : Nat → PAL → Option Value) (r0 : Value) (r1 : Value) : P79x0 h S r0 r1 = G.stepAt packP unpackP evXV (regP env pf12 nt79 h) (finP env Tryz.f79.results.toList) (G.collect B79 A79 []) 0 S (PAL.v r0 (PAL.v r1 PAL.n)) := by kernel_rfl
theorem t79 (h : Hp) (S : Nat → PAL → Option Value) : TabP (fun l al => G.stepAt packP unpackP evXV (regP env pf12 nt79 h) (finP env Tryz.f79.results.toList) (G.collect B79 A79 []) l S al) (T79 h S) := by
  unfold T79
  refine TabP.cons 0 (fun vs0 q e0 => ?_) ?_
  · obtain ⟨r0, vs1, rfl, e1⟩ := wV_some e0
    obtain ⟨r1, vs2, rfl, e2⟩ := wV_some e1
    obtain ⟨rfl, ee⟩ := wN_some e2
    exact (q79x0 h S r0 r1).symm.trans ee
  exact TabP.nil
theorem r79 : PSound Tryz.prog 79 F79 := fun_soundP (C := C0) ok0 (pf := pf12) pfok12 (fn := Tryz.f79) (body := B79) (kinds := [Kd.v, Kd.v]) (A := A79) (T := T79) (by kernel_rfl) (by kernel_rfl) (by kernel_rfl) (by kernel_rfl) (fun h S => t79 h S)
noncomputable def pf13 : PF := pfC 79 F79 pf12
theorem pfok13 : PfSound Tryz.prog pf13 := pfC_ok r79 pfok12
noncomputable def orc16 := orcP 79 F79 orc15
noncomputable def C16 : Cfg := cfg orc16
theorem ok16 : C16.Ok := orcP_ok (C := C15) ok15 r79
/-! ceroplast/head.has -/
noncomputable def B80 : Code := (Tryz.f80.body).getD .skip
noncomputable def A80 : G.Ann (List KI) := (G.Ann.node (some (0, [KI.reg 0 (Kd.v), KI.reg 1 (Kd.v)])) G.Ann.nil (G.Ann.node none G.Ann.nil G.Ann.nil))
noncomputable def P80x0 (h : Hp) (S : Nat → PAL → Option Value) (r0 : Value) (r1 : Value) : Option Value :=
  forceL (Array.toList (Value.cells r0)) fun c0 =>
  forceL (Array.toList (Value.cells r1)) fun c1 =>
  nthR c0 2 fun v2 =>
  intK .i64 v2 fun i3 =>
  onI i3 (fun n4 => ifB (Nat.ble (Nat.succ n4) 5) (forceN (Nat.add 0 (Nat.mul n4 1)) fun o4 =>
  nthR c1 o4 fun v5 =>
  intK .i64 v5 fun i6 =>
  nthR c0 3 fun v7 =>
  intK .i64 v7 fun i8 =>
  boolZ (eqZ i6 i8) fun b9 =>
  some (Value.bool b9)) none) (fun _ => none)
noncomputable def T80 (h : Hp) (S : Nat → PAL → Option Value) : Nat → PAL → Option Value := tabPC 0 (wV fun r0 => wV fun r1 => wN (P80x0 h S r0 r1)) (tabPN)
noncomputable def F80 (args : List Value) (h : Hp) : Option Value := plainO (packArgs [Kd.v, Kd.v] args fun al => G.rec' (T80 h) 1000000 0 al)
def nt80 : Nat := 2 + (12 - 2)
theorem q80x0 (h : Hp) (S : Nat → PAL → Option Value) (r0 : Value) (r1 : Value) : P80x0 h S r0 r1 = G.stepAt packP unpackP evXV (regP env pf13 nt80 h) (finP env Tryz.f80.results.toList) (G.collect B80 A80 []) 0 S (PAL.v r0 (PAL.v r1 PAL.n)) := by kernel_rfl
theorem t80 (h : Hp) (S : Nat → PAL → Option Value) : TabP (fun l al => G.stepAt packP unpackP evXV (regP env pf13 nt80 h) (finP env Tryz.f80.results.toList) (G.collect B80 A80 []) l S al) (T80 h S) := by
  unfold T80
  refine TabP.cons 0 (fun vs0 q e0 => ?_) ?_
  · obtain ⟨r0, vs1, rfl, e1⟩ := wV_some e0
    obtain ⟨r1, vs2, rfl, e2⟩ := wV_some e1
    obtain ⟨rfl, ee⟩ := wN_some e2
    exact (q80x0 h S r0 r1).symm.trans ee
  exact TabP.nil
theorem r80 : PSound Tryz.prog 80 F80 := fun_soundP (C := C0) ok0 (pf := pf13) pfok13 (fn := Tryz.f80) (body := B80) (kinds := [Kd.v, Kd.v]) (A := A80) (T := T80) (by kernel_rfl) (by kernel_rfl) (by kernel_rfl) (by kernel_rfl) (fun h S => t80 h S)
noncomputable def pf14 : PF := pfC 80 F80 pf13
theorem pfok14 : PfSound Tryz.prog pf14 := pfC_ok r80 pfok13
noncomputable def orc17 := orcP 80 F80 orc16
noncomputable def C17 : Cfg := cfg orc17
theorem ok17 : C17.Ok := orcP_ok (C := C16) ok16 r80
/-! ceroplast/head.hasNot -/
noncomputable def B81 : Code := (Tryz.f81.body).getD .skip
noncomputable def A81 : G.Ann (List KI) := (G.Ann.node (some (0, [KI.reg 0 (Kd.v), KI.reg 1 (Kd.v)])) G.Ann.nil (G.Ann.node none G.Ann.nil G.Ann.nil))
noncomputable def P81x0 (h : Hp) (S : Nat → PAL → Option Value) (r0 : Value) (r1 : Value) : Option Value :=
  forceL (Array.toList (Value.cells r0)) fun c0 =>
  forceL (Array.toList (Value.cells r1)) fun c1 =>
  nthR c0 2 fun v2 =>
  intK .i64 v2 fun i3 =>
  onI i3 (fun n4 => ifB (Nat.ble (Nat.succ n4) 5) (forceN (Nat.add 0 (Nat.mul n4 1)) fun o4 =>
  nthR c1 o4 fun v5 =>
  intK .i64 v5 fun i6 =>
  nthR c0 3 fun v7 =>
  intK .i64 v7 fun i8 =>
  boolN (eqZ i6 i8) fun b9 =>
  some (Value.bool b9)) none) (fun _ => none)
noncomputable def T81 (h : Hp) (S : Nat → PAL → Option Value) : Nat → PAL → Option Value := tabPC 0 (wV fun r0 => wV fun r1 => wN (P81x0 h S r0 r1)) (tabPN)
noncomputable def F81 (args : List Value) (h : Hp) : Option Value := plainO (packArgs [Kd.v, Kd.v] args fun al => G.rec' (T81 h) 1000000 0 al)
def nt81 : Nat := 2 + (12 - 2)
theorem q81x0 (h : Hp) (S : Nat → PAL → Option Value) (r0 : Value) (r1 : Value) : P81x0 h S r0 r1 = G.stepAt packP unpackP evXV (regP env pf14 nt81 h) (finP env Tryz.f81.results.toList) (G.collect B81 A81 []) 0 S (PAL.v r0 (PAL.v r1 PAL.n)) := by kernel_rfl
theorem t81 (h : Hp) (S : Nat → PAL → Option Value) : TabP (fun l al => G.stepAt packP unpackP evXV (regP env pf14 nt81 h) (finP env Tryz.f81.results.toList) (G.collect B81 A81 []) l S al) (T81 h S) := by
  unfold T81
  refine TabP.cons 0 (fun vs0 q e0 => ?_) ?_
  · obtain ⟨r0, vs1, rfl, e1⟩ := wV_some e0
    obtain ⟨r1, vs2, rfl, e2⟩ := wV_some e1
    obtain ⟨rfl, ee⟩ := wN_some e2
    exact (q81x0 h S r0 r1).symm.trans ee
  exact TabP.nil
theorem r81 : PSound Tryz.prog 81 F81 := fun_soundP (C := C0) ok0 (pf := pf14) pfok14 (fn := Tryz.f81) (body := B81) (kinds := [Kd.v, Kd.v]) (A := A81) (T := T81) (by kernel_rfl) (by kernel_rfl) (by kernel_rfl) (by kernel_rfl) (fun h S => t81 h S)
noncomputable def pf15 : PF := pfC 81 F81 pf14
theorem pfok15 : PfSound Tryz.prog pf15 := pfC_ok r81 pfok14
noncomputable def orc18 := orcP 81 F81 orc17
noncomputable def C18 : Cfg := cfg orc18
theorem ok18 : C18.Ok := orcP_ok (C := C17) ok17 r81
/-! ceroplast/head.kinds -/
noncomputable def B52 : Code := (Tryz.f52.body).getD .skip
noncomputable def A52 : G.Ann (List KI) := (G.Ann.node (some (0, [])) G.Ann.nil (G.Ann.node none G.Ann.nil G.Ann.nil))
noncomputable def P52x0 (h : Hp) (S : Nat → PAL → Option Value) : Option Value :=
  optK (buildV env 61 (List.toArray [(0, (Value.int .i64 (Int.ofNat 1))), (1, (Value.int .i64 (Int.ofNat 1)))])) fun v0 =>
  optK (buildV env 119 (List.toArray [(0, v0), (1, (Value.func (.func 75) #[] #[])), (2, (Value.func (.func 76) #[] #[]))])) fun v1 =>
  optK (buildV env 61 (List.toArray [(0, (Value.int .i64 (Int.ofNat 1))), (1, (Value.int .i64 (Int.ofNat 1))), (2, (Value.int .i64 (Int.ofNat 1))), (3, (Value.int .i64 (Int.ofNat 1)))])) fun v2 =>
  optK (buildV env 119 (List.toArray [(0, v2), (1, (Value.func (.func 77) #[] #[])), (2, (Value.func (.func 76) #[] #[]))])) fun v3 =>
  optK (buildV env 61 (List.toArray [(4, (Value.int .i64 (Int.ofNat 2)))])) fun v4 =>
  optK (buildV env 119 (List.toArray [(0, v4), (1, (Value.func (.func 78) #[] #[])), (2, (Value.func (.func 76) #[] #[]))])) fun v5 =>
  optK (buildV env 61 (List.toArray [(0, (Value.int .i64 (Int.ofNat 1))), (1, (Value.int .i64 (Int.ofNat 1)))])) fun v6 =>
  optK (buildV env 119 (List.toArray [(0, v6), (1, (Value.func (.func 79) #[] #[])), (2, (Value.func (.func 80) #[] #[]))])) fun v7 =>
  optK (buildV env 61 (List.toArray [(0, (Value.int .i64 (Int.ofNat 1))), (1, (Value.int .i64 (Int.ofNat 1)))])) fun v8 =>
  optK (buildV env 119 (List.toArray [(0, v8), (1, (Value.func (.func 79) #[] #[])), (2, (Value.func (.func 81) #[] #[]))])) fun v9 =>
  optK (buildV env 120 (List.toArray [(0, v1), (1, v3), (2, v5), (3, v7), (4, v9)])) fun v10 =>
  aggK v10 fun l11 => ifB (Nat.beq (lenR l11) 35) (segR 0 l11 [(Value.int .i64 (Int.ofNat 0)), (Value.int .i64 (Int.ofNat 0)), (Value.int .i64 (Int.ofNat 0)), (Value.int .i64 (Int.ofNat 0)), (Value.int .i64 (Int.ofNat 0)), Value.nilFunc, Value.nilFunc, (Value.int .i64 (Int.ofNat 0)), (Value.int .i64 (Int.ofNat 0)), (Value.int .i64 (Int.ofNat 0)), (Value.int .i64 (Int.ofNat 0)), (Value.int .i64 (Int.ofNat 0)), Value.nilFunc, Value.nilFunc, (Value.int .i64 (Int.ofNat 0)), (Value.int .i64 (Int.ofNat 0)), (Value.int .i64 (Int.ofNat 0)), (Value.int .i64 (Int.ofNat 0)), (Value.int .i64 (Int.ofNat 0)), Value.nilFunc, Value.nilFunc, (Value.int .i64 (Int.ofNat 0)), (Value.int .i64 (Int.ofNat 0)), (Value.int .i64 (Int.ofNat 0)), (Value.int .i64 (Int.ofNat 0)), (Value.int .i64 (Int.ofNat 0)), Value.nilFunc, Value.nilFunc, (Value.int .i64 (Int.ofNat 0)), (Value.int .i64 (Int.ofNat 0)), (Value.int .i64 (Int.ofNat 0)), (Value.int .i64 (Int.ofNat 0)), (Value.int .i64 (Int.ofNat 0)), Value.nilFunc, Value.nilFunc] fun c11 =>
  dropR c11 0 fun d12 => takeR d12 35 fun l12 => some (Value.agg (Array.mk l12))) none
noncomputable def T52 (h : Hp) (S : Nat → PAL → Option Value) : Nat → PAL → Option Value := tabPC 0 (wN (P52x0 h S)) (tabPN)
noncomputable def F52 (args : List Value) (h : Hp) : Option Value := plainO (packArgs [] args fun al => G.rec' (T52 h) 1000000 0 al)
def nt52 : Nat := 0 + (12 - 0)
theorem q52x0 (h : Hp) (S : Nat → PAL → Option Value) : P52x0 h S = G.stepAt packP unpackP evXV (regP env pf15 nt52 h) (finP env Tryz.f52.results.toList) (G.collect B52 A52 []) 0 S PAL.n := by kernel_rfl
theorem t52 (h : Hp) (S : Nat → PAL → Option Value) : TabP (fun l al => G.stepAt packP unpackP evXV (regP env pf15 nt52 h) (finP env Tryz.f52.results.toList) (G.collect B52 A52 []) l S al) (T52 h S) := by
  unfold T52
  refine TabP.cons 0 (fun vs0 q e0 => ?_) ?_
  · 
    obtain ⟨rfl, ee⟩ := wN_some e0
    exact (q52x0 h S).symm.trans ee
  exact TabP.nil
theorem r52 : PSound Tryz.prog 52 F52 := fun_soundP (C := C0) ok0 (pf := pf15) pfok15 (fn := Tryz.f52) (body := B52) (kinds := []) (A := A52) (T := T52) (by kernel_rfl) (by kernel_rfl) (by kernel_rfl) (by kernel_rfl) (fun h S => t52 h S)
noncomputable def pf16 : PF := pfC 52 F52 pf15
theorem pfok16 : PfSound Tryz.prog pf16 := pfC_ok r52 pfok15
noncomputable def orc19 := orcP 52 F52 orc18
noncomputable def C19 : Cfg := cfg orc19
theorem ok19 : C19.Ok := orcP_ok (C := C18) ok18 r52
/-! ceroplast/check.IsIndex -/
noncomputable def B41 : Code := (Tryz.f41.body).getD .skip
noncomputable def A41 : G.Ann (List KI) := (G.Ann.node (some (0, [KI.reg 0 (Kd.i .i64), KI.reg 1 (Kd.v)])) G.Ann.nil (G.Ann.node none G.Ann.nil G.Ann.nil))
noncomputable def P41x0 (h : Hp) (S : Nat → PAL → Option Value) (r0 : Int) (r1 : Value) : Option Value :=
  wrap64 (Int.sub r0 (Int.ofNat 1)) fun i0 =>
  optK (F42 [(Value.int .i64 (Int.ofNat 0)), (Value.int .i64 i0), r1] h) fun v1 =>
  boolK v1 fun b2 =>
  some (Value.bool b2)
noncomputable def T41 (h : Hp) (S : Nat → PAL → Option Value) : Nat → PAL → Option Value := tabPC 0 (wI fun r0 => wV fun r1 => wN (P41x0 h S r0 r1)) (tabPN)
noncomputable def F41 (args : List Value) (h : Hp) : Option Value := plainO (packArgs [Kd.i .i64, Kd.v] args fun al => G.rec' (T41 h) 1000000 0 al)
def nt41 : Nat := 2 + (9 - 2)
theorem q41x0 (h : Hp) (S : Nat → PAL → Option Value) (r0 : Int) (r1 : Value) : P41x0 h S r0 r1 = G.stepAt packP unpackP evXV (regP env pf16 nt41 h) (finP env Tryz.f41.results.toList) (G.collect B41 A41 []) 0 S (PAL.i r0 (PAL.v r1 PAL.n)) := by kernel_rfl
theorem t41 (h : Hp) (S : Nat → PAL → Option Value) : TabP (fun l al => G.stepAt packP unpackP evXV (regP env pf16 nt41 h) (finP env Tryz.f41.results.toList) (G.collect B41 A41 []) l S al) (T41 h S) := by
  unfold T41
  refine TabP.cons 0 (fun vs0 q e0 => ?_) ?_
  · obtain ⟨r0, vs1, rfl, e1⟩ := wI_some e0
    obtain ⟨r1, vs2, rfl, e2⟩ := wV_some e1
    obtain ⟨rfl, ee⟩ := wN_some e2
    exact (q41x0 h S r0 r1).symm.trans ee
  exact TabP.nil
theorem r41 : PSound Tryz.prog 41 F41 := fun_soundP (C := C0) ok0 (pf := pf16) pfok16 (fn := Tryz.f41) (body := B41) (kinds := [Kd.i .i64, Kd.v]) (A := A41) (T := T41) (by kernel_rfl) (by kernel_rfl) (by kernel_rfl) (by kernel_rfl) (fun h S => t41 h S)
noncomputable def pf17 : PF := pfC 41 F41 pf16
theorem pfok17 : PfSound Tryz.prog pf17 := pfC_ok r41 pfok16
noncomputable def orc20 := orcP 41 F41 orc19
noncomputable def C20 : Cfg := cfg orc20
theorem ok20 : C20.Ok := orcP_ok (C := C19) ok19 r41
/-! math/bits.OnesCount64 -/
noncomputable def B120 : Code := (Tryz.f120.body).getD .skip
noncomputable def A120 : G.Ann (List KI) := (G.Ann.node (some (0, [KI.reg 0 (Kd.i .u64)])) G.Ann.nil (G.Ann.node none G.Ann.nil (G.Ann.node none G.Ann.nil (G.Ann.node none G.Ann.nil (G.Ann.node none G.Ann.nil (G.Ann.node none G.Ann.nil (G.Ann.node none G.Ann.nil (G.Ann.node none G.Ann.nil G.Ann.nil))))))))
noncomputable def P120x0 (h : Hp) (S : Nat → PAL → Option Value) (r0 : Int) : Option Value :=
  shrZ .u64 r0 (Int.ofNat 1) (shrI (binW env .shr 155 (Value.int .u64 r0) (Value.int .u64 (Int.ofNat 1))) (Value.int .u64 r0) (Value.int .u64 (Int.ofNat 1))) fun i0 =>
  andZ .u64 i0 (Int.ofNat 6148914691236517205) (andI (binW env .and 155 (Value.int .u64 i0) (Value.int .u64 (Int.ofNat 6148914691236517205))) (Value.int .u64 i0) (Value.int .u64 (Int.ofNat 6148914691236517205))) fun i1 =>
  andZ .u64 r0 (Int.ofNat 6148914691236517205) (andI (binW env .and 155 (Value.int .u64 r0) (Value.int .u64 (Int.ofNat 6148914691236517205))) (Value.int .u64 r0) (Value.int .u64 (Int.ofNat 6148914691236517205))) fun i2 =>
  forceI (wrapF .u64 (Int.add i1 i2)) fun i3 =>
  shrZ .u64 i3 (Int.ofNat 2) (shrI (binW env .shr 155 (Value.int .u64 i3) (Value.int .u64 (Int.ofNat 2))) (Value.int .u64 i3) (Value.int .u64 (Int.ofNat 2))) fun i4 =>
  andZ .u64 i4 (Int.ofNat 3689348814741910323) (andI (binW env .and 155 (Value.int .u64 i4) (Value.int .u64 (Int.ofNat 3689348814741910323))) (Value.int .u64 i4) (Value.int .u64 (Int.ofNat 3689348814741910323))) fun i5 =>
  andZ .u64 i3 (Int.ofNat 3689348814741910323) (andI (binW env .and 155 (Value.int .u64 i3) (Value.int .u64 (Int.ofNat 3689348814741910323))) (Value.int .u64 i3) (Value.int .u64 (Int.ofNat 3689348814741910323))) fun i6 =>
  forceI (wrapF .u64 (Int.add i5 i6)) fun i7 =>
  shrZ .u64 i7 (Int.ofNat 4) (shrI (binW env .shr 155 (Value.int .u64 i7) (Value.int .u64 (Int.ofNat 4))) (Value.int .u64 i7) (Value.int .u64 (Int.ofNat 4))) fun i8 =>
  forceI (wrapF .u64 (Int.add i8 i7)) fun i9 =>
  andZ .u64 i9 (Int.ofNat 1085102592571150095) (andI (binW env .and 155 (Value.int .u64 i9) (Value.int .u64 (Int.ofNat 1085102592571150095))) (Value.int .u64 i9) (Value.int .u64 (Int.ofNat 1085102592571150095))) fun i10 =>
  shrZ .u64 i10 (Int.ofNat 8) (shrI (binW env .shr 155 (Value.int .u64 i10) (Value.int .u64 (Int.ofNat 8))) (Value.int .u64 i10) (Value.int .u64 (Int.ofNat 8))) fun i11 =>
  forceI (wrapF .u64 (Int.add i10 i11)) fun i12 =>
  shrZ .u64 i12 (Int.ofNat 16) (shrI (binW env .shr 155 (Value.int .u64 i12) (Value.int .u64 (Int.ofNat 16))) (Value.int .u64 i12) (Value.int .u64 (Int.ofNat 16))) fun i13 =>
  forceI (wrapF .u64 (Int.add i12 i13)) fun i14 =>
  shrZ .u64 i14 (Int.ofNat 32) (shrI (binW env .shr 155 (Value.int .u64 i14) (Value.int .u64 (Int.ofNat 32))) (Value.int .u64 i14) (Value.int .u64 (Int.ofNat 32))) fun i15 =>
  forceI (wrapF .u64 (Int.add i14 i15)) fun i16 =>
  wrap64 i16 fun i17 =>
  andZ .i64 i17 (Int.ofNat 127) (andI (binW env .and 3 (Value.int .i64 i17) (Value.int .i64 (Int.ofNat 127))) (Value.int .i64 i17) (Value.int .i64 (Int.ofNat 127))) fun i18 =>
  some (Value.int .i64 i18)
noncomputable def T120 (h : Hp) (S : Nat → PAL → Option Value) : Nat → PAL → Option Value := tabPC 0 (wI fun r0 => wN (P120x0 h S r0)) (tabPN)
noncomputable def F120 (args : List Value) (h : Hp) : Option Value := plainO (packArgs [Kd.i .u64] args fun al => G.rec' (T120 h) 1000000 0 al)
def nt120 : Nat := 1 + (35 - 1)
theorem q120x0 (h : Hp) (S : Nat → PAL → Option Value) (r0 : Int) : P120x0 h S r0 = G.stepAt packP unpackP evXV (regP env pf17 nt120 h) (finP env Tryz.f120.results.toList) (G.collect B120 A120 []) 0 S (PAL.i r0 PAL.n) := by kernel_rfl
theorem t120 (h : Hp) (S : Nat → PAL → Option Value) : TabP (fun l al => G.stepAt packP unpackP evXV (regP env pf17 nt120 h) (finP env Tryz.f120.results.toList) (G.collect B120 A120 []) l S al) (T120 h S) := by
  unfold T120
  refine TabP.cons 0 (fun vs0 q e0 => ?_) ?_
  · obtain ⟨r0, vs1, rfl, e1⟩ := wI_some e0
    obtain ⟨rfl, ee⟩ := wN_some e1
    exact (q120x0 h S r0).symm.trans ee
  exact TabP.nil
theorem r120 : PSound Tryz.prog 120 F120 := fun_soundP (C := C0) ok0 (pf := pf17) pfok17 (fn := Tryz.f120) (body := B120) (kinds := [Kd.i .u64]) (A := A120) (T := T120) (by kernel_rfl) (by kernel_rfl) (by kernel_rfl) (by kernel_rfl) (fun h S => t120 h S)
noncomputable def pf18 : PF := pfC 120 F120 pf17
theorem pfok18 : PfSound Tryz.prog pf18 := pfC_ok r120 pfok17
noncomputable def orc21 := orcP 120 F120 orc20
noncomputable def C21 : Cfg := cfg orc21
theorem ok21 : C21.Ok := orcP_ok (C := C20) ok20 r120
/-! math/bits.OnesCount -/
noncomputable def B92 : Code := (Tryz.f92.body).getD .skip
noncomputable def A92 : G.Ann (List KI) := (G.Ann.node (some (0, [KI.reg 0 (Kd.i .u64)])) G.Ann.nil (G.Ann.node none (G.Ann.node none (G.Ann.node none G.Ann.nil G.Ann.nil) G.Ann.nil) (G.Ann.node none G.Ann.nil G.Ann.nil)))
noncomputable def P92x0 (h : Hp) (S : Nat → PAL → Option Value) (r0 : Int) : Option Value :=
  optK (F120 [(Value.int .u64 r0)] h) fun v0 =>
  intK .i64 v0 fun i1 =>
  some (Value.int .i64 i1)
noncomputable def T92 (h : Hp) (S : Nat → PAL → Option Value) : Nat → PAL → Option Value := tabPC 0 (wI fun r0 => wN (P92x0 h S r0)) (tabPN)
noncomputable def F92 (args : List Value) (h : Hp) : Option Value := plainO (packArgs [Kd.i .u64] args fun al => G.rec' (T92 h) 1000000 0 al)
def nt92 : Nat := 1 + (8 - 1)
theorem q92x0 (h : Hp) (S : Nat → PAL → Option Value) (r0 : Int) : P92x0 h S r0 = G.stepAt packP unpackP evXV (regP env pf18 nt92 h) (finP env Tryz.f92.results.toList) (G.collect B92 A92 []) 0 S (PAL.i r0 PAL.n) := by kernel_rfl
theorem t92 (h : Hp) (S : Nat → PAL → Option Value) : TabP (fun l al => G.stepAt packP unpackP evXV (regP env pf18 nt92 h) (finP env Tryz.f92.results.toList) (G.collect B92 A92 []) l S al) (T92 h S) := by
  unfold T92
  refine TabP.cons 0 (fun vs0 q e0 => ?_) ?_
  · obtain ⟨r0, vs1, rfl, e1⟩ := wI_some e0
    obtain ⟨rfl, ee⟩ := wN_some e1
    exact (q92x0 h S r0).symm.trans ee
  exact TabP.nil
theorem r92 : PSound Tryz.prog 92 F92 := fun_soundP (C := C0) ok0 (pf := pf18) pfok18 (fn := Tryz.f92) (body := B92) (kinds := [Kd.i .u64]) (A := A92) (T := T92) (by kernel_rfl) (by kernel_rfl) (by kernel_rfl) (by kernel_rfl) (fun h S => t92 h S)
noncomputable def pf19 : PF := pfC 92 F92 pf18
theorem pfok19 : PfSound Tryz.prog pf19 := pfC_ok r92 pfok18
noncomputable def orc22 := orcP 92 F92 orc21
noncomputable def C22 : Cfg := cfg orc22
theorem ok22 : C22.Ok := orcP_ok (C := C21) ok21 r92
/-! ceroplast/head.namesTooFew -/
noncomputable def B118 : Code := (Tryz.f118.body).getD .skip
noncomputable def A118 : G.Ann (List KI) := (G.Ann.node (some (0, [KI.reg 0 (Kd.v)])) G.Ann.nil (G.Ann.node none (G.Ann.node none G.Ann.nil (G.Ann.node none (G.Ann.node none G.Ann.nil (G.Ann.node none (G.Ann.node none G.Ann.nil G.Ann.nil) (G.Ann.node none G.Ann.nil (G.Ann.node none (G.Ann.node none G.Ann.nil G.Ann.nil) (G.Ann.node none G.Ann.nil (G.Ann.node none (G.Ann.node none G.Ann.nil G.Ann.nil) G.Ann.nil)))))) G.Ann.nil)) (G.Ann.node none G.Ann.nil G.Ann.nil)))
noncomputable def P118x0 (h : Hp) (S : Nat → PAL → Option Value) (r0 : Value) : Option Value :=
  forceL (Array.toList (Value.cells r0)) fun c0 =>
  nthR c0 1 fun v1 =>
  intK .i64 v1 fun i2 =>
  boolZ (eqZ i2 (Int.ofNat 0)) fun b3 =>
  ifB b3
  (nthR c0 2 fun v4 =>
  intK .i64 v4 fun i5 =>
  nthR c0 3 fun v6 =>
  intK .i64 v6 fun i7 =>
  boolZ (eqZ i5 i7) fun b8 =>
  some (Value.bool b8))
  (boolZ (eqZ i2 (Int.ofNat 1)) fun b9 =>
  ifB b9
  (nthR c0 2 fun v10 =>
  intK .i64 v10 fun i11 =>
  nthR c0 3 fun v12 =>
  intK .i64 v12 fun i13 =>
  boolZ (eqZ i11 i13) fun b14 =>
  ifB b14
  (some (Value.bool true))
  (nthR c0 4 fun v15 =>
  intK .i64 v15 fun i16 =>
  nthR c0 5 fun v17 =>
  intK .i64 v17 fun i18 =>
  boolZ (eqZ i16 i18) fun b19 =>
  some (Value.bool b19)))
  (boolZ (eqZ i2 (Int.ofNat 2)) fun b20 =>
  ifB b20
  (nthR c0 6 fun v21 =>
  intK .i64 v21 fun i22 =>
  forceI (wrapF .u64 i22) fun i23 =>
  optK (F92 [(Value.int .u64 i23)] h) fun v24 =>
  intK .i64 v24 fun i25 =>
  boolZ (ltZ i25 (Int.ofNat 2)) fun b26 =>
  some (Value.bool b26))
  (some (Value.bool false))))
noncomputable def T118 (h : Hp) (S : Nat → PAL → Option Value) : Nat → PAL → Option Value := tabPC 0 (wV fun r0 => wN (P118x0 h S r0)) (tabPN)
noncomputable def F118 (args : List Value) (h : Hp) : Option Value := plainO (packArgs [Kd.v] args fun al => G.rec' (T118 h) 1000000 0 al)
def nt118 : Nat := 1 + (33 - 1)
theorem q118x0 (h : Hp) (S : Nat → PAL → Option Value) (r0 : Value) : P118x0 h S r0 = G.stepAt packP unpackP evXV (regP env pf19 nt118 h) (finP env Tryz.f118.results.toList) (G.collect B118 A118 []) 0 S (PAL.v r0 PAL.n) := by kernel_rfl
theorem t118 (h : Hp) (S : Nat → PAL → Option Value) : TabP (fun l al => G.stepAt packP unpackP evXV (regP env pf19 nt118 h) (finP env Tryz.f118.results.toList) (G.collect B118 A118 []) l S al) (T118 h S) := by
  unfold T118
  refine TabP.cons 0 (fun vs0 q e0 => ?_) ?_
  · obtain ⟨r0, vs1, rfl, e1⟩ := wV_some e0
    obtain ⟨rfl, ee⟩ := wN_some e1
    exact (q118x0 h S r0).symm.trans ee
  exact TabP.nil
theorem r118 : PSound Tryz.prog 118 F118 := fun_soundP (C := C0) ok0 (pf := pf19) pfok19 (fn := Tryz.f118) (body := B118) (kinds := [Kd.v]) (A := A118) (T := T118) (by kernel_rfl) (by kernel_rfl) (by kernel_rfl) (by kernel_rfl) (fun h S => t118 h S)
noncomputable def pf20 : PF := pfC 118 F118 pf19
theorem pfok20 : PfSound Tryz.prog pf20 := pfC_ok r118 pfok19
noncomputable def orc23 := orcP 118 F118 orc22
noncomputable def C23 : Cfg := cfg orc23
theorem ok23 : C23.Ok := orcP_ok (C := C22) ok22 r118
/-! ceroplast/head.fieldsError -/
noncomputable def B90 : Code := (Tryz.f90.body).getD .skip
def A90 : Ann := (Ann.node (some (0, [(0, Kd.i .i64), (1, Kd.v)])) Ann.nil (Ann.node none Ann.nil (Ann.node none Ann.nil (Ann.node none (Ann.node none Ann.nil (Ann.node none (Ann.node (some (1, [(0, Kd.i .i64), (3, Kd.v), (5, Kd.b), (6, Kd.v), (24, Kd.v), (25, Kd.i .i64)])) (Ann.node none Ann.nil (Ann.node none (Ann.node none Ann.nil Ann.nil) (Ann.node none (Ann.node none (Ann.node none Ann.nil (Ann.node none Ann.nil (Ann.node none (Ann.node none Ann.nil (Ann.node none (Ann.node none Ann.nil (Ann.node none (Ann.node none Ann.nil Ann.nil) Ann.nil)) (Ann.node none Ann.nil (Ann.node none (Ann.node none Ann.nil (Ann.node none (Ann.node none Ann.nil Ann.nil) Ann.nil)) Ann.nil)))) Ann.nil))) Ann.nil) Ann.nil))) Ann.nil) Ann.nil)) (Ann.node (some (2, [(3, Kd.v), (5, Kd.b)])) (Ann.node none Ann.nil (Ann.node none (Ann.node none Ann.nil Ann.nil) Ann.nil)) (Ann.node none Ann.nil Ann.nil))))))
noncomputable def P90x2 (S : Sg) (r3 : Value) (r5 : Bool) (h : Hp) : CRes :=
  boolN r5 fun b0 =>
  ifB b0
  (some ((Value.int .i64 (Int.ofNat 2)), h))
  (loadNK 7 h r3 fun v1 =>
  pairK (optK (F118 [v1] h) fun v => some (v, h)) fun v2 h2 =>
  boolK v2 fun b3 =>
  ifB b3
  (some ((Value.int .i64 (Int.ofNat 2)), h2))
  (some ((Value.int .i64 (Int.ofNat 0)), h2)))
noncomputable def P90x1 (S : Sg) (r0 : Int) (r3 : Value) (r5 : Bool) (r6 : Value) (r24 : Value) (r25 : Int) (h : Hp) : CRes :=
  boolZ (ltZ r25 (Int.ofNat 5)) fun b0 =>
  ifB b0
  (optK (indexV env 61 r24 (Value.int .i64 r25)) fun v1 =>
  intK .i64 v1 fun i2 =>
  idxAK 5 1 r6 r25 fun v3 =>
  load1K h v3 fun v4 =>
  intK .i64 v4 fun i5 =>
  boolZ (eqZ i5 (Int.ofNat 1)) fun b6 =>
  ifB b6
  (pairK (buildSliceV env h 28 1 (List.toArray [(0, (Value.int .i64 i2))])) fun v7 h7 =>
  pairK (optK (F41 [(Value.int .i64 r0), v7] h7) fun v => some (v, h7)) fun v8 h8 =>
  boolK v8 fun b9 =>
  boolN b9 fun b10 =>
  ifB b10
  (some ((Value.int .i64 (Int.ofNat 4)), h8))
  (wrap64 (Int.add r25 (Int.ofNat 1)) fun i11 =>
  S 1 (AL.i r0 (AL.v r3 (AL.b r5 (AL.v r6 (AL.v r24 (AL.i i11 AL.n)))))) h8))
  (boolZ (eqZ i5 (Int.ofNat 2)) fun b12 =>
  ifB b12
  (slowI .i64 (shlI (binW env .shl 3 (Value.int .i64 (Int.ofNat 1)) (Value.int .i64 r0)) (Value.int .i64 (Int.ofNat 1)) (Value.int .i64 r0)) fun i13 =>
  pairK (buildSliceV env h 28 1 (List.toArray [(0, (Value.int .i64 i2))])) fun v14 h14 =>
  pairK (optK (F41 [(Value.int .i64 i13), v14] h14) fun v => some (v, h14)) fun v15 h15 =>
  boolK v15 fun b16 =>
  boolN b16 fun b17 =>
  ifB b17
  (some ((Value.int .i64 (Int.ofNat 4)), h15))
  (wrap64 (Int.add r25 (Int.ofNat 1)) fun i18 =>
  S 1 (AL.i r0 (AL.v r3 (AL.b r5 (AL.v r6 (AL.v r24 (AL.i i18 AL.n)))))) h15))
  (ifB r5
  (boolZ (eqZ i2 (Int.ofNat 0)) fun b19 =>
  wrap64 (Int.add r25 (Int.ofNat 1)) fun i20 =>
  S 1 (AL.i r0 (AL.v r3 (AL.b b19 (AL.v r6 (AL.v r24 (AL.i i20 AL.n)))))) h)
  (wrap64 (Int.add r25 (Int.ofNat 1)) fun i21 =>
  S 1 (AL.i r0 (AL.v r3 (AL.b false (AL.v r6 (AL.v r24 (AL.i i21 AL.n)))))) h))))
  (S 2 (AL.v r3 (AL.b r5 AL.n)) h)
noncomputable def P90x0 (S : Sg) (r0 : Int) (r1 : Value) (h : Hp) : CRes :=
  allocK h 50 (Array.toList (Value.cells r1)) fun a0 h0 =>
  pairK (optK (F52 [] (Hp.mk (Hp.next h0) (Hp.next h0) (Hp.objs h0))) fun v => some (v, (Hp.mk (Hp.next h0) (Hp.next h0) (Hp.objs h0)))) fun v1 h1 =>
  leftK v1 (Hp.next h0) h1 fun w2 n2 =>
  ptrAddK 1 a0 fun v3 =>
  leftK v3 n2 (Hp.mk n2 n2 T.nil) fun w4 n4 =>
  load1K (Hp.mk n4 n4 (addAll w4 (Hp.objs h0))) v3 fun v5 =>
  intK .i64 v5 fun i6 =>
  optK (indexV env 120 v1 (Value.int .i64 i6)) fun v7 =>
  leftK v7 n4 (Hp.mk n4 n4 T.nil) fun w8 n8 =>
  partNK 0 5 v7 fun v9 =>
  leftK v9 n8 (Hp.mk n8 n8 T.nil) fun w10 n10 =>
  allocK (Hp.mk n10 n10 T.nil) 61 [(Value.int .i64 (Int.ofNat 0)), (Value.int .i64 (Int.ofNat 0)), (Value.int .i64 (Int.ofNat 0)), (Value.int .i64 (Int.ofNat 0)), (Value.int .i64 (Int.ofNat 0))] fun a11 h11 =>
  leftK a11 n10 h11 fun w12 n12 =>
  storeNK 5 (Hp.mk n12 (Hp.ro h0) (addAll w12 (addAll w10 (addAll w8 (addAll w4 (addAll w2 (Hp.objs h0))))))) a11 v9 fun h13 =>
  ptrAddK 2 a0 fun v14 =>
  load1K h13 v14 fun v15 =>
  intK .i64 v15 fun i16 =>
  ptrAddK 3 a0 fun v17 =>
  load1K h13 v17 fun v18 =>
  intK .i64 v18 fun i19 =>
  ptrAddK 4 a0 fun v20 =>
  load1K h13 v20 fun v21 =>
  intK .i64 v21 fun i22 =>
  ptrAddK 5 a0 fun v23 =>
  load1K h13 v23 fun v24 =>
  intK .i64 v24 fun i25 =>
  ptrAddK 6 a0 fun v26 =>
  load1K h13 v26 fun v27 =>
  intK .i64 v27 fun i28 =>
  optK (buildV env 61 (List.toArray [(0, (Value.int .i64 i16)), (1, (Value.int .i64 i19)), (2, (Value.int .i64 i22)), (3, (Value.int .i64 i25)), (4, (Value.int .i64 i28))])) fun v29 =>
  S 1 (AL.i r0 (AL.v a0 (AL.b true (AL.v a11 (AL.v v29 (AL.i (Int.ofNat 0) AL.n)))))) h13
noncomputable def T90 (S : Sg) : Sg := tabC 0 (uI fun r0 => uV fun r1 => uN fun h => P90x0 S r0 r1 h) (tabC 1 (uI fun r0 => uV fun r3 => uB fun r5 => uV fun r6 => uV fun r24 => uI fun r25 => uN fun h => P90x1 S r0 r3 r5 r6 r24 r25 h) (tabC 2 (uV fun r3 => uB fun r5 => uN fun h => P90x2 S r3 r5 h) (tabN)))
noncomputable def F90 (args : List Value) (h : Hp) : CRes := packVals [Kd.i .i64, Kd.v] args fun al => rec' T90 1000000 0 al h
def nt90 : Nat := 2 + (59 - 2)
theorem q90x2 (S : Sg) (r3 : Value) (r5 : Bool) (h : Hp) : P90x2 S r3 r5 h = stepAt (regK env orc23 (nt90)) (finK env Tryz.f90.results.toList) (collect B90 A90 []) 2 S (AL.v r3 (AL.b r5 AL.n)) h := by kernel_rfl
theorem q90x1 (S : Sg) (r0 : Int) (r3 : Value) (r5 : Bool) (r6 : Value) (r24 : Value) (r25 : Int) (h : Hp) : P90x1 S r0 r3 r5 r6 r24 r25 h = stepAt (regK env orc23 (nt90)) (finK env Tryz.f90.results.toList) (collect B90 A90 []) 1 S (AL.i r0 (AL.v r3 (AL.b r5 (AL.v r6 (AL.v r24 (AL.i r25 AL.n)))))) h := by kernel_rfl
theorem q90x0 (S : Sg) (r0 : Int) (r1 : Value) (h : Hp) : P90x0 S r0 r1 h = stepAt (regK env orc23 (nt90)) (finK env Tryz.f90.results.toList) (collect B90 A90 []) 0 S (AL.i r0 (AL.v r1 AL.n)) h := by kernel_rfl
theorem t90 (S : Sg) : Tab (fun l vs h => stepAt (regK env orc23 nt90) (finK env Tryz.f90.results.toList) (collect B90 A90 []) l S vs h) (T90 S) := by
  unfold T90
  refine Tab.cons 0 (fun vs0 h q e0 => ?_) ?_
  · obtain ⟨r0, vs1, rfl, e1⟩ := uI_some e0
    obtain ⟨r1, vs2, rfl, e2⟩ := uV_some e1
    obtain ⟨rfl, ee⟩ := uN_some e2
    exact (q90x0 S r0 r1 h).symm.trans ee
  refine Tab.cons 1 (fun vs0 h q e0 => ?_) ?_
  · obtain ⟨r0, vs1, rfl, e1⟩ := uI_some e0
    obtain ⟨r3, vs2, rfl, e2⟩ := uV_some e1
    obtain ⟨r5, vs3, rfl, e3⟩ := uB_some e2
    obtain ⟨r6, vs4, rfl, e4⟩ := uV_some e3
    obtain ⟨r24, vs5, rfl, e5⟩ := uV_some e4
    obtain ⟨r25, vs6, rfl, e6⟩ := uI_some e5
    obtain ⟨rfl, ee⟩ := uN_some e6
    exact (q90x1 S r0 r3 r5 r6 r24 r25 h).symm.trans ee
  refine Tab.cons 2 (fun vs0 h q e0 => ?_) ?_
  · obtain ⟨r3, vs1, rfl, e1⟩ := uV_some e0
    obtain ⟨r5, vs2, rfl, e2⟩ := uB_some e1
    obtain ⟨rfl, ee⟩ := uN_some e2
    exact (q90x2 S r3 r5 h).symm.trans ee
  exact Tab.nil
theorem r90 : ∀ args h v h', F90 args h = some (v, h') → Runs (C23) (.call 90 args.toArray h) (.ret v h') := by
  intro args h v h' e
  exact fun_sound (C := C23) (fn := Tryz.f90) (body := B90) (np := 2) (A := A90) (T := T90) (kinds := [Kd.i .i64, Kd.v]) (by kernel_rfl) (by kernel_rfl) (by kernel_rfl) (by kernel_rfl) (regK_ok env_ok) (by kernel_rfl) (fun S => t90 S) e
noncomputable def orc24 := orcQ 90 F90 orc23
noncomputable def C24 : Cfg := cfg orc24
theorem ok24 : C24.Ok := orcQ_ok (C := C23) ok23 r90
/-! ceroplast/head.countSome -/
noncomputable def B91 : Code := (Tryz.f91.body).getD .skip
noncomputable def A91 : G.Ann (List KI) := (G.Ann.node (some (0, [KI.reg 0 (Kd.v)])) G.Ann.nil (G.Ann.node none G.Ann.nil (G.Ann.node none (G.Ann.node none G.Ann.nil (G.Ann.node none (G.Ann.node (some (1, [KI.reg 3 (Kd.i .i64), KI.reg 6 (Kd.v), KI.reg 7 (Kd.i .i64), KI.reg 8 (Kd.i .i64)])) (G.Ann.node none G.Ann.nil (G.Ann.node none (G.Ann.node none G.Ann.nil G.Ann.nil) (G.Ann.node none (G.Ann.node none (G.Ann.node none G.Ann.nil (G.Ann.node none G.Ann.nil (G.Ann.node none G.Ann.nil G.Ann.nil))) G.Ann.nil) G.Ann.nil))) G.Ann.nil) G.Ann.nil)) (G.Ann.node (some (2, [KI.reg 3 (Kd.i .i64)])) G.Ann.nil G.Ann.nil))))
noncomputable def P91x2 (h : Hp) (S : Nat → PAL → Option Value) (r3 : Int) : Option Value :=
  some (Value.int .i64 r3)
noncomputable def P91x1 (h : Hp) (S : Nat → PAL → Option Value) (r3 : Int) (r6 : Value) (r7 : Int) (r8 : Int) : Option Value :=
  boolZ (ltZ r8 r7) fun b0 =>
  ifB b0
  (idxSK 7 r6 r8 fun v1 =>
  loadNK 7 h v1 fun v2 =>
  aggK v2 fun l3 => ifB (Nat.beq (lenR l3) 7) (segR 0 l3 [(Value.int .i64 (Int.ofNat 0)), (Value.int .i64 (Int.ofNat 0)), (Value.int .i64 (Int.ofNat 0)), (Value.int .i64 (Int.ofNat 0)), (Value.int .i64 (Int.ofNat 0)), (Value.int .i64 (Int.ofNat 0)), (Value.int .i64 (Int.ofNat 0))] fun c3 =>
  nthR c3 1 fun v4 =>
  intK .i64 v4 fun i5 =>
  boolZ (eqZ i5 (Int.ofNat 2)) fun b6 =>
  ifB b6
  (wrap64 (Int.add r3 (Int.ofNat 1)) fun i7 =>
  wrap64 (Int.add r8 (Int.ofNat 1)) fun i8 =>
  S 1 (PAL.i i7 (PAL.v r6 (PAL.i r7 (PAL.i i8 PAL.n)))))
  (wrap64 (Int.add r8 (Int.ofNat 1)) fun i9 =>
  S 1 (PAL.i r3 (PAL.v r6 (PAL.i r7 (PAL.i i9 PAL.n)))))) none)
  (S 2 (PAL.i r3 PAL.n))
noncomputable def P91x0 (h : Hp) (S : Nat → PAL → Option Value) (r0 : Value) : Option Value :=
  lenSK r0 fun i0 =>
  S 1 (PAL.i (Int.ofNat 0) (PAL.v r0 (PAL.i i0 (PAL.i (Int.ofNat 0) PAL.n))))
noncomputable def T91 (h : Hp) (S : Nat → PAL → Option Value) : Nat → PAL → Option Value := tabPC 0 (wV fun r0 => wN (P91x0 h S r0)) (tabPC 1 (wI fun r3 => wV fun r6 => wI fun r7 => wI fun r8 => wN (P91x1 h S r3 r6 r7 r8)) (tabPC 2 (wI fun r3 => wN (P91x2 h S r3)) (tabPN)))
noncomputable def F91 (args : List Value) (h : Hp) : Option Value := plainO (packArgs [Kd.v] args fun al => G.rec' (T91 h) 1000000 0 al)
def nt91 : Nat := 1 + (19 - 1)
theorem q91x2 (h : Hp) (S : Nat → PAL → Option Value) (r3 : Int) : P91x2 h S r3 = G.stepAt packP unpackP evXV (regP env pf20 nt91 h) (finP env Tryz.f91.results.toList) (G.collect B91 A91 []) 2 S (PAL.i r3 PAL.n) := by kernel_rfl
theorem q91x1 (h : Hp) (S : Nat → PAL → Option Value) (r3 : Int) (r6 : Value) (r7 : Int) (r8 : Int) : P91x1 h S r3 r6 r7 r8 = G.stepAt packP unpackP evXV (regP env pf20 nt91 h) (finP env Tryz.f91.results.toList) (G.collect B91 A91 []) 1 S (PAL.i r3 (PAL.v r6 (PAL.i r7 (PAL.i r8 PAL.n)))) := by kernel_rfl
theorem q91x0 (h : Hp) (S : Nat → PAL → Option Value) (r0 : Value) : P91x0 h S r0 = G.stepAt packP unpackP evXV (regP env pf20 nt91 h) (finP env Tryz.f91.results.toList) (G.collect B91 A91 []) 0 S (PAL.v r0 PAL.n) := by kernel_rfl
theorem t91 (h : Hp) (S : Nat → PAL → Option Value) : TabP (fun l al => G.stepAt packP unpackP evXV (regP env pf20 nt91 h) (finP env Tryz.f91.results.toList) (G.collect B91 A91 []) l S al) (T91 h S) := by
  unfold T91
  refine TabP.cons 0 (fun vs0 q e0 => ?_) ?_
  · obtain ⟨r0, vs1, rfl, e1⟩ := wV_some e0
    obtain ⟨rfl, ee⟩ := wN_some e1
    exact (q91x0 h S r0).symm.trans ee
  refine TabP.cons 1 (fun vs0 q e0 => ?_) ?_
  · obtain ⟨r3, vs1, rfl, e1⟩ := wI_some e0
    obtain ⟨r6, vs2, rfl, e2⟩ := wV_some e1
    obtain ⟨r7, vs3, rfl, e3⟩ := wI_some e2
    obtain ⟨r8, vs4, rfl, e4⟩ := wI_some e3
    obtain ⟨rfl, ee⟩ := wN_some e4
    exact (q91x1 h S r3 r6 r7 r8).symm.trans ee
  refine TabP.cons 2 (fun vs0 q e0 => ?_) ?_
  · obtain ⟨r3, vs1, rfl, e1⟩ := wI_some e0
    obtain ⟨rfl, ee⟩ := wN_some e1
    exact (q91x2 h S r3).symm.trans ee
  exact TabP.nil
theorem r91 : PSound Tryz.prog 91 F91 := fun_soundP (C := C0) ok0 (pf := pf20) pfok20 (fn := Tryz.f91) (body := B91) (kinds := [Kd.v]) (A := A91) (T := T91) (by kernel_rfl) (by kernel_rfl) (by kernel_rfl) (by kernel_rfl) (fun h S => t91 h S)
noncomputable def pf21 : PF := pfC 91 F91 pf20
theorem pfok21 : PfSound Tryz.prog pf21 := pfC_ok r91 pfok20
noncomputable def orc25 := orcP 91 F91 orc24
noncomputable def C25 : Cfg := cfg orc25
theorem ok25 : C25.Ok := orcP_ok (C := C24) ok24 r91
/-! ceroplast/head.lineError -/
noncomputable def B65 : Code := (Tryz.f65.body).getD .skip
def A65 : Ann := (Ann.node (some (0, [(0, Kd.i .i64), (1, Kd.v), (2, Kd.v)])) Ann.nil (Ann.node none (Ann.node none (Ann.node none Ann.nil (Ann.node none (Ann.node none Ann.nil Ann.nil) (Ann.node none Ann.nil (Ann.node (some (1, [(0, Kd.i .i64), (1, Kd.v), (5, Kd.v), (14, Kd.b)])) (Ann.node none Ann.nil Ann.nil) (Ann.node none Ann.nil (Ann.node none (Ann.node none Ann.nil Ann.nil) Ann.nil)))))) Ann.nil) (Ann.node (some (2, [(0, Kd.i .i64), (1, Kd.v), (5, Kd.v)])) (Ann.node none Ann.nil (Ann.node none Ann.nil (Ann.node none (Ann.node none Ann.nil Ann.nil) Ann.nil))) (Ann.node none (Ann.node none Ann.nil (Ann.node none (Ann.node none Ann.nil Ann.nil) Ann.nil)) (Ann.node none Ann.nil Ann.nil)))))
noncomputable def P65x2 (S : Sg) (r0 : Int) (r1 : Value) (r5 : Value) (h : Hp) : CRes :=
  loadNK 7 h r5 fun v0 =>
  pairK (callQ F90 [(Value.int .i64 r0), v0] h) fun v1 h1 =>
  intK .i64 v1 fun i2 =>
  boolN (eqZ i2 (Int.ofNat 0)) fun b3 =>
  ifB b3
  (some ((Value.int .i64 i2), h1))
  (ptrAddK 1 r5 fun v4 =>
  load1K h1 v4 fun v5 =>
  intK .i64 v5 fun i6 =>
  boolZ (eqZ i6 (Int.ofNat 2)) fun b7 =>
  ifB b7
  (pairK (optK (F91 [r1] h1) fun v => some (v, h1)) fun v8 h8 =>
  intK .i64 v8 fun i9 =>
  boolN (ltZ i9 (Int.ofNat 2)) fun b10 =>
  ifB b10
  (some ((Value.int .i64 (Int.ofNat 3)), h8))
  (some ((Value.int .i64 (Int.ofNat 0)), h8)))
  (some ((Value.int .i64 (Int.ofNat 0)), h1)))
noncomputable def P65x1 (S : Sg) (r0 : Int) (r1 : Value) (r5 : Value) (r14 : Bool) (h : Hp) : CRes :=
  ifB r14
  (some ((Value.int .i64 (Int.ofNat 2)), h))
  (pairK (pairK (optK (F52 [] (Hp.mk (Hp.next h) (Hp.next h) (Hp.objs h))) fun v => some (v, (Hp.mk (Hp.next h) (Hp.next h) (Hp.objs h)))) fun v _ => ifB (plainK v) (some (v, h)) none) fun v0 h0 =>
  ptrAddK 1 r5 fun v1 =>
  load1K h0 v1 fun v2 =>
  intK .i64 v2 fun i3 =>
  pairK (buildSliceV env h0 28 1 (List.toArray [(0, (Value.int .i64 i3))])) fun v4 h4 =>
  pairK (optK (F41 [(Value.int .i64 (Int.ofNat 5)), v4] h4) fun v => some (v, h4)) fun v5 h5 =>
  boolK v5 fun b6 =>
  boolN b6 fun b7 =>
  ifB b7
  (some ((Value.int .i64 (Int.ofNat 7)), h5))
  (S 2 (AL.i r0 (AL.v r1 (AL.v r5 AL.n))) h5))
noncomputable def P65x0 (S : Sg) (r0 : Int) (r1 : Value) (r2 : Value) (h : Hp) : CRes :=
  allocK h 50 (Array.toList (Value.cells r2)) fun a0 h0 =>
  ptrAddK 0 a0 fun v1 =>
  load1K h0 v1 fun v2 =>
  intK .i64 v2 fun i3 =>
  pairK (buildSliceV env h0 28 1 (List.toArray [(0, (Value.int .i64 i3))])) fun v4 h4 =>
  pairK (optK (F42 [(Value.int .i64 (Int.ofNat 0)), (Value.int .i64 (Int.ofNat 364)), v4] h4) fun v => some (v, h4)) fun v5 h5 =>
  boolK v5 fun b6 =>
  boolN b6 fun b7 =>
  ifB b7
  (some ((Value.int .i64 (Int.ofNat 7)), h5))
  (lenSK r1 fun i8 =>
  boolZ (ltZ (Int.ofNat 0) i8) fun b9 =>
  ifB b9
  (lenSK r1 fun i10 =>
  wrap64 (Int.sub i10 (Int.ofNat 1)) fun i11 =>
  idxSK 7 r1 i11 fun v12 =>
  ptrAddK 0 v12 fun v13 =>
  load1K h5 v13 fun v14 =>
  intK .i64 v14 fun i15 =>
  ptrAddK 0 a0 fun v16 =>
  load1K h5 v16 fun v17 =>
  intK .i64 v17 fun i18 =>
  boolZ (ltZ i18 i15) fun b19 =>
  S 1 (AL.i r0 (AL.v r1 (AL.v a0 (AL.b b19 AL.n)))) h5)
  (S 1 (AL.i r0 (AL.v r1 (AL.v a0 (AL.b false AL.n)))) h5))
noncomputable def T65 (S : Sg) : Sg := tabC 0 (uI fun r0 => uV fun r1 => uV fun r2 => uN fun h => P65x0 S r0 r1 r2 h) (tabC 1 (uI fun r0 => uV fun r1 => uV fun r5 => uB fun r14 => uN fun h => P65x1 S r0 r1 r5 r14 h) (tabC 2 (uI fun r0 => uV fun r1 => uV fun r5 => uN fun h => P65x2 S r0 r1 r5 h) (tabN)))
noncomputable def F65 (args : List Value) (h : Hp) : CRes := packVals [Kd.i .i64, Kd.v, Kd.v] args fun al => rec' T65 1000000 0 al h
def nt65 : Nat := 3 + (52 - 3)
theorem q65x2 (S : Sg) (r0 : Int) (r1 : Value) (r5 : Value) (h : Hp) : P65x2 S r0 r1 r5 h = stepAt (regK env orc25 (nt65)) (finK env Tryz.f65.results.toList) (collect B65 A65 []) 2 S (AL.i r0 (AL.v r1 (AL.v r5 AL.n))) h := by kernel_rfl
theorem q65x1 (S : Sg) (r0 : Int) (r1 : Value) (r5 : Value) (r14 : Bool) (h : Hp) : P65x1 S r0 r1 r5 r14 h = stepAt (regK env orc25 (nt65)) (finK env Tryz.f65.results.toList) (collect B65 A65 []) 1 S (AL.i r0 (AL.v r1 (AL.v r5 (AL.b r14 AL.n)))) h := by kernel_rfl
theorem q65x0 (S : Sg) (r0 : Int) (r1 : Value) (r2 : Value) (h : Hp) : P65x0 S r0 r1 r2 h = stepAt (regK env orc25 (nt65)) (finK env Tryz.f65.results.toList) (collect B65 A65 []) 0 S (AL.i r0 (AL.v r1 (AL.v r2 AL.n))) h := by kernel_rfl
theorem t65 (S : Sg) : Tab (fun l vs h => stepAt (regK env orc25 nt65) (finK env Tryz.f65.results.toList) (collect B65 A65 []) l S vs h) (T65 S) := by
  unfold T65
  refine Tab.cons 0 (fun vs0 h q e0 => ?_) ?_
  · obtain ⟨r0, vs1, rfl, e1⟩ := uI_some e0
    obtain ⟨r1, vs2, rfl, e2⟩ := uV_some e1
    obtain ⟨r2, vs3, rfl, e3⟩ := uV_some e2
    obtain ⟨rfl, ee⟩ := uN_some e3
    exact (q65x0 S r0 r1 r2 h).symm.trans ee
  refine Tab.cons 1 (fun vs0 h q e0 => ?_) ?_
  · obtain ⟨r0, vs1, rfl, e1⟩ := uI_some e0
    obtain ⟨r1, vs2, rfl, e2⟩ := uV_some e1
    obtain ⟨r5, vs3, rfl, e3⟩ := uV_some e2
    obtain ⟨r14, vs4, rfl, e4⟩ := uB_some e3
    obtain ⟨rfl, ee⟩ := uN_some e4
    exact (q65x1 S r0 r1 r5 r14 h).symm.trans ee
  refine Tab.cons 2 (fun vs0 h q e0 => ?_) ?_
  · obtain ⟨r0, vs1, rfl, e1⟩ := uI_some e0
    obtain ⟨r1, vs2, rfl, e2⟩ := uV_some e1
    obtain ⟨r5, vs3, rfl, e3⟩ := uV_some e2
    obtain ⟨rfl, ee⟩ := uN_some e3
    exact (q65x2 S r0 r1 r5 h).symm.trans ee
  exact Tab.nil
theorem r65 : ∀ args h v h', F65 args h = some (v, h') → Runs (C25) (.call 65 args.toArray h) (.ret v h') := by
  intro args h v h' e
  exact fun_sound (C := C25) (fn := Tryz.f65) (body := B65) (np := 3) (A := A65) (T := T65) (kinds := [Kd.i .i64, Kd.v, Kd.v]) (by kernel_rfl) (by kernel_rfl) (by kernel_rfl) (by kernel_rfl) (regK_ok env_ok) (by kernel_rfl) (fun S => t65 S) e
noncomputable def orc26 := orcQ 65 F65 orc25
noncomputable def C26 : Cfg := cfg orc26
theorem ok26 : C26.Ok := orcQ_ok (C := C25) ok25 r65
/-! ceroplast/head.Check$1 -/
noncomputable def B64 : Code := (Tryz.f64.body).getD .skip
def A64 : Ann := (Ann.node (some (0, [(0, Kd.v), (1, Kd.v), (2, Kd.v)])) Ann.nil (Ann.node none Ann.nil Ann.nil))
noncomputable def P64x0 (S : Sg) (r0 : Value) (r1 : Value) (r2 : Value) (h : Hp) : CRes :=
  allocK h 50 (Array.toList (Value.cells r1)) fun a0 h0 =>
  ptrAddK 0 r2 fun v1 =>
  load1K h0 v1 fun v2 =>
  lenSK v2 fun i3 =>
  loadNK 7 h0 a0 fun v4 =>
  pairK (callQ F65 [(Value.int .i64 i3), r0, v4] h0) fun v5 h5 =>
  intK .i64 v5 fun i6 =>
  some ((Value.int .i64 i6), h5)
noncomputable def T64 (S : Sg) : Sg := tabC 0 (uV fun r0 => uV fun r1 => uV fun r2 => uN fun h => P64x0 S r0 r1 r2 h) (tabN)
noncomputable def F64 (args : List Value) (h : Hp) : CRes := packVals [Kd.v, Kd.v, Kd.v] args fun al => rec' T64 1000000 0 al h
def nt64 : Nat := 3 + (12 - 3)
theorem q64x0 (S : Sg) (r0 : Value) (r1 : Value) (r2 : Value) (h : Hp) : P64x0 S r0 r1 r2 h = stepAt (regK env orc26 (nt64)) (finK env Tryz.f64.results.toList) (collect B64 A64 []) 0 S (AL.v r0 (AL.v r1 (AL.v r2 AL.n))) h := by kernel_rfl
theorem t64 (S : Sg) : Tab (fun l vs h => stepAt (regK env orc26 nt64) (finK env Tryz.f64.results.toList) (collect B64 A64 []) l S vs h) (T64 S) := by
  unfold T64
  refine Tab.cons 0 (fun vs0 h q e0 => ?_) ?_
  · obtain ⟨r0, vs1, rfl, e1⟩ := uV_some e0
    obtain ⟨r1, vs2, rfl, e2⟩ := uV_some e1
    obtain ⟨r2, vs3, rfl, e3⟩ := uV_some e2
    obtain ⟨rfl, ee⟩ := uN_some e3
    exact (q64x0 S r0 r1 r2 h).symm.trans ee
  exact Tab.nil
theorem r64 : ∀ args h v h', F64 args h = some (v, h') → Runs (C26) (.call 64 args.toArray h) (.ret v h') := by
  intro args h v h' e
  exact fun_sound (C := C26) (fn := Tryz.f64) (body := B64) (np := 3) (A := A64) (T := T64) (kinds := [Kd.v, Kd.v, Kd.v]) (by kernel_rfl) (by kernel_rfl) (by kernel_rfl) (by kernel_rfl) (regK_ok env_ok) (by kernel_rfl) (fun S => t64 S) e
noncomputable def orc27 := orcQ 64 F64 orc26
noncomputable def C27 : Cfg := cfg orc27
theorem ok27 : C27.Ok := orcQ_ok (C := C26) ok26 r64
/-! ceroplast/check.First[ceroplast/api.HeBody] -/
noncomputable def B59 : Code := (Tryz.f59.body).getD .skip
def A59 : Ann := (Ann.node (some (0, [(0, Kd.v), (1, Kd.v)])) Ann.nil (Ann.node none (Ann.node none Ann.nil (Ann.node none (Ann.node (some (1, [(0, Kd.v), (1, Kd.v), (9, Kd.v), (10, Kd.i .i64), (11, Kd.i .i64)])) (Ann.node none Ann.nil (Ann.node none (Ann.node none Ann.nil Ann.nil) (Ann.node none (Ann.node none (Ann.node none Ann.nil (Ann.node none Ann.nil (Ann.node none Ann.nil (Ann.node none (Ann.node none Ann.nil Ann.nil) Ann.nil)))) Ann.nil) Ann.nil))) Ann.nil) Ann.nil)) (Ann.node (some (2, [])) Ann.nil Ann.nil)))
noncomputable def P59x2 (S : Sg) (h : Hp) : CRes :=
  some (Value.tuple (List.toArray [(Value.int .i64 (Int.ofNat 0)), (Value.int .i64 (Int.ofNat 0))]), h)
noncomputable def P59x1 (S : Sg) (r0 : Value) (r1 : Value) (r9 : Value) (r10 : Int) (r11 : Int) (h : Hp) : CRes :=
  boolZ (ltZ r11 r10) fun b0 =>
  ifB b0
  (idxSK 2 r9 r11 fun v1 =>
  loadNK 2 h v1 fun v2 =>
  allocK h 44 [(Value.string (ByteArray.mk #[])), (Value.slice none 0 0)] fun a3 h3 =>
  storeNK 2 h3 a3 v2 fun h4 =>
  optK (sliceV env h4 22 r0 none (some (Value.int .i64 r11)) none) fun v5 =>
  loadNK 2 h4 a3 fun v6 =>
  pairK (callF orc27 r1 [v5, v6] h4) fun v7 h7 =>
  intK .i64 v7 fun i8 =>
  boolN (eqZ i8 (Int.ofNat 0)) fun b9 =>
  ifB b9
  (some (Value.tuple (List.toArray [(Value.int .i64 r11), (Value.int .i64 i8)]), h7))
  (wrap64 (Int.add r11 (Int.ofNat 1)) fun i10 =>
  S 1 (AL.v r0 (AL.v r1 (AL.v r9 (AL.i r10 (AL.i i10 AL.n))))) h7))
  (S 2 AL.n h)
noncomputable def P59x0 (S : Sg) (r0 : Value) (r1 : Value) (h : Hp) : CRes :=
  lenSK r0 fun i0 =>
  S 1 (AL.v r0 (AL.v r1 (AL.v r0 (AL.i i0 (AL.i (Int.ofNat 0) AL.n))))) h
noncomputable def T59 (S : Sg) : Sg := tabC 0 (uV fun r0 => uV fun r1 => uN fun h => P59x0 S r0 r1 h) (tabC 1 (uV fun r0 => uV fun r1 => uV fun r9 => uI fun r10 => uI fun r11 => uN fun h => P59x1 S r0 r1 r9 r10 r11 h) (tabC 2 (uN fun h => P59x2 S  h) (tabN)))
noncomputable def F59 (args : List Value) (h : Hp) : CRes := packVals [Kd.v, Kd.v] args fun al => rec' T59 1000000 0 al h
def nt59 : Nat := 2 + (27 - 2)
theorem q59x2 (S : Sg) (h : Hp) : P59x2 S  h = stepAt (regK env orc27 (nt59)) (finK env Tryz.f59.results.toList) (collect B59 A59 []) 2 S AL.n h := by kernel_rfl
theorem q59x1 (S : Sg) (r0 : Value) (r1 : Value) (r9 : Value) (r10 : Int) (r11 : Int) (h : Hp) : P59x1 S r0 r1 r9 r10 r11 h = stepAt (regK env orc27 (nt59)) (finK env Tryz.f59.results.toList) (collect B59 A59 []) 1 S (AL.v r0 (AL.v r1 (AL.v r9 (AL.i r10 (AL.i r11 AL.n))))) h := by kernel_rfl
theorem q59x0 (S : Sg) (r0 : Value) (r1 : Value) (h : Hp) : P59x0 S r0 r1 h = stepAt (regK env orc27 (nt59)) (finK env Tryz.f59.results.toList) (collect B59 A59 []) 0 S (AL.v r0 (AL.v r1 AL.n)) h := by kernel_rfl
theorem t59 (S : Sg) : Tab (fun l vs h => stepAt (regK env orc27 nt59) (finK env Tryz.f59.results.toList) (collect B59 A59 []) l S vs h) (T59 S) := by
  unfold T59
  refine Tab.cons 0 (fun vs0 h q e0 => ?_) ?_
  · obtain ⟨r0, vs1, rfl, e1⟩ := uV_some e0
    obtain ⟨r1, vs2, rfl, e2⟩ := uV_some e1
    obtain ⟨rfl, ee⟩ := uN_some e2
    exact (q59x0 S r0 r1 h).symm.trans ee
  refine Tab.cons 1 (fun vs0 h q e0 => ?_) ?_
  · obtain ⟨r0, vs1, rfl, e1⟩ := uV_some e0
    obtain ⟨r1, vs2, rfl, e2⟩ := uV_some e1
    obtain ⟨r9, vs3, rfl, e3⟩ := uV_some e2
    obtain ⟨r10, vs4, rfl, e4⟩ := uI_some e3
    obtain ⟨r11, vs5, rfl, e5⟩ := uI_some e4
    obtain ⟨rfl, ee⟩ := uN_some e5
    exact (q59x1 S r0 r1 r9 r10 r11 h).symm.trans ee
  refine Tab.cons 2 (fun vs0 h q e0 => ?_) ?_
  · 
    obtain ⟨rfl, ee⟩ := uN_some e0
    exact (q59x2 S  h).symm.trans ee
  exact Tab.nil
theorem r59 : ∀ args h v h', F59 args h = some (v, h') → Runs (C27) (.call 59 args.toArray h) (.ret v h') := by
  intro args h v h' e
  exact fun_sound (C := C27) (fn := Tryz.f59) (body := B59) (np := 2) (A := A59) (T := T59) (kinds := [Kd.v, Kd.v]) (by kernel_rfl) (by kernel_rfl) (by kernel_rfl) (by kernel_rfl) (regK_ok env_ok) (by kernel_rfl) (fun S => t59 S) e
noncomputable def orc28 := orcQ 59 F59 orc27
noncomputable def C28 : Cfg := cfg orc28
theorem ok28 : C28.Ok := orcQ_ok (C := C27) ok27 r59
/-! ceroplast/head.bodyError$1 -/
noncomputable def B87 : Code := (Tryz.f87.body).getD .skip
noncomputable def A87 : G.Ann (List KI) := (G.Ann.node (some (0, [KI.reg 0 (Kd.v), KI.reg 1 (Kd.v)])) G.Ann.nil (G.Ann.node none G.Ann.nil G.Ann.nil))
noncomputable def P87x0 (h : Hp) (S : Nat → PAL → Option Value) (r0 : Value) (r1 : Value) : Option Value :=
  forceL (Array.toList (Value.cells r0)) fun c0 =>
  nthR c0 0 fun v1 =>
  ptrAddK 0 r1 fun v2 =>
  load1K h v2 fun v3 =>
  optK (binV env .eql 9 (Operand.tmp 5) (Operand.tmp 7) v1 v3) fun v4 =>
  boolK v4 fun b5 =>
  some (Value.bool b5)
noncomputable def T87 (h : Hp) (S : Nat → PAL → Option Value) : Nat → PAL → Option Value := tabPC 0 (wV fun r0 => wV fun r1 => wN (P87x0 h S r0 r1)) (tabPN)
noncomputable def F87 (args : List Value) (h : Hp) : Option Value := plainO (packArgs [Kd.v, Kd.v] args fun al => G.rec' (T87 h) 1000000 0 al)
def nt87 : Nat := 2 + (9 - 2)
theorem q87x0 (h : Hp) (S : Nat → PAL → Option Value) (r0 : Value) (r1 : Value) : P87x0 h S r0 r1 = G.stepAt packP unpackP evXV (regP env pf21 nt87 h) (finP env Tryz.f87.results.toList) (G.collect B87 A87 []) 0 S (PAL.v r0 (PAL.v r1 PAL.n)) := by kernel_rfl
theorem t87 (h : Hp) (S : Nat → PAL → Option Value) : TabP (fun l al => G.stepAt packP unpackP evXV (regP env pf21 nt87 h) (finP env Tryz.f87.results.toList) (G.collect B87 A87 []) l S al) (T87 h S) := by
  unfold T87
  refine TabP.cons 0 (fun vs0 q e0 => ?_) ?_
  · obtain ⟨r0, vs1, rfl, e1⟩ := wV_some e0
    obtain ⟨r1, vs2, rfl, e2⟩ := wV_some e1
    obtain ⟨rfl, ee⟩ := wN_some e2
    exact (q87x0 h S r0 r1).symm.trans ee
  exact TabP.nil
theorem r87 : PSound Tryz.prog 87 F87 := fun_soundP (C := C0) ok0 (pf := pf21) pfok21 (fn := Tryz.f87) (body := B87) (kinds := [Kd.v, Kd.v]) (A := A87) (T := T87) (by kernel_rfl) (by kernel_rfl) (by kernel_rfl) (by kernel_rfl) (fun h S => t87 h S)
noncomputable def pf22 : PF := pfC 87 F87 pf21
theorem pfok22 : PfSound Tryz.prog pf22 := pfC_ok r87 pfok21
noncomputable def orc29 := orcP 87 F87 orc28
noncomputable def C29 : Cfg := cfg orc29
theorem ok29 : C29.Ok := orcP_ok (C := C28) ok28 r87
/-! ceroplast/mould.isLetter -/
noncomputable def B95 : Code := (Tryz.f95.body).getD .skip
noncomputable def A95 : G.Ann (List KI) := (G.Ann.node (some (0, [KI.reg 0 (Kd.i .u8)])) G.Ann.nil (G.Ann.node none G.Ann.nil G.Ann.nil))
noncomputable def P95x0 (h : Hp) (S : Nat → PAL → Option Value) (r0 : Int) : Option Value :=
  boolN (ltZ r0 (Int.ofNat 97)) fun b0 =>
  ifB b0
  (boolN (ltZ (Int.ofNat 122) r0) fun b1 =>
  some (Value.bool b1))
  (some (Value.bool false))
noncomputable def T95 (h : Hp) (S : Nat → PAL → Option Value) : Nat → PAL → Option Value := tabPC 0 (wI fun r0 => wN (P95x0 h S r0)) (tabPN)
noncomputable def F95 (args : List Value) (h : Hp) : Option Value := plainO (packArgs [Kd.i .u8] args fun al => G.rec' (T95 h) 1000000 0 al)
def nt95 : Nat := 1 + (9 - 1)
theorem q95x0 (h : Hp) (S : Nat → PAL → Option Value) (r0 : Int) : P95x0 h S r0 = G.stepAt packP unpackP evXV (regP env pf22 nt95 h) (finP env Tryz.f95.results.toList) (G.collect B95 A95 []) 0 S (PAL.i r0 PAL.n) := by kernel_rfl
theorem t95 (h : Hp) (S : Nat → PAL → Option Value) : TabP (fun l al => G.stepAt packP unpackP evXV (regP env pf22 nt95 h) (finP env Tryz.f95.results.toList) (G.collect B95 A95 []) l S al) (T95 h S) := by
  unfold T95
  refine TabP.cons 0 (fun vs0 q e0 => ?_) ?_
  · obtain ⟨r0, vs1, rfl, e1⟩ := wI_some e0
    obtain ⟨rfl, ee⟩ := wN_some e1
    exact (q95x0 h S r0).symm.trans ee
  exact TabP.nil
theorem r95 : PSound Tryz.prog 95 F95 := fun_soundP (C := C0) ok0 (pf := pf22) pfok22 (fn := Tryz.f95) (body := B95) (kinds := [Kd.i .u8]) (A := A95) (T := T95) (by kernel_rfl) (by kernel_rfl) (by kernel_rfl) (by kernel_rfl) (fun h S => t95 h S)
noncomputable def pf23 : PF := pfC 95 F95 pf22
theorem pfok23 : PfSound Tryz.prog pf23 := pfC_ok r95 pfok22
noncomputable def orc30 := orcP 95 F95 orc29
noncomputable def C30 : Cfg := cfg orc30
theorem ok30 : C30.Ok := orcP_ok (C := C29) ok29 r95
/-! ceroplast/mould.isDigit -/
noncomputable def B96 : Code := (Tryz.f96.body).getD .skip
noncomputable def A96 : G.Ann (List KI) := (G.Ann.node (some (0, [KI.reg 0 (Kd.i .u8)])) G.Ann.nil (G.Ann.node none G.Ann.nil G.Ann.nil))
noncomputable def P96x0 (h : Hp) (S : Nat → PAL → Option Value) (r0 : Int) : Option Value :=
  boolN (ltZ r0 (Int.ofNat 48)) fun b0 =>
  ifB b0
  (boolN (ltZ (Int.ofNat 57) r0) fun b1 =>
  some (Value.bool b1))
  (some (Value.bool false))
noncomputable def T96 (h : Hp) (S : Nat → PAL → Option Value) : Nat → PAL → Option Value := tabPC 0 (wI fun r0 => wN (P96x0 h S r0)) (tabPN)
noncomputable def F96 (args : List Value) (h : Hp) : Option Value := plainO (packArgs [Kd.i .u8] args fun al => G.rec' (T96 h) 1000000 0 al)
def nt96 : Nat := 1 + (9 - 1)
theorem q96x0 (h : Hp) (S : Nat → PAL → Option Value) (r0 : Int) : P96x0 h S r0 = G.stepAt packP unpackP evXV (regP env pf23 nt96 h) (finP env Tryz.f96.results.toList) (G.collect B96 A96 []) 0 S (PAL.i r0 PAL.n) := by kernel_rfl
theorem t96 (h : Hp) (S : Nat → PAL → Option Value) : TabP (fun l al => G.stepAt packP unpackP evXV (regP env pf23 nt96 h) (finP env Tryz.f96.results.toList) (G.collect B96 A96 []) l S al) (T96 h S) := by
  unfold T96
  refine TabP.cons 0 (fun vs0 q e0 => ?_) ?_
  · obtain ⟨r0, vs1, rfl, e1⟩ := wI_some e0
    obtain ⟨rfl, ee⟩ := wN_some e1
    exact (q96x0 h S r0).symm.trans ee
  exact TabP.nil
theorem r96 : PSound Tryz.prog 96 F96 := fun_soundP (C := C0) ok0 (pf := pf23) pfok23 (fn := Tryz.f96) (body := B96) (kinds := [Kd.i .u8]) (A := A96) (T := T96) (by kernel_rfl) (by kernel_rfl) (by kernel_rfl) (by kernel_rfl) (fun h S => t96 h S)
noncomputable def pf24 : PF := pfC 96 F96 pf23
theorem pfok24 : PfSound Tryz.prog pf24 := pfC_ok r96 pfok23
noncomputable def orc31 := orcP 96 F96 orc30
noncomputable def C31 : Cfg := cfg orc31
theorem ok31 : C31.Ok := orcP_ok (C := C30) ok30 r96
/-! ceroplast/mould.Name -/
noncomputable def B69 : Code := (Tryz.f69.body).getD .skip
def A69 : Ann := (Ann.node (some (0, [(0, Kd.v)])) Ann.nil (Ann.node none (Ann.node none Ann.nil (Ann.node none (Ann.node none Ann.nil Ann.nil) Ann.nil)) (Ann.node none (Ann.node none Ann.nil (Ann.node none (Ann.node (some (1, [(0, Kd.v), (16, Kd.i .i64), (17, Kd.i .i64)])) (Ann.node none Ann.nil (Ann.node none (Ann.node none Ann.nil Ann.nil) (Ann.node none (Ann.node none (Ann.node none Ann.nil (Ann.node none Ann.nil (Ann.node none (Ann.node none Ann.nil Ann.nil) Ann.nil))) Ann.nil) Ann.nil))) Ann.nil) Ann.nil)) (Ann.node (some (2, [])) Ann.nil Ann.nil))))
noncomputable def P69x2 (S : Sg) (h : Hp) : CRes :=
  some ((Value.bool true), h)
noncomputable def P69x1 (S : Sg) (r0 : Value) (r16 : Int) (r17 : Int) (h : Hp) : CRes :=
  boolZ (ltZ r17 r16) fun b0 =>
  ifB b0
  (optK (indexV env 9 r0 (Value.int .i64 r17)) fun v1 =>
  intK .u8 v1 fun i2 =>
  pairK (optK (F95 [(Value.int .u8 i2)] h) fun v => some (v, h)) fun v3 h3 =>
  boolK v3 fun b4 =>
  boolN b4 fun b5 =>
  ifB b5
  (optK (indexV env 9 r0 (Value.int .i64 r17)) fun v6 =>
  intK .u8 v6 fun i7 =>
  pairK (optK (F96 [(Value.int .u8 i7)] h3) fun v => some (v, h3)) fun v8 h8 =>
  boolK v8 fun b9 =>
  boolN b9 fun b10 =>
  ifB b10
  (optK (indexV env 9 r0 (Value.int .i64 r17)) fun v11 =>
  intK .u8 v11 fun i12 =>
  boolN (eqZ i12 (Int.ofNat 46)) fun b13 =>
  ifB b13
  (some ((Value.bool false), h8))
  (wrap64 (Int.add r17 (Int.ofNat 1)) fun i14 =>
  S 1 (AL.v r0 (AL.i r16 (AL.i i14 AL.n))) h8))
  (wrap64 (Int.add r17 (Int.ofNat 1)) fun i15 =>
  S 1 (AL.v r0 (AL.i r16 (AL.i i15 AL.n))) h8))
  (wrap64 (Int.add r17 (Int.ofNat 1)) fun i16 =>
  S 1 (AL.v r0 (AL.i r16 (AL.i i16 AL.n))) h3))
  (S 2 AL.n h)
noncomputable def P69x0 (S : Sg) (r0 : Value) (h : Hp) : CRes :=
  lenBK r0 fun i0 =>
  pairK (buildSliceV env h 28 1 (List.toArray [(0, (Value.int .i64 i0))])) fun v1 h1 =>
  pairK (optK (F42 [(Value.int .i64 (Int.ofNat 1)), (Value.int .i64 (Int.ofNat 16)), v1] h1) fun v => some (v, h1)) fun v2 h2 =>
  boolK v2 fun b3 =>
  boolN b3 fun b4 =>
  ifB b4
  (some ((Value.bool false), h2))
  (optK (indexV env 9 r0 (Value.int .i64 (Int.ofNat 0))) fun v5 =>
  intK .u8 v5 fun i6 =>
  pairK (optK (F95 [(Value.int .u8 i6)] h2) fun v => some (v, h2)) fun v7 h7 =>
  boolK v7 fun b8 =>
  boolN b8 fun b9 =>
  ifB b9
  (some ((Value.bool false), h7))
  (lenBK r0 fun i10 =>
  S 1 (AL.v r0 (AL.i i10 (AL.i (Int.ofNat 0) AL.n))) h7))
noncomputable def T69 (S : Sg) : Sg := tabC 0 (uV fun r0 => uN fun h => P69x0 S r0 h) (tabC 1 (uV fun r0 => uI fun r16 => uI fun r17 => uN fun h => P69x1 S r0 r16 r17 h) (tabC 2 (uN fun h => P69x2 S  h) (tabN)))
noncomputable def F69 (args : List Value) (h : Hp) : CRes := packVals [Kd.v] args fun al => rec' T69 1000000 0 al h
def nt69 : Nat := 1 + (39 - 1)
theorem q69x2 (S : Sg) (h : Hp) : P69x2 S  h = stepAt (regK env orc31 (nt69)) (finK env Tryz.f69.results.toList) (collect B69 A69 []) 2 S AL.n h := by kernel_rfl
theorem q69x1 (S : Sg) (r0 : Value) (r16 : Int) (r17 : Int) (h : Hp) : P69x1 S r0 r16 r17 h = stepAt (regK env orc31 (nt69)) (finK env Tryz.f69.results.toList) (collect B69 A69 []) 1 S (AL.v r0 (AL.i r16 (AL.i r17 AL.n))) h := by kernel_rfl
theorem q69x0 (S : Sg) (r0 : Value) (h : Hp) : P69x0 S r0 h = stepAt (regK env orc31 (nt69)) (finK env Tryz.f69.results.toList) (collect B69 A69 []) 0 S (AL.v r0 AL.n) h := by kernel_rfl
theorem t69 (S : Sg) : Tab (fun l vs h => stepAt (regK env orc31 nt69) (finK env Tryz.f69.results.toList) (collect B69 A69 []) l S vs h) (T69 S) := by
  unfold T69
  refine Tab.cons 0 (fun vs0 h q e0 => ?_) ?_
  · obtain ⟨r0, vs1, rfl, e1⟩ := uV_some e0
    obtain ⟨rfl, ee⟩ := uN_some e1
    exact (q69x0 S r0 h).symm.trans ee
  refine Tab.cons 1 (fun vs0 h q e0 => ?_) ?_
  · obtain ⟨r0, vs1, rfl, e1⟩ := uV_some e0
    obtain ⟨r16, vs2, rfl, e2⟩ := uI_some e1
    obtain ⟨r17, vs3, rfl, e3⟩ := uI_some e2
    obtain ⟨rfl, ee⟩ := uN_some e3
    exact (q69x1 S r0 r16 r17 h).symm.trans ee
  refine Tab.cons 2 (fun vs0 h q e0 => ?_) ?_
  · 
    obtain ⟨rfl, ee⟩ := uN_some e0
    exact (q69x2 S  h).symm.trans ee
  exact Tab.nil
theorem r69 : ∀ args h v h', F69 args h = some (v, h') → Runs (C31) (.call 69 args.toArray h) (.ret v h') := by
  intro args h v h' e
  exact fun_sound (C := C31) (fn := Tryz.f69) (body := B69) (np := 1) (A := A69) (T := T69) (kinds := [Kd.v]) (by kernel_rfl) (by kernel_rfl) (by kernel_rfl) (by kernel_rfl) (regK_ok env_ok) (by kernel_rfl) (fun S => t69 S) e
noncomputable def orc32 := orcQ 69 F69 orc31
noncomputable def C32 : Cfg := cfg orc32
theorem ok32 : C32.Ok := orcQ_ok (C := C31) ok31 r69
/-! slices.IndexFunc[[]ceroplast/api.HeBody,ceroplast/api.HeBody] -/
noncomputable def B117 : Code := (Tryz.f117.body).getD .skip
def A117 : Ann := (Ann.node (some (0, [(0, Kd.v), (1, Kd.v)])) Ann.nil (Ann.node none (Ann.node none Ann.nil (Ann.node none (Ann.node (some (1, [(0, Kd.v), (1, Kd.v), (7, Kd.i .i64), (8, Kd.i .i64)])) (Ann.node none Ann.nil (Ann.node none (Ann.node none Ann.nil Ann.nil) (Ann.node none (Ann.node none (Ann.node none Ann.nil (Ann.node none Ann.nil (Ann.node none (Ann.node none Ann.nil Ann.nil) Ann.nil))) Ann.nil) Ann.nil))) Ann.nil) Ann.nil)) (Ann.node (some (2, [])) Ann.nil Ann.nil)))
noncomputable def P117x2 (S : Sg) (h : Hp) : CRes :=
  some ((Value.int .i64 (Int.negSucc 0)), h)
noncomputable def P117x1 (S : Sg) (r0 : Value) (r1 : Value) (r7 : Int) (r8 : Int) (h : Hp) : CRes :=
  boolZ (ltZ r8 r7) fun b0 =>
  ifB b0
  (idxSK 2 r0 r8 fun v1 =>
  loadNK 2 h v1 fun v2 =>
  pairK (callF orc32 r1 [v2] h) fun v3 h3 =>
  boolK v3 fun b4 =>
  ifB b4
  (some ((Value.int .i64 r8), h3))
  (wrap64 (Int.add r8 (Int.ofNat 1)) fun i5 =>
  S 1 (AL.v r0 (AL.v r1 (AL.i r7 (AL.i i5 AL.n)))) h3))
  (S 2 AL.n h)
noncomputable def P117x0 (S : Sg) (r0 : Value) (r1 : Value) (h : Hp) : CRes :=
  lenSK r0 fun i0 =>
  S 1 (AL.v r0 (AL.v r1 (AL.i i0 (AL.i (Int.ofNat 0) AL.n)))) h
noncomputable def T117 (S : Sg) : Sg := tabC 0 (uV fun r0 => uV fun r1 => uN fun h => P117x0 S r0 r1 h) (tabC 1 (uV fun r0 => uV fun r1 => uI fun r7 => uI fun r8 => uN fun h => P117x1 S r0 r1 r7 r8 h) (tabC 2 (uN fun h => P117x2 S  h) (tabN)))
noncomputable def F117 (args : List Value) (h : Hp) : CRes := packVals [Kd.v, Kd.v] args fun al => rec' T117 1000000 0 al h
def nt117 : Nat := 2 + (19 - 2)
theorem q117x2 (S : Sg) (h : Hp) : P117x2 S  h = stepAt (regK env orc32 (nt117)) (finK env Tryz.f117.results.toList) (collect B117 A117 []) 2 S AL.n h := by kernel_rfl
theorem q117x1 (S : Sg) (r0 : Value) (r1 : Value) (r7 : Int) (r8 : Int) (h : Hp) : P117x1 S r0 r1 r7 r8 h = stepAt (regK env orc32 (nt117)) (finK env Tryz.f117.results.toList) (collect B117 A117 []) 1 S (AL.v r0 (AL.v r1 (AL.i r7 (AL.i r8 AL.n)))) h := by kernel_rfl
theorem q117x0 (S : Sg) (r0 : Value) (r1 : Value) (h : Hp) : P117x0 S r0 r1 h = stepAt (regK env orc32 (nt117)) (finK env Tryz.f117.results.toList) (collect B117 A117 []) 0 S (AL.v r0 (AL.v r1 AL.n)) h := by kernel_rfl
theorem t117 (S : Sg) : Tab (fun l vs h => stepAt (regK env orc32 nt117) (finK env Tryz.f117.results.toList) (collect B117 A117 []) l S vs h) (T117 S) := by
  unfold T117
  refine Tab.cons 0 (fun vs0 h q e0 => ?_) ?_
  · obtain ⟨r0, vs1, rfl, e1⟩ := uV_some e0
    obtain ⟨r1, vs2, rfl, e2⟩ := uV_some e1
    obtain ⟨rfl, ee⟩ := uN_some e2
    exact (q117x0 S r0 r1 h).symm.trans ee
  refine Tab.cons 1 (fun vs0 h q e0 => ?_) ?_
  · obtain ⟨r0, vs1, rfl, e1⟩ := uV_some e0
    obtain ⟨r1, vs2, rfl, e2⟩ := uV_some e1
    obtain ⟨r7, vs3, rfl, e3⟩ := uI_some e2
    obtain ⟨r8, vs4, rfl, e4⟩ := uI_some e3
    obtain ⟨rfl, ee⟩ := uN_some e4
    exact (q117x1 S r0 r1 r7 r8 h).symm.trans ee
  refine Tab.cons 2 (fun vs0 h q e0 => ?_) ?_
  · 
    obtain ⟨rfl, ee⟩ := uN_some e0
    exact (q117x2 S  h).symm.trans ee
  exact Tab.nil
theorem r117 : ∀ args h v h', F117 args h = some (v, h') → Runs (C32) (.call 117 args.toArray h) (.ret v h') := by
  intro args h v h' e
  exact fun_sound (C := C32) (fn := Tryz.f117) (body := B117) (np := 2) (A := A117) (T := T117) (kinds := [Kd.v, Kd.v]) (by kernel_rfl) (by kernel_rfl) (by kernel_rfl) (by kernel_rfl) (regK_ok env_ok) (by kernel_rfl) (fun S => t117 S) e
noncomputable def orc33 := orcQ 117 F117 orc32
noncomputable def C33 : Cfg := cfg orc33
theorem ok33 : C33.Ok := orcQ_ok (C := C32) ok32 r117
/-! slices.ContainsFunc[[]ceroplast/api.HeBody,ceroplast/api.HeBody] -/
noncomputable def B86 : Code := (Tryz.f86.body).getD .skip
def A86 : Ann := (Ann.node (some (0, [(0, Kd.v), (1, Kd.v)])) Ann.nil (Ann.node none Ann.nil Ann.nil))
noncomputable def P86x0 (S : Sg) (r0 : Value) (r1 : Value) (h : Hp) : CRes :=
  pairK (callQ F117 [r0, r1] h) fun v0 h0 =>
  intK .i64 v0 fun i1 =>
  boolN (ltZ i1 (Int.ofNat 0)) fun b2 =>
  some ((Value.bool b2), h0)
noncomputable def T86 (S : Sg) : Sg := tabC 0 (uV fun r0 => uV fun r1 => uN fun h => P86x0 S r0 r1 h) (tabN)
noncomputable def F86 (args : List Value) (h : Hp) : CRes := packVals [Kd.v, Kd.v] args fun al => rec' T86 1000000 0 al h
def nt86 : Nat := 2 + (9 - 2)
theorem q86x0 (S : Sg) (r0 : Value) (r1 : Value) (h : Hp) : P86x0 S r0 r1 h = stepAt (regK env orc33 (nt86)) (finK env Tryz.f86.results.toList) (collect B86 A86 []) 0 S (AL.v r0 (AL.v r1 AL.n)) h := by kernel_rfl
theorem t86 (S : Sg) : Tab (fun l vs h => stepAt (regK env orc33 nt86) (finK env Tryz.f86.results.toList) (collect B86 A86 []) l S vs h) (T86 S) := by
  unfold T86
  refine Tab.cons 0 (fun vs0 h q e0 => ?_) ?_
  · obtain ⟨r0, vs1, rfl, e1⟩ := uV_some e0
    obtain ⟨r1, vs2, rfl, e2⟩ := uV_some e1
    obtain ⟨rfl, ee⟩ := uN_some e2
    exact (q86x0 S r0 r1 h).symm.trans ee
  exact Tab.nil
theorem r86 : ∀ args h v h', F86 args h = some (v, h') → Runs (C33) (.call 86 args.toArray h) (.ret v h') := by
  intro args h v h' e
  exact fun_sound (C := C33) (fn := Tryz.f86) (body := B86) (np := 2) (A := A86) (T := T86) (kinds := [Kd.v, Kd.v]) (by kernel_rfl) (by kernel_rfl) (by kernel_rfl) (by kernel_rfl) (regK_ok env_ok) (by kernel_rfl) (fun S => t86 S) e
noncomputable def orc34 := orcQ 86 F86 orc33
noncomputable def C34 : Cfg := cfg orc34
theorem ok34 : C34.Ok := orcQ_ok (C := C33) ok33 r86
/-! ceroplast/check.First[ceroplast/api.HeShown] -/
noncomputable def B88 : Code := (Tryz.f88.body).getD .skip
def A88 : Ann := (Ann.node (some (0, [(0, Kd.v), (1, Kd.v)])) Ann.nil (Ann.node none (Ann.node none Ann.nil (Ann.node none (Ann.node (some (1, [(0, Kd.v), (1, Kd.v), (9, Kd.v), (10, Kd.i .i64), (11, Kd.i .i64)])) (Ann.node none Ann.nil (Ann.node none (Ann.node none Ann.nil Ann.nil) (Ann.node none (Ann.node none (Ann.node none Ann.nil (Ann.node none Ann.nil (Ann.node none Ann.nil (Ann.node none (Ann.node none Ann.nil Ann.nil) Ann.nil)))) Ann.nil) Ann.nil))) Ann.nil) Ann.nil)) (Ann.node (some (2, [])) Ann.nil Ann.nil)))
noncomputable def P88x2 (S : Sg) (h : Hp) : CRes :=
  some (Value.tuple (List.toArray [(Value.int .i64 (Int.ofNat 0)), (Value.int .i64 (Int.ofNat 0))]), h)
noncomputable def P88x1 (S : Sg) (r0 : Value) (r1 : Value) (r9 : Value) (r10 : Int) (r11 : Int) (h : Hp) : CRes :=
  boolZ (ltZ r11 r10) fun b0 =>
  ifB b0
  (idxSK 2 r9 r11 fun v1 =>
  loadNK 2 h v1 fun v2 =>
  allocK h 47 [(Value.int .i64 (Int.ofNat 0)), (Value.string (ByteArray.mk #[]))] fun a3 h3 =>
  storeNK 2 h3 a3 v2 fun h4 =>
  optK (sliceV env h4 42 r0 none (some (Value.int .i64 r11)) none) fun v5 =>
  loadNK 2 h4 a3 fun v6 =>
  pairK (callF orc34 r1 [v5, v6] h4) fun v7 h7 =>
  intK .i64 v7 fun i8 =>
  boolN (eqZ i8 (Int.ofNat 0)) fun b9 =>
  ifB b9
  (some (Value.tuple (List.toArray [(Value.int .i64 r11), (Value.int .i64 i8)]), h7))
  (wrap64 (Int.add r11 (Int.ofNat 1)) fun i10 =>
  S 1 (AL.v r0 (AL.v r1 (AL.v r9 (AL.i r10 (AL.i i10 AL.n))))) h7))
  (S 2 AL.n h)
noncomputable def P88x0 (S : Sg) (r0 : Value) (r1 : Value) (h : Hp) : CRes :=
  lenSK r0 fun i0 =>
  S 1 (AL.v r0 (AL.v r1 (AL.v r0 (AL.i i0 (AL.i (Int.ofNat 0) AL.n))))) h
noncomputable def T88 (S : Sg) : Sg := tabC 0 (uV fun r0 => uV fun r1 => uN fun h => P88x0 S r0 r1 h) (tabC 1 (uV fun r0 => uV fun r1 => uV fun r9 => uI fun r10 => uI fun r11 => uN fun h => P88x1 S r0 r1 r9 r10 r11 h) (tabC 2 (uN fun h => P88x2 S  h) (tabN)))
noncomputable def F88 (args : List Value) (h : Hp) : CRes := packVals [Kd.v, Kd.v] args fun al => rec' T88 1000000 0 al h
def nt88 : Nat := 2 + (27 - 2)
theorem q88x2 (S : Sg) (h : Hp) : P88x2 S  h = stepAt (regK env orc34 (nt88)) (finK env Tryz.f88.results.toList) (collect B88 A88 []) 2 S AL.n h := by kernel_rfl
theorem q88x1 (S : Sg) (r0 : Value) (r1 : Value) (r9 : Value) (r10 : Int) (r11 : Int) (h : Hp) : P88x1 S r0 r1 r9 r10 r11 h = stepAt (regK env orc34 (nt88)) (finK env Tryz.f88.results.toList) (collect B88 A88 []) 1 S (AL.v r0 (AL.v r1 (AL.v r9 (AL.i r10 (AL.i r11 AL.n))))) h := by kernel_rfl
theorem q88x0 (S : Sg) (r0 : Value) (r1 : Value) (h : Hp) : P88x0 S r0 r1 h = stepAt (regK env orc34 (nt88)) (finK env Tryz.f88.results.toList) (collect B88 A88 []) 0 S (AL.v r0 (AL.v r1 AL.n)) h := by kernel_rfl
theorem t88 (S : Sg) : Tab (fun l vs h => stepAt (regK env orc34 nt88) (finK env Tryz.f88.results.toList) (collect B88 A88 []) l S vs h) (T88 S) := by
  unfold T88
  refine Tab.cons 0 (fun vs0 h q e0 => ?_) ?_
  · obtain ⟨r0, vs1, rfl, e1⟩ := uV_some e0
    obtain ⟨r1, vs2, rfl, e2⟩ := uV_some e1
    obtain ⟨rfl, ee⟩ := uN_some e2
    exact (q88x0 S r0 r1 h).symm.trans ee
  refine Tab.cons 1 (fun vs0 h q e0 => ?_) ?_
  · obtain ⟨r0, vs1, rfl, e1⟩ := uV_some e0
    obtain ⟨r1, vs2, rfl, e2⟩ := uV_some e1
    obtain ⟨r9, vs3, rfl, e3⟩ := uV_some e2
    obtain ⟨r10, vs4, rfl, e4⟩ := uI_some e3
    obtain ⟨r11, vs5, rfl, e5⟩ := uI_some e4
    obtain ⟨rfl, ee⟩ := uN_some e5
    exact (q88x1 S r0 r1 r9 r10 r11 h).symm.trans ee
  refine Tab.cons 2 (fun vs0 h q e0 => ?_) ?_
  · 
    obtain ⟨rfl, ee⟩ := uN_some e0
    exact (q88x2 S  h).symm.trans ee
  exact Tab.nil
theorem r88 : ∀ args h v h', F88 args h = some (v, h') → Runs (C34) (.call 88 args.toArray h) (.ret v h') := by
  intro args h v h' e
  exact fun_sound (C := C34) (fn := Tryz.f88) (body := B88) (np := 2) (A := A88) (T := T88) (kinds := [Kd.v, Kd.v]) (by kernel_rfl) (by kernel_rfl) (by kernel_rfl) (by kernel_rfl) (regK_ok env_ok) (by kernel_rfl) (fun S => t88 S) e
noncomputable def orc35 := orcQ 88 F88 orc34
noncomputable def C35 : Cfg := cfg orc35
theorem ok35 : C35.Ok := orcQ_ok (C := C34) ok34 r88
/-! ceroplast/head.shownError -/
noncomputable def B89 : Code := (Tryz.f89.body).getD .skip
def A89 : Ann := (Ann.node (some (0, [(0, Kd.v), (1, Kd.v)])) Ann.nil (Ann.node none (Ann.node none (Ann.node none Ann.nil (Ann.node none (Ann.node none Ann.nil Ann.nil) (Ann.node none Ann.nil (Ann.node (some (1, [(3, Kd.v), (11, Kd.b)])) (Ann.node none Ann.nil Ann.nil) (Ann.node none Ann.nil (Ann.node none (Ann.node none Ann.nil Ann.nil) Ann.nil)))))) Ann.nil) (Ann.node (some (2, [])) Ann.nil Ann.nil)))
noncomputable def P89x2 (S : Sg) (h : Hp) : CRes :=
  some ((Value.int .i64 (Int.ofNat 0)), h)
noncomputable def P89x1 (S : Sg) (r3 : Value) (r11 : Bool) (h : Hp) : CRes :=
  ifB r11
  (some ((Value.int .i64 (Int.ofNat 2)), h))
  (ptrAddK 1 r3 fun v0 =>
  load1K h v0 fun v1 =>
  pairK (callQ F69 [v1] h) fun v2 h2 =>
  boolK v2 fun b3 =>
  boolN b3 fun b4 =>
  ifB b4
  (some ((Value.int .i64 (Int.ofNat 6)), h2))
  (S 2 AL.n h2))
noncomputable def P89x0 (S : Sg) (r0 : Value) (r1 : Value) (h : Hp) : CRes :=
  allocK h 47 (Array.toList (Value.cells r1)) fun a0 h0 =>
  ptrAddK 0 a0 fun v1 =>
  load1K h0 v1 fun v2 =>
  intK .i64 v2 fun i3 =>
  pairK (buildSliceV env h0 28 1 (List.toArray [(0, (Value.int .i64 i3))])) fun v4 h4 =>
  pairK (optK (F42 [(Value.int .i64 (Int.ofNat 0)), (Value.int .i64 (Int.ofNat 364)), v4] h4) fun v => some (v, h4)) fun v5 h5 =>
  boolK v5 fun b6 =>
  boolN b6 fun b7 =>
  ifB b7
  (some ((Value.int .i64 (Int.ofNat 7)), h5))
  (lenSK r0 fun i8 =>
  boolZ (ltZ (Int.ofNat 0) i8) fun b9 =>
  ifB b9
  (lenSK r0 fun i10 =>
  wrap64 (Int.sub i10 (Int.ofNat 1)) fun i11 =>
  idxSK 2 r0 i11 fun v12 =>
  ptrAddK 0 v12 fun v13 =>
  load1K h5 v13 fun v14 =>
  intK .i64 v14 fun i15 =>
  ptrAddK 0 a0 fun v16 =>
  load1K h5 v16 fun v17 =>
  intK .i64 v17 fun i18 =>
  boolN (ltZ i15 i18) fun b19 =>
  S 1 (AL.v a0 (AL.b b19 AL.n)) h5)
  (S 1 (AL.v a0 (AL.b false AL.n)) h5))
noncomputable def T89 (S : Sg) : Sg := tabC 0 (uV fun r0 => uV fun r1 => uN fun h => P89x0 S r0 r1 h) (tabC 1 (uV fun r3 => uB fun r11 => uN fun h => P89x1 S r3 r11 h) (tabC 2 (uN fun h => P89x2 S  h) (tabN)))
noncomputable def F89 (args : List Value) (h : Hp) : CRes := packVals [Kd.v, Kd.v] args fun al => rec' T89 1000000 0 al h
def nt89 : Nat := 2 + (32 - 2)
theorem q89x2 (S : Sg) (h : Hp) : P89x2 S  h = stepAt (regK env orc35 (nt89)) (finK env Tryz.f89.results.toList) (collect B89 A89 []) 2 S AL.n h := by kernel_rfl
theorem q89x1 (S : Sg) (r3 : Value) (r11 : Bool) (h : Hp) : P89x1 S r3 r11 h = stepAt (regK env orc35 (nt89)) (finK env Tryz.f89.results.toList) (collect B89 A89 []) 1 S (AL.v r3 (AL.b r11 AL.n)) h := by kernel_rfl
theorem q89x0 (S : Sg) (r0 : Value) (r1 : Value) (h : Hp) : P89x0 S r0 r1 h = stepAt (regK env orc35 (nt89)) (finK env Tryz.f89.results.toList) (collect B89 A89 []) 0 S (AL.v r0 (AL.v r1 AL.n)) h := by kernel_rfl
theorem t89 (S : Sg) : Tab (fun l vs h => stepAt (regK env orc35 nt89) (finK env Tryz.f89.results.toList) (collect B89 A89 []) l S vs h) (T89 S) := by
  unfold T89
  refine Tab.cons 0 (fun vs0 h q e0 => ?_) ?_
  · obtain ⟨r0, vs1, rfl, e1⟩ := uV_some e0
    obtain ⟨r1, vs2, rfl, e2⟩ := uV_some e1
    obtain ⟨rfl, ee⟩ := uN_some e2
    exact (q89x0 S r0 r1 h).symm.trans ee
  refine Tab.cons 1 (fun vs0 h q e0 => ?_) ?_
  · obtain ⟨r3, vs1, rfl, e1⟩ := uV_some e0
    obtain ⟨r11, vs2, rfl, e2⟩ := uB_some e1
    obtain ⟨rfl, ee⟩ := uN_some e2
    exact (q89x1 S r3 r11 h).symm.trans ee
  refine Tab.cons 2 (fun vs0 h q e0 => ?_) ?_
  · 
    obtain ⟨rfl, ee⟩ := uN_some e0
    exact (q89x2 S  h).symm.trans ee
  exact Tab.nil
theorem r89 : ∀ args h v h', F89 args h = some (v, h') → Runs (C35) (.call 89 args.toArray h) (.ret v h') := by
  intro args h v h' e
  exact fun_sound (C := C35) (fn := Tryz.f89) (body := B89) (np := 2) (A := A89) (T := T89) (kinds := [Kd.v, Kd.v]) (by kernel_rfl) (by kernel_rfl) (by kernel_rfl) (by kernel_rfl) (regK_ok env_ok) (by kernel_rfl) (fun S => t89 S) e
noncomputable def orc36 := orcQ 89 F89 orc35
noncomputable def C36 : Cfg := cfg orc36
theorem ok36 : C36.Ok := orcQ_ok (C := C35) ok35 r89
/-! ceroplast/head.bodyError -/
noncomputable def B60 : Code := (Tryz.f60.body).getD .skip
def A60 : Ann := (Ann.node (some (0, [(0, Kd.v), (1, Kd.v)])) Ann.nil (Ann.node none (Ann.node none (Ann.node none Ann.nil (Ann.node none (Ann.node none Ann.nil Ann.nil) (Ann.node none Ann.nil (Ann.node none (Ann.node none Ann.nil Ann.nil) (Ann.node none Ann.nil (Ann.node none (Ann.node none Ann.nil Ann.nil) Ann.nil)))))) Ann.nil) (Ann.node none Ann.nil (Ann.node none Ann.nil Ann.nil))))
noncomputable def P60x0 (S : Sg) (r0 : Value) (r1 : Value) (h : Hp) : CRes :=
  allocK h 44 (Array.toList (Value.cells r1)) fun a0 h0 =>
  ptrAddK 0 a0 fun v1 =>
  load1K h0 v1 fun v2 =>
  pairK (callQ F69 [v2] h0) fun v3 h3 =>
  boolK v3 fun b4 =>
  boolN b4 fun b5 =>
  ifB b5
  (some ((Value.int .i64 (Int.ofNat 6)), h3))
  (pairK (callQ F86 [r0, (Value.func (.func 87) (List.toArray []) (List.toArray [a0]))] h3) fun v6 h6 =>
  boolK v6 fun b7 =>
  ifB b7
  (some ((Value.int .i64 (Int.ofNat 5)), h6))
  (ptrAddK 1 a0 fun v8 =>
  load1K h6 v8 fun v9 =>
  lenSK v9 fun i10 =>
  boolZ (ltZ (Int.ofNat 3) i10) fun b11 =>
  ifB b11
  (some ((Value.int .i64 (Int.ofNat 3)), h6))
  (ptrAddK 1 a0 fun v12 =>
  load1K h6 v12 fun v13 =>
  pairK (callQ F88 [v13, (Value.func (.func 89) #[] #[])] h6) fun v14 h14 =>
  extK v14 0 fun v15 =>
  intK .i64 v15 fun i16 =>
  extK v14 1 fun v17 =>
  intK .i64 v17 fun i18 =>
  some ((Value.int .i64 i18), h14))))
noncomputable def T60 (S : Sg) : Sg := tabC 0 (uV fun r0 => uV fun r1 => uN fun h => P60x0 S r0 r1 h) (tabN)
noncomputable def F60 (args : List Value) (h : Hp) : CRes := packVals [Kd.v, Kd.v] args fun al => rec' T60 1000000 0 al h
def nt60 : Nat := 2 + (28 - 2)
theorem q60x0 (S : Sg) (r0 : Value) (r1 : Value) (h : Hp) : P60x0 S r0 r1 h = stepAt (regK env orc36 (nt60)) (finK env Tryz.f60.results.toList) (collect B60 A60 []) 0 S (AL.v r0 (AL.v r1 AL.n)) h := by kernel_rfl
theorem t60 (S : Sg) : Tab (fun l vs h => stepAt (regK env orc36 nt60) (finK env Tryz.f60.results.toList) (collect B60 A60 []) l S vs h) (T60 S) := by
  unfold T60
  refine Tab.cons 0 (fun vs0 h q e0 => ?_) ?_
  · obtain ⟨r0, vs1, rfl, e1⟩ := uV_some e0
    obtain ⟨r1, vs2, rfl, e2⟩ := uV_some e1
    obtain ⟨rfl, ee⟩ := uN_some e2
    exact (q60x0 S r0 r1 h).symm.trans ee
  exact Tab.nil
theorem r60 : ∀ args h v h', F60 args h = some (v, h') → Runs (C36) (.call 60 args.toArray h) (.ret v h') := by
  intro args h v h' e
  exact fun_sound (C := C36) (fn := Tryz.f60) (body := B60) (np := 2) (A := A60) (T := T60) (kinds := [Kd.v, Kd.v]) (by kernel_rfl) (by kernel_rfl) (by kernel_rfl) (by kernel_rfl) (regK_ok env_ok) (by kernel_rfl) (fun S => t60 S) e
noncomputable def orc37 := orcQ 60 F60 orc36
noncomputable def C37 : Cfg := cfg orc37
theorem ok37 : C37.Ok := orcQ_ok (C := C36) ok36 r60
/-! ceroplast/check.First[string] -/
noncomputable def B61 : Code := (Tryz.f61.body).getD .skip
def A61 : Ann := (Ann.node (some (0, [(0, Kd.v), (1, Kd.v)])) Ann.nil (Ann.node none (Ann.node none Ann.nil (Ann.node none (Ann.node (some (1, [(0, Kd.v), (1, Kd.v), (9, Kd.v), (10, Kd.i .i64), (11, Kd.i .i64)])) (Ann.node none Ann.nil (Ann.node none (Ann.node none Ann.nil Ann.nil) (Ann.node none (Ann.node none (Ann.node none Ann.nil (Ann.node none Ann.nil (Ann.node none Ann.nil (Ann.node none (Ann.node none Ann.nil Ann.nil) Ann.nil)))) Ann.nil) Ann.nil))) Ann.nil) Ann.nil)) (Ann.node (some (2, [])) Ann.nil Ann.nil)))
noncomputable def P61x2 (S : Sg) (h : Hp) : CRes :=
  some (Value.tuple (List.toArray [(Value.int .i64 (Int.ofNat 0)), (Value.int .i64 (Int.ofNat 0))]), h)
noncomputable def P61x1 (S : Sg) (r0 : Value) (r1 : Value) (r9 : Value) (r10 : Int) (r11 : Int) (h : Hp) : CRes :=
  boolZ (ltZ r11 r10) fun b0 =>
  ifB b0
  (idxSK 1 r9 r11 fun v1 =>
  load1K h v1 fun v2 =>
  optK (sliceV env h 23 r0 none (some (Value.int .i64 r11)) none) fun v3 =>
  pairK (callF orc37 r1 [v3, v2] h) fun v4 h4 =>
  intK .i64 v4 fun i5 =>
  boolN (eqZ i5 (Int.ofNat 0)) fun b6 =>
  ifB b6
  (some (Value.tuple (List.toArray [(Value.int .i64 r11), (Value.int .i64 i5)]), h4))
  (wrap64 (Int.add r11 (Int.ofNat 1)) fun i7 =>
  S 1 (AL.v r0 (AL.v r1 (AL.v r9 (AL.i r10 (AL.i i7 AL.n))))) h4))
  (S 2 AL.n h)
noncomputable def P61x0 (S : Sg) (r0 : Value) (r1 : Value) (h : Hp) : CRes :=
  lenSK r0 fun i0 =>
  S 1 (AL.v r0 (AL.v r1 (AL.v r0 (AL.i i0 (AL.i (Int.ofNat 0) AL.n))))) h
noncomputable def T61 (S : Sg) : Sg := tabC 0 (uV fun r0 => uV fun r1 => uN fun h => P61x0 S r0 r1 h) (tabC 1 (uV fun r0 => uV fun r1 => uV fun r9 => uI fun r10 => uI fun r11 => uN fun h => P61x1 S r0 r1 r9 r10 r11 h) (tabC 2 (uN fun h => P61x2 S  h) (tabN)))
noncomputable def F61 (args : List Value) (h : Hp) : CRes := packVals [Kd.v, Kd.v] args fun al => rec' T61 1000000 0 al h
def nt61 : Nat := 2 + (27 - 2)
theorem q61x2 (S : Sg) (h : Hp) : P61x2 S  h = stepAt (regK env orc37 (nt61)) (finK env Tryz.f61.results.toList) (collect B61 A61 []) 2 S AL.n h := by kernel_rfl
theorem q61x1 (S : Sg) (r0 : Value) (r1 : Value) (r9 : Value) (r10 : Int) (r11 : Int) (h : Hp) : P61x1 S r0 r1 r9 r10 r11 h = stepAt (regK env orc37 (nt61)) (finK env Tryz.f61.results.toList) (collect B61 A61 []) 1 S (AL.v r0 (AL.v r1 (AL.v r9 (AL.i r10 (AL.i r11 AL.n))))) h := by kernel_rfl
theorem q61x0 (S : Sg) (r0 : Value) (r1 : Value) (h : Hp) : P61x0 S r0 r1 h = stepAt (regK env orc37 (nt61)) (finK env Tryz.f61.results.toList) (collect B61 A61 []) 0 S (AL.v r0 (AL.v r1 AL.n)) h := by kernel_rfl
theorem t61 (S : Sg) : Tab (fun l vs h => stepAt (regK env orc37 nt61) (finK env Tryz.f61.results.toList) (collect B61 A61 []) l S vs h) (T61 S) := by
  unfold T61
  refine Tab.cons 0 (fun vs0 h q e0 => ?_) ?_
  · obtain ⟨r0, vs1, rfl, e1⟩ := uV_some e0
    obtain ⟨r1, vs2, rfl, e2⟩ := uV_some e1
    obtain ⟨rfl, ee⟩ := uN_some e2
    exact (q61x0 S r0 r1 h).symm.trans ee
  refine Tab.cons 1 (fun vs0 h q e0 => ?_) ?_
  · obtain ⟨r0, vs1, rfl, e1⟩ := uV_some e0
    obtain ⟨r1, vs2, rfl, e2⟩ := uV_some e1
    obtain ⟨r9, vs3, rfl, e3⟩ := uV_some e2
    obtain ⟨r10, vs4, rfl, e4⟩ := uI_some e3
    obtain ⟨r11, vs5, rfl, e5⟩ := uI_some e4
    obtain ⟨rfl, ee⟩ := uN_some e5
    exact (q61x1 S r0 r1 r9 r10 r11 h).symm.trans ee
  refine Tab.cons 2 (fun vs0 h q e0 => ?_) ?_
  · 
    obtain ⟨rfl, ee⟩ := uN_some e0
    exact (q61x2 S  h).symm.trans ee
  exact Tab.nil
theorem r61 : ∀ args h v h', F61 args h = some (v, h') → Runs (C37) (.call 61 args.toArray h) (.ret v h') := by
  intro args h v h' e
  exact fun_sound (C := C37) (fn := Tryz.f61) (body := B61) (np := 2) (A := A61) (T := T61) (kinds := [Kd.v, Kd.v]) (by kernel_rfl) (by kernel_rfl) (by kernel_rfl) (by kernel_rfl) (regK_ok env_ok) (by kernel_rfl) (fun S => t61 S) e
noncomputable def orc38 := orcQ 61 F61 orc37
noncomputable def C38 : Cfg := cfg orc38
theorem ok38 : C38.Ok := orcQ_ok (C := C37) ok37 r61
/-! slices.Index[[]string,string] -/
noncomputable def B84 : Code := (Tryz.f84.body).getD .skip
noncomputable def A84 : G.Ann (List KI) := (G.Ann.node (some (0, [KI.reg 0 (Kd.v), KI.reg 1 (Kd.v)])) G.Ann.nil (G.Ann.node none (G.Ann.node none G.Ann.nil (G.Ann.node none (G.Ann.node (some (1, [KI.reg 0 (Kd.v), KI.reg 1 (Kd.v), KI.reg 7 (Kd.i .i64), KI.reg 8 (Kd.i .i64)])) (G.Ann.node none G.Ann.nil (G.Ann.node none (G.Ann.node none G.Ann.nil G.Ann.nil) (G.Ann.node none (G.Ann.node none (G.Ann.node none G.Ann.nil (G.Ann.node none G.Ann.nil (G.Ann.node none (G.Ann.node none G.Ann.nil G.Ann.nil) G.Ann.nil))) G.Ann.nil) G.Ann.nil))) G.Ann.nil) G.Ann.nil)) (G.Ann.node (some (2, [])) G.Ann.nil G.Ann.nil)))
noncomputable def P84x2 (h : Hp) (S : Nat → PAL → Option Value) : Option Value :=
  some (Value.int .i64 (Int.negSucc 0))
noncomputable def P84x1 (h : Hp) (S : Nat → PAL → Option Value) (r0 : Value) (r1 : Value) (r7 : Int) (r8 : Int) : Option Value :=
  boolZ (ltZ r8 r7) fun b0 =>
  ifB b0
  (idxSK 1 r0 r8 fun v1 =>
  load1K h v1 fun v2 =>
  optK (binV env .eql 9 (Operand.tmp 11) (Operand.tmp 15) r1 v2) fun v3 =>
  boolK v3 fun b4 =>
  ifB b4
  (some (Value.int .i64 r8))
  (wrap64 (Int.add r8 (Int.ofNat 1)) fun i5 =>
  S 1 (PAL.v r0 (PAL.v r1 (PAL.i r7 (PAL.i i5 PAL.n))))))
  (S 2 PAL.n)
noncomputable def P84x0 (h : Hp) (S : Nat → PAL → Option Value) (r0 : Value) (r1 : Value) : Option Value :=
  lenSK r0 fun i0 =>
  S 1 (PAL.v r0 (PAL.v r1 (PAL.i i0 (PAL.i (Int.ofNat 0) PAL.n))))
noncomputable def T84 (h : Hp) (S : Nat → PAL → Option Value) : Nat → PAL → Option Value := tabPC 0 (wV fun r0 => wV fun r1 => wN (P84x0 h S r0 r1)) (tabPC 1 (wV fun r0 => wV fun r1 => wI fun r7 => wI fun r8 => wN (P84x1 h S r0 r1 r7 r8)) (tabPC 2 (wN (P84x2 h S)) (tabPN)))
noncomputable def F84 (args : List Value) (h : Hp) : Option Value := plainO (packArgs [Kd.v, Kd.v] args fun al => G.rec' (T84 h) 1000000 0 al)
def nt84 : Nat := 2 + (19 - 2)
theorem q84x2 (h : Hp) (S : Nat → PAL → Option Value) : P84x2 h S = G.stepAt packP unpackP evXV (regP env pf24 nt84 h) (finP env Tryz.f84.results.toList) (G.collect B84 A84 []) 2 S PAL.n := by kernel_rfl
theorem q84x1 (h : Hp) (S : Nat → PAL → Option Value) (r0 : Value) (r1 : Value) (r7 : Int) (r8 : Int) : P84x1 h S r0 r1 r7 r8 = G.stepAt packP unpackP evXV (regP env pf24 nt84 h) (finP env Tryz.f84.results.toList) (G.collect B84 A84 []) 1 S (PAL.v r0 (PAL.v r1 (PAL.i r7 (PAL.i r8 PAL.n)))) := by kernel_rfl
theorem q84x0 (h : Hp) (S : Nat → PAL → Option Value) (r0 : Value) (r1 : Value) : P84x0 h S r0 r1 = G.stepAt packP unpackP evXV (regP env pf24 nt84 h) (finP env Tryz.f84.results.toList) (G.collect B84 A84 []) 0 S (PAL.v r0 (PAL.v r1 PAL.n)) := by kernel_rfl
theorem t84 (h : Hp) (S : Nat → PAL → Option Value) : TabP (fun l al => G.stepAt packP unpackP evXV (regP env pf24 nt84 h) (finP env Tryz.f84.results.toList) (G.collect B84 A84 []) l S al) (T84 h S) := by
  unfold T84
  refine TabP.cons 0 (fun vs0 q e0 => ?_) ?_
  · obtain ⟨r0, vs1, rfl, e1⟩ := wV_some e0
    obtain ⟨r1, vs2, rfl, e2⟩ := wV_some e1
    obtain ⟨rfl, ee⟩ := wN_some e2
    exact (q84x0 h S r0 r1).symm.trans ee
  refine TabP.cons 1 (fun vs0 q e0 => ?_) ?_
  · obtain ⟨r0, vs1, rfl, e1⟩ := wV_some e0
    obtain ⟨r1, vs2, rfl, e2⟩ := wV_some e1
    obtain ⟨r7, vs3, rfl, e3⟩ := wI_some e2
    obtain ⟨r8, vs4, rfl, e4⟩ := wI_some e3
    obtain ⟨rfl, ee⟩ := wN_some e4
    exact (q84x1 h S r0 r1 r7 r8).symm.trans ee
  refine TabP.cons 2 (fun vs0 q e0 => ?_) ?_
  · 
    obtain ⟨rfl, ee⟩ := wN_some e0
    exact (q84x2 h S).symm.trans ee
  exact TabP.nil
theorem r84 : PSound Tryz.prog 84 F84 := fun_soundP (C := C0) ok0 (pf := pf24) pfok24 (fn := Tryz.f84) (body := B84) (kinds := [Kd.v, Kd.v]) (A := A84) (T := T84) (by kernel_rfl) (by kernel_rfl) (by kernel_rfl) (by kernel_rfl) (fun h S => t84 h S)
noncomputable def pf25 : PF := pfC 84 F84 pf24
theorem pfok25 : PfSound Tryz.prog pf25 := pfC_ok r84 pfok24
noncomputable def orc39 := orcP 84 F84 orc38
noncomputable def C39 : Cfg := cfg orc39
theorem ok39 : C39.Ok := orcP_ok (C := C38) ok38 r84
/-! slices.Contains[[]string,string] -/
noncomputable def B56 : Code := (Tryz.f56.body).getD .skip
noncomputable def A56 : G.Ann (List KI) := (G.Ann.node (some (0, [KI.reg 0 (Kd.v), KI.reg 1 (Kd.v)])) G.Ann.nil (G.Ann.node none G.Ann.nil G.Ann.nil))
noncomputable def P56x0 (h : Hp) (S : Nat → PAL → Option Value) (r0 : Value) (r1 : Value) : Option Value :=
  optK (F84 [r0, r1] h) fun v0 =>
  intK .i64 v0 fun i1 =>
  boolN (ltZ i1 (Int.ofNat 0)) fun b2 =>
  some (Value.bool b2)
noncomputable def T56 (h : Hp) (S : Nat → PAL → Option Value) : Nat → PAL → Option Value := tabPC 0 (wV fun r0 => wV fun r1 => wN (P56x0 h S r0 r1)) (tabPN)
noncomputable def F56 (args : List Value) (h : Hp) : Option Value := plainO (packArgs [Kd.v, Kd.v] args fun al => G.rec' (T56 h) 1000000 0 al)
def nt56 : Nat := 2 + (9 - 2)
theorem q56x0 (h : Hp) (S : Nat → PAL → Option Value) (r0 : Value) (r1 : Value) : P56x0 h S r0 r1 = G.stepAt packP unpackP evXV (regP env pf25 nt56 h) (finP env Tryz.f56.results.toList) (G.collect B56 A56 []) 0 S (PAL.v r0 (PAL.v r1 PAL.n)) := by kernel_rfl
theorem t56 (h : Hp) (S : Nat → PAL → Option Value) : TabP (fun l al => G.stepAt packP unpackP evXV (regP env pf25 nt56 h) (finP env Tryz.f56.results.toList) (G.collect B56 A56 []) l S al) (T56 h S) := by
  unfold T56
  refine TabP.cons 0 (fun vs0 q e0 => ?_) ?_
  · obtain ⟨r0, vs1, rfl, e1⟩ := wV_some e0
    obtain ⟨r1, vs2, rfl, e2⟩ := wV_some e1
    obtain ⟨rfl, ee⟩ := wN_some e2
    exact (q56x0 h S r0 r1).symm.trans ee
  exact TabP.nil
theorem r56 : PSound Tryz.prog 56 F56 := fun_soundP (C := C0) ok0 (pf := pf25) pfok25 (fn := Tryz.f56) (body := B56) (kinds := [Kd.v, Kd.v]) (A := A56) (T := T56) (by kernel_rfl) (by kernel_rfl) (by kernel_rfl) (by kernel_rfl) (fun h S => t56 h S)
noncomputable def pf26 : PF := pfC 56 F56 pf25
theorem pfok26 : PfSound Tryz.prog pf26 := pfC_ok r56 pfok25
noncomputable def orc40 := orcP 56 F56 orc39
noncomputable def C40 : Cfg := cfg orc40
theorem ok40 : C40.Ok := orcP_ok (C := C39) ok39 r56
/-! ceroplast/head.headError -/
noncomputable def B62 : Code := (Tryz.f62.body).getD .skip
def A62 : Ann := (Ann.node (some (0, [(0, Kd.v), (1, Kd.v)])) Ann.nil (Ann.node none (Ann.node none (Ann.node none Ann.nil (Ann.node none (Ann.node none Ann.nil Ann.nil) (Ann.node none Ann.nil (Ann.node none (Ann.node none Ann.nil Ann.nil) Ann.nil)))) Ann.nil) (Ann.node none Ann.nil Ann.nil)))
noncomputable def P62x0 (S : Sg) (r0 : Value) (r1 : Value) (h : Hp) : CRes :=
  pairK (callQ F69 [r1] h) fun v0 h0 =>
  boolK v0 fun b1 =>
  boolN b1 fun b2 =>
  ifB b2
  (some ((Value.int .i64 (Int.ofNat 6)), h0))
  (pairK (optK (F56 [r0, r1] h0) fun v => some (v, h0)) fun v3 h3 =>
  boolK v3 fun b4 =>
  ifB b4
  (some ((Value.int .i64 (Int.ofNat 5)), h3))
  (some ((Value.int .i64 (Int.ofNat 0)), h3)))
noncomputable def T62 (S : Sg) : Sg := tabC 0 (uV fun r0 => uV fun r1 => uN fun h => P62x0 S r0 r1 h) (tabN)
noncomputable def F62 (args : List Value) (h : Hp) : CRes := packVals [Kd.v, Kd.v] args fun al => rec' T62 1000000 0 al h
def nt62 : Nat := 2 + (13 - 2)
theorem q62x0 (S : Sg) (r0 : Value) (r1 : Value) (h : Hp) : P62x0 S r0 r1 h = stepAt (regK env orc40 (nt62)) (finK env Tryz.f62.results.toList) (collect B62 A62 []) 0 S (AL.v r0 (AL.v r1 AL.n)) h := by kernel_rfl
theorem t62 (S : Sg) : Tab (fun l vs h => stepAt (regK env orc40 nt62) (finK env Tryz.f62.results.toList) (collect B62 A62 []) l S vs h) (T62 S) := by
  unfold T62
  refine Tab.cons 0 (fun vs0 h q e0 => ?_) ?_
  · obtain ⟨r0, vs1, rfl, e1⟩ := uV_some e0
    obtain ⟨r1, vs2, rfl, e2⟩ := uV_some e1
    obtain ⟨rfl, ee⟩ := uN_some e2
    exact (q62x0 S r0 r1 h).symm.trans ee
  exact Tab.nil
theorem r62 : ∀ args h v h', F62 args h = some (v, h') → Runs (C40) (.call 62 args.toArray h) (.ret v h') := by
  intro args h v h' e
  exact fun_sound (C := C40) (fn := Tryz.f62) (body := B62) (np := 2) (A := A62) (T := T62) (kinds := [Kd.v, Kd.v]) (by kernel_rfl) (by kernel_rfl) (by kernel_rfl) (by kernel_rfl) (regK_ok env_ok) (by kernel_rfl) (fun S => t62 S) e
noncomputable def orc41 := orcQ 62 F62 orc40
noncomputable def C41 : Cfg := cfg orc41
theorem ok41 : C41.Ok := orcQ_ok (C := C40) ok40 r62
/-! ceroplast/check.First[ceroplast/api.HeLine] -/
noncomputable def B63 : Code := (Tryz.f63.body).getD .skip
def A63 : Ann := (Ann.node (some (0, [(0, Kd.v), (1, Kd.v)])) Ann.nil (Ann.node none (Ann.node none Ann.nil (Ann.node none (Ann.node (some (1, [(0, Kd.v), (1, Kd.v), (9, Kd.v), (10, Kd.i .i64), (11, Kd.i .i64)])) (Ann.node none Ann.nil (Ann.node none (Ann.node none Ann.nil Ann.nil) (Ann.node none (Ann.node none (Ann.node none Ann.nil (Ann.node none Ann.nil (Ann.node none Ann.nil (Ann.node none (Ann.node none Ann.nil Ann.nil) Ann.nil)))) Ann.nil) Ann.nil))) Ann.nil) Ann.nil)) (Ann.node (some (2, [])) Ann.nil Ann.nil)))
noncomputable def P63x2 (S : Sg) (h : Hp) : CRes :=
  some (Value.tuple (List.toArray [(Value.int .i64 (Int.ofNat 0)), (Value.int .i64 (Int.ofNat 0))]), h)
noncomputable def P63x1 (S : Sg) (r0 : Value) (r1 : Value) (r9 : Value) (r10 : Int) (r11 : Int) (h : Hp) : CRes :=
  boolZ (ltZ r11 r10) fun b0 =>
  ifB b0
  (idxSK 7 r9 r11 fun v1 =>
  loadNK 7 h v1 fun v2 =>
  allocK h 50 [(Value.int .i64 (Int.ofNat 0)), (Value.int .i64 (Int.ofNat 0)), (Value.int .i64 (Int.ofNat 0)), (Value.int .i64 (Int.ofNat 0)), (Value.int .i64 (Int.ofNat 0)), (Value.int .i64 (Int.ofNat 0)), (Value.int .i64 (Int.ofNat 0))] fun a3 h3 =>
  storeNK 7 h3 a3 v2 fun h4 =>
  optK (sliceV env h4 24 r0 none (some (Value.int .i64 r11)) none) fun v5 =>
  loadNK 7 h4 a3 fun v6 =>
  pairK (callF orc41 r1 [v5, v6] h4) fun v7 h7 =>
  intK .i64 v7 fun i8 =>
  boolN (eqZ i8 (Int.ofNat 0)) fun b9 =>
  ifB b9
  (some (Value.tuple (List.toArray [(Value.int .i64 r11), (Value.int .i64 i8)]), h7))
  (wrap64 (Int.add r11 (Int.ofNat 1)) fun i10 =>
  S 1 (AL.v r0 (AL.v r1 (AL.v r9 (AL.i r10 (AL.i i10 AL.n))))) h7))
  (S 2 AL.n h)
noncomputable def P63x0 (S : Sg) (r0 : Value) (r1 : Value) (h : Hp) : CRes :=
  lenSK r0 fun i0 =>
  S 1 (AL.v r0 (AL.v r1 (AL.v r0 (AL.i i0 (AL.i (Int.ofNat 0) AL.n))))) h
noncomputable def T63 (S : Sg) : Sg := tabC 0 (uV fun r0 => uV fun r1 => uN fun h => P63x0 S r0 r1 h) (tabC 1 (uV fun r0 => uV fun r1 => uV fun r9 => uI fun r10 => uI fun r11 => uN fun h => P63x1 S r0 r1 r9 r10 r11 h) (tabC 2 (uN fun h => P63x2 S  h) (tabN)))
noncomputable def F63 (args : List Value) (h : Hp) : CRes := packVals [Kd.v, Kd.v] args fun al => rec' T63 1000000 0 al h
def nt63 : Nat := 2 + (27 - 2)
theorem q63x2 (S : Sg) (h : Hp) : P63x2 S  h = stepAt (regK env orc41 (nt63)) (finK env Tryz.f63.results.toList) (collect B63 A63 []) 2 S AL.n h := by kernel_rfl
theorem q63x1 (S : Sg) (r0 : Value) (r1 : Value) (r9 : Value) (r10 : Int) (r11 : Int) (h : Hp) : P63x1 S r0 r1 r9 r10 r11 h = stepAt (regK env orc41 (nt63)) (finK env Tryz.f63.results.toList) (collect B63 A63 []) 1 S (AL.v r0 (AL.v r1 (AL.v r9 (AL.i r10 (AL.i r11 AL.n))))) h := by kernel_rfl
theorem q63x0 (S : Sg) (r0 : Value) (r1 : Value) (h : Hp) : P63x0 S r0 r1 h = stepAt (regK env orc41 (nt63)) (finK env Tryz.f63.results.toList) (collect B63 A63 []) 0 S (AL.v r0 (AL.v r1 AL.n)) h := by kernel_rfl
theorem t63 (S : Sg) : Tab (fun l vs h => stepAt (regK env orc41 nt63) (finK env Tryz.f63.results.toList) (collect B63 A63 []) l S vs h) (T63 S) := by
  unfold T63
  refine Tab.cons 0 (fun vs0 h q e0 => ?_) ?_
  · obtain ⟨r0, vs1, rfl, e1⟩ := uV_some e0
    obtain ⟨r1, vs2, rfl, e2⟩ := uV_some e1
    obtain ⟨rfl, ee⟩ := uN_some e2
    exact (q63x0 S r0 r1 h).symm.trans ee
  refine Tab.cons 1 (fun vs0 h q e0 => ?_) ?_
  · obtain ⟨r0, vs1, rfl, e1⟩ := uV_some e0
    obtain ⟨r1, vs2, rfl, e2⟩ := uV_some e1
    obtain ⟨r9, vs3, rfl, e3⟩ := uV_some e2
    obtain ⟨r10, vs4, rfl, e4⟩ := uI_some e3
    obtain ⟨r11, vs5, rfl, e5⟩ := uI_some e4
    obtain ⟨rfl, ee⟩ := uN_some e5
    exact (q63x1 S r0 r1 r9 r10 r11 h).symm.trans ee
  refine Tab.cons 2 (fun vs0 h q e0 => ?_) ?_
  · 
    obtain ⟨rfl, ee⟩ := uN_some e0
    exact (q63x2 S  h).symm.trans ee
  exact Tab.nil
theorem r63 : ∀ args h v h', F63 args h = some (v, h') → Runs (C41) (.call 63 args.toArray h) (.ret v h') := by
  intro args h v h' e
  exact fun_sound (C := C41) (fn := Tryz.f63) (body := B63) (np := 2) (A := A63) (T := T63) (kinds := [Kd.v, Kd.v]) (by kernel_rfl) (by kernel_rfl) (by kernel_rfl) (by kernel_rfl) (regK_ok env_ok) (by kernel_rfl) (fun S => t63 S) e
noncomputable def orc42 := orcQ 63 F63 orc41
noncomputable def C42 : Cfg := cfg orc42
theorem ok42 : C42.Ok := orcQ_ok (C := C41) ok41 r63
/-! ceroplast/head.Check -/
noncomputable def B32 : Code := (Tryz.f32.body).getD .skip
def A32 : Ann := (Ann.node (some (0, [(0, Kd.v)])) Ann.nil (Ann.node none (Ann.node none Ann.nil (Ann.node none (Ann.node none Ann.nil Ann.nil) Ann.nil)) (Ann.node none Ann.nil (Ann.node none (Ann.node none Ann.nil (Ann.node none (Ann.node none Ann.nil Ann.nil) Ann.nil)) (Ann.node none (Ann.node none Ann.nil (Ann.node none (Ann.node none Ann.nil Ann.nil) Ann.nil)) (Ann.node none Ann.nil (Ann.node none (Ann.node none Ann.nil (Ann.node none (Ann.node none Ann.nil Ann.nil) Ann.nil)) (Ann.node none (Ann.node none Ann.nil (Ann.node none (Ann.node none Ann.nil Ann.nil) Ann.nil)) (Ann.node none Ann.nil (Ann.node none (Ann.node none Ann.nil (Ann.node none (Ann.node none Ann.nil Ann.nil) Ann.nil)) (Ann.node none Ann.nil Ann.nil)))))))))))
noncomputable def P32x0 (S : Sg) (r0 : Value) (h : Hp) : CRes :=
  allocK h 26 (Array.toList (Value.cells r0)) fun a0 h0 =>
  ptrAddK 0 a0 fun v1 =>
  load1K h0 v1 fun v2 =>
  lenSK v2 fun i3 =>
  boolZ (ltZ (Int.ofNat 5) i3) fun b4 =>
  ifB b4
  (some (Value.tuple (List.toArray [(Value.int .i64 (Int.ofNat 1)), (Value.int .i64 (Int.ofNat 0)), (Value.int .i64 (Int.ofNat 3))]), h0))
  (ptrAddK 0 a0 fun v5 =>
  load1K h0 v5 fun v6 =>
  pairK (callQ F59 [v6, (Value.func (.func 60) #[] #[])] h0) fun v7 h7 =>
  extK v7 0 fun v8 =>
  intK .i64 v8 fun i9 =>
  extK v7 1 fun v10 =>
  intK .i64 v10 fun i11 =>
  boolN (eqZ i11 (Int.ofNat 0)) fun b12 =>
  ifB b12
  (some (Value.tuple (List.toArray [(Value.int .i64 (Int.ofNat 1)), (Value.int .i64 i9), (Value.int .i64 i11)]), h7))
  (ptrAddK 1 a0 fun v13 =>
  load1K h7 v13 fun v14 =>
  lenSK v14 fun i15 =>
  ptrAddK 0 a0 fun v16 =>
  load1K h7 v16 fun v17 =>
  lenSK v17 fun i18 =>
  boolN (eqZ i15 i18) fun b19 =>
  ifB b19
  (some (Value.tuple (List.toArray [(Value.int .i64 (Int.ofNat 2)), (Value.int .i64 (Int.ofNat 0)), (Value.int .i64 (Int.ofNat 3))]), h7))
  (ptrAddK 1 a0 fun v20 =>
  load1K h7 v20 fun v21 =>
  pairK (callQ F61 [v21, (Value.func (.func 62) #[] #[])] h7) fun v22 h22 =>
  extK v22 0 fun v23 =>
  intK .i64 v23 fun i24 =>
  extK v22 1 fun v25 =>
  intK .i64 v25 fun i26 =>
  boolN (eqZ i26 (Int.ofNat 0)) fun b27 =>
  ifB b27
  (some (Value.tuple (List.toArray [(Value.int .i64 (Int.ofNat 2)), (Value.int .i64 i24), (Value.int .i64 i26)]), h22))
  (ptrAddK 2 a0 fun v28 =>
  load1K h22 v28 fun v29 =>
  lenSK v29 fun i30 =>
  boolZ (ltZ (Int.ofNat 8) i30) fun b31 =>
  ifB b31
  (some (Value.tuple (List.toArray [(Value.int .i64 (Int.ofNat 3)), (Value.int .i64 (Int.ofNat 0)), (Value.int .i64 (Int.ofNat 3))]), h22))
  (ptrAddK 2 a0 fun v32 =>
  load1K h22 v32 fun v33 =>
  pairK (callQ F63 [v33, (Value.func (.func 64) (List.toArray []) (List.toArray [a0]))] h22) fun v34 h34 =>
  extK v34 0 fun v35 =>
  intK .i64 v35 fun i36 =>
  extK v34 1 fun v37 =>
  intK .i64 v37 fun i38 =>
  boolN (eqZ i38 (Int.ofNat 0)) fun b39 =>
  ifB b39
  (some (Value.tuple (List.toArray [(Value.int .i64 (Int.ofNat 3)), (Value.int .i64 i36), (Value.int .i64 i38)]), h34))
  (some (Value.tuple (List.toArray [(Value.int .i64 (Int.ofNat 0)), (Value.int .i64 (Int.ofNat 0)), (Value.int .i64 (Int.ofNat 0))]), h34)))))))
noncomputable def T32 (S : Sg) : Sg := tabC 0 (uV fun r0 => uN fun h => P32x0 S r0 h) (tabN)
noncomputable def F32 (args : List Value) (h : Hp) : CRes := packVals [Kd.v] args fun al => rec' T32 1000000 0 al h
def nt32 : Nat := 1 + (51 - 1)
theorem q32x0 (S : Sg) (r0 : Value) (h : Hp) : P32x0 S r0 h = stepAt (regK env orc42 (nt32)) (finK env Tryz.f32.results.toList) (collect B32 A32 []) 0 S (AL.v r0 AL.n) h := by kernel_rfl
theorem t32 (S : Sg) : Tab (fun l vs h => stepAt (regK env orc42 nt32) (finK env Tryz.f32.results.toList) (collect B32 A32 []) l S vs h) (T32 S) := by
  unfold T32
  refine Tab.cons 0 (fun vs0 h q e0 => ?_) ?_
  · obtain ⟨r0, vs1, rfl, e1⟩ := uV_some e0
    obtain ⟨rfl, ee⟩ := uN_some e1
    exact (q32x0 S r0 h).symm.trans ee
  exact Tab.nil
theorem r32 : ∀ args h v h', F32 args h = some (v, h') → Runs (C42) (.call 32 args.toArray h) (.ret v h') := by
  intro args h v h' e
  exact fun_sound (C := C42) (fn := Tryz.f32) (body := B32) (np := 1) (A := A32) (T := T32) (kinds := [Kd.v]) (by kernel_rfl) (by kernel_rfl) (by kernel_rfl) (by kernel_rfl) (regK_ok env_ok) (by kernel_rfl) (fun S => t32 S) e
noncomputable def orc43 := orcQ 32 F32 orc42
noncomputable def C43 : Cfg := cfg orc43
theorem ok43 : C43.Ok := orcQ_ok (C := C42) ok42 r32
/-! ceroplast/head.pairsOf -/
noncomputable def B71 : Code := (Tryz.f71.body).getD .skip
def A71 : Ann := (Ann.node (some (0, [(0, Kd.v)])) Ann.nil (Ann.node none Ann.nil (Ann.node none Ann.nil (Ann.node none (Ann.node none Ann.nil (Ann.node none (Ann.node (some (1, [(1, Kd.v), (3, Kd.v), (4, Kd.v), (13, Kd.i .i64)])) (Ann.node none Ann.nil (Ann.node none (Ann.node none Ann.nil Ann.nil) (Ann.node none (Ann.node none (Ann.node none Ann.nil (Ann.node none Ann.nil (Ann.node none (Ann.node (some (2, [(1, Kd.v), (3, Kd.v), (4, Kd.v), (5, Kd.i .i64), (13, Kd.i .i64), (16, Kd.i .i64)])) (Ann.node none Ann.nil (Ann.node none (Ann.node none Ann.nil Ann.nil) (Ann.node none (Ann.node none (Ann.node none Ann.nil (Ann.node none Ann.nil (Ann.node none Ann.nil (Ann.node none Ann.nil Ann.nil)))) Ann.nil) Ann.nil))) Ann.nil) Ann.nil))) Ann.nil) (Ann.node (some (3, [(1, Kd.v), (3, Kd.v), (4, Kd.v), (13, Kd.i .i64)])) Ann.nil Ann.nil)))) Ann.nil) Ann.nil)) (Ann.node (some (4, [(4, Kd.v)])) Ann.nil Ann.nil)))))
noncomputable def P71x4 (S : Sg) (r4 : Value) (h : Hp) : CRes :=
  some (r4, h)
noncomputable def P71x3 (S : Sg) (r1 : Value) (r3 : Value) (r4 : Value) (r13 : Int) (h : Hp) : CRes :=
  wrap64 (Int.add r13 (Int.ofNat 1)) fun i0 =>
  S 1 (AL.v r1 (AL.v r3 (AL.v r4 (AL.i i0 AL.n)))) h
noncomputable def P71x2 (S : Sg) (r1 : Value) (r3 : Value) (r4 : Value) (r5 : Int) (r13 : Int) (r16 : Int) (h : Hp) : CRes :=
  boolZ (ltZ r16 (Int.ofNat 5)) fun b0 =>
  ifB b0
  (optK (buildV env 77 (List.toArray [(0, (Value.int .i64 r5)), (1, (Value.int .i64 r16))])) fun v1 =>
  allocK h 77 [(Value.int .i64 (Int.ofNat 0)), (Value.int .i64 (Int.ofNat 0))] fun a2 h2 =>
  storeNK 2 h2 a2 v1 fun h3 =>
  loadNK 7 h3 r1 fun v4 =>
  loadNK 2 h3 a2 fun v5 =>
  pairK (callF orc43 r3 [v4, v5] h3) fun v6 h6 =>
  boolK v6 fun b7 =>
  ifB b7
  (loadNK 2 h6 a2 fun v8 =>
  pairK (buildSliceV env h6 93 1 (List.toArray [(0, v8)])) fun v9 h9 =>
  pairK (appendV env h9 #[93, 93] (List.toArray [r4, v9])) fun v10 h10 =>
  wrap64 (Int.add r16 (Int.ofNat 1)) fun i11 =>
  S 2 (AL.v r1 (AL.v r3 (AL.v v10 (AL.i r5 (AL.i r13 (AL.i i11 AL.n)))))) h10)
  (wrap64 (Int.add r16 (Int.ofNat 1)) fun i12 =>
  S 2 (AL.v r1 (AL.v r3 (AL.v r4 (AL.i r5 (AL.i r13 (AL.i i12 AL.n)))))) h6))
  (S 3 (AL.v r1 (AL.v r3 (AL.v r4 (AL.i r13 AL.n)))) h)
noncomputable def P71x1 (S : Sg) (r1 : Value) (r3 : Value) (r4 : Value) (r13 : Int) (h : Hp) : CRes :=
  boolZ (ltZ r13 (Int.ofNat 5)) fun b0 =>
  ifB b0
  (S 2 (AL.v r1 (AL.v r3 (AL.v r4 (AL.i r13 (AL.i r13 (AL.i (Int.ofNat 0) AL.n)))))) h)
  (S 4 (AL.v r4 AL.n) h)
noncomputable def P71x0 (S : Sg) (r0 : Value) (h : Hp) : CRes :=
  allocK h 50 (Array.toList (Value.cells r0)) fun a0 h0 =>
  pairK (pairK (optK (F52 [] (Hp.mk (Hp.next h0) (Hp.next h0) (Hp.objs h0))) fun v => some (v, (Hp.mk (Hp.next h0) (Hp.next h0) (Hp.objs h0)))) fun v _ => ifB (plainK v) (some (v, h0)) none) fun v1 h1 =>
  ptrAddK 1 a0 fun v2 =>
  load1K h1 v2 fun v3 =>
  intK .i64 v3 fun i4 =>
  optK (indexV env 120 v1 (Value.int .i64 i4)) fun v5 =>
  partSK 5 v5 fun v6 =>
  S 1 (AL.v a0 (AL.v v6 (AL.v (Value.slice none 0 0) (AL.i (Int.ofNat 0) AL.n)))) h1
noncomputable def T71 (S : Sg) : Sg := tabC 0 (uV fun r0 => uN fun h => P71x0 S r0 h) (tabC 1 (uV fun r1 => uV fun r3 => uV fun r4 => uI fun r13 => uN fun h => P71x1 S r1 r3 r4 r13 h) (tabC 2 (uV fun r1 => uV fun r3 => uV fun r4 => uI fun r5 => uI fun r13 => uI fun r16 => uN fun h => P71x2 S r1 r3 r4 r5 r13 r16 h) (tabC 3 (uV fun r1 => uV fun r3 => uV fun r4 => uI fun r13 => uN fun h => P71x3 S r1 r3 r4 r13 h) (tabC 4 (uV fun r4 => uN fun h => P71x4 S r4 h) (tabN)))))
noncomputable def F71 (args : List Value) (h : Hp) : CRes := packVals [Kd.v] args fun al => rec' T71 1000000 0 al h
def nt71 : Nat := 1 + (33 - 1)
theorem q71x4 (S : Sg) (r4 : Value) (h : Hp) : P71x4 S r4 h = stepAt (regK env orc43 (nt71)) (finK env Tryz.f71.results.toList) (collect B71 A71 []) 4 S (AL.v r4 AL.n) h := by kernel_rfl
theorem q71x3 (S : Sg) (r1 : Value) (r3 : Value) (r4 : Value) (r13 : Int) (h : Hp) : P71x3 S r1 r3 r4 r13 h = stepAt (regK env orc43 (nt71)) (finK env Tryz.f71.results.toList) (collect B71 A71 []) 3 S (AL.v r1 (AL.v r3 (AL.v r4 (AL.i r13 AL.n)))) h := by kernel_rfl
theorem q71x2 (S : Sg) (r1 : Value) (r3 : Value) (r4 : Value) (r5 : Int) (r13 : Int) (r16 : Int) (h : Hp) : P71x2 S r1 r3 r4 r5 r13 r16 h = stepAt (regK env orc43 (nt71)) (finK env Tryz.f71.results.toList) (collect B71 A71 []) 2 S (AL.v r1 (AL.v r3 (AL.v r4 (AL.i r5 (AL.i r13 (AL.i r16 AL.n)))))) h := by kernel_rfl
theorem q71x1 (S : Sg) (r1 : Value) (r3 : Value) (r4 : Value) (r13 : Int) (h : Hp) : P71x1 S r1 r3 r4 r13 h = stepAt (regK env orc43 (nt71)) (finK env Tryz.f71.results.toList) (collect B71 A71 []) 1 S (AL.v r1 (AL.v r3 (AL.v r4 (AL.i r13 AL.n)))) h := by kernel_rfl
theorem q71x0 (S : Sg) (r0 : Value) (h : Hp) : P71x0 S r0 h = stepAt (regK env orc43 (nt71)) (finK env Tryz.f71.results.toList) (collect B71 A71 []) 0 S (AL.v r0 AL.n) h := by kernel_rfl
theorem t71 (S : Sg) : Tab (fun l vs h => stepAt (regK env orc43 nt71) (finK env Tryz.f71.results.toList) (collect B71 A71 []) l S vs h) (T71 S) := by
  unfold T71
  refine Tab.cons 0 (fun vs0 h q e0 => ?_) ?_
  · obtain ⟨r0, vs1, rfl, e1⟩ := uV_some e0
    obtain ⟨rfl, ee⟩ := uN_some e1
    exact (q71x0 S r0 h).symm.trans ee
  refine Tab.cons 1 (fun vs0 h q e0 => ?_) ?_
  · obtain ⟨r1, vs1, rfl, e1⟩ := uV_some e0
    obtain ⟨r3, vs2, rfl, e2⟩ := uV_some e1
    obtain ⟨r4, vs3, rfl, e3⟩ := uV_some e2
    obtain ⟨r13, vs4, rfl, e4⟩ := uI_some e3
    obtain ⟨rfl, ee⟩ := uN_some e4
    exact (q71x1 S r1 r3 r4 r13 h).symm.trans ee
  refine Tab.cons 2 (fun vs0 h q e0 => ?_) ?_
  · obtain ⟨r1, vs1, rfl, e1⟩ := uV_some e0
    obtain ⟨r3, vs2, rfl, e2⟩ := uV_some e1
    obtain ⟨r4, vs3, rfl, e3⟩ := uV_some e2
    obtain ⟨r5, vs4, rfl, e4⟩ := uI_some e3
    obtain ⟨r13, vs5, rfl, e5⟩ := uI_some e4
    obtain ⟨r16, vs6, rfl, e6⟩ := uI_some e5
    obtain ⟨rfl, ee⟩ := uN_some e6
    exact (q71x2 S r1 r3 r4 r5 r13 r16 h).symm.trans ee
  refine Tab.cons 3 (fun vs0 h q e0 => ?_) ?_
  · obtain ⟨r1, vs1, rfl, e1⟩ := uV_some e0
    obtain ⟨r3, vs2, rfl, e2⟩ := uV_some e1
    obtain ⟨r4, vs3, rfl, e3⟩ := uV_some e2
    obtain ⟨r13, vs4, rfl, e4⟩ := uI_some e3
    obtain ⟨rfl, ee⟩ := uN_some e4
    exact (q71x3 S r1 r3 r4 r13 h).symm.trans ee
  refine Tab.cons 4 (fun vs0 h q e0 => ?_) ?_
  · obtain ⟨r4, vs1, rfl, e1⟩ := uV_some e0
    obtain ⟨rfl, ee⟩ := uN_some e1
    exact (q71x4 S r4 h).symm.trans ee
  exact Tab.nil
theorem r71 : ∀ args h v h', F71 args h = some (v, h') → Runs (C43) (.call 71 args.toArray h) (.ret v h') := by
  intro args h v h' e
  exact fun_sound (C := C43) (fn := Tryz.f71) (body := B71) (np := 1) (A := A71) (T := T71) (kinds := [Kd.v]) (by kernel_rfl) (by kernel_rfl) (by kernel_rfl) (by kernel_rfl) (regK_ok env_ok) (by kernel_rfl) (fun S => t71 S) e
noncomputable def orc44 := orcQ 71 F71 orc43
noncomputable def C44 : Cfg := cfg orc44
theorem ok44 : C44.Ok := orcQ_ok (C := C43) ok43 r71
/-! ceroplast/head.lookAt -/
noncomputable def B46 : Code := (Tryz.f46.body).getD .skip
def A46 : Ann := (Ann.node (some (0, [(0, Kd.v)])) Ann.nil (Ann.node none Ann.nil (Ann.node none (Ann.node none Ann.nil (Ann.node none (Ann.node (some (1, [(2, Kd.v), (3, Kd.v), (12, Kd.v), (13, Kd.i .i64), (14, Kd.i .i64)])) (Ann.node none Ann.nil (Ann.node none (Ann.node none Ann.nil Ann.nil) (Ann.node none (Ann.node none (Ann.node none Ann.nil (Ann.node none Ann.nil (Ann.node none (Ann.node none Ann.nil (Ann.node (some (2, [(2, Kd.v), (3, Kd.v), (4, Kd.i .i64), (6, Kd.v), (12, Kd.v), (13, Kd.i .i64), (14, Kd.i .i64), (29, Kd.b)])) Ann.nil Ann.nil)) (Ann.node (some (3, [(2, Kd.v), (3, Kd.v), (4, Kd.i .i64), (12, Kd.v), (13, Kd.i .i64), (14, Kd.i .i64)])) Ann.nil Ann.nil)))) Ann.nil) (Ann.node (some (4, [(2, Kd.v), (3, Kd.v), (12, Kd.v), (13, Kd.i .i64), (14, Kd.i .i64)])) Ann.nil Ann.nil)))) Ann.nil) Ann.nil)) (Ann.node (some (5, [(2, Kd.v), (3, Kd.v)])) Ann.nil Ann.nil))))
noncomputable def P46x5 (S : Sg) (r2 : Value) (r3 : Value) (h : Hp) : CRes :=
  loadNK 4 h r3 fun v0 =>
  storeNK 4 h r2 v0 fun h1 =>
  loadNK 4 h1 r2 fun v2 => some (v2, h1)
noncomputable def P46x4 (S : Sg) (r2 : Value) (r3 : Value) (r12 : Value) (r13 : Int) (r14 : Int) (h : Hp) : CRes :=
  wrap64 (Int.add r14 (Int.ofNat 1)) fun i0 =>
  S 1 (AL.v r2 (AL.v r3 (AL.v r12 (AL.i r13 (AL.i i0 AL.n))))) h
noncomputable def P46x3 (S : Sg) (r2 : Value) (r3 : Value) (r4 : Int) (r12 : Value) (r13 : Int) (r14 : Int) (h : Hp) : CRes :=
  ptrAddK 3 r3 fun v0 =>
  load1K h v0 fun v1 =>
  ptrAddK 3 r3 fun v2 =>
  load1K h v2 fun v3 =>
  lenSK v3 fun i4 =>
  wrap64 (Int.sub i4 (Int.ofNat 1)) fun i5 =>
  idxSK 3 v1 i5 fun v6 =>
  leftK v6 (Hp.next h) (Hp.mk (Hp.next h) (Hp.next h) T.nil) fun w7 n7 =>
  ptrAddK 0 r3 fun v8 =>
  leftK v8 n7 (Hp.mk n7 n7 T.nil) fun w9 n9 =>
  ptrAddK 2 v8 fun v10 =>
  leftK v10 n9 (Hp.mk n9 n9 T.nil) fun w11 n11 =>
  load1K (Hp.mk n11 n11 (addAll w11 (addAll w9 (Hp.objs h)))) v10 fun v12 =>
  leftK v12 n11 (Hp.mk n11 n11 (addAll w11 (addAll w9 (Hp.objs h)))) fun w13 n13 =>
  leftK v6 n13 (Hp.mk n13 n13 T.nil) fun w14 n14 =>
  optK (nilCheckV v6) fun v15 =>
  leftK v15 n14 (Hp.mk n14 n14 (addAll w14 (Hp.objs h))) fun w16 n16 =>
  ptrAddK 0 v15 fun v17 =>
  leftK v17 n16 (Hp.mk n16 n16 T.nil) fun w18 n18 =>
  load1K (Hp.mk n18 n18 (addAll w18 (addAll w16 (addAll w14 (Hp.objs h))))) v17 fun v19 =>
  intK .i64 v19 fun i20 =>
  wrap64 (Int.add r4 (Int.ofNat 1)) fun i21 =>
  optK (sliceV env (Hp.mk n18 (Hp.ro h) (addAll w18 (addAll w16 (addAll w14 (addAll w13 (addAll w11 (addAll w9 (Hp.objs h)))))))) 24 v12 (some (Value.int .i64 i20)) (some (Value.int .i64 i21)) none) fun v22 =>
  optK (nilCheckV v6) fun v23 =>
  ptrAddK 1 v23 fun v24 =>
  store1K (Hp.mk n18 (Hp.ro h) (addAll w7 (addAll w18 (addAll w16 (addAll w14 (addAll w13 (addAll w11 (addAll w9 (Hp.objs h))))))))) v24 v22 fun h25 =>
  S 4 (AL.v r2 (AL.v r3 (AL.v r12 (AL.i r13 (AL.i r14 AL.n))))) h25
noncomputable def P46x2 (S : Sg) (r2 : Value) (r3 : Value) (r4 : Int) (r6 : Value) (r12 : Value) (r13 : Int) (r14 : Int) (r29 : Bool) (h : Hp) : CRes :=
  ifB r29
  (ptrAddK 3 r3 fun v0 =>
  load1K h v0 fun v1 =>
  optK (buildV env 104 (List.toArray [(0, (Value.int .i64 r4)), (2, r6)])) fun v2 =>
  pairK (buildSliceV env h 52 1 (List.toArray [(0, v2)])) fun v3 h3 =>
  pairK (appendV env h3 #[52, 52] (List.toArray [v1, v3])) fun v4 h4 =>
  ptrAddK 3 r3 fun v5 =>
  store1K h4 v5 v4 fun h6 =>
  S 3 (AL.v r2 (AL.v r3 (AL.i r4 (AL.v r12 (AL.i r13 (AL.i r14 AL.n)))))) h6)
  (S 3 (AL.v r2 (AL.v r3 (AL.i r4 (AL.v r12 (AL.i r13 (AL.i r14 AL.n)))))) h)
noncomputable def P46x1 (S : Sg) (r2 : Value) (r3 : Value) (r12 : Value) (r13 : Int) (r14 : Int) (h : Hp) : CRes :=
  boolZ (ltZ r14 r13) fun b0 =>
  ifB b0
  (idxSK 7 r12 r14 fun v1 =>
  loadNK 7 h v1 fun v2 =>
  allocK h 50 [(Value.int .i64 (Int.ofNat 0)), (Value.int .i64 (Int.ofNat 0)), (Value.int .i64 (Int.ofNat 0)), (Value.int .i64 (Int.ofNat 0)), (Value.int .i64 (Int.ofNat 0)), (Value.int .i64 (Int.ofNat 0)), (Value.int .i64 (Int.ofNat 0))] fun a3 h3 =>
  storeNK 7 h3 a3 v2 fun h4 =>
  loadNK 7 h4 a3 fun v5 =>
  pairK (callQ F71 [v5] h4) fun v6 h6 =>
  boolZ (eqZ r14 (Int.ofNat 0)) fun b7 =>
  ifB b7
  (S 2 (AL.v r2 (AL.v r3 (AL.i r14 (AL.v v6 (AL.v r12 (AL.i r13 (AL.i r14 (AL.b true AL.n)))))))) h6)
  (idxSK 2 v6 (Int.ofNat 0) fun v8 =>
  loadNK 2 h6 v8 fun v9 =>
  pairK (pairK (optK (F72 [] (Hp.mk (Hp.next h6) (Hp.next h6) (Hp.objs h6))) fun v => some (v, (Hp.mk (Hp.next h6) (Hp.next h6) (Hp.objs h6)))) fun v _ => ifB (plainK v) (some (v, h6)) none) fun v10 h10 =>
  optK (binV env .neq 77 (Operand.tmp 26) (Operand.tmp 27) v9 v10) fun v11 =>
  boolK v11 fun b12 =>
  S 2 (AL.v r2 (AL.v r3 (AL.i r14 (AL.v v6 (AL.v r12 (AL.i r13 (AL.i r14 (AL.b b12 AL.n)))))))) h10))
  (S 5 (AL.v r2 (AL.v r3 AL.n)) h)
noncomputable def P46x0 (S : Sg) (r0 : Value) (h : Hp) : CRes :=
  allocK h 26 (Array.toList (Value.cells r0)) fun a0 h0 =>
  allocK h0 54 [(Value.slice none 0 0), (Value.slice none 0 0), (Value.slice none 0 0), (Value.slice none 0 0)] fun a1 h1 =>
  loadNK 3 h1 a0 fun v2 =>
  optK (buildV env 54 (List.toArray [(0, v2)])) fun v3 =>
  allocK h1 54 [(Value.slice none 0 0), (Value.slice none 0 0), (Value.slice none 0 0), (Value.slice none 0 0)] fun a4 h4 =>
  storeNK 4 h4 a4 v3 fun h5 =>
  ptrAddK 0 a4 fun v6 =>
  ptrAddK 2 v6 fun v7 =>
  load1K h5 v7 fun v8 =>
  lenSK v8 fun i9 =>
  S 1 (AL.v a1 (AL.v a4 (AL.v v8 (AL.i i9 (AL.i (Int.ofNat 0) AL.n))))) h5
noncomputable def T46 (S : Sg) : Sg := tabC 0 (uV fun r0 => uN fun h => P46x0 S r0 h) (tabC 1 (uV fun r2 => uV fun r3 => uV fun r12 => uI fun r13 => uI fun r14 => uN fun h => P46x1 S r2 r3 r12 r13 r14 h) (tabC 2 (uV fun r2 => uV fun r3 => uI fun r4 => uV fun r6 => uV fun r12 => uI fun r13 => uI fun r14 => uB fun r29 => uN fun h => P46x2 S r2 r3 r4 r6 r12 r13 r14 r29 h) (tabC 3 (uV fun r2 => uV fun r3 => uI fun r4 => uV fun r12 => uI fun r13 => uI fun r14 => uN fun h => P46x3 S r2 r3 r4 r12 r13 r14 h) (tabC 4 (uV fun r2 => uV fun r3 => uV fun r12 => uI fun r13 => uI fun r14 => uN fun h => P46x4 S r2 r3 r12 r13 r14 h) (tabC 5 (uV fun r2 => uV fun r3 => uN fun h => P46x5 S r2 r3 h) (tabN))))))
noncomputable def F46 (args : List Value) (h : Hp) : CRes := packVals [Kd.v] args fun al => rec' T46 1000000 0 al h
def nt46 : Nat := 1 + (60 - 1)
theorem q46x5 (S : Sg) (r2 : Value) (r3 : Value) (h : Hp) : P46x5 S r2 r3 h = stepAt (regK env orc44 (nt46)) (finK env Tryz.f46.results.toList) (collect B46 A46 []) 5 S (AL.v r2 (AL.v r3 AL.n)) h := by kernel_rfl
theorem q46x4 (S : Sg) (r2 : Value) (r3 : Value) (r12 : Value) (r13 : Int) (r14 : Int) (h : Hp) : P46x4 S r2 r3 r12 r13 r14 h = stepAt (regK env orc44 (nt46)) (finK env Tryz.f46.results.toList) (collect B46 A46 []) 4 S (AL.v r2 (AL.v r3 (AL.v r12 (AL.i r13 (AL.i r14 AL.n))))) h := by kernel_rfl
theorem q46x3 (S : Sg) (r2 : Value) (r3 : Value) (r4 : Int) (r12 : Value) (r13 : Int) (r14 : Int) (h : Hp) : P46x3 S r2 r3 r4 r12 r13 r14 h = stepAt (regK env orc44 (nt46)) (finK env Tryz.f46.results.toList) (collect B46 A46 []) 3 S (AL.v r2 (AL.v r3 (AL.i r4 (AL.v r12 (AL.i r13 (AL.i r14 AL.n)))))) h := by kernel_rfl
theorem q46x2 (S : Sg) (r2 : Value) (r3 : Value) (r4 : Int) (r6 : Value) (r12 : Value) (r13 : Int) (r14 : Int) (r29 : Bool) (h : Hp) : P46x2 S r2 r3 r4 r6 r12 r13 r14 r29 h = stepAt (regK env orc44 (nt46)) (finK env Tryz.f46.results.toList) (collect B46 A46 []) 2 S (AL.v r2 (AL.v r3 (AL.i r4 (AL.v r6 (AL.v r12 (AL.i r13 (AL.i r14 (AL.b r29 AL.n)))))))) h := by kernel_rfl
theorem q46x1 (S : Sg) (r2 : Value) (r3 : Value) (r12 : Value) (r13 : Int) (r14 : Int) (h : Hp) : P46x1 S r2 r3 r12 r13 r14 h = stepAt (regK env orc44 (nt46)) (finK env Tryz.f46.results.toList) (collect B46 A46 []) 1 S (AL.v r2 (AL.v r3 (AL.v r12 (AL.i r13 (AL.i r14 AL.n))))) h := by kernel_rfl
theorem q46x0 (S : Sg) (r0 : Value) (h : Hp) : P46x0 S r0 h = stepAt (regK env orc44 (nt46)) (finK env Tryz.f46.results.toList) (collect B46 A46 []) 0 S (AL.v r0 AL.n) h := by kernel_rfl
theorem t46 (S : Sg) : Tab (fun l vs h => stepAt (regK env orc44 nt46) (finK env Tryz.f46.results.toList) (collect B46 A46 []) l S vs h) (T46 S) := by
  unfold T46
  refine Tab.cons 0 (fun vs0 h q e0 => ?_) ?_
  · obtain ⟨r0, vs1, rfl, e1⟩ := uV_some e0
    obtain ⟨rfl, ee⟩ := uN_some e1
    exact (q46x0 S r0 h).symm.trans ee
  refine Tab.cons 1 (fun vs0 h q e0 => ?_) ?_
  · obtain ⟨r2, vs1, rfl, e1⟩ := uV_some e0
    obtain ⟨r3, vs2, rfl, e2⟩ := uV_some e1
    obtain ⟨r12, vs3, rfl, e3⟩ := uV_some e2
    obtain ⟨r13, vs4, rfl, e4⟩ := uI_some e3
    obtain ⟨r14, vs5, rfl, e5⟩ := uI_some e4
    obtain ⟨rfl, ee⟩ := uN_some e5
    exact (q46x1 S r2 r3 r12 r13 r14 h).symm.trans ee
  refine Tab.cons 2 (fun vs0 h q e0 => ?_) ?_
  · obtain ⟨r2, vs1, rfl, e1⟩ := uV_some e0
    obtain ⟨r3, vs2, rfl, e2⟩ := uV_some e1
    obtain ⟨r4, vs3, rfl, e3⟩ := uI_some e2
    obtain ⟨r6, vs4, rfl, e4⟩ := uV_some e3
    obtain ⟨r12, vs5, rfl, e5⟩ := uV_some e4
    obtain ⟨r13, vs6, rfl, e6⟩ := uI_some e5
    obtain ⟨r14, vs7, rfl, e7⟩ := uI_some e6
    obtain ⟨r29, vs8, rfl, e8⟩ := uB_some e7
    obtain ⟨rfl, ee⟩ := uN_some e8
    exact (q46x2 S r2 r3 r4 r6 r12 r13 r14 r29 h).symm.trans ee
  refine Tab.cons 3 (fun vs0 h q e0 => ?_) ?_
  · obtain ⟨r2, vs1, rfl, e1⟩ := uV_some e0
    obtain ⟨r3, vs2, rfl, e2⟩ := uV_some e1
    obtain ⟨r4, vs3, rfl, e3⟩ := uI_some e2
    obtain ⟨r12, vs4, rfl, e4⟩ := uV_some e3
    obtain ⟨r13, vs5, rfl, e5⟩ := uI_some e4
    obtain ⟨r14, vs6, rfl, e6⟩ := uI_some e5
    obtain ⟨rfl, ee⟩ := uN_some e6
    exact (q46x3 S r2 r3 r4 r12 r13 r14 h).symm.trans ee
  refine Tab.cons 4 (fun vs0 h q e0 => ?_) ?_
  · obtain ⟨r2, vs1, rfl, e1⟩ := uV_some e0
    obtain ⟨r3, vs2, rfl, e2⟩ := uV_some e1
    obtain ⟨r12, vs3, rfl, e3⟩ := uV_some e2
    obtain ⟨r13, vs4, rfl, e4⟩ := uI_some e3
    obtain ⟨r14, vs5, rfl, e5⟩ := uI_some e4
    obtain ⟨rfl, ee⟩ := uN_some e5
    exact (q46x4 S r2 r3 r12 r13 r14 h).symm.trans ee
  refine Tab.cons 5 (fun vs0 h q e0 => ?_) ?_
  · obtain ⟨r2, vs1, rfl, e1⟩ := uV_some e0
    obtain ⟨r3, vs2, rfl, e2⟩ := uV_some e1
    obtain ⟨rfl, ee⟩ := uN_some e2
    exact (q46x5 S r2 r3 h).symm.trans ee
  exact Tab.nil
theorem r46 : ∀ args h v h', F46 args h = some (v, h') → Runs (C44) (.call 46 args.toArray h) (.ret v h') := by
  intro args h v h' e
  exact fun_sound (C := C44) (fn := Tryz.f46) (body := B46) (np := 1) (A := A46) (T := T46) (kinds := [Kd.v]) (by kernel_rfl) (by kernel_rfl) (by kernel_rfl) (by kernel_rfl) (regK_ok env_ok) (by kernel_rfl) (fun S => t46 S) e
noncomputable def orc45 := orcQ 46 F46 orc44
noncomputable def C45 : Cfg := cfg orc45
theorem ok45 : C45.Ok := orcQ_ok (C := C44) ok44 r46
/-! ceroplast/head.open -/
noncomputable def B23 : Code := (Tryz.f23.body).getD .skip
def A23 : Ann := (Ann.node (some (0, [(0, Kd.v)])) Ann.nil (Ann.node none (Ann.node none Ann.nil (Ann.node none Ann.nil (Ann.node none (Ann.node none Ann.nil Ann.nil) Ann.nil))) (Ann.node none Ann.nil Ann.nil)))
noncomputable def P23x0 (S : Sg) (r0 : Value) (h : Hp) : CRes :=
  allocK h 26 (Array.toList (Value.cells r0)) fun a0 h0 =>
  allocK h0 54 [(Value.slice none 0 0), (Value.slice none 0 0), (Value.slice none 0 0), (Value.slice none 0 0)] fun a1 h1 =>
  loadNK 3 h1 a0 fun v2 =>
  pairK (callQ F32 [v2] h1) fun v3 h3 =>
  extK v3 0 fun v4 =>
  intK .i64 v4 fun i5 =>
  extK v3 1 fun v6 =>
  intK .i64 v6 fun i7 =>
  extK v3 2 fun v8 =>
  intK .i64 v8 fun i9 =>
  boolN (eqZ i9 (Int.ofNat 0)) fun b10 =>
  ifB b10
  (optK (buildV env 54 (List.toArray [])) fun v11 =>
  storeNK 4 h3 a1 v11 fun h12 =>
  loadNK 4 h12 a1 fun v13 => some (Value.tuple (List.toArray [v13, (Value.int .i64 i9)]), h12))
  (loadNK 3 h3 a0 fun v14 =>
  pairK (callQ F46 [v14] h3) fun v15 h15 =>
  storeNK 4 h15 a1 v15 fun h16 =>
  loadNK 4 h16 a1 fun v17 => some (Value.tuple (List.toArray [v17, (Value.int .i64 (Int.ofNat 0))]), h16))
noncomputable def T23 (S : Sg) : Sg := tabC 0 (uV fun r0 => uN fun h => P23x0 S r0 h) (tabN)
noncomputable def F23 (args : List Value) (h : Hp) : CRes := packVals [Kd.v] args fun al => rec' T23 1000000 0 al h
def nt23 : Nat := 1 + (19 - 1)
theorem q23x0 (S : Sg) (r0 : Value) (h : Hp) : P23x0 S r0 h = stepAt (regK env orc45 (nt23)) (finK env Tryz.f23.results.toList) (collect B23 A23 []) 0 S (AL.v r0 AL.n) h := by kernel_rfl
theorem t23 (S : Sg) : Tab (fun l vs h => stepAt (regK env orc45 nt23) (finK env Tryz.f23.results.toList) (collect B23 A23 []) l S vs h) (T23 S) := by
  unfold T23
  refine Tab.cons 0 (fun vs0 h q e0 => ?_) ?_
  · obtain ⟨r0, vs1, rfl, e1⟩ := uV_some e0
    obtain ⟨rfl, ee⟩ := uN_some e1
    exact (q23x0 S r0 h).symm.trans ee
  exact Tab.nil
theorem r23 : ∀ args h v h', F23 args h = some (v, h') → Runs (C45) (.call 23 args.toArray h) (.ret v h') := by
  intro args h v h' e
  exact fun_sound (C := C45) (fn := Tryz.f23) (body := B23) (np := 1) (A := A23) (T := T23) (kinds := [Kd.v]) (by kernel_rfl) (by kernel_rfl) (by kernel_rfl) (by kernel_rfl) (regK_ok env_ok) (by kernel_rfl) (fun S => t23 S) e
noncomputable def orc46 := orcQ 23 F23 orc45
noncomputable def C46 : Cfg := cfg orc46
theorem ok46 : C46.Ok := orcQ_ok (C := C45) ok45 r23
/-! ceroplast/head.openOf -/
noncomputable def B17 : Code := (Tryz.f17.body).getD .skip
def A17 : Ann := (Ann.node (some (0, [(0, Kd.v), (1, Kd.i .i64)])) Ann.nil (Ann.node none Ann.nil (Ann.node none (Ann.node none Ann.nil (Ann.node none (Ann.node none Ann.nil Ann.nil) Ann.nil)) (Ann.node none (Ann.node none Ann.nil (Ann.node none (Ann.node none Ann.nil Ann.nil) Ann.nil)) (Ann.node none Ann.nil Ann.nil)))))
noncomputable def P17x0 (S : Sg) (r0 : Value) (r1 : Int) (h : Hp) : CRes :=
  allocK h 26 (Array.toList (Value.cells r0)) fun a0 h0 =>
  allocK h0 54 [(Value.slice none 0 0), (Value.slice none 0 0), (Value.slice none 0 0), (Value.slice none 0 0)] fun a1 h1 =>
  loadNK 3 h1 a0 fun v2 =>
  pairK (callQ F23 [v2] h1) fun v3 h3 =>
  extK v3 0 fun v4 =>
  extK v3 1 fun v5 =>
  intK .i64 v5 fun i6 =>
  allocK h3 54 [(Value.slice none 0 0), (Value.slice none 0 0), (Value.slice none 0 0), (Value.slice none 0 0)] fun a7 h7 =>
  storeNK 4 h7 a7 v4 fun h8 =>
  boolN (eqZ i6 (Int.ofNat 0)) fun b9 =>
  ifB b9
  (optK (buildV env 54 (List.toArray [])) fun v10 =>
  storeNK 4 h8 a1 v10 fun h11 =>
  loadNK 4 h11 a1 fun v12 => some (Value.tuple (List.toArray [v12, (Value.int .i64 i6)]), h11))
  (ptrAddK 0 a7 fun v13 =>
  ptrAddK 0 v13 fun v14 =>
  load1K h8 v14 fun v15 =>
  lenSK v15 fun i16 =>
  pairK (buildSliceV env h8 28 1 (List.toArray [(0, (Value.int .i64 r1))])) fun v17 h17 =>
  pairK (optK (F41 [(Value.int .i64 i16), v17] h17) fun v => some (v, h17)) fun v18 h18 =>
  boolK v18 fun b19 =>
  boolN b19 fun b20 =>
  ifB b20
  (optK (buildV env 54 (List.toArray [])) fun v21 =>
  storeNK 4 h18 a1 v21 fun h22 =>
  loadNK 4 h22 a1 fun v23 => some (Value.tuple (List.toArray [v23, (Value.int .i64 (Int.ofNat 4))]), h22))
  (loadNK 4 h18 a7 fun v24 =>
  storeNK 4 h18 a1 v24 fun h25 =>
  loadNK 4 h25 a1 fun v26 => some (Value.tuple (List.toArray [v26, (Value.int .i64 (Int.ofNat 0))]), h25)))
noncomputable def T17 (S : Sg) : Sg := tabC 0 (uV fun r0 => uI fun r1 => uN fun h => P17x0 S r0 r1 h) (tabN)
noncomputable def F17 (args : List Value) (h : Hp) : CRes := packVals [Kd.v, Kd.i .i64] args fun al => rec' T17 1000000 0 al h
def nt17 : Nat := 2 + (27 - 2)
theorem q17x0 (S : Sg) (r0 : Value) (r1 : Int) (h : Hp) : P17x0 S r0 r1 h = stepAt (regK env orc46 (nt17)) (finK env Tryz.f17.results.toList) (collect B17 A17 []) 0 S (AL.v r0 (AL.i r1 AL.n)) h := by kernel_rfl
theorem t17 (S : Sg) : Tab (fun l vs h => stepAt (regK env orc46 nt17) (finK env Tryz.f17.results.toList) (collect B17 A17 []) l S vs h) (T17 S) := by
  unfold T17
  refine Tab.cons 0 (fun vs0 h q e0 => ?_) ?_
  · obtain ⟨r0, vs1, rfl, e1⟩ := uV_some e0
    obtain ⟨r1, vs2, rfl, e2⟩ := uI_some e1
    obtain ⟨rfl, ee⟩ := uN_some e2
    exact (q17x0 S r0 r1 h).symm.trans ee
  exact Tab.nil
theorem r17 : ∀ args h v h', F17 args h = some (v, h') → Runs (C46) (.call 17 args.toArray h) (.ret v h') := by
  intro args h v h' e
  exact fun_sound (C := C46) (fn := Tryz.f17) (body := B17) (np := 2) (A := A17) (T := T17) (kinds := [Kd.v, Kd.i .i64]) (by kernel_rfl) (by kernel_rfl) (by kernel_rfl) (by kernel_rfl) (regK_ok env_ok) (by kernel_rfl) (fun S => t17 S) e
noncomputable def orc47 := orcQ 17 F17 orc46
noncomputable def C47 : Cfg := cfg orc47
theorem ok47 : C47.Ok := orcQ_ok (C := C46) ok46 r17
/-! (ceroplast/head.look).truths -/
noncomputable def B28 : Code := (Tryz.f28.body).getD .skip
def A28 : Ann := (Ann.node (some (0, [(0, Kd.v)])) Ann.nil (Ann.node none Ann.nil Ann.nil))
noncomputable def P28x0 (S : Sg) (r0 : Value) (h : Hp) : CRes :=
  allocK h 54 (Array.toList (Value.cells r0)) fun a0 h0 =>
  some ((Value.func (.func 51) (List.toArray []) (List.toArray [a0])), h0)
noncomputable def T28 (S : Sg) : Sg := tabC 0 (uV fun r0 => uN fun h => P28x0 S r0 h) (tabN)
noncomputable def F28 (args : List Value) (h : Hp) : CRes := packVals [Kd.v] args fun al => rec' T28 1000000 0 al h
def nt28 : Nat := 1 + (4 - 1)
theorem q28x0 (S : Sg) (r0 : Value) (h : Hp) : P28x0 S r0 h = stepAt (regK env orc47 (nt28)) (finK env Tryz.f28.results.toList) (collect B28 A28 []) 0 S (AL.v r0 AL.n) h := by kernel_rfl
theorem t28 (S : Sg) : Tab (fun l vs h => stepAt (regK env orc47 nt28) (finK env Tryz.f28.results.toList) (collect B28 A28 []) l S vs h) (T28 S) := by
  unfold T28
  refine Tab.cons 0 (fun vs0 h q e0 => ?_) ?_
  · obtain ⟨r0, vs1, rfl, e1⟩ := uV_some e0
    obtain ⟨rfl, ee⟩ := uN_some e1
    exact (q28x0 S r0 h).symm.trans ee
  exact Tab.nil
theorem r28 : ∀ args h v h', F28 args h = some (v, h') → Runs (C47) (.call 28 args.toArray h) (.ret v h') := by
  intro args h v h' e
  exact fun_sound (C := C47) (fn := Tryz.f28) (body := B28) (np := 1) (A := A28) (T := T28) (kinds := [Kd.v]) (by kernel_rfl) (by kernel_rfl) (by kernel_rfl) (by kernel_rfl) (regK_ok env_ok) (by kernel_rfl) (fun S => t28 S) e
noncomputable def orc48 := orcQ 28 F28 orc47
noncomputable def C48 : Cfg := cfg orc48
theorem ok48 : C48.Ok := orcQ_ok (C := C47) ok47 r28
/-! math/bits.Len64 -/
noncomputable def B94 : Code := (Tryz.f94.body).getD .skip
noncomputable def A94 : G.Ann (List KI) := (G.Ann.node (some (0, [KI.reg 0 (Kd.i .u64)])) G.Ann.nil (G.Ann.node none (G.Ann.node none G.Ann.nil (G.Ann.node none (G.Ann.node none G.Ann.nil G.Ann.nil) G.Ann.nil)) (G.Ann.node (some (3, [KI.reg 0 (Kd.i .u64), KI.reg 2 (Kd.i .i64)])) (G.Ann.node none G.Ann.nil (G.Ann.node none (G.Ann.node none G.Ann.nil G.Ann.nil) G.Ann.nil)) (G.Ann.node (some (2, [KI.reg 0 (Kd.i .u64), KI.reg 2 (Kd.i .i64)])) (G.Ann.node none G.Ann.nil (G.Ann.node none (G.Ann.node none G.Ann.nil G.Ann.nil) G.Ann.nil)) (G.Ann.node (some (1, [KI.reg 0 (Kd.i .u64), KI.reg 2 (Kd.i .i64)])) G.Ann.nil G.Ann.nil)))))
noncomputable def P94x1 (h : Hp) (S : Nat → PAL → Option Value) (r0 : Int) (r2 : Int) : Option Value :=
  forceI (wrapF .u8 r0) fun i0 =>
  optK (indexV env 9 (Value.string (ByteArray.mk #[0, 1, 2, 2, 3, 3, 3, 3, 4, 4, 4, 4, 4, 4, 4, 4, 5, 5, 5, 5, 5, 5, 5, 5, 5, 5, 5, 5, 5, 5, 5, 5, 6, 6, 6, 6, 6, 6, 6, 6, 6, 6, 6, 6, 6, 6, 6, 6, 6, 6, 6, 6, 6, 6, 6, 6, 6, 6, 6, 6, 6, 6, 6, 6, 7, 7, 7, 7, 7, 7, 7, 7, 7, 7, 7, 7, 7, 7, 7, 7, 7, 7, 7, 7, 7, 7, 7, 7, 7, 7, 7, 7, 7, 7, 7, 7, 7, 7, 7, 7, 7, 7, 7, 7, 7, 7, 7, 7, 7, 7, 7, 7, 7, 7, 7, 7, 7, 7, 7, 7, 7, 7, 7, 7, 7, 7, 7, 7, 8, 8, 8, 8, 8, 8, 8, 8, 8, 8, 8, 8, 8, 8, 8, 8, 8, 8, 8, 8, 8, 8, 8, 8, 8, 8, 8, 8, 8, 8, 8, 8, 8, 8, 8, 8, 8, 8, 8, 8, 8, 8, 8, 8, 8, 8, 8, 8, 8, 8, 8, 8, 8, 8, 8, 8, 8, 8, 8, 8, 8, 8, 8, 8, 8, 8, 8, 8, 8, 8, 8, 8, 8, 8, 8, 8, 8, 8, 8, 8, 8, 8, 8, 8, 8, 8, 8, 8, 8, 8, 8, 8, 8, 8, 8, 8, 8, 8, 8, 8, 8, 8, 8, 8, 8, 8, 8, 8, 8, 8, 8, 8, 8, 8, 8, 8, 8, 8, 8, 8, 8, 8, 8, 8, 8, 8, 8, 8])) (Value.int .u8 i0)) fun v1 =>
  intK .u8 v1 fun i2 =>
  wrap64 i2 fun i3 =>
  wrap64 (Int.add r2 i3) fun i4 =>
  some (Value.int .i64 i4)
noncomputable def P94x2 (h : Hp) (S : Nat → PAL → Option Value) (r0 : Int) (r2 : Int) : Option Value :=
  boolN (ltZ r0 (Int.ofNat 256)) fun b0 =>
  ifB b0
  (shrZ .u64 r0 (Int.ofNat 8) (shrI (binW env .shr 155 (Value.int .u64 r0) (Value.int .u64 (Int.ofNat 8))) (Value.int .u64 r0) (Value.int .u64 (Int.ofNat 8))) fun i1 =>
  wrap64 (Int.add r2 (Int.ofNat 8)) fun i2 =>
  S 1 (PAL.i i1 (PAL.i i2 PAL.n)))
  (S 1 (PAL.i r0 (PAL.i r2 PAL.n)))
noncomputable def P94x3 (h : Hp) (S : Nat → PAL → Option Value) (r0 : Int) (r2 : Int) : Option Value :=
  boolN (ltZ r0 (Int.ofNat 65536)) fun b0 =>
  ifB b0
  (shrZ .u64 r0 (Int.ofNat 16) (shrI (binW env .shr 155 (Value.int .u64 r0) (Value.int .u64 (Int.ofNat 16))) (Value.int .u64 r0) (Value.int .u64 (Int.ofNat 16))) fun i1 =>
  wrap64 (Int.add r2 (Int.ofNat 16)) fun i2 =>
  S 2 (PAL.i i1 (PAL.i i2 PAL.n)))
  (S 2 (PAL.i r0 (PAL.i r2 PAL.n)))
noncomputable def P94x0 (h : Hp) (S : Nat → PAL → Option Value) (r0 : Int) : Option Value :=
  boolN (ltZ r0 (Int.ofNat 4294967296)) fun b0 =>
  ifB b0
  (shrZ .u64 r0 (Int.ofNat 32) (shrI (binW env .shr 155 (Value.int .u64 r0) (Value.int .u64 (Int.ofNat 32))) (Value.int .u64 r0) (Value.int .u64 (Int.ofNat 32))) fun i1 =>
  S 3 (PAL.i i1 (PAL.i (Int.ofNat 32) PAL.n)))
  (S 3 (PAL.i r0 (PAL.i (Int.ofNat 0) PAL.n)))
noncomputable def T94 (h : Hp) (S : Nat → PAL → Option Value) : Nat → PAL → Option Value := tabPC 0 (wI fun r0 => wN (P94x0 h S r0)) (tabPC 3 (wI fun r0 => wI fun r2 => wN (P94x3 h S r0 r2)) (tabPC 2 (wI fun r0 => wI fun r2 => wN (P94x2 h S r0 r2)) (tabPC 1 (wI fun r0 => wI fun r2 => wN (P94x1 h S r0 r2)) (tabPN))))
noncomputable def F94 (args : List Value) (h : Hp) : Option Value := plainO (packArgs [Kd.i .u64] args fun al => G.rec' (T94 h) 1000000 0 al)
def nt94 : Nat := 1 + (25 - 1)
theorem q94x1 (h : Hp) (S : Nat → PAL → Option Value) (r0 : Int) (r2 : Int) : P94x1 h S r0 r2 = G.stepAt packP unpackP evXV (regP env pf26 nt94 h) (finP env Tryz.f94.results.toList) (G.collect B94 A94 []) 1 S (PAL.i r0 (PAL.i r2 PAL.n)) := by kernel_rfl
theorem q94x2 (h : Hp) (S : Nat → PAL → Option Value) (r0 : Int) (r2 : Int) : P94x2 h S r0 r2 = G.stepAt packP unpackP evXV (regP env pf26 nt94 h) (finP env Tryz.f94.results.toList) (G.collect B94 A94 []) 2 S (PAL.i r0 (PAL.i r2 PAL.n)) := by kernel_rfl
theorem q94x3 (h : Hp) (S : Nat → PAL → Option Value) (r0 : Int) (r2 : Int) : P94x3 h S r0 r2 = G.stepAt packP unpackP evXV (regP env pf26 nt94 h) (finP env Tryz.f94.results.toList) (G.collect B94 A94 []) 3 S (PAL.i r0 (PAL.i r2 PAL.n)) := by kernel_rfl
theorem q94x0 (h : Hp) (S : Nat → PAL → Option Value) (r0 : Int) : P94x0 h S r0 = G.stepAt packP unpackP evXV (regP env pf26 nt94 h) (finP env Tryz.f94.results.toList) (G.collect B94 A94 []) 0 S (PAL.i r0 PAL.n) := by kernel_rfl
theorem t94 (h : Hp) (S : Nat → PAL → Option Value) : TabP (fun l al => G.stepAt packP unpackP evXV (regP env pf26 nt94 h) (finP env Tryz.f94.results.toList) (G.collect B94 A94 []) l S al) (T94 h S) := by
  unfold T94
  refine TabP.cons 0 (fun vs0 q e0 => ?_) ?_
  · obtain ⟨r0, vs1, rfl, e1⟩ := wI_some e0
    obtain ⟨rfl, ee⟩ := wN_some e1
    exact (q94x0 h S r0).symm.trans ee
  refine TabP.cons 3 (fun vs0 q e0 => ?_) ?_
  · obtain ⟨r0, vs1, rfl, e1⟩ := wI_some e0
    obtain ⟨r2, vs2, rfl, e2⟩ := wI_some e1
    obtain ⟨rfl, ee⟩ := wN_some e2
    exact (q94x3 h S r0 r2).symm.trans ee
  refine TabP.cons 2 (fun vs0 q e0 => ?_) ?_
  · obtain ⟨r0, vs1, rfl, e1⟩ := wI_some e0
    obtain ⟨r2, vs2, rfl, e2⟩ := wI_some e1
    obtain ⟨rfl, ee⟩ := wN_some e2
    exact (q94x2 h S r0 r2).symm.trans ee
  refine TabP.cons 1 (fun vs0 q e0 => ?_) ?_
  · obtain ⟨r0, vs1, rfl, e1⟩ := wI_some e0
    obtain ⟨r2, vs2, rfl, e2⟩ := wI_some e1
    obtain ⟨rfl, ee⟩ := wN_some e2
    exact (q94x1 h S r0 r2).symm.trans ee
  exact TabP.nil
theorem r94 : PSound Tryz.prog 94 F94 := fun_soundP (C := C0) ok0 (pf := pf26) pfok26 (fn := Tryz.f94) (body := B94) (kinds := [Kd.i .u64]) (A := A94) (T := T94) (by kernel_rfl) (by kernel_rfl) (by kernel_rfl) (by kernel_rfl) (fun h S => t94 h S)
noncomputable def pf27 : PF := pfC 94 F94 pf26
theorem pfok27 : PfSound Tryz.prog pf27 := pfC_ok r94 pfok26
noncomputable def orc49 := orcP 94 F94 orc48
noncomputable def C49 : Cfg := cfg orc49
theorem ok49 : C49.Ok := orcP_ok (C := C48) ok48 r94
/-! math/bits.Len -/
noncomputable def B68 : Code := (Tryz.f68.body).getD .skip
noncomputable def A68 : G.Ann (List KI) := (G.Ann.node (some (0, [KI.reg 0 (Kd.i .u64)])) G.Ann.nil (G.Ann.node none (G.Ann.node none (G.Ann.node none G.Ann.nil G.Ann.nil) G.Ann.nil) (G.Ann.node none G.Ann.nil G.Ann.nil)))
noncomputable def P68x0 (h : Hp) (S : Nat → PAL → Option Value) (r0 : Int) : Option Value :=
  optK (F94 [(Value.int .u64 r0)] h) fun v0 =>
  intK .i64 v0 fun i1 =>
  some (Value.int .i64 i1)
noncomputable def T68 (h : Hp) (S : Nat → PAL → Option Value) : Nat → PAL → Option Value := tabPC 0 (wI fun r0 => wN (P68x0 h S r0)) (tabPN)
noncomputable def F68 (args : List Value) (h : Hp) : Option Value := plainO (packArgs [Kd.i .u64] args fun al => G.rec' (T68 h) 1000000 0 al)
def nt68 : Nat := 1 + (8 - 1)
theorem q68x0 (h : Hp) (S : Nat → PAL → Option Value) (r0 : Int) : P68x0 h S r0 = G.stepAt packP unpackP evXV (regP env pf27 nt68 h) (finP env Tryz.f68.results.toList) (G.collect B68 A68 []) 0 S (PAL.i r0 PAL.n) := by kernel_rfl
theorem t68 (h : Hp) (S : Nat → PAL → Option Value) : TabP (fun l al => G.stepAt packP unpackP evXV (regP env pf27 nt68 h) (finP env Tryz.f68.results.toList) (G.collect B68 A68 []) l S al) (T68 h S) := by
  unfold T68
  refine TabP.cons 0 (fun vs0 q e0 => ?_) ?_
  · obtain ⟨r0, vs1, rfl, e1⟩ := wI_some e0
    obtain ⟨rfl, ee⟩ := wN_some e1
    exact (q68x0 h S r0).symm.trans ee
  exact TabP.nil
theorem r68 : PSound Tryz.prog 68 F68 := fun_soundP (C := C0) ok0 (pf := pf27) pfok27 (fn := Tryz.f68) (body := B68) (kinds := [Kd.i .u64]) (A := A68) (T := T68) (by kernel_rfl) (by kernel_rfl) (by kernel_rfl) (by kernel_rfl) (fun h S => t68 h S)
noncomputable def pf28 : PF := pfC 68 F68 pf27
theorem pfok28 : PfSound Tryz.prog pf28 := pfC_ok r68 pfok27
noncomputable def orc50 := orcP 68 F68 orc49
noncomputable def C50 : Cfg := cfg orc50
theorem ok50 : C50.Ok := orcP_ok (C := C49) ok49 r68
/-! cmp.isNaN[int] -/
noncomputable def B126 : Code := (Tryz.f126.body).getD .skip
noncomputable def A126 : G.Ann (List KI) := (G.Ann.node (some (0, [KI.reg 0 (Kd.i .i64)])) G.Ann.nil (G.Ann.node none G.Ann.nil G.Ann.nil))
noncomputable def P126x0 (h : Hp) (S : Nat → PAL → Option Value) (r0 : Int) : Option Value :=
  boolN (eqZ r0 r0) fun b0 =>
  some (Value.bool b0)
noncomputable def T126 (h : Hp) (S : Nat → PAL → Option Value) : Nat → PAL → Option Value := tabPC 0 (wI fun r0 => wN (P126x0 h S r0)) (tabPN)
noncomputable def F126 (args : List Value) (h : Hp) : Option Value := plainO (packArgs [Kd.i .i64] args fun al => G.rec' (T126 h) 1000000 0 al)
def nt126 : Nat := 1 + (6 - 1)
theorem q126x0 (h : Hp) (S : Nat → PAL → Option Value) (r0 : Int) : P126x0 h S r0 = G.stepAt packP unpackP evXV (regP env pf28 nt126 h) (finP env Tryz.f126.results.toList) (G.collect B126 A126 []) 0 S (PAL.i r0 PAL.n) := by kernel_rfl
theorem t126 (h : Hp) (S : Nat → PAL → Option Value) : TabP (fun l al => G.stepAt packP unpackP evXV (regP env pf28 nt126 h) (finP env Tryz.f126.results.toList) (G.collect B126 A126 []) l S al) (T126 h S) := by
  unfold T126
  refine TabP.cons 0 (fun vs0 q e0 => ?_) ?_
  · obtain ⟨r0, vs1, rfl, e1⟩ := wI_some e0
    obtain ⟨rfl, ee⟩ := wN_some e1
    exact (q126x0 h S r0).symm.trans ee
  exact TabP.nil
theorem r126 : PSound Tryz.prog 126 F126 := fun_soundP (C := C0) ok0 (pf := pf28) pfok28 (fn := Tryz.f126) (body := B126) (kinds := [Kd.i .i64]) (A := A126) (T := T126) (by kernel_rfl) (by kernel_rfl) (by kernel_rfl) (by kernel_rfl) (fun h S => t126 h S)
noncomputable def pf29 : PF := pfC 126 F126 pf28
theorem pfok29 : PfSound Tryz.prog pf29 := pfC_ok r126 pfok28
noncomputable def orc51 := orcP 126 F126 orc50
noncomputable def C51 : Cfg := cfg orc51
theorem ok51 : C51.Ok := orcP_ok (C := C50) ok50 r126
/-! cmp.Less[int] -/
noncomputable def B103 : Code := (Tryz.f103.body).getD .skip
noncomputable def A103 : G.Ann (List KI) := (G.Ann.node (some (0, [KI.reg 0 (Kd.i .i64), KI.reg 1 (Kd.i .i64)])) G.Ann.nil (G.Ann.node none G.Ann.nil G.Ann.nil))
noncomputable def P103x0 (h : Hp) (S : Nat → PAL → Option Value) (r0 : Int) (r1 : Int) : Option Value :=
  optK (F126 [(Value.int .i64 r0)] h) fun v0 =>
  boolK v0 fun b1 =>
  ifB b1
  (optK (F126 [(Value.int .i64 r1)] h) fun v2 =>
  boolK v2 fun b3 =>
  boolN b3 fun b4 =>
  ifB b4
  (some (Value.bool true))
  (boolZ (ltZ r0 r1) fun b5 =>
  some (Value.bool b5)))
  (boolZ (ltZ r0 r1) fun b6 =>
  some (Value.bool b6))
noncomputable def T103 (h : Hp) (S : Nat → PAL → Option Value) : Nat → PAL → Option Value := tabPC 0 (wI fun r0 => wI fun r1 => wN (P103x0 h S r0 r1)) (tabPN)
noncomputable def F103 (args : List Value) (h : Hp) : Option Value := plainO (packArgs [Kd.i .i64, Kd.i .i64] args fun al => G.rec' (T103 h) 1000000 0 al)
def nt103 : Nat := 2 + (17 - 2)
theorem q103x0 (h : Hp) (S : Nat → PAL → Option Value) (r0 : Int) (r1 : Int) : P103x0 h S r0 r1 = G.stepAt packP unpackP evXV (regP env pf29 nt103 h) (finP env Tryz.f103.results.toList) (G.collect B103 A103 []) 0 S (PAL.i r0 (PAL.i r1 PAL.n)) := by kernel_rfl
theorem t103 (h : Hp) (S : Nat → PAL → Option Value) : TabP (fun l al => G.stepAt packP unpackP evXV (regP env pf29 nt103 h) (finP env Tryz.f103.results.toList) (G.collect B103 A103 []) l S al) (T103 h S) := by
  unfold T103
  refine TabP.cons 0 (fun vs0 q e0 => ?_) ?_
  · obtain ⟨r0, vs1, rfl, e1⟩ := wI_some e0
    obtain ⟨r1, vs2, rfl, e2⟩ := wI_some e1
    obtain ⟨rfl, ee⟩ := wN_some e2
    exact (q103x0 h S r0 r1).symm.trans ee
  exact TabP.nil
theorem r103 : PSound Tryz.prog 103 F103 := fun_soundP (C := C0) ok0 (pf := pf29) pfok29 (fn := Tryz.f103) (body := B103) (kinds := [Kd.i .i64, Kd.i .i64]) (A := A103) (T := T103) (by kernel_rfl) (by kernel_rfl) (by kernel_rfl) (by kernel_rfl) (fun h S => t103 h S)
noncomputable def pf30 : PF := pfC 103 F103 pf29
theorem pfok30 : PfSound Tryz.prog pf30 := pfC_ok r103 pfok29
noncomputable def orc52 := orcP 103 F103 orc51
noncomputable def C52 : Cfg := cfg orc52
theorem ok52 : C52.Ok := orcP_ok (C := C51) ok51 r103
/-! slices.insertionSortOrdered[int] -/
noncomputable def B97 : Code := (Tryz.f97.body).getD .skip
def A97 : Ann := (Ann.node (some (0, [(0, Kd.v), (1, Kd.i .i64), (2, Kd.i .i64)])) Ann.nil (Ann.node none (Ann.node (some (1, [(0, Kd.v), (1, Kd.i .i64), (2, Kd.i .i64), (6, Kd.i .i64)])) (Ann.node none (Ann.node none Ann.nil (Ann.node none Ann.nil Ann.nil)) (Ann.node none (Ann.node none (Ann.node none Ann.nil (Ann.node none (Ann.node (some (2, [(0, Kd.v), (1, Kd.i .i64), (2, Kd.i .i64), (6, Kd.i .i64), (7, Kd.i .i64)])) (Ann.node none (Ann.node none Ann.nil (Ann.node none Ann.nil Ann.nil)) (Ann.node (some (3, [(0, Kd.v), (1, Kd.i .i64), (2, Kd.i .i64), (6, Kd.i .i64), (7, Kd.i .i64)])) (Ann.node none Ann.nil Ann.nil) Ann.nil)) Ann.nil) Ann.nil)) Ann.nil) (Ann.node (some (4, [(0, Kd.v), (1, Kd.i .i64), (2, Kd.i .i64), (6, Kd.i .i64)])) Ann.nil Ann.nil))) Ann.nil) Ann.nil))
noncomputable def P97x4 (S : Sg) (r0 : Value) (r1 : Int) (r2 : Int) (r6 : Int) (h : Hp) : CRes :=
  wrap64 (Int.add r6 (Int.ofNat 1)) fun i0 =>
  S 1 (AL.v r0 (AL.i r1 (AL.i r2 (AL.i i0 AL.n)))) h
noncomputable def P97x3 (S : Sg) (r0 : Value) (r1 : Int) (r2 : Int) (r6 : Int) (r7 : Int) (h : Hp) : CRes :=
  wrap64 (Int.sub r7 (Int.ofNat 1)) fun i0 =>
  wrap64 (Int.sub r7 (Int.ofNat 1)) fun i1 =>
  idxSK 1 r0 i1 fun v2 =>
  load1K h v2 fun v3 =>
  intK .i64 v3 fun i4 =>
  idxSK 1 r0 r7 fun v5 =>
  load1K h v5 fun v6 =>
  intK .i64 v6 fun i7 =>
  idxSK 1 r0 r7 fun v8 =>
  store1K h v8 (Value.int .i64 i4) fun h9 =>
  idxSK 1 r0 i0 fun v10 =>
  store1K h9 v10 (Value.int .i64 i7) fun h11 =>
  wrap64 (Int.sub r7 (Int.ofNat 1)) fun i12 =>
  S 2 (AL.v r0 (AL.i r1 (AL.i r2 (AL.i r6 (AL.i i12 AL.n))))) h11
noncomputable def P97x2 (S : Sg) (r0 : Value) (r1 : Int) (r2 : Int) (r6 : Int) (r7 : Int) (h : Hp) : CRes :=
  boolZ (ltZ r1 r7) fun b0 =>
  ifB b0
  (idxSK 1 r0 r7 fun v1 =>
  load1K h v1 fun v2 =>
  intK .i64 v2 fun i3 =>
  wrap64 (Int.sub r7 (Int.ofNat 1)) fun i4 =>
  idxSK 1 r0 i4 fun v5 =>
  load1K h v5 fun v6 =>
  intK .i64 v6 fun i7 =>
  pairK (optK (F103 [(Value.int .i64 i3), (Value.int .i64 i7)] h) fun v => some (v, h)) fun v8 h8 =>
  boolK v8 fun b9 =>
  ifB b9
  (S 3 (AL.v r0 (AL.i r1 (AL.i r2 (AL.i r6 (AL.i r7 AL.n))))) h8)
  (S 4 (AL.v r0 (AL.i r1 (AL.i r2 (AL.i r6 AL.n)))) h8))
  (S 4 (AL.v r0 (AL.i r1 (AL.i r2 (AL.i r6 AL.n)))) h)
noncomputable def P97x1 (S : Sg) (r0 : Value) (r1 : Int) (r2 : Int) (r6 : Int) (h : Hp) : CRes :=
  boolZ (ltZ r6 r2) fun b0 =>
  ifB b0
  (S 2 (AL.v r0 (AL.i r1 (AL.i r2 (AL.i r6 (AL.i r6 AL.n))))) h)
  (some (Value.tuple (List.toArray []), h))
noncomputable def P97x0 (S : Sg) (r0 : Value) (r1 : Int) (r2 : Int) (h : Hp) : CRes :=
  wrap64 (Int.add r1 (Int.ofNat 1)) fun i0 =>
  S 1 (AL.v r0 (AL.i r1 (AL.i r2 (AL.i i0 AL.n)))) h
noncomputable def T97 (S : Sg) : Sg := tabC 0 (uV fun r0 => uI fun r1 => uI fun r2 => uN fun h => P97x0 S r0 r1 r2 h) (tabC 1 (uV fun r0 => uI fun r1 => uI fun r2 => uI fun r6 => uN fun h => P97x1 S r0 r1 r2 r6 h) (tabC 2 (uV fun r0 => uI fun r1 => uI fun r2 => uI fun r6 => uI fun r7 => uN fun h => P97x2 S r0 r1 r2 r6 r7 h) (tabC 3 (uV fun r0 => uI fun r1 => uI fun r2 => uI fun r6 => uI fun r7 => uN fun h => P97x3 S r0 r1 r2 r6 r7 h) (tabC 4 (uV fun r0 => uI fun r1 => uI fun r2 => uI fun r6 => uN fun h => P97x4 S r0 r1 r2 r6 h) (tabN)))))
noncomputable def F97 (args : List Value) (h : Hp) : CRes := packVals [Kd.v, Kd.i .i64, Kd.i .i64] args fun al => rec' T97 1000000 0 al h
def nt97 : Nat := 3 + (49 - 3)
theorem q97x4 (S : Sg) (r0 : Value) (r1 : Int) (r2 : Int) (r6 : Int) (h : Hp) : P97x4 S r0 r1 r2 r6 h = stepAt (regK env orc52 (nt97)) (finK env Tryz.f97.results.toList) (collect B97 A97 []) 4 S (AL.v r0 (AL.i r1 (AL.i r2 (AL.i r6 AL.n)))) h := by kernel_rfl
theorem q97x3 (S : Sg) (r0 : Value) (r1 : Int) (r2 : Int) (r6 : Int) (r7 : Int) (h : Hp) : P97x3 S r0 r1 r2 r6 r7 h = stepAt (regK env orc52 (nt97)) (finK env Tryz.f97.results.toList) (collect B97 A97 []) 3 S (AL.v r0 (AL.i r1 (AL.i r2 (AL.i r6 (AL.i r7 AL.n))))) h := by kernel_rfl
theorem q97x2 (S : Sg) (r0 : Value) (r1 : Int) (r2 : Int) (r6 : Int) (r7 : Int) (h : Hp) : P97x2 S r0 r1 r2 r6 r7 h = stepAt (regK env orc52 (nt97)) (finK env Tryz.f97.results.toList) (collect B97 A97 []) 2 S (AL.v r0 (AL.i r1 (AL.i r2 (AL.i r6 (AL.i r7 AL.n))))) h := by kernel_rfl
theorem q97x1 (S : Sg) (r0 : Value) (r1 : Int) (r2 : Int) (r6 : Int) (h : Hp) : P97x1 S r0 r1 r2 r6 h = stepAt (regK env orc52 (nt97)) (finK env Tryz.f97.results.toList) (collect B97 A97 []) 1 S (AL.v r0 (AL.i r1 (AL.i r2 (AL.i r6 AL.n)))) h := by kernel_rfl
theorem q97x0 (S : Sg) (r0 : Value) (r1 : Int) (r2 : Int) (h : Hp) : P97x0 S r0 r1 r2 h = stepAt (regK env orc52 (nt97)) (finK env Tryz.f97.results.toList) (collect B97 A97 []) 0 S (AL.v r0 (AL.i r1 (AL.i r2 AL.n))) h := by kernel_rfl
theorem t97 (S : Sg) : Tab (fun l vs h => stepAt (regK env orc52 nt97) (finK env Tryz.f97.results.toList) (collect B97 A97 []) l S vs h) (T97 S) := by
  unfold T97
  refine Tab.cons 0 (fun vs0 h q e0 => ?_) ?_
  · obtain ⟨r0, vs1, rfl, e1⟩ := uV_some e0
    obtain ⟨r1, vs2, rfl, e2⟩ := uI_some e1
    obtain ⟨r2, vs3, rfl, e3⟩ := uI_some e2
    obtain ⟨rfl, ee⟩ := uN_some e3
    exact (q97x0 S r0 r1 r2 h).symm.trans ee
  refine Tab.cons 1 (fun vs0 h q e0 => ?_) ?_
  · obtain ⟨r0, vs1, rfl, e1⟩ := uV_some e0
    obtain ⟨r1, vs2, rfl, e2⟩ := uI_some e1
    obtain ⟨r2, vs3, rfl, e3⟩ := uI_some e2
    obtain ⟨r6, vs4, rfl, e4⟩ := uI_some e3
    obtain ⟨rfl, ee⟩ := uN_some e4
    exact (q97x1 S r0 r1 r2 r6 h).symm.trans ee
  refine Tab.cons 2 (fun vs0 h q e0 => ?_) ?_
  · obtain ⟨r0, vs1, rfl, e1⟩ := uV_some e0
    obtain ⟨r1, vs2, rfl, e2⟩ := uI_some e1
    obtain ⟨r2, vs3, rfl, e3⟩ := uI_some e2
    obtain ⟨r6, vs4, rfl, e4⟩ := uI_some e3
    obtain ⟨r7, vs5, rfl, e5⟩ := uI_some e4
    obtain ⟨rfl, ee⟩ := uN_some e5
    exact (q97x2 S r0 r1 r2 r6 r7 h).symm.trans ee
  refine Tab.cons 3 (fun vs0 h q e0 => ?_) ?_
  · obtain ⟨r0, vs1, rfl, e1⟩ := uV_some e0
    obtain ⟨r1, vs2, rfl, e2⟩ := uI_some e1
    obtain ⟨r2, vs3, rfl, e3⟩ := uI_some e2
    obtain ⟨r6, vs4, rfl, e4⟩ := uI_some e3
    obtain ⟨r7, vs5, rfl, e5⟩ := uI_some e4
    obtain ⟨rfl, ee⟩ := uN_some e5
    exact (q97x3 S r0 r1 r2 r6 r7 h).symm.trans ee
  refine Tab.cons 4 (fun vs0 h q e0 => ?_) ?_
  · obtain ⟨r0, vs1, rfl, e1⟩ := uV_some e0
    obtain ⟨r1, vs2, rfl, e2⟩ := uI_some e1
    obtain ⟨r2, vs3, rfl, e3⟩ := uI_some e2
    obtain ⟨r6, vs4, rfl, e4⟩ := uI_some e3
    obtain ⟨rfl, ee⟩ := uN_some e4
    exact (q97x4 S r0 r1 r2 r6 h).symm.trans ee
  exact Tab.nil
theorem r97 : ∀ args h v h', F97 args h = some (v, h') → Runs (C52) (.call 97 args.toArray h) (.ret v h') := by
  intro args h v h' e
  exact fun_sound (C := C52) (fn := Tryz.f97) (body := B97) (np := 3) (A := A97) (T := T97) (kinds := [Kd.v, Kd.i .i64, Kd.i .i64]) (by kernel_rfl) (by kernel_rfl) (by kernel_rfl) (by kernel_rfl) (regK_ok env_ok) (by kernel_rfl) (fun S => t97 S) e
noncomputable def orc53 := orcD 97 F97 orc52
noncomputable def C53 : Cfg := cfg orc53
theorem ok53 : C53.Ok := orcD_ok (C := C52) ok52 r97
/-! slices.pdqsortOrdered[int] -/
noncomputable def B70 : Code := (Tryz.f70.body).getD .skip
def A70 : Ann := (Ann.node (some (0, [(0, Kd.v), (1, Kd.i .i64), (2, Kd.i .i64), (3, Kd.i .i64)])) Ann.nil (Ann.node none Ann.nil (Ann.node none (Ann.node (some (1, [(0, Kd.v), (1, Kd.i .i64), (2, Kd.i .i64), (3, Kd.i .i64), (8, Kd.b), (9, Kd.b)])) (Ann.node none (Ann.node none Ann.nil (Ann.node none (Ann.node none Ann.nil (Ann.node none (Ann.node none Ann.nil Ann.nil) Ann.nil)) (Ann.node none (Ann.node none Ann.nil (Ann.node none (Ann.node none Ann.nil Ann.nil) Ann.nil)) (Ann.node none (Ann.node none Ann.nil (Ann.node none (Ann.node none Ann.nil Ann.nil) Ann.nil)) (Ann.node (some (7, [(0, Kd.v), (1, Kd.i .i64), (2, Kd.i .i64), (3, Kd.i .i64), (8, Kd.b), (9, Kd.b), (10, Kd.i .i64)])) Ann.nil (Ann.node none (Ann.node none Ann.nil (Ann.node none (Ann.node none Ann.nil (Ann.node none Ann.nil Ann.nil)) Ann.nil)) (Ann.node (some (6, [(0, Kd.v), (1, Kd.i .i64), (2, Kd.i .i64), (3, Kd.i .i64), (8, Kd.b), (9, Kd.b), (10, Kd.i .i64), (11, Kd.i .i64), (12, Kd.i .i64)])) (Ann.node none Ann.nil (Ann.node (some (2, [(0, Kd.v), (1, Kd.i .i64), (2, Kd.i .i64), (3, Kd.i .i64), (8, Kd.b), (9, Kd.b), (10, Kd.i .i64), (11, Kd.i .i64), (68, Kd.b)])) (Ann.node none Ann.nil (Ann.node none Ann.nil Ann.nil)) Ann.nil)) (Ann.node (some (5, [(0, Kd.v), (1, Kd.i .i64), (2, Kd.i .i64), (3, Kd.i .i64), (8, Kd.b), (9, Kd.b), (10, Kd.i .i64), (11, Kd.i .i64)])) (Ann.node none Ann.nil (Ann.node (some (3, [(0, Kd.v), (1, Kd.i .i64), (2, Kd.i .i64), (3, Kd.i .i64), (8, Kd.b), (9, Kd.b), (10, Kd.i .i64), (11, Kd.i .i64), (87, Kd.b)])) (Ann.node none Ann.nil (Ann.node none Ann.nil Ann.nil)) Ann.nil)) (Ann.node (some (4, [(0, Kd.v), (1, Kd.i .i64), (2, Kd.i .i64), (3, Kd.i .i64), (10, Kd.i .i64), (11, Kd.i .i64)])) Ann.nil (Ann.node none Ann.nil (Ann.node none Ann.nil (Ann.node none Ann.nil (Ann.node none Ann.nil (Ann.node none (Ann.node none Ann.nil (Ann.node none Ann.nil Ann.nil)) (Ann.node none Ann.nil (Ann.node none Ann.nil Ann.nil)))))))))))))))) Ann.nil) Ann.nil) Ann.nil)))
noncomputable def P70x4 (S : Sg) (r0 : Value) (r1 : Int) (r2 : Int) (r3 : Int) (r10 : Int) (r11 : Int) (h : Hp) : CRes :=
  none
noncomputable def P70x3 (S : Sg) (r0 : Value) (r1 : Int) (r2 : Int) (r3 : Int) (r8 : Bool) (r9 : Bool) (r10 : Int) (r11 : Int) (r87 : Bool) (h : Hp) : CRes :=
  ifB r87
  (none)
  (S 4 (AL.v r0 (AL.i r1 (AL.i r2 (AL.i r3 (AL.i r10 (AL.i r11 AL.n)))))) h)
noncomputable def P70x5 (S : Sg) (r0 : Value) (r1 : Int) (r2 : Int) (r3 : Int) (r8 : Bool) (r9 : Bool) (r10 : Int) (r11 : Int) (h : Hp) : CRes :=
  boolZ (ltZ (Int.ofNat 0) r1) fun b0 =>
  ifB b0
  (wrap64 (Int.sub r1 (Int.ofNat 1)) fun i1 =>
  idxSK 1 r0 i1 fun v2 =>
  load1K h v2 fun v3 =>
  intK .i64 v3 fun i4 =>
  idxSK 1 r0 r11 fun v5 =>
  load1K h v5 fun v6 =>
  intK .i64 v6 fun i7 =>
  pairK (optK (F103 [(Value.int .i64 i4), (Value.int .i64 i7)] h) fun v => some (v, h)) fun v8 h8 =>
  boolK v8 fun b9 =>
  boolN b9 fun b10 =>
  S 3 (AL.v r0 (AL.i r1 (AL.i r2 (AL.i r3 (AL.b r8 (AL.b r9 (AL.i r10 (AL.i r11 (AL.b b10 AL.n))))))))) h8)
  (S 3 (AL.v r0 (AL.i r1 (AL.i r2 (AL.i r3 (AL.b r8 (AL.b r9 (AL.i r10 (AL.i r11 (AL.b false AL.n))))))))) h)
noncomputable def P70x2 (S : Sg) (r0 : Value) (r1 : Int) (r2 : Int) (r3 : Int) (r8 : Bool) (r9 : Bool) (r10 : Int) (r11 : Int) (r68 : Bool) (h : Hp) : CRes :=
  ifB r68
  (none)
  (S 5 (AL.v r0 (AL.i r1 (AL.i r2 (AL.i r3 (AL.b r8 (AL.b r9 (AL.i r10 (AL.i r11 AL.n)))))))) h)
noncomputable def P70x6 (S : Sg) (r0 : Value) (r1 : Int) (r2 : Int) (r3 : Int) (r8 : Bool) (r9 : Bool) (r10 : Int) (r11 : Int) (r12 : Int) (h : Hp) : CRes :=
  ifB r8
  (ifB r9
  (boolZ (eqZ r12 (Int.ofNat 1)) fun b0 =>
  S 2 (AL.v r0 (AL.i r1 (AL.i r2 (AL.i r3 (AL.b r8 (AL.b r9 (AL.i r10 (AL.i r11 (AL.b b0 AL.n))))))))) h)
  (S 2 (AL.v r0 (AL.i r1 (AL.i r2 (AL.i r3 (AL.b r8 (AL.b r9 (AL.i r10 (AL.i r11 (AL.b false AL.n))))))))) h))
  (S 2 (AL.v r0 (AL.i r1 (AL.i r2 (AL.i r3 (AL.b r8 (AL.b r9 (AL.i r10 (AL.i r11 (AL.b false AL.n))))))))) h)
noncomputable def P70x7 (S : Sg) (r0 : Value) (r1 : Int) (r2 : Int) (r3 : Int) (r8 : Bool) (r9 : Bool) (r10 : Int) (h : Hp) : CRes :=
  none
noncomputable def P70x1 (S : Sg) (r0 : Value) (r1 : Int) (r2 : Int) (r3 : Int) (r8 : Bool) (r9 : Bool) (h : Hp) : CRes :=
  wrap64 (Int.sub r2 r1) fun i0 =>
  boolN (ltZ (Int.ofNat 12) i0) fun b1 =>
  ifB b1
  (pairK (F97 [r0, (Value.int .i64 r1), (Value.int .i64 r2)] h) fun v2 h2 =>
  some (Value.tuple (List.toArray []), h2))
  (boolZ (eqZ r3 (Int.ofNat 0)) fun b3 =>
  ifB b3
  (none)
  (boolN r8 fun b4 =>
  ifB b4
  (none)
  (S 7 (AL.v r0 (AL.i r1 (AL.i r2 (AL.i r3 (AL.b r8 (AL.b r9 (AL.i i0 AL.n))))))) h)))
noncomputable def P70x0 (S : Sg) (r0 : Value) (r1 : Int) (r2 : Int) (r3 : Int) (h : Hp) : CRes :=
  S 1 (AL.v r0 (AL.i r1 (AL.i r2 (AL.i r3 (AL.b true (AL.b true AL.n)))))) h
noncomputable def T70 (S : Sg) : Sg := tabC 0 (uV fun r0 => uI fun r1 => uI fun r2 => uI fun r3 => uN fun h => P70x0 S r0 r1 r2 r3 h) (tabC 1 (uV fun r0 => uI fun r1 => uI fun r2 => uI fun r3 => uB fun r8 => uB fun r9 => uN fun h => P70x1 S r0 r1 r2 r3 r8 r9 h) (tabC 7 (uV fun r0 => uI fun r1 => uI fun r2 => uI fun r3 => uB fun r8 => uB fun r9 => uI fun r10 => uN fun h => P70x7 S r0 r1 r2 r3 r8 r9 r10 h) (tabC 6 (uV fun r0 => uI fun r1 => uI fun r2 => uI fun r3 => uB fun r8 => uB fun r9 => uI fun r10 => uI fun r11 => uI fun r12 => uN fun h => P70x6 S r0 r1 r2 r3 r8 r9 r10 r11 r12 h) (tabC 2 (uV fun r0 => uI fun r1 => uI fun r2 => uI fun r3 => uB fun r8 => uB fun r9 => uI fun r10 => uI fun r11 => uB fun r68 => uN fun h => P70x2 S r0 r1 r2 r3 r8 r9 r10 r11 r68 h) (tabC 5 (uV fun r0 => uI fun r1 => uI fun r2 => uI fun r3 => uB fun r8 => uB fun r9 => uI fun r10 => uI fun r11 => uN fun h => P70x5 S r0 r1 r2 r3 r8 r9 r10 r11 h) (tabC 3 (uV fun r0 => uI fun r1 => uI fun r2 => uI fun r3 => uB fun r8 => uB fun r9 => uI fun r10 => uI fun r11 => uB fun r87 => uN fun h => P70x3 S r0 r1 r2 r3 r8 r9 r10 r11 r87 h) (tabC 4 (uV fun r0 => uI fun r1 => uI fun r2 => uI fun r3 => uI fun r10 => uI fun r11 => uN fun h => P70x4 S r0 r1 r2 r3 r10 r11 h) (tabN))))))))
noncomputable def F70 (args : List Value) (h : Hp) : CRes := packVals [Kd.v, Kd.i .i64, Kd.i .i64, Kd.i .i64] args fun al => rec' T70 1000000 0 al h
def nt70 : Nat := 4 + (134 - 4)
theorem q70x4 (S : Sg) (r0 : Value) (r1 : Int) (r2 : Int) (r3 : Int) (r10 : Int) (r11 : Int) (h : Hp) : P70x4 S r0 r1 r2 r3 r10 r11 h = stepAt (regK env orc53 (nt70)) (finK env Tryz.f70.results.toList) (collect B70 A70 []) 4 S (AL.v r0 (AL.i r1 (AL.i r2 (AL.i r3 (AL.i r10 (AL.i r11 AL.n)))))) h := by kernel_rfl
theorem q70x3 (S : Sg) (r0 : Value) (r1 : Int) (r2 : Int) (r3 : Int) (r8 : Bool) (r9 : Bool) (r10 : Int) (r11 : Int) (r87 : Bool) (h : Hp) : P70x3 S r0 r1 r2 r3 r8 r9 r10 r11 r87 h = stepAt (regK env orc53 (nt70)) (finK env Tryz.f70.results.toList) (collect B70 A70 []) 3 S (AL.v r0 (AL.i r1 (AL.i r2 (AL.i r3 (AL.b r8 (AL.b r9 (AL.i r10 (AL.i r11 (AL.b r87 AL.n))))))))) h := by kernel_rfl
theorem q70x5 (S : Sg) (r0 : Value) (r1 : Int) (r2 : Int) (r3 : Int) (r8 : Bool) (r9 : Bool) (r10 : Int) (r11 : Int) (h : Hp) : P70x5 S r0 r1 r2 r3 r8 r9 r10 r11 h = stepAt (regK env orc53 (nt70)) (finK env Tryz.f70.results.toList) (collect B70 A70 []) 5 S (AL.v r0 (AL.i r1 (AL.i r2 (AL.i r3 (AL.b r8 (AL.b r9 (AL.i r10 (AL.i r11 AL.n)))))))) h := by kernel_rfl
theorem q70x2 (S : Sg) (r0 : Value) (r1 : Int) (r2 : Int) (r3 : Int) (r8 : Bool) (r9 : Bool) (r10 : Int) (r11 : Int) (r68 : Bool) (h : Hp) : P70x2 S r0 r1 r2 r3 r8 r9 r10 r11 r68 h = stepAt (regK env orc53 (nt70)) (finK env Tryz.f70.results.toList) (collect B70 A70 []) 2 S (AL.v r0 (AL.i r1 (AL.i r2 (AL.i r3 (AL.b r8 (AL.b r9 (AL.i r10 (AL.i r11 (AL.b r68 AL.n))))))))) h := by kernel_rfl
theorem q70x6 (S : Sg) (r0 : Value) (r1 : Int) (r2 : Int) (r3 : Int) (r8 : Bool) (r9 : Bool) (r10 : Int) (r11 : Int) (r12 : Int) (h : Hp) : P70x6 S r0 r1 r2 r3 r8 r9 r10 r11 r12 h = stepAt (regK env orc53 (nt70)) (finK env Tryz.f70.results.toList) (collect B70 A70 []) 6 S (AL.v r0 (AL.i r1 (AL.i r2 (AL.i r3 (AL.b r8 (AL.b r9 (AL.i r10 (AL.i r11 (AL.i r12 AL.n))))))))) h := by kernel_rfl
theorem q70x7 (S : Sg) (r0 : Value) (r1 : Int) (r2 : Int) (r3 : Int) (r8 : Bool) (r9 : Bool) (r10 : Int) (h : Hp) : P70x7 S r0 r1 r2 r3 r8 r9 r10 h = stepAt (regK env orc53 (nt70)) (finK env Tryz.f70.results.toList) (collect B70 A70 []) 7 S (AL.v r0 (AL.i r1 (AL.i r2 (AL.i r3 (AL.b r8 (AL.b r9 (AL.i r10 AL.n))))))) h := by kernel_rfl
theorem q70x1 (S : Sg) (r0 : Value) (r1 : Int) (r2 : Int) (r3 : Int) (r8 : Bool) (r9 : Bool) (h : Hp) : P70x1 S r0 r1 r2 r3 r8 r9 h = stepAt (regK env orc53 (nt70)) (finK env Tryz.f70.results.toList) (collect B70 A70 []) 1 S (AL.v r0 (AL.i r1 (AL.i r2 (AL.i r3 (AL.b r8 (AL.b r9 AL.n)))))) h := by kernel_rfl
theorem q70x0 (S : Sg) (r0 : Value) (r1 : Int) (r2 : Int) (r3 : Int) (h : Hp) : P70x0 S r0 r1 r2 r3 h = stepAt (regK env orc53 (nt70)) (finK env Tryz.f70.results.toList) (collect B70 A70 []) 0 S (AL.v r0 (AL.i r1 (AL.i r2 (AL.i r3 AL.n)))) h := by kernel_rfl
theorem t70 (S : Sg) : Tab (fun l vs h => stepAt (regK env orc53 nt70) (finK env Tryz.f70.results.toList) (collect B70 A70 []) l S vs h) (T70 S) := by
  unfold T70
  refine Tab.cons 0 (fun vs0 h q e0 => ?_) ?_
  · obtain ⟨r0, vs1, rfl, e1⟩ := uV_some e0
    obtain ⟨r1, vs2, rfl, e2⟩ := uI_some e1
    obtain ⟨r2, vs3, rfl, e3⟩ := uI_some e2
    obtain ⟨r3, vs4, rfl, e4⟩ := uI_some e3
    obtain ⟨rfl, ee⟩ := uN_some e4
    exact (q70x0 S r0 r1 r2 r3 h).symm.trans ee
  refine Tab.cons 1 (fun vs0 h q e0 => ?_) ?_
  · obtain ⟨r0, vs1, rfl, e1⟩ := uV_some e0
    obtain ⟨r1, vs2, rfl, e2⟩ := uI_some e1
    obtain ⟨r2, vs3, rfl, e3⟩ := uI_some e2
    obtain ⟨r3, vs4, rfl, e4⟩ := uI_some e3
    obtain ⟨r8, vs5, rfl, e5⟩ := uB_some e4
    obtain ⟨r9, vs6, rfl, e6⟩ := uB_some e5
    obtain ⟨rfl, ee⟩ := uN_some e6
    exact (q70x1 S r0 r1 r2 r3 r8 r9 h).symm.trans ee
  refine Tab.cons 7 (fun vs0 h q e0 => ?_) ?_
  · obtain ⟨r0, vs1, rfl, e1⟩ := uV_some e0
    obtain ⟨r1, vs2, rfl, e2⟩ := uI_some e1
    obtain ⟨r2, vs3, rfl, e3⟩ := uI_some e2
    obtain ⟨r3, vs4, rfl, e4⟩ := uI_some e3
    obtain ⟨r8, vs5, rfl, e5⟩ := uB_some e4
    obtain ⟨r9, vs6, rfl, e6⟩ := uB_some e5
    obtain ⟨r10, vs7, rfl, e7⟩ := uI_some e6
    obtain ⟨rfl, ee⟩ := uN_some e7
    exact (q70x7 S r0 r1 r2 r3 r8 r9 r10 h).symm.trans ee
  refine Tab.cons 6 (fun vs0 h q e0 => ?_) ?_
  · obtain ⟨r0, vs1, rfl, e1⟩ := uV_some e0
    obtain ⟨r1, vs2, rfl, e2⟩ := uI_some e1
    obtain ⟨r2, vs3, rfl, e3⟩ := uI_some e2
    obtain ⟨r3, vs4, rfl, e4⟩ := uI_some e3
    obtain ⟨r8, vs5, rfl, e5⟩ := uB_some e4
    obtain ⟨r9, vs6, rfl, e6⟩ := uB_some e5
    obtain ⟨r10, vs7, rfl, e7⟩ := uI_some e6
    obtain ⟨r11, vs8, rfl, e8⟩ := uI_some e7
    obtain ⟨r12, vs9, rfl, e9⟩ := uI_some e8
    obtain ⟨rfl, ee⟩ := uN_some e9
    exact (q70x6 S r0 r1 r2 r3 r8 r9 r10 r11 r12 h).symm.trans ee
  refine Tab.cons 2 (fun vs0 h q e0 => ?_) ?_
  · obtain ⟨r0, vs1, rfl, e1⟩ := uV_some e0
    obtain ⟨r1, vs2, rfl, e2⟩ := uI_some e1
    obtain ⟨r2, vs3, rfl, e3⟩ := uI_some e2
    obtain ⟨r3, vs4, rfl, e4⟩ := uI_some e3
    obtain ⟨r8, vs5, rfl, e5⟩ := uB_some e4
    obtain ⟨r9, vs6, rfl, e6⟩ := uB_some e5
    obtain ⟨r10, vs7, rfl, e7⟩ := uI_some e6
    obtain ⟨r11, vs8, rfl, e8⟩ := uI_some e7
    obtain ⟨r68, vs9, rfl, e9⟩ := uB_some e8
    obtain ⟨rfl, ee⟩ := uN_some e9
    exact (q70x2 S r0 r1 r2 r3 r8 r9 r10 r11 r68 h).symm.trans ee
  refine Tab.cons 5 (fun vs0 h q e0 => ?_) ?_
  · obtain ⟨r0, vs1, rfl, e1⟩ := uV_some e0
    obtain ⟨r1, vs2, rfl, e2⟩ := uI_some e1
    obtain ⟨r2, vs3, rfl, e3⟩ := uI_some e2
    obtain ⟨r3, vs4, rfl, e4⟩ := uI_some e3
    obtain ⟨r8, vs5, rfl, e5⟩ := uB_some e4
    obtain ⟨r9, vs6, rfl, e6⟩ := uB_some e5
    obtain ⟨r10, vs7, rfl, e7⟩ := uI_some e6
    obtain ⟨r11, vs8, rfl, e8⟩ := uI_some e7
    obtain ⟨rfl, ee⟩ := uN_some e8
    exact (q70x5 S r0 r1 r2 r3 r8 r9 r10 r11 h).symm.trans ee
  refine Tab.cons 3 (fun vs0 h q e0 => ?_) ?_
  · obtain ⟨r0, vs1, rfl, e1⟩ := uV_some e0
    obtain ⟨r1, vs2, rfl, e2⟩ := uI_some e1
    obtain ⟨r2, vs3, rfl, e3⟩ := uI_some e2
    obtain ⟨r3, vs4, rfl, e4⟩ := uI_some e3
    obtain ⟨r8, vs5, rfl, e5⟩ := uB_some e4
    obtain ⟨r9, vs6, rfl, e6⟩ := uB_some e5
    obtain ⟨r10, vs7, rfl, e7⟩ := uI_some e6
    obtain ⟨r11, vs8, rfl, e8⟩ := uI_some e7
    obtain ⟨r87, vs9, rfl, e9⟩ := uB_some e8
    obtain ⟨rfl, ee⟩ := uN_some e9
    exact (q70x3 S r0 r1 r2 r3 r8 r9 r10 r11 r87 h).symm.trans ee
  refine Tab.cons 4 (fun vs0 h q e0 => ?_) ?_
  · obtain ⟨r0, vs1, rfl, e1⟩ := uV_some e0
    obtain ⟨r1, vs2, rfl, e2⟩ := uI_some e1
    obtain ⟨r2, vs3, rfl, e3⟩ := uI_some e2
    obtain ⟨r3, vs4, rfl, e4⟩ := uI_some e3
    obtain ⟨r10, vs5, rfl, e5⟩ := uI_some e4
    obtain ⟨r11, vs6, rfl, e6⟩ := uI_some e5
    obtain ⟨rfl, ee⟩ := uN_some e6
    exact (q70x4 S r0 r1 r2 r3 r10 r11 h).symm.trans ee
  exact Tab.nil
theorem r70 : ∀ args h v h', F70 args h = some (v, h') → Runs (C53) (.call 70 args.toArray h) (.ret v h') := by
  intro args h v h' e
  exact fun_sound (C := C53) (fn := Tryz.f70) (body := B70) (np := 4) (A := A70) (T := T70) (kinds := [Kd.v, Kd.i .i64, Kd.i .i64, Kd.i .i64]) (by kernel_rfl) (by kernel_rfl) (by kernel_rfl) (by kernel_rfl) (regK_ok env_ok) (by kernel_rfl) (fun S => t70 S) e
noncomputable def orc54 := orcD 70 F70 orc53
noncomputable def C54 : Cfg := cfg orc54
theorem ok54 : C54.Ok := orcD_ok (C := C53) ok53 r70
/-! slices.Sort[[]int,int] -/
noncomputable def B43 : Code := (Tryz.f43.body).getD .skip
def A43 : Ann := (Ann.node (some (0, [(0, Kd.v)])) Ann.nil Ann.nil)
noncomputable def P43x0 (S : Sg) (r0 : Value) (h : Hp) : CRes :=
  lenSK r0 fun i0 =>
  forceI (wrapF .u64 i0) fun i1 =>
  pairK (optK (F68 [(Value.int .u64 i1)] h) fun v => some (v, h)) fun v2 h2 =>
  intK .i64 v2 fun i3 =>
  pairK (F70 [r0, (Value.int .i64 (Int.ofNat 0)), (Value.int .i64 i0), (Value.int .i64 i3)] h2) fun v4 h4 =>
  some (Value.tuple (List.toArray []), h4)
noncomputable def T43 (S : Sg) : Sg := tabC 0 (uV fun r0 => uN fun h => P43x0 S r0 h) (tabN)
noncomputable def F43 (args : List Value) (h : Hp) : CRes := packVals [Kd.v] args fun al => rec' T43 1000000 0 al h
def nt43 : Nat := 1 + (11 - 1)
theorem q43x0 (S : Sg) (r0 : Value) (h : Hp) : P43x0 S r0 h = stepAt (regK env orc54 (nt43)) (finK env Tryz.f43.results.toList) (collect B43 A43 []) 0 S (AL.v r0 AL.n) h := by kernel_rfl
theorem t43 (S : Sg) : Tab (fun l vs h => stepAt (regK env orc54 nt43) (finK env Tryz.f43.results.toList) (collect B43 A43 []) l S vs h) (T43 S) := by
  unfold T43
  refine Tab.cons 0 (fun vs0 h q e0 => ?_) ?_
  · obtain ⟨r0, vs1, rfl, e1⟩ := uV_some e0
    obtain ⟨rfl, ee⟩ := uN_some e1
    exact (q43x0 S r0 h).symm.trans ee
  exact Tab.nil
theorem r43 : ∀ args h v h', F43 args h = some (v, h') → Runs (C54) (.call 43 args.toArray h) (.ret v h') := by
  intro args h v h' e
  exact fun_sound (C := C54) (fn := Tryz.f43) (body := B43) (np := 1) (A := A43) (T := T43) (kinds := [Kd.v]) (by kernel_rfl) (by kernel_rfl) (by kernel_rfl) (by kernel_rfl) (regK_ok env_ok) (by kernel_rfl) (fun S => t43 S) e
noncomputable def orc55 := orcD 43 F43 orc54
noncomputable def C55 : Cfg := cfg orc55
theorem ok55 : C55.Ok := orcD_ok (C := C54) ok54 r43
/-! ceroplast/head.On$1 -/
noncomputable def B22 : Code := (Tryz.f22.body).getD .skip
noncomputable def A22 : G.Ann (List KI) := (G.Ann.node (some (0, [KI.reg 0 (Kd.v), KI.reg 1 (Kd.v)])) G.Ann.nil (G.Ann.node none G.Ann.nil G.Ann.nil))
noncomputable def P22x0 (h : Hp) (S : Nat → PAL → Option Value) (r0 : Value) (r1 : Value) : Option Value :=
  forceL (Array.toList (Value.cells r0)) fun c0 =>
  load1K h r1 fun v1 =>
  intK .i64 v1 fun i2 =>
  onI i2 (fun n3 => ifB (Nat.ble (Nat.succ n3) 5) (forceN (Nat.add 0 (Nat.mul n3 1)) fun o3 =>
  nthR c0 o3 fun v4 =>
  intK .i64 v4 fun i5 =>
  some (Value.int .i64 i5)) none) (fun _ => none)
noncomputable def T22 (h : Hp) (S : Nat → PAL → Option Value) : Nat → PAL → Option Value := tabPC 0 (wV fun r0 => wV fun r1 => wN (P22x0 h S r0 r1)) (tabPN)
noncomputable def F22 (args : List Value) (h : Hp) : Option Value := plainO (packArgs [Kd.v, Kd.v] args fun al => G.rec' (T22 h) 1000000 0 al)
def nt22 : Nat := 2 + (7 - 2)
theorem q22x0 (h : Hp) (S : Nat → PAL → Option Value) (r0 : Value) (r1 : Value) : P22x0 h S r0 r1 = G.stepAt packP unpackP evXV (regP env pf30 nt22 h) (finP env Tryz.f22.results.toList) (G.collect B22 A22 []) 0 S (PAL.v r0 (PAL.v r1 PAL.n)) := by kernel_rfl
theorem t22 (h : Hp) (S : Nat → PAL → Option Value) : TabP (fun l al => G.stepAt packP unpackP evXV (regP env pf30 nt22 h) (finP env Tryz.f22.results.toList) (G.collect B22 A22 []) l S al) (T22 h S) := by
  unfold T22
  refine TabP.cons 0 (fun vs0 q e0 => ?_) ?_
  · obtain ⟨r0, vs1, rfl, e1⟩ := wV_some e0
    obtain ⟨r1, vs2, rfl, e2⟩ := wV_some e1
    obtain ⟨rfl, ee⟩ := wN_some e2
    exact (q22x0 h S r0 r1).symm.trans ee
  exact TabP.nil
theorem r22 : PSound Tryz.prog 22 F22 := fun_soundP (C := C0) ok0 (pf := pf30) pfok30 (fn := Tryz.f22) (body := B22) (kinds := [Kd.v, Kd.v]) (A := A22) (T := T22) (by kernel_rfl) (by kernel_rfl) (by kernel_rfl) (by kernel_rfl) (fun h S => t22 h S)
noncomputable def pf31 : PF := pfC 22 F22 pf30
theorem pfok31 : PfSound Tryz.prog pf31 := pfC_ok r22 pfok30
noncomputable def orc56 := orcP 22 F22 orc55
noncomputable def C56 : Cfg := cfg orc56
theorem ok56 : C56.Ok := orcP_ok (C := C55) ok55 r22
/-! ceroplast/head.As$1 -/
noncomputable def B27 : Code := (Tryz.f27.body).getD .skip
noncomputable def A27 : G.Ann (List KI) := (G.Ann.node (some (0, [KI.reg 0 (Kd.v)])) G.Ann.nil (G.Ann.node none G.Ann.nil G.Ann.nil))
noncomputable def P27x0 (h : Hp) (S : Nat → PAL → Option Value) (r0 : Value) : Option Value :=
  optK (binV env .eql 9 (Operand.tmp 3) (Operand.const (Value.string (ByteArray.mk #[]))) r0 (Value.string (ByteArray.mk #[]))) fun v0 =>
  boolK v0 fun b1 =>
  some (Value.bool b1)
noncomputable def T27 (h : Hp) (S : Nat → PAL → Option Value) : Nat → PAL → Option Value := tabPC 0 (wV fun r0 => wN (P27x0 h S r0)) (tabPN)
noncomputable def F27 (args : List Value) (h : Hp) : Option Value := plainO (packArgs [Kd.v] args fun al => G.rec' (T27 h) 1000000 0 al)
def nt27 : Nat := 1 + (5 - 1)
theorem q27x0 (h : Hp) (S : Nat → PAL → Option Value) (r0 : Value) : P27x0 h S r0 = G.stepAt packP unpackP evXV (regP env pf31 nt27 h) (finP env Tryz.f27.results.toList) (G.collect B27 A27 []) 0 S (PAL.v r0 PAL.n) := by kernel_rfl
theorem t27 (h : Hp) (S : Nat → PAL → Option Value) : TabP (fun l al => G.stepAt packP unpackP evXV (regP env pf31 nt27 h) (finP env Tryz.f27.results.toList) (G.collect B27 A27 []) l S al) (T27 h S) := by
  unfold T27
  refine TabP.cons 0 (fun vs0 q e0 => ?_) ?_
  · obtain ⟨r0, vs1, rfl, e1⟩ := wV_some e0
    obtain ⟨rfl, ee⟩ := wN_some e1
    exact (q27x0 h S r0).symm.trans ee
  exact TabP.nil
theorem r27 : PSound Tryz.prog 27 F27 := fun_soundP (C := C0) ok0 (pf := pf31) pfok31 (fn := Tryz.f27) (body := B27) (kinds := [Kd.v]) (A := A27) (T := T27) (by kernel_rfl) (by kernel_rfl) (by kernel_rfl) (by kernel_rfl) (fun h S => t27 h S)
noncomputable def pf32 : PF := pfC 27 F27 pf31
theorem pfok32 : PfSound Tryz.prog pf32 := pfC_ok r27 pfok31
noncomputable def orc57 := orcP 27 F27 orc56
noncomputable def C57 : Cfg := cfg orc57
theorem ok57 : C57.Ok := orcP_ok (C := C56) ok56 r27
/-! (ceroplast/head.look).shownOn -/
noncomputable def B49 : Code := (Tryz.f49.body).getD .skip
def A49 : Ann := (Ann.node (some (0, [(0, Kd.v), (1, Kd.i .i64)])) Ann.nil (Ann.node none Ann.nil Ann.nil))
noncomputable def P49x0 (S : Sg) (r0 : Value) (r1 : Int) (h : Hp) : CRes :=
  allocK h 54 (Array.toList (Value.cells r0)) fun a0 h0 =>
  allocK h0 3 [(Value.int .i64 r1)] fun a1 h1 =>
  some ((Value.func (.func 74) (List.toArray []) (List.toArray [a0, a1])), h1)
noncomputable def T49 (S : Sg) : Sg := tabC 0 (uV fun r0 => uI fun r1 => uN fun h => P49x0 S r0 r1 h) (tabN)
noncomputable def F49 (args : List Value) (h : Hp) : CRes := packVals [Kd.v, Kd.i .i64] args fun al => rec' T49 1000000 0 al h
def nt49 : Nat := 2 + (6 - 2)
theorem q49x0 (S : Sg) (r0 : Value) (r1 : Int) (h : Hp) : P49x0 S r0 r1 h = stepAt (regK env orc57 (nt49)) (finK env Tryz.f49.results.toList) (collect B49 A49 []) 0 S (AL.v r0 (AL.i r1 AL.n)) h := by kernel_rfl
theorem t49 (S : Sg) : Tab (fun l vs h => stepAt (regK env orc57 nt49) (finK env Tryz.f49.results.toList) (collect B49 A49 []) l S vs h) (T49 S) := by
  unfold T49
  refine Tab.cons 0 (fun vs0 h q e0 => ?_) ?_
  · obtain ⟨r0, vs1, rfl, e1⟩ := uV_some e0
    obtain ⟨r1, vs2, rfl, e2⟩ := uI_some e1
    obtain ⟨rfl, ee⟩ := uN_some e2
    exact (q49x0 S r0 r1 h).symm.trans ee
  exact Tab.nil
theorem r49 : ∀ args h v h', F49 args h = some (v, h') → Runs (C57) (.call 49 args.toArray h) (.ret v h') := by
  intro args h v h' e
  exact fun_sound (C := C57) (fn := Tryz.f49) (body := B49) (np := 2) (A := A49) (T := T49) (kinds := [Kd.v, Kd.i .i64]) (by kernel_rfl) (by kernel_rfl) (by kernel_rfl) (by kernel_rfl) (regK_ok env_ok) (by kernel_rfl) (fun S => t49 S) e
noncomputable def orc58 := orcQ 49 F49 orc57
noncomputable def C58 : Cfg := cfg orc58
theorem ok58 : C58.Ok := orcQ_ok (C := C57) ok57 r49
/-! cmp.isNaN[string] -/
noncomputable def B130 : Code := (Tryz.f130.body).getD .skip
noncomputable def A130 : G.Ann (List KI) := (G.Ann.node (some (0, [KI.reg 0 (Kd.v)])) G.Ann.nil (G.Ann.node none G.Ann.nil G.Ann.nil))
noncomputable def P130x0 (h : Hp) (S : Nat → PAL → Option Value) (r0 : Value) : Option Value :=
  optK (binV env .neq 9 (Operand.tmp 3) (Operand.tmp 4) r0 r0) fun v0 =>
  boolK v0 fun b1 =>
  some (Value.bool b1)
noncomputable def T130 (h : Hp) (S : Nat → PAL → Option Value) : Nat → PAL → Option Value := tabPC 0 (wV fun r0 => wN (P130x0 h S r0)) (tabPN)
noncomputable def F130 (args : List Value) (h : Hp) : Option Value := plainO (packArgs [Kd.v] args fun al => G.rec' (T130 h) 1000000 0 al)
def nt130 : Nat := 1 + (6 - 1)
theorem q130x0 (h : Hp) (S : Nat → PAL → Option Value) (r0 : Value) : P130x0 h S r0 = G.stepAt packP unpackP evXV (regP env pf32 nt130 h) (finP env Tryz.f130.results.toList) (G.collect B130 A130 []) 0 S (PAL.v r0 PAL.n) := by kernel_rfl
theorem t130 (h : Hp) (S : Nat → PAL → Option Value) : TabP (fun l al => G.stepAt packP unpackP evXV (regP env pf32 nt130 h) (finP env Tryz.f130.results.toList) (G.collect B130 A130 []) l S al) (T130 h S) := by
  unfold T130
  refine TabP.cons 0 (fun vs0 q e0 => ?_) ?_
  · obtain ⟨r0, vs1, rfl, e1⟩ := wV_some e0
    obtain ⟨rfl, ee⟩ := wN_some e1
    exact (q130x0 h S r0).symm.trans ee
  exact TabP.nil
theorem r130 : PSound Tryz.prog 130 F130 := fun_soundP (C := C0) ok0 (pf := pf32) pfok32 (fn := Tryz.f130) (body := B130) (kinds := [Kd.v]) (A := A130) (T := T130) (by kernel_rfl) (by kernel_rfl) (by kernel_rfl) (by kernel_rfl) (fun h S => t130 h S)
noncomputable def pf33 : PF := pfC 130 F130 pf32
theorem pfok33 : PfSound Tryz.prog pf33 := pfC_ok r130 pfok32
noncomputable def orc59 := orcP 130 F130 orc58
noncomputable def C59 : Cfg := cfg orc59
theorem ok59 : C59.Ok := orcP_ok (C := C58) ok58 r130
/-! cmp.Less[string] -/
noncomputable def B112 : Code := (Tryz.f112.body).getD .skip
noncomputable def A112 : G.Ann (List KI) := (G.Ann.node (some (0, [KI.reg 0 (Kd.v), KI.reg 1 (Kd.v)])) G.Ann.nil (G.Ann.node none G.Ann.nil G.Ann.nil))
noncomputable def P112x0 (h : Hp) (S : Nat → PAL → Option Value) (r0 : Value) (r1 : Value) : Option Value :=
  optK (F130 [r0] h) fun v0 =>
  boolK v0 fun b1 =>
  ifB b1
  (optK (F130 [r1] h) fun v2 =>
  boolK v2 fun b3 =>
  boolN b3 fun b4 =>
  ifB b4
  (some (Value.bool true))
  (optK (binV env .lss 9 (Operand.tmp 13) (Operand.tmp 14) r0 r1) fun v5 =>
  boolK v5 fun b6 =>
  some (Value.bool b6)))
  (optK (binV env .lss 9 (Operand.tmp 13) (Operand.tmp 14) r0 r1) fun v7 =>
  boolK v7 fun b8 =>
  some (Value.bool b8))
noncomputable def T112 (h : Hp) (S : Nat → PAL → Option Value) : Nat → PAL → Option Value := tabPC 0 (wV fun r0 => wV fun r1 => wN (P112x0 h S r0 r1)) (tabPN)
noncomputable def F112 (args : List Value) (h : Hp) : Option Value := plainO (packArgs [Kd.v, Kd.v] args fun al => G.rec' (T112 h) 1000000 0 al)
def nt112 : Nat := 2 + (17 - 2)
theorem q112x0 (h : Hp) (S : Nat → PAL → Option Value) (r0 : Value) (r1 : Value) : P112x0 h S r0 r1 = G.stepAt packP unpackP evXV (regP env pf33 nt112 h) (finP env Tryz.f112.results.toList) (G.collect B112 A112 []) 0 S (PAL.v r0 (PAL.v r1 PAL.n)) := by kernel_rfl
theorem t112 (h : Hp) (S : Nat → PAL → Option Value) : TabP (fun l al => G.stepAt packP unpackP evXV (regP env pf33 nt112 h) (finP env Tryz.f112.results.toList) (G.collect B112 A112 []) l S al) (T112 h S) := by
  unfold T112
  refine TabP.cons 0 (fun vs0 q e0 => ?_) ?_
  · obtain ⟨r0, vs1, rfl, e1⟩ := wV_some e0
    obtain ⟨r1, vs2, rfl, e2⟩ := wV_some e1
    obtain ⟨rfl, ee⟩ := wN_some e2
    exact (q112x0 h S r0 r1).symm.trans ee
  exact TabP.nil
theorem r112 : PSound Tryz.prog 112 F112 := fun_soundP (C := C0) ok0 (pf := pf33) pfok33 (fn := Tryz.f112) (body := B112) (kinds := [Kd.v, Kd.v]) (A := A112) (T := T112) (by kernel_rfl) (by kernel_rfl) (by kernel_rfl) (by kernel_rfl) (fun h S => t112 h S)
noncomputable def pf34 : PF := pfC 112 F112 pf33
theorem pfok34 : PfSound Tryz.prog pf34 := pfC_ok r112 pfok33
noncomputable def orc60 := orcP 112 F112 orc59
noncomputable def C60 : Cfg := cfg orc60
theorem ok60 : C60.Ok := orcP_ok (C := C59) ok59 r112
/-! slices.insertionSortOrdered[string] -/
noncomputable def B106 : Code := (Tryz.f106.body).getD .skip
def A106 : Ann := (Ann.node (some (0, [(0, Kd.v), (1, Kd.i .i64), (2, Kd.i .i64)])) Ann.nil (Ann.node none (Ann.node (some (1, [(0, Kd.v), (1, Kd.i .i64), (2, Kd.i .i64), (6, Kd.i .i64)])) (Ann.node none (Ann.node none Ann.nil (Ann.node none Ann.nil Ann.nil)) (Ann.node none (Ann.node none (Ann.node none Ann.nil (Ann.node none (Ann.node (some (2, [(0, Kd.v), (1, Kd.i .i64), (2, Kd.i .i64), (6, Kd.i .i64), (7, Kd.i .i64)])) (Ann.node none (Ann.node none Ann.nil (Ann.node none Ann.nil Ann.nil)) (Ann.node (some (3, [(0, Kd.v), (1, Kd.i .i64), (2, Kd.i .i64), (6, Kd.i .i64), (7, Kd.i .i64)])) (Ann.node none Ann.nil Ann.nil) Ann.nil)) Ann.nil) Ann.nil)) Ann.nil) (Ann.node (some (4, [(0, Kd.v), (1, Kd.i .i64), (2, Kd.i .i64), (6, Kd.i .i64)])) Ann.nil Ann.nil))) Ann.nil) Ann.nil))
noncomputable def P106x4 (S : Sg) (r0 : Value) (r1 : Int) (r2 : Int) (r6 : Int) (h : Hp) : CRes :=
  wrap64 (Int.add r6 (Int.ofNat 1)) fun i0 =>
  S 1 (AL.v r0 (AL.i r1 (AL.i r2 (AL.i i0 AL.n)))) h
noncomputable def P106x3 (S : Sg) (r0 : Value) (r1 : Int) (r2 : Int) (r6 : Int) (r7 : Int) (h : Hp) : CRes :=
  wrap64 (Int.sub r7 (Int.ofNat 1)) fun i0 =>
  wrap64 (Int.sub r7 (Int.ofNat 1)) fun i1 =>
  idxSK 1 r0 i1 fun v2 =>
  load1K h v2 fun v3 =>
  idxSK 1 r0 r7 fun v4 =>
  load1K h v4 fun v5 =>
  idxSK 1 r0 r7 fun v6 =>
  store1K h v6 v3 fun h7 =>
  idxSK 1 r0 i0 fun v8 =>
  store1K h7 v8 v5 fun h9 =>
  wrap64 (Int.sub r7 (Int.ofNat 1)) fun i10 =>
  S 2 (AL.v r0 (AL.i r1 (AL.i r2 (AL.i r6 (AL.i i10 AL.n))))) h9
noncomputable def P106x2 (S : Sg) (r0 : Value) (r1 : Int) (r2 : Int) (r6 : Int) (r7 : Int) (h : Hp) : CRes :=
  boolZ (ltZ r1 r7) fun b0 =>
  ifB b0
  (idxSK 1 r0 r7 fun v1 =>
  load1K h v1 fun v2 =>
  wrap64 (Int.sub r7 (Int.ofNat 1)) fun i3 =>
  idxSK 1 r0 i3 fun v4 =>
  load1K h v4 fun v5 =>
  pairK (optK (F112 [v2, v5] h) fun v => some (v, h)) fun v6 h6 =>
  boolK v6 fun b7 =>
  ifB b7
  (S 3 (AL.v r0 (AL.i r1 (AL.i r2 (AL.i r6 (AL.i r7 AL.n))))) h6)
  (S 4 (AL.v r0 (AL.i r1 (AL.i r2 (AL.i r6 AL.n)))) h6))
  (S 4 (AL.v r0 (AL.i r1 (AL.i r2 (AL.i r6 AL.n)))) h)
noncomputable def P106x1 (S : Sg) (r0 : Value) (r1 : Int) (r2 : Int) (r6 : Int) (h : Hp) : CRes :=
  boolZ (ltZ r6 r2) fun b0 =>
  ifB b0
  (S 2 (AL.v r0 (AL.i r1 (AL.i r2 (AL.i r6 (AL.i r6 AL.n))))) h)
  (some (Value.tuple (List.toArray []), h))
noncomputable def P106x0 (S : Sg) (r0 : Value) (r1 : Int) (r2 : Int) (h : Hp) : CRes :=
  wrap64 (Int.add r1 (Int.ofNat 1)) fun i0 =>
  S 1 (AL.v r0 (AL.i r1 (AL.i r2 (AL.i i0 AL.n)))) h
noncomputable def T106 (S : Sg) : Sg := tabC 0 (uV fun r0 => uI fun r1 => uI fun r2 => uN fun h => P106x0 S r0 r1 r2 h) (tabC 1 (uV fun r0 => uI fun r1 => uI fun r2 => uI fun r6 => uN fun h => P106x1 S r0 r1 r2 r6 h) (tabC 2 (uV fun r0 => uI fun r1 => uI fun r2 => uI fun r6 => uI fun r7 => uN fun h => P106x2 S r0 r1 r2 r6 r7 h) (tabC 3 (uV fun r0 => uI fun r1 => uI fun r2 => uI fun r6 => uI fun r7 => uN fun h => P106x3 S r0 r1 r2 r6 r7 h) (tabC 4 (uV fun r0 => uI fun r1 => uI fun r2 => uI fun r6 => uN fun h => P106x4 S r0 r1 r2 r6 h) (tabN)))))
noncomputable def F106 (args : List Value) (h : Hp) : CRes := packVals [Kd.v, Kd.i .i64, Kd.i .i64] args fun al => rec' T106 1000000 0 al h
def nt106 : Nat := 3 + (49 - 3)
theorem q106x4 (S : Sg) (r0 : Value) (r1 : Int) (r2 : Int) (r6 : Int) (h : Hp) : P106x4 S r0 r1 r2 r6 h = stepAt (regK env orc60 (nt106)) (finK env Tryz.f106.results.toList) (collect B106 A106 []) 4 S (AL.v r0 (AL.i r1 (AL.i r2 (AL.i r6 AL.n)))) h := by kernel_rfl
theorem q106x3 (S : Sg) (r0 : Value) (r1 : Int) (r2 : Int) (r6 : Int) (r7 : Int) (h : Hp) : P106x3 S r0 r1 r2 r6 r7 h = stepAt (regK env orc60 (nt106)) (finK env Tryz.f106.results.toList) (collect B106 A106 []) 3 S (AL.v r0 (AL.i r1 (AL.i r2 (AL.i r6 (AL.i r7 AL.n))))) h := by kernel_rfl
theorem q106x2 (S : Sg) (r0 : Value) (r1 : Int) (r2 : Int) (r6 : Int) (r7 : Int) (h : Hp) : P106x2 S r0 r1 r2 r6 r7 h = stepAt (regK env orc60 (nt106)) (finK env Tryz.f106.results.toList) (collect B106 A106 []) 2 S (AL.v r0 (AL.i r1 (AL.i r2 (AL.i r6 (AL.i r7 AL.n))))) h := by kernel_rfl
theorem q106x1 (S : Sg) (r0 : Value) (r1 : Int) (r2 : Int) (r6 : Int) (h : Hp) : P106x1 S r0 r1 r2 r6 h = stepAt (regK env orc60 (nt106)) (finK env Tryz.f106.results.toList) (collect B106 A106 []) 1 S (AL.v r0 (AL.i r1 (AL.i r2 (AL.i r6 AL.n)))) h := by kernel_rfl
theorem q106x0 (S : Sg) (r0 : Value) (r1 : Int) (r2 : Int) (h : Hp) : P106x0 S r0 r1 r2 h = stepAt (regK env orc60 (nt106)) (finK env Tryz.f106.results.toList) (collect B106 A106 []) 0 S (AL.v r0 (AL.i r1 (AL.i r2 AL.n))) h := by kernel_rfl
theorem t106 (S : Sg) : Tab (fun l vs h => stepAt (regK env orc60 nt106) (finK env Tryz.f106.results.toList) (collect B106 A106 []) l S vs h) (T106 S) := by
  unfold T106
  refine Tab.cons 0 (fun vs0 h q e0 => ?_) ?_
  · obtain ⟨r0, vs1, rfl, e1⟩ := uV_some e0
    obtain ⟨r1, vs2, rfl, e2⟩ := uI_some e1
    obtain ⟨r2, vs3, rfl, e3⟩ := uI_some e2
    obtain ⟨rfl, ee⟩ := uN_some e3
    exact (q106x0 S r0 r1 r2 h).symm.trans ee
  refine Tab.cons 1 (fun vs0 h q e0 => ?_) ?_
  · obtain ⟨r0, vs1, rfl, e1⟩ := uV_some e0
    obtain ⟨r1, vs2, rfl, e2⟩ := uI_some e1
    obtain ⟨r2, vs3, rfl, e3⟩ := uI_some e2
    obtain ⟨r6, vs4, rfl, e4⟩ := uI_some e3
    obtain ⟨rfl, ee⟩ := uN_some e4
    exact (q106x1 S r0 r1 r2 r6 h).symm.trans ee
  refine Tab.cons 2 (fun vs0 h q e0 => ?_) ?_
  · obtain ⟨r0, vs1, rfl, e1⟩ := uV_some e0
    obtain ⟨r1, vs2, rfl, e2⟩ := uI_some e1
    obtain ⟨r2, vs3, rfl, e3⟩ := uI_some e2
    obtain ⟨r6, vs4, rfl, e4⟩ := uI_some e3
    obtain ⟨r7, vs5, rfl, e5⟩ := uI_some e4
    obtain ⟨rfl, ee⟩ := uN_some e5
    exact (q106x2 S r0 r1 r2 r6 r7 h).symm.trans ee
  refine Tab.cons 3 (fun vs0 h q e0 => ?_) ?_
  · obtain ⟨r0, vs1, rfl, e1⟩ := uV_some e0
    obtain ⟨r1, vs2, rfl, e2⟩ := uI_some e1
    obtain ⟨r2, vs3, rfl, e3⟩ := uI_some e2
    obtain ⟨r6, vs4, rfl, e4⟩ := uI_some e3
    obtain ⟨r7, vs5, rfl, e5⟩ := uI_some e4
    obtain ⟨rfl, ee⟩ := uN_some e5
    exact (q106x3 S r0 r1 r2 r6 r7 h).symm.trans ee
  refine Tab.cons 4 (fun vs0 h q e0 => ?_) ?_
  · obtain ⟨r0, vs1, rfl, e1⟩ := uV_some e0
    obtain ⟨r1, vs2, rfl, e2⟩ := uI_some e1
    obtain ⟨r2, vs3, rfl, e3⟩ := uI_some e2
    obtain ⟨r6, vs4, rfl, e4⟩ := uI_some e3
    obtain ⟨rfl, ee⟩ := uN_some e4
    exact (q106x4 S r0 r1 r2 r6 h).symm.trans ee
  exact Tab.nil
theorem r106 : ∀ args h v h', F106 args h = some (v, h') → Runs (C60) (.call 106 args.toArray h) (.ret v h') := by
  intro args h v h' e
  exact fun_sound (C := C60) (fn := Tryz.f106) (body := B106) (np := 3) (A := A106) (T := T106) (kinds := [Kd.v, Kd.i .i64, Kd.i .i64]) (by kernel_rfl) (by kernel_rfl) (by kernel_rfl) (by kernel_rfl) (regK_ok env_ok) (by kernel_rfl) (fun S => t106 S) e
noncomputable def orc61 := orcD 106 F106 orc60
noncomputable def C61 : Cfg := cfg orc61
theorem ok61 : C61.Ok := orcD_ok (C := C60) ok60 r106
/-! slices.pdqsortOrdered[string] -/
noncomputable def B73 : Code := (Tryz.f73.body).getD .skip
def A73 : Ann := (Ann.node (some (0, [(0, Kd.v), (1, Kd.i .i64), (2, Kd.i .i64), (3, Kd.i .i64)])) Ann.nil (Ann.node none Ann.nil (Ann.node none (Ann.node (some (1, [(0, Kd.v), (1, Kd.i .i64), (2, Kd.i .i64), (3, Kd.i .i64), (8, Kd.b), (9, Kd.b)])) (Ann.node none (Ann.node none Ann.nil (Ann.node none (Ann.node none Ann.nil (Ann.node none (Ann.node none Ann.nil Ann.nil) Ann.nil)) (Ann.node none (Ann.node none Ann.nil (Ann.node none (Ann.node none Ann.nil Ann.nil) Ann.nil)) (Ann.node none (Ann.node none Ann.nil (Ann.node none (Ann.node none Ann.nil Ann.nil) Ann.nil)) (Ann.node (some (7, [(0, Kd.v), (1, Kd.i .i64), (2, Kd.i .i64), (3, Kd.i .i64), (8, Kd.b), (9, Kd.b), (10, Kd.i .i64)])) Ann.nil (Ann.node none (Ann.node none Ann.nil (Ann.node none (Ann.node none Ann.nil (Ann.node none Ann.nil Ann.nil)) Ann.nil)) (Ann.node (some (6, [(0, Kd.v), (1, Kd.i .i64), (2, Kd.i .i64), (3, Kd.i .i64), (8, Kd.b), (9, Kd.b), (10, Kd.i .i64), (11, Kd.i .i64), (12, Kd.i .i64)])) (Ann.node none Ann.nil (Ann.node (some (2, [(0, Kd.v), (1, Kd.i .i64), (2, Kd.i .i64), (3, Kd.i .i64), (8, Kd.b), (9, Kd.b), (10, Kd.i .i64), (11, Kd.i .i64), (68, Kd.b)])) (Ann.node none Ann.nil (Ann.node none Ann.nil Ann.nil)) Ann.nil)) (Ann.node (some (5, [(0, Kd.v), (1, Kd.i .i64), (2, Kd.i .i64), (3, Kd.i .i64), (8, Kd.b), (9, Kd.b), (10, Kd.i .i64), (11, Kd.i .i64)])) (Ann.node none Ann.nil (Ann.node (some (3, [(0, Kd.v), (1, Kd.i .i64), (2, Kd.i .i64), (3, Kd.i .i64), (8, Kd.b), (9, Kd.b), (10, Kd.i .i64), (11, Kd.i .i64), (87, Kd.b)])) (Ann.node none Ann.nil (Ann.node none Ann.nil Ann.nil)) Ann.nil)) (Ann.node (some (4, [(0, Kd.v), (1, Kd.i .i64), (2, Kd.i .i64), (3, Kd.i .i64), (10, Kd.i .i64), (11, Kd.i .i64)])) Ann.nil (Ann.node none Ann.nil (Ann.node none Ann.nil (Ann.node none Ann.nil (Ann.node none Ann.nil (Ann.node none (Ann.node none Ann.nil (Ann.node none Ann.nil Ann.nil)) (Ann.node none Ann.nil (Ann.node none Ann.nil Ann.nil)))))))))))))))) Ann.nil) Ann.nil) Ann.nil)))
noncomputable def P73x4 (S : Sg) (r0 : Value) (r1 : Int) (r2 : Int) (r3 : Int) (r10 : Int) (r11 : Int) (h : Hp) : CRes :=
  none
noncomputable def P73x3 (S : Sg) (r0 : Value) (r1 : Int) (r2 : Int) (r3 : Int) (r8 : Bool) (r9 : Bool) (r10 : Int) (r11 : Int) (r87 : Bool) (h : Hp) : CRes :=
  ifB r87
  (none)
  (S 4 (AL.v r0 (AL.i r1 (AL.i r2 (AL.i r3 (AL.i r10 (AL.i r11 AL.n)))))) h)
noncomputable def P73x5 (S : Sg) (r0 : Value) (r1 : Int) (r2 : Int) (r3 : Int) (r8 : Bool) (r9 : Bool) (r10 : Int) (r11 : Int) (h : Hp) : CRes :=
  boolZ (ltZ (Int.ofNat 0) r1) fun b0 =>
  ifB b0
  (wrap64 (Int.sub r1 (Int.ofNat 1)) fun i1 =>
  idxSK 1 r0 i1 fun v2 =>
  load1K h v2 fun v3 =>
  idxSK 1 r0 r11 fun v4 =>
  load1K h v4 fun v5 =>
  pairK (optK (F112 [v3, v5] h) fun v => some (v, h)) fun v6 h6 =>
  boolK v6 fun b7 =>
  boolN b7 fun b8 =>
  S 3 (AL.v r0 (AL.i r1 (AL.i r2 (AL.i r3 (AL.b r8 (AL.b r9 (AL.i r10 (AL.i r11 (AL.b b8 AL.n))))))))) h6)
  (S 3 (AL.v r0 (AL.i r1 (AL.i r2 (AL.i r3 (AL.b r8 (AL.b r9 (AL.i r10 (AL.i r11 (AL.b false AL.n))))))))) h)
noncomputable def P73x2 (S : Sg) (r0 : Value) (r1 : Int) (r2 : Int) (r3 : Int) (r8 : Bool) (r9 : Bool) (r10 : Int) (r11 : Int) (r68 : Bool) (h : Hp) : CRes :=
  ifB r68
  (none)
  (S 5 (AL.v r0 (AL.i r1 (AL.i r2 (AL.i r3 (AL.b r8 (AL.b r9 (AL.i r10 (AL.i r11 AL.n)))))))) h)
noncomputable def P73x6 (S : Sg) (r0 : Value) (r1 : Int) (r2 : Int) (r3 : Int) (r8 : Bool) (r9 : Bool) (r10 : Int) (r11 : Int) (r12 : Int) (h : Hp) : CRes :=
  ifB r8
  (ifB r9
  (boolZ (eqZ r12 (Int.ofNat 1)) fun b0 =>
  S 2 (AL.v r0 (AL.i r1 (AL.i r2 (AL.i r3 (AL.b r8 (AL.b r9 (AL.i r10 (AL.i r11 (AL.b b0 AL.n))))))))) h)
  (S 2 (AL.v r0 (AL.i r1 (AL.i r2 (AL.i r3 (AL.b r8 (AL.b r9 (AL.i r10 (AL.i r11 (AL.b false AL.n))))))))) h))
  (S 2 (AL.v r0 (AL.i r1 (AL.i r2 (AL.i r3 (AL.b r8 (AL.b r9 (AL.i r10 (AL.i r11 (AL.b false AL.n))))))))) h)
noncomputable def P73x7 (S : Sg) (r0 : Value) (r1 : Int) (r2 : Int) (r3 : Int) (r8 : Bool) (r9 : Bool) (r10 : Int) (h : Hp) : CRes :=
  none
noncomputable def P73x1 (S : Sg) (r0 : Value) (r1 : Int) (r2 : Int) (r3 : Int) (r8 : Bool) (r9 : Bool) (h : Hp) : CRes :=
  wrap64 (Int.sub r2 r1) fun i0 =>
  boolN (ltZ (Int.ofNat 12) i0) fun b1 =>
  ifB b1
  (pairK (F106 [r0, (Value.int .i64 r1), (Value.int .i64 r2)] h) fun v2 h2 =>
  some (Value.tuple (List.toArray []), h2))
  (boolZ (eqZ r3 (Int.ofNat 0)) fun b3 =>
  ifB b3
  (none)
  (boolN r8 fun b4 =>
  ifB b4
  (none)
  (S 7 (AL.v r0 (AL.i r1 (AL.i r2 (AL.i r3 (AL.b r8 (AL.b r9 (AL.i i0 AL.n))))))) h)))
noncomputable def P73x0 (S : Sg) (r0 : Value) (r1 : Int) (r2 : Int) (r3 : Int) (h : Hp) : CRes :=
  S 1 (AL.v r0 (AL.i r1 (AL.i r2 (AL.i r3 (AL.b true (AL.b true AL.n)))))) h
noncomputable def T73 (S : Sg) : Sg := tabC 0 (uV fun r0 => uI fun r1 => uI fun r2 => uI fun r3 => uN fun h => P73x0 S r0 r1 r2 r3 h) (tabC 1 (uV fun r0 => uI fun r1 => uI fun r2 => uI fun r3 => uB fun r8 => uB fun r9 => uN fun h => P73x1 S r0 r1 r2 r3 r8 r9 h) (tabC 7 (uV fun r0 => uI fun r1 => uI fun r2 => uI fun r3 => uB fun r8 => uB fun r9 => uI fun r10 => uN fun h => P73x7 S r0 r1 r2 r3 r8 r9 r10 h) (tabC 6 (uV fun r0 => uI fun r1 => uI fun r2 => uI fun r3 => uB fun r8 => uB fun r9 => uI fun r10 => uI fun r11 => uI fun r12 => uN fun h => P73x6 S r0 r1 r2 r3 r8 r9 r10 r11 r12 h) (tabC 2 (uV fun r0 => uI fun r1 => uI fun r2 => uI fun r3 => uB fun r8 => uB fun r9 => uI fun r10 => uI fun r11 => uB fun r68 => uN fun h => P73x2 S r0 r1 r2 r3 r8 r9 r10 r11 r68 h) (tabC 5 (uV fun r0 => uI fun r1 => uI fun r2 => uI fun r3 => uB fun r8 => uB fun r9 => uI fun r10 => uI fun r11 => uN fun h => P73x5 S r0 r1 r2 r3 r8 r9 r10 r11 h) (tabC 3 (uV fun r0 => uI fun r1 => uI fun r2 => uI fun r3 => uB fun r8 => uB fun r9 => uI fun r10 => uI fun r11 => uB fun r87 => uN fun h => P73x3 S r0 r1 r2 r3 r8 r9 r10 r11 r87 h) (tabC 4 (uV fun r0 => uI fun r1 => uI fun r2 => uI fun r3 => uI fun r10 => uI fun r11 => uN fun h => P73x4 S r0 r1 r2 r3 r10 r11 h) (tabN))))))))
noncomputable def F73 (args : List Value) (h : Hp) : CRes := packVals [Kd.v, Kd.i .i64, Kd.i .i64, Kd.i .i64] args fun al => rec' T73 1000000 0 al h
def nt73 : Nat := 4 + (134 - 4)
theorem q73x4 (S : Sg) (r0 : Value) (r1 : Int) (r2 : Int) (r3 : Int) (r10 : Int) (r11 : Int) (h : Hp) : P73x4 S r0 r1 r2 r3 r10 r11 h = stepAt (regK env orc61 (nt73)) (finK env Tryz.f73.results.toList) (collect B73 A73 []) 4 S (AL.v r0 (AL.i r1 (AL.i r2 (AL.i r3 (AL.i r10 (AL.i r11 AL.n)))))) h := by kernel_rfl
theorem q73x3 (S : Sg) (r0 : Value) (r1 : Int) (r2 : Int) (r3 : Int) (r8 : Bool) (r9 : Bool) (r10 : Int) (r11 : Int) (r87 : Bool) (h : Hp) : P73x3 S r0 r1 r2 r3 r8 r9 r10 r11 r87 h = stepAt (regK env orc61 (nt73)) (finK env Tryz.f73.results.toList) (collect B73 A73 []) 3 S (AL.v r0 (AL.i r1 (AL.i r2 (AL.i r3 (AL.b r8 (AL.b r9 (AL.i r10 (AL.i r11 (AL.b r87 AL.n))))))))) h := by kernel_rfl
theorem q73x5 (S : Sg) (r0 : Value) (r1 : Int) (r2 : Int) (r3 : Int) (r8 : Bool) (r9 : Bool) (r10 : Int) (r11 : Int) (h : Hp) : P73x5 S r0 r1 r2 r3 r8 r9 r10 r11 h = stepAt (regK env orc61 (nt73)) (finK env Tryz.f73.results.toList) (collect B73 A73 []) 5 S (AL.v r0 (AL.i r1 (AL.i r2 (AL.i r3 (AL.b r8 (AL.b r9 (AL.i r10 (AL.i r11 AL.n)))))))) h := by kernel_rfl
theorem q73x2 (S : Sg) (r0 : Value) (r1 : Int) (r2 : Int) (r3 : Int) (r8 : Bool) (r9 : Bool) (r10 : Int) (r11 : Int) (r68 : Bool) (h : Hp) : P73x2 S r0 r1 r2 r3 r8 r9 r10 r11 r68 h = stepAt (regK env orc61 (nt73)) (finK env Tryz.f73.results.toList) (collect B73 A73 []) 2 S (AL.v r0 (AL.i r1 (AL.i r2 (AL.i r3 (AL.b r8 (AL.b r9 (AL.i r10 (AL.i r11 (AL.b r68 AL.n))))))))) h := by kernel_rfl
theorem q73x6 (S : Sg) (r0 : Value) (r1 : Int) (r2 : Int) (r3 : Int) (r8 : Bool) (r9 : Bool) (r10 : Int) (r11 : Int) (r12 : Int) (h : Hp) : P73x6 S r0 r1 r2 r3 r8 r9 r10 r11 r12 h = stepAt (regK env orc61 (nt73)) (finK env Tryz.f73.results.toList) (collect B73 A73 []) 6 S (AL.v r0 (AL.i r1 (AL.i r2 (AL.i r3 (AL.b r8 (AL.b r9 (AL.i r10 (AL.i r11 (AL.i r12 AL.n))))))))) h := by kernel_rfl
theorem q73x7 (S : Sg) (r0 : Value) (r1 : Int) (r2 : Int) (r3 : Int) (r8 : Bool) (r9 : Bool) (r10 : Int) (h : Hp) : P73x7 S r0 r1 r2 r3 r8 r9 r10 h = stepAt (regK env orc61 (nt73)) (finK env Tryz.f73.results.toList) (collect B73 A73 []) 7 S (AL.v r0 (AL.i r1 (AL.i r2 (AL.i r3 (AL.b r8 (AL.b r9 (AL.i r10 AL.n))))))) h := by kernel_rfl
theorem q73x1 (S : Sg) (r0 : Value) (r1 : Int) (r2 : Int) (r3 : Int) (r8 : Bool) (r9 : Bool) (h : Hp) : P73x1 S r0 r1 r2 r3 r8 r9 h = stepAt (regK env orc61 (nt73)) (finK env Tryz.f73.results.toList) (collect B73 A73 []) 1 S (AL.v r0 (AL.i r1 (AL.i r2 (AL.i r3 (AL.b r8 (AL.b r9 AL.n)))))) h := by kernel_rfl
theorem q73x0 (S : Sg) (r0 : Value) (r1 : Int) (r2 : Int) (r3 : Int) (h : Hp) : P73x0 S r0 r1 r2 r3 h = stepAt (regK env orc61 (nt73)) (finK env Tryz.f73.results.toList) (collect B73 A73 []) 0 S (AL.v r0 (AL.i r1 (AL.i r2 (AL.i r3 AL.n)))) h := by kernel_rfl
theorem t73 (S : Sg) : Tab (fun l vs h => stepAt (regK env orc61 nt73) (finK env Tryz.f73.results.toList) (collect B73 A73 []) l S vs h) (T73 S) := by
  unfold T73
  refine Tab.cons 0 (fun vs0 h q e0 => ?_) ?_
  · obtain ⟨r0, vs1, rfl, e1⟩ := uV_some e0
    obtain ⟨r1, vs2, rfl, e2⟩ := uI_some e1
    obtain ⟨r2, vs3, rfl, e3⟩ := uI_some e2
    obtain ⟨r3, vs4, rfl, e4⟩ := uI_some e3
    obtain ⟨rfl, ee⟩ := uN_some e4
    exact (q73x0 S r0 r1 r2 r3 h).symm.trans ee
  refine Tab.cons 1 (fun vs0 h q e0 => ?_) ?_
  · obtain ⟨r0, vs1, rfl, e1⟩ := uV_some e0
    obtain ⟨r1, vs2, rfl, e2⟩ := uI_some e1
    obtain ⟨r2, vs3, rfl, e3⟩ := uI_some e2
    obtain ⟨r3, vs4, rfl, e4⟩ := uI_some e3
    obtain ⟨r8, vs5, rfl, e5⟩ := uB_some e4
    obtain ⟨r9, vs6, rfl, e6⟩ := uB_some e5
    obtain ⟨rfl, ee⟩ := uN_some e6
    exact (q73x1 S r0 r1 r2 r3 r8 r9 h).symm.trans ee
  refine Tab.cons 7 (fun vs0 h q e0 => ?_) ?_
  · obtain ⟨r0, vs1, rfl, e1⟩ := uV_some e0
    obtain ⟨r1, vs2, rfl, e2⟩ := uI_some e1
    obtain ⟨r2, vs3, rfl, e3⟩ := uI_some e2
    obtain ⟨r3, vs4, rfl, e4⟩ := uI_some e3
    obtain ⟨r8, vs5, rfl, e5⟩ := uB_some e4
    obtain ⟨r9, vs6, rfl, e6⟩ := uB_some e5
    obtain ⟨r10, vs7, rfl, e7⟩ := uI_some e6
    obtain ⟨rfl, ee⟩ := uN_some e7
    exact (q73x7 S r0 r1 r2 r3 r8 r9 r10 h).symm.trans ee
  refine Tab.cons 6 (fun vs0 h q e0 => ?_) ?_
  · obtain ⟨r0, vs1, rfl, e1⟩ := uV_some e0
    obtain ⟨r1, vs2, rfl, e2⟩ := uI_some e1
    obtain ⟨r2, vs3, rfl, e3⟩ := uI_some e2
    obtain ⟨r3, vs4, rfl, e4⟩ := uI_some e3
    obtain ⟨r8, vs5, rfl, e5⟩ := uB_some e4
    obtain ⟨r9, vs6, rfl, e6⟩ := uB_some e5
    obtain ⟨r10, vs7, rfl, e7⟩ := uI_some e6
    obtain ⟨r11, vs8, rfl, e8⟩ := uI_some e7
    obtain ⟨r12, vs9, rfl, e9⟩ := uI_some e8
    obtain ⟨rfl, ee⟩ := uN_some e9
    exact (q73x6 S r0 r1 r2 r3 r8 r9 r10 r11 r12 h).symm.trans ee
  refine Tab.cons 2 (fun vs0 h q e0 => ?_) ?_
  · obtain ⟨r0, vs1, rfl, e1⟩ := uV_some e0
    obtain ⟨r1, vs2, rfl, e2⟩ := uI_some e1
    obtain ⟨r2, vs3, rfl, e3⟩ := uI_some e2
    obtain ⟨r3, vs4, rfl, e4⟩ := uI_some e3
    obtain ⟨r8, vs5, rfl, e5⟩ := uB_some e4
    obtain ⟨r9, vs6, rfl, e6⟩ := uB_some e5
    obtain ⟨r10, vs7, rfl, e7⟩ := uI_some e6
    obtain ⟨r11, vs8, rfl, e8⟩ := uI_some e7
    obtain ⟨r68, vs9, rfl, e9⟩ := uB_some e8
    obtain ⟨rfl, ee⟩ := uN_some e9
    exact (q73x2 S r0 r1 r2 r3 r8 r9 r10 r11 r68 h).symm.trans ee
  refine Tab.cons 5 (fun vs0 h q e0 => ?_) ?_
  · obtain ⟨r0, vs1, rfl, e1⟩ := uV_some e0
    obtain ⟨r1, vs2, rfl, e2⟩ := uI_some e1
    obtain ⟨r2, vs3, rfl, e3⟩ := uI_some e2
    obtain ⟨r3, vs4, rfl, e4⟩ := uI_some e3
    obtain ⟨r8, vs5, rfl, e5⟩ := uB_some e4
    obtain ⟨r9, vs6, rfl, e6⟩ := uB_some e5
    obtain ⟨r10, vs7, rfl, e7⟩ := uI_some e6
    obtain ⟨r11, vs8, rfl, e8⟩ := uI_some e7
    obtain ⟨rfl, ee⟩ := uN_some e8
    exact (q73x5 S r0 r1 r2 r3 r8 r9 r10 r11 h).symm.trans ee
  refine Tab.cons 3 (fun vs0 h q e0 => ?_) ?_
  · obtain ⟨r0, vs1, rfl, e1⟩ := uV_some e0
    obtain ⟨r1, vs2, rfl, e2⟩ := uI_some e1
    obtain ⟨r2, vs3, rfl, e3⟩ := uI_some e2
    obtain ⟨r3, vs4, rfl, e4⟩ := uI_some e3
    obtain ⟨r8, vs5, rfl, e5⟩ := uB_some e4
    obtain ⟨r9, vs6, rfl, e6⟩ := uB_some e5
    obtain ⟨r10, vs7, rfl, e7⟩ := uI_some e6
    obtain ⟨r11, vs8, rfl, e8⟩ := uI_some e7
    obtain ⟨r87, vs9, rfl, e9⟩ := uB_some e8
    obtain ⟨rfl, ee⟩ := uN_some e9
    exact (q73x3 S r0 r1 r2 r3 r8 r9 r10 r11 r87 h).symm.trans ee
  refine Tab.cons 4 (fun vs0 h q e0 => ?_) ?_
  · obtain ⟨r0, vs1, rfl, e1⟩ := uV_some e0
    obtain ⟨r1, vs2, rfl, e2⟩ := uI_some e1
    obtain ⟨r2, vs3, rfl, e3⟩ := uI_some e2
    obtain ⟨r3, vs4, rfl, e4⟩ := uI_some e3
    obtain ⟨r10, vs5, rfl, e5⟩ := uI_some e4
    obtain ⟨r11, vs6, rfl, e6⟩ := uI_some e5
    obtain ⟨rfl, ee⟩ := uN_some e6
    exact (q73x4 S r0 r1 r2 r3 r10 r11 h).symm.trans ee
  exact Tab.nil
theorem r73 : ∀ args h v h', F73 args h = some (v, h') → Runs (C61) (.call 73 args.toArray h) (.ret v h') := by
  intro args h v h' e
  exact fun_sound (C := C61) (fn := Tryz.f73) (body := B73) (np := 4) (A := A73) (T := T73) (kinds := [Kd.v, Kd.i .i64, Kd.i .i64, Kd.i .i64]) (by kernel_rfl) (by kernel_rfl) (by kernel_rfl) (by kernel_rfl) (regK_ok env_ok) (by kernel_rfl) (fun S => t73 S) e
noncomputable def orc62 := orcD 73 F73 orc61
noncomputable def C62 : Cfg := cfg orc62
theorem ok62 : C62.Ok := orcD_ok (C := C61) ok61 r73
/-! slices.Sort[[]string,string] -/
noncomputable def B47 : Code := (Tryz.f47.body).getD .skip
def A47 : Ann := (Ann.node (some (0, [(0, Kd.v)])) Ann.nil Ann.nil)
noncomputable def P47x0 (S : Sg) (r0 : Value) (h : Hp) : CRes :=
  lenSK r0 fun i0 =>
  forceI (wrapF .u64 i0) fun i1 =>
  pairK (optK (F68 [(Value.int .u64 i1)] h) fun v => some (v, h)) fun v2 h2 =>
  intK .i64 v2 fun i3 =>
  pairK (F73 [r0, (Value.int .i64 (Int.ofNat 0)), (Value.int .i64 i0), (Value.int .i64 i3)] h2) fun v4 h4 =>
  some (Value.tuple (List.toArray []), h4)
noncomputable def T47 (S : Sg) : Sg := tabC 0 (uV fun r0 => uN fun h => P47x0 S r0 h) (tabN)
noncomputable def F47 (args : List Value) (h : Hp) : CRes := packVals [Kd.v] args fun al => rec' T47 1000000 0 al h
def nt47 : Nat := 1 + (11 - 1)
theorem q47x0 (S : Sg) (r0 : Value) (h : Hp) : P47x0 S r0 h = stepAt (regK env orc62 (nt47)) (finK env Tryz.f47.results.toList) (collect B47 A47 []) 0 S (AL.v r0 AL.n) h := by kernel_rfl
theorem t47 (S : Sg) : Tab (fun l vs h => stepAt (regK env orc62 nt47) (finK env Tryz.f47.results.toList) (collect B47 A47 []) l S vs h) (T47 S) := by
  unfold T47
  refine Tab.cons 0 (fun vs0 h q e0 => ?_) ?_
  · obtain ⟨r0, vs1, rfl, e1⟩ := uV_some e0
    obtain ⟨rfl, ee⟩ := uN_some e1
    exact (q47x0 S r0 h).symm.trans ee
  exact Tab.nil
theorem r47 : ∀ args h v h', F47 args h = some (v, h') → Runs (C62) (.call 47 args.toArray h) (.ret v h') := by
  intro args h v h' e
  exact fun_sound (C := C62) (fn := Tryz.f47) (body := B47) (np := 1) (A := A47) (T := T47) (kinds := [Kd.v]) (by kernel_rfl) (by kernel_rfl) (by kernel_rfl) (by kernel_rfl) (regK_ok env_ok) (by kernel_rfl) (fun S => t47 S) e
noncomputable def orc63 := orcD 47 F47 orc62
noncomputable def C63 : Cfg := cfg orc63
theorem ok63 : C63.Ok := orcD_ok (C := C62) ok62 r47
/-! slices.IndexFunc[[]string,string] -/
noncomputable def B50 : Code := (Tryz.f50.body).getD .skip
def A50 : Ann := (Ann.node (some (0, [(0, Kd.v), (1, Kd.v)])) Ann.nil (Ann.node none (Ann.node none Ann.nil (Ann.node none (Ann.node (some (1, [(0, Kd.v), (1, Kd.v), (7, Kd.i .i64), (8, Kd.i .i64)])) (Ann.node none Ann.nil (Ann.node none (Ann.node none Ann.nil Ann.nil) (Ann.node none (Ann.node none (Ann.node none Ann.nil (Ann.node none Ann.nil (Ann.node none (Ann.node none Ann.nil Ann.nil) Ann.nil))) Ann.nil) Ann.nil))) Ann.nil) Ann.nil)) (Ann.node (some (2, [])) Ann.nil Ann.nil)))
noncomputable def P50x2 (S : Sg) (h : Hp) : CRes :=
  some ((Value.int .i64 (Int.negSucc 0)), h)
noncomputable def P50x1 (S : Sg) (r0 : Value) (r1 : Value) (r7 : Int) (r8 : Int) (h : Hp) : CRes :=
  boolZ (ltZ r8 r7) fun b0 =>
  ifB b0
  (idxSK 1 r0 r8 fun v1 =>
  load1K h v1 fun v2 =>
  pairK (callF orc63 r1 [v2] h) fun v3 h3 =>
  boolK v3 fun b4 =>
  ifB b4
  (some ((Value.int .i64 r8), h3))
  (wrap64 (Int.add r8 (Int.ofNat 1)) fun i5 =>
  S 1 (AL.v r0 (AL.v r1 (AL.i r7 (AL.i i5 AL.n)))) h3))
  (S 2 AL.n h)
noncomputable def P50x0 (S : Sg) (r0 : Value) (r1 : Value) (h : Hp) : CRes :=
  lenSK r0 fun i0 =>
  S 1 (AL.v r0 (AL.v r1 (AL.i i0 (AL.i (Int.ofNat 0) AL.n)))) h
noncomputable def T50 (S : Sg) : Sg := tabC 0 (uV fun r0 => uV fun r1 => uN fun h => P50x0 S r0 r1 h) (tabC 1 (uV fun r0 => uV fun r1 => uI fun r7 => uI fun r8 => uN fun h => P50x1 S r0 r1 r7 r8 h) (tabC 2 (uN fun h => P50x2 S  h) (tabN)))
noncomputable def F50 (args : List Value) (h : Hp) : CRes := packVals [Kd.v, Kd.v] args fun al => rec' T50 1000000 0 al h
def nt50 : Nat := 2 + (19 - 2)
theorem q50x2 (S : Sg) (h : Hp) : P50x2 S  h = stepAt (regK env orc63 (nt50)) (finK env Tryz.f50.results.toList) (collect B50 A50 []) 2 S AL.n h := by kernel_rfl
theorem q50x1 (S : Sg) (r0 : Value) (r1 : Value) (r7 : Int) (r8 : Int) (h : Hp) : P50x1 S r0 r1 r7 r8 h = stepAt (regK env orc63 (nt50)) (finK env Tryz.f50.results.toList) (collect B50 A50 []) 1 S (AL.v r0 (AL.v r1 (AL.i r7 (AL.i r8 AL.n)))) h := by kernel_rfl
theorem q50x0 (S : Sg) (r0 : Value) (r1 : Value) (h : Hp) : P50x0 S r0 r1 h = stepAt (regK env orc63 (nt50)) (finK env Tryz.f50.results.toList) (collect B50 A50 []) 0 S (AL.v r0 (AL.v r1 AL.n)) h := by kernel_rfl
theorem t50 (S : Sg) : Tab (fun l vs h => stepAt (regK env orc63 nt50) (finK env Tryz.f50.results.toList) (collect B50 A50 []) l S vs h) (T50 S) := by
  unfold T50
  refine Tab.cons 0 (fun vs0 h q e0 => ?_) ?_
  · obtain ⟨r0, vs1, rfl, e1⟩ := uV_some e0
    obtain ⟨r1, vs2, rfl, e2⟩ := uV_some e1
    obtain ⟨rfl, ee⟩ := uN_some e2
    exact (q50x0 S r0 r1 h).symm.trans ee
  refine Tab.cons 1 (fun vs0 h q e0 => ?_) ?_
  · obtain ⟨r0, vs1, rfl, e1⟩ := uV_some e0
    obtain ⟨r1, vs2, rfl, e2⟩ := uV_some e1
    obtain ⟨r7, vs3, rfl, e3⟩ := uI_some e2
    obtain ⟨r8, vs4, rfl, e4⟩ := uI_some e3
    obtain ⟨rfl, ee⟩ := uN_some e4
    exact (q50x1 S r0 r1 r7 r8 h).symm.trans ee
  refine Tab.cons 2 (fun vs0 h q e0 => ?_) ?_
  · 
    obtain ⟨rfl, ee⟩ := uN_some e0
    exact (q50x2 S  h).symm.trans ee
  exact Tab.nil
theorem r50 : ∀ args h v h', F50 args h = some (v, h') → Runs (C63) (.call 50 args.toArray h) (.ret v h') := by
  intro args h v h' e
  exact fun_sound (C := C63) (fn := Tryz.f50) (body := B50) (np := 2) (A := A50) (T := T50) (kinds := [Kd.v, Kd.v]) (by kernel_rfl) (by kernel_rfl) (by kernel_rfl) (by kernel_rfl) (regK_ok env_ok) (by kernel_rfl) (fun S => t50 S) e
noncomputable def orc64 := orcQ 50 F50 orc63
noncomputable def C64 : Cfg := cfg orc64
theorem ok64 : C64.Ok := orcQ_ok (C := C63) ok63 r50
/-! (ceroplast/head.look).stretches -/
noncomputable def B83 : Code := (Tryz.f83.body).getD .skip
def A83 : Ann := (Ann.node (some (0, [(0, Kd.v), (1, Kd.v)])) Ann.nil (Ann.node none Ann.nil Ann.nil))
noncomputable def P83x0 (S : Sg) (r0 : Value) (r1 : Value) (h : Hp) : CRes :=
  allocK h 54 (Array.toList (Value.cells r0)) fun a0 h0 =>
  allocK h0 81 (Array.toList (Value.cells r1)) fun a1 h1 =>
  some ((Value.func (.func 116) (List.toArray []) (List.toArray [a1, a0])), h1)
noncomputable def T83 (S : Sg) : Sg := tabC 0 (uV fun r0 => uV fun r1 => uN fun h => P83x0 S r0 r1 h) (tabN)
noncomputable def F83 (args : List Value) (h : Hp) : CRes := packVals [Kd.v, Kd.v] args fun al => rec' T83 1000000 0 al h
def nt83 : Nat := 2 + (6 - 2)
theorem q83x0 (S : Sg) (r0 : Value) (r1 : Value) (h : Hp) : P83x0 S r0 r1 h = stepAt (regK env orc64 (nt83)) (finK env Tryz.f83.results.toList) (collect B83 A83 []) 0 S (AL.v r0 (AL.v r1 AL.n)) h := by kernel_rfl
theorem t83 (S : Sg) : Tab (fun l vs h => stepAt (regK env orc64 nt83) (finK env Tryz.f83.results.toList) (collect B83 A83 []) l S vs h) (T83 S) := by
  unfold T83
  refine Tab.cons 0 (fun vs0 h q e0 => ?_) ?_
  · obtain ⟨r0, vs1, rfl, e1⟩ := uV_some e0
    obtain ⟨r1, vs2, rfl, e2⟩ := uV_some e1
    obtain ⟨rfl, ee⟩ := uN_some e2
    exact (q83x0 S r0 r1 h).symm.trans ee
  exact Tab.nil
theorem r83 : ∀ args h v h', F83 args h = some (v, h') → Runs (C64) (.call 83 args.toArray h) (.ret v h') := by
  intro args h v h' e
  exact fun_sound (C := C64) (fn := Tryz.f83) (body := B83) (np := 2) (A := A83) (T := T83) (kinds := [Kd.v, Kd.v]) (by kernel_rfl) (by kernel_rfl) (by kernel_rfl) (by kernel_rfl) (regK_ok env_ok) (by kernel_rfl) (fun S => t83 S) e
noncomputable def orc65 := orcQ 83 F83 orc64
noncomputable def C65 : Cfg := cfg orc65
theorem ok65 : C65.Ok := orcQ_ok (C := C64) ok64 r83
/-! (ceroplast/head.look).everShown -/
noncomputable def B55 : Code := (Tryz.f55.body).getD .skip
def A55 : Ann := (Ann.node (some (0, [(0, Kd.v), (1, Kd.v), (2, Kd.i .i64)])) Ann.nil (Ann.node none Ann.nil Ann.nil))
noncomputable def P55x0 (S : Sg) (r0 : Value) (r1 : Value) (r2 : Int) (h : Hp) : CRes :=
  allocK h 54 (Array.toList (Value.cells r0)) fun a0 h0 =>
  allocK h0 81 (Array.toList (Value.cells r1)) fun a1 h1 =>
  allocK h1 3 [(Value.int .i64 r2)] fun a2 h2 =>
  some ((Value.func (.func 82) (List.toArray []) (List.toArray [a0, a1, a2])), h2)
noncomputable def T55 (S : Sg) : Sg := tabC 0 (uV fun r0 => uV fun r1 => uI fun r2 => uN fun h => P55x0 S r0 r1 r2 h) (tabN)
noncomputable def F55 (args : List Value) (h : Hp) : CRes := packVals [Kd.v, Kd.v, Kd.i .i64] args fun al => rec' T55 1000000 0 al h
def nt55 : Nat := 3 + (8 - 3)
theorem q55x0 (S : Sg) (r0 : Value) (r1 : Value) (r2 : Int) (h : Hp) : P55x0 S r0 r1 r2 h = stepAt (regK env orc65 (nt55)) (finK env Tryz.f55.results.toList) (collect B55 A55 []) 0 S (AL.v r0 (AL.v r1 (AL.i r2 AL.n))) h := by kernel_rfl
theorem t55 (S : Sg) : Tab (fun l vs h => stepAt (regK env orc65 nt55) (finK env Tryz.f55.results.toList) (collect B55 A55 []) l S vs h) (T55 S) := by
  unfold T55
  refine Tab.cons 0 (fun vs0 h q e0 => ?_) ?_
  · obtain ⟨r0, vs1, rfl, e1⟩ := uV_some e0
    obtain ⟨r1, vs2, rfl, e2⟩ := uV_some e1
    obtain ⟨r2, vs3, rfl, e3⟩ := uI_some e2
    obtain ⟨rfl, ee⟩ := uN_some e3
    exact (q55x0 S r0 r1 r2 h).symm.trans ee
  exact Tab.nil
theorem r55 : ∀ args h v h', F55 args h = some (v, h') → Runs (C65) (.call 55 args.toArray h) (.ret v h') := by
  intro args h v h' e
  exact fun_sound (C := C65) (fn := Tryz.f55) (body := B55) (np := 3) (A := A55) (T := T55) (kinds := [Kd.v, Kd.v, Kd.i .i64]) (by kernel_rfl) (by kernel_rfl) (by kernel_rfl) (by kernel_rfl) (regK_ok env_ok) (by kernel_rfl) (fun S => t55 S) e
noncomputable def orc66 := orcQ 55 F55 orc65
noncomputable def C66 : Cfg := cfg orc66
theorem ok66 : C66.Ok := orcQ_ok (C := C65) ok65 r55
/-! maps.Keys[map[string]int,string,int] -/
noncomputable def B31 : Code := (Tryz.f31.body).getD .skip
def A31 : Ann := (Ann.node (some (0, [(0, Kd.v)])) Ann.nil (Ann.node none Ann.nil Ann.nil))
noncomputable def P31x0 (S : Sg) (r0 : Value) (h : Hp) : CRes :=
  allocK h 72 (Array.toList (Value.cells r0)) fun a0 h0 =>
  some ((Value.func (.func 58) (List.toArray []) (List.toArray [a0])), h0)
noncomputable def T31 (S : Sg) : Sg := tabC 0 (uV fun r0 => uN fun h => P31x0 S r0 h) (tabN)
noncomputable def F31 (args : List Value) (h : Hp) : CRes := packVals [Kd.v] args fun al => rec' T31 1000000 0 al h
def nt31 : Nat := 1 + (4 - 1)
theorem q31x0 (S : Sg) (r0 : Value) (h : Hp) : P31x0 S r0 h = stepAt (regK env orc66 (nt31)) (finK env Tryz.f31.results.toList) (collect B31 A31 []) 0 S (AL.v r0 AL.n) h := by kernel_rfl
theorem t31 (S : Sg) : Tab (fun l vs h => stepAt (regK env orc66 nt31) (finK env Tryz.f31.results.toList) (collect B31 A31 []) l S vs h) (T31 S) := by
  unfold T31
  refine Tab.cons 0 (fun vs0 h q e0 => ?_) ?_
  · obtain ⟨r0, vs1, rfl, e1⟩ := uV_some e0
    obtain ⟨rfl, ee⟩ := uN_some e1
    exact (q31x0 S r0 h).symm.trans ee
  exact Tab.nil
theorem r31 : ∀ args h v h', F31 args h = some (v, h') → Runs (C66) (.call 31 args.toArray h) (.ret v h') := by
  intro args h v h' e
  exact fun_sound (C := C66) (fn := Tryz.f31) (body := B31) (np := 1) (A := A31) (T := T31) (kinds := [Kd.v]) (by kernel_rfl) (by kernel_rfl) (by kernel_rfl) (by kernel_rfl) (regK_ok env_ok) (by kernel_rfl) (fun S => t31 S) e
noncomputable def orc67 := orcQ 31 F31 orc66
noncomputable def C67 : Cfg := cfg orc67
theorem ok67 : C67.Ok := orcQ_ok (C := C66) ok66 r31
/-! ceroplast/head.without -/
noncomputable def B35 : Code := (Tryz.f35.body).getD .skip
def A35 : Ann := (Ann.node (some (0, [(0, Kd.v), (1, Kd.i .i64)])) Ann.nil (Ann.node none Ann.nil (Ann.node none (Ann.node none Ann.nil (Ann.node none (Ann.node (some (1, [(1, Kd.i .i64), (2, Kd.v), (4, Kd.v), (5, Kd.v), (9, Kd.v), (10, Kd.i .i64), (11, Kd.i .i64)])) (Ann.node none Ann.nil (Ann.node none (Ann.node none Ann.nil Ann.nil) (Ann.node none (Ann.node none (Ann.node none Ann.nil (Ann.node none Ann.nil (Ann.node none Ann.nil Ann.nil))) Ann.nil) Ann.nil))) Ann.nil) Ann.nil)) (Ann.node (some (2, [(2, Kd.v), (4, Kd.v), (5, Kd.v)])) Ann.nil (Ann.node none Ann.nil Ann.nil)))))
noncomputable def P35x2 (S : Sg) (r2 : Value) (r4 : Value) (r5 : Value) (h : Hp) : CRes :=
  ptrAddK 2 r2 fun v0 =>
  store1K h v0 r5 fun h1 =>
  loadNK 3 h1 r2 fun v2 =>
  pairK (callQ F46 [v2] h1) fun v3 h3 =>
  storeNK 4 h3 r4 v3 fun h4 =>
  loadNK 4 h4 r4 fun v5 => some (v5, h4)
noncomputable def P35x1 (S : Sg) (r1 : Int) (r2 : Value) (r4 : Value) (r5 : Value) (r9 : Value) (r10 : Int) (r11 : Int) (h : Hp) : CRes :=
  boolZ (ltZ r11 r10) fun b0 =>
  ifB b0
  (idxSK 7 r9 r11 fun v1 =>
  loadNK 7 h v1 fun v2 =>
  allocK h 50 [(Value.int .i64 (Int.ofNat 0)), (Value.int .i64 (Int.ofNat 0)), (Value.int .i64 (Int.ofNat 0)), (Value.int .i64 (Int.ofNat 0)), (Value.int .i64 (Int.ofNat 0)), (Value.int .i64 (Int.ofNat 0)), (Value.int .i64 (Int.ofNat 0))] fun a3 h3 =>
  storeNK 7 h3 a3 v2 fun h4 =>
  pairK (optK (F67 [(Value.int .i64 r1), (Value.int .i64 r11)] h4) fun v => some (v, h4)) fun v5 h5 =>
  boolK v5 fun b6 =>
  boolN b6 fun b7 =>
  ifB b7
  (loadNK 7 h5 a3 fun v8 =>
  pairK (buildSliceV env h5 24 1 (List.toArray [(0, v8)])) fun v9 h9 =>
  pairK (appendV env h9 #[24, 24] (List.toArray [r5, v9])) fun v10 h10 =>
  wrap64 (Int.add r11 (Int.ofNat 1)) fun i11 =>
  S 1 (AL.i r1 (AL.v r2 (AL.v r4 (AL.v v10 (AL.v r9 (AL.i r10 (AL.i i11 AL.n))))))) h10)
  (wrap64 (Int.add r11 (Int.ofNat 1)) fun i12 =>
  S 1 (AL.i r1 (AL.v r2 (AL.v r4 (AL.v r5 (AL.v r9 (AL.i r10 (AL.i i12 AL.n))))))) h5))
  (S 2 (AL.v r2 (AL.v r4 (AL.v r5 AL.n))) h)
noncomputable def P35x0 (S : Sg) (r0 : Value) (r1 : Int) (h : Hp) : CRes :=
  allocK h 26 (Array.toList (Value.cells r0)) fun a0 h0 =>
  allocK h0 54 [(Value.slice none 0 0), (Value.slice none 0 0), (Value.slice none 0 0), (Value.slice none 0 0)] fun a1 h1 =>
  ptrAddK 2 a0 fun v2 =>
  load1K h1 v2 fun v3 =>
  lenSK v3 fun i4 =>
  S 1 (AL.i r1 (AL.v a0 (AL.v a1 (AL.v (Value.slice none 0 0) (AL.v v3 (AL.i i4 (AL.i (Int.ofNat 0) AL.n))))))) h1
noncomputable def T35 (S : Sg) : Sg := tabC 0 (uV fun r0 => uI fun r1 => uN fun h => P35x0 S r0 r1 h) (tabC 1 (uI fun r1 => uV fun r2 => uV fun r4 => uV fun r5 => uV fun r9 => uI fun r10 => uI fun r11 => uN fun h => P35x1 S r1 r2 r4 r5 r9 r10 r11 h) (tabC 2 (uV fun r2 => uV fun r4 => uV fun r5 => uN fun h => P35x2 S r2 r4 r5 h) (tabN)))
noncomputable def F35 (args : List Value) (h : Hp) : CRes := packVals [Kd.v, Kd.i .i64] args fun al => rec' T35 1000000 0 al h
def nt35 : Nat := 2 + (29 - 2)
theorem q35x2 (S : Sg) (r2 : Value) (r4 : Value) (r5 : Value) (h : Hp) : P35x2 S r2 r4 r5 h = stepAt (regK env orc67 (nt35)) (finK env Tryz.f35.results.toList) (collect B35 A35 []) 2 S (AL.v r2 (AL.v r4 (AL.v r5 AL.n))) h := by kernel_rfl
theorem q35x1 (S : Sg) (r1 : Int) (r2 : Value) (r4 : Value) (r5 : Value) (r9 : Value) (r10 : Int) (r11 : Int) (h : Hp) : P35x1 S r1 r2 r4 r5 r9 r10 r11 h = stepAt (regK env orc67 (nt35)) (finK env Tryz.f35.results.toList) (collect B35 A35 []) 1 S (AL.i r1 (AL.v r2 (AL.v r4 (AL.v r5 (AL.v r9 (AL.i r10 (AL.i r11 AL.n))))))) h := by kernel_rfl
theorem q35x0 (S : Sg) (r0 : Value) (r1 : Int) (h : Hp) : P35x0 S r0 r1 h = stepAt (regK env orc67 (nt35)) (finK env Tryz.f35.results.toList) (collect B35 A35 []) 0 S (AL.v r0 (AL.i r1 AL.n)) h := by kernel_rfl
theorem t35 (S : Sg) : Tab (fun l vs h => stepAt (regK env orc67 nt35) (finK env Tryz.f35.results.toList) (collect B35 A35 []) l S vs h) (T35 S) := by
  unfold T35
  refine Tab.cons 0 (fun vs0 h q e0 => ?_) ?_
  · obtain ⟨r0, vs1, rfl, e1⟩ := uV_some e0
    obtain ⟨r1, vs2, rfl, e2⟩ := uI_some e1
    obtain ⟨rfl, ee⟩ := uN_some e2
    exact (q35x0 S r0 r1 h).symm.trans ee
  refine Tab.cons 1 (fun vs0 h q e0 => ?_) ?_
  · obtain ⟨r1, vs1, rfl, e1⟩ := uI_some e0
    obtain ⟨r2, vs2, rfl, e2⟩ := uV_some e1
    obtain ⟨r4, vs3, rfl, e3⟩ := uV_some e2
    obtain ⟨r5, vs4, rfl, e4⟩ := uV_some e3
    obtain ⟨r9, vs5, rfl, e5⟩ := uV_some e4
    obtain ⟨r10, vs6, rfl, e6⟩ := uI_some e5
    obtain ⟨r11, vs7, rfl, e7⟩ := uI_some e6
    obtain ⟨rfl, ee⟩ := uN_some e7
    exact (q35x1 S r1 r2 r4 r5 r9 r10 r11 h).symm.trans ee
  refine Tab.cons 2 (fun vs0 h q e0 => ?_) ?_
  · obtain ⟨r2, vs1, rfl, e1⟩ := uV_some e0
    obtain ⟨r4, vs2, rfl, e2⟩ := uV_some e1
    obtain ⟨r5, vs3, rfl, e3⟩ := uV_some e2
    obtain ⟨rfl, ee⟩ := uN_some e3
    exact (q35x2 S r2 r4 r5 h).symm.trans ee
  exact Tab.nil
theorem r35 : ∀ args h v h', F35 args h = some (v, h') → Runs (C67) (.call 35 args.toArray h) (.ret v h') := by
  intro args h v h' e
  exact fun_sound (C := C67) (fn := Tryz.f35) (body := B35) (np := 2) (A := A35) (T := T35) (kinds := [Kd.v, Kd.i .i64]) (by kernel_rfl) (by kernel_rfl) (by kernel_rfl) (by kernel_rfl) (regK_ok env_ok) (by kernel_rfl) (fun S => t35 S) e
noncomputable def orc68 := orcQ 35 F35 orc67
noncomputable def C68 : Cfg := cfg orc68
theorem ok68 : C68.Ok := orcQ_ok (C := C67) ok67 r35
/-! ceroplast/sets.Fewer -/
noncomputable def B66 : Code := (Tryz.f66.body).getD .skip
noncomputable def A66 : G.Ann (List KI) := (G.Ann.node (some (0, [KI.reg 0 (Kd.i .i64), KI.reg 1 (Kd.i .i64)])) G.Ann.nil (G.Ann.node none (G.Ann.node none G.Ann.nil (G.Ann.node none G.Ann.nil (G.Ann.node none (G.Ann.node none G.Ann.nil G.Ann.nil) G.Ann.nil))) (G.Ann.node none G.Ann.nil (G.Ann.node none G.Ann.nil (G.Ann.node none G.Ann.nil G.Ann.nil)))))
noncomputable def P66x0 (h : Hp) (S : Nat → PAL → Option Value) (r0 : Int) (r1 : Int) : Option Value :=
  forceI (wrapF .u64 r0) fun i0 =>
  optK (F92 [(Value.int .u64 i0)] h) fun v1 =>
  intK .i64 v1 fun i2 =>
  forceI (wrapF .u64 r1) fun i3 =>
  optK (F92 [(Value.int .u64 i3)] h) fun v4 =>
  intK .i64 v4 fun i5 =>
  boolN (eqZ i2 i5) fun b6 =>
  ifB b6
  (boolZ (ltZ i2 i5) fun b7 =>
  some (Value.bool b7))
  (slowI .i64 (xorI (binW env .xor 3 (Value.int .i64 r0) (Value.int .i64 r1)) (Value.int .i64 r0) (Value.int .i64 r1)) fun i8 =>
  wrap64 (Int.sub 0 i8) fun i9 =>
  andZ .i64 i8 i9 (andI (binW env .and 3 (Value.int .i64 i8) (Value.int .i64 i9)) (Value.int .i64 i8) (Value.int .i64 i9)) fun i10 =>
  andZ .i64 r0 i10 (andI (binW env .and 3 (Value.int .i64 r0) (Value.int .i64 i10)) (Value.int .i64 r0) (Value.int .i64 i10)) fun i11 =>
  boolN (eqZ i11 (Int.ofNat 0)) fun b12 =>
  some (Value.bool b12))
noncomputable def T66 (h : Hp) (S : Nat → PAL → Option Value) : Nat → PAL → Option Value := tabPC 0 (wI fun r0 => wI fun r1 => wN (P66x0 h S r0 r1)) (tabPN)
noncomputable def F66 (args : List Value) (h : Hp) : Option Value := plainO (packArgs [Kd.i .i64, Kd.i .i64] args fun al => G.rec' (T66 h) 1000000 0 al)
def nt66 : Nat := 2 + (32 - 2)
theorem q66x0 (h : Hp) (S : Nat → PAL → Option Value) (r0 : Int) (r1 : Int) : P66x0 h S r0 r1 = G.stepAt packP unpackP evXV (regP env pf34 nt66 h) (finP env Tryz.f66.results.toList) (G.collect B66 A66 []) 0 S (PAL.i r0 (PAL.i r1 PAL.n)) := by kernel_rfl
theorem t66 (h : Hp) (S : Nat → PAL → Option Value) : TabP (fun l al => G.stepAt packP unpackP evXV (regP env pf34 nt66 h) (finP env Tryz.f66.results.toList) (G.collect B66 A66 []) l S al) (T66 h S) := by
  unfold T66
  refine TabP.cons 0 (fun vs0 q e0 => ?_) ?_
  · obtain ⟨r0, vs1, rfl, e1⟩ := wI_some e0
    obtain ⟨r1, vs2, rfl, e2⟩ := wI_some e1
    obtain ⟨rfl, ee⟩ := wN_some e2
    exact (q66x0 h S r0 r1).symm.trans ee
  exact TabP.nil
theorem r66 : PSound Tryz.prog 66 F66 := fun_soundP (C := C0) ok0 (pf := pf34) pfok34 (fn := Tryz.f66) (body := B66) (kinds := [Kd.i .i64, Kd.i .i64]) (A := A66) (T := T66) (by kernel_rfl) (by kernel_rfl) (by kernel_rfl) (by kernel_rfl) (fun h S => t66 h S)
noncomputable def pf35 : PF := pfC 66 F66 pf34
theorem pfok35 : PfSound Tryz.prog pf35 := pfC_ok r66 pfok34
noncomputable def orc69 := orcP 66 F66 orc68
noncomputable def C69 : Cfg := cfg orc69
theorem ok69 : C69.Ok := orcP_ok (C := C68) ok68 r66
/-! ceroplast/ceroplastref01.Ints -/
noncomputable def B11 : Code := (Tryz.f11.body).getD .skip
noncomputable def A11 : G.Ann (List KI) := (G.Ann.node (some (0, [KI.reg 0 (Kd.v), KI.reg 1 (Kd.v)])) G.Ann.nil (G.Ann.node none G.Ann.nil (G.Ann.node none (G.Ann.node none G.Ann.nil (G.Ann.node none (G.Ann.node (some (1, [KI.reg 0 (Kd.v), KI.reg 1 (Kd.v), KI.reg 5 (Kd.b), KI.reg 6 (Kd.i .i64)])) (G.Ann.node none (G.Ann.node none G.Ann.nil (G.Ann.node none G.Ann.nil G.Ann.nil)) (G.Ann.node (some (2, [KI.reg 0 (Kd.v), KI.reg 1 (Kd.v), KI.reg 6 (Kd.i .i64)])) (G.Ann.node none G.Ann.nil G.Ann.nil) G.Ann.nil)) G.Ann.nil) G.Ann.nil)) (G.Ann.node (some (3, [KI.reg 5 (Kd.b)])) G.Ann.nil G.Ann.nil))))
noncomputable def P11x3 (h : Hp) (S : Nat → PAL → Option Value) (r5 : Bool) : Option Value :=
  some (Value.bool r5)
noncomputable def P11x2 (h : Hp) (S : Nat → PAL → Option Value) (r0 : Value) (r1 : Value) (r6 : Int) : Option Value :=
  idxSK 1 r0 r6 fun v0 =>
  load1K h v0 fun v1 =>
  intK .i64 v1 fun i2 =>
  idxSK 1 r1 r6 fun v3 =>
  load1K h v3 fun v4 =>
  intK .i64 v4 fun i5 =>
  boolZ (eqZ i2 i5) fun b6 =>
  wrap64 (Int.add r6 (Int.ofNat 1)) fun i7 =>
  S 1 (PAL.v r0 (PAL.v r1 (PAL.b b6 (PAL.i i7 PAL.n))))
noncomputable def P11x1 (h : Hp) (S : Nat → PAL → Option Value) (r0 : Value) (r1 : Value) (r5 : Bool) (r6 : Int) : Option Value :=
  ifB r5
  (lenSK r0 fun i0 =>
  boolZ (ltZ r6 i0) fun b1 =>
  ifB b1
  (S 2 (PAL.v r0 (PAL.v r1 (PAL.i r6 PAL.n))))
  (S 3 (PAL.b r5 PAL.n)))
  (S 3 (PAL.b r5 PAL.n))
noncomputable def P11x0 (h : Hp) (S : Nat → PAL → Option Value) (r0 : Value) (r1 : Value) : Option Value :=
  lenSK r0 fun i0 =>
  lenSK r1 fun i1 =>
  boolZ (eqZ i0 i1) fun b2 =>
  S 1 (PAL.v r0 (PAL.v r1 (PAL.b b2 (PAL.i (Int.ofNat 0) PAL.n))))
noncomputable def T11 (h : Hp) (S : Nat → PAL → Option Value) : Nat → PAL → Option Value := tabPC 0 (wV fun r0 => wV fun r1 => wN (P11x0 h S r0 r1)) (tabPC 1 (wV fun r0 => wV fun r1 => wB fun r5 => wI fun r6 => wN (P11x1 h S r0 r1 r5 r6)) (tabPC 2 (wV fun r0 => wV fun r1 => wI fun r6 => wN (P11x2 h S r0 r1 r6)) (tabPC 3 (wB fun r5 => wN (P11x3 h S r5)) (tabPN))))
noncomputable def F11 (args : List Value) (h : Hp) : Option Value := plainO (packArgs [Kd.v, Kd.v] args fun al => G.rec' (T11 h) 1000000 0 al)
def nt11 : Nat := 2 + (31 - 2)
theorem q11x3 (h : Hp) (S : Nat → PAL → Option Value) (r5 : Bool) : P11x3 h S r5 = G.stepAt packP unpackP evXV (regP env pf35 nt11 h) (finP env Tryz.f11.results.toList) (G.collect B11 A11 []) 3 S (PAL.b r5 PAL.n) := by kernel_rfl
theorem q11x2 (h : Hp) (S : Nat → PAL → Option Value) (r0 : Value) (r1 : Value) (r6 : Int) : P11x2 h S r0 r1 r6 = G.stepAt packP unpackP evXV (regP env pf35 nt11 h) (finP env Tryz.f11.results.toList) (G.collect B11 A11 []) 2 S (PAL.v r0 (PAL.v r1 (PAL.i r6 PAL.n))) := by kernel_rfl
theorem q11x1 (h : Hp) (S : Nat → PAL → Option Value) (r0 : Value) (r1 : Value) (r5 : Bool) (r6 : Int) : P11x1 h S r0 r1 r5 r6 = G.stepAt packP unpackP evXV (regP env pf35 nt11 h) (finP env Tryz.f11.results.toList) (G.collect B11 A11 []) 1 S (PAL.v r0 (PAL.v r1 (PAL.b r5 (PAL.i r6 PAL.n)))) := by kernel_rfl
theorem q11x0 (h : Hp) (S : Nat → PAL → Option Value) (r0 : Value) (r1 : Value) : P11x0 h S r0 r1 = G.stepAt packP unpackP evXV (regP env pf35 nt11 h) (finP env Tryz.f11.results.toList) (G.collect B11 A11 []) 0 S (PAL.v r0 (PAL.v r1 PAL.n)) := by kernel_rfl
theorem t11 (h : Hp) (S : Nat → PAL → Option Value) : TabP (fun l al => G.stepAt packP unpackP evXV (regP env pf35 nt11 h) (finP env Tryz.f11.results.toList) (G.collect B11 A11 []) l S al) (T11 h S) := by
  unfold T11
  refine TabP.cons 0 (fun vs0 q e0 => ?_) ?_
  · obtain ⟨r0, vs1, rfl, e1⟩ := wV_some e0
    obtain ⟨r1, vs2, rfl, e2⟩ := wV_some e1
    obtain ⟨rfl, ee⟩ := wN_some e2
    exact (q11x0 h S r0 r1).symm.trans ee
  refine TabP.cons 1 (fun vs0 q e0 => ?_) ?_
  · obtain ⟨r0, vs1, rfl, e1⟩ := wV_some e0
    obtain ⟨r1, vs2, rfl, e2⟩ := wV_some e1
    obtain ⟨r5, vs3, rfl, e3⟩ := wB_some e2
    obtain ⟨r6, vs4, rfl, e4⟩ := wI_some e3
    obtain ⟨rfl, ee⟩ := wN_some e4
    exact (q11x1 h S r0 r1 r5 r6).symm.trans ee
  refine TabP.cons 2 (fun vs0 q e0 => ?_) ?_
  · obtain ⟨r0, vs1, rfl, e1⟩ := wV_some e0
    obtain ⟨r1, vs2, rfl, e2⟩ := wV_some e1
    obtain ⟨r6, vs3, rfl, e3⟩ := wI_some e2
    obtain ⟨rfl, ee⟩ := wN_some e3
    exact (q11x2 h S r0 r1 r6).symm.trans ee
  refine TabP.cons 3 (fun vs0 q e0 => ?_) ?_
  · obtain ⟨r5, vs1, rfl, e1⟩ := wB_some e0
    obtain ⟨rfl, ee⟩ := wN_some e1
    exact (q11x3 h S r5).symm.trans ee
  exact TabP.nil
theorem r11 : PSound Tryz.prog 11 F11 := fun_soundP (C := C0) ok0 (pf := pf35) pfok35 (fn := Tryz.f11) (body := B11) (kinds := [Kd.v, Kd.v]) (A := A11) (T := T11) (by kernel_rfl) (by kernel_rfl) (by kernel_rfl) (by kernel_rfl) (fun h S => t11 h S)
noncomputable def pf36 : PF := pfC 11 F11 pf35
theorem pfok36 : PfSound Tryz.prog pf36 := pfC_ok r11 pfok35
noncomputable def orc70 := orcP 11 F11 orc69
noncomputable def C70 : Cfg := cfg orc70
theorem ok70 : C70.Ok := orcP_ok (C := C69) ok69 r11
/-! ceroplast/ceroplastref01.Strings -/
noncomputable def B12 : Code := (Tryz.f12.body).getD .skip
noncomputable def A12 : G.Ann (List KI) := (G.Ann.node (some (0, [KI.reg 0 (Kd.v), KI.reg 1 (Kd.v)])) G.Ann.nil (G.Ann.node none G.Ann.nil (G.Ann.node none (G.Ann.node none G.Ann.nil (G.Ann.node none (G.Ann.node (some (1, [KI.reg 0 (Kd.v), KI.reg 1 (Kd.v), KI.reg 5 (Kd.b), KI.reg 6 (Kd.i .i64)])) (G.Ann.node none (G.Ann.node none G.Ann.nil (G.Ann.node none G.Ann.nil G.Ann.nil)) (G.Ann.node (some (2, [KI.reg 0 (Kd.v), KI.reg 1 (Kd.v), KI.reg 6 (Kd.i .i64)])) (G.Ann.node none G.Ann.nil G.Ann.nil) G.Ann.nil)) G.Ann.nil) G.Ann.nil)) (G.Ann.node (some (3, [KI.reg 5 (Kd.b)])) G.Ann.nil G.Ann.nil))))
noncomputable def P12x3 (h : Hp) (S : Nat → PAL → Option Value) (r5 : Bool) : Option Value :=
  some (Value.bool r5)
noncomputable def P12x2 (h : Hp) (S : Nat → PAL → Option Value) (r0 : Value) (r1 : Value) (r6 : Int) : Option Value :=
  idxSK 1 r0 r6 fun v0 =>
  load1K h v0 fun v1 =>
  idxSK 1 r1 r6 fun v2 =>
  load1K h v2 fun v3 =>
  optK (binV env .eql 9 (Operand.tmp 24) (Operand.tmp 28) v1 v3) fun v4 =>
  boolK v4 fun b5 =>
  wrap64 (Int.add r6 (Int.ofNat 1)) fun i6 =>
  S 1 (PAL.v r0 (PAL.v r1 (PAL.b b5 (PAL.i i6 PAL.n))))
noncomputable def P12x1 (h : Hp) (S : Nat → PAL → Option Value) (r0 : Value) (r1 : Value) (r5 : Bool) (r6 : Int) : Option Value :=
  ifB r5
  (lenSK r0 fun i0 =>
  boolZ (ltZ r6 i0) fun b1 =>
  ifB b1
  (S 2 (PAL.v r0 (PAL.v r1 (PAL.i r6 PAL.n))))
  (S 3 (PAL.b r5 PAL.n)))
  (S 3 (PAL.b r5 PAL.n))
noncomputable def P12x0 (h : Hp) (S : Nat → PAL → Option Value) (r0 : Value) (r1 : Value) : Option Value :=
  lenSK r0 fun i0 =>
  lenSK r1 fun i1 =>
  boolZ (eqZ i0 i1) fun b2 =>
  S 1 (PAL.v r0 (PAL.v r1 (PAL.b b2 (PAL.i (Int.ofNat 0) PAL.n))))
noncomputable def T12 (h : Hp) (S : Nat → PAL → Option Value) : Nat → PAL → Option Value := tabPC 0 (wV fun r0 => wV fun r1 => wN (P12x0 h S r0 r1)) (tabPC 1 (wV fun r0 => wV fun r1 => wB fun r5 => wI fun r6 => wN (P12x1 h S r0 r1 r5 r6)) (tabPC 2 (wV fun r0 => wV fun r1 => wI fun r6 => wN (P12x2 h S r0 r1 r6)) (tabPC 3 (wB fun r5 => wN (P12x3 h S r5)) (tabPN))))
noncomputable def F12 (args : List Value) (h : Hp) : Option Value := plainO (packArgs [Kd.v, Kd.v] args fun al => G.rec' (T12 h) 1000000 0 al)
def nt12 : Nat := 2 + (31 - 2)
theorem q12x3 (h : Hp) (S : Nat → PAL → Option Value) (r5 : Bool) : P12x3 h S r5 = G.stepAt packP unpackP evXV (regP env pf36 nt12 h) (finP env Tryz.f12.results.toList) (G.collect B12 A12 []) 3 S (PAL.b r5 PAL.n) := by kernel_rfl
theorem q12x2 (h : Hp) (S : Nat → PAL → Option Value) (r0 : Value) (r1 : Value) (r6 : Int) : P12x2 h S r0 r1 r6 = G.stepAt packP unpackP evXV (regP env pf36 nt12 h) (finP env Tryz.f12.results.toList) (G.collect B12 A12 []) 2 S (PAL.v r0 (PAL.v r1 (PAL.i r6 PAL.n))) := by kernel_rfl
theorem q12x1 (h : Hp) (S : Nat → PAL → Option Value) (r0 : Value) (r1 : Value) (r5 : Bool) (r6 : Int) : P12x1 h S r0 r1 r5 r6 = G.stepAt packP unpackP evXV (regP env pf36 nt12 h) (finP env Tryz.f12.results.toList) (G.collect B12 A12 []) 1 S (PAL.v r0 (PAL.v r1 (PAL.b r5 (PAL.i r6 PAL.n)))) := by kernel_rfl
theorem q12x0 (h : Hp) (S : Nat → PAL → Option Value) (r0 : Value) (r1 : Value) : P12x0 h S r0 r1 = G.stepAt packP unpackP evXV (regP env pf36 nt12 h) (finP env Tryz.f12.results.toList) (G.collect B12 A12 []) 0 S (PAL.v r0 (PAL.v r1 PAL.n)) := by kernel_rfl
theorem t12 (h : Hp) (S : Nat → PAL → Option Value) : TabP (fun l al => G.stepAt packP unpackP evXV (regP env pf36 nt12 h) (finP env Tryz.f12.results.toList) (G.collect B12 A12 []) l S al) (T12 h S) := by
  unfold T12
  refine TabP.cons 0 (fun vs0 q e0 => ?_) ?_
  · obtain ⟨r0, vs1, rfl, e1⟩ := wV_some e0
    obtain ⟨r1, vs2, rfl, e2⟩ := wV_some e1
    obtain ⟨rfl, ee⟩ := wN_some e2
    exact (q12x0 h S r0 r1).symm.trans ee
  refine TabP.cons 1 (fun vs0 q e0 => ?_) ?_
  · obtain ⟨r0, vs1, rfl, e1⟩ := wV_some e0
    obtain ⟨r1, vs2, rfl, e2⟩ := wV_some e1
    obtain ⟨r5, vs3, rfl, e3⟩ := wB_some e2
    obtain ⟨r6, vs4, rfl, e4⟩ := wI_some e3
    obtain ⟨rfl, ee⟩ := wN_some e4
    exact (q12x1 h S r0 r1 r5 r6).symm.trans ee
  refine TabP.cons 2 (fun vs0 q e0 => ?_) ?_
  · obtain ⟨r0, vs1, rfl, e1⟩ := wV_some e0
    obtain ⟨r1, vs2, rfl, e2⟩ := wV_some e1
    obtain ⟨r6, vs3, rfl, e3⟩ := wI_some e2
    obtain ⟨rfl, ee⟩ := wN_some e3
    exact (q12x2 h S r0 r1 r6).symm.trans ee
  refine TabP.cons 3 (fun vs0 q e0 => ?_) ?_
  · obtain ⟨r5, vs1, rfl, e1⟩ := wB_some e0
    obtain ⟨rfl, ee⟩ := wN_some e1
    exact (q12x3 h S r5).symm.trans ee
  exact TabP.nil
theorem r12 : PSound Tryz.prog 12 F12 := fun_soundP (C := C0) ok0 (pf := pf36) pfok36 (fn := Tryz.f12) (body := B12) (kinds := [Kd.v, Kd.v]) (A := A12) (T := T12) (by kernel_rfl) (by kernel_rfl) (by kernel_rfl) (by kernel_rfl) (fun h S => t12 h S)
noncomputable def pf37 : PF := pfC 12 F12 pf36
theorem pfok37 : PfSound Tryz.prog pf37 := pfC_ok r12 pfok36
noncomputable def orc71 := orcP 12 F12 orc70
noncomputable def C71 : Cfg := cfg orc71
theorem ok71 : C71.Ok := orcP_ok (C := C70) ok70 r12
/-! ceroplast/ceroplastref03.Same -/
noncomputable def B40 : Code := (Tryz.f40.body).getD .skip
noncomputable def A40 : G.Ann (List KI) := (G.Ann.node (some (0, [KI.reg 0 (Kd.v), KI.reg 1 (Kd.v)])) G.Ann.nil (G.Ann.node none G.Ann.nil (G.Ann.node none (G.Ann.node none G.Ann.nil (G.Ann.node none (G.Ann.node (some (1, [KI.reg 0 (Kd.v), KI.reg 1 (Kd.v), KI.reg 5 (Kd.b), KI.reg 6 (Kd.i .i64)])) (G.Ann.node none (G.Ann.node none G.Ann.nil (G.Ann.node none G.Ann.nil G.Ann.nil)) (G.Ann.node (some (2, [KI.reg 0 (Kd.v), KI.reg 1 (Kd.v), KI.reg 6 (Kd.i .i64)])) (G.Ann.node none G.Ann.nil G.Ann.nil) G.Ann.nil)) G.Ann.nil) G.Ann.nil)) (G.Ann.node (some (3, [KI.reg 5 (Kd.b)])) G.Ann.nil G.Ann.nil))))
noncomputable def P40x3 (h : Hp) (S : Nat → PAL → Option Value) (r5 : Bool) : Option Value :=
  some (Value.bool r5)
noncomputable def P40x2 (h : Hp) (S : Nat → PAL → Option Value) (r0 : Value) (r1 : Value) (r6 : Int) : Option Value :=
  idxSK 2 r0 r6 fun v0 =>
  loadNK 2 h v0 fun v1 =>
  idxSK 2 r1 r6 fun v2 =>
  loadNK 2 h v2 fun v3 =>
  optK (binV env .eql 77 (Operand.tmp 24) (Operand.tmp 28) v1 v3) fun v4 =>
  boolK v4 fun b5 =>
  wrap64 (Int.add r6 (Int.ofNat 1)) fun i6 =>
  S 1 (PAL.v r0 (PAL.v r1 (PAL.b b5 (PAL.i i6 PAL.n))))
noncomputable def P40x1 (h : Hp) (S : Nat → PAL → Option Value) (r0 : Value) (r1 : Value) (r5 : Bool) (r6 : Int) : Option Value :=
  ifB r5
  (lenSK r0 fun i0 =>
  boolZ (ltZ r6 i0) fun b1 =>
  ifB b1
  (S 2 (PAL.v r0 (PAL.v r1 (PAL.i r6 PAL.n))))
  (S 3 (PAL.b r5 PAL.n)))
  (S 3 (PAL.b r5 PAL.n))
noncomputable def P40x0 (h : Hp) (S : Nat → PAL → Option Value) (r0 : Value) (r1 : Value) : Option Value :=
  lenSK r0 fun i0 =>
  lenSK r1 fun i1 =>
  boolZ (eqZ i0 i1) fun b2 =>
  S 1 (PAL.v r0 (PAL.v r1 (PAL.b b2 (PAL.i (Int.ofNat 0) PAL.n))))
noncomputable def T40 (h : Hp) (S : Nat → PAL → Option Value) : Nat → PAL → Option Value := tabPC 0 (wV fun r0 => wV fun r1 => wN (P40x0 h S r0 r1)) (tabPC 1 (wV fun r0 => wV fun r1 => wB fun r5 => wI fun r6 => wN (P40x1 h S r0 r1 r5 r6)) (tabPC 2 (wV fun r0 => wV fun r1 => wI fun r6 => wN (P40x2 h S r0 r1 r6)) (tabPC 3 (wB fun r5 => wN (P40x3 h S r5)) (tabPN))))
noncomputable def F40 (args : List Value) (h : Hp) : Option Value := plainO (packArgs [Kd.v, Kd.v] args fun al => G.rec' (T40 h) 1000000 0 al)
def nt40 : Nat := 2 + (31 - 2)
theorem q40x3 (h : Hp) (S : Nat → PAL → Option Value) (r5 : Bool) : P40x3 h S r5 = G.stepAt packP unpackP evXV (regP env pf37 nt40 h) (finP env Tryz.f40.results.toList) (G.collect B40 A40 []) 3 S (PAL.b r5 PAL.n) := by kernel_rfl
theorem q40x2 (h : Hp) (S : Nat → PAL → Option Value) (r0 : Value) (r1 : Value) (r6 : Int) : P40x2 h S r0 r1 r6 = G.stepAt packP unpackP evXV (regP env pf37 nt40 h) (finP env Tryz.f40.results.toList) (G.collect B40 A40 []) 2 S (PAL.v r0 (PAL.v r1 (PAL.i r6 PAL.n))) := by kernel_rfl
theorem q40x1 (h : Hp) (S : Nat → PAL → Option Value) (r0 : Value) (r1 : Value) (r5 : Bool) (r6 : Int) : P40x1 h S r0 r1 r5 r6 = G.stepAt packP unpackP evXV (regP env pf37 nt40 h) (finP env Tryz.f40.results.toList) (G.collect B40 A40 []) 1 S (PAL.v r0 (PAL.v r1 (PAL.b r5 (PAL.i r6 PAL.n)))) := by kernel_rfl
theorem q40x0 (h : Hp) (S : Nat → PAL → Option Value) (r0 : Value) (r1 : Value) : P40x0 h S r0 r1 = G.stepAt packP unpackP evXV (regP env pf37 nt40 h) (finP env Tryz.f40.results.toList) (G.collect B40 A40 []) 0 S (PAL.v r0 (PAL.v r1 PAL.n)) := by kernel_rfl
theorem t40 (h : Hp) (S : Nat → PAL → Option Value) : TabP (fun l al => G.stepAt packP unpackP evXV (regP env pf37 nt40 h) (finP env Tryz.f40.results.toList) (G.collect B40 A40 []) l S al) (T40 h S) := by
  unfold T40
  refine TabP.cons 0 (fun vs0 q e0 => ?_) ?_
  · obtain ⟨r0, vs1, rfl, e1⟩ := wV_some e0
    obtain ⟨r1, vs2, rfl, e2⟩ := wV_some e1
    obtain ⟨rfl, ee⟩ := wN_some e2
    exact (q40x0 h S r0 r1).symm.trans ee
  refine TabP.cons 1 (fun vs0 q e0 => ?_) ?_
  · obtain ⟨r0, vs1, rfl, e1⟩ := wV_some e0
    obtain ⟨r1, vs2, rfl, e2⟩ := wV_some e1
    obtain ⟨r5, vs3, rfl, e3⟩ := wB_some e2
    obtain ⟨r6, vs4, rfl, e4⟩ := wI_some e3
    obtain ⟨rfl, ee⟩ := wN_some e4
    exact (q40x1 h S r0 r1 r5 r6).symm.trans ee
  refine TabP.cons 2 (fun vs0 q e0 => ?_) ?_
  · obtain ⟨r0, vs1, rfl, e1⟩ := wV_some e0
    obtain ⟨r1, vs2, rfl, e2⟩ := wV_some e1
    obtain ⟨r6, vs3, rfl, e3⟩ := wI_some e2
    obtain ⟨rfl, ee⟩ := wN_some e3
    exact (q40x2 h S r0 r1 r6).symm.trans ee
  refine TabP.cons 3 (fun vs0 q e0 => ?_) ?_
  · obtain ⟨r5, vs1, rfl, e1⟩ := wB_some e0
    obtain ⟨rfl, ee⟩ := wN_some e1
    exact (q40x3 h S r5).symm.trans ee
  exact TabP.nil
theorem r40 : PSound Tryz.prog 40 F40 := fun_soundP (C := C0) ok0 (pf := pf37) pfok37 (fn := Tryz.f40) (body := B40) (kinds := [Kd.v, Kd.v]) (A := A40) (T := T40) (by kernel_rfl) (by kernel_rfl) (by kernel_rfl) (by kernel_rfl) (fun h S => t40 h S)
noncomputable def pf38 : PF := pfC 40 F40 pf37
theorem pfok38 : PfSound Tryz.prog pf38 := pfC_ok r40 pfok37
noncomputable def orc72 := orcP 40 F40 orc71
noncomputable def C72 : Cfg := cfg orc72
theorem ok72 : C72.Ok := orcP_ok (C := C71) ok71 r40
noncomputable abbrev orcE := orc72
theorem okE : (cfg orcE).Ok := ok72
end Go.Proofs.YtekencpjhiijaaaGreat.K
