/- Functions told. -/
import Derived.Test.YtegcnkcbmbcdkaaTab
open Go Go.Eng
set_option maxRecDepth 100000
set_option linter.unusedVariables false
namespace Go.Proofs.Ytegcnkcbmbcdkaa.K
noncomputable def B55 : Code := (Try.f55.body).getD .skip
noncomputable def A55 : G.Ann (List KI) := (G.Ann.node (some (0, [KI.reg 0 (Kd.v), KI.reg 1 (Kd.v)])) G.Ann.nil (G.Ann.node none G.Ann.nil G.Ann.nil))
noncomputable def P55x0 (h : Hp) (S : Nat → PAL → Option Value) (r0 : Value) (r1 : Value) : Option Value :=
  forceL (Array.toList (Value.cells r0)) fun c0 =>
  nthR c0 0 fun v1 =>
  ptrAddK 0 r1 fun v2 =>
  load1K h v2 fun v3 =>
  optK (binV env .eql 9 (Operand.tmp 5) (Operand.tmp 7) v1 v3) fun v4 =>
  boolK v4 fun b5 =>
  some (Value.bool b5)
noncomputable def T55 (h : Hp) (S : Nat → PAL → Option Value) : Nat → PAL → Option Value := tabPC 0 (wV fun r0 => wV fun r1 => wN (P55x0 h S r0 r1)) (tabPN)
noncomputable def F55 (args : List Value) (h : Hp) : Option Value := plainO (packArgs [Kd.v, Kd.v] args fun al => G.rec' (T55 h) 1000000 0 al)
def nt55 : Nat := 2 + (9 - 2)
theorem q55x0 (h : Hp) (S : Nat → PAL → Option Value) (r0 : Value) (r1 : Value) : P55x0 h S r0 r1 = G.stepAt packP unpackP evXV (regP env pf0 nt55 h) (finP env Try.f55.results.toList) (G.collect B55 A55 []) 0 S (PAL.v r0 (PAL.v r1 PAL.n)) := by kernel_rfl
theorem t55 (h : Hp) (S : Nat → PAL → Option Value) : TabP (fun l al => G.stepAt packP unpackP evXV (regP env pf0 nt55 h) (finP env Try.f55.results.toList) (G.collect B55 A55 []) l S al) (T55 h S) := by
  unfold T55
  refine TabP.cons 0 (fun vs0 q e0 => ?_) ?_
  · obtain ⟨r0, vs1, rfl, e1⟩ := wV_some e0
    obtain ⟨r1, vs2, rfl, e2⟩ := wV_some e1
    obtain ⟨rfl, ee⟩ := wN_some e2
    exact (q55x0 h S r0 r1).symm.trans ee
  exact TabP.nil
theorem r55 : PSound Try.prog 55 F55 := fun_soundP (C := C0) ok0 (pf := pf0) pfok0 (fn := Try.f55) (body := B55) (kinds := [Kd.v, Kd.v]) (A := A55) (T := T55) (by kernel_rfl) (by kernel_rfl) (by kernel_rfl) (by kernel_rfl) (fun h S => t55 h S)
noncomputable def pf1 : PF := pfC 55 F55 pf0
theorem pfok1 : PfSound Try.prog pf1 := pfC_ok r55 pfok0
noncomputable def orc1 := orcP 55 F55 orc0
noncomputable def C1 : Cfg := cfg orc1
theorem ok1 : C1.Ok := orcP_ok (C := C0) ok0 r55
noncomputable def B29 : Code := (Try.f29.body).getD .skip
noncomputable def A29 : G.Ann (List KI) := (G.Ann.node (some (0, [KI.reg 0 (Kd.i .i64), KI.reg 1 (Kd.i .i64), KI.reg 2 (Kd.v)])) G.Ann.nil (G.Ann.node none (G.Ann.node none G.Ann.nil (G.Ann.node none (G.Ann.node (some (1, [KI.reg 0 (Kd.i .i64), KI.reg 1 (Kd.i .i64), KI.reg 9 (Kd.v), KI.reg 10 (Kd.i .i64), KI.reg 11 (Kd.i .i64)])) (G.Ann.node none G.Ann.nil (G.Ann.node none (G.Ann.node none G.Ann.nil G.Ann.nil) (G.Ann.node none (G.Ann.node none (G.Ann.node none G.Ann.nil (G.Ann.node none G.Ann.nil (G.Ann.node none (G.Ann.node none G.Ann.nil G.Ann.nil) G.Ann.nil))) G.Ann.nil) G.Ann.nil))) G.Ann.nil) G.Ann.nil)) (G.Ann.node (some (2, [])) G.Ann.nil G.Ann.nil)))
noncomputable def P29x2 (h : Hp) (S : Nat → PAL → Option Value) : Option Value :=
  some (Value.bool true)
noncomputable def P29x1 (h : Hp) (S : Nat → PAL → Option Value) (r0 : Int) (r1 : Int) (r9 : Value) (r10 : Int) (r11 : Int) : Option Value :=
  boolZ (ltZ r11 r10) fun b0 =>
  ifB b0
  (idxSK 1 r9 r11 fun v1 =>
  load1K h v1 fun v2 =>
  intK .i64 v2 fun i3 =>
  boolZ (ltZ i3 r0) fun b4 =>
  ifB b4
  (some (Value.bool false))
  (boolZ (ltZ r1 i3) fun b5 =>
  ifB b5
  (some (Value.bool false))
  (wrap64 (Int.add r11 (Int.ofNat 1)) fun i6 =>
  S 1 (PAL.i r0 (PAL.i r1 (PAL.v r9 (PAL.i r10 (PAL.i i6 PAL.n))))))))
  (S 2 PAL.n)
noncomputable def P29x0 (h : Hp) (S : Nat → PAL → Option Value) (r0 : Int) (r1 : Int) (r2 : Value) : Option Value :=
  lenSK r2 fun i0 =>
  S 1 (PAL.i r0 (PAL.i r1 (PAL.v r2 (PAL.i i0 (PAL.i (Int.ofNat 0) PAL.n)))))
noncomputable def T29 (h : Hp) (S : Nat → PAL → Option Value) : Nat → PAL → Option Value := tabPC 0 (wI fun r0 => wI fun r1 => wV fun r2 => wN (P29x0 h S r0 r1 r2)) (tabPC 1 (wI fun r0 => wI fun r1 => wV fun r9 => wI fun r10 => wI fun r11 => wN (P29x1 h S r0 r1 r9 r10 r11)) (tabPC 2 (wN (P29x2 h S)) (tabPN)))
noncomputable def F29 (args : List Value) (h : Hp) : Option Value := plainO (packArgs [Kd.i .i64, Kd.i .i64, Kd.v] args fun al => G.rec' (T29 h) 1000000 0 al)
def nt29 : Nat := 3 + (24 - 3)
theorem q29x2 (h : Hp) (S : Nat → PAL → Option Value) : P29x2 h S = G.stepAt packP unpackP evXV (regP env pf1 nt29 h) (finP env Try.f29.results.toList) (G.collect B29 A29 []) 2 S PAL.n := by kernel_rfl
theorem q29x1 (h : Hp) (S : Nat → PAL → Option Value) (r0 : Int) (r1 : Int) (r9 : Value) (r10 : Int) (r11 : Int) : P29x1 h S r0 r1 r9 r10 r11 = G.stepAt packP unpackP evXV (regP env pf1 nt29 h) (finP env Try.f29.results.toList) (G.collect B29 A29 []) 1 S (PAL.i r0 (PAL.i r1 (PAL.v r9 (PAL.i r10 (PAL.i r11 PAL.n))))) := by kernel_rfl
theorem q29x0 (h : Hp) (S : Nat → PAL → Option Value) (r0 : Int) (r1 : Int) (r2 : Value) : P29x0 h S r0 r1 r2 = G.stepAt packP unpackP evXV (regP env pf1 nt29 h) (finP env Try.f29.results.toList) (G.collect B29 A29 []) 0 S (PAL.i r0 (PAL.i r1 (PAL.v r2 PAL.n))) := by kernel_rfl
theorem t29 (h : Hp) (S : Nat → PAL → Option Value) : TabP (fun l al => G.stepAt packP unpackP evXV (regP env pf1 nt29 h) (finP env Try.f29.results.toList) (G.collect B29 A29 []) l S al) (T29 h S) := by
  unfold T29
  refine TabP.cons 0 (fun vs0 q e0 => ?_) ?_
  · obtain ⟨r0, vs1, rfl, e1⟩ := wI_some e0
    obtain ⟨r1, vs2, rfl, e2⟩ := wI_some e1
    obtain ⟨r2, vs3, rfl, e3⟩ := wV_some e2
    obtain ⟨rfl, ee⟩ := wN_some e3
    exact (q29x0 h S r0 r1 r2).symm.trans ee
  refine TabP.cons 1 (fun vs0 q e0 => ?_) ?_
  · obtain ⟨r0, vs1, rfl, e1⟩ := wI_some e0
    obtain ⟨r1, vs2, rfl, e2⟩ := wI_some e1
    obtain ⟨r9, vs3, rfl, e3⟩ := wV_some e2
    obtain ⟨r10, vs4, rfl, e4⟩ := wI_some e3
    obtain ⟨r11, vs5, rfl, e5⟩ := wI_some e4
    obtain ⟨rfl, ee⟩ := wN_some e5
    exact (q29x1 h S r0 r1 r9 r10 r11).symm.trans ee
  refine TabP.cons 2 (fun vs0 q e0 => ?_) ?_
  · 
    obtain ⟨rfl, ee⟩ := wN_some e0
    exact (q29x2 h S).symm.trans ee
  exact TabP.nil
theorem r29 : PSound Try.prog 29 F29 := fun_soundP (C := C0) ok0 (pf := pf1) pfok1 (fn := Try.f29) (body := B29) (kinds := [Kd.i .i64, Kd.i .i64, Kd.v]) (A := A29) (T := T29) (by kernel_rfl) (by kernel_rfl) (by kernel_rfl) (by kernel_rfl) (fun h S => t29 h S)
noncomputable def pf2 : PF := pfC 29 F29 pf1
theorem pfok2 : PfSound Try.prog pf2 := pfC_ok r29 pfok1
noncomputable def orc2 := orcP 29 F29 orc1
noncomputable def C2 : Cfg := cfg orc2
theorem ok2 : C2.Ok := orcP_ok (C := C1) ok1 r29
noncomputable def B65 : Code := (Try.f65.body).getD .skip
noncomputable def A65 : G.Ann (List KI) := (G.Ann.node (some (0, [KI.reg 0 (Kd.i .u8)])) G.Ann.nil (G.Ann.node none G.Ann.nil G.Ann.nil))
noncomputable def P65x0 (h : Hp) (S : Nat → PAL → Option Value) (r0 : Int) : Option Value :=
  boolN (ltZ r0 (Int.ofNat 97)) fun b0 =>
  ifB b0
  (boolN (ltZ (Int.ofNat 122) r0) fun b1 =>
  some (Value.bool b1))
  (some (Value.bool false))
noncomputable def T65 (h : Hp) (S : Nat → PAL → Option Value) : Nat → PAL → Option Value := tabPC 0 (wI fun r0 => wN (P65x0 h S r0)) (tabPN)
noncomputable def F65 (args : List Value) (h : Hp) : Option Value := plainO (packArgs [Kd.i .u8] args fun al => G.rec' (T65 h) 1000000 0 al)
def nt65 : Nat := 1 + (9 - 1)
theorem q65x0 (h : Hp) (S : Nat → PAL → Option Value) (r0 : Int) : P65x0 h S r0 = G.stepAt packP unpackP evXV (regP env pf2 nt65 h) (finP env Try.f65.results.toList) (G.collect B65 A65 []) 0 S (PAL.i r0 PAL.n) := by kernel_rfl
theorem t65 (h : Hp) (S : Nat → PAL → Option Value) : TabP (fun l al => G.stepAt packP unpackP evXV (regP env pf2 nt65 h) (finP env Try.f65.results.toList) (G.collect B65 A65 []) l S al) (T65 h S) := by
  unfold T65
  refine TabP.cons 0 (fun vs0 q e0 => ?_) ?_
  · obtain ⟨r0, vs1, rfl, e1⟩ := wI_some e0
    obtain ⟨rfl, ee⟩ := wN_some e1
    exact (q65x0 h S r0).symm.trans ee
  exact TabP.nil
theorem r65 : PSound Try.prog 65 F65 := fun_soundP (C := C0) ok0 (pf := pf2) pfok2 (fn := Try.f65) (body := B65) (kinds := [Kd.i .u8]) (A := A65) (T := T65) (by kernel_rfl) (by kernel_rfl) (by kernel_rfl) (by kernel_rfl) (fun h S => t65 h S)
noncomputable def pf3 : PF := pfC 65 F65 pf2
theorem pfok3 : PfSound Try.prog pf3 := pfC_ok r65 pfok2
noncomputable def orc3 := orcP 65 F65 orc2
noncomputable def C3 : Cfg := cfg orc3
theorem ok3 : C3.Ok := orcP_ok (C := C2) ok2 r65
noncomputable def B66 : Code := (Try.f66.body).getD .skip
noncomputable def A66 : G.Ann (List KI) := (G.Ann.node (some (0, [KI.reg 0 (Kd.i .u8)])) G.Ann.nil (G.Ann.node none G.Ann.nil G.Ann.nil))
noncomputable def P66x0 (h : Hp) (S : Nat → PAL → Option Value) (r0 : Int) : Option Value :=
  boolN (ltZ r0 (Int.ofNat 48)) fun b0 =>
  ifB b0
  (boolN (ltZ (Int.ofNat 57) r0) fun b1 =>
  some (Value.bool b1))
  (some (Value.bool false))
noncomputable def T66 (h : Hp) (S : Nat → PAL → Option Value) : Nat → PAL → Option Value := tabPC 0 (wI fun r0 => wN (P66x0 h S r0)) (tabPN)
noncomputable def F66 (args : List Value) (h : Hp) : Option Value := plainO (packArgs [Kd.i .u8] args fun al => G.rec' (T66 h) 1000000 0 al)
def nt66 : Nat := 1 + (9 - 1)
theorem q66x0 (h : Hp) (S : Nat → PAL → Option Value) (r0 : Int) : P66x0 h S r0 = G.stepAt packP unpackP evXV (regP env pf3 nt66 h) (finP env Try.f66.results.toList) (G.collect B66 A66 []) 0 S (PAL.i r0 PAL.n) := by kernel_rfl
theorem t66 (h : Hp) (S : Nat → PAL → Option Value) : TabP (fun l al => G.stepAt packP unpackP evXV (regP env pf3 nt66 h) (finP env Try.f66.results.toList) (G.collect B66 A66 []) l S al) (T66 h S) := by
  unfold T66
  refine TabP.cons 0 (fun vs0 q e0 => ?_) ?_
  · obtain ⟨r0, vs1, rfl, e1⟩ := wI_some e0
    obtain ⟨rfl, ee⟩ := wN_some e1
    exact (q66x0 h S r0).symm.trans ee
  exact TabP.nil
theorem r66 : PSound Try.prog 66 F66 := fun_soundP (C := C0) ok0 (pf := pf3) pfok3 (fn := Try.f66) (body := B66) (kinds := [Kd.i .u8]) (A := A66) (T := T66) (by kernel_rfl) (by kernel_rfl) (by kernel_rfl) (by kernel_rfl) (fun h S => t66 h S)
noncomputable def pf4 : PF := pfC 66 F66 pf3
theorem pfok4 : PfSound Try.prog pf4 := pfC_ok r66 pfok3
noncomputable def orc4 := orcP 66 F66 orc3
noncomputable def C4 : Cfg := cfg orc4
theorem ok4 : C4.Ok := orcP_ok (C := C3) ok3 r66
noncomputable def B53 : Code := (Try.f53.body).getD .skip
def A53 : Ann := (Ann.node (some (0, [(0, Kd.v)])) Ann.nil (Ann.node none (Ann.node none Ann.nil (Ann.node none (Ann.node none Ann.nil Ann.nil) Ann.nil)) (Ann.node none (Ann.node none Ann.nil (Ann.node none (Ann.node (some (1, [(0, Kd.v), (16, Kd.i .i64), (17, Kd.i .i64)])) (Ann.node none Ann.nil (Ann.node none (Ann.node none Ann.nil Ann.nil) (Ann.node none (Ann.node none (Ann.node none Ann.nil (Ann.node none Ann.nil (Ann.node none (Ann.node none Ann.nil Ann.nil) Ann.nil))) Ann.nil) Ann.nil))) Ann.nil) Ann.nil)) (Ann.node (some (2, [])) Ann.nil Ann.nil))))
noncomputable def P53x2 (S : Sg) (h : Hp) : CRes :=
  some ((Value.bool true), h)
noncomputable def P53x1 (S : Sg) (r0 : Value) (r16 : Int) (r17 : Int) (h : Hp) : CRes :=
  boolZ (ltZ r17 r16) fun b0 =>
  ifB b0
  (optK (indexV env 9 r0 (Value.int .i64 r17)) fun v1 =>
  intK .u8 v1 fun i2 =>
  pairK (optK (F65 [(Value.int .u8 i2)] h) fun v => some (v, h)) fun v3 h3 =>
  boolK v3 fun b4 =>
  boolN b4 fun b5 =>
  ifB b5
  (optK (indexV env 9 r0 (Value.int .i64 r17)) fun v6 =>
  intK .u8 v6 fun i7 =>
  pairK (optK (F66 [(Value.int .u8 i7)] h3) fun v => some (v, h3)) fun v8 h8 =>
  boolK v8 fun b9 =>
  boolN b9 fun b10 =>
  ifB b10
  (optK (indexV env 9 r0 (Value.int .i64 r17)) fun v11 =>
  intK .u8 v11 fun i12 =>
  boolN (eqZ i12 (Int.ofNat 46)) fun b13 =>
  ifB b13
  (some ((Value.bool false), h8))
  (wrap64 (Int.add r17 (Int.ofNat 1)) fun i14 =>
  S 1 (AL.v r0 (AL.i r16 (AL.i i14 AL.n))) h8))
  (wrap64 (Int.add r17 (Int.ofNat 1)) fun i15 =>
  S 1 (AL.v r0 (AL.i r16 (AL.i i15 AL.n))) h8))
  (wrap64 (Int.add r17 (Int.ofNat 1)) fun i16 =>
  S 1 (AL.v r0 (AL.i r16 (AL.i i16 AL.n))) h3))
  (S 2 AL.n h)
noncomputable def P53x0 (S : Sg) (r0 : Value) (h : Hp) : CRes :=
  lenBK r0 fun i0 =>
  pairK (buildSliceV env h 53 1 (List.toArray [(0, (Value.int .i64 i0))])) fun v1 h1 =>
  pairK (optK (F29 [(Value.int .i64 (Int.ofNat 1)), (Value.int .i64 (Int.ofNat 16)), v1] h1) fun v => some (v, h1)) fun v2 h2 =>
  boolK v2 fun b3 =>
  boolN b3 fun b4 =>
  ifB b4
  (some ((Value.bool false), h2))
  (optK (indexV env 9 r0 (Value.int .i64 (Int.ofNat 0))) fun v5 =>
  intK .u8 v5 fun i6 =>
  pairK (optK (F65 [(Value.int .u8 i6)] h2) fun v => some (v, h2)) fun v7 h7 =>
  boolK v7 fun b8 =>
  boolN b8 fun b9 =>
  ifB b9
  (some ((Value.bool false), h7))
  (lenBK r0 fun i10 =>
  S 1 (AL.v r0 (AL.i i10 (AL.i (Int.ofNat 0) AL.n))) h7))
noncomputable def T53 (S : Sg) : Sg := tabC 0 (uV fun r0 => uN fun h => P53x0 S r0 h) (tabC 1 (uV fun r0 => uI fun r16 => uI fun r17 => uN fun h => P53x1 S r0 r16 r17 h) (tabC 2 (uN fun h => P53x2 S  h) (tabN)))
noncomputable def F53 (args : List Value) (h : Hp) : CRes := packVals [Kd.v] args fun al => rec' T53 1000000 0 al h
def nt53 : Nat := 1 + (39 - 1)
theorem q53x2 (S : Sg) (h : Hp) : P53x2 S  h = stepAt (regK env orc4 (nt53)) (finK env Try.f53.results.toList) (collect B53 A53 []) 2 S AL.n h := by kernel_rfl
theorem q53x1 (S : Sg) (r0 : Value) (r16 : Int) (r17 : Int) (h : Hp) : P53x1 S r0 r16 r17 h = stepAt (regK env orc4 (nt53)) (finK env Try.f53.results.toList) (collect B53 A53 []) 1 S (AL.v r0 (AL.i r16 (AL.i r17 AL.n))) h := by kernel_rfl
theorem q53x0 (S : Sg) (r0 : Value) (h : Hp) : P53x0 S r0 h = stepAt (regK env orc4 (nt53)) (finK env Try.f53.results.toList) (collect B53 A53 []) 0 S (AL.v r0 AL.n) h := by kernel_rfl
theorem t53 (S : Sg) : Tab (fun l vs h => stepAt (regK env orc4 nt53) (finK env Try.f53.results.toList) (collect B53 A53 []) l S vs h) (T53 S) := by
  unfold T53
  refine Tab.cons 0 (fun vs0 h q e0 => ?_) ?_
  · obtain ⟨r0, vs1, rfl, e1⟩ := uV_some e0
    obtain ⟨rfl, ee⟩ := uN_some e1
    exact (q53x0 S r0 h).symm.trans ee
  refine Tab.cons 1 (fun vs0 h q e0 => ?_) ?_
  · obtain ⟨r0, vs1, rfl, e1⟩ := uV_some e0
    obtain ⟨r16, vs2, rfl, e2⟩ := uI_some e1
    obtain ⟨r17, vs3, rfl, e3⟩ := uI_some e2
    obtain ⟨rfl, ee⟩ := uN_some e3
    exact (q53x1 S r0 r16 r17 h).symm.trans ee
  refine Tab.cons 2 (fun vs0 h q e0 => ?_) ?_
  · 
    obtain ⟨rfl, ee⟩ := uN_some e0
    exact (q53x2 S  h).symm.trans ee
  exact Tab.nil
theorem r53 : ∀ args h v h', F53 args h = some (v, h') → Runs (C4) (.call 53 args.toArray h) (.ret v h') := by
  intro args h v h' e
  exact fun_sound (C := C4) (fn := Try.f53) (body := B53) (np := 1) (A := A53) (T := T53) (kinds := [Kd.v]) (by kernel_rfl) (by kernel_rfl) (by kernel_rfl) (by kernel_rfl) (regK_ok env_ok) (by kernel_rfl) (fun S => t53 S) e
noncomputable def orc5 := orcQ 53 F53 orc4
noncomputable def C5 : Cfg := cfg orc5
theorem ok5 : C5.Ok := orcQ_ok (C := C4) ok4 r53
noncomputable def B67 : Code := (Try.f67.body).getD .skip
def A67 : Ann := (Ann.node (some (0, [(0, Kd.v), (1, Kd.v)])) Ann.nil (Ann.node none (Ann.node none Ann.nil (Ann.node none (Ann.node (some (1, [(0, Kd.v), (1, Kd.v), (7, Kd.i .i64), (8, Kd.i .i64)])) (Ann.node none Ann.nil (Ann.node none (Ann.node none Ann.nil Ann.nil) (Ann.node none (Ann.node none (Ann.node none Ann.nil (Ann.node none Ann.nil (Ann.node none (Ann.node none Ann.nil Ann.nil) Ann.nil))) Ann.nil) Ann.nil))) Ann.nil) Ann.nil)) (Ann.node (some (2, [])) Ann.nil Ann.nil)))
noncomputable def P67x2 (S : Sg) (h : Hp) : CRes :=
  some ((Value.int .i64 (Int.negSucc 0)), h)
noncomputable def P67x1 (S : Sg) (r0 : Value) (r1 : Value) (r7 : Int) (r8 : Int) (h : Hp) : CRes :=
  boolZ (ltZ r8 r7) fun b0 =>
  ifB b0
  (idxSK 6 r0 r8 fun v1 =>
  loadNK 6 h v1 fun v2 =>
  pairK (callF orc5 r1 [v2] h) fun v3 h3 =>
  boolK v3 fun b4 =>
  ifB b4
  (some ((Value.int .i64 r8), h3))
  (wrap64 (Int.add r8 (Int.ofNat 1)) fun i5 =>
  S 1 (AL.v r0 (AL.v r1 (AL.i r7 (AL.i i5 AL.n)))) h3))
  (S 2 AL.n h)
noncomputable def P67x0 (S : Sg) (r0 : Value) (r1 : Value) (h : Hp) : CRes :=
  lenSK r0 fun i0 =>
  S 1 (AL.v r0 (AL.v r1 (AL.i i0 (AL.i (Int.ofNat 0) AL.n)))) h
noncomputable def T67 (S : Sg) : Sg := tabC 0 (uV fun r0 => uV fun r1 => uN fun h => P67x0 S r0 r1 h) (tabC 1 (uV fun r0 => uV fun r1 => uI fun r7 => uI fun r8 => uN fun h => P67x1 S r0 r1 r7 r8 h) (tabC 2 (uN fun h => P67x2 S  h) (tabN)))
noncomputable def F67 (args : List Value) (h : Hp) : CRes := packVals [Kd.v, Kd.v] args fun al => rec' T67 1000000 0 al h
def nt67 : Nat := 2 + (19 - 2)
theorem q67x2 (S : Sg) (h : Hp) : P67x2 S  h = stepAt (regK env orc5 (nt67)) (finK env Try.f67.results.toList) (collect B67 A67 []) 2 S AL.n h := by kernel_rfl
theorem q67x1 (S : Sg) (r0 : Value) (r1 : Value) (r7 : Int) (r8 : Int) (h : Hp) : P67x1 S r0 r1 r7 r8 h = stepAt (regK env orc5 (nt67)) (finK env Try.f67.results.toList) (collect B67 A67 []) 1 S (AL.v r0 (AL.v r1 (AL.i r7 (AL.i r8 AL.n)))) h := by kernel_rfl
theorem q67x0 (S : Sg) (r0 : Value) (r1 : Value) (h : Hp) : P67x0 S r0 r1 h = stepAt (regK env orc5 (nt67)) (finK env Try.f67.results.toList) (collect B67 A67 []) 0 S (AL.v r0 (AL.v r1 AL.n)) h := by kernel_rfl
theorem t67 (S : Sg) : Tab (fun l vs h => stepAt (regK env orc5 nt67) (finK env Try.f67.results.toList) (collect B67 A67 []) l S vs h) (T67 S) := by
  unfold T67
  refine Tab.cons 0 (fun vs0 h q e0 => ?_) ?_
  · obtain ⟨r0, vs1, rfl, e1⟩ := uV_some e0
    obtain ⟨r1, vs2, rfl, e2⟩ := uV_some e1
    obtain ⟨rfl, ee⟩ := uN_some e2
    exact (q67x0 S r0 r1 h).symm.trans ee
  refine Tab.cons 1 (fun vs0 h q e0 => ?_) ?_
  · obtain ⟨r0, vs1, rfl, e1⟩ := uV_some e0
    obtain ⟨r1, vs2, rfl, e2⟩ := uV_some e1
    obtain ⟨r7, vs3, rfl, e3⟩ := uI_some e2
    obtain ⟨r8, vs4, rfl, e4⟩ := uI_some e3
    obtain ⟨rfl, ee⟩ := uN_some e4
    exact (q67x1 S r0 r1 r7 r8 h).symm.trans ee
  refine Tab.cons 2 (fun vs0 h q e0 => ?_) ?_
  · 
    obtain ⟨rfl, ee⟩ := uN_some e0
    exact (q67x2 S  h).symm.trans ee
  exact Tab.nil
theorem r67 : ∀ args h v h', F67 args h = some (v, h') → Runs (C5) (.call 67 args.toArray h) (.ret v h') := by
  intro args h v h' e
  exact fun_sound (C := C5) (fn := Try.f67) (body := B67) (np := 2) (A := A67) (T := T67) (kinds := [Kd.v, Kd.v]) (by kernel_rfl) (by kernel_rfl) (by kernel_rfl) (by kernel_rfl) (regK_ok env_ok) (by kernel_rfl) (fun S => t67 S) e
noncomputable def orc6 := orcQ 67 F67 orc5
noncomputable def C6 : Cfg := cfg orc6
theorem ok6 : C6.Ok := orcQ_ok (C := C5) ok5 r67
noncomputable def B54 : Code := (Try.f54.body).getD .skip
def A54 : Ann := (Ann.node (some (0, [(0, Kd.v), (1, Kd.v)])) Ann.nil (Ann.node none Ann.nil Ann.nil))
noncomputable def P54x0 (S : Sg) (r0 : Value) (r1 : Value) (h : Hp) : CRes :=
  pairK (callQ F67 [r0, r1] h) fun v0 h0 =>
  intK .i64 v0 fun i1 =>
  boolN (ltZ i1 (Int.ofNat 0)) fun b2 =>
  some ((Value.bool b2), h0)
noncomputable def T54 (S : Sg) : Sg := tabC 0 (uV fun r0 => uV fun r1 => uN fun h => P54x0 S r0 r1 h) (tabN)
noncomputable def F54 (args : List Value) (h : Hp) : CRes := packVals [Kd.v, Kd.v] args fun al => rec' T54 1000000 0 al h
def nt54 : Nat := 2 + (9 - 2)
theorem q54x0 (S : Sg) (r0 : Value) (r1 : Value) (h : Hp) : P54x0 S r0 r1 h = stepAt (regK env orc6 (nt54)) (finK env Try.f54.results.toList) (collect B54 A54 []) 0 S (AL.v r0 (AL.v r1 AL.n)) h := by kernel_rfl
theorem t54 (S : Sg) : Tab (fun l vs h => stepAt (regK env orc6 nt54) (finK env Try.f54.results.toList) (collect B54 A54 []) l S vs h) (T54 S) := by
  unfold T54
  refine Tab.cons 0 (fun vs0 h q e0 => ?_) ?_
  · obtain ⟨r0, vs1, rfl, e1⟩ := uV_some e0
    obtain ⟨r1, vs2, rfl, e2⟩ := uV_some e1
    obtain ⟨rfl, ee⟩ := uN_some e2
    exact (q54x0 S r0 r1 h).symm.trans ee
  exact Tab.nil
theorem r54 : ∀ args h v h', F54 args h = some (v, h') → Runs (C6) (.call 54 args.toArray h) (.ret v h') := by
  intro args h v h' e
  exact fun_sound (C := C6) (fn := Try.f54) (body := B54) (np := 2) (A := A54) (T := T54) (kinds := [Kd.v, Kd.v]) (by kernel_rfl) (by kernel_rfl) (by kernel_rfl) (by kernel_rfl) (regK_ok env_ok) (by kernel_rfl) (fun S => t54 S) e
noncomputable def orc7 := orcQ 54 F54 orc6
noncomputable def C7 : Cfg := cfg orc7
theorem ok7 : C7.Ok := orcQ_ok (C := C6) ok6 r54
noncomputable def B38 : Code := (Try.f38.body).getD .skip
def A38 : Ann := (Ann.node (some (0, [(0, Kd.v), (1, Kd.v)])) Ann.nil (Ann.node none (Ann.node none (Ann.node none Ann.nil (Ann.node none (Ann.node none Ann.nil Ann.nil) (Ann.node none Ann.nil (Ann.node none (Ann.node none Ann.nil Ann.nil) (Ann.node none (Ann.node none Ann.nil (Ann.node none Ann.nil Ann.nil)) (Ann.node none (Ann.node none Ann.nil Ann.nil) Ann.nil)))))) Ann.nil) (Ann.node none Ann.nil Ann.nil)))
noncomputable def P38x0 (S : Sg) (r0 : Value) (r1 : Value) (h : Hp) : CRes :=
  allocK h 38 (Array.toList (Value.cells r1)) fun a0 h0 =>
  ptrAddK 0 a0 fun v1 =>
  load1K h0 v1 fun v2 =>
  pairK (callQ F53 [v2] h0) fun v3 h3 =>
  boolK v3 fun b4 =>
  boolN b4 fun b5 =>
  ifB b5
  (some ((Value.int .i64 (Int.ofNat 6)), h3))
  (pairK (callQ F54 [r0, (Value.func (.func 55) (List.toArray []) (List.toArray [a0]))] h3) fun v6 h6 =>
  boolK v6 fun b7 =>
  ifB b7
  (some ((Value.int .i64 (Int.ofNat 5)), h6))
  (ptrAddK 1 a0 fun v8 =>
  optK (sliceV env h6 23 v8 none none none) fun v9 =>
  pairK (optK (F29 [(Value.int .i64 (Int.ofNat 0)), (Value.int .i64 (Int.ofNat 40)), v9] h6) fun v => some (v, h6)) fun v10 h10 =>
  boolK v10 fun b11 =>
  boolN b11 fun b12 =>
  ifB b12
  (ifB b12
  (some ((Value.int .i64 (Int.ofNat 7)), h10))
  (some ((Value.int .i64 (Int.ofNat 0)), h10)))
  (ptrAddK 4 a0 fun v13 =>
  load1K h10 v13 fun v14 =>
  intK .i64 v14 fun i15 =>
  pairK (buildSliceV env h10 53 1 (List.toArray [(0, (Value.int .i64 i15))])) fun v16 h16 =>
  pairK (optK (F29 [(Value.int .i64 (Int.ofNat 0)), (Value.int .i64 (Int.ofNat 364)), v16] h16) fun v => some (v, h16)) fun v17 h17 =>
  boolK v17 fun b18 =>
  boolN b18 fun b19 =>
  ifB b19
  (some ((Value.int .i64 (Int.ofNat 7)), h17))
  (some ((Value.int .i64 (Int.ofNat 0)), h17)))))
noncomputable def T38 (S : Sg) : Sg := tabC 0 (uV fun r0 => uV fun r1 => uN fun h => P38x0 S r0 r1 h) (tabN)
noncomputable def F38 (args : List Value) (h : Hp) : CRes := packVals [Kd.v, Kd.v] args fun al => rec' T38 1000000 0 al h
def nt38 : Nat := 2 + (24 - 2)
theorem q38x0 (S : Sg) (r0 : Value) (r1 : Value) (h : Hp) : P38x0 S r0 r1 h = stepAt (regK env orc7 (nt38)) (finK env Try.f38.results.toList) (collect B38 A38 []) 0 S (AL.v r0 (AL.v r1 AL.n)) h := by kernel_rfl
theorem t38 (S : Sg) : Tab (fun l vs h => stepAt (regK env orc7 nt38) (finK env Try.f38.results.toList) (collect B38 A38 []) l S vs h) (T38 S) := by
  unfold T38
  refine Tab.cons 0 (fun vs0 h q e0 => ?_) ?_
  · obtain ⟨r0, vs1, rfl, e1⟩ := uV_some e0
    obtain ⟨r1, vs2, rfl, e2⟩ := uV_some e1
    obtain ⟨rfl, ee⟩ := uN_some e2
    exact (q38x0 S r0 r1 h).symm.trans ee
  exact Tab.nil
theorem r38 : ∀ args h v h', F38 args h = some (v, h') → Runs (C7) (.call 38 args.toArray h) (.ret v h') := by
  intro args h v h' e
  exact fun_sound (C := C7) (fn := Try.f38) (body := B38) (np := 2) (A := A38) (T := T38) (kinds := [Kd.v, Kd.v]) (by kernel_rfl) (by kernel_rfl) (by kernel_rfl) (by kernel_rfl) (regK_ok env_ok) (by kernel_rfl) (fun S => t38 S) e
noncomputable def orc8 := orcQ 38 F38 orc7
noncomputable def C8 : Cfg := cfg orc8
theorem ok8 : C8.Ok := orcQ_ok (C := C7) ok7 r38
noncomputable def B58 : Code := (Try.f58.body).getD .skip
noncomputable def A58 : G.Ann (List KI) := (G.Ann.node (some (0, [KI.reg 0 (Kd.v), KI.reg 1 (Kd.v)])) G.Ann.nil (G.Ann.node none G.Ann.nil G.Ann.nil))
noncomputable def P58x0 (h : Hp) (S : Nat → PAL → Option Value) (r0 : Value) (r1 : Value) : Option Value :=
  forceL (Array.toList (Value.cells r0)) fun c0 =>
  nthR c0 0 fun v1 =>
  ptrAddK 0 r1 fun v2 =>
  load1K h v2 fun v3 =>
  optK (binV env .eql 9 (Operand.tmp 5) (Operand.tmp 7) v1 v3) fun v4 =>
  boolK v4 fun b5 =>
  some (Value.bool b5)
noncomputable def T58 (h : Hp) (S : Nat → PAL → Option Value) : Nat → PAL → Option Value := tabPC 0 (wV fun r0 => wV fun r1 => wN (P58x0 h S r0 r1)) (tabPN)
noncomputable def F58 (args : List Value) (h : Hp) : Option Value := plainO (packArgs [Kd.v, Kd.v] args fun al => G.rec' (T58 h) 1000000 0 al)
def nt58 : Nat := 2 + (9 - 2)
theorem q58x0 (h : Hp) (S : Nat → PAL → Option Value) (r0 : Value) (r1 : Value) : P58x0 h S r0 r1 = G.stepAt packP unpackP evXV (regP env pf4 nt58 h) (finP env Try.f58.results.toList) (G.collect B58 A58 []) 0 S (PAL.v r0 (PAL.v r1 PAL.n)) := by kernel_rfl
theorem t58 (h : Hp) (S : Nat → PAL → Option Value) : TabP (fun l al => G.stepAt packP unpackP evXV (regP env pf4 nt58 h) (finP env Try.f58.results.toList) (G.collect B58 A58 []) l S al) (T58 h S) := by
  unfold T58
  refine TabP.cons 0 (fun vs0 q e0 => ?_) ?_
  · obtain ⟨r0, vs1, rfl, e1⟩ := wV_some e0
    obtain ⟨r1, vs2, rfl, e2⟩ := wV_some e1
    obtain ⟨rfl, ee⟩ := wN_some e2
    exact (q58x0 h S r0 r1).symm.trans ee
  exact TabP.nil
theorem r58 : PSound Try.prog 58 F58 := fun_soundP (C := C0) ok0 (pf := pf4) pfok4 (fn := Try.f58) (body := B58) (kinds := [Kd.v, Kd.v]) (A := A58) (T := T58) (by kernel_rfl) (by kernel_rfl) (by kernel_rfl) (by kernel_rfl) (fun h S => t58 h S)
noncomputable def pf5 : PF := pfC 58 F58 pf4
theorem pfok5 : PfSound Try.prog pf5 := pfC_ok r58 pfok4
noncomputable def orc9 := orcP 58 F58 orc8
noncomputable def C9 : Cfg := cfg orc9
theorem ok9 : C9.Ok := orcP_ok (C := C8) ok8 r58
noncomputable def B68 : Code := (Try.f68.body).getD .skip
def A68 : Ann := (Ann.node (some (0, [(0, Kd.v), (1, Kd.v)])) Ann.nil (Ann.node none (Ann.node none Ann.nil (Ann.node none (Ann.node (some (1, [(0, Kd.v), (1, Kd.v), (7, Kd.i .i64), (8, Kd.i .i64)])) (Ann.node none Ann.nil (Ann.node none (Ann.node none Ann.nil Ann.nil) (Ann.node none (Ann.node none (Ann.node none Ann.nil (Ann.node none Ann.nil (Ann.node none (Ann.node none Ann.nil Ann.nil) Ann.nil))) Ann.nil) Ann.nil))) Ann.nil) Ann.nil)) (Ann.node (some (2, [])) Ann.nil Ann.nil)))
noncomputable def P68x2 (S : Sg) (h : Hp) : CRes :=
  some ((Value.int .i64 (Int.negSucc 0)), h)
noncomputable def P68x1 (S : Sg) (r0 : Value) (r1 : Value) (r7 : Int) (r8 : Int) (h : Hp) : CRes :=
  boolZ (ltZ r8 r7) fun b0 =>
  ifB b0
  (idxSK 6 r0 r8 fun v1 =>
  loadNK 6 h v1 fun v2 =>
  pairK (callF orc9 r1 [v2] h) fun v3 h3 =>
  boolK v3 fun b4 =>
  ifB b4
  (some ((Value.int .i64 r8), h3))
  (wrap64 (Int.add r8 (Int.ofNat 1)) fun i5 =>
  S 1 (AL.v r0 (AL.v r1 (AL.i r7 (AL.i i5 AL.n)))) h3))
  (S 2 AL.n h)
noncomputable def P68x0 (S : Sg) (r0 : Value) (r1 : Value) (h : Hp) : CRes :=
  lenSK r0 fun i0 =>
  S 1 (AL.v r0 (AL.v r1 (AL.i i0 (AL.i (Int.ofNat 0) AL.n)))) h
noncomputable def T68 (S : Sg) : Sg := tabC 0 (uV fun r0 => uV fun r1 => uN fun h => P68x0 S r0 r1 h) (tabC 1 (uV fun r0 => uV fun r1 => uI fun r7 => uI fun r8 => uN fun h => P68x1 S r0 r1 r7 r8 h) (tabC 2 (uN fun h => P68x2 S  h) (tabN)))
noncomputable def F68 (args : List Value) (h : Hp) : CRes := packVals [Kd.v, Kd.v] args fun al => rec' T68 1000000 0 al h
def nt68 : Nat := 2 + (19 - 2)
theorem q68x2 (S : Sg) (h : Hp) : P68x2 S  h = stepAt (regK env orc9 (nt68)) (finK env Try.f68.results.toList) (collect B68 A68 []) 2 S AL.n h := by kernel_rfl
theorem q68x1 (S : Sg) (r0 : Value) (r1 : Value) (r7 : Int) (r8 : Int) (h : Hp) : P68x1 S r0 r1 r7 r8 h = stepAt (regK env orc9 (nt68)) (finK env Try.f68.results.toList) (collect B68 A68 []) 1 S (AL.v r0 (AL.v r1 (AL.i r7 (AL.i r8 AL.n)))) h := by kernel_rfl
theorem q68x0 (S : Sg) (r0 : Value) (r1 : Value) (h : Hp) : P68x0 S r0 r1 h = stepAt (regK env orc9 (nt68)) (finK env Try.f68.results.toList) (collect B68 A68 []) 0 S (AL.v r0 (AL.v r1 AL.n)) h := by kernel_rfl
theorem t68 (S : Sg) : Tab (fun l vs h => stepAt (regK env orc9 nt68) (finK env Try.f68.results.toList) (collect B68 A68 []) l S vs h) (T68 S) := by
  unfold T68
  refine Tab.cons 0 (fun vs0 h q e0 => ?_) ?_
  · obtain ⟨r0, vs1, rfl, e1⟩ := uV_some e0
    obtain ⟨r1, vs2, rfl, e2⟩ := uV_some e1
    obtain ⟨rfl, ee⟩ := uN_some e2
    exact (q68x0 S r0 r1 h).symm.trans ee
  refine Tab.cons 1 (fun vs0 h q e0 => ?_) ?_
  · obtain ⟨r0, vs1, rfl, e1⟩ := uV_some e0
    obtain ⟨r1, vs2, rfl, e2⟩ := uV_some e1
    obtain ⟨r7, vs3, rfl, e3⟩ := uI_some e2
    obtain ⟨r8, vs4, rfl, e4⟩ := uI_some e3
    obtain ⟨rfl, ee⟩ := uN_some e4
    exact (q68x1 S r0 r1 r7 r8 h).symm.trans ee
  refine Tab.cons 2 (fun vs0 h q e0 => ?_) ?_
  · 
    obtain ⟨rfl, ee⟩ := uN_some e0
    exact (q68x2 S  h).symm.trans ee
  exact Tab.nil
theorem r68 : ∀ args h v h', F68 args h = some (v, h') → Runs (C9) (.call 68 args.toArray h) (.ret v h') := by
  intro args h v h' e
  exact fun_sound (C := C9) (fn := Try.f68) (body := B68) (np := 2) (A := A68) (T := T68) (kinds := [Kd.v, Kd.v]) (by kernel_rfl) (by kernel_rfl) (by kernel_rfl) (by kernel_rfl) (regK_ok env_ok) (by kernel_rfl) (fun S => t68 S) e
noncomputable def orc10 := orcQ 68 F68 orc9
noncomputable def C10 : Cfg := cfg orc10
theorem ok10 : C10.Ok := orcQ_ok (C := C9) ok9 r68
noncomputable def B57 : Code := (Try.f57.body).getD .skip
def A57 : Ann := (Ann.node (some (0, [(0, Kd.v), (1, Kd.v)])) Ann.nil (Ann.node none Ann.nil Ann.nil))
noncomputable def P57x0 (S : Sg) (r0 : Value) (r1 : Value) (h : Hp) : CRes :=
  pairK (callQ F68 [r0, r1] h) fun v0 h0 =>
  intK .i64 v0 fun i1 =>
  boolN (ltZ i1 (Int.ofNat 0)) fun b2 =>
  some ((Value.bool b2), h0)
noncomputable def T57 (S : Sg) : Sg := tabC 0 (uV fun r0 => uV fun r1 => uN fun h => P57x0 S r0 r1 h) (tabN)
noncomputable def F57 (args : List Value) (h : Hp) : CRes := packVals [Kd.v, Kd.v] args fun al => rec' T57 1000000 0 al h
def nt57 : Nat := 2 + (9 - 2)
theorem q57x0 (S : Sg) (r0 : Value) (r1 : Value) (h : Hp) : P57x0 S r0 r1 h = stepAt (regK env orc10 (nt57)) (finK env Try.f57.results.toList) (collect B57 A57 []) 0 S (AL.v r0 (AL.v r1 AL.n)) h := by kernel_rfl
theorem t57 (S : Sg) : Tab (fun l vs h => stepAt (regK env orc10 nt57) (finK env Try.f57.results.toList) (collect B57 A57 []) l S vs h) (T57 S) := by
  unfold T57
  refine Tab.cons 0 (fun vs0 h q e0 => ?_) ?_
  · obtain ⟨r0, vs1, rfl, e1⟩ := uV_some e0
    obtain ⟨r1, vs2, rfl, e2⟩ := uV_some e1
    obtain ⟨rfl, ee⟩ := uN_some e2
    exact (q57x0 S r0 r1 h).symm.trans ee
  exact Tab.nil
theorem r57 : ∀ args h v h', F57 args h = some (v, h') → Runs (C10) (.call 57 args.toArray h) (.ret v h') := by
  intro args h v h' e
  exact fun_sound (C := C10) (fn := Try.f57) (body := B57) (np := 2) (A := A57) (T := T57) (kinds := [Kd.v, Kd.v]) (by kernel_rfl) (by kernel_rfl) (by kernel_rfl) (by kernel_rfl) (regK_ok env_ok) (by kernel_rfl) (fun S => t57 S) e
noncomputable def orc11 := orcQ 57 F57 orc10
noncomputable def C11 : Cfg := cfg orc11
theorem ok11 : C11.Ok := orcQ_ok (C := C10) ok10 r57
noncomputable def B40 : Code := (Try.f40.body).getD .skip
def A40 : Ann := (Ann.node (some (0, [(0, Kd.v), (1, Kd.v)])) Ann.nil (Ann.node none (Ann.node none (Ann.node none Ann.nil (Ann.node none (Ann.node none Ann.nil Ann.nil) (Ann.node none Ann.nil (Ann.node none (Ann.node none Ann.nil Ann.nil) (Ann.node none (Ann.node none Ann.nil (Ann.node none Ann.nil Ann.nil)) (Ann.node (some (1, [(3, Kd.v), (14, Kd.b)])) (Ann.node none Ann.nil Ann.nil) (Ann.node none (Ann.node none Ann.nil (Ann.node none Ann.nil Ann.nil)) (Ann.node none (Ann.node none Ann.nil Ann.nil) Ann.nil)))))))) Ann.nil) (Ann.node (some (2, [])) Ann.nil Ann.nil)))
noncomputable def P40x2 (S : Sg) (h : Hp) : CRes :=
  some ((Value.int .i64 (Int.ofNat 0)), h)
noncomputable def P40x1 (S : Sg) (r3 : Value) (r14 : Bool) (h : Hp) : CRes :=
  ifB r14
  (some ((Value.int .i64 (Int.ofNat 7)), h))
  (ptrAddK 2 r3 fun v0 =>
  ptrAddK 0 v0 fun v1 =>
  load1K h v1 fun v2 =>
  intK .i64 v2 fun i3 =>
  ptrAddK 2 r3 fun v4 =>
  ptrAddK 1 v4 fun v5 =>
  load1K h v5 fun v6 =>
  intK .i64 v6 fun i7 =>
  boolZ (ltZ i7 i3) fun b8 =>
  ifB b8
  (ifB b8
  (some ((Value.int .i64 (Int.ofNat 2)), h))
  (S 2 AL.n h))
  (ptrAddK 4 r3 fun v9 =>
  ptrAddK 0 v9 fun v10 =>
  load1K h v10 fun v11 =>
  intK .i64 v11 fun i12 =>
  ptrAddK 4 r3 fun v13 =>
  ptrAddK 1 v13 fun v14 =>
  load1K h v14 fun v15 =>
  intK .i64 v15 fun i16 =>
  boolZ (ltZ i16 i12) fun b17 =>
  ifB b17
  (some ((Value.int .i64 (Int.ofNat 2)), h))
  (S 2 AL.n h)))
noncomputable def P40x0 (S : Sg) (r0 : Value) (r1 : Value) (h : Hp) : CRes :=
  allocK h 43 (Array.toList (Value.cells r1)) fun a0 h0 =>
  ptrAddK 0 a0 fun v1 =>
  load1K h0 v1 fun v2 =>
  pairK (callQ F53 [v2] h0) fun v3 h3 =>
  boolK v3 fun b4 =>
  boolN b4 fun b5 =>
  ifB b5
  (some ((Value.int .i64 (Int.ofNat 6)), h3))
  (pairK (callQ F57 [r0, (Value.func (.func 58) (List.toArray []) (List.toArray [a0]))] h3) fun v6 h6 =>
  boolK v6 fun b7 =>
  ifB b7
  (some ((Value.int .i64 (Int.ofNat 5)), h6))
  (ptrAddK 1 a0 fun v8 =>
  load1K h6 v8 fun v9 =>
  intK .i64 v9 fun i10 =>
  pairK (buildSliceV env h6 53 1 (List.toArray [(0, (Value.int .i64 i10))])) fun v11 h11 =>
  pairK (optK (F29 [(Value.int .i64 (Int.ofNat 1)), (Value.int .i64 (Int.ofNat 60)), v11] h11) fun v => some (v, h11)) fun v12 h12 =>
  boolK v12 fun b13 =>
  boolN b13 fun b14 =>
  ifB b14
  (S 1 (AL.v a0 (AL.b b14 AL.n)) h12)
  (ptrAddK 2 a0 fun v15 =>
  ptrAddK 0 v15 fun v16 =>
  load1K h12 v16 fun v17 =>
  intK .i64 v17 fun i18 =>
  ptrAddK 2 a0 fun v19 =>
  ptrAddK 1 v19 fun v20 =>
  load1K h12 v20 fun v21 =>
  intK .i64 v21 fun i22 =>
  ptrAddK 4 a0 fun v23 =>
  ptrAddK 0 v23 fun v24 =>
  load1K h12 v24 fun v25 =>
  intK .i64 v25 fun i26 =>
  ptrAddK 4 a0 fun v27 =>
  ptrAddK 1 v27 fun v28 =>
  load1K h12 v28 fun v29 =>
  intK .i64 v29 fun i30 =>
  pairK (buildSliceV env h12 53 4 (List.toArray [(0, (Value.int .i64 i18)), (1, (Value.int .i64 i22)), (2, (Value.int .i64 i26)), (3, (Value.int .i64 i30))])) fun v31 h31 =>
  pairK (optK (F29 [(Value.int .i64 (Int.ofNat 0)), (Value.int .i64 (Int.ofNat 1000)), v31] h31) fun v => some (v, h31)) fun v32 h32 =>
  boolK v32 fun b33 =>
  boolN b33 fun b34 =>
  S 1 (AL.v a0 (AL.b b34 AL.n)) h32)))
noncomputable def T40 (S : Sg) : Sg := tabC 0 (uV fun r0 => uV fun r1 => uN fun h => P40x0 S r0 r1 h) (tabC 1 (uV fun r3 => uB fun r14 => uN fun h => P40x1 S r3 r14 h) (tabC 2 (uN fun h => P40x2 S  h) (tabN)))
noncomputable def F40 (args : List Value) (h : Hp) : CRes := packVals [Kd.v, Kd.v] args fun al => rec' T40 1000000 0 al h
def nt40 : Nat := 2 + (50 - 2)
theorem q40x2 (S : Sg) (h : Hp) : P40x2 S  h = stepAt (regK env orc11 (nt40)) (finK env Try.f40.results.toList) (collect B40 A40 []) 2 S AL.n h := by kernel_rfl
theorem q40x1 (S : Sg) (r3 : Value) (r14 : Bool) (h : Hp) : P40x1 S r3 r14 h = stepAt (regK env orc11 (nt40)) (finK env Try.f40.results.toList) (collect B40 A40 []) 1 S (AL.v r3 (AL.b r14 AL.n)) h := by kernel_rfl
theorem q40x0 (S : Sg) (r0 : Value) (r1 : Value) (h : Hp) : P40x0 S r0 r1 h = stepAt (regK env orc11 (nt40)) (finK env Try.f40.results.toList) (collect B40 A40 []) 0 S (AL.v r0 (AL.v r1 AL.n)) h := by kernel_rfl
theorem t40 (S : Sg) : Tab (fun l vs h => stepAt (regK env orc11 nt40) (finK env Try.f40.results.toList) (collect B40 A40 []) l S vs h) (T40 S) := by
  unfold T40
  refine Tab.cons 0 (fun vs0 h q e0 => ?_) ?_
  · obtain ⟨r0, vs1, rfl, e1⟩ := uV_some e0
    obtain ⟨r1, vs2, rfl, e2⟩ := uV_some e1
    obtain ⟨rfl, ee⟩ := uN_some e2
    exact (q40x0 S r0 r1 h).symm.trans ee
  refine Tab.cons 1 (fun vs0 h q e0 => ?_) ?_
  · obtain ⟨r3, vs1, rfl, e1⟩ := uV_some e0
    obtain ⟨r14, vs2, rfl, e2⟩ := uB_some e1
    obtain ⟨rfl, ee⟩ := uN_some e2
    exact (q40x1 S r3 r14 h).symm.trans ee
  refine Tab.cons 2 (fun vs0 h q e0 => ?_) ?_
  · 
    obtain ⟨rfl, ee⟩ := uN_some e0
    exact (q40x2 S  h).symm.trans ee
  exact Tab.nil
theorem r40 : ∀ args h v h', F40 args h = some (v, h') → Runs (C11) (.call 40 args.toArray h) (.ret v h') := by
  intro args h v h' e
  exact fun_sound (C := C11) (fn := Try.f40) (body := B40) (np := 2) (A := A40) (T := T40) (kinds := [Kd.v, Kd.v]) (by kernel_rfl) (by kernel_rfl) (by kernel_rfl) (by kernel_rfl) (regK_ok env_ok) (by kernel_rfl) (fun S => t40 S) e
noncomputable def orc12 := orcQ 40 F40 orc11
noncomputable def C12 : Cfg := cfg orc12
theorem ok12 : C12.Ok := orcQ_ok (C := C11) ok11 r40
noncomputable def B52 : Code := (Try.f52.body).getD .skip
def A52 : Ann := (Ann.node (some (0, [(0, Kd.v), (1, Kd.v)])) Ann.nil (Ann.node none (Ann.node none Ann.nil (Ann.node none (Ann.node (some (1, [(0, Kd.v), (1, Kd.v), (9, Kd.v), (10, Kd.i .i64), (11, Kd.i .i64)])) (Ann.node none Ann.nil (Ann.node none (Ann.node none Ann.nil Ann.nil) (Ann.node none (Ann.node none (Ann.node none Ann.nil (Ann.node none Ann.nil (Ann.node none Ann.nil (Ann.node none (Ann.node none Ann.nil Ann.nil) Ann.nil)))) Ann.nil) Ann.nil))) Ann.nil) Ann.nil)) (Ann.node (some (2, [])) Ann.nil Ann.nil)))
noncomputable def P52x2 (S : Sg) (h : Hp) : CRes :=
  some (Value.tuple (List.toArray [(Value.int .i64 (Int.ofNat 0)), (Value.int .i64 (Int.ofNat 0))]), h)
noncomputable def P52x1 (S : Sg) (r0 : Value) (r1 : Value) (r9 : Value) (r10 : Int) (r11 : Int) (h : Hp) : CRes :=
  boolZ (ltZ r11 r10) fun b0 =>
  ifB b0
  (idxSK 6 r9 r11 fun v1 =>
  loadNK 6 h v1 fun v2 =>
  allocK h 38 [(Value.string (ByteArray.mk #[])), (Value.int .i64 (Int.ofNat 0)), (Value.int .i64 (Int.ofNat 0)), (Value.int .i64 (Int.ofNat 0)), (Value.int .i64 (Int.ofNat 0)), (Value.bool false)] fun a3 h3 =>
  storeNK 6 h3 a3 v2 fun h4 =>
  optK (sliceV env h4 24 r0 none (some (Value.int .i64 r11)) none) fun v5 =>
  loadNK 6 h4 a3 fun v6 =>
  pairK (callF orc12 r1 [v5, v6] h4) fun v7 h7 =>
  intK .i64 v7 fun i8 =>
  boolN (eqZ i8 (Int.ofNat 0)) fun b9 =>
  ifB b9
  (some (Value.tuple (List.toArray [(Value.int .i64 r11), (Value.int .i64 i8)]), h7))
  (wrap64 (Int.add r11 (Int.ofNat 1)) fun i10 =>
  S 1 (AL.v r0 (AL.v r1 (AL.v r9 (AL.i r10 (AL.i i10 AL.n))))) h7))
  (S 2 AL.n h)
noncomputable def P52x0 (S : Sg) (r0 : Value) (r1 : Value) (h : Hp) : CRes :=
  lenSK r0 fun i0 =>
  S 1 (AL.v r0 (AL.v r1 (AL.v r0 (AL.i i0 (AL.i (Int.ofNat 0) AL.n))))) h
noncomputable def T52 (S : Sg) : Sg := tabC 0 (uV fun r0 => uV fun r1 => uN fun h => P52x0 S r0 r1 h) (tabC 1 (uV fun r0 => uV fun r1 => uV fun r9 => uI fun r10 => uI fun r11 => uN fun h => P52x1 S r0 r1 r9 r10 r11 h) (tabC 2 (uN fun h => P52x2 S  h) (tabN)))
noncomputable def F52 (args : List Value) (h : Hp) : CRes := packVals [Kd.v, Kd.v] args fun al => rec' T52 1000000 0 al h
def nt52 : Nat := 2 + (27 - 2)
theorem q52x2 (S : Sg) (h : Hp) : P52x2 S  h = stepAt (regK env orc12 (nt52)) (finK env Try.f52.results.toList) (collect B52 A52 []) 2 S AL.n h := by kernel_rfl
theorem q52x1 (S : Sg) (r0 : Value) (r1 : Value) (r9 : Value) (r10 : Int) (r11 : Int) (h : Hp) : P52x1 S r0 r1 r9 r10 r11 h = stepAt (regK env orc12 (nt52)) (finK env Try.f52.results.toList) (collect B52 A52 []) 1 S (AL.v r0 (AL.v r1 (AL.v r9 (AL.i r10 (AL.i r11 AL.n))))) h := by kernel_rfl
theorem q52x0 (S : Sg) (r0 : Value) (r1 : Value) (h : Hp) : P52x0 S r0 r1 h = stepAt (regK env orc12 (nt52)) (finK env Try.f52.results.toList) (collect B52 A52 []) 0 S (AL.v r0 (AL.v r1 AL.n)) h := by kernel_rfl
theorem t52 (S : Sg) : Tab (fun l vs h => stepAt (regK env orc12 nt52) (finK env Try.f52.results.toList) (collect B52 A52 []) l S vs h) (T52 S) := by
  unfold T52
  refine Tab.cons 0 (fun vs0 h q e0 => ?_) ?_
  · obtain ⟨r0, vs1, rfl, e1⟩ := uV_some e0
    obtain ⟨r1, vs2, rfl, e2⟩ := uV_some e1
    obtain ⟨rfl, ee⟩ := uN_some e2
    exact (q52x0 S r0 r1 h).symm.trans ee
  refine Tab.cons 1 (fun vs0 h q e0 => ?_) ?_
  · obtain ⟨r0, vs1, rfl, e1⟩ := uV_some e0
    obtain ⟨r1, vs2, rfl, e2⟩ := uV_some e1
    obtain ⟨r9, vs3, rfl, e3⟩ := uV_some e2
    obtain ⟨r10, vs4, rfl, e4⟩ := uI_some e3
    obtain ⟨r11, vs5, rfl, e5⟩ := uI_some e4
    obtain ⟨rfl, ee⟩ := uN_some e5
    exact (q52x1 S r0 r1 r9 r10 r11 h).symm.trans ee
  refine Tab.cons 2 (fun vs0 h q e0 => ?_) ?_
  · 
    obtain ⟨rfl, ee⟩ := uN_some e0
    exact (q52x2 S  h).symm.trans ee
  exact Tab.nil
theorem r52 : ∀ args h v h', F52 args h = some (v, h') → Runs (C12) (.call 52 args.toArray h) (.ret v h') := by
  intro args h v h' e
  exact fun_sound (C := C12) (fn := Try.f52) (body := B52) (np := 2) (A := A52) (T := T52) (kinds := [Kd.v, Kd.v]) (by kernel_rfl) (by kernel_rfl) (by kernel_rfl) (by kernel_rfl) (regK_ok env_ok) (by kernel_rfl) (fun S => t52 S) e
noncomputable def orc13 := orcQ 52 F52 orc12
noncomputable def C13 : Cfg := cfg orc13
theorem ok13 : C13.Ok := orcQ_ok (C := C12) ok12 r52
noncomputable def B37 : Code := (Try.f37.body).getD .skip
def A37 : Ann := (Ann.node (some (0, [(0, Kd.v), (1, Kd.i .i64), (2, Kd.v)])) Ann.nil (Ann.node none (Ann.node none Ann.nil (Ann.node none (Ann.node none Ann.nil Ann.nil) Ann.nil)) (Ann.node none Ann.nil Ann.nil)))
noncomputable def P37x0 (S : Sg) (r0 : Value) (r1 : Int) (r2 : Value) (h : Hp) : CRes :=
  lenSK r0 fun i0 =>
  boolZ (ltZ r1 i0) fun b1 =>
  ifB b1
  (some (Value.tuple (List.toArray [(Value.int .i64 (Int.ofNat 0)), (Value.int .i64 (Int.ofNat 3))]), h))
  (pairK (callQ F52 [r0, r2] h) fun v2 h2 =>
  extK v2 0 fun v3 =>
  intK .i64 v3 fun i4 =>
  extK v2 1 fun v5 =>
  intK .i64 v5 fun i6 =>
  some (Value.tuple (List.toArray [(Value.int .i64 i4), (Value.int .i64 i6)]), h2))
noncomputable def T37 (S : Sg) : Sg := tabC 0 (uV fun r0 => uI fun r1 => uV fun r2 => uN fun h => P37x0 S r0 r1 r2 h) (tabN)
noncomputable def F37 (args : List Value) (h : Hp) : CRes := packVals [Kd.v, Kd.i .i64, Kd.v] args fun al => rec' T37 1000000 0 al h
def nt37 : Nat := 3 + (17 - 3)
theorem q37x0 (S : Sg) (r0 : Value) (r1 : Int) (r2 : Value) (h : Hp) : P37x0 S r0 r1 r2 h = stepAt (regK env orc13 (nt37)) (finK env Try.f37.results.toList) (collect B37 A37 []) 0 S (AL.v r0 (AL.i r1 (AL.v r2 AL.n))) h := by kernel_rfl
theorem t37 (S : Sg) : Tab (fun l vs h => stepAt (regK env orc13 nt37) (finK env Try.f37.results.toList) (collect B37 A37 []) l S vs h) (T37 S) := by
  unfold T37
  refine Tab.cons 0 (fun vs0 h q e0 => ?_) ?_
  · obtain ⟨r0, vs1, rfl, e1⟩ := uV_some e0
    obtain ⟨r1, vs2, rfl, e2⟩ := uI_some e1
    obtain ⟨r2, vs3, rfl, e3⟩ := uV_some e2
    obtain ⟨rfl, ee⟩ := uN_some e3
    exact (q37x0 S r0 r1 r2 h).symm.trans ee
  exact Tab.nil
theorem r37 : ∀ args h v h', F37 args h = some (v, h') → Runs (C13) (.call 37 args.toArray h) (.ret v h') := by
  intro args h v h' e
  exact fun_sound (C := C13) (fn := Try.f37) (body := B37) (np := 3) (A := A37) (T := T37) (kinds := [Kd.v, Kd.i .i64, Kd.v]) (by kernel_rfl) (by kernel_rfl) (by kernel_rfl) (by kernel_rfl) (regK_ok env_ok) (by kernel_rfl) (fun S => t37 S) e
noncomputable def orc14 := orcQ 37 F37 orc13
noncomputable def C14 : Cfg := cfg orc14
theorem ok14 : C14.Ok := orcQ_ok (C := C13) ok13 r37
noncomputable def B56 : Code := (Try.f56.body).getD .skip
def A56 : Ann := (Ann.node (some (0, [(0, Kd.v), (1, Kd.v)])) Ann.nil (Ann.node none (Ann.node none Ann.nil (Ann.node none (Ann.node (some (1, [(0, Kd.v), (1, Kd.v), (9, Kd.v), (10, Kd.i .i64), (11, Kd.i .i64)])) (Ann.node none Ann.nil (Ann.node none (Ann.node none Ann.nil Ann.nil) (Ann.node none (Ann.node none (Ann.node none Ann.nil (Ann.node none Ann.nil (Ann.node none Ann.nil (Ann.node none (Ann.node none Ann.nil Ann.nil) Ann.nil)))) Ann.nil) Ann.nil))) Ann.nil) Ann.nil)) (Ann.node (some (2, [])) Ann.nil Ann.nil)))
noncomputable def P56x2 (S : Sg) (h : Hp) : CRes :=
  some (Value.tuple (List.toArray [(Value.int .i64 (Int.ofNat 0)), (Value.int .i64 (Int.ofNat 0))]), h)
noncomputable def P56x1 (S : Sg) (r0 : Value) (r1 : Value) (r9 : Value) (r10 : Int) (r11 : Int) (h : Hp) : CRes :=
  boolZ (ltZ r11 r10) fun b0 =>
  ifB b0
  (idxSK 6 r9 r11 fun v1 =>
  loadNK 6 h v1 fun v2 =>
  allocK h 43 [(Value.string (ByteArray.mk #[])), (Value.int .i64 (Int.ofNat 0)), (Value.int .i64 (Int.ofNat 0)), (Value.int .i64 (Int.ofNat 0)), (Value.int .i64 (Int.ofNat 0)), (Value.int .i64 (Int.ofNat 0))] fun a3 h3 =>
  storeNK 6 h3 a3 v2 fun h4 =>
  optK (sliceV env h4 25 r0 none (some (Value.int .i64 r11)) none) fun v5 =>
  loadNK 6 h4 a3 fun v6 =>
  pairK (callF orc14 r1 [v5, v6] h4) fun v7 h7 =>
  intK .i64 v7 fun i8 =>
  boolN (eqZ i8 (Int.ofNat 0)) fun b9 =>
  ifB b9
  (some (Value.tuple (List.toArray [(Value.int .i64 r11), (Value.int .i64 i8)]), h7))
  (wrap64 (Int.add r11 (Int.ofNat 1)) fun i10 =>
  S 1 (AL.v r0 (AL.v r1 (AL.v r9 (AL.i r10 (AL.i i10 AL.n))))) h7))
  (S 2 AL.n h)
noncomputable def P56x0 (S : Sg) (r0 : Value) (r1 : Value) (h : Hp) : CRes :=
  lenSK r0 fun i0 =>
  S 1 (AL.v r0 (AL.v r1 (AL.v r0 (AL.i i0 (AL.i (Int.ofNat 0) AL.n))))) h
noncomputable def T56 (S : Sg) : Sg := tabC 0 (uV fun r0 => uV fun r1 => uN fun h => P56x0 S r0 r1 h) (tabC 1 (uV fun r0 => uV fun r1 => uV fun r9 => uI fun r10 => uI fun r11 => uN fun h => P56x1 S r0 r1 r9 r10 r11 h) (tabC 2 (uN fun h => P56x2 S  h) (tabN)))
noncomputable def F56 (args : List Value) (h : Hp) : CRes := packVals [Kd.v, Kd.v] args fun al => rec' T56 1000000 0 al h
def nt56 : Nat := 2 + (27 - 2)
theorem q56x2 (S : Sg) (h : Hp) : P56x2 S  h = stepAt (regK env orc14 (nt56)) (finK env Try.f56.results.toList) (collect B56 A56 []) 2 S AL.n h := by kernel_rfl
theorem q56x1 (S : Sg) (r0 : Value) (r1 : Value) (r9 : Value) (r10 : Int) (r11 : Int) (h : Hp) : P56x1 S r0 r1 r9 r10 r11 h = stepAt (regK env orc14 (nt56)) (finK env Try.f56.results.toList) (collect B56 A56 []) 1 S (AL.v r0 (AL.v r1 (AL.v r9 (AL.i r10 (AL.i r11 AL.n))))) h := by kernel_rfl
theorem q56x0 (S : Sg) (r0 : Value) (r1 : Value) (h : Hp) : P56x0 S r0 r1 h = stepAt (regK env orc14 (nt56)) (finK env Try.f56.results.toList) (collect B56 A56 []) 0 S (AL.v r0 (AL.v r1 AL.n)) h := by kernel_rfl
theorem t56 (S : Sg) : Tab (fun l vs h => stepAt (regK env orc14 nt56) (finK env Try.f56.results.toList) (collect B56 A56 []) l S vs h) (T56 S) := by
  unfold T56
  refine Tab.cons 0 (fun vs0 h q e0 => ?_) ?_
  · obtain ⟨r0, vs1, rfl, e1⟩ := uV_some e0
    obtain ⟨r1, vs2, rfl, e2⟩ := uV_some e1
    obtain ⟨rfl, ee⟩ := uN_some e2
    exact (q56x0 S r0 r1 h).symm.trans ee
  refine Tab.cons 1 (fun vs0 h q e0 => ?_) ?_
  · obtain ⟨r0, vs1, rfl, e1⟩ := uV_some e0
    obtain ⟨r1, vs2, rfl, e2⟩ := uV_some e1
    obtain ⟨r9, vs3, rfl, e3⟩ := uV_some e2
    obtain ⟨r10, vs4, rfl, e4⟩ := uI_some e3
    obtain ⟨r11, vs5, rfl, e5⟩ := uI_some e4
    obtain ⟨rfl, ee⟩ := uN_some e5
    exact (q56x1 S r0 r1 r9 r10 r11 h).symm.trans ee
  refine Tab.cons 2 (fun vs0 h q e0 => ?_) ?_
  · 
    obtain ⟨rfl, ee⟩ := uN_some e0
    exact (q56x2 S  h).symm.trans ee
  exact Tab.nil
theorem r56 : ∀ args h v h', F56 args h = some (v, h') → Runs (C14) (.call 56 args.toArray h) (.ret v h') := by
  intro args h v h' e
  exact fun_sound (C := C14) (fn := Try.f56) (body := B56) (np := 2) (A := A56) (T := T56) (kinds := [Kd.v, Kd.v]) (by kernel_rfl) (by kernel_rfl) (by kernel_rfl) (by kernel_rfl) (regK_ok env_ok) (by kernel_rfl) (fun S => t56 S) e
noncomputable def orc15 := orcQ 56 F56 orc14
noncomputable def C15 : Cfg := cfg orc15
theorem ok15 : C15.Ok := orcQ_ok (C := C14) ok14 r56
noncomputable def B39 : Code := (Try.f39.body).getD .skip
def A39 : Ann := (Ann.node (some (0, [(0, Kd.v), (1, Kd.i .i64), (2, Kd.v)])) Ann.nil (Ann.node none (Ann.node none Ann.nil (Ann.node none (Ann.node none Ann.nil Ann.nil) Ann.nil)) (Ann.node none Ann.nil Ann.nil)))
noncomputable def P39x0 (S : Sg) (r0 : Value) (r1 : Int) (r2 : Value) (h : Hp) : CRes :=
  lenSK r0 fun i0 =>
  boolZ (ltZ r1 i0) fun b1 =>
  ifB b1
  (some (Value.tuple (List.toArray [(Value.int .i64 (Int.ofNat 0)), (Value.int .i64 (Int.ofNat 3))]), h))
  (pairK (callQ F56 [r0, r2] h) fun v2 h2 =>
  extK v2 0 fun v3 =>
  intK .i64 v3 fun i4 =>
  extK v2 1 fun v5 =>
  intK .i64 v5 fun i6 =>
  some (Value.tuple (List.toArray [(Value.int .i64 i4), (Value.int .i64 i6)]), h2))
noncomputable def T39 (S : Sg) : Sg := tabC 0 (uV fun r0 => uI fun r1 => uV fun r2 => uN fun h => P39x0 S r0 r1 r2 h) (tabN)
noncomputable def F39 (args : List Value) (h : Hp) : CRes := packVals [Kd.v, Kd.i .i64, Kd.v] args fun al => rec' T39 1000000 0 al h
def nt39 : Nat := 3 + (17 - 3)
theorem q39x0 (S : Sg) (r0 : Value) (r1 : Int) (r2 : Value) (h : Hp) : P39x0 S r0 r1 r2 h = stepAt (regK env orc15 (nt39)) (finK env Try.f39.results.toList) (collect B39 A39 []) 0 S (AL.v r0 (AL.i r1 (AL.v r2 AL.n))) h := by kernel_rfl
theorem t39 (S : Sg) : Tab (fun l vs h => stepAt (regK env orc15 nt39) (finK env Try.f39.results.toList) (collect B39 A39 []) l S vs h) (T39 S) := by
  unfold T39
  refine Tab.cons 0 (fun vs0 h q e0 => ?_) ?_
  · obtain ⟨r0, vs1, rfl, e1⟩ := uV_some e0
    obtain ⟨r1, vs2, rfl, e2⟩ := uI_some e1
    obtain ⟨r2, vs3, rfl, e3⟩ := uV_some e2
    obtain ⟨rfl, ee⟩ := uN_some e3
    exact (q39x0 S r0 r1 r2 h).symm.trans ee
  exact Tab.nil
theorem r39 : ∀ args h v h', F39 args h = some (v, h') → Runs (C15) (.call 39 args.toArray h) (.ret v h') := by
  intro args h v h' e
  exact fun_sound (C := C15) (fn := Try.f39) (body := B39) (np := 3) (A := A39) (T := T39) (kinds := [Kd.v, Kd.i .i64, Kd.v]) (by kernel_rfl) (by kernel_rfl) (by kernel_rfl) (by kernel_rfl) (regK_ok env_ok) (by kernel_rfl) (fun S => t39 S) e
noncomputable def orc16 := orcQ 39 F39 orc15
noncomputable def C16 : Cfg := cfg orc16
theorem ok16 : C16.Ok := orcQ_ok (C := C15) ok15 r39
noncomputable def B26 : Code := (Try.f26.body).getD .skip
def A26 : Ann := (Ann.node (some (0, [(0, Kd.v)])) Ann.nil (Ann.node none (Ann.node none Ann.nil (Ann.node none (Ann.node none Ann.nil Ann.nil) Ann.nil)) (Ann.node (some (1, [(1, Kd.v)])) (Ann.node none Ann.nil (Ann.node none Ann.nil (Ann.node none (Ann.node none Ann.nil Ann.nil) Ann.nil))) (Ann.node none (Ann.node none Ann.nil (Ann.node none Ann.nil (Ann.node none (Ann.node none Ann.nil Ann.nil) Ann.nil))) (Ann.node none Ann.nil Ann.nil)))))
noncomputable def P26x1 (S : Sg) (r1 : Value) (h : Hp) : CRes :=
  ptrAddK 4 r1 fun v0 =>
  load1K h v0 fun v1 =>
  pairK (callQ F37 [v1, (Value.int .i64 (Int.ofNat 6)), (Value.func (.func 38) #[] #[])] h) fun v2 h2 =>
  extK v2 0 fun v3 =>
  intK .i64 v3 fun i4 =>
  extK v2 1 fun v5 =>
  intK .i64 v5 fun i6 =>
  boolN (eqZ i6 (Int.ofNat 0)) fun b7 =>
  ifB b7
  (some (Value.tuple (List.toArray [(Value.int .i64 (Int.ofNat 2)), (Value.int .i64 i4), (Value.int .i64 i6)]), h2))
  (ptrAddK 5 r1 fun v8 =>
  load1K h2 v8 fun v9 =>
  pairK (callQ F39 [v9, (Value.int .i64 (Int.ofNat 3)), (Value.func (.func 40) #[] #[])] h2) fun v10 h10 =>
  extK v10 0 fun v11 =>
  intK .i64 v11 fun i12 =>
  extK v10 1 fun v13 =>
  intK .i64 v13 fun i14 =>
  boolN (eqZ i14 (Int.ofNat 0)) fun b15 =>
  ifB b15
  (some (Value.tuple (List.toArray [(Value.int .i64 (Int.ofNat 3)), (Value.int .i64 i12), (Value.int .i64 i14)]), h10))
  (some (Value.tuple (List.toArray [(Value.int .i64 (Int.ofNat 0)), (Value.int .i64 (Int.ofNat 0)), (Value.int .i64 (Int.ofNat 0))]), h10)))
noncomputable def P26x0 (S : Sg) (r0 : Value) (h : Hp) : CRes :=
  allocK h 27 (Array.toList (Value.cells r0)) fun a0 h0 =>
  ptrAddK 0 a0 fun v1 =>
  optK (sliceV env h0 23 v1 none none none) fun v2 =>
  pairK (optK (F29 [(Value.int .i64 (Int.ofNat 0)), (Value.int .i64 (Int.ofNat 40)), v2] h0) fun v => some (v, h0)) fun v3 h3 =>
  boolK v3 fun b4 =>
  boolN b4 fun b5 =>
  ifB b5
  (some (Value.tuple (List.toArray [(Value.int .i64 (Int.ofNat 1)), (Value.int .i64 (Int.ofNat 0)), (Value.int .i64 (Int.ofNat 7))]), h3))
  (ptrAddK 3 a0 fun v6 =>
  load1K h3 v6 fun v7 =>
  intK .i64 v7 fun i8 =>
  pairK (buildSliceV env h3 53 1 (List.toArray [(0, (Value.int .i64 i8))])) fun v9 h9 =>
  pairK (optK (F29 [(Value.int .i64 (Int.ofNat 1)), (Value.int .i64 (Int.ofNat 364)), v9] h9) fun v => some (v, h9)) fun v10 h10 =>
  boolK v10 fun b11 =>
  boolN b11 fun b12 =>
  ifB b12
  (some (Value.tuple (List.toArray [(Value.int .i64 (Int.ofNat 1)), (Value.int .i64 (Int.ofNat 0)), (Value.int .i64 (Int.ofNat 7))]), h10))
  (S 1 (AL.v a0 AL.n) h10))
noncomputable def T26 (S : Sg) : Sg := tabC 0 (uV fun r0 => uN fun h => P26x0 S r0 h) (tabC 1 (uV fun r1 => uN fun h => P26x1 S r1 h) (tabN))
noncomputable def F26 (args : List Value) (h : Hp) : CRes := packVals [Kd.v] args fun al => rec' T26 1000000 0 al h
def nt26 : Nat := 1 + (40 - 1)
theorem q26x1 (S : Sg) (r1 : Value) (h : Hp) : P26x1 S r1 h = stepAt (regK env orc16 (nt26)) (finK env Try.f26.results.toList) (collect B26 A26 []) 1 S (AL.v r1 AL.n) h := by kernel_rfl
theorem q26x0 (S : Sg) (r0 : Value) (h : Hp) : P26x0 S r0 h = stepAt (regK env orc16 (nt26)) (finK env Try.f26.results.toList) (collect B26 A26 []) 0 S (AL.v r0 AL.n) h := by kernel_rfl
theorem t26 (S : Sg) : Tab (fun l vs h => stepAt (regK env orc16 nt26) (finK env Try.f26.results.toList) (collect B26 A26 []) l S vs h) (T26 S) := by
  unfold T26
  refine Tab.cons 0 (fun vs0 h q e0 => ?_) ?_
  · obtain ⟨r0, vs1, rfl, e1⟩ := uV_some e0
    obtain ⟨rfl, ee⟩ := uN_some e1
    exact (q26x0 S r0 h).symm.trans ee
  refine Tab.cons 1 (fun vs0 h q e0 => ?_) ?_
  · obtain ⟨r1, vs1, rfl, e1⟩ := uV_some e0
    obtain ⟨rfl, ee⟩ := uN_some e1
    exact (q26x1 S r1 h).symm.trans ee
  exact Tab.nil
theorem r26 : ∀ args h v h', F26 args h = some (v, h') → Runs (C16) (.call 26 args.toArray h) (.ret v h') := by
  intro args h v h' e
  exact fun_sound (C := C16) (fn := Try.f26) (body := B26) (np := 1) (A := A26) (T := T26) (kinds := [Kd.v]) (by kernel_rfl) (by kernel_rfl) (by kernel_rfl) (by kernel_rfl) (regK_ok env_ok) (by kernel_rfl) (fun S => t26 S) e
noncomputable def orc17 := orcQ 26 F26 orc16
noncomputable def C17 : Cfg := cfg orc17
theorem ok17 : C17.Ok := orcQ_ok (C := C16) ok16 r26
noncomputable def B62 : Code := (Try.f62.body).getD .skip
noncomputable def A62 : G.Ann (List KI) := (G.Ann.node (some (0, [KI.reg 0 (Kd.i .i64)])) G.Ann.nil (G.Ann.node none G.Ann.nil G.Ann.nil))
noncomputable def P62x0 (h : Hp) (S : Nat → PAL → Option Value) (r0 : Int) : Option Value :=
  boolN (eqZ r0 r0) fun b0 =>
  some (Value.bool b0)
noncomputable def T62 (h : Hp) (S : Nat → PAL → Option Value) : Nat → PAL → Option Value := tabPC 0 (wI fun r0 => wN (P62x0 h S r0)) (tabPN)
noncomputable def F62 (args : List Value) (h : Hp) : Option Value := plainO (packArgs [Kd.i .i64] args fun al => G.rec' (T62 h) 1000000 0 al)
def nt62 : Nat := 1 + (6 - 1)
theorem q62x0 (h : Hp) (S : Nat → PAL → Option Value) (r0 : Int) : P62x0 h S r0 = G.stepAt packP unpackP evXV (regP env pf5 nt62 h) (finP env Try.f62.results.toList) (G.collect B62 A62 []) 0 S (PAL.i r0 PAL.n) := by kernel_rfl
theorem t62 (h : Hp) (S : Nat → PAL → Option Value) : TabP (fun l al => G.stepAt packP unpackP evXV (regP env pf5 nt62 h) (finP env Try.f62.results.toList) (G.collect B62 A62 []) l S al) (T62 h S) := by
  unfold T62
  refine TabP.cons 0 (fun vs0 q e0 => ?_) ?_
  · obtain ⟨r0, vs1, rfl, e1⟩ := wI_some e0
    obtain ⟨rfl, ee⟩ := wN_some e1
    exact (q62x0 h S r0).symm.trans ee
  exact TabP.nil
theorem r62 : PSound Try.prog 62 F62 := fun_soundP (C := C0) ok0 (pf := pf5) pfok5 (fn := Try.f62) (body := B62) (kinds := [Kd.i .i64]) (A := A62) (T := T62) (by kernel_rfl) (by kernel_rfl) (by kernel_rfl) (by kernel_rfl) (fun h S => t62 h S)
noncomputable def pf6 : PF := pfC 62 F62 pf5
theorem pfok6 : PfSound Try.prog pf6 := pfC_ok r62 pfok5
noncomputable def orc18 := orcP 62 F62 orc17
noncomputable def C18 : Cfg := cfg orc18
theorem ok18 : C18.Ok := orcP_ok (C := C17) ok17 r62
noncomputable def B45 : Code := (Try.f45.body).getD .skip
noncomputable def A45 : G.Ann (List KI) := (G.Ann.node (some (0, [KI.reg 0 (Kd.i .i64), KI.reg 1 (Kd.i .i64)])) G.Ann.nil (G.Ann.node none G.Ann.nil (G.Ann.node none G.Ann.nil (G.Ann.node none (G.Ann.node none G.Ann.nil (G.Ann.node none (G.Ann.node none (G.Ann.node none G.Ann.nil (G.Ann.node none (G.Ann.node none G.Ann.nil G.Ann.nil) G.Ann.nil)) (G.Ann.node none G.Ann.nil G.Ann.nil)) G.Ann.nil)) (G.Ann.node none (G.Ann.node none G.Ann.nil (G.Ann.node none (G.Ann.node none G.Ann.nil G.Ann.nil) G.Ann.nil)) (G.Ann.node none (G.Ann.node none G.Ann.nil (G.Ann.node none (G.Ann.node none G.Ann.nil G.Ann.nil) G.Ann.nil)) (G.Ann.node none (G.Ann.node none G.Ann.nil (G.Ann.node none (G.Ann.node none G.Ann.nil G.Ann.nil) G.Ann.nil)) (G.Ann.node none G.Ann.nil G.Ann.nil))))))))
noncomputable def P45x0 (h : Hp) (S : Nat → PAL → Option Value) (r0 : Int) (r1 : Int) : Option Value :=
  optK (F62 [(Value.int .i64 r0)] h) fun v0 =>
  boolK v0 fun b1 =>
  optK (F62 [(Value.int .i64 r1)] h) fun v2 =>
  boolK v2 fun b3 =>
  ifB b1
  (ifB b3
  (some (Value.int .i64 (Int.ofNat 0)))
  (some (Value.int .i64 (Int.negSucc 0))))
  (ifB b3
  (some (Value.int .i64 (Int.ofNat 1)))
  (boolZ (ltZ r0 r1) fun b4 =>
  ifB b4
  (some (Value.int .i64 (Int.negSucc 0)))
  (boolZ (ltZ r1 r0) fun b5 =>
  ifB b5
  (some (Value.int .i64 (Int.ofNat 1)))
  (some (Value.int .i64 (Int.ofNat 0))))))
noncomputable def T45 (h : Hp) (S : Nat → PAL → Option Value) : Nat → PAL → Option Value := tabPC 0 (wI fun r0 => wI fun r1 => wN (P45x0 h S r0 r1)) (tabPN)
noncomputable def F45 (args : List Value) (h : Hp) : Option Value := plainO (packArgs [Kd.i .i64, Kd.i .i64] args fun al => G.rec' (T45 h) 1000000 0 al)
def nt45 : Nat := 2 + (20 - 2)
theorem q45x0 (h : Hp) (S : Nat → PAL → Option Value) (r0 : Int) (r1 : Int) : P45x0 h S r0 r1 = G.stepAt packP unpackP evXV (regP env pf6 nt45 h) (finP env Try.f45.results.toList) (G.collect B45 A45 []) 0 S (PAL.i r0 (PAL.i r1 PAL.n)) := by kernel_rfl
theorem t45 (h : Hp) (S : Nat → PAL → Option Value) : TabP (fun l al => G.stepAt packP unpackP evXV (regP env pf6 nt45 h) (finP env Try.f45.results.toList) (G.collect B45 A45 []) l S al) (T45 h S) := by
  unfold T45
  refine TabP.cons 0 (fun vs0 q e0 => ?_) ?_
  · obtain ⟨r0, vs1, rfl, e1⟩ := wI_some e0
    obtain ⟨r1, vs2, rfl, e2⟩ := wI_some e1
    obtain ⟨rfl, ee⟩ := wN_some e2
    exact (q45x0 h S r0 r1).symm.trans ee
  exact TabP.nil
theorem r45 : PSound Try.prog 45 F45 := fun_soundP (C := C0) ok0 (pf := pf6) pfok6 (fn := Try.f45) (body := B45) (kinds := [Kd.i .i64, Kd.i .i64]) (A := A45) (T := T45) (by kernel_rfl) (by kernel_rfl) (by kernel_rfl) (by kernel_rfl) (fun h S => t45 h S)
noncomputable def pf7 : PF := pfC 45 F45 pf6
theorem pfok7 : PfSound Try.prog pf7 := pfC_ok r45 pfok6
noncomputable def orc19 := orcP 45 F45 orc18
noncomputable def C19 : Cfg := cfg orc19
theorem ok19 : C19.Ok := orcP_ok (C := C18) ok18 r45
noncomputable def B46 : Code := (Try.f46.body).getD .skip
noncomputable def A46 : G.Ann (List KI) := (G.Ann.node (some (0, [KI.reg 0 (Kd.v), KI.reg 1 (Kd.v)])) G.Ann.nil (G.Ann.node none (G.Ann.node none G.Ann.nil (G.Ann.node none (G.Ann.node (some (1, [KI.reg 0 (Kd.v), KI.reg 1 (Kd.v), KI.reg 9 (Kd.v), KI.reg 10 (Kd.i .i64), KI.reg 11 (Kd.i .i64)])) (G.Ann.node none G.Ann.nil (G.Ann.node none (G.Ann.node none G.Ann.nil G.Ann.nil) (G.Ann.node none (G.Ann.node none (G.Ann.node none G.Ann.nil (G.Ann.node none (G.Ann.node none G.Ann.nil (G.Ann.node none (G.Ann.node none G.Ann.nil G.Ann.nil) G.Ann.nil)) (G.Ann.node none G.Ann.nil (G.Ann.node none G.Ann.nil (G.Ann.node none G.Ann.nil (G.Ann.node none (G.Ann.node none G.Ann.nil G.Ann.nil) G.Ann.nil)))))) G.Ann.nil) G.Ann.nil))) G.Ann.nil) G.Ann.nil)) (G.Ann.node (some (2, [KI.reg 0 (Kd.v), KI.reg 1 (Kd.v)])) (G.Ann.node none G.Ann.nil (G.Ann.node none (G.Ann.node none G.Ann.nil G.Ann.nil) G.Ann.nil)) (G.Ann.node none G.Ann.nil G.Ann.nil))))
noncomputable def P46x2 (h : Hp) (S : Nat → PAL → Option Value) (r0 : Value) (r1 : Value) : Option Value :=
  lenSK r0 fun i0 =>
  lenSK r1 fun i1 =>
  boolZ (ltZ i0 i1) fun b2 =>
  ifB b2
  (some (Value.int .i64 (Int.negSucc 0)))
  (some (Value.int .i64 (Int.ofNat 0)))
noncomputable def P46x1 (h : Hp) (S : Nat → PAL → Option Value) (r0 : Value) (r1 : Value) (r9 : Value) (r10 : Int) (r11 : Int) : Option Value :=
  boolZ (ltZ r11 r10) fun b0 =>
  ifB b0
  (idxSK 1 r9 r11 fun v1 =>
  load1K h v1 fun v2 =>
  intK .i64 v2 fun i3 =>
  lenSK r1 fun i4 =>
  boolN (ltZ r11 i4) fun b5 =>
  ifB b5
  (some (Value.int .i64 (Int.ofNat 1)))
  (idxSK 1 r1 r11 fun v6 =>
  load1K h v6 fun v7 =>
  intK .i64 v7 fun i8 =>
  optK (F45 [(Value.int .i64 i3), (Value.int .i64 i8)] h) fun v9 =>
  intK .i64 v9 fun i10 =>
  boolN (eqZ i10 (Int.ofNat 0)) fun b11 =>
  ifB b11
  (some (Value.int .i64 i10))
  (wrap64 (Int.add r11 (Int.ofNat 1)) fun i12 =>
  S 1 (PAL.v r0 (PAL.v r1 (PAL.v r9 (PAL.i r10 (PAL.i i12 PAL.n))))))))
  (S 2 (PAL.v r0 (PAL.v r1 PAL.n)))
noncomputable def P46x0 (h : Hp) (S : Nat → PAL → Option Value) (r0 : Value) (r1 : Value) : Option Value :=
  lenSK r0 fun i0 =>
  S 1 (PAL.v r0 (PAL.v r1 (PAL.v r0 (PAL.i i0 (PAL.i (Int.ofNat 0) PAL.n)))))
noncomputable def T46 (h : Hp) (S : Nat → PAL → Option Value) : Nat → PAL → Option Value := tabPC 0 (wV fun r0 => wV fun r1 => wN (P46x0 h S r0 r1)) (tabPC 1 (wV fun r0 => wV fun r1 => wV fun r9 => wI fun r10 => wI fun r11 => wN (P46x1 h S r0 r1 r9 r10 r11)) (tabPC 2 (wV fun r0 => wV fun r1 => wN (P46x2 h S r0 r1)) (tabPN)))
noncomputable def F46 (args : List Value) (h : Hp) : Option Value := plainO (packArgs [Kd.v, Kd.v] args fun al => G.rec' (T46 h) 1000000 0 al)
def nt46 : Nat := 2 + (36 - 2)
theorem q46x2 (h : Hp) (S : Nat → PAL → Option Value) (r0 : Value) (r1 : Value) : P46x2 h S r0 r1 = G.stepAt packP unpackP evXV (regP env pf7 nt46 h) (finP env Try.f46.results.toList) (G.collect B46 A46 []) 2 S (PAL.v r0 (PAL.v r1 PAL.n)) := by kernel_rfl
theorem q46x1 (h : Hp) (S : Nat → PAL → Option Value) (r0 : Value) (r1 : Value) (r9 : Value) (r10 : Int) (r11 : Int) : P46x1 h S r0 r1 r9 r10 r11 = G.stepAt packP unpackP evXV (regP env pf7 nt46 h) (finP env Try.f46.results.toList) (G.collect B46 A46 []) 1 S (PAL.v r0 (PAL.v r1 (PAL.v r9 (PAL.i r10 (PAL.i r11 PAL.n))))) := by kernel_rfl
theorem q46x0 (h : Hp) (S : Nat → PAL → Option Value) (r0 : Value) (r1 : Value) : P46x0 h S r0 r1 = G.stepAt packP unpackP evXV (regP env pf7 nt46 h) (finP env Try.f46.results.toList) (G.collect B46 A46 []) 0 S (PAL.v r0 (PAL.v r1 PAL.n)) := by kernel_rfl
theorem t46 (h : Hp) (S : Nat → PAL → Option Value) : TabP (fun l al => G.stepAt packP unpackP evXV (regP env pf7 nt46 h) (finP env Try.f46.results.toList) (G.collect B46 A46 []) l S al) (T46 h S) := by
  unfold T46
  refine TabP.cons 0 (fun vs0 q e0 => ?_) ?_
  · obtain ⟨r0, vs1, rfl, e1⟩ := wV_some e0
    obtain ⟨r1, vs2, rfl, e2⟩ := wV_some e1
    obtain ⟨rfl, ee⟩ := wN_some e2
    exact (q46x0 h S r0 r1).symm.trans ee
  refine TabP.cons 1 (fun vs0 q e0 => ?_) ?_
  · obtain ⟨r0, vs1, rfl, e1⟩ := wV_some e0
    obtain ⟨r1, vs2, rfl, e2⟩ := wV_some e1
    obtain ⟨r9, vs3, rfl, e3⟩ := wV_some e2
    obtain ⟨r10, vs4, rfl, e4⟩ := wI_some e3
    obtain ⟨r11, vs5, rfl, e5⟩ := wI_some e4
    obtain ⟨rfl, ee⟩ := wN_some e5
    exact (q46x1 h S r0 r1 r9 r10 r11).symm.trans ee
  refine TabP.cons 2 (fun vs0 q e0 => ?_) ?_
  · obtain ⟨r0, vs1, rfl, e1⟩ := wV_some e0
    obtain ⟨r1, vs2, rfl, e2⟩ := wV_some e1
    obtain ⟨rfl, ee⟩ := wN_some e2
    exact (q46x2 h S r0 r1).symm.trans ee
  exact TabP.nil
theorem r46 : PSound Try.prog 46 F46 := fun_soundP (C := C0) ok0 (pf := pf7) pfok7 (fn := Try.f46) (body := B46) (kinds := [Kd.v, Kd.v]) (A := A46) (T := T46) (by kernel_rfl) (by kernel_rfl) (by kernel_rfl) (by kernel_rfl) (fun h S => t46 h S)
noncomputable def pf8 : PF := pfC 46 F46 pf7
theorem pfok8 : PfSound Try.prog pf8 := pfC_ok r46 pfok7
noncomputable def orc20 := orcP 46 F46 orc19
noncomputable def C20 : Cfg := cfg orc20
theorem ok20 : C20.Ok := orcP_ok (C := C19) ok19 r46
noncomputable def B44 : Code := (Try.f44.body).getD .skip
noncomputable def A44 : G.Ann (List KI) := (G.Ann.node (some (0, [KI.reg 0 (Kd.v)])) G.Ann.nil (G.Ann.node none G.Ann.nil (G.Ann.node none (G.Ann.node none G.Ann.nil (G.Ann.node none (G.Ann.node (some (1, [KI.reg 3 (Kd.i .i64), KI.reg 6 (Kd.v), KI.reg 7 (Kd.i .i64), KI.reg 8 (Kd.i .i64)])) (G.Ann.node none G.Ann.nil (G.Ann.node none (G.Ann.node none G.Ann.nil G.Ann.nil) (G.Ann.node none (G.Ann.node none (G.Ann.node none G.Ann.nil (G.Ann.node none G.Ann.nil (G.Ann.node none (G.Ann.node none G.Ann.nil G.Ann.nil) G.Ann.nil))) G.Ann.nil) G.Ann.nil))) G.Ann.nil) G.Ann.nil)) (G.Ann.node (some (2, [KI.reg 3 (Kd.i .i64)])) G.Ann.nil G.Ann.nil))))
noncomputable def P44x2 (h : Hp) (S : Nat → PAL → Option Value) (r3 : Int) : Option Value :=
  some (Value.int .i64 r3)
noncomputable def P44x1 (h : Hp) (S : Nat → PAL → Option Value) (r3 : Int) (r6 : Value) (r7 : Int) (r8 : Int) : Option Value :=
  boolZ (ltZ r8 r7) fun b0 =>
  ifB b0
  (idxSK 1 r6 r8 fun v1 =>
  load1K h v1 fun v2 =>
  intK .i64 v2 fun i3 =>
  boolN (eqZ i3 r3) fun b4 =>
  ifB b4
  (some (Value.int .i64 i3))
  (wrap64 (Int.add r8 (Int.ofNat 1)) fun i5 =>
  S 1 (PAL.i r3 (PAL.v r6 (PAL.i r7 (PAL.i i5 PAL.n))))))
  (S 2 (PAL.i r3 PAL.n))
noncomputable def P44x0 (h : Hp) (S : Nat → PAL → Option Value) (r0 : Value) : Option Value :=
  lenSK r0 fun i0 =>
  S 1 (PAL.i (Int.ofNat 0) (PAL.v r0 (PAL.i i0 (PAL.i (Int.ofNat 0) PAL.n))))
noncomputable def T44 (h : Hp) (S : Nat → PAL → Option Value) : Nat → PAL → Option Value := tabPC 0 (wV fun r0 => wN (P44x0 h S r0)) (tabPC 1 (wI fun r3 => wV fun r6 => wI fun r7 => wI fun r8 => wN (P44x1 h S r3 r6 r7 r8)) (tabPC 2 (wI fun r3 => wN (P44x2 h S r3)) (tabPN)))
noncomputable def F44 (args : List Value) (h : Hp) : Option Value := plainO (packArgs [Kd.v] args fun al => G.rec' (T44 h) 1000000 0 al)
def nt44 : Nat := 1 + (18 - 1)
theorem q44x2 (h : Hp) (S : Nat → PAL → Option Value) (r3 : Int) : P44x2 h S r3 = G.stepAt packP unpackP evXV (regP env pf8 nt44 h) (finP env Try.f44.results.toList) (G.collect B44 A44 []) 2 S (PAL.i r3 PAL.n) := by kernel_rfl
theorem q44x1 (h : Hp) (S : Nat → PAL → Option Value) (r3 : Int) (r6 : Value) (r7 : Int) (r8 : Int) : P44x1 h S r3 r6 r7 r8 = G.stepAt packP unpackP evXV (regP env pf8 nt44 h) (finP env Try.f44.results.toList) (G.collect B44 A44 []) 1 S (PAL.i r3 (PAL.v r6 (PAL.i r7 (PAL.i r8 PAL.n)))) := by kernel_rfl
theorem q44x0 (h : Hp) (S : Nat → PAL → Option Value) (r0 : Value) : P44x0 h S r0 = G.stepAt packP unpackP evXV (regP env pf8 nt44 h) (finP env Try.f44.results.toList) (G.collect B44 A44 []) 0 S (PAL.v r0 PAL.n) := by kernel_rfl
theorem t44 (h : Hp) (S : Nat → PAL → Option Value) : TabP (fun l al => G.stepAt packP unpackP evXV (regP env pf8 nt44 h) (finP env Try.f44.results.toList) (G.collect B44 A44 []) l S al) (T44 h S) := by
  unfold T44
  refine TabP.cons 0 (fun vs0 q e0 => ?_) ?_
  · obtain ⟨r0, vs1, rfl, e1⟩ := wV_some e0
    obtain ⟨rfl, ee⟩ := wN_some e1
    exact (q44x0 h S r0).symm.trans ee
  refine TabP.cons 1 (fun vs0 q e0 => ?_) ?_
  · obtain ⟨r3, vs1, rfl, e1⟩ := wI_some e0
    obtain ⟨r6, vs2, rfl, e2⟩ := wV_some e1
    obtain ⟨r7, vs3, rfl, e3⟩ := wI_some e2
    obtain ⟨r8, vs4, rfl, e4⟩ := wI_some e3
    obtain ⟨rfl, ee⟩ := wN_some e4
    exact (q44x1 h S r3 r6 r7 r8).symm.trans ee
  refine TabP.cons 2 (fun vs0 q e0 => ?_) ?_
  · obtain ⟨r3, vs1, rfl, e1⟩ := wI_some e0
    obtain ⟨rfl, ee⟩ := wN_some e1
    exact (q44x2 h S r3).symm.trans ee
  exact TabP.nil
theorem r44 : PSound Try.prog 44 F44 := fun_soundP (C := C0) ok0 (pf := pf8) pfok8 (fn := Try.f44) (body := B44) (kinds := [Kd.v]) (A := A44) (T := T44) (by kernel_rfl) (by kernel_rfl) (by kernel_rfl) (by kernel_rfl) (fun h S => t44 h S)
noncomputable def pf9 : PF := pfC 44 F44 pf8
theorem pfok9 : PfSound Try.prog pf9 := pfC_ok r44 pfok8
noncomputable def orc21 := orcP 44 F44 orc20
noncomputable def C21 : Cfg := cfg orc21
theorem ok21 : C21.Ok := orcP_ok (C := C20) ok20 r44
noncomputable def B43 : Code := (Try.f43.body).getD .skip
def A43 : Ann := (Ann.node (some (0, [(0, Kd.v), (1, Kd.v)])) Ann.nil (Ann.node none Ann.nil Ann.nil))
noncomputable def P43x0 (S : Sg) (r0 : Value) (r1 : Value) (h : Hp) : CRes :=
  lenSK r0 fun i0 =>
  lenSK r1 fun i1 =>
  pairK (optK (F45 [(Value.int .i64 i0), (Value.int .i64 i1)] h) fun v => some (v, h)) fun v2 h2 =>
  intK .i64 v2 fun i3 =>
  pairK (optK (F46 [r0, r1] h2) fun v => some (v, h2)) fun v4 h4 =>
  intK .i64 v4 fun i5 =>
  pairK (buildSliceV env h4 53 2 (List.toArray [(0, (Value.int .i64 i3)), (1, (Value.int .i64 i5))])) fun v6 h6 =>
  pairK (optK (F44 [v6] h6) fun v => some (v, h6)) fun v7 h7 =>
  intK .i64 v7 fun i8 =>
  some ((Value.int .i64 i8), h7)
noncomputable def T43 (S : Sg) : Sg := tabC 0 (uV fun r0 => uV fun r1 => uN fun h => P43x0 S r0 r1 h) (tabN)
noncomputable def F43 (args : List Value) (h : Hp) : CRes := packVals [Kd.v, Kd.v] args fun al => rec' T43 1000000 0 al h
def nt43 : Nat := 2 + (15 - 2)
theorem q43x0 (S : Sg) (r0 : Value) (r1 : Value) (h : Hp) : P43x0 S r0 r1 h = stepAt (regK env orc21 (nt43)) (finK env Try.f43.results.toList) (collect B43 A43 []) 0 S (AL.v r0 (AL.v r1 AL.n)) h := by kernel_rfl
theorem t43 (S : Sg) : Tab (fun l vs h => stepAt (regK env orc21 nt43) (finK env Try.f43.results.toList) (collect B43 A43 []) l S vs h) (T43 S) := by
  unfold T43
  refine Tab.cons 0 (fun vs0 h q e0 => ?_) ?_
  · obtain ⟨r0, vs1, rfl, e1⟩ := uV_some e0
    obtain ⟨r1, vs2, rfl, e2⟩ := uV_some e1
    obtain ⟨rfl, ee⟩ := uN_some e2
    exact (q43x0 S r0 r1 h).symm.trans ee
  exact Tab.nil
theorem r43 : ∀ args h v h', F43 args h = some (v, h') → Runs (C21) (.call 43 args.toArray h) (.ret v h') := by
  intro args h v h' e
  exact fun_sound (C := C21) (fn := Try.f43) (body := B43) (np := 2) (A := A43) (T := T43) (kinds := [Kd.v, Kd.v]) (by kernel_rfl) (by kernel_rfl) (by kernel_rfl) (by kernel_rfl) (regK_ok env_ok) (by kernel_rfl) (fun S => t43 S) e
noncomputable def orc22 := orcQ 43 F43 orc21
noncomputable def C22 : Cfg := cfg orc22
theorem ok22 : C22.Ok := orcQ_ok (C := C21) ok21 r43
noncomputable def B69 : Code := (Try.f69.body).getD .skip
noncomputable def A69 : G.Ann (List KI) := (G.Ann.node (some (0, [KI.reg 0 (Kd.i .u32)])) G.Ann.nil (G.Ann.node none (G.Ann.node none G.Ann.nil (G.Ann.node none (G.Ann.node none G.Ann.nil G.Ann.nil) G.Ann.nil)) (G.Ann.node (some (2, [KI.reg 0 (Kd.i .u32), KI.reg 2 (Kd.i .i64)])) (G.Ann.node none G.Ann.nil (G.Ann.node none (G.Ann.node none G.Ann.nil G.Ann.nil) G.Ann.nil)) (G.Ann.node (some (1, [KI.reg 0 (Kd.i .u32), KI.reg 2 (Kd.i .i64)])) G.Ann.nil G.Ann.nil))))
noncomputable def P69x1 (h : Hp) (S : Nat → PAL → Option Value) (r0 : Int) (r2 : Int) : Option Value :=
  forceI (wrapF .u8 r0) fun i0 =>
  optK (indexV env 9 (Value.string (ByteArray.mk #[0, 1, 2, 2, 3, 3, 3, 3, 4, 4, 4, 4, 4, 4, 4, 4, 5, 5, 5, 5, 5, 5, 5, 5, 5, 5, 5, 5, 5, 5, 5, 5, 6, 6, 6, 6, 6, 6, 6, 6, 6, 6, 6, 6, 6, 6, 6, 6, 6, 6, 6, 6, 6, 6, 6, 6, 6, 6, 6, 6, 6, 6, 6, 6, 7, 7, 7, 7, 7, 7, 7, 7, 7, 7, 7, 7, 7, 7, 7, 7, 7, 7, 7, 7, 7, 7, 7, 7, 7, 7, 7, 7, 7, 7, 7, 7, 7, 7, 7, 7, 7, 7, 7, 7, 7, 7, 7, 7, 7, 7, 7, 7, 7, 7, 7, 7, 7, 7, 7, 7, 7, 7, 7, 7, 7, 7, 7, 7, 8, 8, 8, 8, 8, 8, 8, 8, 8, 8, 8, 8, 8, 8, 8, 8, 8, 8, 8, 8, 8, 8, 8, 8, 8, 8, 8, 8, 8, 8, 8, 8, 8, 8, 8, 8, 8, 8, 8, 8, 8, 8, 8, 8, 8, 8, 8, 8, 8, 8, 8, 8, 8, 8, 8, 8, 8, 8, 8, 8, 8, 8, 8, 8, 8, 8, 8, 8, 8, 8, 8, 8, 8, 8, 8, 8, 8, 8, 8, 8, 8, 8, 8, 8, 8, 8, 8, 8, 8, 8, 8, 8, 8, 8, 8, 8, 8, 8, 8, 8, 8, 8, 8, 8, 8, 8, 8, 8, 8, 8, 8, 8, 8, 8, 8, 8, 8, 8, 8, 8, 8, 8, 8, 8, 8, 8, 8, 8])) (Value.int .u8 i0)) fun v1 =>
  intK .u8 v1 fun i2 =>
  wrap64 i2 fun i3 =>
  wrap64 (Int.add r2 i3) fun i4 =>
  some (Value.int .i64 i4)
noncomputable def P69x2 (h : Hp) (S : Nat → PAL → Option Value) (r0 : Int) (r2 : Int) : Option Value :=
  boolN (ltZ r0 (Int.ofNat 256)) fun b0 =>
  ifB b0
  (shrZ .u32 r0 (Int.ofNat 8) (shrI (binW env .shr 116 (Value.int .u32 r0) (Value.int .u64 (Int.ofNat 8))) (Value.int .u32 r0) (Value.int .u64 (Int.ofNat 8))) fun i1 =>
  wrap64 (Int.add r2 (Int.ofNat 8)) fun i2 =>
  S 1 (PAL.i i1 (PAL.i i2 PAL.n)))
  (S 1 (PAL.i r0 (PAL.i r2 PAL.n)))
noncomputable def P69x0 (h : Hp) (S : Nat → PAL → Option Value) (r0 : Int) : Option Value :=
  boolN (ltZ r0 (Int.ofNat 65536)) fun b0 =>
  ifB b0
  (shrZ .u32 r0 (Int.ofNat 16) (shrI (binW env .shr 116 (Value.int .u32 r0) (Value.int .u64 (Int.ofNat 16))) (Value.int .u32 r0) (Value.int .u64 (Int.ofNat 16))) fun i1 =>
  S 2 (PAL.i i1 (PAL.i (Int.ofNat 16) PAL.n)))
  (S 2 (PAL.i r0 (PAL.i (Int.ofNat 0) PAL.n)))
noncomputable def T69 (h : Hp) (S : Nat → PAL → Option Value) : Nat → PAL → Option Value := tabPC 0 (wI fun r0 => wN (P69x0 h S r0)) (tabPC 2 (wI fun r0 => wI fun r2 => wN (P69x2 h S r0 r2)) (tabPC 1 (wI fun r0 => wI fun r2 => wN (P69x1 h S r0 r2)) (tabPN)))
noncomputable def F69 (args : List Value) (h : Hp) : Option Value := plainO (packArgs [Kd.i .u32] args fun al => G.rec' (T69 h) 1000000 0 al)
def nt69 : Nat := 1 + (19 - 1)
theorem q69x1 (h : Hp) (S : Nat → PAL → Option Value) (r0 : Int) (r2 : Int) : P69x1 h S r0 r2 = G.stepAt packP unpackP evXV (regP env pf9 nt69 h) (finP env Try.f69.results.toList) (G.collect B69 A69 []) 1 S (PAL.i r0 (PAL.i r2 PAL.n)) := by kernel_rfl
theorem q69x2 (h : Hp) (S : Nat → PAL → Option Value) (r0 : Int) (r2 : Int) : P69x2 h S r0 r2 = G.stepAt packP unpackP evXV (regP env pf9 nt69 h) (finP env Try.f69.results.toList) (G.collect B69 A69 []) 2 S (PAL.i r0 (PAL.i r2 PAL.n)) := by kernel_rfl
theorem q69x0 (h : Hp) (S : Nat → PAL → Option Value) (r0 : Int) : P69x0 h S r0 = G.stepAt packP unpackP evXV (regP env pf9 nt69 h) (finP env Try.f69.results.toList) (G.collect B69 A69 []) 0 S (PAL.i r0 PAL.n) := by kernel_rfl
theorem t69 (h : Hp) (S : Nat → PAL → Option Value) : TabP (fun l al => G.stepAt packP unpackP evXV (regP env pf9 nt69 h) (finP env Try.f69.results.toList) (G.collect B69 A69 []) l S al) (T69 h S) := by
  unfold T69
  refine TabP.cons 0 (fun vs0 q e0 => ?_) ?_
  · obtain ⟨r0, vs1, rfl, e1⟩ := wI_some e0
    obtain ⟨rfl, ee⟩ := wN_some e1
    exact (q69x0 h S r0).symm.trans ee
  refine TabP.cons 2 (fun vs0 q e0 => ?_) ?_
  · obtain ⟨r0, vs1, rfl, e1⟩ := wI_some e0
    obtain ⟨r2, vs2, rfl, e2⟩ := wI_some e1
    obtain ⟨rfl, ee⟩ := wN_some e2
    exact (q69x2 h S r0 r2).symm.trans ee
  refine TabP.cons 1 (fun vs0 q e0 => ?_) ?_
  · obtain ⟨r0, vs1, rfl, e1⟩ := wI_some e0
    obtain ⟨r2, vs2, rfl, e2⟩ := wI_some e1
    obtain ⟨rfl, ee⟩ := wN_some e2
    exact (q69x1 h S r0 r2).symm.trans ee
  exact TabP.nil
theorem r69 : PSound Try.prog 69 F69 := fun_soundP (C := C0) ok0 (pf := pf9) pfok9 (fn := Try.f69) (body := B69) (kinds := [Kd.i .u32]) (A := A69) (T := T69) (by kernel_rfl) (by kernel_rfl) (by kernel_rfl) (by kernel_rfl) (fun h S => t69 h S)
noncomputable def pf10 : PF := pfC 69 F69 pf9
theorem pfok10 : PfSound Try.prog pf10 := pfC_ok r69 pfok9
noncomputable def orc23 := orcP 69 F69 orc22
noncomputable def C23 : Cfg := cfg orc23
theorem ok23 : C23.Ok := orcP_ok (C := C22) ok22 r69
noncomputable def B70 : Code := (Try.f70.body).getD .skip
noncomputable def A70 : G.Ann (List KI) := (G.Ann.node (some (0, [KI.reg 0 (Kd.i .u64)])) G.Ann.nil (G.Ann.node none (G.Ann.node none G.Ann.nil (G.Ann.node none (G.Ann.node none G.Ann.nil G.Ann.nil) G.Ann.nil)) (G.Ann.node (some (3, [KI.reg 0 (Kd.i .u64), KI.reg 2 (Kd.i .i64)])) (G.Ann.node none G.Ann.nil (G.Ann.node none (G.Ann.node none G.Ann.nil G.Ann.nil) G.Ann.nil)) (G.Ann.node (some (2, [KI.reg 0 (Kd.i .u64), KI.reg 2 (Kd.i .i64)])) (G.Ann.node none G.Ann.nil (G.Ann.node none (G.Ann.node none G.Ann.nil G.Ann.nil) G.Ann.nil)) (G.Ann.node (some (1, [KI.reg 0 (Kd.i .u64), KI.reg 2 (Kd.i .i64)])) G.Ann.nil G.Ann.nil)))))
noncomputable def P70x1 (h : Hp) (S : Nat → PAL → Option Value) (r0 : Int) (r2 : Int) : Option Value :=
  forceI (wrapF .u8 r0) fun i0 =>
  optK (indexV env 9 (Value.string (ByteArray.mk #[0, 1, 2, 2, 3, 3, 3, 3, 4, 4, 4, 4, 4, 4, 4, 4, 5, 5, 5, 5, 5, 5, 5, 5, 5, 5, 5, 5, 5, 5, 5, 5, 6, 6, 6, 6, 6, 6, 6, 6, 6, 6, 6, 6, 6, 6, 6, 6, 6, 6, 6, 6, 6, 6, 6, 6, 6, 6, 6, 6, 6, 6, 6, 6, 7, 7, 7, 7, 7, 7, 7, 7, 7, 7, 7, 7, 7, 7, 7, 7, 7, 7, 7, 7, 7, 7, 7, 7, 7, 7, 7, 7, 7, 7, 7, 7, 7, 7, 7, 7, 7, 7, 7, 7, 7, 7, 7, 7, 7, 7, 7, 7, 7, 7, 7, 7, 7, 7, 7, 7, 7, 7, 7, 7, 7, 7, 7, 7, 8, 8, 8, 8, 8, 8, 8, 8, 8, 8, 8, 8, 8, 8, 8, 8, 8, 8, 8, 8, 8, 8, 8, 8, 8, 8, 8, 8, 8, 8, 8, 8, 8, 8, 8, 8, 8, 8, 8, 8, 8, 8, 8, 8, 8, 8, 8, 8, 8, 8, 8, 8, 8, 8, 8, 8, 8, 8, 8, 8, 8, 8, 8, 8, 8, 8, 8, 8, 8, 8, 8, 8, 8, 8, 8, 8, 8, 8, 8, 8, 8, 8, 8, 8, 8, 8, 8, 8, 8, 8, 8, 8, 8, 8, 8, 8, 8, 8, 8, 8, 8, 8, 8, 8, 8, 8, 8, 8, 8, 8, 8, 8, 8, 8, 8, 8, 8, 8, 8, 8, 8, 8, 8, 8, 8, 8, 8, 8])) (Value.int .u8 i0)) fun v1 =>
  intK .u8 v1 fun i2 =>
  wrap64 i2 fun i3 =>
  wrap64 (Int.add r2 i3) fun i4 =>
  some (Value.int .i64 i4)
noncomputable def P70x2 (h : Hp) (S : Nat → PAL → Option Value) (r0 : Int) (r2 : Int) : Option Value :=
  boolN (ltZ r0 (Int.ofNat 256)) fun b0 =>
  ifB b0
  (shrZ .u64 r0 (Int.ofNat 8) (shrI (binW env .shr 118 (Value.int .u64 r0) (Value.int .u64 (Int.ofNat 8))) (Value.int .u64 r0) (Value.int .u64 (Int.ofNat 8))) fun i1 =>
  wrap64 (Int.add r2 (Int.ofNat 8)) fun i2 =>
  S 1 (PAL.i i1 (PAL.i i2 PAL.n)))
  (S 1 (PAL.i r0 (PAL.i r2 PAL.n)))
noncomputable def P70x3 (h : Hp) (S : Nat → PAL → Option Value) (r0 : Int) (r2 : Int) : Option Value :=
  boolN (ltZ r0 (Int.ofNat 65536)) fun b0 =>
  ifB b0
  (shrZ .u64 r0 (Int.ofNat 16) (shrI (binW env .shr 118 (Value.int .u64 r0) (Value.int .u64 (Int.ofNat 16))) (Value.int .u64 r0) (Value.int .u64 (Int.ofNat 16))) fun i1 =>
  wrap64 (Int.add r2 (Int.ofNat 16)) fun i2 =>
  S 2 (PAL.i i1 (PAL.i i2 PAL.n)))
  (S 2 (PAL.i r0 (PAL.i r2 PAL.n)))
noncomputable def P70x0 (h : Hp) (S : Nat → PAL → Option Value) (r0 : Int) : Option Value :=
  boolN (ltZ r0 (Int.ofNat 4294967296)) fun b0 =>
  ifB b0
  (shrZ .u64 r0 (Int.ofNat 32) (shrI (binW env .shr 118 (Value.int .u64 r0) (Value.int .u64 (Int.ofNat 32))) (Value.int .u64 r0) (Value.int .u64 (Int.ofNat 32))) fun i1 =>
  S 3 (PAL.i i1 (PAL.i (Int.ofNat 32) PAL.n)))
  (S 3 (PAL.i r0 (PAL.i (Int.ofNat 0) PAL.n)))
noncomputable def T70 (h : Hp) (S : Nat → PAL → Option Value) : Nat → PAL → Option Value := tabPC 0 (wI fun r0 => wN (P70x0 h S r0)) (tabPC 3 (wI fun r0 => wI fun r2 => wN (P70x3 h S r0 r2)) (tabPC 2 (wI fun r0 => wI fun r2 => wN (P70x2 h S r0 r2)) (tabPC 1 (wI fun r0 => wI fun r2 => wN (P70x1 h S r0 r2)) (tabPN))))
noncomputable def F70 (args : List Value) (h : Hp) : Option Value := plainO (packArgs [Kd.i .u64] args fun al => G.rec' (T70 h) 1000000 0 al)
def nt70 : Nat := 1 + (25 - 1)
theorem q70x1 (h : Hp) (S : Nat → PAL → Option Value) (r0 : Int) (r2 : Int) : P70x1 h S r0 r2 = G.stepAt packP unpackP evXV (regP env pf10 nt70 h) (finP env Try.f70.results.toList) (G.collect B70 A70 []) 1 S (PAL.i r0 (PAL.i r2 PAL.n)) := by kernel_rfl
theorem q70x2 (h : Hp) (S : Nat → PAL → Option Value) (r0 : Int) (r2 : Int) : P70x2 h S r0 r2 = G.stepAt packP unpackP evXV (regP env pf10 nt70 h) (finP env Try.f70.results.toList) (G.collect B70 A70 []) 2 S (PAL.i r0 (PAL.i r2 PAL.n)) := by kernel_rfl
theorem q70x3 (h : Hp) (S : Nat → PAL → Option Value) (r0 : Int) (r2 : Int) : P70x3 h S r0 r2 = G.stepAt packP unpackP evXV (regP env pf10 nt70 h) (finP env Try.f70.results.toList) (G.collect B70 A70 []) 3 S (PAL.i r0 (PAL.i r2 PAL.n)) := by kernel_rfl
theorem q70x0 (h : Hp) (S : Nat → PAL → Option Value) (r0 : Int) : P70x0 h S r0 = G.stepAt packP unpackP evXV (regP env pf10 nt70 h) (finP env Try.f70.results.toList) (G.collect B70 A70 []) 0 S (PAL.i r0 PAL.n) := by kernel_rfl
theorem t70 (h : Hp) (S : Nat → PAL → Option Value) : TabP (fun l al => G.stepAt packP unpackP evXV (regP env pf10 nt70 h) (finP env Try.f70.results.toList) (G.collect B70 A70 []) l S al) (T70 h S) := by
  unfold T70
  refine TabP.cons 0 (fun vs0 q e0 => ?_) ?_
  · obtain ⟨r0, vs1, rfl, e1⟩ := wI_some e0
    obtain ⟨rfl, ee⟩ := wN_some e1
    exact (q70x0 h S r0).symm.trans ee
  refine TabP.cons 3 (fun vs0 q e0 => ?_) ?_
  · obtain ⟨r0, vs1, rfl, e1⟩ := wI_some e0
    obtain ⟨r2, vs2, rfl, e2⟩ := wI_some e1
    obtain ⟨rfl, ee⟩ := wN_some e2
    exact (q70x3 h S r0 r2).symm.trans ee
  refine TabP.cons 2 (fun vs0 q e0 => ?_) ?_
  · obtain ⟨r0, vs1, rfl, e1⟩ := wI_some e0
    obtain ⟨r2, vs2, rfl, e2⟩ := wI_some e1
    obtain ⟨rfl, ee⟩ := wN_some e2
    exact (q70x2 h S r0 r2).symm.trans ee
  refine TabP.cons 1 (fun vs0 q e0 => ?_) ?_
  · obtain ⟨r0, vs1, rfl, e1⟩ := wI_some e0
    obtain ⟨r2, vs2, rfl, e2⟩ := wI_some e1
    obtain ⟨rfl, ee⟩ := wN_some e2
    exact (q70x1 h S r0 r2).symm.trans ee
  exact TabP.nil
theorem r70 : PSound Try.prog 70 F70 := fun_soundP (C := C0) ok0 (pf := pf10) pfok10 (fn := Try.f70) (body := B70) (kinds := [Kd.i .u64]) (A := A70) (T := T70) (by kernel_rfl) (by kernel_rfl) (by kernel_rfl) (by kernel_rfl) (fun h S => t70 h S)
noncomputable def pf11 : PF := pfC 70 F70 pf10
theorem pfok11 : PfSound Try.prog pf11 := pfC_ok r70 pfok10
noncomputable def orc24 := orcP 70 F70 orc23
noncomputable def C24 : Cfg := cfg orc24
theorem ok24 : C24.Ok := orcP_ok (C := C23) ok23 r70
noncomputable def B59 : Code := (Try.f59.body).getD .skip
noncomputable def A59 : G.Ann (List KI) := (G.Ann.node (some (0, [KI.reg 0 (Kd.i .u64)])) G.Ann.nil (G.Ann.node none (G.Ann.node none (G.Ann.node none G.Ann.nil G.Ann.nil) G.Ann.nil) (G.Ann.node none G.Ann.nil G.Ann.nil)))
noncomputable def P59x0 (h : Hp) (S : Nat → PAL → Option Value) (r0 : Int) : Option Value :=
  optK (F70 [(Value.int .u64 r0)] h) fun v0 =>
  intK .i64 v0 fun i1 =>
  some (Value.int .i64 i1)
noncomputable def T59 (h : Hp) (S : Nat → PAL → Option Value) : Nat → PAL → Option Value := tabPC 0 (wI fun r0 => wN (P59x0 h S r0)) (tabPN)
noncomputable def F59 (args : List Value) (h : Hp) : Option Value := plainO (packArgs [Kd.i .u64] args fun al => G.rec' (T59 h) 1000000 0 al)
def nt59 : Nat := 1 + (8 - 1)
theorem q59x0 (h : Hp) (S : Nat → PAL → Option Value) (r0 : Int) : P59x0 h S r0 = G.stepAt packP unpackP evXV (regP env pf11 nt59 h) (finP env Try.f59.results.toList) (G.collect B59 A59 []) 0 S (PAL.i r0 PAL.n) := by kernel_rfl
theorem t59 (h : Hp) (S : Nat → PAL → Option Value) : TabP (fun l al => G.stepAt packP unpackP evXV (regP env pf11 nt59 h) (finP env Try.f59.results.toList) (G.collect B59 A59 []) l S al) (T59 h S) := by
  unfold T59
  refine TabP.cons 0 (fun vs0 q e0 => ?_) ?_
  · obtain ⟨r0, vs1, rfl, e1⟩ := wI_some e0
    obtain ⟨rfl, ee⟩ := wN_some e1
    exact (q59x0 h S r0).symm.trans ee
  exact TabP.nil
theorem r59 : PSound Try.prog 59 F59 := fun_soundP (C := C0) ok0 (pf := pf11) pfok11 (fn := Try.f59) (body := B59) (kinds := [Kd.i .u64]) (A := A59) (T := T59) (by kernel_rfl) (by kernel_rfl) (by kernel_rfl) (by kernel_rfl) (fun h S => t59 h S)
noncomputable def pf12 : PF := pfC 59 F59 pf11
theorem pfok12 : PfSound Try.prog pf12 := pfC_ok r59 pfok11
noncomputable def orc25 := orcP 59 F59 orc24
noncomputable def C25 : Cfg := cfg orc25
theorem ok25 : C25.Ok := orcP_ok (C := C24) ok24 r59
noncomputable def B60 : Code := (Try.f60.body).getD .skip
noncomputable def A60 : G.Ann (List KI) := (G.Ann.node (some (0, [KI.reg 0 (Kd.i .i64), KI.reg 1 (Kd.i .i64)])) G.Ann.nil (G.Ann.node none G.Ann.nil G.Ann.nil))
noncomputable def P60x0 (h : Hp) (S : Nat → PAL → Option Value) (r0 : Int) (r1 : Int) : Option Value :=
  shrZ .i64 r0 r1 (shrI (binW env .shr 3 (Value.int .i64 r0) (Value.int .i64 r1)) (Value.int .i64 r0) (Value.int .i64 r1)) fun i0 =>
  andZ .i64 i0 (Int.ofNat 1) (andI (binW env .and 3 (Value.int .i64 i0) (Value.int .i64 (Int.ofNat 1))) (Value.int .i64 i0) (Value.int .i64 (Int.ofNat 1))) fun i1 =>
  boolZ (eqZ i1 (Int.ofNat 1)) fun b2 =>
  some (Value.bool b2)
noncomputable def T60 (h : Hp) (S : Nat → PAL → Option Value) : Nat → PAL → Option Value := tabPC 0 (wI fun r0 => wI fun r1 => wN (P60x0 h S r0 r1)) (tabPN)
noncomputable def F60 (args : List Value) (h : Hp) : Option Value := plainO (packArgs [Kd.i .i64, Kd.i .i64] args fun al => G.rec' (T60 h) 1000000 0 al)
def nt60 : Nat := 2 + (10 - 2)
theorem q60x0 (h : Hp) (S : Nat → PAL → Option Value) (r0 : Int) (r1 : Int) : P60x0 h S r0 r1 = G.stepAt packP unpackP evXV (regP env pf12 nt60 h) (finP env Try.f60.results.toList) (G.collect B60 A60 []) 0 S (PAL.i r0 (PAL.i r1 PAL.n)) := by kernel_rfl
theorem t60 (h : Hp) (S : Nat → PAL → Option Value) : TabP (fun l al => G.stepAt packP unpackP evXV (regP env pf12 nt60 h) (finP env Try.f60.results.toList) (G.collect B60 A60 []) l S al) (T60 h S) := by
  unfold T60
  refine TabP.cons 0 (fun vs0 q e0 => ?_) ?_
  · obtain ⟨r0, vs1, rfl, e1⟩ := wI_some e0
    obtain ⟨r1, vs2, rfl, e2⟩ := wI_some e1
    obtain ⟨rfl, ee⟩ := wN_some e2
    exact (q60x0 h S r0 r1).symm.trans ee
  exact TabP.nil
theorem r60 : PSound Try.prog 60 F60 := fun_soundP (C := C0) ok0 (pf := pf12) pfok12 (fn := Try.f60) (body := B60) (kinds := [Kd.i .i64, Kd.i .i64]) (A := A60) (T := T60) (by kernel_rfl) (by kernel_rfl) (by kernel_rfl) (by kernel_rfl) (fun h S => t60 h S)
noncomputable def pf13 : PF := pfC 60 F60 pf12
theorem pfok13 : PfSound Try.prog pf13 := pfC_ok r60 pfok12
noncomputable def orc26 := orcP 60 F60 orc25
noncomputable def C26 : Cfg := cfg orc26
theorem ok26 : C26.Ok := orcP_ok (C := C25) ok25 r60
noncomputable def B41 : Code := (Try.f41.body).getD .skip
def A41 : Ann := (Ann.node (some (0, [(0, Kd.i .i64)])) Ann.nil (Ann.node none Ann.nil (Ann.node none (Ann.node none Ann.nil (Ann.node none (Ann.node (some (1, [(0, Kd.i .i64), (3, Kd.v), (7, Kd.i .i64), (8, Kd.i .i64)])) (Ann.node none Ann.nil (Ann.node none (Ann.node none Ann.nil Ann.nil) (Ann.node none (Ann.node none (Ann.node none Ann.nil (Ann.node none Ann.nil (Ann.node none Ann.nil Ann.nil))) Ann.nil) Ann.nil))) Ann.nil) Ann.nil)) (Ann.node (some (2, [(3, Kd.v)])) Ann.nil Ann.nil))))
noncomputable def P41x2 (S : Sg) (r3 : Value) (h : Hp) : CRes :=
  some (r3, h)
noncomputable def P41x1 (S : Sg) (r0 : Int) (r3 : Value) (r7 : Int) (r8 : Int) (h : Hp) : CRes :=
  boolZ (ltZ r8 r7) fun b0 =>
  ifB b0
  (pairK (optK (F60 [(Value.int .i64 r0), (Value.int .i64 r8)] h) fun v => some (v, h)) fun v1 h1 =>
  boolK v1 fun b2 =>
  ifB b2
  (pairK (buildSliceV env h1 53 1 (List.toArray [(0, (Value.int .i64 r8))])) fun v3 h3 =>
  pairK (appendV env h3 #[53, 53] (List.toArray [r3, v3])) fun v4 h4 =>
  wrap64 (Int.add r8 (Int.ofNat 1)) fun i5 =>
  S 1 (AL.i r0 (AL.v v4 (AL.i r7 (AL.i i5 AL.n)))) h4)
  (wrap64 (Int.add r8 (Int.ofNat 1)) fun i6 =>
  S 1 (AL.i r0 (AL.v r3 (AL.i r7 (AL.i i6 AL.n)))) h1))
  (S 2 (AL.v r3 AL.n) h)
noncomputable def P41x0 (S : Sg) (r0 : Int) (h : Hp) : CRes :=
  forceI (wrapF .u64 r0) fun i0 =>
  pairK (optK (F59 [(Value.int .u64 i0)] h) fun v => some (v, h)) fun v1 h1 =>
  intK .i64 v1 fun i2 =>
  S 1 (AL.i r0 (AL.v (Value.slice none 0 0) (AL.i i2 (AL.i (Int.ofNat 0) AL.n)))) h1
noncomputable def T41 (S : Sg) : Sg := tabC 0 (uI fun r0 => uN fun h => P41x0 S r0 h) (tabC 1 (uI fun r0 => uV fun r3 => uI fun r7 => uI fun r8 => uN fun h => P41x1 S r0 r3 r7 r8 h) (tabC 2 (uV fun r3 => uN fun h => P41x2 S r3 h) (tabN)))
noncomputable def F41 (args : List Value) (h : Hp) : CRes := packVals [Kd.i .i64] args fun al => rec' T41 1000000 0 al h
def nt41 : Nat := 1 + (20 - 1)
theorem q41x2 (S : Sg) (r3 : Value) (h : Hp) : P41x2 S r3 h = stepAt (regK env orc26 (nt41)) (finK env Try.f41.results.toList) (collect B41 A41 []) 2 S (AL.v r3 AL.n) h := by kernel_rfl
theorem q41x1 (S : Sg) (r0 : Int) (r3 : Value) (r7 : Int) (r8 : Int) (h : Hp) : P41x1 S r0 r3 r7 r8 h = stepAt (regK env orc26 (nt41)) (finK env Try.f41.results.toList) (collect B41 A41 []) 1 S (AL.i r0 (AL.v r3 (AL.i r7 (AL.i r8 AL.n)))) h := by kernel_rfl
theorem q41x0 (S : Sg) (r0 : Int) (h : Hp) : P41x0 S r0 h = stepAt (regK env orc26 (nt41)) (finK env Try.f41.results.toList) (collect B41 A41 []) 0 S (AL.i r0 AL.n) h := by kernel_rfl
theorem t41 (S : Sg) : Tab (fun l vs h => stepAt (regK env orc26 nt41) (finK env Try.f41.results.toList) (collect B41 A41 []) l S vs h) (T41 S) := by
  unfold T41
  refine Tab.cons 0 (fun vs0 h q e0 => ?_) ?_
  · obtain ⟨r0, vs1, rfl, e1⟩ := uI_some e0
    obtain ⟨rfl, ee⟩ := uN_some e1
    exact (q41x0 S r0 h).symm.trans ee
  refine Tab.cons 1 (fun vs0 h q e0 => ?_) ?_
  · obtain ⟨r0, vs1, rfl, e1⟩ := uI_some e0
    obtain ⟨r3, vs2, rfl, e2⟩ := uV_some e1
    obtain ⟨r7, vs3, rfl, e3⟩ := uI_some e2
    obtain ⟨r8, vs4, rfl, e4⟩ := uI_some e3
    obtain ⟨rfl, ee⟩ := uN_some e4
    exact (q41x1 S r0 r3 r7 r8 h).symm.trans ee
  refine Tab.cons 2 (fun vs0 h q e0 => ?_) ?_
  · obtain ⟨r3, vs1, rfl, e1⟩ := uV_some e0
    obtain ⟨rfl, ee⟩ := uN_some e1
    exact (q41x2 S r3 h).symm.trans ee
  exact Tab.nil
theorem r41 : ∀ args h v h', F41 args h = some (v, h') → Runs (C26) (.call 41 args.toArray h) (.ret v h') := by
  intro args h v h' e
  exact fun_sound (C := C26) (fn := Try.f41) (body := B41) (np := 1) (A := A41) (T := T41) (kinds := [Kd.i .i64]) (by kernel_rfl) (by kernel_rfl) (by kernel_rfl) (by kernel_rfl) (regK_ok env_ok) (by kernel_rfl) (fun S => t41 S) e
noncomputable def orc27 := orcQ 41 F41 orc26
noncomputable def C27 : Cfg := cfg orc27
theorem ok27 : C27.Ok := orcQ_ok (C := C26) ok26 r41
noncomputable def B71 : Code := (Try.f71.body).getD .skip
def A71 : Ann := (Ann.node (some (0, [(0, Kd.v), (1, Kd.i .i64), (2, Kd.i .i64), (3, Kd.v)])) Ann.nil (Ann.node none (Ann.node (some (1, [(0, Kd.v), (1, Kd.i .i64), (2, Kd.i .i64), (3, Kd.v), (8, Kd.i .i64)])) (Ann.node none (Ann.node none Ann.nil (Ann.node none Ann.nil Ann.nil)) (Ann.node none (Ann.node none (Ann.node none Ann.nil (Ann.node none (Ann.node (some (2, [(0, Kd.v), (1, Kd.i .i64), (2, Kd.i .i64), (3, Kd.v), (8, Kd.i .i64), (9, Kd.i .i64)])) (Ann.node none (Ann.node none Ann.nil (Ann.node none Ann.nil Ann.nil)) (Ann.node (some (3, [(0, Kd.v), (1, Kd.i .i64), (2, Kd.i .i64), (3, Kd.v), (8, Kd.i .i64), (9, Kd.i .i64)])) (Ann.node none Ann.nil Ann.nil) Ann.nil)) Ann.nil) Ann.nil)) Ann.nil) (Ann.node (some (4, [(0, Kd.v), (1, Kd.i .i64), (2, Kd.i .i64), (3, Kd.v), (8, Kd.i .i64)])) Ann.nil Ann.nil))) Ann.nil) Ann.nil))
noncomputable def P71x4 (S : Sg) (r0 : Value) (r1 : Int) (r2 : Int) (r3 : Value) (r8 : Int) (h : Hp) : CRes :=
  wrap64 (Int.add r8 (Int.ofNat 1)) fun i0 =>
  S 1 (AL.v r0 (AL.i r1 (AL.i r2 (AL.v r3 (AL.i i0 AL.n))))) h
noncomputable def P71x3 (S : Sg) (r0 : Value) (r1 : Int) (r2 : Int) (r3 : Value) (r8 : Int) (r9 : Int) (h : Hp) : CRes :=
  wrap64 (Int.sub r9 (Int.ofNat 1)) fun i0 =>
  wrap64 (Int.sub r9 (Int.ofNat 1)) fun i1 =>
  idxSK 1 r0 i1 fun v2 =>
  load1K h v2 fun v3 =>
  idxSK 1 r0 r9 fun v4 =>
  load1K h v4 fun v5 =>
  idxSK 1 r0 r9 fun v6 =>
  store1K h v6 v3 fun h7 =>
  idxSK 1 r0 i0 fun v8 =>
  store1K h7 v8 v5 fun h9 =>
  wrap64 (Int.sub r9 (Int.ofNat 1)) fun i10 =>
  S 2 (AL.v r0 (AL.i r1 (AL.i r2 (AL.v r3 (AL.i r8 (AL.i i10 AL.n)))))) h9
noncomputable def P71x2 (S : Sg) (r0 : Value) (r1 : Int) (r2 : Int) (r3 : Value) (r8 : Int) (r9 : Int) (h : Hp) : CRes :=
  boolZ (ltZ r1 r9) fun b0 =>
  ifB b0
  (idxSK 1 r0 r9 fun v1 =>
  load1K h v1 fun v2 =>
  wrap64 (Int.sub r9 (Int.ofNat 1)) fun i3 =>
  idxSK 1 r0 i3 fun v4 =>
  load1K h v4 fun v5 =>
  pairK (callF orc27 r3 [v2, v5] h) fun v6 h6 =>
  intK .i64 v6 fun i7 =>
  boolZ (ltZ i7 (Int.ofNat 0)) fun b8 =>
  ifB b8
  (S 3 (AL.v r0 (AL.i r1 (AL.i r2 (AL.v r3 (AL.i r8 (AL.i r9 AL.n)))))) h6)
  (S 4 (AL.v r0 (AL.i r1 (AL.i r2 (AL.v r3 (AL.i r8 AL.n))))) h6))
  (S 4 (AL.v r0 (AL.i r1 (AL.i r2 (AL.v r3 (AL.i r8 AL.n))))) h)
noncomputable def P71x1 (S : Sg) (r0 : Value) (r1 : Int) (r2 : Int) (r3 : Value) (r8 : Int) (h : Hp) : CRes :=
  boolZ (ltZ r8 r2) fun b0 =>
  ifB b0
  (S 2 (AL.v r0 (AL.i r1 (AL.i r2 (AL.v r3 (AL.i r8 (AL.i r8 AL.n)))))) h)
  (some (Value.tuple (List.toArray []), h))
noncomputable def P71x0 (S : Sg) (r0 : Value) (r1 : Int) (r2 : Int) (r3 : Value) (h : Hp) : CRes :=
  wrap64 (Int.add r1 (Int.ofNat 1)) fun i0 =>
  S 1 (AL.v r0 (AL.i r1 (AL.i r2 (AL.v r3 (AL.i i0 AL.n))))) h
noncomputable def T71 (S : Sg) : Sg := tabC 0 (uV fun r0 => uI fun r1 => uI fun r2 => uV fun r3 => uN fun h => P71x0 S r0 r1 r2 r3 h) (tabC 1 (uV fun r0 => uI fun r1 => uI fun r2 => uV fun r3 => uI fun r8 => uN fun h => P71x1 S r0 r1 r2 r3 r8 h) (tabC 2 (uV fun r0 => uI fun r1 => uI fun r2 => uV fun r3 => uI fun r8 => uI fun r9 => uN fun h => P71x2 S r0 r1 r2 r3 r8 r9 h) (tabC 3 (uV fun r0 => uI fun r1 => uI fun r2 => uV fun r3 => uI fun r8 => uI fun r9 => uN fun h => P71x3 S r0 r1 r2 r3 r8 r9 h) (tabC 4 (uV fun r0 => uI fun r1 => uI fun r2 => uV fun r3 => uI fun r8 => uN fun h => P71x4 S r0 r1 r2 r3 r8 h) (tabN)))))
noncomputable def F71 (args : List Value) (h : Hp) : CRes := packVals [Kd.v, Kd.i .i64, Kd.i .i64, Kd.v] args fun al => rec' T71 1000000 0 al h
def nt71 : Nat := 4 + (53 - 4)
theorem q71x4 (S : Sg) (r0 : Value) (r1 : Int) (r2 : Int) (r3 : Value) (r8 : Int) (h : Hp) : P71x4 S r0 r1 r2 r3 r8 h = stepAt (regK env orc27 (nt71)) (finK env Try.f71.results.toList) (collect B71 A71 []) 4 S (AL.v r0 (AL.i r1 (AL.i r2 (AL.v r3 (AL.i r8 AL.n))))) h := by kernel_rfl
theorem q71x3 (S : Sg) (r0 : Value) (r1 : Int) (r2 : Int) (r3 : Value) (r8 : Int) (r9 : Int) (h : Hp) : P71x3 S r0 r1 r2 r3 r8 r9 h = stepAt (regK env orc27 (nt71)) (finK env Try.f71.results.toList) (collect B71 A71 []) 3 S (AL.v r0 (AL.i r1 (AL.i r2 (AL.v r3 (AL.i r8 (AL.i r9 AL.n)))))) h := by kernel_rfl
theorem q71x2 (S : Sg) (r0 : Value) (r1 : Int) (r2 : Int) (r3 : Value) (r8 : Int) (r9 : Int) (h : Hp) : P71x2 S r0 r1 r2 r3 r8 r9 h = stepAt (regK env orc27 (nt71)) (finK env Try.f71.results.toList) (collect B71 A71 []) 2 S (AL.v r0 (AL.i r1 (AL.i r2 (AL.v r3 (AL.i r8 (AL.i r9 AL.n)))))) h := by kernel_rfl
theorem q71x1 (S : Sg) (r0 : Value) (r1 : Int) (r2 : Int) (r3 : Value) (r8 : Int) (h : Hp) : P71x1 S r0 r1 r2 r3 r8 h = stepAt (regK env orc27 (nt71)) (finK env Try.f71.results.toList) (collect B71 A71 []) 1 S (AL.v r0 (AL.i r1 (AL.i r2 (AL.v r3 (AL.i r8 AL.n))))) h := by kernel_rfl
theorem q71x0 (S : Sg) (r0 : Value) (r1 : Int) (r2 : Int) (r3 : Value) (h : Hp) : P71x0 S r0 r1 r2 r3 h = stepAt (regK env orc27 (nt71)) (finK env Try.f71.results.toList) (collect B71 A71 []) 0 S (AL.v r0 (AL.i r1 (AL.i r2 (AL.v r3 AL.n)))) h := by kernel_rfl
theorem t71 (S : Sg) : Tab (fun l vs h => stepAt (regK env orc27 nt71) (finK env Try.f71.results.toList) (collect B71 A71 []) l S vs h) (T71 S) := by
  unfold T71
  refine Tab.cons 0 (fun vs0 h q e0 => ?_) ?_
  · obtain ⟨r0, vs1, rfl, e1⟩ := uV_some e0
    obtain ⟨r1, vs2, rfl, e2⟩ := uI_some e1
    obtain ⟨r2, vs3, rfl, e3⟩ := uI_some e2
    obtain ⟨r3, vs4, rfl, e4⟩ := uV_some e3
    obtain ⟨rfl, ee⟩ := uN_some e4
    exact (q71x0 S r0 r1 r2 r3 h).symm.trans ee
  refine Tab.cons 1 (fun vs0 h q e0 => ?_) ?_
  · obtain ⟨r0, vs1, rfl, e1⟩ := uV_some e0
    obtain ⟨r1, vs2, rfl, e2⟩ := uI_some e1
    obtain ⟨r2, vs3, rfl, e3⟩ := uI_some e2
    obtain ⟨r3, vs4, rfl, e4⟩ := uV_some e3
    obtain ⟨r8, vs5, rfl, e5⟩ := uI_some e4
    obtain ⟨rfl, ee⟩ := uN_some e5
    exact (q71x1 S r0 r1 r2 r3 r8 h).symm.trans ee
  refine Tab.cons 2 (fun vs0 h q e0 => ?_) ?_
  · obtain ⟨r0, vs1, rfl, e1⟩ := uV_some e0
    obtain ⟨r1, vs2, rfl, e2⟩ := uI_some e1
    obtain ⟨r2, vs3, rfl, e3⟩ := uI_some e2
    obtain ⟨r3, vs4, rfl, e4⟩ := uV_some e3
    obtain ⟨r8, vs5, rfl, e5⟩ := uI_some e4
    obtain ⟨r9, vs6, rfl, e6⟩ := uI_some e5
    obtain ⟨rfl, ee⟩ := uN_some e6
    exact (q71x2 S r0 r1 r2 r3 r8 r9 h).symm.trans ee
  refine Tab.cons 3 (fun vs0 h q e0 => ?_) ?_
  · obtain ⟨r0, vs1, rfl, e1⟩ := uV_some e0
    obtain ⟨r1, vs2, rfl, e2⟩ := uI_some e1
    obtain ⟨r2, vs3, rfl, e3⟩ := uI_some e2
    obtain ⟨r3, vs4, rfl, e4⟩ := uV_some e3
    obtain ⟨r8, vs5, rfl, e5⟩ := uI_some e4
    obtain ⟨r9, vs6, rfl, e6⟩ := uI_some e5
    obtain ⟨rfl, ee⟩ := uN_some e6
    exact (q71x3 S r0 r1 r2 r3 r8 r9 h).symm.trans ee
  refine Tab.cons 4 (fun vs0 h q e0 => ?_) ?_
  · obtain ⟨r0, vs1, rfl, e1⟩ := uV_some e0
    obtain ⟨r1, vs2, rfl, e2⟩ := uI_some e1
    obtain ⟨r2, vs3, rfl, e3⟩ := uI_some e2
    obtain ⟨r3, vs4, rfl, e4⟩ := uV_some e3
    obtain ⟨r8, vs5, rfl, e5⟩ := uI_some e4
    obtain ⟨rfl, ee⟩ := uN_some e5
    exact (q71x4 S r0 r1 r2 r3 r8 h).symm.trans ee
  exact Tab.nil
theorem r71 : ∀ args h v h', F71 args h = some (v, h') → Runs (C27) (.call 71 args.toArray h) (.ret v h') := by
  intro args h v h' e
  exact fun_sound (C := C27) (fn := Try.f71) (body := B71) (np := 4) (A := A71) (T := T71) (kinds := [Kd.v, Kd.i .i64, Kd.i .i64, Kd.v]) (by kernel_rfl) (by kernel_rfl) (by kernel_rfl) (by kernel_rfl) (regK_ok env_ok) (by kernel_rfl) (fun S => t71 S) e
noncomputable def orc28 := orcD 71 F71 orc27
noncomputable def C28 : Cfg := cfg orc28
theorem ok28 : C28.Ok := orcD_ok (C := C27) ok27 r71
noncomputable def B61 : Code := (Try.f61.body).getD .skip
def A61 : Ann := (Ann.node (some (0, [(0, Kd.v), (1, Kd.i .i64), (2, Kd.i .i64), (3, Kd.i .i64), (4, Kd.v)])) Ann.nil (Ann.node none Ann.nil (Ann.node none (Ann.node (some (1, [(0, Kd.v), (1, Kd.i .i64), (2, Kd.i .i64), (3, Kd.i .i64), (4, Kd.v), (10, Kd.b), (11, Kd.b)])) (Ann.node none (Ann.node none Ann.nil (Ann.node none (Ann.node none Ann.nil (Ann.node none (Ann.node none Ann.nil Ann.nil) Ann.nil)) (Ann.node none (Ann.node none Ann.nil (Ann.node none (Ann.node none Ann.nil Ann.nil) Ann.nil)) (Ann.node none (Ann.node none Ann.nil (Ann.node none (Ann.node none Ann.nil Ann.nil) Ann.nil)) (Ann.node (some (7, [(0, Kd.v), (1, Kd.i .i64), (2, Kd.i .i64), (3, Kd.i .i64), (4, Kd.v), (10, Kd.b), (11, Kd.b), (12, Kd.i .i64)])) Ann.nil (Ann.node none (Ann.node none Ann.nil (Ann.node none (Ann.node none Ann.nil (Ann.node none Ann.nil Ann.nil)) Ann.nil)) (Ann.node (some (6, [(0, Kd.v), (1, Kd.i .i64), (2, Kd.i .i64), (3, Kd.i .i64), (4, Kd.v), (10, Kd.b), (11, Kd.b), (12, Kd.i .i64), (13, Kd.i .i64), (14, Kd.i .i64)])) (Ann.node none Ann.nil (Ann.node (some (2, [(0, Kd.v), (1, Kd.i .i64), (2, Kd.i .i64), (3, Kd.i .i64), (4, Kd.v), (10, Kd.b), (11, Kd.b), (12, Kd.i .i64), (13, Kd.i .i64), (75, Kd.b)])) (Ann.node none Ann.nil (Ann.node none Ann.nil Ann.nil)) Ann.nil)) (Ann.node (some (5, [(0, Kd.v), (1, Kd.i .i64), (2, Kd.i .i64), (3, Kd.i .i64), (4, Kd.v), (10, Kd.b), (11, Kd.b), (12, Kd.i .i64), (13, Kd.i .i64)])) (Ann.node none Ann.nil (Ann.node (some (3, [(0, Kd.v), (1, Kd.i .i64), (2, Kd.i .i64), (3, Kd.i .i64), (4, Kd.v), (10, Kd.b), (11, Kd.b), (12, Kd.i .i64), (13, Kd.i .i64), (97, Kd.b)])) (Ann.node none Ann.nil (Ann.node none Ann.nil Ann.nil)) Ann.nil)) (Ann.node (some (4, [(0, Kd.v), (1, Kd.i .i64), (2, Kd.i .i64), (3, Kd.i .i64), (4, Kd.v), (12, Kd.i .i64), (13, Kd.i .i64)])) Ann.nil (Ann.node none Ann.nil (Ann.node none Ann.nil (Ann.node none Ann.nil (Ann.node none Ann.nil (Ann.node none (Ann.node none Ann.nil (Ann.node none Ann.nil Ann.nil)) (Ann.node none Ann.nil (Ann.node none Ann.nil Ann.nil)))))))))))))))) Ann.nil) Ann.nil) Ann.nil)))
noncomputable def P61x4 (S : Sg) (r0 : Value) (r1 : Int) (r2 : Int) (r3 : Int) (r4 : Value) (r12 : Int) (r13 : Int) (h : Hp) : CRes :=
  none
noncomputable def P61x3 (S : Sg) (r0 : Value) (r1 : Int) (r2 : Int) (r3 : Int) (r4 : Value) (r10 : Bool) (r11 : Bool) (r12 : Int) (r13 : Int) (r97 : Bool) (h : Hp) : CRes :=
  ifB r97
  (none)
  (S 4 (AL.v r0 (AL.i r1 (AL.i r2 (AL.i r3 (AL.v r4 (AL.i r12 (AL.i r13 AL.n))))))) h)
noncomputable def P61x5 (S : Sg) (r0 : Value) (r1 : Int) (r2 : Int) (r3 : Int) (r4 : Value) (r10 : Bool) (r11 : Bool) (r12 : Int) (r13 : Int) (h : Hp) : CRes :=
  boolZ (ltZ (Int.ofNat 0) r1) fun b0 =>
  ifB b0
  (wrap64 (Int.sub r1 (Int.ofNat 1)) fun i1 =>
  idxSK 1 r0 i1 fun v2 =>
  load1K h v2 fun v3 =>
  idxSK 1 r0 r13 fun v4 =>
  load1K h v4 fun v5 =>
  pairK (callF orc28 r4 [v3, v5] h) fun v6 h6 =>
  intK .i64 v6 fun i7 =>
  boolZ (ltZ i7 (Int.ofNat 0)) fun b8 =>
  boolN b8 fun b9 =>
  S 3 (AL.v r0 (AL.i r1 (AL.i r2 (AL.i r3 (AL.v r4 (AL.b r10 (AL.b r11 (AL.i r12 (AL.i r13 (AL.b b9 AL.n)))))))))) h6)
  (S 3 (AL.v r0 (AL.i r1 (AL.i r2 (AL.i r3 (AL.v r4 (AL.b r10 (AL.b r11 (AL.i r12 (AL.i r13 (AL.b false AL.n)))))))))) h)
noncomputable def P61x2 (S : Sg) (r0 : Value) (r1 : Int) (r2 : Int) (r3 : Int) (r4 : Value) (r10 : Bool) (r11 : Bool) (r12 : Int) (r13 : Int) (r75 : Bool) (h : Hp) : CRes :=
  ifB r75
  (none)
  (S 5 (AL.v r0 (AL.i r1 (AL.i r2 (AL.i r3 (AL.v r4 (AL.b r10 (AL.b r11 (AL.i r12 (AL.i r13 AL.n))))))))) h)
noncomputable def P61x6 (S : Sg) (r0 : Value) (r1 : Int) (r2 : Int) (r3 : Int) (r4 : Value) (r10 : Bool) (r11 : Bool) (r12 : Int) (r13 : Int) (r14 : Int) (h : Hp) : CRes :=
  ifB r10
  (ifB r11
  (boolZ (eqZ r14 (Int.ofNat 1)) fun b0 =>
  S 2 (AL.v r0 (AL.i r1 (AL.i r2 (AL.i r3 (AL.v r4 (AL.b r10 (AL.b r11 (AL.i r12 (AL.i r13 (AL.b b0 AL.n)))))))))) h)
  (S 2 (AL.v r0 (AL.i r1 (AL.i r2 (AL.i r3 (AL.v r4 (AL.b r10 (AL.b r11 (AL.i r12 (AL.i r13 (AL.b false AL.n)))))))))) h))
  (S 2 (AL.v r0 (AL.i r1 (AL.i r2 (AL.i r3 (AL.v r4 (AL.b r10 (AL.b r11 (AL.i r12 (AL.i r13 (AL.b false AL.n)))))))))) h)
noncomputable def P61x7 (S : Sg) (r0 : Value) (r1 : Int) (r2 : Int) (r3 : Int) (r4 : Value) (r10 : Bool) (r11 : Bool) (r12 : Int) (h : Hp) : CRes :=
  none
noncomputable def P61x1 (S : Sg) (r0 : Value) (r1 : Int) (r2 : Int) (r3 : Int) (r4 : Value) (r10 : Bool) (r11 : Bool) (h : Hp) : CRes :=
  wrap64 (Int.sub r2 r1) fun i0 =>
  boolN (ltZ (Int.ofNat 12) i0) fun b1 =>
  ifB b1
  (pairK (F71 [r0, (Value.int .i64 r1), (Value.int .i64 r2), r4] h) fun v2 h2 =>
  some (Value.tuple (List.toArray []), h2))
  (boolZ (eqZ r3 (Int.ofNat 0)) fun b3 =>
  ifB b3
  (none)
  (boolN r10 fun b4 =>
  ifB b4
  (none)
  (S 7 (AL.v r0 (AL.i r1 (AL.i r2 (AL.i r3 (AL.v r4 (AL.b r10 (AL.b r11 (AL.i i0 AL.n)))))))) h)))
noncomputable def P61x0 (S : Sg) (r0 : Value) (r1 : Int) (r2 : Int) (r3 : Int) (r4 : Value) (h : Hp) : CRes :=
  S 1 (AL.v r0 (AL.i r1 (AL.i r2 (AL.i r3 (AL.v r4 (AL.b true (AL.b true AL.n))))))) h
noncomputable def T61 (S : Sg) : Sg := tabC 0 (uV fun r0 => uI fun r1 => uI fun r2 => uI fun r3 => uV fun r4 => uN fun h => P61x0 S r0 r1 r2 r3 r4 h) (tabC 1 (uV fun r0 => uI fun r1 => uI fun r2 => uI fun r3 => uV fun r4 => uB fun r10 => uB fun r11 => uN fun h => P61x1 S r0 r1 r2 r3 r4 r10 r11 h) (tabC 7 (uV fun r0 => uI fun r1 => uI fun r2 => uI fun r3 => uV fun r4 => uB fun r10 => uB fun r11 => uI fun r12 => uN fun h => P61x7 S r0 r1 r2 r3 r4 r10 r11 r12 h) (tabC 6 (uV fun r0 => uI fun r1 => uI fun r2 => uI fun r3 => uV fun r4 => uB fun r10 => uB fun r11 => uI fun r12 => uI fun r13 => uI fun r14 => uN fun h => P61x6 S r0 r1 r2 r3 r4 r10 r11 r12 r13 r14 h) (tabC 2 (uV fun r0 => uI fun r1 => uI fun r2 => uI fun r3 => uV fun r4 => uB fun r10 => uB fun r11 => uI fun r12 => uI fun r13 => uB fun r75 => uN fun h => P61x2 S r0 r1 r2 r3 r4 r10 r11 r12 r13 r75 h) (tabC 5 (uV fun r0 => uI fun r1 => uI fun r2 => uI fun r3 => uV fun r4 => uB fun r10 => uB fun r11 => uI fun r12 => uI fun r13 => uN fun h => P61x5 S r0 r1 r2 r3 r4 r10 r11 r12 r13 h) (tabC 3 (uV fun r0 => uI fun r1 => uI fun r2 => uI fun r3 => uV fun r4 => uB fun r10 => uB fun r11 => uI fun r12 => uI fun r13 => uB fun r97 => uN fun h => P61x3 S r0 r1 r2 r3 r4 r10 r11 r12 r13 r97 h) (tabC 4 (uV fun r0 => uI fun r1 => uI fun r2 => uI fun r3 => uV fun r4 => uI fun r12 => uI fun r13 => uN fun h => P61x4 S r0 r1 r2 r3 r4 r12 r13 h) (tabN))))))))
noncomputable def F61 (args : List Value) (h : Hp) : CRes := packVals [Kd.v, Kd.i .i64, Kd.i .i64, Kd.i .i64, Kd.v] args fun al => rec' T61 1000000 0 al h
def nt61 : Nat := 5 + (148 - 5)
theorem q61x4 (S : Sg) (r0 : Value) (r1 : Int) (r2 : Int) (r3 : Int) (r4 : Value) (r12 : Int) (r13 : Int) (h : Hp) : P61x4 S r0 r1 r2 r3 r4 r12 r13 h = stepAt (regK env orc28 (nt61)) (finK env Try.f61.results.toList) (collect B61 A61 []) 4 S (AL.v r0 (AL.i r1 (AL.i r2 (AL.i r3 (AL.v r4 (AL.i r12 (AL.i r13 AL.n))))))) h := by kernel_rfl
theorem q61x3 (S : Sg) (r0 : Value) (r1 : Int) (r2 : Int) (r3 : Int) (r4 : Value) (r10 : Bool) (r11 : Bool) (r12 : Int) (r13 : Int) (r97 : Bool) (h : Hp) : P61x3 S r0 r1 r2 r3 r4 r10 r11 r12 r13 r97 h = stepAt (regK env orc28 (nt61)) (finK env Try.f61.results.toList) (collect B61 A61 []) 3 S (AL.v r0 (AL.i r1 (AL.i r2 (AL.i r3 (AL.v r4 (AL.b r10 (AL.b r11 (AL.i r12 (AL.i r13 (AL.b r97 AL.n)))))))))) h := by kernel_rfl
theorem q61x5 (S : Sg) (r0 : Value) (r1 : Int) (r2 : Int) (r3 : Int) (r4 : Value) (r10 : Bool) (r11 : Bool) (r12 : Int) (r13 : Int) (h : Hp) : P61x5 S r0 r1 r2 r3 r4 r10 r11 r12 r13 h = stepAt (regK env orc28 (nt61)) (finK env Try.f61.results.toList) (collect B61 A61 []) 5 S (AL.v r0 (AL.i r1 (AL.i r2 (AL.i r3 (AL.v r4 (AL.b r10 (AL.b r11 (AL.i r12 (AL.i r13 AL.n))))))))) h := by kernel_rfl
theorem q61x2 (S : Sg) (r0 : Value) (r1 : Int) (r2 : Int) (r3 : Int) (r4 : Value) (r10 : Bool) (r11 : Bool) (r12 : Int) (r13 : Int) (r75 : Bool) (h : Hp) : P61x2 S r0 r1 r2 r3 r4 r10 r11 r12 r13 r75 h = stepAt (regK env orc28 (nt61)) (finK env Try.f61.results.toList) (collect B61 A61 []) 2 S (AL.v r0 (AL.i r1 (AL.i r2 (AL.i r3 (AL.v r4 (AL.b r10 (AL.b r11 (AL.i r12 (AL.i r13 (AL.b r75 AL.n)))))))))) h := by kernel_rfl
theorem q61x6 (S : Sg) (r0 : Value) (r1 : Int) (r2 : Int) (r3 : Int) (r4 : Value) (r10 : Bool) (r11 : Bool) (r12 : Int) (r13 : Int) (r14 : Int) (h : Hp) : P61x6 S r0 r1 r2 r3 r4 r10 r11 r12 r13 r14 h = stepAt (regK env orc28 (nt61)) (finK env Try.f61.results.toList) (collect B61 A61 []) 6 S (AL.v r0 (AL.i r1 (AL.i r2 (AL.i r3 (AL.v r4 (AL.b r10 (AL.b r11 (AL.i r12 (AL.i r13 (AL.i r14 AL.n)))))))))) h := by kernel_rfl
theorem q61x7 (S : Sg) (r0 : Value) (r1 : Int) (r2 : Int) (r3 : Int) (r4 : Value) (r10 : Bool) (r11 : Bool) (r12 : Int) (h : Hp) : P61x7 S r0 r1 r2 r3 r4 r10 r11 r12 h = stepAt (regK env orc28 (nt61)) (finK env Try.f61.results.toList) (collect B61 A61 []) 7 S (AL.v r0 (AL.i r1 (AL.i r2 (AL.i r3 (AL.v r4 (AL.b r10 (AL.b r11 (AL.i r12 AL.n)))))))) h := by kernel_rfl
theorem q61x1 (S : Sg) (r0 : Value) (r1 : Int) (r2 : Int) (r3 : Int) (r4 : Value) (r10 : Bool) (r11 : Bool) (h : Hp) : P61x1 S r0 r1 r2 r3 r4 r10 r11 h = stepAt (regK env orc28 (nt61)) (finK env Try.f61.results.toList) (collect B61 A61 []) 1 S (AL.v r0 (AL.i r1 (AL.i r2 (AL.i r3 (AL.v r4 (AL.b r10 (AL.b r11 AL.n))))))) h := by kernel_rfl
theorem q61x0 (S : Sg) (r0 : Value) (r1 : Int) (r2 : Int) (r3 : Int) (r4 : Value) (h : Hp) : P61x0 S r0 r1 r2 r3 r4 h = stepAt (regK env orc28 (nt61)) (finK env Try.f61.results.toList) (collect B61 A61 []) 0 S (AL.v r0 (AL.i r1 (AL.i r2 (AL.i r3 (AL.v r4 AL.n))))) h := by kernel_rfl
theorem t61 (S : Sg) : Tab (fun l vs h => stepAt (regK env orc28 nt61) (finK env Try.f61.results.toList) (collect B61 A61 []) l S vs h) (T61 S) := by
  unfold T61
  refine Tab.cons 0 (fun vs0 h q e0 => ?_) ?_
  · obtain ⟨r0, vs1, rfl, e1⟩ := uV_some e0
    obtain ⟨r1, vs2, rfl, e2⟩ := uI_some e1
    obtain ⟨r2, vs3, rfl, e3⟩ := uI_some e2
    obtain ⟨r3, vs4, rfl, e4⟩ := uI_some e3
    obtain ⟨r4, vs5, rfl, e5⟩ := uV_some e4
    obtain ⟨rfl, ee⟩ := uN_some e5
    exact (q61x0 S r0 r1 r2 r3 r4 h).symm.trans ee
  refine Tab.cons 1 (fun vs0 h q e0 => ?_) ?_
  · obtain ⟨r0, vs1, rfl, e1⟩ := uV_some e0
    obtain ⟨r1, vs2, rfl, e2⟩ := uI_some e1
    obtain ⟨r2, vs3, rfl, e3⟩ := uI_some e2
    obtain ⟨r3, vs4, rfl, e4⟩ := uI_some e3
    obtain ⟨r4, vs5, rfl, e5⟩ := uV_some e4
    obtain ⟨r10, vs6, rfl, e6⟩ := uB_some e5
    obtain ⟨r11, vs7, rfl, e7⟩ := uB_some e6
    obtain ⟨rfl, ee⟩ := uN_some e7
    exact (q61x1 S r0 r1 r2 r3 r4 r10 r11 h).symm.trans ee
  refine Tab.cons 7 (fun vs0 h q e0 => ?_) ?_
  · obtain ⟨r0, vs1, rfl, e1⟩ := uV_some e0
    obtain ⟨r1, vs2, rfl, e2⟩ := uI_some e1
    obtain ⟨r2, vs3, rfl, e3⟩ := uI_some e2
    obtain ⟨r3, vs4, rfl, e4⟩ := uI_some e3
    obtain ⟨r4, vs5, rfl, e5⟩ := uV_some e4
    obtain ⟨r10, vs6, rfl, e6⟩ := uB_some e5
    obtain ⟨r11, vs7, rfl, e7⟩ := uB_some e6
    obtain ⟨r12, vs8, rfl, e8⟩ := uI_some e7
    obtain ⟨rfl, ee⟩ := uN_some e8
    exact (q61x7 S r0 r1 r2 r3 r4 r10 r11 r12 h).symm.trans ee
  refine Tab.cons 6 (fun vs0 h q e0 => ?_) ?_
  · obtain ⟨r0, vs1, rfl, e1⟩ := uV_some e0
    obtain ⟨r1, vs2, rfl, e2⟩ := uI_some e1
    obtain ⟨r2, vs3, rfl, e3⟩ := uI_some e2
    obtain ⟨r3, vs4, rfl, e4⟩ := uI_some e3
    obtain ⟨r4, vs5, rfl, e5⟩ := uV_some e4
    obtain ⟨r10, vs6, rfl, e6⟩ := uB_some e5
    obtain ⟨r11, vs7, rfl, e7⟩ := uB_some e6
    obtain ⟨r12, vs8, rfl, e8⟩ := uI_some e7
    obtain ⟨r13, vs9, rfl, e9⟩ := uI_some e8
    obtain ⟨r14, vs10, rfl, e10⟩ := uI_some e9
    obtain ⟨rfl, ee⟩ := uN_some e10
    exact (q61x6 S r0 r1 r2 r3 r4 r10 r11 r12 r13 r14 h).symm.trans ee
  refine Tab.cons 2 (fun vs0 h q e0 => ?_) ?_
  · obtain ⟨r0, vs1, rfl, e1⟩ := uV_some e0
    obtain ⟨r1, vs2, rfl, e2⟩ := uI_some e1
    obtain ⟨r2, vs3, rfl, e3⟩ := uI_some e2
    obtain ⟨r3, vs4, rfl, e4⟩ := uI_some e3
    obtain ⟨r4, vs5, rfl, e5⟩ := uV_some e4
    obtain ⟨r10, vs6, rfl, e6⟩ := uB_some e5
    obtain ⟨r11, vs7, rfl, e7⟩ := uB_some e6
    obtain ⟨r12, vs8, rfl, e8⟩ := uI_some e7
    obtain ⟨r13, vs9, rfl, e9⟩ := uI_some e8
    obtain ⟨r75, vs10, rfl, e10⟩ := uB_some e9
    obtain ⟨rfl, ee⟩ := uN_some e10
    exact (q61x2 S r0 r1 r2 r3 r4 r10 r11 r12 r13 r75 h).symm.trans ee
  refine Tab.cons 5 (fun vs0 h q e0 => ?_) ?_
  · obtain ⟨r0, vs1, rfl, e1⟩ := uV_some e0
    obtain ⟨r1, vs2, rfl, e2⟩ := uI_some e1
    obtain ⟨r2, vs3, rfl, e3⟩ := uI_some e2
    obtain ⟨r3, vs4, rfl, e4⟩ := uI_some e3
    obtain ⟨r4, vs5, rfl, e5⟩ := uV_some e4
    obtain ⟨r10, vs6, rfl, e6⟩ := uB_some e5
    obtain ⟨r11, vs7, rfl, e7⟩ := uB_some e6
    obtain ⟨r12, vs8, rfl, e8⟩ := uI_some e7
    obtain ⟨r13, vs9, rfl, e9⟩ := uI_some e8
    obtain ⟨rfl, ee⟩ := uN_some e9
    exact (q61x5 S r0 r1 r2 r3 r4 r10 r11 r12 r13 h).symm.trans ee
  refine Tab.cons 3 (fun vs0 h q e0 => ?_) ?_
  · obtain ⟨r0, vs1, rfl, e1⟩ := uV_some e0
    obtain ⟨r1, vs2, rfl, e2⟩ := uI_some e1
    obtain ⟨r2, vs3, rfl, e3⟩ := uI_some e2
    obtain ⟨r3, vs4, rfl, e4⟩ := uI_some e3
    obtain ⟨r4, vs5, rfl, e5⟩ := uV_some e4
    obtain ⟨r10, vs6, rfl, e6⟩ := uB_some e5
    obtain ⟨r11, vs7, rfl, e7⟩ := uB_some e6
    obtain ⟨r12, vs8, rfl, e8⟩ := uI_some e7
    obtain ⟨r13, vs9, rfl, e9⟩ := uI_some e8
    obtain ⟨r97, vs10, rfl, e10⟩ := uB_some e9
    obtain ⟨rfl, ee⟩ := uN_some e10
    exact (q61x3 S r0 r1 r2 r3 r4 r10 r11 r12 r13 r97 h).symm.trans ee
  refine Tab.cons 4 (fun vs0 h q e0 => ?_) ?_
  · obtain ⟨r0, vs1, rfl, e1⟩ := uV_some e0
    obtain ⟨r1, vs2, rfl, e2⟩ := uI_some e1
    obtain ⟨r2, vs3, rfl, e3⟩ := uI_some e2
    obtain ⟨r3, vs4, rfl, e4⟩ := uI_some e3
    obtain ⟨r4, vs5, rfl, e5⟩ := uV_some e4
    obtain ⟨r12, vs6, rfl, e6⟩ := uI_some e5
    obtain ⟨r13, vs7, rfl, e7⟩ := uI_some e6
    obtain ⟨rfl, ee⟩ := uN_some e7
    exact (q61x4 S r0 r1 r2 r3 r4 r12 r13 h).symm.trans ee
  exact Tab.nil
theorem r61 : ∀ args h v h', F61 args h = some (v, h') → Runs (C28) (.call 61 args.toArray h) (.ret v h') := by
  intro args h v h' e
  exact fun_sound (C := C28) (fn := Try.f61) (body := B61) (np := 5) (A := A61) (T := T61) (kinds := [Kd.v, Kd.i .i64, Kd.i .i64, Kd.i .i64, Kd.v]) (by kernel_rfl) (by kernel_rfl) (by kernel_rfl) (by kernel_rfl) (regK_ok env_ok) (by kernel_rfl) (fun S => t61 S) e
noncomputable def orc29 := orcD 61 F61 orc28
noncomputable def C29 : Cfg := cfg orc29
theorem ok29 : C29.Ok := orcD_ok (C := C28) ok28 r61
noncomputable def B42 : Code := (Try.f42.body).getD .skip
def A42 : Ann := (Ann.node (some (0, [(0, Kd.v), (1, Kd.v)])) Ann.nil Ann.nil)
noncomputable def P42x0 (S : Sg) (r0 : Value) (r1 : Value) (h : Hp) : CRes :=
  lenSK r0 fun i0 =>
  forceI (wrapF .u64 i0) fun i1 =>
  pairK (optK (F59 [(Value.int .u64 i1)] h) fun v => some (v, h)) fun v2 h2 =>
  intK .i64 v2 fun i3 =>
  pairK (F61 [r0, (Value.int .i64 (Int.ofNat 0)), (Value.int .i64 i0), (Value.int .i64 i3), r1] h2) fun v4 h4 =>
  some (Value.tuple (List.toArray []), h4)
noncomputable def T42 (S : Sg) : Sg := tabC 0 (uV fun r0 => uV fun r1 => uN fun h => P42x0 S r0 r1 h) (tabN)
noncomputable def F42 (args : List Value) (h : Hp) : CRes := packVals [Kd.v, Kd.v] args fun al => rec' T42 1000000 0 al h
def nt42 : Nat := 2 + (14 - 2)
theorem q42x0 (S : Sg) (r0 : Value) (r1 : Value) (h : Hp) : P42x0 S r0 r1 h = stepAt (regK env orc29 (nt42)) (finK env Try.f42.results.toList) (collect B42 A42 []) 0 S (AL.v r0 (AL.v r1 AL.n)) h := by kernel_rfl
theorem t42 (S : Sg) : Tab (fun l vs h => stepAt (regK env orc29 nt42) (finK env Try.f42.results.toList) (collect B42 A42 []) l S vs h) (T42 S) := by
  unfold T42
  refine Tab.cons 0 (fun vs0 h q e0 => ?_) ?_
  · obtain ⟨r0, vs1, rfl, e1⟩ := uV_some e0
    obtain ⟨r1, vs2, rfl, e2⟩ := uV_some e1
    obtain ⟨rfl, ee⟩ := uN_some e2
    exact (q42x0 S r0 r1 h).symm.trans ee
  exact Tab.nil
theorem r42 : ∀ args h v h', F42 args h = some (v, h') → Runs (C29) (.call 42 args.toArray h) (.ret v h') := by
  intro args h v h' e
  exact fun_sound (C := C29) (fn := Try.f42) (body := B42) (np := 2) (A := A42) (T := T42) (kinds := [Kd.v, Kd.v]) (by kernel_rfl) (by kernel_rfl) (by kernel_rfl) (by kernel_rfl) (regK_ok env_ok) (by kernel_rfl) (fun S => t42 S) e
noncomputable def orc30 := orcD 42 F42 orc29
noncomputable def C30 : Cfg := cfg orc30
theorem ok30 : C30.Ok := orcD_ok (C := C29) ok29 r42
noncomputable def B27 : Code := (Try.f27.body).getD .skip
def A27 : Ann := (Ann.node (some (0, [(0, Kd.v)])) Ann.nil (Ann.node none Ann.nil (Ann.node none (Ann.node none Ann.nil (Ann.node none (Ann.node (some (1, [(3, Kd.v), (11, Kd.v), (12, Kd.i .i64), (13, Kd.i .i64)])) (Ann.node none Ann.nil (Ann.node none (Ann.node none Ann.nil Ann.nil) (Ann.node none (Ann.node none (Ann.node none Ann.nil (Ann.node none Ann.nil (Ann.node none Ann.nil Ann.nil))) Ann.nil) Ann.nil))) Ann.nil) Ann.nil)) (Ann.node (some (7, [(3, Kd.v)])) Ann.nil (Ann.node none (Ann.node none Ann.nil (Ann.node none (Ann.node (some (2, [(3, Kd.v), (6, Kd.v), (28, Kd.i .i64), (29, Kd.i .i64)])) (Ann.node none Ann.nil (Ann.node none (Ann.node none Ann.nil Ann.nil) (Ann.node none (Ann.node none (Ann.node none Ann.nil (Ann.node none Ann.nil (Ann.node none (Ann.node none Ann.nil (Ann.node none (Ann.node (some (3, [(3, Kd.v), (6, Kd.v), (8, Kd.v), (28, Kd.i .i64), (29, Kd.i .i64), (33, Kd.v), (34, Kd.i .i64), (35, Kd.i .i64)])) (Ann.node none Ann.nil (Ann.node none (Ann.node none Ann.nil Ann.nil) (Ann.node none (Ann.node none (Ann.node none Ann.nil Ann.nil) Ann.nil) Ann.nil))) Ann.nil) Ann.nil)) (Ann.node (some (4, [(3, Kd.v), (6, Kd.v), (8, Kd.v), (28, Kd.i .i64), (29, Kd.i .i64)])) Ann.nil Ann.nil)))) Ann.nil) (Ann.node (some (5, [(3, Kd.v), (6, Kd.v), (28, Kd.i .i64), (29, Kd.i .i64)])) Ann.nil Ann.nil)))) Ann.nil) Ann.nil)) (Ann.node (some (6, [(6, Kd.v)])) Ann.nil (Ann.node none Ann.nil Ann.nil)))))))
noncomputable def P27x6 (S : Sg) (r6 : Value) (h : Hp) : CRes :=
  pairK (F42 [r6, (Value.func (.func 43) #[] #[])] h) fun v0 h0 =>
  some (r6, h0)
noncomputable def P27x5 (S : Sg) (r3 : Value) (r6 : Value) (r28 : Int) (r29 : Int) (h : Hp) : CRes :=
  wrap64 (Int.add r29 (Int.ofNat 1)) fun i0 =>
  S 2 (AL.v r3 (AL.v r6 (AL.i r28 (AL.i i0 AL.n)))) h
noncomputable def P27x4 (S : Sg) (r3 : Value) (r6 : Value) (r8 : Value) (r28 : Int) (r29 : Int) (h : Hp) : CRes :=
  pairK (buildSliceV env h 44 1 (List.toArray [(0, r8)])) fun v0 h0 =>
  pairK (appendV env h0 #[44, 44] (List.toArray [r6, v0])) fun v1 h1 =>
  S 5 (AL.v r3 (AL.v v1 (AL.i r28 (AL.i r29 AL.n)))) h1
noncomputable def P27x3 (S : Sg) (r3 : Value) (r6 : Value) (r8 : Value) (r28 : Int) (r29 : Int) (r33 : Value) (r34 : Int) (r35 : Int) (h : Hp) : CRes :=
  boolZ (ltZ r35 r34) fun b0 =>
  ifB b0
  (idxSK 1 r33 r35 fun v1 =>
  load1K h v1 fun v2 =>
  intK .i64 v2 fun i3 =>
  idxSK 1 r3 i3 fun v4 =>
  load1K h v4 fun v5 =>
  intK .i64 v5 fun i6 =>
  pairK (buildSliceV env h 53 1 (List.toArray [(0, (Value.int .i64 i6))])) fun v7 h7 =>
  pairK (appendV env h7 #[53, 53] (List.toArray [r8, v7])) fun v8 h8 =>
  wrap64 (Int.add r35 (Int.ofNat 1)) fun i9 =>
  S 3 (AL.v r3 (AL.v r6 (AL.v v8 (AL.i r28 (AL.i r29 (AL.v r33 (AL.i r34 (AL.i i9 AL.n)))))))) h8)
  (S 4 (AL.v r3 (AL.v r6 (AL.v r8 (AL.i r28 (AL.i r29 AL.n))))) h)
noncomputable def P27x2 (S : Sg) (r3 : Value) (r6 : Value) (r28 : Int) (r29 : Int) (h : Hp) : CRes :=
  boolZ (ltZ r29 r28) fun b0 =>
  ifB b0
  (pairK (callQ F41 [(Value.int .i64 r29)] h) fun v1 h1 =>
  lenSK v1 fun i2 =>
  S 3 (AL.v r3 (AL.v r6 (AL.v (Value.slice none 0 0) (AL.i r28 (AL.i r29 (AL.v v1 (AL.i i2 (AL.i (Int.ofNat 0) AL.n)))))))) h1)
  (S 6 (AL.v r6 AL.n) h)
noncomputable def P27x7 (S : Sg) (r3 : Value) (h : Hp) : CRes :=
  lenSK r3 fun i0 =>
  slowI .i64 (shlI (binW env .shl 3 (Value.int .i64 (Int.ofNat 1)) (Value.int .i64 i0)) (Value.int .i64 (Int.ofNat 1)) (Value.int .i64 i0)) fun i1 =>
  S 2 (AL.v r3 (AL.v (Value.slice none 0 0) (AL.i i1 (AL.i (Int.ofNat 0) AL.n)))) h
noncomputable def P27x1 (S : Sg) (r3 : Value) (r11 : Value) (r12 : Int) (r13 : Int) (h : Hp) : CRes :=
  boolZ (ltZ r13 r12) fun b0 =>
  ifB b0
  (idxSK 6 r11 r13 fun v1 =>
  loadNK 6 h v1 fun v2 =>
  allocK h 38 [(Value.string (ByteArray.mk #[])), (Value.int .i64 (Int.ofNat 0)), (Value.int .i64 (Int.ofNat 0)), (Value.int .i64 (Int.ofNat 0)), (Value.int .i64 (Int.ofNat 0)), (Value.bool false)] fun a3 h3 =>
  storeNK 6 h3 a3 v2 fun h4 =>
  ptrAddK 5 a3 fun v5 =>
  load1K h4 v5 fun v6 =>
  boolK v6 fun b7 =>
  boolN b7 fun b8 =>
  ifB b8
  (pairK (buildSliceV env h4 53 1 (List.toArray [(0, (Value.int .i64 r13))])) fun v9 h9 =>
  pairK (appendV env h9 #[53, 53] (List.toArray [r3, v9])) fun v10 h10 =>
  wrap64 (Int.add r13 (Int.ofNat 1)) fun i11 =>
  S 1 (AL.v v10 (AL.v r11 (AL.i r12 (AL.i i11 AL.n)))) h10)
  (wrap64 (Int.add r13 (Int.ofNat 1)) fun i12 =>
  S 1 (AL.v r3 (AL.v r11 (AL.i r12 (AL.i i12 AL.n)))) h4))
  (S 7 (AL.v r3 AL.n) h)
noncomputable def P27x0 (S : Sg) (r0 : Value) (h : Hp) : CRes :=
  lenSK r0 fun i0 =>
  S 1 (AL.v (Value.slice none 0 0) (AL.v r0 (AL.i i0 (AL.i (Int.ofNat 0) AL.n)))) h
noncomputable def T27 (S : Sg) : Sg := tabC 0 (uV fun r0 => uN fun h => P27x0 S r0 h) (tabC 1 (uV fun r3 => uV fun r11 => uI fun r12 => uI fun r13 => uN fun h => P27x1 S r3 r11 r12 r13 h) (tabC 7 (uV fun r3 => uN fun h => P27x7 S r3 h) (tabC 2 (uV fun r3 => uV fun r6 => uI fun r28 => uI fun r29 => uN fun h => P27x2 S r3 r6 r28 r29 h) (tabC 3 (uV fun r3 => uV fun r6 => uV fun r8 => uI fun r28 => uI fun r29 => uV fun r33 => uI fun r34 => uI fun r35 => uN fun h => P27x3 S r3 r6 r8 r28 r29 r33 r34 r35 h) (tabC 4 (uV fun r3 => uV fun r6 => uV fun r8 => uI fun r28 => uI fun r29 => uN fun h => P27x4 S r3 r6 r8 r28 r29 h) (tabC 5 (uV fun r3 => uV fun r6 => uI fun r28 => uI fun r29 => uN fun h => P27x5 S r3 r6 r28 r29 h) (tabC 6 (uV fun r6 => uN fun h => P27x6 S r6 h) (tabN))))))))
noncomputable def F27 (args : List Value) (h : Hp) : CRes := packVals [Kd.v] args fun al => rec' T27 1000000 0 al h
def nt27 : Nat := 1 + (55 - 1)
theorem q27x6 (S : Sg) (r6 : Value) (h : Hp) : P27x6 S r6 h = stepAt (regK env orc30 (nt27)) (finK env Try.f27.results.toList) (collect B27 A27 []) 6 S (AL.v r6 AL.n) h := by kernel_rfl
theorem q27x5 (S : Sg) (r3 : Value) (r6 : Value) (r28 : Int) (r29 : Int) (h : Hp) : P27x5 S r3 r6 r28 r29 h = stepAt (regK env orc30 (nt27)) (finK env Try.f27.results.toList) (collect B27 A27 []) 5 S (AL.v r3 (AL.v r6 (AL.i r28 (AL.i r29 AL.n)))) h := by kernel_rfl
theorem q27x4 (S : Sg) (r3 : Value) (r6 : Value) (r8 : Value) (r28 : Int) (r29 : Int) (h : Hp) : P27x4 S r3 r6 r8 r28 r29 h = stepAt (regK env orc30 (nt27)) (finK env Try.f27.results.toList) (collect B27 A27 []) 4 S (AL.v r3 (AL.v r6 (AL.v r8 (AL.i r28 (AL.i r29 AL.n))))) h := by kernel_rfl
theorem q27x3 (S : Sg) (r3 : Value) (r6 : Value) (r8 : Value) (r28 : Int) (r29 : Int) (r33 : Value) (r34 : Int) (r35 : Int) (h : Hp) : P27x3 S r3 r6 r8 r28 r29 r33 r34 r35 h = stepAt (regK env orc30 (nt27)) (finK env Try.f27.results.toList) (collect B27 A27 []) 3 S (AL.v r3 (AL.v r6 (AL.v r8 (AL.i r28 (AL.i r29 (AL.v r33 (AL.i r34 (AL.i r35 AL.n)))))))) h := by kernel_rfl
theorem q27x2 (S : Sg) (r3 : Value) (r6 : Value) (r28 : Int) (r29 : Int) (h : Hp) : P27x2 S r3 r6 r28 r29 h = stepAt (regK env orc30 (nt27)) (finK env Try.f27.results.toList) (collect B27 A27 []) 2 S (AL.v r3 (AL.v r6 (AL.i r28 (AL.i r29 AL.n)))) h := by kernel_rfl
theorem q27x7 (S : Sg) (r3 : Value) (h : Hp) : P27x7 S r3 h = stepAt (regK env orc30 (nt27)) (finK env Try.f27.results.toList) (collect B27 A27 []) 7 S (AL.v r3 AL.n) h := by kernel_rfl
theorem q27x1 (S : Sg) (r3 : Value) (r11 : Value) (r12 : Int) (r13 : Int) (h : Hp) : P27x1 S r3 r11 r12 r13 h = stepAt (regK env orc30 (nt27)) (finK env Try.f27.results.toList) (collect B27 A27 []) 1 S (AL.v r3 (AL.v r11 (AL.i r12 (AL.i r13 AL.n)))) h := by kernel_rfl
theorem q27x0 (S : Sg) (r0 : Value) (h : Hp) : P27x0 S r0 h = stepAt (regK env orc30 (nt27)) (finK env Try.f27.results.toList) (collect B27 A27 []) 0 S (AL.v r0 AL.n) h := by kernel_rfl
theorem t27 (S : Sg) : Tab (fun l vs h => stepAt (regK env orc30 nt27) (finK env Try.f27.results.toList) (collect B27 A27 []) l S vs h) (T27 S) := by
  unfold T27
  refine Tab.cons 0 (fun vs0 h q e0 => ?_) ?_
  · obtain ⟨r0, vs1, rfl, e1⟩ := uV_some e0
    obtain ⟨rfl, ee⟩ := uN_some e1
    exact (q27x0 S r0 h).symm.trans ee
  refine Tab.cons 1 (fun vs0 h q e0 => ?_) ?_
  · obtain ⟨r3, vs1, rfl, e1⟩ := uV_some e0
    obtain ⟨r11, vs2, rfl, e2⟩ := uV_some e1
    obtain ⟨r12, vs3, rfl, e3⟩ := uI_some e2
    obtain ⟨r13, vs4, rfl, e4⟩ := uI_some e3
    obtain ⟨rfl, ee⟩ := uN_some e4
    exact (q27x1 S r3 r11 r12 r13 h).symm.trans ee
  refine Tab.cons 7 (fun vs0 h q e0 => ?_) ?_
  · obtain ⟨r3, vs1, rfl, e1⟩ := uV_some e0
    obtain ⟨rfl, ee⟩ := uN_some e1
    exact (q27x7 S r3 h).symm.trans ee
  refine Tab.cons 2 (fun vs0 h q e0 => ?_) ?_
  · obtain ⟨r3, vs1, rfl, e1⟩ := uV_some e0
    obtain ⟨r6, vs2, rfl, e2⟩ := uV_some e1
    obtain ⟨r28, vs3, rfl, e3⟩ := uI_some e2
    obtain ⟨r29, vs4, rfl, e4⟩ := uI_some e3
    obtain ⟨rfl, ee⟩ := uN_some e4
    exact (q27x2 S r3 r6 r28 r29 h).symm.trans ee
  refine Tab.cons 3 (fun vs0 h q e0 => ?_) ?_
  · obtain ⟨r3, vs1, rfl, e1⟩ := uV_some e0
    obtain ⟨r6, vs2, rfl, e2⟩ := uV_some e1
    obtain ⟨r8, vs3, rfl, e3⟩ := uV_some e2
    obtain ⟨r28, vs4, rfl, e4⟩ := uI_some e3
    obtain ⟨r29, vs5, rfl, e5⟩ := uI_some e4
    obtain ⟨r33, vs6, rfl, e6⟩ := uV_some e5
    obtain ⟨r34, vs7, rfl, e7⟩ := uI_some e6
    obtain ⟨r35, vs8, rfl, e8⟩ := uI_some e7
    obtain ⟨rfl, ee⟩ := uN_some e8
    exact (q27x3 S r3 r6 r8 r28 r29 r33 r34 r35 h).symm.trans ee
  refine Tab.cons 4 (fun vs0 h q e0 => ?_) ?_
  · obtain ⟨r3, vs1, rfl, e1⟩ := uV_some e0
    obtain ⟨r6, vs2, rfl, e2⟩ := uV_some e1
    obtain ⟨r8, vs3, rfl, e3⟩ := uV_some e2
    obtain ⟨r28, vs4, rfl, e4⟩ := uI_some e3
    obtain ⟨r29, vs5, rfl, e5⟩ := uI_some e4
    obtain ⟨rfl, ee⟩ := uN_some e5
    exact (q27x4 S r3 r6 r8 r28 r29 h).symm.trans ee
  refine Tab.cons 5 (fun vs0 h q e0 => ?_) ?_
  · obtain ⟨r3, vs1, rfl, e1⟩ := uV_some e0
    obtain ⟨r6, vs2, rfl, e2⟩ := uV_some e1
    obtain ⟨r28, vs3, rfl, e3⟩ := uI_some e2
    obtain ⟨r29, vs4, rfl, e4⟩ := uI_some e3
    obtain ⟨rfl, ee⟩ := uN_some e4
    exact (q27x5 S r3 r6 r28 r29 h).symm.trans ee
  refine Tab.cons 6 (fun vs0 h q e0 => ?_) ?_
  · obtain ⟨r6, vs1, rfl, e1⟩ := uV_some e0
    obtain ⟨rfl, ee⟩ := uN_some e1
    exact (q27x6 S r6 h).symm.trans ee
  exact Tab.nil
theorem r27 : ∀ args h v h', F27 args h = some (v, h') → Runs (C30) (.call 27 args.toArray h) (.ret v h') := by
  intro args h v h' e
  exact fun_sound (C := C30) (fn := Try.f27) (body := B27) (np := 1) (A := A27) (T := T27) (kinds := [Kd.v]) (by kernel_rfl) (by kernel_rfl) (by kernel_rfl) (by kernel_rfl) (regK_ok env_ok) (by kernel_rfl) (fun S => t27 S) e
noncomputable def orc31 := orcQ 27 F27 orc30
noncomputable def C31 : Cfg := cfg orc31
theorem ok31 : C31.Ok := orcQ_ok (C := C30) ok30 r27
noncomputable def B48 : Code := (Try.f48.body).getD .skip
noncomputable def A48 : G.Ann (List KI) := (G.Ann.node (some (0, [KI.reg 0 (Kd.v), KI.reg 1 (Kd.i .i64)])) G.Ann.nil (G.Ann.node none G.Ann.nil G.Ann.nil))
noncomputable def P48x0 (h : Hp) (S : Nat → PAL → Option Value) (r0 : Value) (r1 : Int) : Option Value :=
  forceL (Array.toList (Value.cells r0)) fun c0 =>
  nthR c0 0 fun v1 =>
  intK .i64 v1 fun i2 =>
  wrap64 (Int.mul i2 r1) fun i3 =>
  wrap64 (Int.add i3 (Int.ofNat 1000)) fun i4 =>
  wrap64 (Int.sub i4 (Int.ofNat 1)) fun i5 =>
  slowI .i64 (binW env .quo 3 (Value.int .i64 i5) (Value.int .i64 (Int.ofNat 1000))) fun i6 =>
  nthR c0 1 fun v7 =>
  intK .i64 v7 fun i8 =>
  wrap64 (Int.mul i8 r1) fun i9 =>
  slowI .i64 (binW env .quo 3 (Value.int .i64 i9) (Value.int .i64 (Int.ofNat 1000))) fun i10 =>
  optK (buildV env 40 (List.toArray [(0, (Value.int .i64 i6)), (1, (Value.int .i64 i10))])) fun v11 =>
  aggK v11 fun l12 => ifB (Nat.beq (lenR l12) 2) (segR 0 l12 [(Value.int .i64 (Int.ofNat 0)), (Value.int .i64 (Int.ofNat 0))] fun c12 =>
  dropR c12 0 fun d13 => takeR d13 2 fun l13 => some (Value.agg (Array.mk l13))) none
noncomputable def T48 (h : Hp) (S : Nat → PAL → Option Value) : Nat → PAL → Option Value := tabPC 0 (wV fun r0 => wI fun r1 => wN (P48x0 h S r0 r1)) (tabPN)
noncomputable def F48 (args : List Value) (h : Hp) : Option Value := plainO (packArgs [Kd.v, Kd.i .i64] args fun al => G.rec' (T48 h) 1000000 0 al)
def nt48 : Nat := 2 + (18 - 2)
theorem q48x0 (h : Hp) (S : Nat → PAL → Option Value) (r0 : Value) (r1 : Int) : P48x0 h S r0 r1 = G.stepAt packP unpackP evXV (regP env pf13 nt48 h) (finP env Try.f48.results.toList) (G.collect B48 A48 []) 0 S (PAL.v r0 (PAL.i r1 PAL.n)) := by kernel_rfl
theorem t48 (h : Hp) (S : Nat → PAL → Option Value) : TabP (fun l al => G.stepAt packP unpackP evXV (regP env pf13 nt48 h) (finP env Try.f48.results.toList) (G.collect B48 A48 []) l S al) (T48 h S) := by
  unfold T48
  refine TabP.cons 0 (fun vs0 q e0 => ?_) ?_
  · obtain ⟨r0, vs1, rfl, e1⟩ := wV_some e0
    obtain ⟨r1, vs2, rfl, e2⟩ := wI_some e1
    obtain ⟨rfl, ee⟩ := wN_some e2
    exact (q48x0 h S r0 r1).symm.trans ee
  exact TabP.nil
theorem r48 : PSound Try.prog 48 F48 := fun_soundP (C := C0) ok0 (pf := pf13) pfok13 (fn := Try.f48) (body := B48) (kinds := [Kd.v, Kd.i .i64]) (A := A48) (T := T48) (by kernel_rfl) (by kernel_rfl) (by kernel_rfl) (by kernel_rfl) (fun h S => t48 h S)
noncomputable def pf14 : PF := pfC 48 F48 pf13
theorem pfok14 : PfSound Try.prog pf14 := pfC_ok r48 pfok13
noncomputable def orc32 := orcP 48 F48 orc31
noncomputable def C32 : Cfg := cfg orc32
theorem ok32 : C32.Ok := orcP_ok (C := C31) ok31 r48
noncomputable def B47 : Code := (Try.f47.body).getD .skip
noncomputable def A47 : G.Ann (List KI) := (G.Ann.node (some (0, [KI.reg 0 (Kd.i .i64), KI.reg 1 (Kd.v)])) G.Ann.nil (G.Ann.node none G.Ann.nil G.Ann.nil))
noncomputable def P47x0 (h : Hp) (S : Nat → PAL → Option Value) (r0 : Int) (r1 : Value) : Option Value :=
  ptrAddK 2 r1 fun v0 =>
  loadNK 2 h v0 fun v1 =>
  optK (F48 [v1, (Value.int .i64 r0)] h) fun v2 =>
  aggK v2 fun l3 => ifB (Nat.beq (lenR l3) 2) (segR 0 l3 [(Value.int .i64 (Int.ofNat 0)), (Value.int .i64 (Int.ofNat 0))] fun c3 =>
  dropR c3 0 fun d4 => takeR d4 2 fun l4 => some (Value.agg (Array.mk l4))) none
noncomputable def T47 (h : Hp) (S : Nat → PAL → Option Value) : Nat → PAL → Option Value := tabPC 0 (wI fun r0 => wV fun r1 => wN (P47x0 h S r0 r1)) (tabPN)
noncomputable def F47 (args : List Value) (h : Hp) : Option Value := plainO (packArgs [Kd.i .i64, Kd.v] args fun al => G.rec' (T47 h) 1000000 0 al)
def nt47 : Nat := 2 + (8 - 2)
theorem q47x0 (h : Hp) (S : Nat → PAL → Option Value) (r0 : Int) (r1 : Value) : P47x0 h S r0 r1 = G.stepAt packP unpackP evXV (regP env pf14 nt47 h) (finP env Try.f47.results.toList) (G.collect B47 A47 []) 0 S (PAL.i r0 (PAL.v r1 PAL.n)) := by kernel_rfl
theorem t47 (h : Hp) (S : Nat → PAL → Option Value) : TabP (fun l al => G.stepAt packP unpackP evXV (regP env pf14 nt47 h) (finP env Try.f47.results.toList) (G.collect B47 A47 []) l S al) (T47 h S) := by
  unfold T47
  refine TabP.cons 0 (fun vs0 q e0 => ?_) ?_
  · obtain ⟨r0, vs1, rfl, e1⟩ := wI_some e0
    obtain ⟨r1, vs2, rfl, e2⟩ := wV_some e1
    obtain ⟨rfl, ee⟩ := wN_some e2
    exact (q47x0 h S r0 r1).symm.trans ee
  exact TabP.nil
theorem r47 : PSound Try.prog 47 F47 := fun_soundP (C := C0) ok0 (pf := pf14) pfok14 (fn := Try.f47) (body := B47) (kinds := [Kd.i .i64, Kd.v]) (A := A47) (T := T47) (by kernel_rfl) (by kernel_rfl) (by kernel_rfl) (by kernel_rfl) (fun h S => t47 h S)
noncomputable def pf15 : PF := pfC 47 F47 pf14
theorem pfok15 : PfSound Try.prog pf15 := pfC_ok r47 pfok14
noncomputable def orc33 := orcP 47 F47 orc32
noncomputable def C33 : Cfg := cfg orc33
theorem ok33 : C33.Ok := orcP_ok (C := C32) ok32 r47
noncomputable def B49 : Code := (Try.f49.body).getD .skip
noncomputable def A49 : G.Ann (List KI) := (G.Ann.node (some (0, [KI.reg 0 (Kd.i .i64), KI.reg 1 (Kd.v)])) G.Ann.nil (G.Ann.node none G.Ann.nil G.Ann.nil))
noncomputable def P49x0 (h : Hp) (S : Nat → PAL → Option Value) (r0 : Int) (r1 : Value) : Option Value :=
  ptrAddK 4 r1 fun v0 =>
  loadNK 2 h v0 fun v1 =>
  optK (F48 [v1, (Value.int .i64 r0)] h) fun v2 =>
  aggK v2 fun l3 => ifB (Nat.beq (lenR l3) 2) (segR 0 l3 [(Value.int .i64 (Int.ofNat 0)), (Value.int .i64 (Int.ofNat 0))] fun c3 =>
  dropR c3 0 fun d4 => takeR d4 2 fun l4 => some (Value.agg (Array.mk l4))) none
noncomputable def T49 (h : Hp) (S : Nat → PAL → Option Value) : Nat → PAL → Option Value := tabPC 0 (wI fun r0 => wV fun r1 => wN (P49x0 h S r0 r1)) (tabPN)
noncomputable def F49 (args : List Value) (h : Hp) : Option Value := plainO (packArgs [Kd.i .i64, Kd.v] args fun al => G.rec' (T49 h) 1000000 0 al)
def nt49 : Nat := 2 + (8 - 2)
theorem q49x0 (h : Hp) (S : Nat → PAL → Option Value) (r0 : Int) (r1 : Value) : P49x0 h S r0 r1 = G.stepAt packP unpackP evXV (regP env pf15 nt49 h) (finP env Try.f49.results.toList) (G.collect B49 A49 []) 0 S (PAL.i r0 (PAL.v r1 PAL.n)) := by kernel_rfl
theorem t49 (h : Hp) (S : Nat → PAL → Option Value) : TabP (fun l al => G.stepAt packP unpackP evXV (regP env pf15 nt49 h) (finP env Try.f49.results.toList) (G.collect B49 A49 []) l S al) (T49 h S) := by
  unfold T49
  refine TabP.cons 0 (fun vs0 q e0 => ?_) ?_
  · obtain ⟨r0, vs1, rfl, e1⟩ := wI_some e0
    obtain ⟨r1, vs2, rfl, e2⟩ := wV_some e1
    obtain ⟨rfl, ee⟩ := wN_some e2
    exact (q49x0 h S r0 r1).symm.trans ee
  exact TabP.nil
theorem r49 : PSound Try.prog 49 F49 := fun_soundP (C := C0) ok0 (pf := pf15) pfok15 (fn := Try.f49) (body := B49) (kinds := [Kd.i .i64, Kd.v]) (A := A49) (T := T49) (by kernel_rfl) (by kernel_rfl) (by kernel_rfl) (by kernel_rfl) (fun h S => t49 h S)
noncomputable def pf16 : PF := pfC 49 F49 pf15
theorem pfok16 : PfSound Try.prog pf16 := pfC_ok r49 pfok15
noncomputable def orc34 := orcP 49 F49 orc33
noncomputable def C34 : Cfg := cfg orc34
theorem ok34 : C34.Ok := orcP_ok (C := C33) ok33 r49
noncomputable def B28 : Code := (Try.f28.body).getD .skip
def A28 : Ann := (Ann.node (some (0, [(0, Kd.v)])) Ann.nil (Ann.node none Ann.nil Ann.nil))
noncomputable def P28x0 (S : Sg) (r0 : Value) (h : Hp) : CRes :=
  allocK h 43 (Array.toList (Value.cells r0)) fun a0 h0 =>
  optK (buildV env 97 (List.toArray [(0, (Value.int .i64 (Int.ofNat 1))), (1, (Value.func (.func 47) (List.toArray []) (List.toArray [a0])))])) fun v1 =>
  optK (buildV env 97 (List.toArray [(0, (Value.int .i64 (Int.ofNat 2))), (1, (Value.func (.func 49) (List.toArray []) (List.toArray [a0])))])) fun v2 =>
  pairK (buildSliceV env h0 45 2 (List.toArray [(0, v1), (1, v2)])) fun v3 h3 =>
  some (v3, h3)
noncomputable def T28 (S : Sg) : Sg := tabC 0 (uV fun r0 => uN fun h => P28x0 S r0 h) (tabN)
noncomputable def F28 (args : List Value) (h : Hp) : CRes := packVals [Kd.v] args fun al => rec' T28 1000000 0 al h
def nt28 : Nat := 1 + (8 - 1)
theorem q28x0 (S : Sg) (r0 : Value) (h : Hp) : P28x0 S r0 h = stepAt (regK env orc34 (nt28)) (finK env Try.f28.results.toList) (collect B28 A28 []) 0 S (AL.v r0 AL.n) h := by kernel_rfl
theorem t28 (S : Sg) : Tab (fun l vs h => stepAt (regK env orc34 nt28) (finK env Try.f28.results.toList) (collect B28 A28 []) l S vs h) (T28 S) := by
  unfold T28
  refine Tab.cons 0 (fun vs0 h q e0 => ?_) ?_
  · obtain ⟨r0, vs1, rfl, e1⟩ := uV_some e0
    obtain ⟨rfl, ee⟩ := uN_some e1
    exact (q28x0 S r0 h).symm.trans ee
  exact Tab.nil
theorem r28 : ∀ args h v h', F28 args h = some (v, h') → Runs (C34) (.call 28 args.toArray h) (.ret v h') := by
  intro args h v h' e
  exact fun_sound (C := C34) (fn := Try.f28) (body := B28) (np := 1) (A := A28) (T := T28) (kinds := [Kd.v]) (by kernel_rfl) (by kernel_rfl) (by kernel_rfl) (by kernel_rfl) (regK_ok env_ok) (by kernel_rfl) (fun S => t28 S) e
noncomputable def orc35 := orcQ 28 F28 orc34
noncomputable def C35 : Cfg := cfg orc35
theorem ok35 : C35.Ok := orcQ_ok (C := C34) ok34 r28
noncomputable def B11 : Code := (Try.f11.body).getD .skip
def A11 : Ann := (Ann.node (some (0, [(0, Kd.v)])) Ann.nil (Ann.node none (Ann.node none Ann.nil (Ann.node none Ann.nil (Ann.node none (Ann.node none Ann.nil Ann.nil) Ann.nil))) (Ann.node none Ann.nil (Ann.node none (Ann.node none Ann.nil (Ann.node none (Ann.node (some (1, [(2, Kd.v), (7, Kd.v), (28, Kd.v), (29, Kd.i .i64), (30, Kd.i .i64)])) (Ann.node none Ann.nil (Ann.node none (Ann.node none Ann.nil Ann.nil) (Ann.node none (Ann.node none (Ann.node none Ann.nil (Ann.node none Ann.nil Ann.nil)) Ann.nil) Ann.nil))) Ann.nil) Ann.nil)) (Ann.node (some (2, [(2, Kd.v), (7, Kd.v)])) Ann.nil Ann.nil)))))
noncomputable def P11x2 (S : Sg) (r2 : Value) (r7 : Value) (h : Hp) : CRes :=
  loadNK 11 h r7 fun v0 =>
  storeNK 11 h r2 v0 fun h1 =>
  loadNK 11 h1 r2 fun v2 => some (Value.tuple (List.toArray [v2, (Value.int .i64 (Int.ofNat 0))]), h1)
noncomputable def P11x1 (S : Sg) (r2 : Value) (r7 : Value) (r28 : Value) (r29 : Int) (r30 : Int) (h : Hp) : CRes :=
  boolZ (ltZ r30 r29) fun b0 =>
  ifB b0
  (idxSK 6 r28 r30 fun v1 =>
  loadNK 6 h v1 fun v2 =>
  allocK h 43 [(Value.string (ByteArray.mk #[])), (Value.int .i64 (Int.ofNat 0)), (Value.int .i64 (Int.ofNat 0)), (Value.int .i64 (Int.ofNat 0)), (Value.int .i64 (Int.ofNat 0)), (Value.int .i64 (Int.ofNat 0))] fun a3 h3 =>
  storeNK 6 h3 a3 v2 fun h4 =>
  ptrAddK 8 r7 fun v5 =>
  load1K h4 v5 fun v6 =>
  loadNK 6 h4 a3 fun v7 =>
  pairK (pairK (callQ F28 [v7] (Hp.mk (Hp.next h4) (Hp.next h4) (Hp.objs h4))) fun v _ => ifB (plainK v) (some (v, h4)) none) fun v8 h8 =>
  pairK (appendV env h8 #[45, 45] (List.toArray [v6, v8])) fun v9 h9 =>
  ptrAddK 8 r7 fun v10 =>
  store1K h9 v10 v9 fun h11 =>
  ptrAddK 9 r7 fun v12 =>
  load1K h11 v12 fun v13 =>
  intK .i64 v13 fun i14 =>
  ptrAddK 1 a3 fun v15 =>
  load1K h11 v15 fun v16 =>
  intK .i64 v16 fun i17 =>
  wrap64 (Int.add i14 i17) fun i18 =>
  ptrAddK 9 r7 fun v19 =>
  store1K h11 v19 (Value.int .i64 i18) fun h20 =>
  wrap64 (Int.add r30 (Int.ofNat 1)) fun i21 =>
  S 1 (AL.v r2 (AL.v r7 (AL.v r28 (AL.i r29 (AL.i i21 AL.n))))) h20)
  (S 2 (AL.v r2 (AL.v r7 AL.n)) h)
noncomputable def P11x0 (S : Sg) (r0 : Value) (h : Hp) : CRes :=
  allocK h 27 (Array.toList (Value.cells r0)) fun a0 h0 =>
  allocK h0 48 [(Value.int .i64 (Int.ofNat 0)), (Value.int .i64 (Int.ofNat 0)), (Value.int .i64 (Int.ofNat 0)), (Value.int .i64 (Int.ofNat 0)), (Value.slice none 0 0), (Value.slice none 0 0), (Value.int .i64 (Int.ofNat 0)), (Value.slice none 0 0), (Value.slice none 0 0), (Value.int .i64 (Int.ofNat 0)), (Value.map none)] fun a1 h1 =>
  loadNK 6 h1 a0 fun v2 =>
  pairK (callQ F26 [v2] h1) fun v3 h3 =>
  extK v3 0 fun v4 =>
  intK .i64 v4 fun i5 =>
  extK v3 1 fun v6 =>
  intK .i64 v6 fun i7 =>
  extK v3 2 fun v8 =>
  intK .i64 v8 fun i9 =>
  boolN (eqZ i9 (Int.ofNat 0)) fun b10 =>
  ifB b10
  (optK (buildV env 48 (List.toArray [])) fun v11 =>
  storeNK 11 h3 a1 v11 fun h12 =>
  loadNK 11 h12 a1 fun v13 => some (Value.tuple (List.toArray [v13, (Value.int .i64 i9)]), h12))
  (loadNK 6 (Hp.mk (Hp.next h3) (Hp.next h3) (Hp.objs h3)) a0 fun v14 =>
  leftK v14 (Hp.next h3) (Hp.mk (Hp.next h3) (Hp.next h3) (Hp.objs h3)) fun w15 n15 =>
  ptrAddK 4 a0 fun v16 =>
  leftK v16 n15 (Hp.mk n15 n15 T.nil) fun w17 n17 =>
  load1K (Hp.mk n17 n17 (addAll w17 (Hp.objs h3))) v16 fun v18 =>
  leftK v18 n17 (Hp.mk n17 n17 (addAll w17 (Hp.objs h3))) fun w19 n19 =>
  pairK (callQ F27 [v18] (Hp.mk n19 n19 (addAll w19 (addAll w17 (Hp.objs h3))))) fun v20 h20 =>
  leftK v20 n19 h20 fun w21 n21 =>
  let a22 := Value.map (some (Hp.next (Hp.mk n21 n21 T.nil))); let h22 := Hp.add (Hp.mk n21 n21 T.nil) (.map []);
  leftK a22 n21 h22 fun w23 n23 =>
  optK (buildV env 48 (List.toArray [(0, v14), (2, v20), (5, a22)])) fun v24 =>
  leftK v24 n23 (Hp.mk n23 n23 T.nil) fun w25 n25 =>
  allocK (Hp.mk n25 n25 T.nil) 48 [(Value.int .i64 (Int.ofNat 0)), (Value.int .i64 (Int.ofNat 0)), (Value.int .i64 (Int.ofNat 0)), (Value.int .i64 (Int.ofNat 0)), (Value.slice none 0 0), (Value.slice none 0 0), (Value.int .i64 (Int.ofNat 0)), (Value.slice none 0 0), (Value.slice none 0 0), (Value.int .i64 (Int.ofNat 0)), (Value.map none)] fun a26 h26 =>
  leftK a26 n25 h26 fun w27 n27 =>
  storeNK 11 (Hp.mk n27 (Hp.ro h3) (addAll w27 (addAll w25 (addAll w23 (addAll w21 (addAll w19 (addAll w17 (addAll w15 (Hp.objs h3))))))))) a26 v24 fun h28 =>
  ptrAddK 0 a26 fun v29 =>
  ptrAddK 5 v29 fun v30 =>
  load1K h28 v30 fun v31 =>
  lenSK v31 fun i32 =>
  S 1 (AL.v a1 (AL.v a26 (AL.v v31 (AL.i i32 (AL.i (Int.ofNat 0) AL.n))))) h28)
noncomputable def T11 (S : Sg) : Sg := tabC 0 (uV fun r0 => uN fun h => P11x0 S r0 h) (tabC 1 (uV fun r2 => uV fun r7 => uV fun r28 => uI fun r29 => uI fun r30 => uN fun h => P11x1 S r2 r7 r28 r29 r30 h) (tabC 2 (uV fun r2 => uV fun r7 => uN fun h => P11x2 S r2 r7 h) (tabN)))
noncomputable def F11 (args : List Value) (h : Hp) : CRes := packVals [Kd.v] args fun al => rec' T11 1000000 0 al h
def nt11 : Nat := 1 + (48 - 1)
theorem q11x2 (S : Sg) (r2 : Value) (r7 : Value) (h : Hp) : P11x2 S r2 r7 h = stepAt (regK env orc35 (nt11)) (finK env Try.f11.results.toList) (collect B11 A11 []) 2 S (AL.v r2 (AL.v r7 AL.n)) h := by kernel_rfl
theorem q11x1 (S : Sg) (r2 : Value) (r7 : Value) (r28 : Value) (r29 : Int) (r30 : Int) (h : Hp) : P11x1 S r2 r7 r28 r29 r30 h = stepAt (regK env orc35 (nt11)) (finK env Try.f11.results.toList) (collect B11 A11 []) 1 S (AL.v r2 (AL.v r7 (AL.v r28 (AL.i r29 (AL.i r30 AL.n))))) h := by kernel_rfl
theorem q11x0 (S : Sg) (r0 : Value) (h : Hp) : P11x0 S r0 h = stepAt (regK env orc35 (nt11)) (finK env Try.f11.results.toList) (collect B11 A11 []) 0 S (AL.v r0 AL.n) h := by kernel_rfl
theorem t11 (S : Sg) : Tab (fun l vs h => stepAt (regK env orc35 nt11) (finK env Try.f11.results.toList) (collect B11 A11 []) l S vs h) (T11 S) := by
  unfold T11
  refine Tab.cons 0 (fun vs0 h q e0 => ?_) ?_
  · obtain ⟨r0, vs1, rfl, e1⟩ := uV_some e0
    obtain ⟨rfl, ee⟩ := uN_some e1
    exact (q11x0 S r0 h).symm.trans ee
  refine Tab.cons 1 (fun vs0 h q e0 => ?_) ?_
  · obtain ⟨r2, vs1, rfl, e1⟩ := uV_some e0
    obtain ⟨r7, vs2, rfl, e2⟩ := uV_some e1
    obtain ⟨r28, vs3, rfl, e3⟩ := uV_some e2
    obtain ⟨r29, vs4, rfl, e4⟩ := uI_some e3
    obtain ⟨r30, vs5, rfl, e5⟩ := uI_some e4
    obtain ⟨rfl, ee⟩ := uN_some e5
    exact (q11x1 S r2 r7 r28 r29 r30 h).symm.trans ee
  refine Tab.cons 2 (fun vs0 h q e0 => ?_) ?_
  · obtain ⟨r2, vs1, rfl, e1⟩ := uV_some e0
    obtain ⟨r7, vs2, rfl, e2⟩ := uV_some e1
    obtain ⟨rfl, ee⟩ := uN_some e2
    exact (q11x2 S r2 r7 h).symm.trans ee
  exact Tab.nil
theorem r11 : ∀ args h v h', F11 args h = some (v, h') → Runs (C35) (.call 11 args.toArray h) (.ret v h') := by
  intro args h v h' e
  exact fun_sound (C := C35) (fn := Try.f11) (body := B11) (np := 1) (A := A11) (T := T11) (kinds := [Kd.v]) (by kernel_rfl) (by kernel_rfl) (by kernel_rfl) (by kernel_rfl) (regK_ok env_ok) (by kernel_rfl) (fun S => t11 S) e
noncomputable def orc36 := orcQ 11 F11 orc35
noncomputable def C36 : Cfg := cfg orc36
theorem ok36 : C36.Ok := orcQ_ok (C := C35) ok35 r11
noncomputable def B12 : Code := (Try.f12.body).getD .skip
noncomputable def A12 : G.Ann (List KI) := (G.Ann.node (some (0, [KI.reg 0 (Kd.i .i64), KI.reg 1 (Kd.v)])) G.Ann.nil (G.Ann.node none G.Ann.nil G.Ann.nil))
noncomputable def P12x0 (h : Hp) (S : Nat → PAL → Option Value) (r0 : Int) (r1 : Value) : Option Value :=
  wrap64 (Int.sub r0 (Int.ofNat 1)) fun i0 =>
  optK (F29 [(Value.int .i64 (Int.ofNat 0)), (Value.int .i64 i0), r1] h) fun v1 =>
  boolK v1 fun b2 =>
  some (Value.bool b2)
noncomputable def T12 (h : Hp) (S : Nat → PAL → Option Value) : Nat → PAL → Option Value := tabPC 0 (wI fun r0 => wV fun r1 => wN (P12x0 h S r0 r1)) (tabPN)
noncomputable def F12 (args : List Value) (h : Hp) : Option Value := plainO (packArgs [Kd.i .i64, Kd.v] args fun al => G.rec' (T12 h) 1000000 0 al)
def nt12 : Nat := 2 + (9 - 2)
theorem q12x0 (h : Hp) (S : Nat → PAL → Option Value) (r0 : Int) (r1 : Value) : P12x0 h S r0 r1 = G.stepAt packP unpackP evXV (regP env pf16 nt12 h) (finP env Try.f12.results.toList) (G.collect B12 A12 []) 0 S (PAL.i r0 (PAL.v r1 PAL.n)) := by kernel_rfl
theorem t12 (h : Hp) (S : Nat → PAL → Option Value) : TabP (fun l al => G.stepAt packP unpackP evXV (regP env pf16 nt12 h) (finP env Try.f12.results.toList) (G.collect B12 A12 []) l S al) (T12 h S) := by
  unfold T12
  refine TabP.cons 0 (fun vs0 q e0 => ?_) ?_
  · obtain ⟨r0, vs1, rfl, e1⟩ := wI_some e0
    obtain ⟨r1, vs2, rfl, e2⟩ := wV_some e1
    obtain ⟨rfl, ee⟩ := wN_some e2
    exact (q12x0 h S r0 r1).symm.trans ee
  exact TabP.nil
theorem r12 : PSound Try.prog 12 F12 := fun_soundP (C := C0) ok0 (pf := pf16) pfok16 (fn := Try.f12) (body := B12) (kinds := [Kd.i .i64, Kd.v]) (A := A12) (T := T12) (by kernel_rfl) (by kernel_rfl) (by kernel_rfl) (by kernel_rfl) (fun h S => t12 h S)
noncomputable def pf17 : PF := pfC 12 F12 pf16
theorem pfok17 : PfSound Try.prog pf17 := pfC_ok r12 pfok16
noncomputable def orc37 := orcP 12 F12 orc36
noncomputable def C37 : Cfg := cfg orc37
theorem ok37 : C37.Ok := orcP_ok (C := C36) ok36 r12
noncomputable def B13 : Code := (Try.f13.body).getD .skip
noncomputable def A13 : G.Ann (List KI) := (G.Ann.node (some (0, [KI.reg 0 (Kd.v), KI.reg 1 (Kd.i .i64)])) G.Ann.nil (G.Ann.node none G.Ann.nil (G.Ann.node none G.Ann.nil (G.Ann.node none G.Ann.nil (G.Ann.node none G.Ann.nil (G.Ann.node none G.Ann.nil (G.Ann.node none G.Ann.nil G.Ann.nil)))))))
noncomputable def P13x0 (h : Hp) (S : Nat → PAL → Option Value) (r0 : Value) (r1 : Int) : Option Value :=
  forceL (Array.toList (Value.cells r0)) fun c0 =>
  nthR c0 4 fun v1 =>
  idxSK 6 v1 r1 fun v2 =>
  loadNK 6 h v2 fun v3 =>
  aggK v3 fun l4 => ifB (Nat.beq (lenR l4) 6) (segR 0 l4 [(Value.string (ByteArray.mk #[])), (Value.int .i64 (Int.ofNat 0)), (Value.int .i64 (Int.ofNat 0)), (Value.int .i64 (Int.ofNat 0)), (Value.int .i64 (Int.ofNat 0)), (Value.bool false)] fun c4 =>
  dropR c4 1 fun d5 => takeR d5 3 fun l5 =>
  aggK (Value.agg (Array.mk l5)) fun l6 => ifB (Nat.beq (lenR l6) 3) (segR 0 l6 [(Value.int .i64 (Int.ofNat 0)), (Value.int .i64 (Int.ofNat 0)), (Value.int .i64 (Int.ofNat 0))] fun c6 =>
  nthR c4 4 fun v7 =>
  intK .i64 v7 fun i8 =>
  nthR c0 6 fun v9 =>
  intK .i64 v9 fun i10 =>
  wrap64 (Int.add i8 i10) fun i11 =>
  nthR c0 3 fun v12 =>
  intK .i64 v12 fun i13 =>
  slowI .i64 (binW env .quo 3 (Value.int .i64 i11) (Value.int .i64 i13)) fun i14 =>
  onI (Int.ofNat 2) (fun n15 => ifB (Nat.ble (Nat.succ n15) 3) (forceN (Nat.add 0 (Nat.mul n15 1)) fun o15 =>
  nthR c6 o15 fun v16 =>
  intK .i64 v16 fun i17 =>
  minZ i14 i17 fun i18 =>
  onI (Int.ofNat 2) (fun n19 => ifB (Nat.ble (Nat.succ n19) 3) (forceN (Nat.add 0 (Nat.mul n19 1)) fun o19 =>
  nthR c6 o19 fun v20 =>
  intK .i64 v20 fun i21 =>
  wrap64 (Int.sub i21 i18) fun i22 =>
  onI (Int.ofNat 2) (fun n23 => ifB (Nat.ble (Nat.succ n23) 3) (forceN (Nat.add 0 (Nat.mul n23 1)) fun o23 =>
  setNthR c6 o23 (Value.int .i64 i22) fun c24 =>
  onI (Int.ofNat 0) (fun n25 => ifB (Nat.ble (Nat.succ n25) 3) (forceN (Nat.add 0 (Nat.mul n25 1)) fun o25 =>
  nthR c24 o25 fun v26 =>
  intK .i64 v26 fun i27 =>
  wrap64 (Int.add i27 i18) fun i28 =>
  onI (Int.ofNat 0) (fun n29 => ifB (Nat.ble (Nat.succ n29) 3) (forceN (Nat.add 0 (Nat.mul n29 1)) fun o29 =>
  setNthR c24 o29 (Value.int .i64 i28) fun c30 =>
  dropR c30 0 fun d31 => takeR d31 3 fun l31 =>
  aggK (Value.agg (Array.mk l31)) fun l32 => ifB (Nat.beq (lenR l32) 3) (segR 0 l32 [(Value.int .i64 (Int.ofNat 0)), (Value.int .i64 (Int.ofNat 0)), (Value.int .i64 (Int.ofNat 0))] fun c32 =>
  dropR c32 0 fun d33 => takeR d33 3 fun l33 => some (Value.agg (Array.mk l33))) none) none) (fun _ => none)) none) (fun _ => none)) none) (fun _ => none)) none) (fun _ => none)) none) (fun _ => none)) none) none
noncomputable def T13 (h : Hp) (S : Nat → PAL → Option Value) : Nat → PAL → Option Value := tabPC 0 (wV fun r0 => wI fun r1 => wN (P13x0 h S r0 r1)) (tabPN)
noncomputable def F13 (args : List Value) (h : Hp) : Option Value := plainO (packArgs [Kd.v, Kd.i .i64] args fun al => G.rec' (T13 h) 1000000 0 al)
def nt13 : Nat := 2 + (39 - 2)
theorem q13x0 (h : Hp) (S : Nat → PAL → Option Value) (r0 : Value) (r1 : Int) : P13x0 h S r0 r1 = G.stepAt packP unpackP evXV (regP env pf17 nt13 h) (finP env Try.f13.results.toList) (G.collect B13 A13 []) 0 S (PAL.v r0 (PAL.i r1 PAL.n)) := by kernel_rfl
theorem t13 (h : Hp) (S : Nat → PAL → Option Value) : TabP (fun l al => G.stepAt packP unpackP evXV (regP env pf17 nt13 h) (finP env Try.f13.results.toList) (G.collect B13 A13 []) l S al) (T13 h S) := by
  unfold T13
  refine TabP.cons 0 (fun vs0 q e0 => ?_) ?_
  · obtain ⟨r0, vs1, rfl, e1⟩ := wV_some e0
    obtain ⟨r1, vs2, rfl, e2⟩ := wI_some e1
    obtain ⟨rfl, ee⟩ := wN_some e2
    exact (q13x0 h S r0 r1).symm.trans ee
  exact TabP.nil
theorem r13 : PSound Try.prog 13 F13 := fun_soundP (C := C0) ok0 (pf := pf17) pfok17 (fn := Try.f13) (body := B13) (kinds := [Kd.v, Kd.i .i64]) (A := A13) (T := T13) (by kernel_rfl) (by kernel_rfl) (by kernel_rfl) (by kernel_rfl) (fun h S => t13 h S)
noncomputable def pf18 : PF := pfC 13 F13 pf17
theorem pfok18 : PfSound Try.prog pf18 := pfC_ok r13 pfok17
noncomputable def orc38 := orcP 13 F13 orc37
noncomputable def C38 : Cfg := cfg orc38
theorem ok38 : C38.Ok := orcP_ok (C := C37) ok37 r13
noncomputable def B5 : Code := (Try.f5.body).getD .skip
def A5 : Ann := (Ann.node (some (0, [(0, Kd.v), (1, Kd.i .i64)])) Ann.nil (Ann.node none Ann.nil (Ann.node none (Ann.node none Ann.nil (Ann.node none (Ann.node none Ann.nil Ann.nil) Ann.nil)) (Ann.node none (Ann.node none Ann.nil (Ann.node none (Ann.node none Ann.nil Ann.nil) Ann.nil)) (Ann.node none Ann.nil Ann.nil)))))
noncomputable def P5x0 (S : Sg) (r0 : Value) (r1 : Int) (h : Hp) : CRes :=
  allocK h 27 (Array.toList (Value.cells r0)) fun a0 h0 =>
  allocK h0 23 [(Value.int .i64 (Int.ofNat 0)), (Value.int .i64 (Int.ofNat 0)), (Value.int .i64 (Int.ofNat 0))] fun a1 h1 =>
  loadNK 6 h1 a0 fun v2 =>
  pairK (callQ F11 [v2] h1) fun v3 h3 =>
  extK v3 0 fun v4 =>
  extK v3 1 fun v5 =>
  intK .i64 v5 fun i6 =>
  allocK h3 48 [(Value.int .i64 (Int.ofNat 0)), (Value.int .i64 (Int.ofNat 0)), (Value.int .i64 (Int.ofNat 0)), (Value.int .i64 (Int.ofNat 0)), (Value.slice none 0 0), (Value.slice none 0 0), (Value.int .i64 (Int.ofNat 0)), (Value.slice none 0 0), (Value.slice none 0 0), (Value.int .i64 (Int.ofNat 0)), (Value.map none)] fun a7 h7 =>
  storeNK 11 h7 a7 v4 fun h8 =>
  boolN (eqZ i6 (Int.ofNat 0)) fun b9 =>
  ifB b9
  (optK (buildV env 23 (List.toArray [])) fun v10 =>
  storeNK 3 h8 a1 v10 fun h11 =>
  loadNK 3 h11 a1 fun v12 => some (Value.tuple (List.toArray [v12, (Value.int .i64 i6)]), h11))
  (ptrAddK 0 a7 fun v13 =>
  ptrAddK 4 v13 fun v14 =>
  load1K h8 v14 fun v15 =>
  lenSK v15 fun i16 =>
  pairK (buildSliceV env h8 53 1 (List.toArray [(0, (Value.int .i64 r1))])) fun v17 h17 =>
  pairK (optK (F12 [(Value.int .i64 i16), v17] h17) fun v => some (v, h17)) fun v18 h18 =>
  boolK v18 fun b19 =>
  boolN b19 fun b20 =>
  ifB b20
  (optK (buildV env 23 (List.toArray [])) fun v21 =>
  storeNK 3 h18 a1 v21 fun h22 =>
  loadNK 3 h22 a1 fun v23 => some (Value.tuple (List.toArray [v23, (Value.int .i64 (Int.ofNat 4))]), h22))
  (loadNK 11 h18 a7 fun v24 =>
  pairK (optK (F13 [v24, (Value.int .i64 r1)] h18) fun v => some (v, h18)) fun v25 h25 =>
  storeNK 3 h25 a1 v25 fun h26 =>
  loadNK 3 h26 a1 fun v27 => some (Value.tuple (List.toArray [v27, (Value.int .i64 (Int.ofNat 0))]), h26)))
noncomputable def T5 (S : Sg) : Sg := tabC 0 (uV fun r0 => uI fun r1 => uN fun h => P5x0 S r0 r1 h) (tabN)
noncomputable def F5 (args : List Value) (h : Hp) : CRes := packVals [Kd.v, Kd.i .i64] args fun al => rec' T5 1000000 0 al h
def nt5 : Nat := 2 + (29 - 2)
theorem q5x0 (S : Sg) (r0 : Value) (r1 : Int) (h : Hp) : P5x0 S r0 r1 h = stepAt (regK env orc38 (nt5)) (finK env Try.f5.results.toList) (collect B5 A5 []) 0 S (AL.v r0 (AL.i r1 AL.n)) h := by kernel_rfl
theorem t5 (S : Sg) : Tab (fun l vs h => stepAt (regK env orc38 nt5) (finK env Try.f5.results.toList) (collect B5 A5 []) l S vs h) (T5 S) := by
  unfold T5
  refine Tab.cons 0 (fun vs0 h q e0 => ?_) ?_
  · obtain ⟨r0, vs1, rfl, e1⟩ := uV_some e0
    obtain ⟨r1, vs2, rfl, e2⟩ := uI_some e1
    obtain ⟨rfl, ee⟩ := uN_some e2
    exact (q5x0 S r0 r1 h).symm.trans ee
  exact Tab.nil
theorem r5 : ∀ args h v h', F5 args h = some (v, h') → Runs (C38) (.call 5 args.toArray h) (.ret v h') := by
  intro args h v h' e
  exact fun_sound (C := C38) (fn := Try.f5) (body := B5) (np := 2) (A := A5) (T := T5) (kinds := [Kd.v, Kd.i .i64]) (by kernel_rfl) (by kernel_rfl) (by kernel_rfl) (by kernel_rfl) (regK_ok env_ok) (by kernel_rfl) (fun S => t5 S) e
noncomputable def orc39 := orcQ 5 F5 orc38
noncomputable def C39 : Cfg := cfg orc39
theorem ok39 : C39.Ok := orcQ_ok (C := C38) ok38 r5
noncomputable def B14 : Code := (Try.f14.body).getD .skip
def A14 : Ann := (Ann.node (some (0, [(0, Kd.v), (1, Kd.v), (2, Kd.v)])) Ann.nil (Ann.node none (Ann.node none Ann.nil (Ann.node none (Ann.node none Ann.nil Ann.nil) Ann.nil)) (Ann.node none (Ann.node none Ann.nil (Ann.node none (Ann.node (some (1, [(1, Kd.v), (3, Kd.v), (5, Kd.v), (18, Kd.v), (19, Kd.i .i64), (20, Kd.i .i64)])) (Ann.node none Ann.nil (Ann.node none (Ann.node none Ann.nil Ann.nil) (Ann.node none (Ann.node none (Ann.node none Ann.nil (Ann.node none Ann.nil (Ann.node none (Ann.node none Ann.nil Ann.nil) Ann.nil))) Ann.nil) Ann.nil))) Ann.nil) Ann.nil)) (Ann.node (some (4, [(3, Kd.v), (5, Kd.v)])) (Ann.node none Ann.nil (Ann.node none (Ann.node (some (2, [(3, Kd.v), (46, Kd.v), (47, Kd.i .i64)])) (Ann.node none Ann.nil (Ann.node none (Ann.node none Ann.nil Ann.nil) (Ann.node none (Ann.node none (Ann.node none Ann.nil (Ann.node none Ann.nil (Ann.node none (Ann.node none Ann.nil Ann.nil) Ann.nil))) Ann.nil) Ann.nil))) Ann.nil) Ann.nil)) (Ann.node (some (3, [])) Ann.nil Ann.nil)))))
noncomputable def P14x3 (S : Sg) (h : Hp) : CRes :=
  some ((Value.int .i64 (Int.ofNat 0)), h)
noncomputable def P14x2 (S : Sg) (r3 : Value) (r46 : Value) (r47 : Int) (h : Hp) : CRes :=
  boolZ (ltZ r47 (Int.ofNat 3)) fun b0 =>
  ifB b0
  (optK (indexV env 23 r46 (Value.int .i64 r47)) fun v1 =>
  intK .i64 v1 fun i2 =>
  ptrAddK 0 r3 fun v3 =>
  ptrAddK 0 v3 fun v4 =>
  idxAK 3 1 v4 r47 fun v5 =>
  load1K h v5 fun v6 =>
  intK .i64 v6 fun i7 =>
  pairK (buildSliceV env h 53 1 (List.toArray [(0, (Value.int .i64 i2))])) fun v8 h8 =>
  pairK (optK (F29 [(Value.int .i64 (Int.ofNat 0)), (Value.int .i64 i7), v8] h8) fun v => some (v, h8)) fun v9 h9 =>
  boolK v9 fun b10 =>
  boolN b10 fun b11 =>
  ifB b11
  (some ((Value.int .i64 (Int.ofNat 7)), h9))
  (wrap64 (Int.add r47 (Int.ofNat 1)) fun i12 =>
  S 2 (AL.v r3 (AL.v r46 (AL.i i12 AL.n))) h9))
  (S 3 AL.n h)
noncomputable def P14x4 (S : Sg) (r3 : Value) (r5 : Value) (h : Hp) : CRes :=
  loadNK 3 h r5 fun v0 =>
  S 2 (AL.v r3 (AL.v v0 (AL.i (Int.ofNat 0) AL.n))) h
noncomputable def P14x1 (S : Sg) (r1 : Value) (r3 : Value) (r5 : Value) (r18 : Value) (r19 : Int) (r20 : Int) (h : Hp) : CRes :=
  boolZ (ltZ r20 r19) fun b0 =>
  ifB b0
  (idxSK 1 r18 r20 fun v1 =>
  load1K h v1 fun v2 =>
  intK .i64 v2 fun i3 =>
  boolZ (ltZ (Int.ofNat 0) r20) fun b4 =>
  ifB b4
  (wrap64 (Int.sub r20 (Int.ofNat 1)) fun i5 =>
  idxSK 1 r1 i5 fun v6 =>
  load1K h v6 fun v7 =>
  intK .i64 v7 fun i8 =>
  boolN (ltZ i8 i3) fun b9 =>
  ifB b9
  (some ((Value.int .i64 (Int.ofNat 2)), h))
  (ptrAddK 0 r3 fun v10 =>
  ptrAddK 4 v10 fun v11 =>
  load1K h v11 fun v12 =>
  idxSK 6 v12 i3 fun v13 =>
  ptrAddK 5 v13 fun v14 =>
  load1K h v14 fun v15 =>
  boolK v15 fun b16 =>
  ifB b16
  (some ((Value.int .i64 (Int.ofNat 2)), h))
  (wrap64 (Int.add r20 (Int.ofNat 1)) fun i17 =>
  S 1 (AL.v r1 (AL.v r3 (AL.v r5 (AL.v r18 (AL.i r19 (AL.i i17 AL.n)))))) h)))
  (ptrAddK 0 r3 fun v18 =>
  ptrAddK 4 v18 fun v19 =>
  load1K h v19 fun v20 =>
  idxSK 6 v20 i3 fun v21 =>
  ptrAddK 5 v21 fun v22 =>
  load1K h v22 fun v23 =>
  boolK v23 fun b24 =>
  ifB b24
  (some ((Value.int .i64 (Int.ofNat 2)), h))
  (wrap64 (Int.add r20 (Int.ofNat 1)) fun i25 =>
  S 1 (AL.v r1 (AL.v r3 (AL.v r5 (AL.v r18 (AL.i r19 (AL.i i25 AL.n)))))) h)))
  (S 4 (AL.v r3 (AL.v r5 AL.n)) h)
noncomputable def P14x0 (S : Sg) (r0 : Value) (r1 : Value) (r2 : Value) (h : Hp) : CRes :=
  allocK h 48 (Array.toList (Value.cells r0)) fun a0 h0 =>
  allocK h0 23 (Array.toList (Value.cells r2)) fun a1 h1 =>
  ptrAddK 0 a0 fun v2 =>
  ptrAddK 4 v2 fun v3 =>
  load1K h1 v3 fun v4 =>
  lenSK v4 fun i5 =>
  pairK (optK (F12 [(Value.int .i64 i5), r1] h1) fun v => some (v, h1)) fun v6 h6 =>
  boolK v6 fun b7 =>
  boolN b7 fun b8 =>
  ifB b8
  (some ((Value.int .i64 (Int.ofNat 4)), h6))
  (lenSK r1 fun i9 =>
  S 1 (AL.v r1 (AL.v a0 (AL.v a1 (AL.v r1 (AL.i i9 (AL.i (Int.ofNat 0) AL.n)))))) h6)
noncomputable def T14 (S : Sg) : Sg := tabC 0 (uV fun r0 => uV fun r1 => uV fun r2 => uN fun h => P14x0 S r0 r1 r2 h) (tabC 1 (uV fun r1 => uV fun r3 => uV fun r5 => uV fun r18 => uI fun r19 => uI fun r20 => uN fun h => P14x1 S r1 r3 r5 r18 r19 r20 h) (tabC 4 (uV fun r3 => uV fun r5 => uN fun h => P14x4 S r3 r5 h) (tabC 2 (uV fun r3 => uV fun r46 => uI fun r47 => uN fun h => P14x2 S r3 r46 r47 h) (tabC 3 (uN fun h => P14x3 S  h) (tabN)))))
noncomputable def F14 (args : List Value) (h : Hp) : CRes := packVals [Kd.v, Kd.v, Kd.v] args fun al => rec' T14 1000000 0 al h
def nt14 : Nat := 3 + (61 - 3)
theorem q14x3 (S : Sg) (h : Hp) : P14x3 S  h = stepAt (regK env orc39 (nt14)) (finK env Try.f14.results.toList) (collect B14 A14 []) 3 S AL.n h := by kernel_rfl
theorem q14x2 (S : Sg) (r3 : Value) (r46 : Value) (r47 : Int) (h : Hp) : P14x2 S r3 r46 r47 h = stepAt (regK env orc39 (nt14)) (finK env Try.f14.results.toList) (collect B14 A14 []) 2 S (AL.v r3 (AL.v r46 (AL.i r47 AL.n))) h := by kernel_rfl
theorem q14x4 (S : Sg) (r3 : Value) (r5 : Value) (h : Hp) : P14x4 S r3 r5 h = stepAt (regK env orc39 (nt14)) (finK env Try.f14.results.toList) (collect B14 A14 []) 4 S (AL.v r3 (AL.v r5 AL.n)) h := by kernel_rfl
theorem q14x1 (S : Sg) (r1 : Value) (r3 : Value) (r5 : Value) (r18 : Value) (r19 : Int) (r20 : Int) (h : Hp) : P14x1 S r1 r3 r5 r18 r19 r20 h = stepAt (regK env orc39 (nt14)) (finK env Try.f14.results.toList) (collect B14 A14 []) 1 S (AL.v r1 (AL.v r3 (AL.v r5 (AL.v r18 (AL.i r19 (AL.i r20 AL.n)))))) h := by kernel_rfl
theorem q14x0 (S : Sg) (r0 : Value) (r1 : Value) (r2 : Value) (h : Hp) : P14x0 S r0 r1 r2 h = stepAt (regK env orc39 (nt14)) (finK env Try.f14.results.toList) (collect B14 A14 []) 0 S (AL.v r0 (AL.v r1 (AL.v r2 AL.n))) h := by kernel_rfl
theorem t14 (S : Sg) : Tab (fun l vs h => stepAt (regK env orc39 nt14) (finK env Try.f14.results.toList) (collect B14 A14 []) l S vs h) (T14 S) := by
  unfold T14
  refine Tab.cons 0 (fun vs0 h q e0 => ?_) ?_
  · obtain ⟨r0, vs1, rfl, e1⟩ := uV_some e0
    obtain ⟨r1, vs2, rfl, e2⟩ := uV_some e1
    obtain ⟨r2, vs3, rfl, e3⟩ := uV_some e2
    obtain ⟨rfl, ee⟩ := uN_some e3
    exact (q14x0 S r0 r1 r2 h).symm.trans ee
  refine Tab.cons 1 (fun vs0 h q e0 => ?_) ?_
  · obtain ⟨r1, vs1, rfl, e1⟩ := uV_some e0
    obtain ⟨r3, vs2, rfl, e2⟩ := uV_some e1
    obtain ⟨r5, vs3, rfl, e3⟩ := uV_some e2
    obtain ⟨r18, vs4, rfl, e4⟩ := uV_some e3
    obtain ⟨r19, vs5, rfl, e5⟩ := uI_some e4
    obtain ⟨r20, vs6, rfl, e6⟩ := uI_some e5
    obtain ⟨rfl, ee⟩ := uN_some e6
    exact (q14x1 S r1 r3 r5 r18 r19 r20 h).symm.trans ee
  refine Tab.cons 4 (fun vs0 h q e0 => ?_) ?_
  · obtain ⟨r3, vs1, rfl, e1⟩ := uV_some e0
    obtain ⟨r5, vs2, rfl, e2⟩ := uV_some e1
    obtain ⟨rfl, ee⟩ := uN_some e2
    exact (q14x4 S r3 r5 h).symm.trans ee
  refine Tab.cons 2 (fun vs0 h q e0 => ?_) ?_
  · obtain ⟨r3, vs1, rfl, e1⟩ := uV_some e0
    obtain ⟨r46, vs2, rfl, e2⟩ := uV_some e1
    obtain ⟨r47, vs3, rfl, e3⟩ := uI_some e2
    obtain ⟨rfl, ee⟩ := uN_some e3
    exact (q14x2 S r3 r46 r47 h).symm.trans ee
  refine Tab.cons 3 (fun vs0 h q e0 => ?_) ?_
  · 
    obtain ⟨rfl, ee⟩ := uN_some e0
    exact (q14x3 S  h).symm.trans ee
  exact Tab.nil
theorem r14 : ∀ args h v h', F14 args h = some (v, h') → Runs (C39) (.call 14 args.toArray h) (.ret v h') := by
  intro args h v h' e
  exact fun_sound (C := C39) (fn := Try.f14) (body := B14) (np := 3) (A := A14) (T := T14) (kinds := [Kd.v, Kd.v, Kd.v]) (by kernel_rfl) (by kernel_rfl) (by kernel_rfl) (by kernel_rfl) (regK_ok env_ok) (by kernel_rfl) (fun S => t14 S) e
noncomputable def orc40 := orcQ 14 F14 orc39
noncomputable def C40 : Cfg := cfg orc40
theorem ok40 : C40.Ok := orcQ_ok (C := C39) ok39 r14
noncomputable def B15 : Code := (Try.f15.body).getD .skip
noncomputable def A15 : G.Ann (List KI) := (G.Ann.node (some (0, [KI.reg 0 (Kd.v), KI.reg 1 (Kd.v)])) G.Ann.nil (G.Ann.node none (G.Ann.node none G.Ann.nil (G.Ann.node none (G.Ann.node (some (1, [KI.loc 2 2, KI.loc 4 4, KI.reg 7 (Kd.v), KI.reg 8 (Kd.i .i64), KI.cells 2 [Kd.i .i64, Kd.i .i64, Kd.i .i64], KI.cells 4 [Kd.i .i64, Kd.i .i64, Kd.i .i64]])) (G.Ann.node none G.Ann.nil (G.Ann.node none (G.Ann.node none G.Ann.nil G.Ann.nil) (G.Ann.node none (G.Ann.node none (G.Ann.node none G.Ann.nil G.Ann.nil) G.Ann.nil) G.Ann.nil))) G.Ann.nil) G.Ann.nil)) (G.Ann.node (some (2, [KI.loc 2 2, KI.loc 4 4, KI.cells 2 [Kd.i .i64, Kd.i .i64, Kd.i .i64], KI.cells 4 [Kd.i .i64, Kd.i .i64, Kd.i .i64]])) G.Ann.nil G.Ann.nil)))
noncomputable def P15x2 (h : Hp) (S : Nat → PAL → Option Value) (c2x0 : Int) (c2x1 : Int) (c2x2 : Int) (c4x0 : Int) (c4x1 : Int) (c4x2 : Int) : Option Value :=
  aggK (Value.agg (Array.mk [(Value.int .i64 c2x0), (Value.int .i64 c2x1), (Value.int .i64 c2x2)])) fun l0 => ifB (Nat.beq (lenR l0) 3) (segR 0 l0 [(Value.int .i64 c4x0), (Value.int .i64 c4x1), (Value.int .i64 c4x2)] fun c0 =>
  dropR c0 0 fun d1 => takeR d1 3 fun l1 => some (Value.agg (Array.mk l1))) none
noncomputable def P15x1 (h : Hp) (S : Nat → PAL → Option Value) (r7 : Value) (r8 : Int) (c2x0 : Int) (c2x1 : Int) (c2x2 : Int) (c4x0 : Int) (c4x1 : Int) (c4x2 : Int) : Option Value :=
  boolZ (ltZ r8 (Int.ofNat 3)) fun b0 =>
  ifB b0
  (optK (indexV env 23 r7 (Value.int .i64 r8)) fun v1 =>
  intK .i64 v1 fun i2 =>
  onI r8 (fun n3 => ifB (Nat.ble (Nat.succ n3) 3) (forceN (Nat.add 0 (Nat.mul n3 1)) fun o3 =>
  nthR [(Value.int .i64 c2x0), (Value.int .i64 c2x1), (Value.int .i64 c2x2)] o3 fun v4 =>
  intK .i64 v4 fun i5 =>
  wrap64 (Int.add i5 i2) fun i6 =>
  onI r8 (fun n7 => ifB (Nat.ble (Nat.succ n7) 3) (forceN (Nat.add 0 (Nat.mul n7 1)) fun o7 =>
  setNthR [(Value.int .i64 c2x0), (Value.int .i64 c2x1), (Value.int .i64 c2x2)] o7 (Value.int .i64 i6) fun c8 =>
  wrap64 (Int.add r8 (Int.ofNat 1)) fun i9 =>
  unconsK c8 fun a10 c10 =>
  intK .i64 a10 fun i11 =>
  unconsK c10 fun a12 c12 =>
  intK .i64 a12 fun i13 =>
  unconsK c12 fun a14 c14 =>
  intK .i64 a14 fun i15 =>
  nilK c14 (S 1 (PAL.v r7 (PAL.i i9 (PAL.i i11 (PAL.i i13 (PAL.i i15 (PAL.i c4x0 (PAL.i c4x1 (PAL.i c4x2 PAL.n)))))))))) none) (fun _ => none)) none) (fun _ => none))
  (S 2 (PAL.i c2x0 (PAL.i c2x1 (PAL.i c2x2 (PAL.i c4x0 (PAL.i c4x1 (PAL.i c4x2 PAL.n)))))))
noncomputable def P15x0 (h : Hp) (S : Nat → PAL → Option Value) (r0 : Value) (r1 : Value) : Option Value :=
  forceL (Array.toList (Value.cells r0)) fun c0 =>
  forceL (Array.toList (Value.cells r1)) fun c1 =>
  dropR c1 0 fun d2 => takeR d2 3 fun l2 =>
  unconsK c0 fun a3 c3 =>
  intK .i64 a3 fun i4 =>
  unconsK c3 fun a5 c5 =>
  intK .i64 a5 fun i6 =>
  unconsK c5 fun a7 c7 =>
  intK .i64 a7 fun i8 =>
  nilK c7 (S 1 (PAL.v (Value.agg (Array.mk l2)) (PAL.i (Int.ofNat 0) (PAL.i i4 (PAL.i i6 (PAL.i i8 (PAL.i (Int.ofNat 0) (PAL.i (Int.ofNat 0) (PAL.i (Int.ofNat 0) PAL.n)))))))))
noncomputable def T15 (h : Hp) (S : Nat → PAL → Option Value) : Nat → PAL → Option Value := tabPC 0 (wV fun r0 => wV fun r1 => wN (P15x0 h S r0 r1)) (tabPC 1 (wV fun r7 => wI fun r8 => wI fun c2x0 => wI fun c2x1 => wI fun c2x2 => wI fun c4x0 => wI fun c4x1 => wI fun c4x2 => wN (P15x1 h S r7 r8 c2x0 c2x1 c2x2 c4x0 c4x1 c4x2)) (tabPC 2 (wI fun c2x0 => wI fun c2x1 => wI fun c2x2 => wI fun c4x0 => wI fun c4x1 => wI fun c4x2 => wN (P15x2 h S c2x0 c2x1 c2x2 c4x0 c4x1 c4x2)) (tabPN)))
noncomputable def F15 (args : List Value) (h : Hp) : Option Value := plainO (packArgs [Kd.v, Kd.v] args fun al => G.rec' (T15 h) 1000000 0 al)
def nt15 : Nat := 2 + (20 - 2)
theorem q15x2 (h : Hp) (S : Nat → PAL → Option Value) (c2x0 : Int) (c2x1 : Int) (c2x2 : Int) (c4x0 : Int) (c4x1 : Int) (c4x2 : Int) : P15x2 h S c2x0 c2x1 c2x2 c4x0 c4x1 c4x2 = G.stepAt packP unpackP evXV (regP env pf18 nt15 h) (finP env Try.f15.results.toList) (G.collect B15 A15 []) 2 S (PAL.i c2x0 (PAL.i c2x1 (PAL.i c2x2 (PAL.i c4x0 (PAL.i c4x1 (PAL.i c4x2 PAL.n)))))) := by kernel_rfl
theorem q15x1 (h : Hp) (S : Nat → PAL → Option Value) (r7 : Value) (r8 : Int) (c2x0 : Int) (c2x1 : Int) (c2x2 : Int) (c4x0 : Int) (c4x1 : Int) (c4x2 : Int) : P15x1 h S r7 r8 c2x0 c2x1 c2x2 c4x0 c4x1 c4x2 = G.stepAt packP unpackP evXV (regP env pf18 nt15 h) (finP env Try.f15.results.toList) (G.collect B15 A15 []) 1 S (PAL.v r7 (PAL.i r8 (PAL.i c2x0 (PAL.i c2x1 (PAL.i c2x2 (PAL.i c4x0 (PAL.i c4x1 (PAL.i c4x2 PAL.n)))))))) := by kernel_rfl
theorem q15x0 (h : Hp) (S : Nat → PAL → Option Value) (r0 : Value) (r1 : Value) : P15x0 h S r0 r1 = G.stepAt packP unpackP evXV (regP env pf18 nt15 h) (finP env Try.f15.results.toList) (G.collect B15 A15 []) 0 S (PAL.v r0 (PAL.v r1 PAL.n)) := by kernel_rfl
theorem t15 (h : Hp) (S : Nat → PAL → Option Value) : TabP (fun l al => G.stepAt packP unpackP evXV (regP env pf18 nt15 h) (finP env Try.f15.results.toList) (G.collect B15 A15 []) l S al) (T15 h S) := by
  unfold T15
  refine TabP.cons 0 (fun vs0 q e0 => ?_) ?_
  · obtain ⟨r0, vs1, rfl, e1⟩ := wV_some e0
    obtain ⟨r1, vs2, rfl, e2⟩ := wV_some e1
    obtain ⟨rfl, ee⟩ := wN_some e2
    exact (q15x0 h S r0 r1).symm.trans ee
  refine TabP.cons 1 (fun vs0 q e0 => ?_) ?_
  · obtain ⟨r7, vs1, rfl, e1⟩ := wV_some e0
    obtain ⟨r8, vs2, rfl, e2⟩ := wI_some e1
    obtain ⟨c2x0, vs3, rfl, e3⟩ := wI_some e2
    obtain ⟨c2x1, vs4, rfl, e4⟩ := wI_some e3
    obtain ⟨c2x2, vs5, rfl, e5⟩ := wI_some e4
    obtain ⟨c4x0, vs6, rfl, e6⟩ := wI_some e5
    obtain ⟨c4x1, vs7, rfl, e7⟩ := wI_some e6
    obtain ⟨c4x2, vs8, rfl, e8⟩ := wI_some e7
    obtain ⟨rfl, ee⟩ := wN_some e8
    exact (q15x1 h S r7 r8 c2x0 c2x1 c2x2 c4x0 c4x1 c4x2).symm.trans ee
  refine TabP.cons 2 (fun vs0 q e0 => ?_) ?_
  · obtain ⟨c2x0, vs1, rfl, e1⟩ := wI_some e0
    obtain ⟨c2x1, vs2, rfl, e2⟩ := wI_some e1
    obtain ⟨c2x2, vs3, rfl, e3⟩ := wI_some e2
    obtain ⟨c4x0, vs4, rfl, e4⟩ := wI_some e3
    obtain ⟨c4x1, vs5, rfl, e5⟩ := wI_some e4
    obtain ⟨c4x2, vs6, rfl, e6⟩ := wI_some e5
    obtain ⟨rfl, ee⟩ := wN_some e6
    exact (q15x2 h S c2x0 c2x1 c2x2 c4x0 c4x1 c4x2).symm.trans ee
  exact TabP.nil
theorem r15 : PSound Try.prog 15 F15 := fun_soundP (C := C0) ok0 (pf := pf18) pfok18 (fn := Try.f15) (body := B15) (kinds := [Kd.v, Kd.v]) (A := A15) (T := T15) (by kernel_rfl) (by kernel_rfl) (by kernel_rfl) (by kernel_rfl) (fun h S => t15 h S)
noncomputable def pf19 : PF := pfC 15 F15 pf18
theorem pfok19 : PfSound Try.prog pf19 := pfC_ok r15 pfok18
noncomputable def orc41 := orcP 15 F15 orc40
noncomputable def C41 : Cfg := cfg orc41
theorem ok41 : C41.Ok := orcP_ok (C := C40) ok40 r15
noncomputable def B16 : Code := (Try.f16.body).getD .skip
noncomputable def A16 : G.Ann (List KI) := (G.Ann.node (some (0, [KI.reg 0 (Kd.v), KI.reg 1 (Kd.v)])) G.Ann.nil (G.Ann.node none G.Ann.nil (G.Ann.node none (G.Ann.node none G.Ann.nil (G.Ann.node none (G.Ann.node (some (1, [KI.loc 2 2, KI.loc 4 4, KI.loc 5 5, KI.reg 8 (Kd.v), KI.reg 9 (Kd.i .i64), KI.reg 10 (Kd.i .i64), KI.list 2, KI.cells 4 [Kd.i .i64, Kd.i .i64, Kd.i .i64], KI.cells 5 [Kd.i .i64, Kd.i .i64, Kd.i .i64]])) (G.Ann.node none G.Ann.nil (G.Ann.node none (G.Ann.node none G.Ann.nil G.Ann.nil) (G.Ann.node none (G.Ann.node none (G.Ann.node none G.Ann.nil G.Ann.nil) G.Ann.nil) G.Ann.nil))) G.Ann.nil) G.Ann.nil)) (G.Ann.node (some (2, [KI.loc 4 4, KI.loc 5 5, KI.cells 4 [Kd.i .i64, Kd.i .i64, Kd.i .i64], KI.cells 5 [Kd.i .i64, Kd.i .i64, Kd.i .i64]])) G.Ann.nil G.Ann.nil))))
noncomputable def P16x2 (h : Hp) (S : Nat → PAL → Option Value) (c4x0 : Int) (c4x1 : Int) (c4x2 : Int) (c5x0 : Int) (c5x1 : Int) (c5x2 : Int) : Option Value :=
  aggK (Value.agg (Array.mk [(Value.int .i64 c5x0), (Value.int .i64 c5x1), (Value.int .i64 c5x2)])) fun l0 => ifB (Nat.beq (lenR l0) 3) (segR 0 l0 [(Value.int .i64 c4x0), (Value.int .i64 c4x1), (Value.int .i64 c4x2)] fun c0 =>
  dropR c0 0 fun d1 => takeR d1 3 fun l1 => some (Value.agg (Array.mk l1))) none
noncomputable def P16x1 (h : Hp) (S : Nat → PAL → Option Value) (r8 : Value) (r9 : Int) (r10 : Int) (c2 : List Value) (c4x0 : Int) (c4x1 : Int) (c4x2 : Int) (c5x0 : Int) (c5x1 : Int) (c5x2 : Int) : Option Value :=
  boolZ (ltZ r10 r9) fun b0 =>
  ifB b0
  (idxSK 1 r8 r10 fun v1 =>
  load1K h v1 fun v2 =>
  intK .i64 v2 fun i3 =>
  dropR c2 0 fun d4 => takeR d4 11 fun l4 =>
  optK (F13 [(Value.agg (Array.mk l4)), (Value.int .i64 i3)] h) fun v5 =>
  optK (F15 [(Value.agg (Array.mk [(Value.int .i64 c5x0), (Value.int .i64 c5x1), (Value.int .i64 c5x2)])), v5] h) fun v6 =>
  aggK v6 fun l7 => ifB (Nat.beq (lenR l7) 3) (segR 0 l7 [(Value.int .i64 c5x0), (Value.int .i64 c5x1), (Value.int .i64 c5x2)] fun c7 =>
  wrap64 (Int.add r10 (Int.ofNat 1)) fun i8 =>
  unconsK c7 fun a9 c9 =>
  intK .i64 a9 fun i10 =>
  unconsK c9 fun a11 c11 =>
  intK .i64 a11 fun i12 =>
  unconsK c11 fun a13 c13 =>
  intK .i64 a13 fun i14 =>
  nilK c13 (S 1 (PAL.v r8 (PAL.i r9 (PAL.i i8 (PAL.l c2 (PAL.i c4x0 (PAL.i c4x1 (PAL.i c4x2 (PAL.i i10 (PAL.i i12 (PAL.i i14 PAL.n)))))))))))) none)
  (S 2 (PAL.i c4x0 (PAL.i c4x1 (PAL.i c4x2 (PAL.i c5x0 (PAL.i c5x1 (PAL.i c5x2 PAL.n)))))))
noncomputable def P16x0 (h : Hp) (S : Nat → PAL → Option Value) (r0 : Value) (r1 : Value) : Option Value :=
  forceL (Array.toList (Value.cells r0)) fun c0 =>
  lenSK r1 fun i1 =>
  S 1 (PAL.v r1 (PAL.i i1 (PAL.i (Int.ofNat 0) (PAL.l c0 (PAL.i (Int.ofNat 0) (PAL.i (Int.ofNat 0) (PAL.i (Int.ofNat 0) (PAL.i (Int.ofNat 0) (PAL.i (Int.ofNat 0) (PAL.i (Int.ofNat 0) PAL.n))))))))))
noncomputable def T16 (h : Hp) (S : Nat → PAL → Option Value) : Nat → PAL → Option Value := tabPC 0 (wV fun r0 => wV fun r1 => wN (P16x0 h S r0 r1)) (tabPC 1 (wV fun r8 => wI fun r9 => wI fun r10 => wL fun c2 => wI fun c4x0 => wI fun c4x1 => wI fun c4x2 => wI fun c5x0 => wI fun c5x1 => wI fun c5x2 => wN (P16x1 h S r8 r9 r10 c2 c4x0 c4x1 c4x2 c5x0 c5x1 c5x2)) (tabPC 2 (wI fun c4x0 => wI fun c4x1 => wI fun c4x2 => wI fun c5x0 => wI fun c5x1 => wI fun c5x2 => wN (P16x2 h S c4x0 c4x1 c4x2 c5x0 c5x1 c5x2)) (tabPN)))
noncomputable def F16 (args : List Value) (h : Hp) : Option Value := plainO (packArgs [Kd.v, Kd.v] args fun al => G.rec' (T16 h) 1000000 0 al)
def nt16 : Nat := 2 + (21 - 2)
theorem q16x2 (h : Hp) (S : Nat → PAL → Option Value) (c4x0 : Int) (c4x1 : Int) (c4x2 : Int) (c5x0 : Int) (c5x1 : Int) (c5x2 : Int) : P16x2 h S c4x0 c4x1 c4x2 c5x0 c5x1 c5x2 = G.stepAt packP unpackP evXV (regP env pf19 nt16 h) (finP env Try.f16.results.toList) (G.collect B16 A16 []) 2 S (PAL.i c4x0 (PAL.i c4x1 (PAL.i c4x2 (PAL.i c5x0 (PAL.i c5x1 (PAL.i c5x2 PAL.n)))))) := by kernel_rfl
theorem q16x1 (h : Hp) (S : Nat → PAL → Option Value) (r8 : Value) (r9 : Int) (r10 : Int) (c2 : List Value) (c4x0 : Int) (c4x1 : Int) (c4x2 : Int) (c5x0 : Int) (c5x1 : Int) (c5x2 : Int) : P16x1 h S r8 r9 r10 c2 c4x0 c4x1 c4x2 c5x0 c5x1 c5x2 = G.stepAt packP unpackP evXV (regP env pf19 nt16 h) (finP env Try.f16.results.toList) (G.collect B16 A16 []) 1 S (PAL.v r8 (PAL.i r9 (PAL.i r10 (PAL.l c2 (PAL.i c4x0 (PAL.i c4x1 (PAL.i c4x2 (PAL.i c5x0 (PAL.i c5x1 (PAL.i c5x2 PAL.n)))))))))) := by kernel_rfl
theorem q16x0 (h : Hp) (S : Nat → PAL → Option Value) (r0 : Value) (r1 : Value) : P16x0 h S r0 r1 = G.stepAt packP unpackP evXV (regP env pf19 nt16 h) (finP env Try.f16.results.toList) (G.collect B16 A16 []) 0 S (PAL.v r0 (PAL.v r1 PAL.n)) := by kernel_rfl
theorem t16 (h : Hp) (S : Nat → PAL → Option Value) : TabP (fun l al => G.stepAt packP unpackP evXV (regP env pf19 nt16 h) (finP env Try.f16.results.toList) (G.collect B16 A16 []) l S al) (T16 h S) := by
  unfold T16
  refine TabP.cons 0 (fun vs0 q e0 => ?_) ?_
  · obtain ⟨r0, vs1, rfl, e1⟩ := wV_some e0
    obtain ⟨r1, vs2, rfl, e2⟩ := wV_some e1
    obtain ⟨rfl, ee⟩ := wN_some e2
    exact (q16x0 h S r0 r1).symm.trans ee
  refine TabP.cons 1 (fun vs0 q e0 => ?_) ?_
  · obtain ⟨r8, vs1, rfl, e1⟩ := wV_some e0
    obtain ⟨r9, vs2, rfl, e2⟩ := wI_some e1
    obtain ⟨r10, vs3, rfl, e3⟩ := wI_some e2
    obtain ⟨c2, vs4, rfl, e4⟩ := wL_some e3
    obtain ⟨c4x0, vs5, rfl, e5⟩ := wI_some e4
    obtain ⟨c4x1, vs6, rfl, e6⟩ := wI_some e5
    obtain ⟨c4x2, vs7, rfl, e7⟩ := wI_some e6
    obtain ⟨c5x0, vs8, rfl, e8⟩ := wI_some e7
    obtain ⟨c5x1, vs9, rfl, e9⟩ := wI_some e8
    obtain ⟨c5x2, vs10, rfl, e10⟩ := wI_some e9
    obtain ⟨rfl, ee⟩ := wN_some e10
    exact (q16x1 h S r8 r9 r10 c2 c4x0 c4x1 c4x2 c5x0 c5x1 c5x2).symm.trans ee
  refine TabP.cons 2 (fun vs0 q e0 => ?_) ?_
  · obtain ⟨c4x0, vs1, rfl, e1⟩ := wI_some e0
    obtain ⟨c4x1, vs2, rfl, e2⟩ := wI_some e1
    obtain ⟨c4x2, vs3, rfl, e3⟩ := wI_some e2
    obtain ⟨c5x0, vs4, rfl, e4⟩ := wI_some e3
    obtain ⟨c5x1, vs5, rfl, e5⟩ := wI_some e4
    obtain ⟨c5x2, vs6, rfl, e6⟩ := wI_some e5
    obtain ⟨rfl, ee⟩ := wN_some e6
    exact (q16x2 h S c4x0 c4x1 c4x2 c5x0 c5x1 c5x2).symm.trans ee
  exact TabP.nil
theorem r16 : PSound Try.prog 16 F16 := fun_soundP (C := C0) ok0 (pf := pf19) pfok19 (fn := Try.f16) (body := B16) (kinds := [Kd.v, Kd.v]) (A := A16) (T := T16) (by kernel_rfl) (by kernel_rfl) (by kernel_rfl) (by kernel_rfl) (fun h S => t16 h S)
noncomputable def pf20 : PF := pfC 16 F16 pf19
theorem pfok20 : PfSound Try.prog pf20 := pfC_ok r16 pfok19
noncomputable def orc42 := orcP 16 F16 orc41
noncomputable def C42 : Cfg := cfg orc42
theorem ok42 : C42.Ok := orcP_ok (C := C41) ok41 r16
noncomputable def B6 : Code := (Try.f6.body).getD .skip
def A6 : Ann := (Ann.node (some (0, [(0, Kd.v), (1, Kd.v), (2, Kd.v)])) Ann.nil (Ann.node none Ann.nil (Ann.node none (Ann.node none Ann.nil (Ann.node none (Ann.node none Ann.nil Ann.nil) Ann.nil)) (Ann.node none (Ann.node none Ann.nil (Ann.node none Ann.nil (Ann.node none (Ann.node none Ann.nil Ann.nil) Ann.nil))) (Ann.node none Ann.nil Ann.nil)))))
noncomputable def P6x0 (S : Sg) (r0 : Value) (r1 : Value) (r2 : Value) (h : Hp) : CRes :=
  allocK h 27 (Array.toList (Value.cells r0)) fun a0 h0 =>
  allocK h0 23 (Array.toList (Value.cells r2)) fun a1 h1 =>
  allocK h1 23 [(Value.int .i64 (Int.ofNat 0)), (Value.int .i64 (Int.ofNat 0)), (Value.int .i64 (Int.ofNat 0))] fun a2 h2 =>
  loadNK 6 h2 a0 fun v3 =>
  pairK (callQ F11 [v3] h2) fun v4 h4 =>
  extK v4 0 fun v5 =>
  extK v4 1 fun v6 =>
  intK .i64 v6 fun i7 =>
  allocK h4 48 [(Value.int .i64 (Int.ofNat 0)), (Value.int .i64 (Int.ofNat 0)), (Value.int .i64 (Int.ofNat 0)), (Value.int .i64 (Int.ofNat 0)), (Value.slice none 0 0), (Value.slice none 0 0), (Value.int .i64 (Int.ofNat 0)), (Value.slice none 0 0), (Value.slice none 0 0), (Value.int .i64 (Int.ofNat 0)), (Value.map none)] fun a8 h8 =>
  storeNK 11 h8 a8 v5 fun h9 =>
  boolN (eqZ i7 (Int.ofNat 0)) fun b10 =>
  ifB b10
  (optK (buildV env 23 (List.toArray [])) fun v11 =>
  storeNK 3 h9 a2 v11 fun h12 =>
  loadNK 3 h12 a2 fun v13 => some (Value.tuple (List.toArray [v13, (Value.int .i64 i7)]), h12))
  (loadNK 11 h9 a8 fun v14 =>
  loadNK 3 h9 a1 fun v15 =>
  pairK (callQ F14 [v14, r1, v15] h9) fun v16 h16 =>
  intK .i64 v16 fun i17 =>
  boolN (eqZ i17 (Int.ofNat 0)) fun b18 =>
  ifB b18
  (optK (buildV env 23 (List.toArray [])) fun v19 =>
  storeNK 3 h16 a2 v19 fun h20 =>
  loadNK 3 h20 a2 fun v21 => some (Value.tuple (List.toArray [v21, (Value.int .i64 i17)]), h20))
  (loadNK 11 h16 a8 fun v22 =>
  pairK (pairK (optK (F16 [v22, r1] (Hp.mk (Hp.next h16) (Hp.next h16) (Hp.objs h16))) fun v => some (v, (Hp.mk (Hp.next h16) (Hp.next h16) (Hp.objs h16)))) fun v _ => ifB (plainK v) (some (v, h16)) none) fun v23 h23 =>
  loadNK 3 h23 a1 fun v24 =>
  pairK (optK (F15 [v23, v24] h23) fun v => some (v, h23)) fun v25 h25 =>
  storeNK 3 h25 a2 v25 fun h26 =>
  loadNK 3 h26 a2 fun v27 => some (Value.tuple (List.toArray [v27, (Value.int .i64 (Int.ofNat 0))]), h26)))
noncomputable def T6 (S : Sg) : Sg := tabC 0 (uV fun r0 => uV fun r1 => uV fun r2 => uN fun h => P6x0 S r0 r1 r2 h) (tabN)
noncomputable def F6 (args : List Value) (h : Hp) : CRes := packVals [Kd.v, Kd.v, Kd.v] args fun al => rec' T6 1000000 0 al h
def nt6 : Nat := 3 + (33 - 3)
theorem q6x0 (S : Sg) (r0 : Value) (r1 : Value) (r2 : Value) (h : Hp) : P6x0 S r0 r1 r2 h = stepAt (regK env orc42 (nt6)) (finK env Try.f6.results.toList) (collect B6 A6 []) 0 S (AL.v r0 (AL.v r1 (AL.v r2 AL.n))) h := by kernel_rfl
theorem t6 (S : Sg) : Tab (fun l vs h => stepAt (regK env orc42 nt6) (finK env Try.f6.results.toList) (collect B6 A6 []) l S vs h) (T6 S) := by
  unfold T6
  refine Tab.cons 0 (fun vs0 h q e0 => ?_) ?_
  · obtain ⟨r0, vs1, rfl, e1⟩ := uV_some e0
    obtain ⟨r1, vs2, rfl, e2⟩ := uV_some e1
    obtain ⟨r2, vs3, rfl, e3⟩ := uV_some e2
    obtain ⟨rfl, ee⟩ := uN_some e3
    exact (q6x0 S r0 r1 r2 h).symm.trans ee
  exact Tab.nil
theorem r6 : ∀ args h v h', F6 args h = some (v, h') → Runs (C42) (.call 6 args.toArray h) (.ret v h') := by
  intro args h v h' e
  exact fun_sound (C := C42) (fn := Try.f6) (body := B6) (np := 3) (A := A6) (T := T6) (kinds := [Kd.v, Kd.v, Kd.v]) (by kernel_rfl) (by kernel_rfl) (by kernel_rfl) (by kernel_rfl) (regK_ok env_ok) (by kernel_rfl) (fun S => t6 S) e
noncomputable def orc43 := orcQ 6 F6 orc42
noncomputable def C43 : Cfg := cfg orc43
theorem ok43 : C43.Ok := orcQ_ok (C := C42) ok42 r6
noncomputable def B33 : Code := (Try.f33.body).getD .skip
noncomputable def A33 : G.Ann (List KI) := (G.Ann.node (some (0, [KI.reg 0 (Kd.v)])) G.Ann.nil (G.Ann.node none G.Ann.nil G.Ann.nil))
noncomputable def P33x0 (h : Hp) (S : Nat → PAL → Option Value) (r0 : Value) : Option Value :=
  forceL (Array.toList (Value.cells r0)) fun c0 =>
  onI (Int.ofNat 0) (fun n1 => ifB (Nat.ble (Nat.succ n1) 3) (forceN (Nat.add 0 (Nat.mul n1 1)) fun o1 =>
  nthR c0 o1 fun v2 =>
  intK .i64 v2 fun i3 =>
  onI (Int.ofNat 1) (fun n4 => ifB (Nat.ble (Nat.succ n4) 3) (forceN (Nat.add 0 (Nat.mul n4 1)) fun o4 =>
  nthR c0 o4 fun v5 =>
  intK .i64 v5 fun i6 =>
  wrap64 (Int.add i3 i6) fun i7 =>
  onI (Int.ofNat 2) (fun n8 => ifB (Nat.ble (Nat.succ n8) 3) (forceN (Nat.add 0 (Nat.mul n8 1)) fun o8 =>
  nthR c0 o8 fun v9 =>
  intK .i64 v9 fun i10 =>
  wrap64 (Int.add i7 i10) fun i11 =>
  some (Value.int .i64 i11)) none) (fun _ => none)) none) (fun _ => none)) none) (fun _ => none)
noncomputable def T33 (h : Hp) (S : Nat → PAL → Option Value) : Nat → PAL → Option Value := tabPC 0 (wV fun r0 => wN (P33x0 h S r0)) (tabPN)
noncomputable def F33 (args : List Value) (h : Hp) : Option Value := plainO (packArgs [Kd.v] args fun al => G.rec' (T33 h) 1000000 0 al)
def nt33 : Nat := 1 + (11 - 1)
theorem q33x0 (h : Hp) (S : Nat → PAL → Option Value) (r0 : Value) : P33x0 h S r0 = G.stepAt packP unpackP evXV (regP env pf20 nt33 h) (finP env Try.f33.results.toList) (G.collect B33 A33 []) 0 S (PAL.v r0 PAL.n) := by kernel_rfl
theorem t33 (h : Hp) (S : Nat → PAL → Option Value) : TabP (fun l al => G.stepAt packP unpackP evXV (regP env pf20 nt33 h) (finP env Try.f33.results.toList) (G.collect B33 A33 []) l S al) (T33 h S) := by
  unfold T33
  refine TabP.cons 0 (fun vs0 q e0 => ?_) ?_
  · obtain ⟨r0, vs1, rfl, e1⟩ := wV_some e0
    obtain ⟨rfl, ee⟩ := wN_some e1
    exact (q33x0 h S r0).symm.trans ee
  exact TabP.nil
theorem r33 : PSound Try.prog 33 F33 := fun_soundP (C := C0) ok0 (pf := pf20) pfok20 (fn := Try.f33) (body := B33) (kinds := [Kd.v]) (A := A33) (T := T33) (by kernel_rfl) (by kernel_rfl) (by kernel_rfl) (by kernel_rfl) (fun h S => t33 h S)
noncomputable def pf21 : PF := pfC 33 F33 pf20
theorem pfok21 : PfSound Try.prog pf21 := pfC_ok r33 pfok20
noncomputable def orc44 := orcP 33 F33 orc43
noncomputable def C44 : Cfg := cfg orc44
theorem ok44 : C44.Ok := orcP_ok (C := C43) ok43 r33
noncomputable def B32 : Code := (Try.f32.body).getD .skip
def A32 : Ann := (Ann.node (some (0, [(0, Kd.v), (1, Kd.v)])) Ann.nil (Ann.node none (Ann.node none Ann.nil (Ann.node none (Ann.node (some (1, [(2, Kd.v), (9, Kd.v), (10, Kd.i .i64), (11, Kd.i .i64)])) (Ann.node none Ann.nil (Ann.node none (Ann.node none Ann.nil Ann.nil) (Ann.node none (Ann.node none (Ann.node none Ann.nil (Ann.node none Ann.nil (Ann.node none Ann.nil (Ann.node none (Ann.node none Ann.nil Ann.nil) Ann.nil)))) Ann.nil) Ann.nil))) Ann.nil) Ann.nil)) (Ann.node (some (2, [])) Ann.nil Ann.nil)))
noncomputable def P32x2 (S : Sg) (h : Hp) : CRes :=
  some ((Value.bool true), h)
noncomputable def P32x1 (S : Sg) (r2 : Value) (r9 : Value) (r10 : Int) (r11 : Int) (h : Hp) : CRes :=
  boolZ (ltZ r11 r10) fun b0 =>
  ifB b0
  (idxSK 2 r9 r11 fun v1 =>
  loadNK 2 h v1 fun v2 =>
  allocK h 97 [(Value.int .i64 (Int.ofNat 0)), Value.nilFunc] fun a3 h3 =>
  storeNK 2 h3 a3 v2 fun h4 =>
  ptrAddK 1 a3 fun v5 =>
  leftK v5 (Hp.next h4) (Hp.mk (Hp.next h4) (Hp.next h4) T.nil) fun w6 n6 =>
  load1K (Hp.mk n6 n6 (addAll w6 (Hp.objs h4))) v5 fun v7 =>
  leftK v7 n6 (Hp.mk n6 n6 (addAll w6 (Hp.objs h4))) fun w8 n8 =>
  loadNK 3 (Hp.mk n8 n8 (Hp.objs h4)) r2 fun v9 =>
  leftK v9 n8 (Hp.mk n8 n8 (Hp.objs h4)) fun w10 n10 =>
  pairK (optK (F33 [v9] (Hp.mk n10 n10 (addAll w10 (Hp.objs h4)))) fun v => some (v, (Hp.mk n10 n10 (addAll w10 (Hp.objs h4))))) fun v11 h11 =>
  intK .i64 v11 fun i12 =>
  pairK (callF orc44 v7 [(Value.int .i64 i12)] (Hp.mk n10 n10 (addAll w10 (addAll w8 (addAll w6 (Hp.objs h4)))))) fun v13 h13 =>
  leftK v13 n10 h13 fun w14 n14 =>
  allocK (Hp.mk n14 n14 T.nil) 40 [(Value.int .i64 (Int.ofNat 0)), (Value.int .i64 (Int.ofNat 0))] fun a15 h15 =>
  leftK a15 n14 h15 fun w16 n16 =>
  storeNK 2 (Hp.mk n16 (Hp.ro h4) (addAll w16 (addAll w14 (addAll w10 (addAll w8 (addAll w6 (Hp.objs h4))))))) a15 v13 fun h17 =>
  ptrAddK 0 a15 fun v18 =>
  load1K h17 v18 fun v19 =>
  intK .i64 v19 fun i20 =>
  ptrAddK 1 a15 fun v21 =>
  load1K h17 v21 fun v22 =>
  intK .i64 v22 fun i23 =>
  ptrAddK 0 a3 fun v24 =>
  load1K h17 v24 fun v25 =>
  intK .i64 v25 fun i26 =>
  idxAK 3 1 r2 i26 fun v27 =>
  load1K h17 v27 fun v28 =>
  intK .i64 v28 fun i29 =>
  pairK (buildSliceV env h17 53 1 (List.toArray [(0, (Value.int .i64 i29))])) fun v30 h30 =>
  pairK (optK (F29 [(Value.int .i64 i20), (Value.int .i64 i23), v30] h30) fun v => some (v, h30)) fun v31 h31 =>
  boolK v31 fun b32 =>
  boolN b32 fun b33 =>
  ifB b33
  (some ((Value.bool false), h31))
  (wrap64 (Int.add r11 (Int.ofNat 1)) fun i34 =>
  S 1 (AL.v r2 (AL.v r9 (AL.i r10 (AL.i i34 AL.n)))) h31))
  (S 2 AL.n h)
noncomputable def P32x0 (S : Sg) (r0 : Value) (r1 : Value) (h : Hp) : CRes :=
  allocK h 23 (Array.toList (Value.cells r0)) fun a0 h0 =>
  allocK h0 43 (Array.toList (Value.cells r1)) fun a1 h1 =>
  loadNK 6 h1 a1 fun v2 =>
  pairK (callQ F28 [v2] h1) fun v3 h3 =>
  lenSK v3 fun i4 =>
  S 1 (AL.v a0 (AL.v v3 (AL.i i4 (AL.i (Int.ofNat 0) AL.n)))) h3
noncomputable def T32 (S : Sg) : Sg := tabC 0 (uV fun r0 => uV fun r1 => uN fun h => P32x0 S r0 r1 h) (tabC 1 (uV fun r2 => uV fun r9 => uI fun r10 => uI fun r11 => uN fun h => P32x1 S r2 r9 r10 r11 h) (tabC 2 (uN fun h => P32x2 S  h) (tabN)))
noncomputable def F32 (args : List Value) (h : Hp) : CRes := packVals [Kd.v, Kd.v] args fun al => rec' T32 1000000 0 al h
def nt32 : Nat := 2 + (32 - 2)
theorem q32x2 (S : Sg) (h : Hp) : P32x2 S  h = stepAt (regK env orc44 (nt32)) (finK env Try.f32.results.toList) (collect B32 A32 []) 2 S AL.n h := by kernel_rfl
theorem q32x1 (S : Sg) (r2 : Value) (r9 : Value) (r10 : Int) (r11 : Int) (h : Hp) : P32x1 S r2 r9 r10 r11 h = stepAt (regK env orc44 (nt32)) (finK env Try.f32.results.toList) (collect B32 A32 []) 1 S (AL.v r2 (AL.v r9 (AL.i r10 (AL.i r11 AL.n)))) h := by kernel_rfl
theorem q32x0 (S : Sg) (r0 : Value) (r1 : Value) (h : Hp) : P32x0 S r0 r1 h = stepAt (regK env orc44 (nt32)) (finK env Try.f32.results.toList) (collect B32 A32 []) 0 S (AL.v r0 (AL.v r1 AL.n)) h := by kernel_rfl
theorem t32 (S : Sg) : Tab (fun l vs h => stepAt (regK env orc44 nt32) (finK env Try.f32.results.toList) (collect B32 A32 []) l S vs h) (T32 S) := by
  unfold T32
  refine Tab.cons 0 (fun vs0 h q e0 => ?_) ?_
  · obtain ⟨r0, vs1, rfl, e1⟩ := uV_some e0
    obtain ⟨r1, vs2, rfl, e2⟩ := uV_some e1
    obtain ⟨rfl, ee⟩ := uN_some e2
    exact (q32x0 S r0 r1 h).symm.trans ee
  refine Tab.cons 1 (fun vs0 h q e0 => ?_) ?_
  · obtain ⟨r2, vs1, rfl, e1⟩ := uV_some e0
    obtain ⟨r9, vs2, rfl, e2⟩ := uV_some e1
    obtain ⟨r10, vs3, rfl, e3⟩ := uI_some e2
    obtain ⟨r11, vs4, rfl, e4⟩ := uI_some e3
    obtain ⟨rfl, ee⟩ := uN_some e4
    exact (q32x1 S r2 r9 r10 r11 h).symm.trans ee
  refine Tab.cons 2 (fun vs0 h q e0 => ?_) ?_
  · 
    obtain ⟨rfl, ee⟩ := uN_some e0
    exact (q32x2 S  h).symm.trans ee
  exact Tab.nil
theorem r32 : ∀ args h v h', F32 args h = some (v, h') → Runs (C44) (.call 32 args.toArray h) (.ret v h') := by
  intro args h v h' e
  exact fun_sound (C := C44) (fn := Try.f32) (body := B32) (np := 2) (A := A32) (T := T32) (kinds := [Kd.v, Kd.v]) (by kernel_rfl) (by kernel_rfl) (by kernel_rfl) (by kernel_rfl) (regK_ok env_ok) (by kernel_rfl) (fun S => t32 S) e
noncomputable def orc45 := orcQ 32 F32 orc44
noncomputable def C45 : Cfg := cfg orc45
theorem ok45 : C45.Ok := orcQ_ok (C := C44) ok44 r32
noncomputable def B19 : Code := (Try.f19.body).getD .skip
def A19 : Ann := (Ann.node (some (0, [(0, Kd.v), (1, Kd.v), (2, Kd.v)])) Ann.nil (Ann.node none Ann.nil (Ann.node none (Ann.node none Ann.nil (Ann.node none (Ann.node none Ann.nil Ann.nil) Ann.nil)) (Ann.node none Ann.nil (Ann.node none (Ann.node none Ann.nil (Ann.node none (Ann.node (some (1, [(8, Kd.v), (10, Kd.i .i64), (24, Kd.v), (25, Kd.i .i64), (26, Kd.i .i64)])) (Ann.node none Ann.nil (Ann.node none (Ann.node none Ann.nil Ann.nil) (Ann.node none (Ann.node none (Ann.node none Ann.nil (Ann.node none (Ann.node none Ann.nil (Ann.node none (Ann.node none Ann.nil Ann.nil) Ann.nil)) Ann.nil)) Ann.nil) Ann.nil))) Ann.nil) Ann.nil)) (Ann.node (some (2, [(8, Kd.v), (10, Kd.i .i64)])) (Ann.node none Ann.nil (Ann.node none (Ann.node none Ann.nil Ann.nil) Ann.nil)) (Ann.node none Ann.nil Ann.nil)))))))
noncomputable def P19x2 (S : Sg) (r8 : Value) (r10 : Int) (h : Hp) : CRes :=
  loadNK 3 h r8 fun v0 =>
  pairK (optK (F33 [v0] h) fun v => some (v, h)) fun v1 h1 =>
  intK .i64 v1 fun i2 =>
  boolZ (ltZ i2 r10) fun b3 =>
  ifB b3
  (some (Value.tuple (List.toArray [(Value.int .i64 (Int.ofNat 0)), (Value.int .i64 (Int.ofNat 9))]), h1))
  (some (Value.tuple (List.toArray [(Value.int .i64 (Int.ofNat 0)), (Value.int .i64 (Int.ofNat 4))]), h1))
noncomputable def P19x1 (S : Sg) (r8 : Value) (r10 : Int) (r24 : Value) (r25 : Int) (r26 : Int) (h : Hp) : CRes :=
  boolZ (ltZ r26 r25) fun b0 =>
  ifB b0
  (idxSK 6 r24 r26 fun v1 =>
  loadNK 6 h v1 fun v2 =>
  allocK h 43 [(Value.string (ByteArray.mk #[])), (Value.int .i64 (Int.ofNat 0)), (Value.int .i64 (Int.ofNat 0)), (Value.int .i64 (Int.ofNat 0)), (Value.int .i64 (Int.ofNat 0)), (Value.int .i64 (Int.ofNat 0))] fun a3 h3 =>
  storeNK 6 h3 a3 v2 fun h4 =>
  loadNK 3 h4 r8 fun v5 =>
  loadNK 6 h4 a3 fun v6 =>
  pairK (callQ F32 [v5, v6] h4) fun v7 h7 =>
  boolK v7 fun b8 =>
  boolN b8 fun b9 =>
  ifB b9
  (some (Value.tuple (List.toArray [(Value.int .i64 r26), (Value.int .i64 (Int.ofNat 0))]), h7))
  (ptrAddK 1 a3 fun v10 =>
  load1K h7 v10 fun v11 =>
  intK .i64 v11 fun i12 =>
  wrap64 (Int.add r10 i12) fun i13 =>
  wrap64 (Int.add r26 (Int.ofNat 1)) fun i14 =>
  S 1 (AL.v r8 (AL.i i13 (AL.v r24 (AL.i r25 (AL.i i14 AL.n))))) h7))
  (S 2 (AL.v r8 (AL.i r10 AL.n)) h)
noncomputable def P19x0 (S : Sg) (r0 : Value) (r1 : Value) (r2 : Value) (h : Hp) : CRes :=
  allocK h 27 (Array.toList (Value.cells r0)) fun a0 h0 =>
  allocK h0 23 (Array.toList (Value.cells r2)) fun a1 h1 =>
  loadNK 6 h1 a0 fun v2 =>
  loadNK 3 h1 a1 fun v3 =>
  pairK (callQ F6 [v2, r1, v3] h1) fun v4 h4 =>
  extK v4 0 fun v5 =>
  extK v4 1 fun v6 =>
  intK .i64 v6 fun i7 =>
  allocK h4 23 [(Value.int .i64 (Int.ofNat 0)), (Value.int .i64 (Int.ofNat 0)), (Value.int .i64 (Int.ofNat 0))] fun a8 h8 =>
  storeNK 3 h8 a8 v5 fun h9 =>
  boolN (eqZ i7 (Int.ofNat 0)) fun b10 =>
  ifB b10
  (some (Value.tuple (List.toArray [(Value.int .i64 (Int.ofNat 0)), (Value.int .i64 i7)]), h9))
  (ptrAddK 5 a0 fun v11 =>
  load1K h9 v11 fun v12 =>
  lenSK v12 fun i13 =>
  S 1 (AL.v a8 (AL.i (Int.ofNat 0) (AL.v v12 (AL.i i13 (AL.i (Int.ofNat 0) AL.n))))) h9)
noncomputable def T19 (S : Sg) : Sg := tabC 0 (uV fun r0 => uV fun r1 => uV fun r2 => uN fun h => P19x0 S r0 r1 r2 h) (tabC 1 (uV fun r8 => uI fun r10 => uV fun r24 => uI fun r25 => uI fun r26 => uN fun h => P19x1 S r8 r10 r24 r25 r26 h) (tabC 2 (uV fun r8 => uI fun r10 => uN fun h => P19x2 S r8 r10 h) (tabN)))
noncomputable def F19 (args : List Value) (h : Hp) : CRes := packVals [Kd.v, Kd.v, Kd.v] args fun al => rec' T19 1000000 0 al h
def nt19 : Nat := 3 + (45 - 3)
theorem q19x2 (S : Sg) (r8 : Value) (r10 : Int) (h : Hp) : P19x2 S r8 r10 h = stepAt (regK env orc45 (nt19)) (finK env Try.f19.results.toList) (collect B19 A19 []) 2 S (AL.v r8 (AL.i r10 AL.n)) h := by kernel_rfl
theorem q19x1 (S : Sg) (r8 : Value) (r10 : Int) (r24 : Value) (r25 : Int) (r26 : Int) (h : Hp) : P19x1 S r8 r10 r24 r25 r26 h = stepAt (regK env orc45 (nt19)) (finK env Try.f19.results.toList) (collect B19 A19 []) 1 S (AL.v r8 (AL.i r10 (AL.v r24 (AL.i r25 (AL.i r26 AL.n))))) h := by kernel_rfl
theorem q19x0 (S : Sg) (r0 : Value) (r1 : Value) (r2 : Value) (h : Hp) : P19x0 S r0 r1 r2 h = stepAt (regK env orc45 (nt19)) (finK env Try.f19.results.toList) (collect B19 A19 []) 0 S (AL.v r0 (AL.v r1 (AL.v r2 AL.n))) h := by kernel_rfl
theorem t19 (S : Sg) : Tab (fun l vs h => stepAt (regK env orc45 nt19) (finK env Try.f19.results.toList) (collect B19 A19 []) l S vs h) (T19 S) := by
  unfold T19
  refine Tab.cons 0 (fun vs0 h q e0 => ?_) ?_
  · obtain ⟨r0, vs1, rfl, e1⟩ := uV_some e0
    obtain ⟨r1, vs2, rfl, e2⟩ := uV_some e1
    obtain ⟨r2, vs3, rfl, e3⟩ := uV_some e2
    obtain ⟨rfl, ee⟩ := uN_some e3
    exact (q19x0 S r0 r1 r2 h).symm.trans ee
  refine Tab.cons 1 (fun vs0 h q e0 => ?_) ?_
  · obtain ⟨r8, vs1, rfl, e1⟩ := uV_some e0
    obtain ⟨r10, vs2, rfl, e2⟩ := uI_some e1
    obtain ⟨r24, vs3, rfl, e3⟩ := uV_some e2
    obtain ⟨r25, vs4, rfl, e4⟩ := uI_some e3
    obtain ⟨r26, vs5, rfl, e5⟩ := uI_some e4
    obtain ⟨rfl, ee⟩ := uN_some e5
    exact (q19x1 S r8 r10 r24 r25 r26 h).symm.trans ee
  refine Tab.cons 2 (fun vs0 h q e0 => ?_) ?_
  · obtain ⟨r8, vs1, rfl, e1⟩ := uV_some e0
    obtain ⟨r10, vs2, rfl, e2⟩ := uI_some e1
    obtain ⟨rfl, ee⟩ := uN_some e2
    exact (q19x2 S r8 r10 h).symm.trans ee
  exact Tab.nil
theorem r19 : ∀ args h v h', F19 args h = some (v, h') → Runs (C45) (.call 19 args.toArray h) (.ret v h') := by
  intro args h v h' e
  exact fun_sound (C := C45) (fn := Try.f19) (body := B19) (np := 3) (A := A19) (T := T19) (kinds := [Kd.v, Kd.v, Kd.v]) (by kernel_rfl) (by kernel_rfl) (by kernel_rfl) (by kernel_rfl) (regK_ok env_ok) (by kernel_rfl) (fun S => t19 S) e
noncomputable def orc46 := orcQ 19 F19 orc45
noncomputable def C46 : Cfg := cfg orc46
theorem ok46 : C46.Ok := orcQ_ok (C := C45) ok45 r19
noncomputable def B64 : Code := (Try.f64.body).getD .skip
noncomputable def A64 : G.Ann (List KI) := (G.Ann.node (some (0, [KI.reg 0 (Kd.v), KI.reg 1 (Kd.v), KI.reg 2 (Kd.i .i64)])) G.Ann.nil (G.Ann.node none G.Ann.nil (G.Ann.node none G.Ann.nil (G.Ann.node none (G.Ann.node none G.Ann.nil (G.Ann.node none (G.Ann.node (some (1, [KI.reg 2 (Kd.i .i64), KI.loc 3 3, KI.loc 4 4, KI.loc 6 6, KI.loc 7 7, KI.reg 8 (Kd.i .i64), KI.reg 12 (Kd.i .i64), KI.cells 3 [Kd.i .i64, Kd.i .i64, Kd.i .i64], KI.cells 4 [Kd.i .i64, Kd.i .i64, Kd.i .i64], KI.cells 6 [Kd.i .i64, Kd.i .i64, Kd.i .i64], KI.cells 7 [Kd.i .i64, Kd.i .i64, Kd.i .i64]])) (G.Ann.node none G.Ann.nil (G.Ann.node none (G.Ann.node none G.Ann.nil G.Ann.nil) (G.Ann.node none (G.Ann.node none (G.Ann.node none G.Ann.nil (G.Ann.node none G.Ann.nil (G.Ann.node none G.Ann.nil G.Ann.nil))) G.Ann.nil) G.Ann.nil))) G.Ann.nil) G.Ann.nil)) (G.Ann.node (some (2, [KI.loc 6 6, KI.loc 7 7, KI.cells 6 [Kd.i .i64, Kd.i .i64, Kd.i .i64], KI.cells 7 [Kd.i .i64, Kd.i .i64, Kd.i .i64]])) G.Ann.nil G.Ann.nil)))))
noncomputable def P64x2 (h : Hp) (S : Nat → PAL → Option Value) (c6x0 : Int) (c6x1 : Int) (c6x2 : Int) (c7x0 : Int) (c7x1 : Int) (c7x2 : Int) : Option Value :=
  aggK (Value.agg (Array.mk [(Value.int .i64 c7x0), (Value.int .i64 c7x1), (Value.int .i64 c7x2)])) fun l0 => ifB (Nat.beq (lenR l0) 3) (segR 0 l0 [(Value.int .i64 c6x0), (Value.int .i64 c6x1), (Value.int .i64 c6x2)] fun c0 =>
  dropR c0 0 fun d1 => takeR d1 3 fun l1 => some (Value.agg (Array.mk l1))) none
noncomputable def P64x1 (h : Hp) (S : Nat → PAL → Option Value) (r2 : Int) (r8 : Int) (r12 : Int) (c3x0 : Int) (c3x1 : Int) (c3x2 : Int) (c4x0 : Int) (c4x1 : Int) (c4x2 : Int) (c6x0 : Int) (c6x1 : Int) (c6x2 : Int) (c7x0 : Int) (c7x1 : Int) (c7x2 : Int) : Option Value :=
  boolZ (ltZ r12 (Int.ofNat 3)) fun b0 =>
  ifB b0
  (onI r12 (fun n1 => ifB (Nat.ble (Nat.succ n1) 3) (forceN (Nat.add 0 (Nat.mul n1 1)) fun o1 =>
  nthR [(Value.int .i64 c4x0), (Value.int .i64 c4x1), (Value.int .i64 c4x2)] o1 fun v2 =>
  intK .i64 v2 fun i3 =>
  wrap64 (Int.sub r8 i3) fun i4 =>
  onI r12 (fun n5 => ifB (Nat.ble (Nat.succ n5) 3) (forceN (Nat.add 0 (Nat.mul n5 1)) fun o5 =>
  nthR [(Value.int .i64 c3x0), (Value.int .i64 c3x1), (Value.int .i64 c3x2)] o5 fun v6 =>
  intK .i64 v6 fun i7 =>
  wrap64 (Int.sub r2 i4) fun i8 =>
  maxZ i7 i8 fun i9 =>
  onI r12 (fun n10 => ifB (Nat.ble (Nat.succ n10) 3) (forceN (Nat.add 0 (Nat.mul n10 1)) fun o10 =>
  setNthR [(Value.int .i64 c7x0), (Value.int .i64 c7x1), (Value.int .i64 c7x2)] o10 (Value.int .i64 i9) fun c11 =>
  onI r12 (fun n12 => ifB (Nat.ble (Nat.succ n12) 3) (forceN (Nat.add 0 (Nat.mul n12 1)) fun o12 =>
  nthR c11 o12 fun v13 =>
  intK .i64 v13 fun i14 =>
  wrap64 (Int.sub r2 i14) fun i15 =>
  wrap64 (Int.add r12 (Int.ofNat 1)) fun i16 =>
  unconsK c11 fun a17 c17 =>
  intK .i64 a17 fun i18 =>
  unconsK c17 fun a19 c19 =>
  intK .i64 a19 fun i20 =>
  unconsK c19 fun a21 c21 =>
  intK .i64 a21 fun i22 =>
  nilK c21 (S 1 (PAL.i i15 (PAL.i i4 (PAL.i i16 (PAL.i c3x0 (PAL.i c3x1 (PAL.i c3x2 (PAL.i c4x0 (PAL.i c4x1 (PAL.i c4x2 (PAL.i c6x0 (PAL.i c6x1 (PAL.i c6x2 (PAL.i i18 (PAL.i i20 (PAL.i i22 PAL.n))))))))))))))))) none) (fun _ => none)) none) (fun _ => none)) none) (fun _ => none)) none) (fun _ => none))
  (S 2 (PAL.i c6x0 (PAL.i c6x1 (PAL.i c6x2 (PAL.i c7x0 (PAL.i c7x1 (PAL.i c7x2 PAL.n)))))))
noncomputable def P64x0 (h : Hp) (S : Nat → PAL → Option Value) (r0 : Value) (r1 : Value) (r2 : Int) : Option Value :=
  forceL (Array.toList (Value.cells r0)) fun c0 =>
  forceL (Array.toList (Value.cells r1)) fun c1 =>
  dropR c1 0 fun d2 => takeR d2 3 fun l2 =>
  optK (F33 [(Value.agg (Array.mk l2))] h) fun v3 =>
  intK .i64 v3 fun i4 =>
  unconsK c0 fun a5 c5 =>
  intK .i64 a5 fun i6 =>
  unconsK c5 fun a7 c7 =>
  intK .i64 a7 fun i8 =>
  unconsK c7 fun a9 c9 =>
  intK .i64 a9 fun i10 =>
  nilK c9 (unconsK c1 fun a11 c11 =>
  intK .i64 a11 fun i12 =>
  unconsK c11 fun a13 c13 =>
  intK .i64 a13 fun i14 =>
  unconsK c13 fun a15 c15 =>
  intK .i64 a15 fun i16 =>
  nilK c15 (S 1 (PAL.i r2 (PAL.i i4 (PAL.i (Int.ofNat 0) (PAL.i i6 (PAL.i i8 (PAL.i i10 (PAL.i i12 (PAL.i i14 (PAL.i i16 (PAL.i (Int.ofNat 0) (PAL.i (Int.ofNat 0) (PAL.i (Int.ofNat 0) (PAL.i (Int.ofNat 0) (PAL.i (Int.ofNat 0) (PAL.i (Int.ofNat 0) PAL.n)))))))))))))))))
noncomputable def T64 (h : Hp) (S : Nat → PAL → Option Value) : Nat → PAL → Option Value := tabPC 0 (wV fun r0 => wV fun r1 => wI fun r2 => wN (P64x0 h S r0 r1 r2)) (tabPC 1 (wI fun r2 => wI fun r8 => wI fun r12 => wI fun c3x0 => wI fun c3x1 => wI fun c3x2 => wI fun c4x0 => wI fun c4x1 => wI fun c4x2 => wI fun c6x0 => wI fun c6x1 => wI fun c6x2 => wI fun c7x0 => wI fun c7x1 => wI fun c7x2 => wN (P64x1 h S r2 r8 r12 c3x0 c3x1 c3x2 c4x0 c4x1 c4x2 c6x0 c6x1 c6x2 c7x0 c7x1 c7x2)) (tabPC 2 (wI fun c6x0 => wI fun c6x1 => wI fun c6x2 => wI fun c7x0 => wI fun c7x1 => wI fun c7x2 => wN (P64x2 h S c6x0 c6x1 c6x2 c7x0 c7x1 c7x2)) (tabPN)))
noncomputable def F64 (args : List Value) (h : Hp) : Option Value := plainO (packArgs [Kd.v, Kd.v, Kd.i .i64] args fun al => G.rec' (T64 h) 1000000 0 al)
def nt64 : Nat := 3 + (36 - 3)
theorem q64x2 (h : Hp) (S : Nat → PAL → Option Value) (c6x0 : Int) (c6x1 : Int) (c6x2 : Int) (c7x0 : Int) (c7x1 : Int) (c7x2 : Int) : P64x2 h S c6x0 c6x1 c6x2 c7x0 c7x1 c7x2 = G.stepAt packP unpackP evXV (regP env pf21 nt64 h) (finP env Try.f64.results.toList) (G.collect B64 A64 []) 2 S (PAL.i c6x0 (PAL.i c6x1 (PAL.i c6x2 (PAL.i c7x0 (PAL.i c7x1 (PAL.i c7x2 PAL.n)))))) := by kernel_rfl
theorem q64x1 (h : Hp) (S : Nat → PAL → Option Value) (r2 : Int) (r8 : Int) (r12 : Int) (c3x0 : Int) (c3x1 : Int) (c3x2 : Int) (c4x0 : Int) (c4x1 : Int) (c4x2 : Int) (c6x0 : Int) (c6x1 : Int) (c6x2 : Int) (c7x0 : Int) (c7x1 : Int) (c7x2 : Int) : P64x1 h S r2 r8 r12 c3x0 c3x1 c3x2 c4x0 c4x1 c4x2 c6x0 c6x1 c6x2 c7x0 c7x1 c7x2 = G.stepAt packP unpackP evXV (regP env pf21 nt64 h) (finP env Try.f64.results.toList) (G.collect B64 A64 []) 1 S (PAL.i r2 (PAL.i r8 (PAL.i r12 (PAL.i c3x0 (PAL.i c3x1 (PAL.i c3x2 (PAL.i c4x0 (PAL.i c4x1 (PAL.i c4x2 (PAL.i c6x0 (PAL.i c6x1 (PAL.i c6x2 (PAL.i c7x0 (PAL.i c7x1 (PAL.i c7x2 PAL.n))))))))))))))) := by kernel_rfl
theorem q64x0 (h : Hp) (S : Nat → PAL → Option Value) (r0 : Value) (r1 : Value) (r2 : Int) : P64x0 h S r0 r1 r2 = G.stepAt packP unpackP evXV (regP env pf21 nt64 h) (finP env Try.f64.results.toList) (G.collect B64 A64 []) 0 S (PAL.v r0 (PAL.v r1 (PAL.i r2 PAL.n))) := by kernel_rfl
theorem t64 (h : Hp) (S : Nat → PAL → Option Value) : TabP (fun l al => G.stepAt packP unpackP evXV (regP env pf21 nt64 h) (finP env Try.f64.results.toList) (G.collect B64 A64 []) l S al) (T64 h S) := by
  unfold T64
  refine TabP.cons 0 (fun vs0 q e0 => ?_) ?_
  · obtain ⟨r0, vs1, rfl, e1⟩ := wV_some e0
    obtain ⟨r1, vs2, rfl, e2⟩ := wV_some e1
    obtain ⟨r2, vs3, rfl, e3⟩ := wI_some e2
    obtain ⟨rfl, ee⟩ := wN_some e3
    exact (q64x0 h S r0 r1 r2).symm.trans ee
  refine TabP.cons 1 (fun vs0 q e0 => ?_) ?_
  · obtain ⟨r2, vs1, rfl, e1⟩ := wI_some e0
    obtain ⟨r8, vs2, rfl, e2⟩ := wI_some e1
    obtain ⟨r12, vs3, rfl, e3⟩ := wI_some e2
    obtain ⟨c3x0, vs4, rfl, e4⟩ := wI_some e3
    obtain ⟨c3x1, vs5, rfl, e5⟩ := wI_some e4
    obtain ⟨c3x2, vs6, rfl, e6⟩ := wI_some e5
    obtain ⟨c4x0, vs7, rfl, e7⟩ := wI_some e6
    obtain ⟨c4x1, vs8, rfl, e8⟩ := wI_some e7
    obtain ⟨c4x2, vs9, rfl, e9⟩ := wI_some e8
    obtain ⟨c6x0, vs10, rfl, e10⟩ := wI_some e9
    obtain ⟨c6x1, vs11, rfl, e11⟩ := wI_some e10
    obtain ⟨c6x2, vs12, rfl, e12⟩ := wI_some e11
    obtain ⟨c7x0, vs13, rfl, e13⟩ := wI_some e12
    obtain ⟨c7x1, vs14, rfl, e14⟩ := wI_some e13
    obtain ⟨c7x2, vs15, rfl, e15⟩ := wI_some e14
    obtain ⟨rfl, ee⟩ := wN_some e15
    exact (q64x1 h S r2 r8 r12 c3x0 c3x1 c3x2 c4x0 c4x1 c4x2 c6x0 c6x1 c6x2 c7x0 c7x1 c7x2).symm.trans ee
  refine TabP.cons 2 (fun vs0 q e0 => ?_) ?_
  · obtain ⟨c6x0, vs1, rfl, e1⟩ := wI_some e0
    obtain ⟨c6x1, vs2, rfl, e2⟩ := wI_some e1
    obtain ⟨c6x2, vs3, rfl, e3⟩ := wI_some e2
    obtain ⟨c7x0, vs4, rfl, e4⟩ := wI_some e3
    obtain ⟨c7x1, vs5, rfl, e5⟩ := wI_some e4
    obtain ⟨c7x2, vs6, rfl, e6⟩ := wI_some e5
    obtain ⟨rfl, ee⟩ := wN_some e6
    exact (q64x2 h S c6x0 c6x1 c6x2 c7x0 c7x1 c7x2).symm.trans ee
  exact TabP.nil
theorem r64 : PSound Try.prog 64 F64 := fun_soundP (C := C0) ok0 (pf := pf21) pfok21 (fn := Try.f64) (body := B64) (kinds := [Kd.v, Kd.v, Kd.i .i64]) (A := A64) (T := T64) (by kernel_rfl) (by kernel_rfl) (by kernel_rfl) (by kernel_rfl) (fun h S => t64 h S)
noncomputable def pf22 : PF := pfC 64 F64 pf21
theorem pfok22 : PfSound Try.prog pf22 := pfC_ok r64 pfok21
noncomputable def orc47 := orcP 64 F64 orc46
noncomputable def C47 : Cfg := cfg orc47
theorem ok47 : C47.Ok := orcP_ok (C := C46) ok46 r64
noncomputable def B63 : Code := (Try.f63.body).getD .skip
noncomputable def A63 : G.Ann (List KI) := (G.Ann.node (some (0, [KI.reg 0 (Kd.v), KI.reg 1 (Kd.v)])) G.Ann.nil (G.Ann.node none (G.Ann.node none G.Ann.nil (G.Ann.node none (G.Ann.node (some (1, [KI.loc 2 2, KI.loc 4 4, KI.reg 7 (Kd.v), KI.reg 8 (Kd.i .i64), KI.cells 2 [Kd.i .i64, Kd.i .i64, Kd.i .i64], KI.cells 4 [Kd.i .i64, Kd.i .i64, Kd.i .i64]])) (G.Ann.node none G.Ann.nil (G.Ann.node none (G.Ann.node none G.Ann.nil G.Ann.nil) (G.Ann.node none (G.Ann.node none (G.Ann.node none G.Ann.nil G.Ann.nil) G.Ann.nil) G.Ann.nil))) G.Ann.nil) G.Ann.nil)) (G.Ann.node (some (2, [KI.loc 2 2, KI.loc 4 4, KI.cells 2 [Kd.i .i64, Kd.i .i64, Kd.i .i64], KI.cells 4 [Kd.i .i64, Kd.i .i64, Kd.i .i64]])) G.Ann.nil G.Ann.nil)))
noncomputable def P63x2 (h : Hp) (S : Nat → PAL → Option Value) (c2x0 : Int) (c2x1 : Int) (c2x2 : Int) (c4x0 : Int) (c4x1 : Int) (c4x2 : Int) : Option Value :=
  aggK (Value.agg (Array.mk [(Value.int .i64 c2x0), (Value.int .i64 c2x1), (Value.int .i64 c2x2)])) fun l0 => ifB (Nat.beq (lenR l0) 3) (segR 0 l0 [(Value.int .i64 c4x0), (Value.int .i64 c4x1), (Value.int .i64 c4x2)] fun c0 =>
  dropR c0 0 fun d1 => takeR d1 3 fun l1 => some (Value.agg (Array.mk l1))) none
noncomputable def P63x1 (h : Hp) (S : Nat → PAL → Option Value) (r7 : Value) (r8 : Int) (c2x0 : Int) (c2x1 : Int) (c2x2 : Int) (c4x0 : Int) (c4x1 : Int) (c4x2 : Int) : Option Value :=
  boolZ (ltZ r8 (Int.ofNat 3)) fun b0 =>
  ifB b0
  (optK (indexV env 23 r7 (Value.int .i64 r8)) fun v1 =>
  intK .i64 v1 fun i2 =>
  onI r8 (fun n3 => ifB (Nat.ble (Nat.succ n3) 3) (forceN (Nat.add 0 (Nat.mul n3 1)) fun o3 =>
  nthR [(Value.int .i64 c2x0), (Value.int .i64 c2x1), (Value.int .i64 c2x2)] o3 fun v4 =>
  intK .i64 v4 fun i5 =>
  wrap64 (Int.sub i5 i2) fun i6 =>
  onI r8 (fun n7 => ifB (Nat.ble (Nat.succ n7) 3) (forceN (Nat.add 0 (Nat.mul n7 1)) fun o7 =>
  setNthR [(Value.int .i64 c2x0), (Value.int .i64 c2x1), (Value.int .i64 c2x2)] o7 (Value.int .i64 i6) fun c8 =>
  wrap64 (Int.add r8 (Int.ofNat 1)) fun i9 =>
  unconsK c8 fun a10 c10 =>
  intK .i64 a10 fun i11 =>
  unconsK c10 fun a12 c12 =>
  intK .i64 a12 fun i13 =>
  unconsK c12 fun a14 c14 =>
  intK .i64 a14 fun i15 =>
  nilK c14 (S 1 (PAL.v r7 (PAL.i i9 (PAL.i i11 (PAL.i i13 (PAL.i i15 (PAL.i c4x0 (PAL.i c4x1 (PAL.i c4x2 PAL.n)))))))))) none) (fun _ => none)) none) (fun _ => none))
  (S 2 (PAL.i c2x0 (PAL.i c2x1 (PAL.i c2x2 (PAL.i c4x0 (PAL.i c4x1 (PAL.i c4x2 PAL.n)))))))
noncomputable def P63x0 (h : Hp) (S : Nat → PAL → Option Value) (r0 : Value) (r1 : Value) : Option Value :=
  forceL (Array.toList (Value.cells r0)) fun c0 =>
  forceL (Array.toList (Value.cells r1)) fun c1 =>
  dropR c1 0 fun d2 => takeR d2 3 fun l2 =>
  unconsK c0 fun a3 c3 =>
  intK .i64 a3 fun i4 =>
  unconsK c3 fun a5 c5 =>
  intK .i64 a5 fun i6 =>
  unconsK c5 fun a7 c7 =>
  intK .i64 a7 fun i8 =>
  nilK c7 (S 1 (PAL.v (Value.agg (Array.mk l2)) (PAL.i (Int.ofNat 0) (PAL.i i4 (PAL.i i6 (PAL.i i8 (PAL.i (Int.ofNat 0) (PAL.i (Int.ofNat 0) (PAL.i (Int.ofNat 0) PAL.n)))))))))
noncomputable def T63 (h : Hp) (S : Nat → PAL → Option Value) : Nat → PAL → Option Value := tabPC 0 (wV fun r0 => wV fun r1 => wN (P63x0 h S r0 r1)) (tabPC 1 (wV fun r7 => wI fun r8 => wI fun c2x0 => wI fun c2x1 => wI fun c2x2 => wI fun c4x0 => wI fun c4x1 => wI fun c4x2 => wN (P63x1 h S r7 r8 c2x0 c2x1 c2x2 c4x0 c4x1 c4x2)) (tabPC 2 (wI fun c2x0 => wI fun c2x1 => wI fun c2x2 => wI fun c4x0 => wI fun c4x1 => wI fun c4x2 => wN (P63x2 h S c2x0 c2x1 c2x2 c4x0 c4x1 c4x2)) (tabPN)))
noncomputable def F63 (args : List Value) (h : Hp) : Option Value := plainO (packArgs [Kd.v, Kd.v] args fun al => G.rec' (T63 h) 1000000 0 al)
def nt63 : Nat := 2 + (20 - 2)
theorem q63x2 (h : Hp) (S : Nat → PAL → Option Value) (c2x0 : Int) (c2x1 : Int) (c2x2 : Int) (c4x0 : Int) (c4x1 : Int) (c4x2 : Int) : P63x2 h S c2x0 c2x1 c2x2 c4x0 c4x1 c4x2 = G.stepAt packP unpackP evXV (regP env pf22 nt63 h) (finP env Try.f63.results.toList) (G.collect B63 A63 []) 2 S (PAL.i c2x0 (PAL.i c2x1 (PAL.i c2x2 (PAL.i c4x0 (PAL.i c4x1 (PAL.i c4x2 PAL.n)))))) := by kernel_rfl
theorem q63x1 (h : Hp) (S : Nat → PAL → Option Value) (r7 : Value) (r8 : Int) (c2x0 : Int) (c2x1 : Int) (c2x2 : Int) (c4x0 : Int) (c4x1 : Int) (c4x2 : Int) : P63x1 h S r7 r8 c2x0 c2x1 c2x2 c4x0 c4x1 c4x2 = G.stepAt packP unpackP evXV (regP env pf22 nt63 h) (finP env Try.f63.results.toList) (G.collect B63 A63 []) 1 S (PAL.v r7 (PAL.i r8 (PAL.i c2x0 (PAL.i c2x1 (PAL.i c2x2 (PAL.i c4x0 (PAL.i c4x1 (PAL.i c4x2 PAL.n)))))))) := by kernel_rfl
theorem q63x0 (h : Hp) (S : Nat → PAL → Option Value) (r0 : Value) (r1 : Value) : P63x0 h S r0 r1 = G.stepAt packP unpackP evXV (regP env pf22 nt63 h) (finP env Try.f63.results.toList) (G.collect B63 A63 []) 0 S (PAL.v r0 (PAL.v r1 PAL.n)) := by kernel_rfl
theorem t63 (h : Hp) (S : Nat → PAL → Option Value) : TabP (fun l al => G.stepAt packP unpackP evXV (regP env pf22 nt63 h) (finP env Try.f63.results.toList) (G.collect B63 A63 []) l S al) (T63 h S) := by
  unfold T63
  refine TabP.cons 0 (fun vs0 q e0 => ?_) ?_
  · obtain ⟨r0, vs1, rfl, e1⟩ := wV_some e0
    obtain ⟨r1, vs2, rfl, e2⟩ := wV_some e1
    obtain ⟨rfl, ee⟩ := wN_some e2
    exact (q63x0 h S r0 r1).symm.trans ee
  refine TabP.cons 1 (fun vs0 q e0 => ?_) ?_
  · obtain ⟨r7, vs1, rfl, e1⟩ := wV_some e0
    obtain ⟨r8, vs2, rfl, e2⟩ := wI_some e1
    obtain ⟨c2x0, vs3, rfl, e3⟩ := wI_some e2
    obtain ⟨c2x1, vs4, rfl, e4⟩ := wI_some e3
    obtain ⟨c2x2, vs5, rfl, e5⟩ := wI_some e4
    obtain ⟨c4x0, vs6, rfl, e6⟩ := wI_some e5
    obtain ⟨c4x1, vs7, rfl, e7⟩ := wI_some e6
    obtain ⟨c4x2, vs8, rfl, e8⟩ := wI_some e7
    obtain ⟨rfl, ee⟩ := wN_some e8
    exact (q63x1 h S r7 r8 c2x0 c2x1 c2x2 c4x0 c4x1 c4x2).symm.trans ee
  refine TabP.cons 2 (fun vs0 q e0 => ?_) ?_
  · obtain ⟨c2x0, vs1, rfl, e1⟩ := wI_some e0
    obtain ⟨c2x1, vs2, rfl, e2⟩ := wI_some e1
    obtain ⟨c2x2, vs3, rfl, e3⟩ := wI_some e2
    obtain ⟨c4x0, vs4, rfl, e4⟩ := wI_some e3
    obtain ⟨c4x1, vs5, rfl, e5⟩ := wI_some e4
    obtain ⟨c4x2, vs6, rfl, e6⟩ := wI_some e5
    obtain ⟨rfl, ee⟩ := wN_some e6
    exact (q63x2 h S c2x0 c2x1 c2x2 c4x0 c4x1 c4x2).symm.trans ee
  exact TabP.nil
theorem r63 : PSound Try.prog 63 F63 := fun_soundP (C := C0) ok0 (pf := pf22) pfok22 (fn := Try.f63) (body := B63) (kinds := [Kd.v, Kd.v]) (A := A63) (T := T63) (by kernel_rfl) (by kernel_rfl) (by kernel_rfl) (by kernel_rfl) (fun h S => t63 h S)
noncomputable def pf23 : PF := pfC 63 F63 pf22
theorem pfok23 : PfSound Try.prog pf23 := pfC_ok r63 pfok22
noncomputable def orc48 := orcP 63 F63 orc47
noncomputable def C48 : Cfg := cfg orc48
theorem ok48 : C48.Ok := orcP_ok (C := C47) ok47 r63
noncomputable def B50 : Code := (Try.f50.body).getD .skip
def A50 : Ann := (Ann.node (some (0, [(0, Kd.v), (1, Kd.v)])) Ann.nil (Ann.node none (Ann.node none Ann.nil (Ann.node none Ann.nil (Ann.node none (Ann.node none Ann.nil (Ann.node none (Ann.node (some (1, [(2, Kd.v), (3, Kd.v), (4, Kd.v), (5, Kd.v), (6, Kd.i .i64)])) (Ann.node none (Ann.node none Ann.nil (Ann.node none Ann.nil Ann.nil)) (Ann.node none (Ann.node none (Ann.node none Ann.nil (Ann.node none (Ann.node none Ann.nil (Ann.node none (Ann.node (some (2, [(2, Kd.v), (3, Kd.v), (4, Kd.v), (5, Kd.v), (6, Kd.i .i64), (7, Kd.v), (8, Kd.v), (31, Kd.v), (32, Kd.i .i64), (33, Kd.i .i64)])) (Ann.node none Ann.nil (Ann.node none (Ann.node none Ann.nil Ann.nil) (Ann.node none (Ann.node none (Ann.node none Ann.nil (Ann.node none Ann.nil (Ann.node none Ann.nil (Ann.node none Ann.nil (Ann.node none Ann.nil (Ann.node none Ann.nil Ann.nil)))))) Ann.nil) Ann.nil))) Ann.nil) Ann.nil)) (Ann.node (some (3, [(2, Kd.v), (3, Kd.v), (4, Kd.v), (5, Kd.v), (6, Kd.i .i64), (7, Kd.v), (8, Kd.v)])) Ann.nil (Ann.node none (Ann.node none Ann.nil Ann.nil) Ann.nil)))) Ann.nil) (Ann.node (some (4, [(2, Kd.v), (3, Kd.v), (4, Kd.v), (5, Kd.v), (6, Kd.i .i64)])) Ann.nil Ann.nil))) Ann.nil) Ann.nil)) (Ann.node (some (5, [(4, Kd.v)])) Ann.nil Ann.nil)))) Ann.nil))
noncomputable def P50x5 (S : Sg) (r4 : Value) (h : Hp) : CRes :=
  optK (buildV env 75 (List.toArray [])) fun v0 =>
  storeNK 4 h r4 v0 fun h1 =>
  loadNK 4 h1 r4 fun v2 => some (v2, h1)
noncomputable def P50x4 (S : Sg) (r2 : Value) (r3 : Value) (r4 : Value) (r5 : Value) (r6 : Int) (h : Hp) : CRes :=
  wrap64 (Int.add r6 (Int.ofNat 1)) fun i0 =>
  S 1 (AL.v r2 (AL.v r3 (AL.v r4 (AL.v r5 (AL.i i0 AL.n))))) h
noncomputable def P50x3 (S : Sg) (r2 : Value) (r3 : Value) (r4 : Value) (r5 : Value) (r6 : Int) (r7 : Value) (r8 : Value) (h : Hp) : CRes :=
  loadNK 3 h r7 fun v0 =>
  pairK (pairK (optK (F33 [v0] (Hp.mk (Hp.next h) (Hp.next h) (Hp.objs h))) fun v => some (v, (Hp.mk (Hp.next h) (Hp.next h) (Hp.objs h)))) fun v _ => ifB (plainK v) (some (v, h)) none) fun v1 h1 =>
  intK .i64 v1 fun i2 =>
  loadNK 3 h1 r8 fun v3 =>
  pairK (pairK (optK (F33 [v3] (Hp.mk (Hp.next h1) (Hp.next h1) (Hp.objs h1))) fun v => some (v, (Hp.mk (Hp.next h1) (Hp.next h1) (Hp.objs h1)))) fun v _ => ifB (plainK v) (some (v, h1)) none) fun v4 h4 =>
  intK .i64 v4 fun i5 =>
  pairK (buildSliceV env h4 53 1 (List.toArray [(0, (Value.int .i64 r6))])) fun v6 h6 =>
  pairK (optK (F29 [(Value.int .i64 i2), (Value.int .i64 i5), v6] h6) fun v => some (v, h6)) fun v7 h7 =>
  boolK v7 fun b8 =>
  ifB b8
  (loadNK 3 h7 r7 fun v9 =>
  loadNK 3 h7 r8 fun v10 =>
  pairK (pairK (optK (F64 [v9, v10, (Value.int .i64 r6)] (Hp.mk (Hp.next h7) (Hp.next h7) (Hp.objs h7))) fun v => some (v, (Hp.mk (Hp.next h7) (Hp.next h7) (Hp.objs h7)))) fun v _ => ifB (plainK v) (some (v, h7)) none) fun v11 h11 =>
  loadNK 3 h11 r3 fun v12 =>
  pairK (optK (F63 [v11, v12] h11) fun v => some (v, h11)) fun v13 h13 =>
  optK (buildV env 75 (List.toArray [(0, (Value.bool true)), (1, v13)])) fun v14 =>
  storeNK 4 h13 r4 v14 fun h15 =>
  loadNK 4 h15 r4 fun v16 => some (v16, h15))
  (S 4 (AL.v r2 (AL.v r3 (AL.v r4 (AL.v r5 (AL.i r6 AL.n))))) h7)
noncomputable def P50x2 (S : Sg) (r2 : Value) (r3 : Value) (r4 : Value) (r5 : Value) (r6 : Int) (r7 : Value) (r8 : Value) (r31 : Value) (r32 : Int) (r33 : Int) (h : Hp) : CRes :=
  boolZ (ltZ r33 r32) fun b0 =>
  ifB b0
  (idxSK 2 r31 r33 fun v1 =>
  loadNK 2 h v1 fun v2 =>
  allocK h 97 [(Value.int .i64 (Int.ofNat 0)), Value.nilFunc] fun a3 h3 =>
  storeNK 2 h3 a3 v2 fun h4 =>
  ptrAddK 1 a3 fun v5 =>
  load1K h4 v5 fun v6 =>
  pairK (callF orc48 v6 [(Value.int .i64 r6)] h4) fun v7 h7 =>
  allocK h7 40 [(Value.int .i64 (Int.ofNat 0)), (Value.int .i64 (Int.ofNat 0))] fun a8 h8 =>
  storeNK 2 h8 a8 v7 fun h9 =>
  ptrAddK 0 a3 fun v10 =>
  load1K h9 v10 fun v11 =>
  intK .i64 v11 fun i12 =>
  ptrAddK 0 a3 fun v13 =>
  load1K h9 v13 fun v14 =>
  intK .i64 v14 fun i15 =>
  idxAK 3 1 r7 i15 fun v16 =>
  load1K h9 v16 fun v17 =>
  intK .i64 v17 fun i18 =>
  ptrAddK 0 a8 fun v19 =>
  load1K h9 v19 fun v20 =>
  intK .i64 v20 fun i21 =>
  maxZ i18 i21 fun i22 =>
  idxAK 3 1 r7 i12 fun v23 =>
  store1K h9 v23 (Value.int .i64 i22) fun h24 =>
  ptrAddK 0 a3 fun v25 =>
  load1K h24 v25 fun v26 =>
  intK .i64 v26 fun i27 =>
  ptrAddK 0 a3 fun v28 =>
  load1K h24 v28 fun v29 =>
  intK .i64 v29 fun i30 =>
  idxAK 3 1 r8 i30 fun v31 =>
  load1K h24 v31 fun v32 =>
  intK .i64 v32 fun i33 =>
  ptrAddK 1 a8 fun v34 =>
  load1K h24 v34 fun v35 =>
  intK .i64 v35 fun i36 =>
  minZ i33 i36 fun i37 =>
  idxAK 3 1 r8 i27 fun v38 =>
  store1K h24 v38 (Value.int .i64 i37) fun h39 =>
  ptrAddK 0 a3 fun v40 =>
  load1K h39 v40 fun v41 =>
  intK .i64 v41 fun i42 =>
  idxAK 3 1 r7 i42 fun v43 =>
  load1K h39 v43 fun v44 =>
  intK .i64 v44 fun i45 =>
  ptrAddK 0 a3 fun v46 =>
  load1K h39 v46 fun v47 =>
  intK .i64 v47 fun i48 =>
  idxAK 3 1 r8 i48 fun v49 =>
  load1K h39 v49 fun v50 =>
  intK .i64 v50 fun i51 =>
  boolZ (ltZ i51 i45) fun b52 =>
  ifB b52
  (S 4 (AL.v r2 (AL.v r3 (AL.v r4 (AL.v r5 (AL.i r6 AL.n))))) h39)
  (wrap64 (Int.add r33 (Int.ofNat 1)) fun i53 =>
  S 2 (AL.v r2 (AL.v r3 (AL.v r4 (AL.v r5 (AL.i r6 (AL.v r7 (AL.v r8 (AL.v r31 (AL.i r32 (AL.i i53 AL.n)))))))))) h39))
  (S 3 (AL.v r2 (AL.v r3 (AL.v r4 (AL.v r5 (AL.i r6 (AL.v r7 (AL.v r8 AL.n))))))) h)
noncomputable def P50x1 (S : Sg) (r2 : Value) (r3 : Value) (r4 : Value) (r5 : Value) (r6 : Int) (h : Hp) : CRes :=
  loadNK 3 h r5 fun v0 =>
  pairK (optK (F33 [v0] h) fun v => some (v, h)) fun v1 h1 =>
  intK .i64 v1 fun i2 =>
  boolN (ltZ i2 r6) fun b3 =>
  ifB b3
  (loadNK 3 (Hp.mk (Hp.next h1) (Hp.next h1) (Hp.objs h1)) r3 fun v4 =>
  leftK v4 (Hp.next h1) (Hp.mk (Hp.next h1) (Hp.next h1) (Hp.objs h1)) fun w5 n5 =>
  loadNK 3 (Hp.mk n5 n5 (Hp.objs h1)) r5 fun v6 =>
  leftK v6 n5 (Hp.mk n5 n5 (Hp.objs h1)) fun w7 n7 =>
  allocK (Hp.mk n7 n7 T.nil) 23 [(Value.int .i64 (Int.ofNat 0)), (Value.int .i64 (Int.ofNat 0)), (Value.int .i64 (Int.ofNat 0))] fun a8 h8 =>
  leftK a8 n7 h8 fun w9 n9 =>
  allocK (Hp.mk n9 n9 T.nil) 23 [(Value.int .i64 (Int.ofNat 0)), (Value.int .i64 (Int.ofNat 0)), (Value.int .i64 (Int.ofNat 0))] fun a10 h10 =>
  leftK a10 n9 h10 fun w11 n11 =>
  storeQ env 23 a8 v4 n11 (Hp.next h1) (addAll w11 (addAll w9 (addAll w5 (Hp.objs h1)))) (fun b => (hasBlk w5 b || (hasBlk w9 b || (hasBlk w11 b || false)))) fun w12 =>
  storeNK 3 (Hp.mk n11 (Hp.ro h1) (addAll w12 (addAll w11 (addAll w9 (addAll w7 (addAll w5 (Hp.objs h1))))))) a10 v6 fun h13 =>
  ptrAddK 8 r2 fun v14 =>
  load1K h13 v14 fun v15 =>
  lenSK v15 fun i16 =>
  S 2 (AL.v r2 (AL.v r3 (AL.v r4 (AL.v r5 (AL.i r6 (AL.v a8 (AL.v a10 (AL.v v15 (AL.i i16 (AL.i (Int.ofNat 0) AL.n)))))))))) h13)
  (S 5 (AL.v r4 AL.n) h1)
noncomputable def P50x0 (S : Sg) (r0 : Value) (r1 : Value) (h : Hp) : CRes :=
  allocK h 48 (Array.toList (Value.cells r0)) fun a0 h0 =>
  allocK h0 23 (Array.toList (Value.cells r1)) fun a1 h1 =>
  allocK h1 75 [(Value.bool false), (Value.int .i64 (Int.ofNat 0)), (Value.int .i64 (Int.ofNat 0)), (Value.int .i64 (Int.ofNat 0))] fun a2 h2 =>
  loadNK 3 h2 a1 fun v3 =>
  ptrAddK 0 a0 fun v4 =>
  ptrAddK 0 v4 fun v5 =>
  loadNK 3 h2 v5 fun v6 =>
  pairK (optK (F15 [v3, v6] h2) fun v => some (v, h2)) fun v7 h7 =>
  allocK h7 23 [(Value.int .i64 (Int.ofNat 0)), (Value.int .i64 (Int.ofNat 0)), (Value.int .i64 (Int.ofNat 0))] fun a8 h8 =>
  storeNK 3 h8 a8 v7 fun h9 =>
  loadNK 3 h9 a1 fun v10 =>
  pairK (pairK (optK (F33 [v10] (Hp.mk (Hp.next h9) (Hp.next h9) (Hp.objs h9))) fun v => some (v, (Hp.mk (Hp.next h9) (Hp.next h9) (Hp.objs h9)))) fun v _ => ifB (plainK v) (some (v, h9)) none) fun v11 h11 =>
  intK .i64 v11 fun i12 =>
  ptrAddK 9 a0 fun v13 =>
  load1K h11 v13 fun v14 =>
  intK .i64 v14 fun i15 =>
  maxZ i12 i15 fun i16 =>
  S 1 (AL.v a0 (AL.v a1 (AL.v a2 (AL.v a8 (AL.i i16 AL.n))))) h11
noncomputable def T50 (S : Sg) : Sg := tabC 0 (uV fun r0 => uV fun r1 => uN fun h => P50x0 S r0 r1 h) (tabC 1 (uV fun r2 => uV fun r3 => uV fun r4 => uV fun r5 => uI fun r6 => uN fun h => P50x1 S r2 r3 r4 r5 r6 h) (tabC 2 (uV fun r2 => uV fun r3 => uV fun r4 => uV fun r5 => uI fun r6 => uV fun r7 => uV fun r8 => uV fun r31 => uI fun r32 => uI fun r33 => uN fun h => P50x2 S r2 r3 r4 r5 r6 r7 r8 r31 r32 r33 h) (tabC 3 (uV fun r2 => uV fun r3 => uV fun r4 => uV fun r5 => uI fun r6 => uV fun r7 => uV fun r8 => uN fun h => P50x3 S r2 r3 r4 r5 r6 r7 r8 h) (tabC 4 (uV fun r2 => uV fun r3 => uV fun r4 => uV fun r5 => uI fun r6 => uN fun h => P50x4 S r2 r3 r4 r5 r6 h) (tabC 5 (uV fun r4 => uN fun h => P50x5 S r4 h) (tabN))))))
noncomputable def F50 (args : List Value) (h : Hp) : CRes := packVals [Kd.v, Kd.v] args fun al => rec' T50 1000000 0 al h
def nt50 : Nat := 2 + (86 - 2)
theorem q50x5 (S : Sg) (r4 : Value) (h : Hp) : P50x5 S r4 h = stepAt (regK env orc48 (nt50)) (finK env Try.f50.results.toList) (collect B50 A50 []) 5 S (AL.v r4 AL.n) h := by kernel_rfl
theorem q50x4 (S : Sg) (r2 : Value) (r3 : Value) (r4 : Value) (r5 : Value) (r6 : Int) (h : Hp) : P50x4 S r2 r3 r4 r5 r6 h = stepAt (regK env orc48 (nt50)) (finK env Try.f50.results.toList) (collect B50 A50 []) 4 S (AL.v r2 (AL.v r3 (AL.v r4 (AL.v r5 (AL.i r6 AL.n))))) h := by kernel_rfl
theorem q50x3 (S : Sg) (r2 : Value) (r3 : Value) (r4 : Value) (r5 : Value) (r6 : Int) (r7 : Value) (r8 : Value) (h : Hp) : P50x3 S r2 r3 r4 r5 r6 r7 r8 h = stepAt (regK env orc48 (nt50)) (finK env Try.f50.results.toList) (collect B50 A50 []) 3 S (AL.v r2 (AL.v r3 (AL.v r4 (AL.v r5 (AL.i r6 (AL.v r7 (AL.v r8 AL.n))))))) h := by kernel_rfl
theorem q50x2 (S : Sg) (r2 : Value) (r3 : Value) (r4 : Value) (r5 : Value) (r6 : Int) (r7 : Value) (r8 : Value) (r31 : Value) (r32 : Int) (r33 : Int) (h : Hp) : P50x2 S r2 r3 r4 r5 r6 r7 r8 r31 r32 r33 h = stepAt (regK env orc48 (nt50)) (finK env Try.f50.results.toList) (collect B50 A50 []) 2 S (AL.v r2 (AL.v r3 (AL.v r4 (AL.v r5 (AL.i r6 (AL.v r7 (AL.v r8 (AL.v r31 (AL.i r32 (AL.i r33 AL.n)))))))))) h := by kernel_rfl
theorem q50x1 (S : Sg) (r2 : Value) (r3 : Value) (r4 : Value) (r5 : Value) (r6 : Int) (h : Hp) : P50x1 S r2 r3 r4 r5 r6 h = stepAt (regK env orc48 (nt50)) (finK env Try.f50.results.toList) (collect B50 A50 []) 1 S (AL.v r2 (AL.v r3 (AL.v r4 (AL.v r5 (AL.i r6 AL.n))))) h := by kernel_rfl
theorem q50x0 (S : Sg) (r0 : Value) (r1 : Value) (h : Hp) : P50x0 S r0 r1 h = stepAt (regK env orc48 (nt50)) (finK env Try.f50.results.toList) (collect B50 A50 []) 0 S (AL.v r0 (AL.v r1 AL.n)) h := by kernel_rfl
theorem t50 (S : Sg) : Tab (fun l vs h => stepAt (regK env orc48 nt50) (finK env Try.f50.results.toList) (collect B50 A50 []) l S vs h) (T50 S) := by
  unfold T50
  refine Tab.cons 0 (fun vs0 h q e0 => ?_) ?_
  · obtain ⟨r0, vs1, rfl, e1⟩ := uV_some e0
    obtain ⟨r1, vs2, rfl, e2⟩ := uV_some e1
    obtain ⟨rfl, ee⟩ := uN_some e2
    exact (q50x0 S r0 r1 h).symm.trans ee
  refine Tab.cons 1 (fun vs0 h q e0 => ?_) ?_
  · obtain ⟨r2, vs1, rfl, e1⟩ := uV_some e0
    obtain ⟨r3, vs2, rfl, e2⟩ := uV_some e1
    obtain ⟨r4, vs3, rfl, e3⟩ := uV_some e2
    obtain ⟨r5, vs4, rfl, e4⟩ := uV_some e3
    obtain ⟨r6, vs5, rfl, e5⟩ := uI_some e4
    obtain ⟨rfl, ee⟩ := uN_some e5
    exact (q50x1 S r2 r3 r4 r5 r6 h).symm.trans ee
  refine Tab.cons 2 (fun vs0 h q e0 => ?_) ?_
  · obtain ⟨r2, vs1, rfl, e1⟩ := uV_some e0
    obtain ⟨r3, vs2, rfl, e2⟩ := uV_some e1
    obtain ⟨r4, vs3, rfl, e3⟩ := uV_some e2
    obtain ⟨r5, vs4, rfl, e4⟩ := uV_some e3
    obtain ⟨r6, vs5, rfl, e5⟩ := uI_some e4
    obtain ⟨r7, vs6, rfl, e6⟩ := uV_some e5
    obtain ⟨r8, vs7, rfl, e7⟩ := uV_some e6
    obtain ⟨r31, vs8, rfl, e8⟩ := uV_some e7
    obtain ⟨r32, vs9, rfl, e9⟩ := uI_some e8
    obtain ⟨r33, vs10, rfl, e10⟩ := uI_some e9
    obtain ⟨rfl, ee⟩ := uN_some e10
    exact (q50x2 S r2 r3 r4 r5 r6 r7 r8 r31 r32 r33 h).symm.trans ee
  refine Tab.cons 3 (fun vs0 h q e0 => ?_) ?_
  · obtain ⟨r2, vs1, rfl, e1⟩ := uV_some e0
    obtain ⟨r3, vs2, rfl, e2⟩ := uV_some e1
    obtain ⟨r4, vs3, rfl, e3⟩ := uV_some e2
    obtain ⟨r5, vs4, rfl, e4⟩ := uV_some e3
    obtain ⟨r6, vs5, rfl, e5⟩ := uI_some e4
    obtain ⟨r7, vs6, rfl, e6⟩ := uV_some e5
    obtain ⟨r8, vs7, rfl, e7⟩ := uV_some e6
    obtain ⟨rfl, ee⟩ := uN_some e7
    exact (q50x3 S r2 r3 r4 r5 r6 r7 r8 h).symm.trans ee
  refine Tab.cons 4 (fun vs0 h q e0 => ?_) ?_
  · obtain ⟨r2, vs1, rfl, e1⟩ := uV_some e0
    obtain ⟨r3, vs2, rfl, e2⟩ := uV_some e1
    obtain ⟨r4, vs3, rfl, e3⟩ := uV_some e2
    obtain ⟨r5, vs4, rfl, e4⟩ := uV_some e3
    obtain ⟨r6, vs5, rfl, e5⟩ := uI_some e4
    obtain ⟨rfl, ee⟩ := uN_some e5
    exact (q50x4 S r2 r3 r4 r5 r6 h).symm.trans ee
  refine Tab.cons 5 (fun vs0 h q e0 => ?_) ?_
  · obtain ⟨r4, vs1, rfl, e1⟩ := uV_some e0
    obtain ⟨rfl, ee⟩ := uN_some e1
    exact (q50x5 S r4 h).symm.trans ee
  exact Tab.nil
theorem r50 : ∀ args h v h', F50 args h = some (v, h') → Runs (C48) (.call 50 args.toArray h) (.ret v h') := by
  intro args h v h' e
  exact fun_sound (C := C48) (fn := Try.f50) (body := B50) (np := 2) (A := A50) (T := T50) (kinds := [Kd.v, Kd.v]) (by kernel_rfl) (by kernel_rfl) (by kernel_rfl) (by kernel_rfl) (regK_ok env_ok) (by kernel_rfl) (fun S => t50 S) e
noncomputable def orc49 := orcQ 50 F50 orc48
noncomputable def C49 : Cfg := cfg orc49
theorem ok49 : C49.Ok := orcQ_ok (C := C48) ok48 r50
noncomputable def B31 : Code := (Try.f31.body).getD .skip
def A31 : Ann := (Ann.node (some (0, [(0, Kd.v), (1, Kd.v)])) Ann.nil (Ann.node none Ann.nil (Ann.node none Ann.nil (Ann.node none (Ann.node none Ann.nil (Ann.node none (Ann.node none Ann.nil Ann.nil) Ann.nil)) (Ann.node none Ann.nil Ann.nil)))))
noncomputable def P31x0 (S : Sg) (r0 : Value) (r1 : Value) (h : Hp) : CRes :=
  allocK h 48 (Array.toList (Value.cells r0)) fun a0 h0 =>
  allocK h0 75 [(Value.bool false), (Value.int .i64 (Int.ofNat 0)), (Value.int .i64 (Int.ofNat 0)), (Value.int .i64 (Int.ofNat 0))] fun a1 h1 =>
  loadNK 11 h1 a0 fun v2 =>
  pairK (optK (F16 [v2, r1] h1) fun v => some (v, h1)) fun v3 h3 =>
  allocK h3 23 [(Value.int .i64 (Int.ofNat 0)), (Value.int .i64 (Int.ofNat 0)), (Value.int .i64 (Int.ofNat 0))] fun a4 h4 =>
  storeNK 3 h4 a4 v3 fun h5 =>
  ptrAddK 10 a0 fun v6 =>
  load1K h5 v6 fun v7 =>
  loadNK 3 h5 a4 fun v8 =>
  optK (lookupV env h5 46 v7 v8 true) fun v9 =>
  extK v9 0 fun v10 =>
  extK v9 1 fun v11 =>
  boolK v11 fun b12 =>
  allocK h5 75 [(Value.bool false), (Value.int .i64 (Int.ofNat 0)), (Value.int .i64 (Int.ofNat 0)), (Value.int .i64 (Int.ofNat 0))] fun a13 h13 =>
  storeNK 4 h13 a13 v10 fun h14 =>
  boolN b12 fun b15 =>
  ifB b15
  (loadNK 11 h14 a0 fun v16 =>
  loadNK 3 h14 a4 fun v17 =>
  pairK (callQ F50 [v16, v17] h14) fun v18 h18 =>
  storeNK 4 h18 a13 v18 fun h19 =>
  ptrAddK 10 a0 fun v20 =>
  load1K h19 v20 fun v21 =>
  loadNK 3 h19 a4 fun v22 =>
  loadNK 4 h19 a13 fun v23 =>
  optK (mapUpdateV env h19 46 v21 v22 v23) fun h24 =>
  loadNK 4 h24 a13 fun v25 =>
  storeNK 4 h24 a1 v25 fun h26 =>
  loadNK 4 h26 a1 fun v27 => some (v27, h26))
  (loadNK 4 h14 a13 fun v28 =>
  storeNK 4 h14 a1 v28 fun h29 =>
  loadNK 4 h29 a1 fun v30 => some (v30, h29))
noncomputable def T31 (S : Sg) : Sg := tabC 0 (uV fun r0 => uV fun r1 => uN fun h => P31x0 S r0 r1 h) (tabN)
noncomputable def F31 (args : List Value) (h : Hp) : CRes := packVals [Kd.v, Kd.v] args fun al => rec' T31 1000000 0 al h
def nt31 : Nat := 2 + (28 - 2)
theorem q31x0 (S : Sg) (r0 : Value) (r1 : Value) (h : Hp) : P31x0 S r0 r1 h = stepAt (regK env orc49 (nt31)) (finK env Try.f31.results.toList) (collect B31 A31 []) 0 S (AL.v r0 (AL.v r1 AL.n)) h := by kernel_rfl
theorem t31 (S : Sg) : Tab (fun l vs h => stepAt (regK env orc49 nt31) (finK env Try.f31.results.toList) (collect B31 A31 []) l S vs h) (T31 S) := by
  unfold T31
  refine Tab.cons 0 (fun vs0 h q e0 => ?_) ?_
  · obtain ⟨r0, vs1, rfl, e1⟩ := uV_some e0
    obtain ⟨r1, vs2, rfl, e2⟩ := uV_some e1
    obtain ⟨rfl, ee⟩ := uN_some e2
    exact (q31x0 S r0 r1 h).symm.trans ee
  exact Tab.nil
theorem r31 : ∀ args h v h', F31 args h = some (v, h') → Runs (C49) (.call 31 args.toArray h) (.ret v h') := by
  intro args h v h' e
  exact fun_sound (C := C49) (fn := Try.f31) (body := B31) (np := 2) (A := A31) (T := T31) (kinds := [Kd.v, Kd.v]) (by kernel_rfl) (by kernel_rfl) (by kernel_rfl) (by kernel_rfl) (regK_ok env_ok) (by kernel_rfl) (fun S => t31 S) e
noncomputable def orc50 := orcD 31 F31 orc49
noncomputable def C50 : Cfg := cfg orc50
theorem ok50 : C50.Ok := orcD_ok (C := C49) ok49 r31
noncomputable def B18 : Code := (Try.f18.body).getD .skip
def A18 : Ann := (Ann.node (some (0, [(0, Kd.v), (1, Kd.v)])) Ann.nil (Ann.node none Ann.nil Ann.nil))
noncomputable def P18x0 (S : Sg) (r0 : Value) (r1 : Value) (h : Hp) : CRes :=
  allocK h 48 (Array.toList (Value.cells r0)) fun a0 h0 =>
  loadNK 11 h0 a0 fun v1 =>
  pairK (F31 [v1, r1] h0) fun v2 h2 =>
  optK (buildV env 75 (List.toArray [])) fun v3 =>
  optK (binV env .neq 75 (Operand.tmp 7) (Operand.tmp 8) v2 v3) fun v4 =>
  boolK v4 fun b5 =>
  some ((Value.bool b5), h2)
noncomputable def T18 (S : Sg) : Sg := tabC 0 (uV fun r0 => uV fun r1 => uN fun h => P18x0 S r0 r1 h) (tabN)
noncomputable def F18 (args : List Value) (h : Hp) : CRes := packVals [Kd.v, Kd.v] args fun al => rec' T18 1000000 0 al h
def nt18 : Nat := 2 + (10 - 2)
theorem q18x0 (S : Sg) (r0 : Value) (r1 : Value) (h : Hp) : P18x0 S r0 r1 h = stepAt (regK env orc50 (nt18)) (finK env Try.f18.results.toList) (collect B18 A18 []) 0 S (AL.v r0 (AL.v r1 AL.n)) h := by kernel_rfl
theorem t18 (S : Sg) : Tab (fun l vs h => stepAt (regK env orc50 nt18) (finK env Try.f18.results.toList) (collect B18 A18 []) l S vs h) (T18 S) := by
  unfold T18
  refine Tab.cons 0 (fun vs0 h q e0 => ?_) ?_
  · obtain ⟨r0, vs1, rfl, e1⟩ := uV_some e0
    obtain ⟨r1, vs2, rfl, e2⟩ := uV_some e1
    obtain ⟨rfl, ee⟩ := uN_some e2
    exact (q18x0 S r0 r1 h).symm.trans ee
  exact Tab.nil
theorem r18 : ∀ args h v h', F18 args h = some (v, h') → Runs (C50) (.call 18 args.toArray h) (.ret v h') := by
  intro args h v h' e
  exact fun_sound (C := C50) (fn := Try.f18) (body := B18) (np := 2) (A := A18) (T := T18) (kinds := [Kd.v, Kd.v]) (by kernel_rfl) (by kernel_rfl) (by kernel_rfl) (by kernel_rfl) (regK_ok env_ok) (by kernel_rfl) (fun S => t18 S) e
noncomputable def orc51 := orcD 18 F18 orc50
noncomputable def C51 : Cfg := cfg orc51
theorem ok51 : C51.Ok := orcD_ok (C := C50) ok50 r18
noncomputable def B30 : Code := (Try.f30.body).getD .skip
def A30 : Ann := (Ann.node (some (0, [(0, Kd.v), (1, Kd.v)])) Ann.nil (Ann.node none (Ann.node none Ann.nil (Ann.node none (Ann.node (some (1, [(0, Kd.v), (1, Kd.v), (7, Kd.i .i64), (8, Kd.i .i64)])) (Ann.node none Ann.nil (Ann.node none (Ann.node none Ann.nil Ann.nil) (Ann.node none (Ann.node none (Ann.node none Ann.nil (Ann.node none Ann.nil (Ann.node none (Ann.node none Ann.nil Ann.nil) Ann.nil))) Ann.nil) Ann.nil))) Ann.nil) Ann.nil)) (Ann.node (some (2, [])) Ann.nil Ann.nil)))
noncomputable def P30x2 (S : Sg) (h : Hp) : CRes :=
  some ((Value.int .i64 (Int.negSucc 0)), h)
noncomputable def P30x1 (S : Sg) (r0 : Value) (r1 : Value) (r7 : Int) (r8 : Int) (h : Hp) : CRes :=
  boolZ (ltZ r8 r7) fun b0 =>
  ifB b0
  (idxSK 1 r0 r8 fun v1 =>
  load1K h v1 fun v2 =>
  pairK (callF orc51 r1 [v2] h) fun v3 h3 =>
  boolK v3 fun b4 =>
  ifB b4
  (some ((Value.int .i64 r8), h3))
  (wrap64 (Int.add r8 (Int.ofNat 1)) fun i5 =>
  S 1 (AL.v r0 (AL.v r1 (AL.i r7 (AL.i i5 AL.n)))) h3))
  (S 2 AL.n h)
noncomputable def P30x0 (S : Sg) (r0 : Value) (r1 : Value) (h : Hp) : CRes :=
  lenSK r0 fun i0 =>
  S 1 (AL.v r0 (AL.v r1 (AL.i i0 (AL.i (Int.ofNat 0) AL.n)))) h
noncomputable def T30 (S : Sg) : Sg := tabC 0 (uV fun r0 => uV fun r1 => uN fun h => P30x0 S r0 r1 h) (tabC 1 (uV fun r0 => uV fun r1 => uI fun r7 => uI fun r8 => uN fun h => P30x1 S r0 r1 r7 r8 h) (tabC 2 (uN fun h => P30x2 S  h) (tabN)))
noncomputable def F30 (args : List Value) (h : Hp) : CRes := packVals [Kd.v, Kd.v] args fun al => rec' T30 1000000 0 al h
def nt30 : Nat := 2 + (19 - 2)
theorem q30x2 (S : Sg) (h : Hp) : P30x2 S  h = stepAt (regK env orc51 (nt30)) (finK env Try.f30.results.toList) (collect B30 A30 []) 2 S AL.n h := by kernel_rfl
theorem q30x1 (S : Sg) (r0 : Value) (r1 : Value) (r7 : Int) (r8 : Int) (h : Hp) : P30x1 S r0 r1 r7 r8 h = stepAt (regK env orc51 (nt30)) (finK env Try.f30.results.toList) (collect B30 A30 []) 1 S (AL.v r0 (AL.v r1 (AL.i r7 (AL.i r8 AL.n)))) h := by kernel_rfl
theorem q30x0 (S : Sg) (r0 : Value) (r1 : Value) (h : Hp) : P30x0 S r0 r1 h = stepAt (regK env orc51 (nt30)) (finK env Try.f30.results.toList) (collect B30 A30 []) 0 S (AL.v r0 (AL.v r1 AL.n)) h := by kernel_rfl
theorem t30 (S : Sg) : Tab (fun l vs h => stepAt (regK env orc51 nt30) (finK env Try.f30.results.toList) (collect B30 A30 []) l S vs h) (T30 S) := by
  unfold T30
  refine Tab.cons 0 (fun vs0 h q e0 => ?_) ?_
  · obtain ⟨r0, vs1, rfl, e1⟩ := uV_some e0
    obtain ⟨r1, vs2, rfl, e2⟩ := uV_some e1
    obtain ⟨rfl, ee⟩ := uN_some e2
    exact (q30x0 S r0 r1 h).symm.trans ee
  refine Tab.cons 1 (fun vs0 h q e0 => ?_) ?_
  · obtain ⟨r0, vs1, rfl, e1⟩ := uV_some e0
    obtain ⟨r1, vs2, rfl, e2⟩ := uV_some e1
    obtain ⟨r7, vs3, rfl, e3⟩ := uI_some e2
    obtain ⟨r8, vs4, rfl, e4⟩ := uI_some e3
    obtain ⟨rfl, ee⟩ := uN_some e4
    exact (q30x1 S r0 r1 r7 r8 h).symm.trans ee
  refine Tab.cons 2 (fun vs0 h q e0 => ?_) ?_
  · 
    obtain ⟨rfl, ee⟩ := uN_some e0
    exact (q30x2 S  h).symm.trans ee
  exact Tab.nil
theorem r30 : ∀ args h v h', F30 args h = some (v, h') → Runs (C51) (.call 30 args.toArray h) (.ret v h') := by
  intro args h v h' e
  exact fun_sound (C := C51) (fn := Try.f30) (body := B30) (np := 2) (A := A30) (T := T30) (kinds := [Kd.v, Kd.v]) (by kernel_rfl) (by kernel_rfl) (by kernel_rfl) (by kernel_rfl) (regK_ok env_ok) (by kernel_rfl) (fun S => t30 S) e
noncomputable def orc52 := orcD 30 F30 orc51
noncomputable def C52 : Cfg := cfg orc52
theorem ok52 : C52.Ok := orcD_ok (C := C51) ok51 r30
noncomputable def B34 : Code := (Try.f34.body).getD .skip
def A34 : Ann := (Ann.node (some (0, [(0, Kd.v)])) Ann.nil (Ann.node none Ann.nil (Ann.node none Ann.nil (Ann.node none Ann.nil Ann.nil))))
noncomputable def P34x0 (S : Sg) (r0 : Value) (h : Hp) : CRes :=
  lenSK r0 fun i0 =>
  pairK (makeSliceV env h 53 (Value.int .i64 i0) (Value.int .i64 i0)) fun v1 h1 =>
  pairK (copyV env h1 #[53, 53] (List.toArray [v1, r0])) fun v2 h2 =>
  some (v1, h2)
noncomputable def T34 (S : Sg) : Sg := tabC 0 (uV fun r0 => uN fun h => P34x0 S r0 h) (tabN)
noncomputable def F34 (args : List Value) (h : Hp) : CRes := packVals [Kd.v] args fun al => rec' T34 1000000 0 al h
def nt34 : Nat := 1 + (11 - 1)
theorem q34x0 (S : Sg) (r0 : Value) (h : Hp) : P34x0 S r0 h = stepAt (regK env orc52 (nt34)) (finK env Try.f34.results.toList) (collect B34 A34 []) 0 S (AL.v r0 AL.n) h := by kernel_rfl
theorem t34 (S : Sg) : Tab (fun l vs h => stepAt (regK env orc52 nt34) (finK env Try.f34.results.toList) (collect B34 A34 []) l S vs h) (T34 S) := by
  unfold T34
  refine Tab.cons 0 (fun vs0 h q e0 => ?_) ?_
  · obtain ⟨r0, vs1, rfl, e1⟩ := uV_some e0
    obtain ⟨rfl, ee⟩ := uN_some e1
    exact (q34x0 S r0 h).symm.trans ee
  exact Tab.nil
theorem r34 : ∀ args h v h', F34 args h = some (v, h') → Runs (C52) (.call 34 args.toArray h) (.ret v h') := by
  intro args h v h' e
  exact fun_sound (C := C52) (fn := Try.f34) (body := B34) (np := 1) (A := A34) (T := T34) (kinds := [Kd.v]) (by kernel_rfl) (by kernel_rfl) (by kernel_rfl) (by kernel_rfl) (regK_ok env_ok) (by kernel_rfl) (fun S => t34 S) e
noncomputable def orc53 := orcQ 34 F34 orc52
noncomputable def C53 : Cfg := cfg orc53
theorem ok53 : C53.Ok := orcQ_ok (C := C52) ok52 r34
noncomputable def B20 : Code := (Try.f20.body).getD .skip
def A20 : Ann := (Ann.node (some (0, [(0, Kd.v)])) Ann.nil (Ann.node none Ann.nil (Ann.node none (Ann.node none Ann.nil (Ann.node none (Ann.node none Ann.nil Ann.nil) Ann.nil)) (Ann.node none Ann.nil (Ann.node none (Ann.node none Ann.nil (Ann.node none (Ann.node none Ann.nil Ann.nil) Ann.nil)) (Ann.node none Ann.nil Ann.nil))))))
noncomputable def P20x0 (S : Sg) (r0 : Value) (h : Hp) : CRes :=
  allocK h 27 (Array.toList (Value.cells r0)) fun a0 h0 =>
  allocK h0 23 [(Value.int .i64 (Int.ofNat 0)), (Value.int .i64 (Int.ofNat 0)), (Value.int .i64 (Int.ofNat 0))] fun a1 h1 =>
  loadNK 6 h1 a0 fun v2 =>
  pairK (callQ F11 [v2] h1) fun v3 h3 =>
  extK v3 0 fun v4 =>
  extK v3 1 fun v5 =>
  intK .i64 v5 fun i6 =>
  allocK h3 48 [(Value.int .i64 (Int.ofNat 0)), (Value.int .i64 (Int.ofNat 0)), (Value.int .i64 (Int.ofNat 0)), (Value.int .i64 (Int.ofNat 0)), (Value.slice none 0 0), (Value.slice none 0 0), (Value.int .i64 (Int.ofNat 0)), (Value.slice none 0 0), (Value.slice none 0 0), (Value.int .i64 (Int.ofNat 0)), (Value.map none)] fun a7 h7 =>
  storeNK 11 h7 a7 v4 fun h8 =>
  boolN (eqZ i6 (Int.ofNat 0)) fun b9 =>
  ifB b9
  (optK (buildV env 23 (List.toArray [])) fun v10 =>
  storeNK 3 h8 a1 v10 fun h11 =>
  loadNK 3 h11 a1 fun v12 => some (Value.tuple (List.toArray [(Value.slice none 0 0), v12, (Value.int .i64 i6)]), h11))
  (ptrAddK 7 a7 fun v13 =>
  load1K h8 v13 fun v14 =>
  loadNK 11 h8 a7 fun v15 =>
  pairK (F30 [v14, (Value.func (.func 18) (List.toArray [v15]) (List.toArray []))] h8) fun v16 h16 =>
  intK .i64 v16 fun i17 =>
  boolZ (ltZ i17 (Int.ofNat 0)) fun b18 =>
  ifB b18
  (optK (buildV env 23 (List.toArray [])) fun v19 =>
  storeNK 3 h16 a1 v19 fun h20 =>
  loadNK 3 h20 a1 fun v21 => some (Value.tuple (List.toArray [(Value.slice none 0 0), v21, (Value.int .i64 (Int.ofNat 9))]), h20))
  (ptrAddK 7 a7 fun v22 =>
  load1K h16 v22 fun v23 =>
  idxSK 1 v23 i17 fun v24 =>
  load1K h16 v24 fun v25 =>
  pairK (pairK (callQ F34 [v25] (Hp.mk (Hp.next h16) (Hp.next h16) (Hp.objs h16))) fun v _ => ifB (plainK v) (some (v, h16)) none) fun v26 h26 =>
  loadNK 11 h26 a7 fun v27 =>
  ptrAddK 7 a7 fun v28 =>
  load1K h26 v28 fun v29 =>
  idxSK 1 v29 i17 fun v30 =>
  load1K h26 v30 fun v31 =>
  pairK (pairK (F31 [v27, v31] (Hp.mk (Hp.next h26) (Hp.next h26) (Hp.objs h26))) fun v _ => ifB (plainK v) (some (v, h26)) none) fun v32 h32 =>
  partNK 1 3 v32 fun v33 =>
  storeNK 3 h32 a1 v33 fun h34 =>
  loadNK 3 h34 a1 fun v35 => some (Value.tuple (List.toArray [v26, v35, (Value.int .i64 (Int.ofNat 0))]), h34)))
noncomputable def T20 (S : Sg) : Sg := tabC 0 (uV fun r0 => uN fun h => P20x0 S r0 h) (tabN)
noncomputable def F20 (args : List Value) (h : Hp) : CRes := packVals [Kd.v] args fun al => rec' T20 1000000 0 al h
def nt20 : Nat := 1 + (38 - 1)
theorem q20x0 (S : Sg) (r0 : Value) (h : Hp) : P20x0 S r0 h = stepAt (regK env orc53 (nt20)) (finK env Try.f20.results.toList) (collect B20 A20 []) 0 S (AL.v r0 AL.n) h := by kernel_rfl
theorem t20 (S : Sg) : Tab (fun l vs h => stepAt (regK env orc53 nt20) (finK env Try.f20.results.toList) (collect B20 A20 []) l S vs h) (T20 S) := by
  unfold T20
  refine Tab.cons 0 (fun vs0 h q e0 => ?_) ?_
  · obtain ⟨r0, vs1, rfl, e1⟩ := uV_some e0
    obtain ⟨rfl, ee⟩ := uN_some e1
    exact (q20x0 S r0 h).symm.trans ee
  exact Tab.nil
theorem r20 : ∀ args h v h', F20 args h = some (v, h') → Runs (C53) (.call 20 args.toArray h) (.ret v h') := by
  intro args h v h' e
  exact fun_sound (C := C53) (fn := Try.f20) (body := B20) (np := 1) (A := A20) (T := T20) (kinds := [Kd.v]) (by kernel_rfl) (by kernel_rfl) (by kernel_rfl) (by kernel_rfl) (regK_ok env_ok) (by kernel_rfl) (fun S => t20 S) e
noncomputable def orc54 := orcQ 20 F20 orc53
noncomputable def C54 : Cfg := cfg orc54
theorem ok54 : C54.Ok := orcQ_ok (C := C53) ok53 r20
noncomputable def B51 : Code := (Try.f51.body).getD .skip
def A51 : Ann := (Ann.node (some (0, [(0, Kd.v), (1, Kd.v), (2, Kd.v)])) Ann.nil (Ann.node none (Ann.node (some (1, [(0, Kd.v), (2, Kd.v), (7, Kd.v), (8, Kd.i .i64), (9, Kd.i .i64)])) (Ann.node none Ann.nil (Ann.node none (Ann.node none Ann.nil Ann.nil) (Ann.node none (Ann.node none (Ann.node none Ann.nil (Ann.node none Ann.nil (Ann.node none Ann.nil Ann.nil))) Ann.nil) Ann.nil))) Ann.nil) Ann.nil))
noncomputable def P51x1 (S : Sg) (r0 : Value) (r2 : Value) (r7 : Value) (r8 : Int) (r9 : Int) (h : Hp) : CRes :=
  boolZ (ltZ r9 r8) fun b0 =>
  ifB b0
  (idxSK 1 r7 r9 fun v1 =>
  load1K h v1 fun v2 =>
  load1K h r2 fun v3 =>
  pairK (callF orc54 v3 [v2] h) fun v4 h4 =>
  boolK v4 fun b5 =>
  ifB b5
  (pairK (callF orc54 r0 [v2] h4) fun v6 h6 =>
  boolK v6 fun b7 =>
  boolN b7 fun b8 =>
  ifB b8
  (some (Value.tuple (List.toArray []), h6))
  (wrap64 (Int.add r9 (Int.ofNat 1)) fun i9 =>
  S 1 (AL.v r0 (AL.v r2 (AL.v r7 (AL.i r8 (AL.i i9 AL.n))))) h6))
  (wrap64 (Int.add r9 (Int.ofNat 1)) fun i10 =>
  S 1 (AL.v r0 (AL.v r2 (AL.v r7 (AL.i r8 (AL.i i10 AL.n))))) h4))
  (some (Value.tuple (List.toArray []), h))
noncomputable def P51x0 (S : Sg) (r0 : Value) (r1 : Value) (r2 : Value) (h : Hp) : CRes :=
  ptrAddK 7 r1 fun v0 =>
  load1K h v0 fun v1 =>
  lenSK v1 fun i2 =>
  S 1 (AL.v r0 (AL.v r2 (AL.v v1 (AL.i i2 (AL.i (Int.ofNat 0) AL.n))))) h
noncomputable def T51 (S : Sg) : Sg := tabC 0 (uV fun r0 => uV fun r1 => uV fun r2 => uN fun h => P51x0 S r0 r1 r2 h) (tabC 1 (uV fun r0 => uV fun r2 => uV fun r7 => uI fun r8 => uI fun r9 => uN fun h => P51x1 S r0 r2 r7 r8 r9 h) (tabN))
noncomputable def F51 (args : List Value) (h : Hp) : CRes := packVals [Kd.v, Kd.v, Kd.v] args fun al => rec' T51 1000000 0 al h
def nt51 : Nat := 3 + (23 - 3)
theorem q51x1 (S : Sg) (r0 : Value) (r2 : Value) (r7 : Value) (r8 : Int) (r9 : Int) (h : Hp) : P51x1 S r0 r2 r7 r8 r9 h = stepAt (regK env orc54 (nt51)) (finK env Try.f51.results.toList) (collect B51 A51 []) 1 S (AL.v r0 (AL.v r2 (AL.v r7 (AL.i r8 (AL.i r9 AL.n))))) h := by kernel_rfl
theorem q51x0 (S : Sg) (r0 : Value) (r1 : Value) (r2 : Value) (h : Hp) : P51x0 S r0 r1 r2 h = stepAt (regK env orc54 (nt51)) (finK env Try.f51.results.toList) (collect B51 A51 []) 0 S (AL.v r0 (AL.v r1 (AL.v r2 AL.n))) h := by kernel_rfl
theorem t51 (S : Sg) : Tab (fun l vs h => stepAt (regK env orc54 nt51) (finK env Try.f51.results.toList) (collect B51 A51 []) l S vs h) (T51 S) := by
  unfold T51
  refine Tab.cons 0 (fun vs0 h q e0 => ?_) ?_
  · obtain ⟨r0, vs1, rfl, e1⟩ := uV_some e0
    obtain ⟨r1, vs2, rfl, e2⟩ := uV_some e1
    obtain ⟨r2, vs3, rfl, e3⟩ := uV_some e2
    obtain ⟨rfl, ee⟩ := uN_some e3
    exact (q51x0 S r0 r1 r2 h).symm.trans ee
  refine Tab.cons 1 (fun vs0 h q e0 => ?_) ?_
  · obtain ⟨r0, vs1, rfl, e1⟩ := uV_some e0
    obtain ⟨r2, vs2, rfl, e2⟩ := uV_some e1
    obtain ⟨r7, vs3, rfl, e3⟩ := uV_some e2
    obtain ⟨r8, vs4, rfl, e4⟩ := uI_some e3
    obtain ⟨r9, vs5, rfl, e5⟩ := uI_some e4
    obtain ⟨rfl, ee⟩ := uN_some e5
    exact (q51x1 S r0 r2 r7 r8 r9 h).symm.trans ee
  exact Tab.nil
theorem r51 : ∀ args h v h', F51 args h = some (v, h') → Runs (C54) (.call 51 args.toArray h) (.ret v h') := by
  intro args h v h' e
  exact fun_sound (C := C54) (fn := Try.f51) (body := B51) (np := 3) (A := A51) (T := T51) (kinds := [Kd.v, Kd.v, Kd.v]) (by kernel_rfl) (by kernel_rfl) (by kernel_rfl) (by kernel_rfl) (regK_ok env_ok) (by kernel_rfl) (fun S => t51 S) e
noncomputable def orc55 := orcQ 51 F51 orc54
noncomputable def C55 : Cfg := cfg orc55
theorem ok55 : C55.Ok := orcQ_ok (C := C54) ok54 r51
noncomputable def B35 : Code := (Try.f35.body).getD .skip
def A35 : Ann := (Ann.node (some (0, [(0, Kd.v), (1, Kd.v)])) Ann.nil (Ann.node none Ann.nil Ann.nil))
noncomputable def P35x0 (S : Sg) (r0 : Value) (r1 : Value) (h : Hp) : CRes :=
  allocK h 48 (Array.toList (Value.cells r0)) fun a0 h0 =>
  allocK h0 58 (Array.toList (Value.cells r1)) fun a1 h1 =>
  some ((Value.func (.func 51) (List.toArray []) (List.toArray [a0, a1])), h1)
noncomputable def T35 (S : Sg) : Sg := tabC 0 (uV fun r0 => uV fun r1 => uN fun h => P35x0 S r0 r1 h) (tabN)
noncomputable def F35 (args : List Value) (h : Hp) : CRes := packVals [Kd.v, Kd.v] args fun al => rec' T35 1000000 0 al h
def nt35 : Nat := 2 + (6 - 2)
theorem q35x0 (S : Sg) (r0 : Value) (r1 : Value) (h : Hp) : P35x0 S r0 r1 h = stepAt (regK env orc55 (nt35)) (finK env Try.f35.results.toList) (collect B35 A35 []) 0 S (AL.v r0 (AL.v r1 AL.n)) h := by kernel_rfl
theorem t35 (S : Sg) : Tab (fun l vs h => stepAt (regK env orc55 nt35) (finK env Try.f35.results.toList) (collect B35 A35 []) l S vs h) (T35 S) := by
  unfold T35
  refine Tab.cons 0 (fun vs0 h q e0 => ?_) ?_
  · obtain ⟨r0, vs1, rfl, e1⟩ := uV_some e0
    obtain ⟨r1, vs2, rfl, e2⟩ := uV_some e1
    obtain ⟨rfl, ee⟩ := uN_some e2
    exact (q35x0 S r0 r1 h).symm.trans ee
  exact Tab.nil
theorem r35 : ∀ args h v h', F35 args h = some (v, h') → Runs (C55) (.call 35 args.toArray h) (.ret v h') := by
  intro args h v h' e
  exact fun_sound (C := C55) (fn := Try.f35) (body := B35) (np := 2) (A := A35) (T := T35) (kinds := [Kd.v, Kd.v]) (by kernel_rfl) (by kernel_rfl) (by kernel_rfl) (by kernel_rfl) (regK_ok env_ok) (by kernel_rfl) (fun S => t35 S) e
noncomputable def orc56 := orcQ 35 F35 orc55
noncomputable def C56 : Cfg := cfg orc56
theorem ok56 : C56.Ok := orcQ_ok (C := C55) ok55 r35
noncomputable def B36 : Code := (Try.f36.body).getD .skip
def A36 : Ann := (Ann.node (some (0, [(0, Kd.v), (1, Kd.i .i64), (2, Kd.i .i64)])) Ann.nil (Ann.node none Ann.nil (Ann.node none Ann.nil Ann.nil)))
noncomputable def P36x0 (S : Sg) (r0 : Value) (r1 : Int) (r2 : Int) (h : Hp) : CRes :=
  allocK h 48 (Array.toList (Value.cells r0)) fun a0 h0 =>
  ptrAddK 0 a0 fun v1 =>
  ptrAddK 0 v1 fun v2 =>
  idxAK 3 1 v2 r1 fun v3 =>
  load1K h0 v3 fun v4 =>
  intK .i64 v4 fun i5 =>
  wrap64 (Int.add i5 r2) fun i6 =>
  ptrAddK 0 a0 fun v7 =>
  ptrAddK 0 v7 fun v8 =>
  idxAK 3 1 v8 r1 fun v9 =>
  store1K h0 v9 (Value.int .i64 i6) fun h10 =>
  loadNK 11 h10 a0 fun v11 =>
  optK (buildV env 23 (List.toArray [])) fun v12 =>
  pairK (callQ F50 [v11, v12] h10) fun v13 h13 =>
  optK (buildV env 75 (List.toArray [])) fun v14 =>
  optK (binV env .neq 75 (Operand.tmp 19) (Operand.tmp 20) v13 v14) fun v15 =>
  boolK v15 fun b16 =>
  some ((Value.bool b16), h13)
noncomputable def T36 (S : Sg) : Sg := tabC 0 (uV fun r0 => uI fun r1 => uI fun r2 => uN fun h => P36x0 S r0 r1 r2 h) (tabN)
noncomputable def F36 (args : List Value) (h : Hp) : CRes := packVals [Kd.v, Kd.i .i64, Kd.i .i64] args fun al => rec' T36 1000000 0 al h
def nt36 : Nat := 3 + (22 - 3)
theorem q36x0 (S : Sg) (r0 : Value) (r1 : Int) (r2 : Int) (h : Hp) : P36x0 S r0 r1 r2 h = stepAt (regK env orc56 (nt36)) (finK env Try.f36.results.toList) (collect B36 A36 []) 0 S (AL.v r0 (AL.i r1 (AL.i r2 AL.n))) h := by kernel_rfl
theorem t36 (S : Sg) : Tab (fun l vs h => stepAt (regK env orc56 nt36) (finK env Try.f36.results.toList) (collect B36 A36 []) l S vs h) (T36 S) := by
  unfold T36
  refine Tab.cons 0 (fun vs0 h q e0 => ?_) ?_
  · obtain ⟨r0, vs1, rfl, e1⟩ := uV_some e0
    obtain ⟨r1, vs2, rfl, e2⟩ := uI_some e1
    obtain ⟨r2, vs3, rfl, e3⟩ := uI_some e2
    obtain ⟨rfl, ee⟩ := uN_some e3
    exact (q36x0 S r0 r1 r2 h).symm.trans ee
  exact Tab.nil
theorem r36 : ∀ args h v h', F36 args h = some (v, h') → Runs (C56) (.call 36 args.toArray h) (.ret v h') := by
  intro args h v h' e
  exact fun_sound (C := C56) (fn := Try.f36) (body := B36) (np := 3) (A := A36) (T := T36) (kinds := [Kd.v, Kd.i .i64, Kd.i .i64]) (by kernel_rfl) (by kernel_rfl) (by kernel_rfl) (by kernel_rfl) (regK_ok env_ok) (by kernel_rfl) (fun S => t36 S) e
noncomputable def orc57 := orcQ 36 F36 orc56
noncomputable def C57 : Cfg := cfg orc57
theorem ok57 : C57.Ok := orcQ_ok (C := C56) ok56 r36
noncomputable def B23 : Code := (Try.f23.body).getD .skip
def A23 : Ann := (Ann.node (some (0, [(0, Kd.v)])) Ann.nil (Ann.node none Ann.nil (Ann.node none (Ann.node none Ann.nil (Ann.node none (Ann.node none Ann.nil Ann.nil) Ann.nil)) (Ann.node none (Ann.node none Ann.nil (Ann.node none (Ann.node none Ann.nil Ann.nil) Ann.nil)) (Ann.node none (Ann.node none Ann.nil (Ann.node none (Ann.node (some (1, [(5, Kd.v), (18, Kd.i .i64)])) (Ann.node none Ann.nil (Ann.node none (Ann.node none Ann.nil Ann.nil) (Ann.node none (Ann.node none (Ann.node none Ann.nil (Ann.node none Ann.nil (Ann.node none (Ann.node (some (2, [(5, Kd.v), (6, Kd.i .i64), (18, Kd.i .i64), (21, Kd.i .i64)])) (Ann.node none Ann.nil (Ann.node none (Ann.node none Ann.nil Ann.nil) (Ann.node none (Ann.node none (Ann.node none Ann.nil (Ann.node none Ann.nil (Ann.node none (Ann.node none Ann.nil Ann.nil) Ann.nil))) Ann.nil) Ann.nil))) Ann.nil) Ann.nil))) Ann.nil) (Ann.node (some (3, [(5, Kd.v), (18, Kd.i .i64)])) Ann.nil Ann.nil)))) Ann.nil) Ann.nil)) (Ann.node (some (4, [])) Ann.nil Ann.nil))))))
noncomputable def P23x4 (S : Sg) (h : Hp) : CRes :=
  some (Value.tuple (List.toArray [(Value.int .i64 (Int.ofNat 0)), (Value.int .i64 (Int.ofNat 0)), (Value.int .i64 (Int.ofNat 9))]), h)
noncomputable def P23x3 (S : Sg) (r5 : Value) (r18 : Int) (h : Hp) : CRes :=
  wrap64 (Int.add r18 (Int.ofNat 1)) fun i0 =>
  S 1 (AL.v r5 (AL.i i0 AL.n)) h
noncomputable def P23x2 (S : Sg) (r5 : Value) (r6 : Int) (r18 : Int) (r21 : Int) (h : Hp) : CRes :=
  boolZ (ltZ r21 (Int.ofNat 3)) fun b0 =>
  ifB b0
  (loadNK 11 h r5 fun v1 =>
  wrap64 (Int.add r6 (Int.ofNat 1)) fun i2 =>
  pairK (callQ F36 [v1, (Value.int .i64 r21), (Value.int .i64 i2)] h) fun v3 h3 =>
  boolK v3 fun b4 =>
  ifB b4
  (wrap64 (Int.add r6 (Int.ofNat 1)) fun i5 =>
  some (Value.tuple (List.toArray [(Value.int .i64 r21), (Value.int .i64 i5), (Value.int .i64 (Int.ofNat 0))]), h3))
  (wrap64 (Int.add r21 (Int.ofNat 1)) fun i6 =>
  S 2 (AL.v r5 (AL.i r6 (AL.i r18 (AL.i i6 AL.n)))) h3))
  (S 3 (AL.v r5 (AL.i r18 AL.n)) h)
noncomputable def P23x1 (S : Sg) (r5 : Value) (r18 : Int) (h : Hp) : CRes :=
  boolZ (ltZ r18 (Int.ofNat 40)) fun b0 =>
  ifB b0
  (S 2 (AL.v r5 (AL.i r18 (AL.i r18 (AL.i (Int.ofNat 0) AL.n)))) h)
  (S 4 AL.n h)
noncomputable def P23x0 (S : Sg) (r0 : Value) (h : Hp) : CRes :=
  allocK h 27 (Array.toList (Value.cells r0)) fun a0 h0 =>
  loadNK 6 h0 a0 fun v1 =>
  pairK (callQ F11 [v1] h0) fun v2 h2 =>
  extK v2 0 fun v3 =>
  extK v2 1 fun v4 =>
  intK .i64 v4 fun i5 =>
  allocK h2 48 [(Value.int .i64 (Int.ofNat 0)), (Value.int .i64 (Int.ofNat 0)), (Value.int .i64 (Int.ofNat 0)), (Value.int .i64 (Int.ofNat 0)), (Value.slice none 0 0), (Value.slice none 0 0), (Value.int .i64 (Int.ofNat 0)), (Value.slice none 0 0), (Value.slice none 0 0), (Value.int .i64 (Int.ofNat 0)), (Value.map none)] fun a6 h6 =>
  storeNK 11 h6 a6 v3 fun h7 =>
  boolN (eqZ i5 (Int.ofNat 0)) fun b8 =>
  ifB b8
  (some (Value.tuple (List.toArray [(Value.int .i64 (Int.ofNat 0)), (Value.int .i64 (Int.ofNat 0)), (Value.int .i64 i5)]), h7))
  (loadNK 11 h7 a6 fun v9 =>
  pairK (F18 [v9, (Value.slice none 0 0)] h7) fun v10 h10 =>
  boolK v10 fun b11 =>
  ifB b11
  (some (Value.tuple (List.toArray [(Value.int .i64 (Int.ofNat 0)), (Value.int .i64 (Int.ofNat 0)), (Value.int .i64 (Int.ofNat 4))]), h10))
  (S 1 (AL.v a6 (AL.i (Int.ofNat 0) AL.n)) h10))
noncomputable def T23 (S : Sg) : Sg := tabC 0 (uV fun r0 => uN fun h => P23x0 S r0 h) (tabC 1 (uV fun r5 => uI fun r18 => uN fun h => P23x1 S r5 r18 h) (tabC 2 (uV fun r5 => uI fun r6 => uI fun r18 => uI fun r21 => uN fun h => P23x2 S r5 r6 r18 r21 h) (tabC 3 (uV fun r5 => uI fun r18 => uN fun h => P23x3 S r5 r18 h) (tabC 4 (uN fun h => P23x4 S  h) (tabN)))))
noncomputable def F23 (args : List Value) (h : Hp) : CRes := packVals [Kd.v] args fun al => rec' T23 1000000 0 al h
def nt23 : Nat := 1 + (34 - 1)
theorem q23x4 (S : Sg) (h : Hp) : P23x4 S  h = stepAt (regK env orc57 (nt23)) (finK env Try.f23.results.toList) (collect B23 A23 []) 4 S AL.n h := by kernel_rfl
theorem q23x3 (S : Sg) (r5 : Value) (r18 : Int) (h : Hp) : P23x3 S r5 r18 h = stepAt (regK env orc57 (nt23)) (finK env Try.f23.results.toList) (collect B23 A23 []) 3 S (AL.v r5 (AL.i r18 AL.n)) h := by kernel_rfl
theorem q23x2 (S : Sg) (r5 : Value) (r6 : Int) (r18 : Int) (r21 : Int) (h : Hp) : P23x2 S r5 r6 r18 r21 h = stepAt (regK env orc57 (nt23)) (finK env Try.f23.results.toList) (collect B23 A23 []) 2 S (AL.v r5 (AL.i r6 (AL.i r18 (AL.i r21 AL.n)))) h := by kernel_rfl
theorem q23x1 (S : Sg) (r5 : Value) (r18 : Int) (h : Hp) : P23x1 S r5 r18 h = stepAt (regK env orc57 (nt23)) (finK env Try.f23.results.toList) (collect B23 A23 []) 1 S (AL.v r5 (AL.i r18 AL.n)) h := by kernel_rfl
theorem q23x0 (S : Sg) (r0 : Value) (h : Hp) : P23x0 S r0 h = stepAt (regK env orc57 (nt23)) (finK env Try.f23.results.toList) (collect B23 A23 []) 0 S (AL.v r0 AL.n) h := by kernel_rfl
theorem t23 (S : Sg) : Tab (fun l vs h => stepAt (regK env orc57 nt23) (finK env Try.f23.results.toList) (collect B23 A23 []) l S vs h) (T23 S) := by
  unfold T23
  refine Tab.cons 0 (fun vs0 h q e0 => ?_) ?_
  · obtain ⟨r0, vs1, rfl, e1⟩ := uV_some e0
    obtain ⟨rfl, ee⟩ := uN_some e1
    exact (q23x0 S r0 h).symm.trans ee
  refine Tab.cons 1 (fun vs0 h q e0 => ?_) ?_
  · obtain ⟨r5, vs1, rfl, e1⟩ := uV_some e0
    obtain ⟨r18, vs2, rfl, e2⟩ := uI_some e1
    obtain ⟨rfl, ee⟩ := uN_some e2
    exact (q23x1 S r5 r18 h).symm.trans ee
  refine Tab.cons 2 (fun vs0 h q e0 => ?_) ?_
  · obtain ⟨r5, vs1, rfl, e1⟩ := uV_some e0
    obtain ⟨r6, vs2, rfl, e2⟩ := uI_some e1
    obtain ⟨r18, vs3, rfl, e3⟩ := uI_some e2
    obtain ⟨r21, vs4, rfl, e4⟩ := uI_some e3
    obtain ⟨rfl, ee⟩ := uN_some e4
    exact (q23x2 S r5 r6 r18 r21 h).symm.trans ee
  refine Tab.cons 3 (fun vs0 h q e0 => ?_) ?_
  · obtain ⟨r5, vs1, rfl, e1⟩ := uV_some e0
    obtain ⟨r18, vs2, rfl, e2⟩ := uI_some e1
    obtain ⟨rfl, ee⟩ := uN_some e2
    exact (q23x3 S r5 r18 h).symm.trans ee
  refine Tab.cons 4 (fun vs0 h q e0 => ?_) ?_
  · 
    obtain ⟨rfl, ee⟩ := uN_some e0
    exact (q23x4 S  h).symm.trans ee
  exact Tab.nil
theorem r23 : ∀ args h v h', F23 args h = some (v, h') → Runs (C57) (.call 23 args.toArray h) (.ret v h') := by
  intro args h v h' e
  exact fun_sound (C := C57) (fn := Try.f23) (body := B23) (np := 1) (A := A23) (T := T23) (kinds := [Kd.v]) (by kernel_rfl) (by kernel_rfl) (by kernel_rfl) (by kernel_rfl) (regK_ok env_ok) (by kernel_rfl) (fun S => t23 S) e
noncomputable def orc58 := orcQ 23 F23 orc57
noncomputable def C58 : Cfg := cfg orc58
theorem ok58 : C58.Ok := orcQ_ok (C := C57) ok57 r23
noncomputable def B17 : Code := (Try.f17.body).getD .skip
def A17 : Ann := (Ann.node (some (0, [(0, Kd.v), (1, Kd.v)])) Ann.nil (Ann.node none Ann.nil Ann.nil))
noncomputable def P17x0 (S : Sg) (r0 : Value) (r1 : Value) (h : Hp) : CRes :=
  pairK (F30 [r0, r1] h) fun v0 h0 =>
  intK .i64 v0 fun i1 =>
  boolN (ltZ i1 (Int.ofNat 0)) fun b2 =>
  some ((Value.bool b2), h0)
noncomputable def T17 (S : Sg) : Sg := tabC 0 (uV fun r0 => uV fun r1 => uN fun h => P17x0 S r0 r1 h) (tabN)
noncomputable def F17 (args : List Value) (h : Hp) : CRes := packVals [Kd.v, Kd.v] args fun al => rec' T17 1000000 0 al h
def nt17 : Nat := 2 + (9 - 2)
theorem q17x0 (S : Sg) (r0 : Value) (r1 : Value) (h : Hp) : P17x0 S r0 r1 h = stepAt (regK env orc58 (nt17)) (finK env Try.f17.results.toList) (collect B17 A17 []) 0 S (AL.v r0 (AL.v r1 AL.n)) h := by kernel_rfl
theorem t17 (S : Sg) : Tab (fun l vs h => stepAt (regK env orc58 nt17) (finK env Try.f17.results.toList) (collect B17 A17 []) l S vs h) (T17 S) := by
  unfold T17
  refine Tab.cons 0 (fun vs0 h q e0 => ?_) ?_
  · obtain ⟨r0, vs1, rfl, e1⟩ := uV_some e0
    obtain ⟨r1, vs2, rfl, e2⟩ := uV_some e1
    obtain ⟨rfl, ee⟩ := uN_some e2
    exact (q17x0 S r0 r1 h).symm.trans ee
  exact Tab.nil
theorem r17 : ∀ args h v h', F17 args h = some (v, h') → Runs (C58) (.call 17 args.toArray h) (.ret v h') := by
  intro args h v h' e
  exact fun_sound (C := C58) (fn := Try.f17) (body := B17) (np := 2) (A := A17) (T := T17) (kinds := [Kd.v, Kd.v]) (by kernel_rfl) (by kernel_rfl) (by kernel_rfl) (by kernel_rfl) (regK_ok env_ok) (by kernel_rfl) (fun S => t17 S) e
noncomputable def orc59 := orcD 17 F17 orc58
noncomputable def C59 : Cfg := cfg orc59
theorem ok59 : C59.Ok := orcD_ok (C := C58) ok58 r17
noncomputable def B8 : Code := (Try.f8.body).getD .skip
def A8 : Ann := (Ann.node (some (0, [(0, Kd.v)])) Ann.nil (Ann.node none Ann.nil (Ann.node none (Ann.node none Ann.nil (Ann.node none (Ann.node none Ann.nil Ann.nil) Ann.nil)) (Ann.node none (Ann.node none Ann.nil (Ann.node none (Ann.node none Ann.nil Ann.nil) Ann.nil)) (Ann.node none (Ann.node none Ann.nil (Ann.node none (Ann.node (some (1, [(4, Kd.v), (6, Kd.i .i64)])) (Ann.node none (Ann.node none Ann.nil (Ann.node none Ann.nil Ann.nil)) (Ann.node none (Ann.node none (Ann.node none Ann.nil (Ann.node none Ann.nil (Ann.node none (Ann.node none Ann.nil Ann.nil) Ann.nil))) Ann.nil) Ann.nil)) Ann.nil) Ann.nil)) (Ann.node (some (2, [])) Ann.nil Ann.nil))))))
noncomputable def P8x2 (S : Sg) (h : Hp) : CRes :=
  some (Value.tuple (List.toArray [(Value.int .i64 (Int.ofNat 0)), (Value.int .i64 (Int.ofNat 4))]), h)
noncomputable def P8x1 (S : Sg) (r4 : Value) (r6 : Int) (h : Hp) : CRes :=
  boolN (ltZ (Int.ofNat 364) r6) fun b0 =>
  ifB b0
  (ptrAddK 6 r4 fun v1 =>
  store1K h v1 (Value.int .i64 r6) fun h2 =>
  ptrAddK 7 r4 fun v3 =>
  load1K h2 v3 fun v4 =>
  loadNK 11 h2 r4 fun v5 =>
  pairK (F17 [v4, (Value.func (.func 18) (List.toArray [v5]) (List.toArray []))] h2) fun v6 h6 =>
  boolK v6 fun b7 =>
  boolN b7 fun b8 =>
  ifB b8
  (some (Value.tuple (List.toArray [(Value.int .i64 r6), (Value.int .i64 (Int.ofNat 0))]), h6))
  (wrap64 (Int.add r6 (Int.ofNat 1)) fun i9 =>
  S 1 (AL.v r4 (AL.i i9 AL.n)) h6))
  (S 2 AL.n h)
noncomputable def P8x0 (S : Sg) (r0 : Value) (h : Hp) : CRes :=
  allocK h 27 (Array.toList (Value.cells r0)) fun a0 h0 =>
  loadNK 6 h0 a0 fun v1 =>
  pairK (callQ F11 [v1] h0) fun v2 h2 =>
  extK v2 0 fun v3 =>
  extK v2 1 fun v4 =>
  intK .i64 v4 fun i5 =>
  allocK h2 48 [(Value.int .i64 (Int.ofNat 0)), (Value.int .i64 (Int.ofNat 0)), (Value.int .i64 (Int.ofNat 0)), (Value.int .i64 (Int.ofNat 0)), (Value.slice none 0 0), (Value.slice none 0 0), (Value.int .i64 (Int.ofNat 0)), (Value.slice none 0 0), (Value.slice none 0 0), (Value.int .i64 (Int.ofNat 0)), (Value.map none)] fun a6 h6 =>
  storeNK 11 h6 a6 v3 fun h7 =>
  boolN (eqZ i5 (Int.ofNat 0)) fun b8 =>
  ifB b8
  (some (Value.tuple (List.toArray [(Value.int .i64 (Int.ofNat 0)), (Value.int .i64 i5)]), h7))
  (ptrAddK 7 a6 fun v9 =>
  load1K h7 v9 fun v10 =>
  loadNK 11 h7 a6 fun v11 =>
  pairK (F17 [v10, (Value.func (.func 18) (List.toArray [v11]) (List.toArray []))] h7) fun v12 h12 =>
  boolK v12 fun b13 =>
  boolN b13 fun b14 =>
  ifB b14
  (some (Value.tuple (List.toArray [(Value.int .i64 (Int.ofNat 0)), (Value.int .i64 (Int.ofNat 9))]), h12))
  (S 1 (AL.v a6 (AL.i (Int.ofNat 1) AL.n)) h12))
noncomputable def T8 (S : Sg) : Sg := tabC 0 (uV fun r0 => uN fun h => P8x0 S r0 h) (tabC 1 (uV fun r4 => uI fun r6 => uN fun h => P8x1 S r4 r6 h) (tabC 2 (uN fun h => P8x2 S  h) (tabN)))
noncomputable def F8 (args : List Value) (h : Hp) : CRes := packVals [Kd.v] args fun al => rec' T8 1000000 0 al h
def nt8 : Nat := 1 + (34 - 1)
theorem q8x2 (S : Sg) (h : Hp) : P8x2 S  h = stepAt (regK env orc59 (nt8)) (finK env Try.f8.results.toList) (collect B8 A8 []) 2 S AL.n h := by kernel_rfl
theorem q8x1 (S : Sg) (r4 : Value) (r6 : Int) (h : Hp) : P8x1 S r4 r6 h = stepAt (regK env orc59 (nt8)) (finK env Try.f8.results.toList) (collect B8 A8 []) 1 S (AL.v r4 (AL.i r6 AL.n)) h := by kernel_rfl
theorem q8x0 (S : Sg) (r0 : Value) (h : Hp) : P8x0 S r0 h = stepAt (regK env orc59 (nt8)) (finK env Try.f8.results.toList) (collect B8 A8 []) 0 S (AL.v r0 AL.n) h := by kernel_rfl
theorem t8 (S : Sg) : Tab (fun l vs h => stepAt (regK env orc59 nt8) (finK env Try.f8.results.toList) (collect B8 A8 []) l S vs h) (T8 S) := by
  unfold T8
  refine Tab.cons 0 (fun vs0 h q e0 => ?_) ?_
  · obtain ⟨r0, vs1, rfl, e1⟩ := uV_some e0
    obtain ⟨rfl, ee⟩ := uN_some e1
    exact (q8x0 S r0 h).symm.trans ee
  refine Tab.cons 1 (fun vs0 h q e0 => ?_) ?_
  · obtain ⟨r4, vs1, rfl, e1⟩ := uV_some e0
    obtain ⟨r6, vs2, rfl, e2⟩ := uI_some e1
    obtain ⟨rfl, ee⟩ := uN_some e2
    exact (q8x1 S r4 r6 h).symm.trans ee
  refine Tab.cons 2 (fun vs0 h q e0 => ?_) ?_
  · 
    obtain ⟨rfl, ee⟩ := uN_some e0
    exact (q8x2 S  h).symm.trans ee
  exact Tab.nil
theorem r8 : ∀ args h v h', F8 args h = some (v, h') → Runs (C59) (.call 8 args.toArray h) (.ret v h') := by
  intro args h v h' e
  exact fun_sound (C := C59) (fn := Try.f8) (body := B8) (np := 1) (A := A8) (T := T8) (kinds := [Kd.v]) (by kernel_rfl) (by kernel_rfl) (by kernel_rfl) (by kernel_rfl) (regK_ok env_ok) (by kernel_rfl) (fun S => t8 S) e
noncomputable def orc60 := orcQ 8 F8 orc59
noncomputable def C60 : Cfg := cfg orc60
theorem ok60 : C60.Ok := orcQ_ok (C := C59) ok59 r8
noncomputable abbrev orcE := orc60
theorem okE : (cfg orcE).Ok := ok60
end Go.Proofs.Ytegcnkcbmbcdkaa.K
