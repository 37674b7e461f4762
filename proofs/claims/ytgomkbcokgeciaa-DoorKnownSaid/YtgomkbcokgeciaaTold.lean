/- Functions told. -/
import Derived.Test.YtgomkbcokgeciaaTab
open Go Go.Eng
set_option maxRecDepth 100000
set_option linter.unusedVariables false
namespace Go.Proofs.Ytgomkbcokgeciaa.K
noncomputable def B77 : Code := (Try.f77.body).getD .skip
noncomputable def A77 : G.Ann (List KI) := (G.Ann.node (some (0, [KI.reg 0 (Kd.v), KI.reg 1 (Kd.v)])) G.Ann.nil (G.Ann.node none G.Ann.nil G.Ann.nil))
noncomputable def P77x0 (h : Hp) (S : Nat → PAL → Option Value) (r0 : Value) (r1 : Value) : Option Value :=
  forceL (Array.toList (Value.cells r0)) fun c0 =>
  nthR c0 0 fun v1 =>
  ptrAddK 0 r1 fun v2 =>
  load1K h v2 fun v3 =>
  optK (binV env .eql 9 (Operand.tmp 5) (Operand.tmp 7) v1 v3) fun v4 =>
  boolK v4 fun b5 =>
  some (Value.bool b5)
noncomputable def T77 (h : Hp) (S : Nat → PAL → Option Value) : Nat → PAL → Option Value := tabPC 0 (wV fun r0 => wV fun r1 => wN (P77x0 h S r0 r1)) (tabPN)
noncomputable def F77 (args : List Value) (h : Hp) : Option Value := plainO (packArgs [Kd.v, Kd.v] args fun al => G.rec' (T77 h) 1000000 0 al)
def nt77 : Nat := 2 + (9 - 2)
theorem q77x0 (h : Hp) (S : Nat → PAL → Option Value) (r0 : Value) (r1 : Value) : P77x0 h S r0 r1 = G.stepAt packP unpackP evXV (regP env pf0 nt77 h) (finP env Try.f77.results.toList) (G.collect B77 A77 []) 0 S (PAL.v r0 (PAL.v r1 PAL.n)) := by kernel_rfl
theorem t77 (h : Hp) (S : Nat → PAL → Option Value) : TabP (fun l al => G.stepAt packP unpackP evXV (regP env pf0 nt77 h) (finP env Try.f77.results.toList) (G.collect B77 A77 []) l S al) (T77 h S) := by
  unfold T77
  refine TabP.cons 0 (fun vs0 q e0 => ?_) ?_
  · obtain ⟨r0, vs1, rfl, e1⟩ := wV_some e0
    obtain ⟨r1, vs2, rfl, e2⟩ := wV_some e1
    obtain ⟨rfl, ee⟩ := wN_some e2
    exact (q77x0 h S r0 r1).symm.trans ee
  exact TabP.nil
theorem r77 : PSound Try.prog 77 F77 := fun_soundP (C := C0) ok0 (pf := pf0) pfok0 (fn := Try.f77) (body := B77) (kinds := [Kd.v, Kd.v]) (A := A77) (T := T77) (by kernel_rfl) (by kernel_rfl) (by kernel_rfl) (by kernel_rfl) (fun h S => t77 h S)
noncomputable def pf1 : PF := pfC 77 F77 pf0
theorem pfok1 : PfSound Try.prog pf1 := pfC_ok r77 pfok0
noncomputable def orc1 := orcP 77 F77 orc0
noncomputable def C1 : Cfg := cfg orc1
theorem ok1 : C1.Ok := orcP_ok (C := C0) ok0 r77
noncomputable def B14 : Code := (Try.f14.body).getD .skip
noncomputable def A14 : G.Ann (List KI) := (G.Ann.node (some (0, [KI.reg 0 (Kd.i .i64), KI.reg 1 (Kd.i .i64), KI.reg 2 (Kd.v)])) G.Ann.nil (G.Ann.node none (G.Ann.node none G.Ann.nil (G.Ann.node none (G.Ann.node (some (1, [KI.reg 0 (Kd.i .i64), KI.reg 1 (Kd.i .i64), KI.reg 9 (Kd.v), KI.reg 10 (Kd.i .i64), KI.reg 11 (Kd.i .i64)])) (G.Ann.node none G.Ann.nil (G.Ann.node none (G.Ann.node none G.Ann.nil G.Ann.nil) (G.Ann.node none (G.Ann.node none (G.Ann.node none G.Ann.nil (G.Ann.node none G.Ann.nil (G.Ann.node none (G.Ann.node none G.Ann.nil G.Ann.nil) G.Ann.nil))) G.Ann.nil) G.Ann.nil))) G.Ann.nil) G.Ann.nil)) (G.Ann.node (some (2, [])) G.Ann.nil G.Ann.nil)))
noncomputable def P14x2 (h : Hp) (S : Nat → PAL → Option Value) : Option Value :=
  some (Value.bool true)
noncomputable def P14x1 (h : Hp) (S : Nat → PAL → Option Value) (r0 : Int) (r1 : Int) (r9 : Value) (r10 : Int) (r11 : Int) : Option Value :=
  boolZ (ltZ r11 r10) fun b0 =>
  ifB b0
  (idxSK 1 r9 r11 fun v1 =>
  load1K h v1 fun v2 =>
  intK .i64 v2 fun i3 =>
  boolZ (ltZ i3 r0) fun b4 =>
  ifB b4
  (some (Value.bool false))
  (boolZ (ltZ r1 i3) fun b5 =>
  ifB b5
  (some (Value.bool false))
  (wrap64 (Int.add r11 (Int.ofNat 1)) fun i6 =>
  S 1 (PAL.i r0 (PAL.i r1 (PAL.v r9 (PAL.i r10 (PAL.i i6 PAL.n))))))))
  (S 2 PAL.n)
noncomputable def P14x0 (h : Hp) (S : Nat → PAL → Option Value) (r0 : Int) (r1 : Int) (r2 : Value) : Option Value :=
  lenSK r2 fun i0 =>
  S 1 (PAL.i r0 (PAL.i r1 (PAL.v r2 (PAL.i i0 (PAL.i (Int.ofNat 0) PAL.n)))))
noncomputable def T14 (h : Hp) (S : Nat → PAL → Option Value) : Nat → PAL → Option Value := tabPC 0 (wI fun r0 => wI fun r1 => wV fun r2 => wN (P14x0 h S r0 r1 r2)) (tabPC 1 (wI fun r0 => wI fun r1 => wV fun r9 => wI fun r10 => wI fun r11 => wN (P14x1 h S r0 r1 r9 r10 r11)) (tabPC 2 (wN (P14x2 h S)) (tabPN)))
noncomputable def F14 (args : List Value) (h : Hp) : Option Value := plainO (packArgs [Kd.i .i64, Kd.i .i64, Kd.v] args fun al => G.rec' (T14 h) 1000000 0 al)
def nt14 : Nat := 3 + (24 - 3)
theorem q14x2 (h : Hp) (S : Nat → PAL → Option Value) : P14x2 h S = G.stepAt packP unpackP evXV (regP env pf1 nt14 h) (finP env Try.f14.results.toList) (G.collect B14 A14 []) 2 S PAL.n := by kernel_rfl
theorem q14x1 (h : Hp) (S : Nat → PAL → Option Value) (r0 : Int) (r1 : Int) (r9 : Value) (r10 : Int) (r11 : Int) : P14x1 h S r0 r1 r9 r10 r11 = G.stepAt packP unpackP evXV (regP env pf1 nt14 h) (finP env Try.f14.results.toList) (G.collect B14 A14 []) 1 S (PAL.i r0 (PAL.i r1 (PAL.v r9 (PAL.i r10 (PAL.i r11 PAL.n))))) := by kernel_rfl
theorem q14x0 (h : Hp) (S : Nat → PAL → Option Value) (r0 : Int) (r1 : Int) (r2 : Value) : P14x0 h S r0 r1 r2 = G.stepAt packP unpackP evXV (regP env pf1 nt14 h) (finP env Try.f14.results.toList) (G.collect B14 A14 []) 0 S (PAL.i r0 (PAL.i r1 (PAL.v r2 PAL.n))) := by kernel_rfl
theorem t14 (h : Hp) (S : Nat → PAL → Option Value) : TabP (fun l al => G.stepAt packP unpackP evXV (regP env pf1 nt14 h) (finP env Try.f14.results.toList) (G.collect B14 A14 []) l S al) (T14 h S) := by
  unfold T14
  refine TabP.cons 0 (fun vs0 q e0 => ?_) ?_
  · obtain ⟨r0, vs1, rfl, e1⟩ := wI_some e0
    obtain ⟨r1, vs2, rfl, e2⟩ := wI_some e1
    obtain ⟨r2, vs3, rfl, e3⟩ := wV_some e2
    obtain ⟨rfl, ee⟩ := wN_some e3
    exact (q14x0 h S r0 r1 r2).symm.trans ee
  refine TabP.cons 1 (fun vs0 q e0 => ?_) ?_
  · obtain ⟨r0, vs1, rfl, e1⟩ := wI_some e0
    obtain ⟨r1, vs2, rfl, e2⟩ := wI_some e1
    obtain ⟨r9, vs3, rfl, e3⟩ := wV_some e2
    obtain ⟨r10, vs4, rfl, e4⟩ := wI_some e3
    obtain ⟨r11, vs5, rfl, e5⟩ := wI_some e4
    obtain ⟨rfl, ee⟩ := wN_some e5
    exact (q14x1 h S r0 r1 r9 r10 r11).symm.trans ee
  refine TabP.cons 2 (fun vs0 q e0 => ?_) ?_
  · 
    obtain ⟨rfl, ee⟩ := wN_some e0
    exact (q14x2 h S).symm.trans ee
  exact TabP.nil
theorem r14 : PSound Try.prog 14 F14 := fun_soundP (C := C0) ok0 (pf := pf1) pfok1 (fn := Try.f14) (body := B14) (kinds := [Kd.i .i64, Kd.i .i64, Kd.v]) (A := A14) (T := T14) (by kernel_rfl) (by kernel_rfl) (by kernel_rfl) (by kernel_rfl) (fun h S => t14 h S)
noncomputable def pf2 : PF := pfC 14 F14 pf1
theorem pfok2 : PfSound Try.prog pf2 := pfC_ok r14 pfok1
noncomputable def orc2 := orcP 14 F14 orc1
noncomputable def C2 : Cfg := cfg orc2
theorem ok2 : C2.Ok := orcP_ok (C := C1) ok1 r14
noncomputable def B88 : Code := (Try.f88.body).getD .skip
noncomputable def A88 : G.Ann (List KI) := (G.Ann.node (some (0, [KI.reg 0 (Kd.i .u8)])) G.Ann.nil (G.Ann.node none G.Ann.nil G.Ann.nil))
noncomputable def P88x0 (h : Hp) (S : Nat → PAL → Option Value) (r0 : Int) : Option Value :=
  boolN (ltZ r0 (Int.ofNat 97)) fun b0 =>
  ifB b0
  (boolN (ltZ (Int.ofNat 122) r0) fun b1 =>
  some (Value.bool b1))
  (some (Value.bool false))
noncomputable def T88 (h : Hp) (S : Nat → PAL → Option Value) : Nat → PAL → Option Value := tabPC 0 (wI fun r0 => wN (P88x0 h S r0)) (tabPN)
noncomputable def F88 (args : List Value) (h : Hp) : Option Value := plainO (packArgs [Kd.i .u8] args fun al => G.rec' (T88 h) 1000000 0 al)
def nt88 : Nat := 1 + (9 - 1)
theorem q88x0 (h : Hp) (S : Nat → PAL → Option Value) (r0 : Int) : P88x0 h S r0 = G.stepAt packP unpackP evXV (regP env pf2 nt88 h) (finP env Try.f88.results.toList) (G.collect B88 A88 []) 0 S (PAL.i r0 PAL.n) := by kernel_rfl
theorem t88 (h : Hp) (S : Nat → PAL → Option Value) : TabP (fun l al => G.stepAt packP unpackP evXV (regP env pf2 nt88 h) (finP env Try.f88.results.toList) (G.collect B88 A88 []) l S al) (T88 h S) := by
  unfold T88
  refine TabP.cons 0 (fun vs0 q e0 => ?_) ?_
  · obtain ⟨r0, vs1, rfl, e1⟩ := wI_some e0
    obtain ⟨rfl, ee⟩ := wN_some e1
    exact (q88x0 h S r0).symm.trans ee
  exact TabP.nil
theorem r88 : PSound Try.prog 88 F88 := fun_soundP (C := C0) ok0 (pf := pf2) pfok2 (fn := Try.f88) (body := B88) (kinds := [Kd.i .u8]) (A := A88) (T := T88) (by kernel_rfl) (by kernel_rfl) (by kernel_rfl) (by kernel_rfl) (fun h S => t88 h S)
noncomputable def pf3 : PF := pfC 88 F88 pf2
theorem pfok3 : PfSound Try.prog pf3 := pfC_ok r88 pfok2
noncomputable def orc3 := orcP 88 F88 orc2
noncomputable def C3 : Cfg := cfg orc3
theorem ok3 : C3.Ok := orcP_ok (C := C2) ok2 r88
noncomputable def B89 : Code := (Try.f89.body).getD .skip
noncomputable def A89 : G.Ann (List KI) := (G.Ann.node (some (0, [KI.reg 0 (Kd.i .u8)])) G.Ann.nil (G.Ann.node none G.Ann.nil G.Ann.nil))
noncomputable def P89x0 (h : Hp) (S : Nat → PAL → Option Value) (r0 : Int) : Option Value :=
  boolN (ltZ r0 (Int.ofNat 48)) fun b0 =>
  ifB b0
  (boolN (ltZ (Int.ofNat 57) r0) fun b1 =>
  some (Value.bool b1))
  (some (Value.bool false))
noncomputable def T89 (h : Hp) (S : Nat → PAL → Option Value) : Nat → PAL → Option Value := tabPC 0 (wI fun r0 => wN (P89x0 h S r0)) (tabPN)
noncomputable def F89 (args : List Value) (h : Hp) : Option Value := plainO (packArgs [Kd.i .u8] args fun al => G.rec' (T89 h) 1000000 0 al)
def nt89 : Nat := 1 + (9 - 1)
theorem q89x0 (h : Hp) (S : Nat → PAL → Option Value) (r0 : Int) : P89x0 h S r0 = G.stepAt packP unpackP evXV (regP env pf3 nt89 h) (finP env Try.f89.results.toList) (G.collect B89 A89 []) 0 S (PAL.i r0 PAL.n) := by kernel_rfl
theorem t89 (h : Hp) (S : Nat → PAL → Option Value) : TabP (fun l al => G.stepAt packP unpackP evXV (regP env pf3 nt89 h) (finP env Try.f89.results.toList) (G.collect B89 A89 []) l S al) (T89 h S) := by
  unfold T89
  refine TabP.cons 0 (fun vs0 q e0 => ?_) ?_
  · obtain ⟨r0, vs1, rfl, e1⟩ := wI_some e0
    obtain ⟨rfl, ee⟩ := wN_some e1
    exact (q89x0 h S r0).symm.trans ee
  exact TabP.nil
theorem r89 : PSound Try.prog 89 F89 := fun_soundP (C := C0) ok0 (pf := pf3) pfok3 (fn := Try.f89) (body := B89) (kinds := [Kd.i .u8]) (A := A89) (T := T89) (by kernel_rfl) (by kernel_rfl) (by kernel_rfl) (by kernel_rfl) (fun h S => t89 h S)
noncomputable def pf4 : PF := pfC 89 F89 pf3
theorem pfok4 : PfSound Try.prog pf4 := pfC_ok r89 pfok3
noncomputable def orc4 := orcP 89 F89 orc3
noncomputable def C4 : Cfg := cfg orc4
theorem ok4 : C4.Ok := orcP_ok (C := C3) ok3 r89
noncomputable def B75 : Code := (Try.f75.body).getD .skip
def A75 : Ann := (Ann.node (some (0, [(0, Kd.v)])) Ann.nil (Ann.node none (Ann.node none Ann.nil (Ann.node none (Ann.node none Ann.nil Ann.nil) Ann.nil)) (Ann.node none (Ann.node none Ann.nil (Ann.node none (Ann.node (some (1, [(0, Kd.v), (16, Kd.i .i64), (17, Kd.i .i64)])) (Ann.node none Ann.nil (Ann.node none (Ann.node none Ann.nil Ann.nil) (Ann.node none (Ann.node none (Ann.node none Ann.nil (Ann.node none Ann.nil (Ann.node none (Ann.node none Ann.nil Ann.nil) Ann.nil))) Ann.nil) Ann.nil))) Ann.nil) Ann.nil)) (Ann.node (some (2, [])) Ann.nil Ann.nil))))
noncomputable def P75x2 (S : Sg) (h : Hp) : CRes :=
  some ((Value.bool true), h)
noncomputable def P75x1 (S : Sg) (r0 : Value) (r16 : Int) (r17 : Int) (h : Hp) : CRes :=
  boolZ (ltZ r17 r16) fun b0 =>
  ifB b0
  (optK (indexV env 9 r0 (Value.int .i64 r17)) fun v1 =>
  intK .u8 v1 fun i2 =>
  pairK (optK (F88 [(Value.int .u8 i2)] h) fun v => some (v, h)) fun v3 h3 =>
  boolK v3 fun b4 =>
  boolN b4 fun b5 =>
  ifB b5
  (optK (indexV env 9 r0 (Value.int .i64 r17)) fun v6 =>
  intK .u8 v6 fun i7 =>
  pairK (optK (F89 [(Value.int .u8 i7)] h3) fun v => some (v, h3)) fun v8 h8 =>
  boolK v8 fun b9 =>
  boolN b9 fun b10 =>
  ifB b10
  (optK (indexV env 9 r0 (Value.int .i64 r17)) fun v11 =>
  intK .u8 v11 fun i12 =>
  boolN (eqZ i12 (Int.ofNat 46)) fun b13 =>
  ifB b13
  (some ((Value.bool false), h8))
  (wrap64 (Int.add r17 (Int.ofNat 1)) fun i14 =>
  S 1 (AL.v r0 (AL.i r16 (AL.i i14 AL.n))) h8))
  (wrap64 (Int.add r17 (Int.ofNat 1)) fun i15 =>
  S 1 (AL.v r0 (AL.i r16 (AL.i i15 AL.n))) h8))
  (wrap64 (Int.add r17 (Int.ofNat 1)) fun i16 =>
  S 1 (AL.v r0 (AL.i r16 (AL.i i16 AL.n))) h3))
  (S 2 AL.n h)
noncomputable def P75x0 (S : Sg) (r0 : Value) (h : Hp) : CRes :=
  lenBK r0 fun i0 =>
  pairK (buildSliceV env h 36 1 (List.toArray [(0, (Value.int .i64 i0))])) fun v1 h1 =>
  pairK (optK (F14 [(Value.int .i64 (Int.ofNat 1)), (Value.int .i64 (Int.ofNat 16)), v1] h1) fun v => some (v, h1)) fun v2 h2 =>
  boolK v2 fun b3 =>
  boolN b3 fun b4 =>
  ifB b4
  (some ((Value.bool false), h2))
  (optK (indexV env 9 r0 (Value.int .i64 (Int.ofNat 0))) fun v5 =>
  intK .u8 v5 fun i6 =>
  pairK (optK (F88 [(Value.int .u8 i6)] h2) fun v => some (v, h2)) fun v7 h7 =>
  boolK v7 fun b8 =>
  boolN b8 fun b9 =>
  ifB b9
  (some ((Value.bool false), h7))
  (lenBK r0 fun i10 =>
  S 1 (AL.v r0 (AL.i i10 (AL.i (Int.ofNat 0) AL.n))) h7))
noncomputable def T75 (S : Sg) : Sg := tabC 0 (uV fun r0 => uN fun h => P75x0 S r0 h) (tabC 1 (uV fun r0 => uI fun r16 => uI fun r17 => uN fun h => P75x1 S r0 r16 r17 h) (tabC 2 (uN fun h => P75x2 S  h) (tabN)))
noncomputable def F75 (args : List Value) (h : Hp) : CRes := packVals [Kd.v] args fun al => rec' T75 1000000 0 al h
def nt75 : Nat := 1 + (39 - 1)
theorem q75x2 (S : Sg) (h : Hp) : P75x2 S  h = stepAt (regK env orc4 (nt75)) (finK env Try.f75.results.toList) (collect B75 A75 []) 2 S AL.n h := by kernel_rfl
theorem q75x1 (S : Sg) (r0 : Value) (r16 : Int) (r17 : Int) (h : Hp) : P75x1 S r0 r16 r17 h = stepAt (regK env orc4 (nt75)) (finK env Try.f75.results.toList) (collect B75 A75 []) 1 S (AL.v r0 (AL.i r16 (AL.i r17 AL.n))) h := by kernel_rfl
theorem q75x0 (S : Sg) (r0 : Value) (h : Hp) : P75x0 S r0 h = stepAt (regK env orc4 (nt75)) (finK env Try.f75.results.toList) (collect B75 A75 []) 0 S (AL.v r0 AL.n) h := by kernel_rfl
theorem t75 (S : Sg) : Tab (fun l vs h => stepAt (regK env orc4 nt75) (finK env Try.f75.results.toList) (collect B75 A75 []) l S vs h) (T75 S) := by
  unfold T75
  refine Tab.cons 0 (fun vs0 h q e0 => ?_) ?_
  · obtain ⟨r0, vs1, rfl, e1⟩ := uV_some e0
    obtain ⟨rfl, ee⟩ := uN_some e1
    exact (q75x0 S r0 h).symm.trans ee
  refine Tab.cons 1 (fun vs0 h q e0 => ?_) ?_
  · obtain ⟨r0, vs1, rfl, e1⟩ := uV_some e0
    obtain ⟨r16, vs2, rfl, e2⟩ := uI_some e1
    obtain ⟨r17, vs3, rfl, e3⟩ := uI_some e2
    obtain ⟨rfl, ee⟩ := uN_some e3
    exact (q75x1 S r0 r16 r17 h).symm.trans ee
  refine Tab.cons 2 (fun vs0 h q e0 => ?_) ?_
  · 
    obtain ⟨rfl, ee⟩ := uN_some e0
    exact (q75x2 S  h).symm.trans ee
  exact Tab.nil
theorem r75 : ∀ args h v h', F75 args h = some (v, h') → Runs (C4) (.call 75 args.toArray h) (.ret v h') := by
  intro args h v h' e
  exact fun_sound (C := C4) (fn := Try.f75) (body := B75) (np := 1) (A := A75) (T := T75) (kinds := [Kd.v]) (by kernel_rfl) (by kernel_rfl) (by kernel_rfl) (by kernel_rfl) (regK_ok env_ok) (by kernel_rfl) (fun S => t75 S) e
noncomputable def orc5 := orcQ 75 F75 orc4
noncomputable def C5 : Cfg := cfg orc5
theorem ok5 : C5.Ok := orcQ_ok (C := C4) ok4 r75
noncomputable def B90 : Code := (Try.f90.body).getD .skip
def A90 : Ann := (Ann.node (some (0, [(0, Kd.v), (1, Kd.v)])) Ann.nil (Ann.node none (Ann.node none Ann.nil (Ann.node none (Ann.node (some (1, [(0, Kd.v), (1, Kd.v), (7, Kd.i .i64), (8, Kd.i .i64)])) (Ann.node none Ann.nil (Ann.node none (Ann.node none Ann.nil Ann.nil) (Ann.node none (Ann.node none (Ann.node none Ann.nil (Ann.node none Ann.nil (Ann.node none (Ann.node none Ann.nil Ann.nil) Ann.nil))) Ann.nil) Ann.nil))) Ann.nil) Ann.nil)) (Ann.node (some (2, [])) Ann.nil Ann.nil)))
noncomputable def P90x2 (S : Sg) (h : Hp) : CRes :=
  some ((Value.int .i64 (Int.negSucc 0)), h)
noncomputable def P90x1 (S : Sg) (r0 : Value) (r1 : Value) (r7 : Int) (r8 : Int) (h : Hp) : CRes :=
  boolZ (ltZ r8 r7) fun b0 =>
  ifB b0
  (idxSK 3 r0 r8 fun v1 =>
  loadNK 3 h v1 fun v2 =>
  pairK (callF orc5 r1 [v2] h) fun v3 h3 =>
  boolK v3 fun b4 =>
  ifB b4
  (some ((Value.int .i64 r8), h3))
  (wrap64 (Int.add r8 (Int.ofNat 1)) fun i5 =>
  S 1 (AL.v r0 (AL.v r1 (AL.i r7 (AL.i i5 AL.n)))) h3))
  (S 2 AL.n h)
noncomputable def P90x0 (S : Sg) (r0 : Value) (r1 : Value) (h : Hp) : CRes :=
  lenSK r0 fun i0 =>
  S 1 (AL.v r0 (AL.v r1 (AL.i i0 (AL.i (Int.ofNat 0) AL.n)))) h
noncomputable def T90 (S : Sg) : Sg := tabC 0 (uV fun r0 => uV fun r1 => uN fun h => P90x0 S r0 r1 h) (tabC 1 (uV fun r0 => uV fun r1 => uI fun r7 => uI fun r8 => uN fun h => P90x1 S r0 r1 r7 r8 h) (tabC 2 (uN fun h => P90x2 S  h) (tabN)))
noncomputable def F90 (args : List Value) (h : Hp) : CRes := packVals [Kd.v, Kd.v] args fun al => rec' T90 1000000 0 al h
def nt90 : Nat := 2 + (19 - 2)
theorem q90x2 (S : Sg) (h : Hp) : P90x2 S  h = stepAt (regK env orc5 (nt90)) (finK env Try.f90.results.toList) (collect B90 A90 []) 2 S AL.n h := by kernel_rfl
theorem q90x1 (S : Sg) (r0 : Value) (r1 : Value) (r7 : Int) (r8 : Int) (h : Hp) : P90x1 S r0 r1 r7 r8 h = stepAt (regK env orc5 (nt90)) (finK env Try.f90.results.toList) (collect B90 A90 []) 1 S (AL.v r0 (AL.v r1 (AL.i r7 (AL.i r8 AL.n)))) h := by kernel_rfl
theorem q90x0 (S : Sg) (r0 : Value) (r1 : Value) (h : Hp) : P90x0 S r0 r1 h = stepAt (regK env orc5 (nt90)) (finK env Try.f90.results.toList) (collect B90 A90 []) 0 S (AL.v r0 (AL.v r1 AL.n)) h := by kernel_rfl
theorem t90 (S : Sg) : Tab (fun l vs h => stepAt (regK env orc5 nt90) (finK env Try.f90.results.toList) (collect B90 A90 []) l S vs h) (T90 S) := by
  unfold T90
  refine Tab.cons 0 (fun vs0 h q e0 => ?_) ?_
  · obtain ⟨r0, vs1, rfl, e1⟩ := uV_some e0
    obtain ⟨r1, vs2, rfl, e2⟩ := uV_some e1
    obtain ⟨rfl, ee⟩ := uN_some e2
    exact (q90x0 S r0 r1 h).symm.trans ee
  refine Tab.cons 1 (fun vs0 h q e0 => ?_) ?_
  · obtain ⟨r0, vs1, rfl, e1⟩ := uV_some e0
    obtain ⟨r1, vs2, rfl, e2⟩ := uV_some e1
    obtain ⟨r7, vs3, rfl, e3⟩ := uI_some e2
    obtain ⟨r8, vs4, rfl, e4⟩ := uI_some e3
    obtain ⟨rfl, ee⟩ := uN_some e4
    exact (q90x1 S r0 r1 r7 r8 h).symm.trans ee
  refine Tab.cons 2 (fun vs0 h q e0 => ?_) ?_
  · 
    obtain ⟨rfl, ee⟩ := uN_some e0
    exact (q90x2 S  h).symm.trans ee
  exact Tab.nil
theorem r90 : ∀ args h v h', F90 args h = some (v, h') → Runs (C5) (.call 90 args.toArray h) (.ret v h') := by
  intro args h v h' e
  exact fun_sound (C := C5) (fn := Try.f90) (body := B90) (np := 2) (A := A90) (T := T90) (kinds := [Kd.v, Kd.v]) (by kernel_rfl) (by kernel_rfl) (by kernel_rfl) (by kernel_rfl) (regK_ok env_ok) (by kernel_rfl) (fun S => t90 S) e
noncomputable def orc6 := orcQ 90 F90 orc5
noncomputable def C6 : Cfg := cfg orc6
theorem ok6 : C6.Ok := orcQ_ok (C := C5) ok5 r90
noncomputable def B76 : Code := (Try.f76.body).getD .skip
def A76 : Ann := (Ann.node (some (0, [(0, Kd.v), (1, Kd.v)])) Ann.nil (Ann.node none Ann.nil Ann.nil))
noncomputable def P76x0 (S : Sg) (r0 : Value) (r1 : Value) (h : Hp) : CRes :=
  pairK (callQ F90 [r0, r1] h) fun v0 h0 =>
  intK .i64 v0 fun i1 =>
  boolN (ltZ i1 (Int.ofNat 0)) fun b2 =>
  some ((Value.bool b2), h0)
noncomputable def T76 (S : Sg) : Sg := tabC 0 (uV fun r0 => uV fun r1 => uN fun h => P76x0 S r0 r1 h) (tabN)
noncomputable def F76 (args : List Value) (h : Hp) : CRes := packVals [Kd.v, Kd.v] args fun al => rec' T76 1000000 0 al h
def nt76 : Nat := 2 + (9 - 2)
theorem q76x0 (S : Sg) (r0 : Value) (r1 : Value) (h : Hp) : P76x0 S r0 r1 h = stepAt (regK env orc6 (nt76)) (finK env Try.f76.results.toList) (collect B76 A76 []) 0 S (AL.v r0 (AL.v r1 AL.n)) h := by kernel_rfl
theorem t76 (S : Sg) : Tab (fun l vs h => stepAt (regK env orc6 nt76) (finK env Try.f76.results.toList) (collect B76 A76 []) l S vs h) (T76 S) := by
  unfold T76
  refine Tab.cons 0 (fun vs0 h q e0 => ?_) ?_
  · obtain ⟨r0, vs1, rfl, e1⟩ := uV_some e0
    obtain ⟨r1, vs2, rfl, e2⟩ := uV_some e1
    obtain ⟨rfl, ee⟩ := uN_some e2
    exact (q76x0 S r0 r1 h).symm.trans ee
  exact Tab.nil
theorem r76 : ∀ args h v h', F76 args h = some (v, h') → Runs (C6) (.call 76 args.toArray h) (.ret v h') := by
  intro args h v h' e
  exact fun_sound (C := C6) (fn := Try.f76) (body := B76) (np := 2) (A := A76) (T := T76) (kinds := [Kd.v, Kd.v]) (by kernel_rfl) (by kernel_rfl) (by kernel_rfl) (by kernel_rfl) (regK_ok env_ok) (by kernel_rfl) (fun S => t76 S) e
noncomputable def orc7 := orcQ 76 F76 orc6
noncomputable def C7 : Cfg := cfg orc7
theorem ok7 : C7.Ok := orcQ_ok (C := C6) ok6 r76
noncomputable def B57 : Code := (Try.f57.body).getD .skip
def A57 : Ann := (Ann.node (some (0, [(0, Kd.v), (1, Kd.v)])) Ann.nil (Ann.node none (Ann.node none (Ann.node none Ann.nil (Ann.node none (Ann.node none Ann.nil Ann.nil) (Ann.node none Ann.nil (Ann.node none (Ann.node none Ann.nil Ann.nil) (Ann.node none (Ann.node none Ann.nil (Ann.node none Ann.nil Ann.nil)) (Ann.node none (Ann.node none Ann.nil Ann.nil) Ann.nil)))))) Ann.nil) (Ann.node none Ann.nil Ann.nil)))
noncomputable def P57x0 (S : Sg) (r0 : Value) (r1 : Value) (h : Hp) : CRes :=
  allocK h 44 (Array.toList (Value.cells r1)) fun a0 h0 =>
  ptrAddK 0 a0 fun v1 =>
  load1K h0 v1 fun v2 =>
  pairK (callQ F75 [v2] h0) fun v3 h3 =>
  boolK v3 fun b4 =>
  boolN b4 fun b5 =>
  ifB b5
  (some ((Value.int .i64 (Int.ofNat 6)), h3))
  (pairK (callQ F76 [r0, (Value.func (.func 77) (List.toArray []) (List.toArray [a0]))] h3) fun v6 h6 =>
  boolK v6 fun b7 =>
  ifB b7
  (some ((Value.int .i64 (Int.ofNat 5)), h6))
  (ptrAddK 1 a0 fun v8 =>
  load1K h6 v8 fun v9 =>
  intK .i64 v9 fun i10 =>
  pairK (buildSliceV env h6 36 1 (List.toArray [(0, (Value.int .i64 i10))])) fun v11 h11 =>
  pairK (optK (F14 [(Value.int .i64 (Int.ofNat 0)), (Value.int .i64 (Int.ofNat 20)), v11] h11) fun v => some (v, h11)) fun v12 h12 =>
  boolK v12 fun b13 =>
  boolN b13 fun b14 =>
  ifB b14
  (ifB b14
  (some ((Value.int .i64 (Int.ofNat 7)), h12))
  (some ((Value.int .i64 (Int.ofNat 0)), h12)))
  (ptrAddK 2 a0 fun v15 =>
  load1K h12 v15 fun v16 =>
  intK .i64 v16 fun i17 =>
  pairK (buildSliceV env h12 36 1 (List.toArray [(0, (Value.int .i64 i17))])) fun v18 h18 =>
  pairK (optK (F14 [(Value.int .i64 (Int.ofNat 0)), (Value.int .i64 (Int.ofNat 60)), v18] h18) fun v => some (v, h18)) fun v19 h19 =>
  boolK v19 fun b20 =>
  boolN b20 fun b21 =>
  ifB b21
  (some ((Value.int .i64 (Int.ofNat 7)), h19))
  (some ((Value.int .i64 (Int.ofNat 0)), h19)))))
noncomputable def T57 (S : Sg) : Sg := tabC 0 (uV fun r0 => uV fun r1 => uN fun h => P57x0 S r0 r1 h) (tabN)
noncomputable def F57 (args : List Value) (h : Hp) : CRes := packVals [Kd.v, Kd.v] args fun al => rec' T57 1000000 0 al h
def nt57 : Nat := 2 + (25 - 2)
theorem q57x0 (S : Sg) (r0 : Value) (r1 : Value) (h : Hp) : P57x0 S r0 r1 h = stepAt (regK env orc7 (nt57)) (finK env Try.f57.results.toList) (collect B57 A57 []) 0 S (AL.v r0 (AL.v r1 AL.n)) h := by kernel_rfl
theorem t57 (S : Sg) : Tab (fun l vs h => stepAt (regK env orc7 nt57) (finK env Try.f57.results.toList) (collect B57 A57 []) l S vs h) (T57 S) := by
  unfold T57
  refine Tab.cons 0 (fun vs0 h q e0 => ?_) ?_
  · obtain ⟨r0, vs1, rfl, e1⟩ := uV_some e0
    obtain ⟨r1, vs2, rfl, e2⟩ := uV_some e1
    obtain ⟨rfl, ee⟩ := uN_some e2
    exact (q57x0 S r0 r1 h).symm.trans ee
  exact Tab.nil
theorem r57 : ∀ args h v h', F57 args h = some (v, h') → Runs (C7) (.call 57 args.toArray h) (.ret v h') := by
  intro args h v h' e
  exact fun_sound (C := C7) (fn := Try.f57) (body := B57) (np := 2) (A := A57) (T := T57) (kinds := [Kd.v, Kd.v]) (by kernel_rfl) (by kernel_rfl) (by kernel_rfl) (by kernel_rfl) (regK_ok env_ok) (by kernel_rfl) (fun S => t57 S) e
noncomputable def orc8 := orcQ 57 F57 orc7
noncomputable def C8 : Cfg := cfg orc8
theorem ok8 : C8.Ok := orcQ_ok (C := C7) ok7 r57
noncomputable def B93 : Code := (Try.f93.body).getD .skip
noncomputable def A93 : G.Ann (List KI) := (G.Ann.node (some (0, [KI.reg 0 (Kd.v), KI.reg 1 (Kd.v)])) G.Ann.nil (G.Ann.node none G.Ann.nil G.Ann.nil))
noncomputable def P93x0 (h : Hp) (S : Nat → PAL → Option Value) (r0 : Value) (r1 : Value) : Option Value :=
  forceL (Array.toList (Value.cells r0)) fun c0 =>
  nthR c0 0 fun v1 =>
  ptrAddK 0 r1 fun v2 =>
  load1K h v2 fun v3 =>
  optK (binV env .eql 9 (Operand.tmp 5) (Operand.tmp 7) v1 v3) fun v4 =>
  boolK v4 fun b5 =>
  some (Value.bool b5)
noncomputable def T93 (h : Hp) (S : Nat → PAL → Option Value) : Nat → PAL → Option Value := tabPC 0 (wV fun r0 => wV fun r1 => wN (P93x0 h S r0 r1)) (tabPN)
noncomputable def F93 (args : List Value) (h : Hp) : Option Value := plainO (packArgs [Kd.v, Kd.v] args fun al => G.rec' (T93 h) 1000000 0 al)
def nt93 : Nat := 2 + (9 - 2)
theorem q93x0 (h : Hp) (S : Nat → PAL → Option Value) (r0 : Value) (r1 : Value) : P93x0 h S r0 r1 = G.stepAt packP unpackP evXV (regP env pf4 nt93 h) (finP env Try.f93.results.toList) (G.collect B93 A93 []) 0 S (PAL.v r0 (PAL.v r1 PAL.n)) := by kernel_rfl
theorem t93 (h : Hp) (S : Nat → PAL → Option Value) : TabP (fun l al => G.stepAt packP unpackP evXV (regP env pf4 nt93 h) (finP env Try.f93.results.toList) (G.collect B93 A93 []) l S al) (T93 h S) := by
  unfold T93
  refine TabP.cons 0 (fun vs0 q e0 => ?_) ?_
  · obtain ⟨r0, vs1, rfl, e1⟩ := wV_some e0
    obtain ⟨r1, vs2, rfl, e2⟩ := wV_some e1
    obtain ⟨rfl, ee⟩ := wN_some e2
    exact (q93x0 h S r0 r1).symm.trans ee
  exact TabP.nil
theorem r93 : PSound Try.prog 93 F93 := fun_soundP (C := C0) ok0 (pf := pf4) pfok4 (fn := Try.f93) (body := B93) (kinds := [Kd.v, Kd.v]) (A := A93) (T := T93) (by kernel_rfl) (by kernel_rfl) (by kernel_rfl) (by kernel_rfl) (fun h S => t93 h S)
noncomputable def pf5 : PF := pfC 93 F93 pf4
theorem pfok5 : PfSound Try.prog pf5 := pfC_ok r93 pfok4
noncomputable def orc9 := orcP 93 F93 orc8
noncomputable def C9 : Cfg := cfg orc9
theorem ok9 : C9.Ok := orcP_ok (C := C8) ok8 r93
noncomputable def B97 : Code := (Try.f97.body).getD .skip
def A97 : Ann := (Ann.node (some (0, [(0, Kd.v), (1, Kd.v)])) Ann.nil (Ann.node none (Ann.node none Ann.nil (Ann.node none (Ann.node (some (1, [(0, Kd.v), (1, Kd.v), (7, Kd.i .i64), (8, Kd.i .i64)])) (Ann.node none Ann.nil (Ann.node none (Ann.node none Ann.nil Ann.nil) (Ann.node none (Ann.node none (Ann.node none Ann.nil (Ann.node none Ann.nil (Ann.node none (Ann.node none Ann.nil Ann.nil) Ann.nil))) Ann.nil) Ann.nil))) Ann.nil) Ann.nil)) (Ann.node (some (2, [])) Ann.nil Ann.nil)))
noncomputable def P97x2 (S : Sg) (h : Hp) : CRes :=
  some ((Value.int .i64 (Int.negSucc 0)), h)
noncomputable def P97x1 (S : Sg) (r0 : Value) (r1 : Value) (r7 : Int) (r8 : Int) (h : Hp) : CRes :=
  boolZ (ltZ r8 r7) fun b0 =>
  ifB b0
  (idxSK 2 r0 r8 fun v1 =>
  loadNK 2 h v1 fun v2 =>
  pairK (callF orc9 r1 [v2] h) fun v3 h3 =>
  boolK v3 fun b4 =>
  ifB b4
  (some ((Value.int .i64 r8), h3))
  (wrap64 (Int.add r8 (Int.ofNat 1)) fun i5 =>
  S 1 (AL.v r0 (AL.v r1 (AL.i r7 (AL.i i5 AL.n)))) h3))
  (S 2 AL.n h)
noncomputable def P97x0 (S : Sg) (r0 : Value) (r1 : Value) (h : Hp) : CRes :=
  lenSK r0 fun i0 =>
  S 1 (AL.v r0 (AL.v r1 (AL.i i0 (AL.i (Int.ofNat 0) AL.n)))) h
noncomputable def T97 (S : Sg) : Sg := tabC 0 (uV fun r0 => uV fun r1 => uN fun h => P97x0 S r0 r1 h) (tabC 1 (uV fun r0 => uV fun r1 => uI fun r7 => uI fun r8 => uN fun h => P97x1 S r0 r1 r7 r8 h) (tabC 2 (uN fun h => P97x2 S  h) (tabN)))
noncomputable def F97 (args : List Value) (h : Hp) : CRes := packVals [Kd.v, Kd.v] args fun al => rec' T97 1000000 0 al h
def nt97 : Nat := 2 + (19 - 2)
theorem q97x2 (S : Sg) (h : Hp) : P97x2 S  h = stepAt (regK env orc9 (nt97)) (finK env Try.f97.results.toList) (collect B97 A97 []) 2 S AL.n h := by kernel_rfl
theorem q97x1 (S : Sg) (r0 : Value) (r1 : Value) (r7 : Int) (r8 : Int) (h : Hp) : P97x1 S r0 r1 r7 r8 h = stepAt (regK env orc9 (nt97)) (finK env Try.f97.results.toList) (collect B97 A97 []) 1 S (AL.v r0 (AL.v r1 (AL.i r7 (AL.i r8 AL.n)))) h := by kernel_rfl
theorem q97x0 (S : Sg) (r0 : Value) (r1 : Value) (h : Hp) : P97x0 S r0 r1 h = stepAt (regK env orc9 (nt97)) (finK env Try.f97.results.toList) (collect B97 A97 []) 0 S (AL.v r0 (AL.v r1 AL.n)) h := by kernel_rfl
theorem t97 (S : Sg) : Tab (fun l vs h => stepAt (regK env orc9 nt97) (finK env Try.f97.results.toList) (collect B97 A97 []) l S vs h) (T97 S) := by
  unfold T97
  refine Tab.cons 0 (fun vs0 h q e0 => ?_) ?_
  · obtain ⟨r0, vs1, rfl, e1⟩ := uV_some e0
    obtain ⟨r1, vs2, rfl, e2⟩ := uV_some e1
    obtain ⟨rfl, ee⟩ := uN_some e2
    exact (q97x0 S r0 r1 h).symm.trans ee
  refine Tab.cons 1 (fun vs0 h q e0 => ?_) ?_
  · obtain ⟨r0, vs1, rfl, e1⟩ := uV_some e0
    obtain ⟨r1, vs2, rfl, e2⟩ := uV_some e1
    obtain ⟨r7, vs3, rfl, e3⟩ := uI_some e2
    obtain ⟨r8, vs4, rfl, e4⟩ := uI_some e3
    obtain ⟨rfl, ee⟩ := uN_some e4
    exact (q97x1 S r0 r1 r7 r8 h).symm.trans ee
  refine Tab.cons 2 (fun vs0 h q e0 => ?_) ?_
  · 
    obtain ⟨rfl, ee⟩ := uN_some e0
    exact (q97x2 S  h).symm.trans ee
  exact Tab.nil
theorem r97 : ∀ args h v h', F97 args h = some (v, h') → Runs (C9) (.call 97 args.toArray h) (.ret v h') := by
  intro args h v h' e
  exact fun_sound (C := C9) (fn := Try.f97) (body := B97) (np := 2) (A := A97) (T := T97) (kinds := [Kd.v, Kd.v]) (by kernel_rfl) (by kernel_rfl) (by kernel_rfl) (by kernel_rfl) (regK_ok env_ok) (by kernel_rfl) (fun S => t97 S) e
noncomputable def orc10 := orcQ 97 F97 orc9
noncomputable def C10 : Cfg := cfg orc10
theorem ok10 : C10.Ok := orcQ_ok (C := C9) ok9 r97
noncomputable def B92 : Code := (Try.f92.body).getD .skip
def A92 : Ann := (Ann.node (some (0, [(0, Kd.v), (1, Kd.v)])) Ann.nil (Ann.node none Ann.nil Ann.nil))
noncomputable def P92x0 (S : Sg) (r0 : Value) (r1 : Value) (h : Hp) : CRes :=
  pairK (callQ F97 [r0, r1] h) fun v0 h0 =>
  intK .i64 v0 fun i1 =>
  boolN (ltZ i1 (Int.ofNat 0)) fun b2 =>
  some ((Value.bool b2), h0)
noncomputable def T92 (S : Sg) : Sg := tabC 0 (uV fun r0 => uV fun r1 => uN fun h => P92x0 S r0 r1 h) (tabN)
noncomputable def F92 (args : List Value) (h : Hp) : CRes := packVals [Kd.v, Kd.v] args fun al => rec' T92 1000000 0 al h
def nt92 : Nat := 2 + (9 - 2)
theorem q92x0 (S : Sg) (r0 : Value) (r1 : Value) (h : Hp) : P92x0 S r0 r1 h = stepAt (regK env orc10 (nt92)) (finK env Try.f92.results.toList) (collect B92 A92 []) 0 S (AL.v r0 (AL.v r1 AL.n)) h := by kernel_rfl
theorem t92 (S : Sg) : Tab (fun l vs h => stepAt (regK env orc10 nt92) (finK env Try.f92.results.toList) (collect B92 A92 []) l S vs h) (T92 S) := by
  unfold T92
  refine Tab.cons 0 (fun vs0 h q e0 => ?_) ?_
  · obtain ⟨r0, vs1, rfl, e1⟩ := uV_some e0
    obtain ⟨r1, vs2, rfl, e2⟩ := uV_some e1
    obtain ⟨rfl, ee⟩ := uN_some e2
    exact (q92x0 S r0 r1 h).symm.trans ee
  exact Tab.nil
theorem r92 : ∀ args h v h', F92 args h = some (v, h') → Runs (C10) (.call 92 args.toArray h) (.ret v h') := by
  intro args h v h' e
  exact fun_sound (C := C10) (fn := Try.f92) (body := B92) (np := 2) (A := A92) (T := T92) (kinds := [Kd.v, Kd.v]) (by kernel_rfl) (by kernel_rfl) (by kernel_rfl) (by kernel_rfl) (regK_ok env_ok) (by kernel_rfl) (fun S => t92 S) e
noncomputable def orc11 := orcQ 92 F92 orc10
noncomputable def C11 : Cfg := cfg orc11
theorem ok11 : C11.Ok := orcQ_ok (C := C10) ok10 r92
noncomputable def B80 : Code := (Try.f80.body).getD .skip
def A80 : Ann := (Ann.node (some (0, [(0, Kd.v), (1, Kd.v)])) Ann.nil (Ann.node none (Ann.node none (Ann.node none Ann.nil (Ann.node none (Ann.node none Ann.nil Ann.nil) (Ann.node none Ann.nil (Ann.node none (Ann.node none Ann.nil Ann.nil) (Ann.node none Ann.nil (Ann.node none (Ann.node none Ann.nil Ann.nil) Ann.nil)))))) Ann.nil) (Ann.node none Ann.nil Ann.nil)))
noncomputable def P80x0 (S : Sg) (r0 : Value) (r1 : Value) (h : Hp) : CRes :=
  allocK h 46 (Array.toList (Value.cells r1)) fun a0 h0 =>
  ptrAddK 0 a0 fun v1 =>
  load1K h0 v1 fun v2 =>
  pairK (callQ F75 [v2] h0) fun v3 h3 =>
  boolK v3 fun b4 =>
  boolN b4 fun b5 =>
  ifB b5
  (some ((Value.int .i64 (Int.ofNat 6)), h3))
  (pairK (callQ F92 [r0, (Value.func (.func 93) (List.toArray []) (List.toArray [a0]))] h3) fun v6 h6 =>
  boolK v6 fun b7 =>
  ifB b7
  (some ((Value.int .i64 (Int.ofNat 5)), h6))
  (ptrAddK 1 a0 fun v8 =>
  load1K h6 v8 fun v9 =>
  intK .i64 v9 fun i10 =>
  pairK (buildSliceV env h6 36 1 (List.toArray [(0, (Value.int .i64 i10))])) fun v11 h11 =>
  pairK (optK (F14 [(Value.int .i64 (Int.ofNat 1)), (Value.int .i64 (Int.ofNat 60)), v11] h11) fun v => some (v, h11)) fun v12 h12 =>
  boolK v12 fun b13 =>
  boolN b13 fun b14 =>
  ifB b14
  (some ((Value.int .i64 (Int.ofNat 7)), h12))
  (some ((Value.int .i64 (Int.ofNat 0)), h12))))
noncomputable def T80 (S : Sg) : Sg := tabC 0 (uV fun r0 => uV fun r1 => uN fun h => P80x0 S r0 r1 h) (tabN)
noncomputable def F80 (args : List Value) (h : Hp) : CRes := packVals [Kd.v, Kd.v] args fun al => rec' T80 1000000 0 al h
def nt80 : Nat := 2 + (20 - 2)
theorem q80x0 (S : Sg) (r0 : Value) (r1 : Value) (h : Hp) : P80x0 S r0 r1 h = stepAt (regK env orc11 (nt80)) (finK env Try.f80.results.toList) (collect B80 A80 []) 0 S (AL.v r0 (AL.v r1 AL.n)) h := by kernel_rfl
theorem t80 (S : Sg) : Tab (fun l vs h => stepAt (regK env orc11 nt80) (finK env Try.f80.results.toList) (collect B80 A80 []) l S vs h) (T80 S) := by
  unfold T80
  refine Tab.cons 0 (fun vs0 h q e0 => ?_) ?_
  · obtain ⟨r0, vs1, rfl, e1⟩ := uV_some e0
    obtain ⟨r1, vs2, rfl, e2⟩ := uV_some e1
    obtain ⟨rfl, ee⟩ := uN_some e2
    exact (q80x0 S r0 r1 h).symm.trans ee
  exact Tab.nil
theorem r80 : ∀ args h v h', F80 args h = some (v, h') → Runs (C11) (.call 80 args.toArray h) (.ret v h') := by
  intro args h v h' e
  exact fun_sound (C := C11) (fn := Try.f80) (body := B80) (np := 2) (A := A80) (T := T80) (kinds := [Kd.v, Kd.v]) (by kernel_rfl) (by kernel_rfl) (by kernel_rfl) (by kernel_rfl) (regK_ok env_ok) (by kernel_rfl) (fun S => t80 S) e
noncomputable def orc12 := orcQ 80 F80 orc11
noncomputable def C12 : Cfg := cfg orc12
theorem ok12 : C12.Ok := orcQ_ok (C := C11) ok11 r80
noncomputable def B91 : Code := (Try.f91.body).getD .skip
def A91 : Ann := (Ann.node (some (0, [(0, Kd.v), (1, Kd.v)])) Ann.nil (Ann.node none (Ann.node none Ann.nil (Ann.node none (Ann.node (some (1, [(0, Kd.v), (1, Kd.v), (9, Kd.v), (10, Kd.i .i64), (11, Kd.i .i64)])) (Ann.node none Ann.nil (Ann.node none (Ann.node none Ann.nil Ann.nil) (Ann.node none (Ann.node none (Ann.node none Ann.nil (Ann.node none Ann.nil (Ann.node none Ann.nil (Ann.node none (Ann.node none Ann.nil Ann.nil) Ann.nil)))) Ann.nil) Ann.nil))) Ann.nil) Ann.nil)) (Ann.node (some (2, [])) Ann.nil Ann.nil)))
noncomputable def P91x2 (S : Sg) (h : Hp) : CRes :=
  some (Value.tuple (List.toArray [(Value.int .i64 (Int.ofNat 0)), (Value.int .i64 (Int.ofNat 0))]), h)
noncomputable def P91x1 (S : Sg) (r0 : Value) (r1 : Value) (r9 : Value) (r10 : Int) (r11 : Int) (h : Hp) : CRes :=
  boolZ (ltZ r11 r10) fun b0 =>
  ifB b0
  (idxSK 2 r9 r11 fun v1 =>
  loadNK 2 h v1 fun v2 =>
  allocK h 46 [(Value.string (ByteArray.mk #[])), (Value.int .i64 (Int.ofNat 0))] fun a3 h3 =>
  storeNK 2 h3 a3 v2 fun h4 =>
  optK (sliceV env h4 47 r0 none (some (Value.int .i64 r11)) none) fun v5 =>
  loadNK 2 h4 a3 fun v6 =>
  pairK (callF orc12 r1 [v5, v6] h4) fun v7 h7 =>
  intK .i64 v7 fun i8 =>
  boolN (eqZ i8 (Int.ofNat 0)) fun b9 =>
  ifB b9
  (some (Value.tuple (List.toArray [(Value.int .i64 r11), (Value.int .i64 i8)]), h7))
  (wrap64 (Int.add r11 (Int.ofNat 1)) fun i10 =>
  S 1 (AL.v r0 (AL.v r1 (AL.v r9 (AL.i r10 (AL.i i10 AL.n))))) h7))
  (S 2 AL.n h)
noncomputable def P91x0 (S : Sg) (r0 : Value) (r1 : Value) (h : Hp) : CRes :=
  lenSK r0 fun i0 =>
  S 1 (AL.v r0 (AL.v r1 (AL.v r0 (AL.i i0 (AL.i (Int.ofNat 0) AL.n))))) h
noncomputable def T91 (S : Sg) : Sg := tabC 0 (uV fun r0 => uV fun r1 => uN fun h => P91x0 S r0 r1 h) (tabC 1 (uV fun r0 => uV fun r1 => uV fun r9 => uI fun r10 => uI fun r11 => uN fun h => P91x1 S r0 r1 r9 r10 r11 h) (tabC 2 (uN fun h => P91x2 S  h) (tabN)))
noncomputable def F91 (args : List Value) (h : Hp) : CRes := packVals [Kd.v, Kd.v] args fun al => rec' T91 1000000 0 al h
def nt91 : Nat := 2 + (27 - 2)
theorem q91x2 (S : Sg) (h : Hp) : P91x2 S  h = stepAt (regK env orc12 (nt91)) (finK env Try.f91.results.toList) (collect B91 A91 []) 2 S AL.n h := by kernel_rfl
theorem q91x1 (S : Sg) (r0 : Value) (r1 : Value) (r9 : Value) (r10 : Int) (r11 : Int) (h : Hp) : P91x1 S r0 r1 r9 r10 r11 h = stepAt (regK env orc12 (nt91)) (finK env Try.f91.results.toList) (collect B91 A91 []) 1 S (AL.v r0 (AL.v r1 (AL.v r9 (AL.i r10 (AL.i r11 AL.n))))) h := by kernel_rfl
theorem q91x0 (S : Sg) (r0 : Value) (r1 : Value) (h : Hp) : P91x0 S r0 r1 h = stepAt (regK env orc12 (nt91)) (finK env Try.f91.results.toList) (collect B91 A91 []) 0 S (AL.v r0 (AL.v r1 AL.n)) h := by kernel_rfl
theorem t91 (S : Sg) : Tab (fun l vs h => stepAt (regK env orc12 nt91) (finK env Try.f91.results.toList) (collect B91 A91 []) l S vs h) (T91 S) := by
  unfold T91
  refine Tab.cons 0 (fun vs0 h q e0 => ?_) ?_
  · obtain ⟨r0, vs1, rfl, e1⟩ := uV_some e0
    obtain ⟨r1, vs2, rfl, e2⟩ := uV_some e1
    obtain ⟨rfl, ee⟩ := uN_some e2
    exact (q91x0 S r0 r1 h).symm.trans ee
  refine Tab.cons 1 (fun vs0 h q e0 => ?_) ?_
  · obtain ⟨r0, vs1, rfl, e1⟩ := uV_some e0
    obtain ⟨r1, vs2, rfl, e2⟩ := uV_some e1
    obtain ⟨r9, vs3, rfl, e3⟩ := uV_some e2
    obtain ⟨r10, vs4, rfl, e4⟩ := uI_some e3
    obtain ⟨r11, vs5, rfl, e5⟩ := uI_some e4
    obtain ⟨rfl, ee⟩ := uN_some e5
    exact (q91x1 S r0 r1 r9 r10 r11 h).symm.trans ee
  refine Tab.cons 2 (fun vs0 h q e0 => ?_) ?_
  · 
    obtain ⟨rfl, ee⟩ := uN_some e0
    exact (q91x2 S  h).symm.trans ee
  exact Tab.nil
theorem r91 : ∀ args h v h', F91 args h = some (v, h') → Runs (C12) (.call 91 args.toArray h) (.ret v h') := by
  intro args h v h' e
  exact fun_sound (C := C12) (fn := Try.f91) (body := B91) (np := 2) (A := A91) (T := T91) (kinds := [Kd.v, Kd.v]) (by kernel_rfl) (by kernel_rfl) (by kernel_rfl) (by kernel_rfl) (regK_ok env_ok) (by kernel_rfl) (fun S => t91 S) e
noncomputable def orc13 := orcQ 91 F91 orc12
noncomputable def C13 : Cfg := cfg orc13
theorem ok13 : C13.Ok := orcQ_ok (C := C12) ok12 r91
noncomputable def B79 : Code := (Try.f79.body).getD .skip
def A79 : Ann := (Ann.node (some (0, [(0, Kd.v), (1, Kd.i .i64), (2, Kd.v)])) Ann.nil (Ann.node none (Ann.node none Ann.nil (Ann.node none (Ann.node none Ann.nil Ann.nil) Ann.nil)) (Ann.node none Ann.nil Ann.nil)))
noncomputable def P79x0 (S : Sg) (r0 : Value) (r1 : Int) (r2 : Value) (h : Hp) : CRes :=
  lenSK r0 fun i0 =>
  boolZ (ltZ r1 i0) fun b1 =>
  ifB b1
  (some (Value.tuple (List.toArray [(Value.int .i64 (Int.ofNat 0)), (Value.int .i64 (Int.ofNat 3))]), h))
  (pairK (callQ F91 [r0, r2] h) fun v2 h2 =>
  extK v2 0 fun v3 =>
  intK .i64 v3 fun i4 =>
  extK v2 1 fun v5 =>
  intK .i64 v5 fun i6 =>
  some (Value.tuple (List.toArray [(Value.int .i64 i4), (Value.int .i64 i6)]), h2))
noncomputable def T79 (S : Sg) : Sg := tabC 0 (uV fun r0 => uI fun r1 => uV fun r2 => uN fun h => P79x0 S r0 r1 r2 h) (tabN)
noncomputable def F79 (args : List Value) (h : Hp) : CRes := packVals [Kd.v, Kd.i .i64, Kd.v] args fun al => rec' T79 1000000 0 al h
def nt79 : Nat := 3 + (17 - 3)
theorem q79x0 (S : Sg) (r0 : Value) (r1 : Int) (r2 : Value) (h : Hp) : P79x0 S r0 r1 r2 h = stepAt (regK env orc13 (nt79)) (finK env Try.f79.results.toList) (collect B79 A79 []) 0 S (AL.v r0 (AL.i r1 (AL.v r2 AL.n))) h := by kernel_rfl
theorem t79 (S : Sg) : Tab (fun l vs h => stepAt (regK env orc13 nt79) (finK env Try.f79.results.toList) (collect B79 A79 []) l S vs h) (T79 S) := by
  unfold T79
  refine Tab.cons 0 (fun vs0 h q e0 => ?_) ?_
  · obtain ⟨r0, vs1, rfl, e1⟩ := uV_some e0
    obtain ⟨r1, vs2, rfl, e2⟩ := uI_some e1
    obtain ⟨r2, vs3, rfl, e3⟩ := uV_some e2
    obtain ⟨rfl, ee⟩ := uN_some e3
    exact (q79x0 S r0 r1 r2 h).symm.trans ee
  exact Tab.nil
theorem r79 : ∀ args h v h', F79 args h = some (v, h') → Runs (C13) (.call 79 args.toArray h) (.ret v h') := by
  intro args h v h' e
  exact fun_sound (C := C13) (fn := Try.f79) (body := B79) (np := 3) (A := A79) (T := T79) (kinds := [Kd.v, Kd.i .i64, Kd.v]) (by kernel_rfl) (by kernel_rfl) (by kernel_rfl) (by kernel_rfl) (regK_ok env_ok) (by kernel_rfl) (fun S => t79 S) e
noncomputable def orc14 := orcQ 79 F79 orc13
noncomputable def C14 : Cfg := cfg orc14
theorem ok14 : C14.Ok := orcQ_ok (C := C13) ok13 r79
noncomputable def B18 : Code := (Try.f18.body).getD .skip
noncomputable def A18 : G.Ann (List KI) := (G.Ann.node (some (0, [KI.reg 0 (Kd.v)])) G.Ann.nil (G.Ann.node none G.Ann.nil (G.Ann.node none (G.Ann.node none G.Ann.nil (G.Ann.node none (G.Ann.node (some (1, [KI.reg 3 (Kd.i .i64), KI.reg 6 (Kd.v), KI.reg 7 (Kd.i .i64), KI.reg 8 (Kd.i .i64)])) (G.Ann.node none G.Ann.nil (G.Ann.node none (G.Ann.node none G.Ann.nil G.Ann.nil) (G.Ann.node none (G.Ann.node none (G.Ann.node none G.Ann.nil G.Ann.nil) G.Ann.nil) G.Ann.nil))) G.Ann.nil) G.Ann.nil)) (G.Ann.node (some (2, [KI.reg 3 (Kd.i .i64)])) G.Ann.nil G.Ann.nil))))
noncomputable def P18x2 (h : Hp) (S : Nat → PAL → Option Value) (r3 : Int) : Option Value :=
  some (Value.int .i64 r3)
noncomputable def P18x1 (h : Hp) (S : Nat → PAL → Option Value) (r3 : Int) (r6 : Value) (r7 : Int) (r8 : Int) : Option Value :=
  boolZ (ltZ r8 r7) fun b0 =>
  ifB b0
  (idxSK 2 r6 r8 fun v1 =>
  loadNK 2 h v1 fun v2 =>
  aggK v2 fun l3 => ifB (Nat.beq (lenR l3) 2) (segR 0 l3 [(Value.string (ByteArray.mk #[])), (Value.int .i64 (Int.ofNat 0))] fun c3 =>
  nthR c3 1 fun v4 =>
  intK .i64 v4 fun i5 =>
  wrap64 (Int.add r3 i5) fun i6 =>
  wrap64 (Int.add r8 (Int.ofNat 1)) fun i7 =>
  S 1 (PAL.i i6 (PAL.v r6 (PAL.i r7 (PAL.i i7 PAL.n))))) none)
  (S 2 (PAL.i r3 PAL.n))
noncomputable def P18x0 (h : Hp) (S : Nat → PAL → Option Value) (r0 : Value) : Option Value :=
  lenSK r0 fun i0 =>
  S 1 (PAL.i (Int.ofNat 0) (PAL.v r0 (PAL.i i0 (PAL.i (Int.ofNat 0) PAL.n))))
noncomputable def T18 (h : Hp) (S : Nat → PAL → Option Value) : Nat → PAL → Option Value := tabPC 0 (wV fun r0 => wN (P18x0 h S r0)) (tabPC 1 (wI fun r3 => wV fun r6 => wI fun r7 => wI fun r8 => wN (P18x1 h S r3 r6 r7 r8)) (tabPC 2 (wI fun r3 => wN (P18x2 h S r3)) (tabPN)))
noncomputable def F18 (args : List Value) (h : Hp) : Option Value := plainO (packArgs [Kd.v] args fun al => G.rec' (T18 h) 1000000 0 al)
def nt18 : Nat := 1 + (18 - 1)
theorem q18x2 (h : Hp) (S : Nat → PAL → Option Value) (r3 : Int) : P18x2 h S r3 = G.stepAt packP unpackP evXV (regP env pf5 nt18 h) (finP env Try.f18.results.toList) (G.collect B18 A18 []) 2 S (PAL.i r3 PAL.n) := by kernel_rfl
theorem q18x1 (h : Hp) (S : Nat → PAL → Option Value) (r3 : Int) (r6 : Value) (r7 : Int) (r8 : Int) : P18x1 h S r3 r6 r7 r8 = G.stepAt packP unpackP evXV (regP env pf5 nt18 h) (finP env Try.f18.results.toList) (G.collect B18 A18 []) 1 S (PAL.i r3 (PAL.v r6 (PAL.i r7 (PAL.i r8 PAL.n)))) := by kernel_rfl
theorem q18x0 (h : Hp) (S : Nat → PAL → Option Value) (r0 : Value) : P18x0 h S r0 = G.stepAt packP unpackP evXV (regP env pf5 nt18 h) (finP env Try.f18.results.toList) (G.collect B18 A18 []) 0 S (PAL.v r0 PAL.n) := by kernel_rfl
theorem t18 (h : Hp) (S : Nat → PAL → Option Value) : TabP (fun l al => G.stepAt packP unpackP evXV (regP env pf5 nt18 h) (finP env Try.f18.results.toList) (G.collect B18 A18 []) l S al) (T18 h S) := by
  unfold T18
  refine TabP.cons 0 (fun vs0 q e0 => ?_) ?_
  · obtain ⟨r0, vs1, rfl, e1⟩ := wV_some e0
    obtain ⟨rfl, ee⟩ := wN_some e1
    exact (q18x0 h S r0).symm.trans ee
  refine TabP.cons 1 (fun vs0 q e0 => ?_) ?_
  · obtain ⟨r3, vs1, rfl, e1⟩ := wI_some e0
    obtain ⟨r6, vs2, rfl, e2⟩ := wV_some e1
    obtain ⟨r7, vs3, rfl, e3⟩ := wI_some e2
    obtain ⟨r8, vs4, rfl, e4⟩ := wI_some e3
    obtain ⟨rfl, ee⟩ := wN_some e4
    exact (q18x1 h S r3 r6 r7 r8).symm.trans ee
  refine TabP.cons 2 (fun vs0 q e0 => ?_) ?_
  · obtain ⟨r3, vs1, rfl, e1⟩ := wI_some e0
    obtain ⟨rfl, ee⟩ := wN_some e1
    exact (q18x2 h S r3).symm.trans ee
  exact TabP.nil
theorem r18 : PSound Try.prog 18 F18 := fun_soundP (C := C0) ok0 (pf := pf5) pfok5 (fn := Try.f18) (body := B18) (kinds := [Kd.v]) (A := A18) (T := T18) (by kernel_rfl) (by kernel_rfl) (by kernel_rfl) (by kernel_rfl) (fun h S => t18 h S)
noncomputable def pf6 : PF := pfC 18 F18 pf5
theorem pfok6 : PfSound Try.prog pf6 := pfC_ok r18 pfok5
noncomputable def orc15 := orcP 18 F18 orc14
noncomputable def C15 : Cfg := cfg orc15
theorem ok15 : C15.Ok := orcP_ok (C := C14) ok14 r18
noncomputable def B81 : Code := (Try.f81.body).getD .skip
def A81 : Ann := (Ann.node (some (0, [(0, Kd.v)])) Ann.nil (Ann.node none (Ann.node none Ann.nil (Ann.node none (Ann.node (some (1, [(5, Kd.v), (6, Kd.i .i64), (7, Kd.i .i64)])) (Ann.node none Ann.nil (Ann.node none (Ann.node none Ann.nil Ann.nil) (Ann.node none (Ann.node none (Ann.node none Ann.nil (Ann.node none Ann.nil (Ann.node none (Ann.node none Ann.nil Ann.nil) Ann.nil))) Ann.nil) Ann.nil))) Ann.nil) Ann.nil)) (Ann.node (some (2, [])) Ann.nil Ann.nil)))
noncomputable def P81x2 (S : Sg) (h : Hp) : CRes :=
  some ((Value.bool true), h)
noncomputable def P81x1 (S : Sg) (r5 : Value) (r6 : Int) (r7 : Int) (h : Hp) : CRes :=
  boolZ (ltZ r7 r6) fun b0 =>
  ifB b0
  (idxSK 2 r5 r7 fun v1 =>
  loadNK 2 h v1 fun v2 =>
  allocK h 49 [(Value.int .i64 (Int.ofNat 0)), (Value.int .i64 (Int.ofNat 0))] fun a3 h3 =>
  storeNK 2 h3 a3 v2 fun h4 =>
  ptrAddK 0 a3 fun v5 =>
  load1K h4 v5 fun v6 =>
  intK .i64 v6 fun i7 =>
  pairK (buildSliceV env h4 36 1 (List.toArray [(0, (Value.int .i64 i7))])) fun v8 h8 =>
  pairK (optK (F14 [(Value.int .i64 (Int.ofNat 0)), (Value.int .i64 (Int.ofNat 60)), v8] h8) fun v => some (v, h8)) fun v9 h9 =>
  boolK v9 fun b10 =>
  boolN b10 fun b11 =>
  ifB b11
  (some ((Value.bool false), h9))
  (ptrAddK 1 a3 fun v12 =>
  load1K h9 v12 fun v13 =>
  intK .i64 v13 fun i14 =>
  pairK (buildSliceV env h9 36 1 (List.toArray [(0, (Value.int .i64 i14))])) fun v15 h15 =>
  pairK (optK (F14 [(Value.int .i64 (Int.ofNat 0)), (Value.int .i64 (Int.ofNat 5)), v15] h15) fun v => some (v, h15)) fun v16 h16 =>
  boolK v16 fun b17 =>
  boolN b17 fun b18 =>
  ifB b18
  (some ((Value.bool false), h16))
  (wrap64 (Int.add r7 (Int.ofNat 1)) fun i19 =>
  S 1 (AL.v r5 (AL.i r6 (AL.i i19 AL.n))) h16)))
  (S 2 AL.n h)
noncomputable def P81x0 (S : Sg) (r0 : Value) (h : Hp) : CRes :=
  lenSK r0 fun i0 =>
  S 1 (AL.v r0 (AL.i i0 (AL.i (Int.ofNat 0) AL.n))) h
noncomputable def T81 (S : Sg) : Sg := tabC 0 (uV fun r0 => uN fun h => P81x0 S r0 h) (tabC 1 (uV fun r5 => uI fun r6 => uI fun r7 => uN fun h => P81x1 S r5 r6 r7 h) (tabC 2 (uN fun h => P81x2 S  h) (tabN)))
noncomputable def F81 (args : List Value) (h : Hp) : CRes := packVals [Kd.v] args fun al => rec' T81 1000000 0 al h
def nt81 : Nat := 1 + (24 - 1)
theorem q81x2 (S : Sg) (h : Hp) : P81x2 S  h = stepAt (regK env orc15 (nt81)) (finK env Try.f81.results.toList) (collect B81 A81 []) 2 S AL.n h := by kernel_rfl
theorem q81x1 (S : Sg) (r5 : Value) (r6 : Int) (r7 : Int) (h : Hp) : P81x1 S r5 r6 r7 h = stepAt (regK env orc15 (nt81)) (finK env Try.f81.results.toList) (collect B81 A81 []) 1 S (AL.v r5 (AL.i r6 (AL.i r7 AL.n))) h := by kernel_rfl
theorem q81x0 (S : Sg) (r0 : Value) (h : Hp) : P81x0 S r0 h = stepAt (regK env orc15 (nt81)) (finK env Try.f81.results.toList) (collect B81 A81 []) 0 S (AL.v r0 AL.n) h := by kernel_rfl
theorem t81 (S : Sg) : Tab (fun l vs h => stepAt (regK env orc15 nt81) (finK env Try.f81.results.toList) (collect B81 A81 []) l S vs h) (T81 S) := by
  unfold T81
  refine Tab.cons 0 (fun vs0 h q e0 => ?_) ?_
  · obtain ⟨r0, vs1, rfl, e1⟩ := uV_some e0
    obtain ⟨rfl, ee⟩ := uN_some e1
    exact (q81x0 S r0 h).symm.trans ee
  refine Tab.cons 1 (fun vs0 h q e0 => ?_) ?_
  · obtain ⟨r5, vs1, rfl, e1⟩ := uV_some e0
    obtain ⟨r6, vs2, rfl, e2⟩ := uI_some e1
    obtain ⟨r7, vs3, rfl, e3⟩ := uI_some e2
    obtain ⟨rfl, ee⟩ := uN_some e3
    exact (q81x1 S r5 r6 r7 h).symm.trans ee
  refine Tab.cons 2 (fun vs0 h q e0 => ?_) ?_
  · 
    obtain ⟨rfl, ee⟩ := uN_some e0
    exact (q81x2 S  h).symm.trans ee
  exact Tab.nil
theorem r81 : ∀ args h v h', F81 args h = some (v, h') → Runs (C15) (.call 81 args.toArray h) (.ret v h') := by
  intro args h v h' e
  exact fun_sound (C := C15) (fn := Try.f81) (body := B81) (np := 1) (A := A81) (T := T81) (kinds := [Kd.v]) (by kernel_rfl) (by kernel_rfl) (by kernel_rfl) (by kernel_rfl) (regK_ok env_ok) (by kernel_rfl) (fun S => t81 S) e
noncomputable def orc16 := orcQ 81 F81 orc15
noncomputable def C16 : Cfg := cfg orc16
theorem ok16 : C16.Ok := orcQ_ok (C := C15) ok15 r81
noncomputable def B60 : Code := (Try.f60.body).getD .skip
def A60 : Ann := (Ann.node (some (0, [(0, Kd.i .i64), (1, Kd.v)])) Ann.nil (Ann.node none (Ann.node none Ann.nil (Ann.node none Ann.nil (Ann.node none (Ann.node none Ann.nil Ann.nil) Ann.nil))) (Ann.node none (Ann.node none (Ann.node none Ann.nil (Ann.node none (Ann.node none Ann.nil Ann.nil) (Ann.node none Ann.nil (Ann.node none (Ann.node none Ann.nil Ann.nil) (Ann.node none (Ann.node none Ann.nil (Ann.node none Ann.nil (Ann.node none Ann.nil (Ann.node none Ann.nil Ann.nil)))) (Ann.node none (Ann.node none Ann.nil Ann.nil) Ann.nil)))))) Ann.nil) (Ann.node none Ann.nil Ann.nil))))
noncomputable def P60x0 (S : Sg) (r0 : Int) (r1 : Value) (h : Hp) : CRes :=
  allocK h 53 (Array.toList (Value.cells r1)) fun a0 h0 =>
  ptrAddK 0 a0 fun v1 =>
  load1K h0 v1 fun v2 =>
  pairK (callQ F79 [v2, (Value.int .i64 (Int.ofNat 3)), (Value.func (.func 80) #[] #[])] h0) fun v3 h3 =>
  extK v3 0 fun v4 =>
  intK .i64 v4 fun i5 =>
  extK v3 1 fun v6 =>
  intK .i64 v6 fun i7 =>
  boolN (eqZ i7 (Int.ofNat 0)) fun b8 =>
  ifB b8
  (some ((Value.int .i64 i7), h3))
  (ptrAddK 0 a0 fun v9 =>
  load1K h3 v9 fun v10 =>
  pairK (optK (F18 [v10] h3) fun v => some (v, h3)) fun v11 h11 =>
  intK .i64 v11 fun i12 =>
  boolZ (ltZ (Int.ofNat 60) i12) fun b13 =>
  ifB b13
  (some ((Value.int .i64 (Int.ofNat 9)), h11))
  (ptrAddK 3 a0 fun v14 =>
  load1K h11 v14 fun v15 =>
  lenSK v15 fun i16 =>
  boolN (eqZ i16 r0) fun b17 =>
  ifB b17
  (some ((Value.int .i64 (Int.ofNat 3)), h11))
  (ptrAddK 1 a0 fun v18 =>
  loadNK 2 h11 v18 fun v19 =>
  pairK (buildSliceV env h11 51 1 (List.toArray [(0, v19)])) fun v20 h20 =>
  pairK (callQ F81 [v20] h20) fun v21 h21 =>
  boolK v21 fun b22 =>
  boolN b22 fun b23 =>
  ifB b23
  (ifB b23
  (some ((Value.int .i64 (Int.ofNat 7)), h21))
  (some ((Value.int .i64 (Int.ofNat 0)), h21)))
  (ptrAddK 3 a0 fun v24 =>
  load1K h21 v24 fun v25 =>
  pairK (callQ F81 [v25] h21) fun v26 h26 =>
  boolK v26 fun b27 =>
  boolN b27 fun b28 =>
  ifB b28
  (ifB b28
  (some ((Value.int .i64 (Int.ofNat 7)), h26))
  (some ((Value.int .i64 (Int.ofNat 0)), h26)))
  (ptrAddK 4 a0 fun v29 =>
  load1K h26 v29 fun v30 =>
  intK .i64 v30 fun i31 =>
  pairK (buildSliceV env h26 36 1 (List.toArray [(0, (Value.int .i64 i31))])) fun v32 h32 =>
  pairK (optK (F14 [(Value.int .i64 (Int.ofNat 0)), (Value.int .i64 (Int.ofNat 10000)), v32] h32) fun v => some (v, h32)) fun v33 h33 =>
  boolK v33 fun b34 =>
  boolN b34 fun b35 =>
  ifB b35
  (some ((Value.int .i64 (Int.ofNat 7)), h33))
  (some ((Value.int .i64 (Int.ofNat 0)), h33)))))))
noncomputable def T60 (S : Sg) : Sg := tabC 0 (uI fun r0 => uV fun r1 => uN fun h => P60x0 S r0 r1 h) (tabN)
noncomputable def F60 (args : List Value) (h : Hp) : CRes := packVals [Kd.i .i64, Kd.v] args fun al => rec' T60 1000000 0 al h
def nt60 : Nat := 2 + (42 - 2)
theorem q60x0 (S : Sg) (r0 : Int) (r1 : Value) (h : Hp) : P60x0 S r0 r1 h = stepAt (regK env orc16 (nt60)) (finK env Try.f60.results.toList) (collect B60 A60 []) 0 S (AL.i r0 (AL.v r1 AL.n)) h := by kernel_rfl
theorem t60 (S : Sg) : Tab (fun l vs h => stepAt (regK env orc16 nt60) (finK env Try.f60.results.toList) (collect B60 A60 []) l S vs h) (T60 S) := by
  unfold T60
  refine Tab.cons 0 (fun vs0 h q e0 => ?_) ?_
  · obtain ⟨r0, vs1, rfl, e1⟩ := uI_some e0
    obtain ⟨r1, vs2, rfl, e2⟩ := uV_some e1
    obtain ⟨rfl, ee⟩ := uN_some e2
    exact (q60x0 S r0 r1 h).symm.trans ee
  exact Tab.nil
theorem r60 : ∀ args h v h', F60 args h = some (v, h') → Runs (C16) (.call 60 args.toArray h) (.ret v h') := by
  intro args h v h' e
  exact fun_sound (C := C16) (fn := Try.f60) (body := B60) (np := 2) (A := A60) (T := T60) (kinds := [Kd.i .i64, Kd.v]) (by kernel_rfl) (by kernel_rfl) (by kernel_rfl) (by kernel_rfl) (regK_ok env_ok) (by kernel_rfl) (fun S => t60 S) e
noncomputable def orc17 := orcQ 60 F60 orc16
noncomputable def C17 : Cfg := cfg orc17
theorem ok17 : C17.Ok := orcQ_ok (C := C16) ok16 r60
noncomputable def B59 : Code := (Try.f59.body).getD .skip
def A59 : Ann := (Ann.node (some (0, [(0, Kd.v), (1, Kd.v), (2, Kd.v)])) Ann.nil (Ann.node none Ann.nil Ann.nil))
noncomputable def P59x0 (S : Sg) (r0 : Value) (r1 : Value) (r2 : Value) (h : Hp) : CRes :=
  allocK h 53 (Array.toList (Value.cells r1)) fun a0 h0 =>
  ptrAddK 1 r2 fun v1 =>
  load1K h0 v1 fun v2 =>
  lenSK v2 fun i3 =>
  loadNK 5 h0 a0 fun v4 =>
  pairK (callQ F60 [(Value.int .i64 i3), v4] h0) fun v5 h5 =>
  intK .i64 v5 fun i6 =>
  some ((Value.int .i64 i6), h5)
noncomputable def T59 (S : Sg) : Sg := tabC 0 (uV fun r0 => uV fun r1 => uV fun r2 => uN fun h => P59x0 S r0 r1 r2 h) (tabN)
noncomputable def F59 (args : List Value) (h : Hp) : CRes := packVals [Kd.v, Kd.v, Kd.v] args fun al => rec' T59 1000000 0 al h
def nt59 : Nat := 3 + (11 - 3)
theorem q59x0 (S : Sg) (r0 : Value) (r1 : Value) (r2 : Value) (h : Hp) : P59x0 S r0 r1 r2 h = stepAt (regK env orc17 (nt59)) (finK env Try.f59.results.toList) (collect B59 A59 []) 0 S (AL.v r0 (AL.v r1 (AL.v r2 AL.n))) h := by kernel_rfl
theorem t59 (S : Sg) : Tab (fun l vs h => stepAt (regK env orc17 nt59) (finK env Try.f59.results.toList) (collect B59 A59 []) l S vs h) (T59 S) := by
  unfold T59
  refine Tab.cons 0 (fun vs0 h q e0 => ?_) ?_
  · obtain ⟨r0, vs1, rfl, e1⟩ := uV_some e0
    obtain ⟨r1, vs2, rfl, e2⟩ := uV_some e1
    obtain ⟨r2, vs3, rfl, e3⟩ := uV_some e2
    obtain ⟨rfl, ee⟩ := uN_some e3
    exact (q59x0 S r0 r1 r2 h).symm.trans ee
  exact Tab.nil
theorem r59 : ∀ args h v h', F59 args h = some (v, h') → Runs (C17) (.call 59 args.toArray h) (.ret v h') := by
  intro args h v h' e
  exact fun_sound (C := C17) (fn := Try.f59) (body := B59) (np := 3) (A := A59) (T := T59) (kinds := [Kd.v, Kd.v, Kd.v]) (by kernel_rfl) (by kernel_rfl) (by kernel_rfl) (by kernel_rfl) (regK_ok env_ok) (by kernel_rfl) (fun S => t59 S) e
noncomputable def orc18 := orcQ 59 F59 orc17
noncomputable def C18 : Cfg := cfg orc18
theorem ok18 : C18.Ok := orcQ_ok (C := C17) ok17 r59
noncomputable def B55 : Code := (Try.f55.body).getD .skip
def A55 : Ann := (Ann.node (some (0, [(0, Kd.i .i64)])) Ann.nil (Ann.node none (Ann.node none (Ann.node none Ann.nil (Ann.node none (Ann.node none Ann.nil Ann.nil) (Ann.node none Ann.nil (Ann.node none (Ann.node none Ann.nil Ann.nil) Ann.nil)))) Ann.nil) (Ann.node none Ann.nil Ann.nil)))
noncomputable def P55x0 (S : Sg) (r0 : Int) (h : Hp) : CRes :=
  pairK (buildSliceV env h 36 1 (List.toArray [(0, (Value.int .i64 r0))])) fun v0 h0 =>
  pairK (optK (F14 [(Value.int .i64 (Int.ofNat 2)), (Value.int .i64 (Int.ofNat 60)), v0] h0) fun v => some (v, h0)) fun v1 h1 =>
  boolK v1 fun b2 =>
  boolN b2 fun b3 =>
  ifB b3
  (some ((Value.int .i64 (Int.ofNat 7)), h1))
  (slowI .i64 (binW env .rem 3 (Value.int .i64 r0) (Value.int .i64 (Int.ofNat 2))) fun i4 =>
  boolN (eqZ i4 (Int.ofNat 0)) fun b5 =>
  ifB b5
  (some ((Value.int .i64 (Int.ofNat 2)), h1))
  (some ((Value.int .i64 (Int.ofNat 0)), h1)))
noncomputable def T55 (S : Sg) : Sg := tabC 0 (uI fun r0 => uN fun h => P55x0 S r0 h) (tabN)
noncomputable def F55 (args : List Value) (h : Hp) : CRes := packVals [Kd.i .i64] args fun al => rec' T55 1000000 0 al h
def nt55 : Nat := 1 + (12 - 1)
theorem q55x0 (S : Sg) (r0 : Int) (h : Hp) : P55x0 S r0 h = stepAt (regK env orc18 (nt55)) (finK env Try.f55.results.toList) (collect B55 A55 []) 0 S (AL.i r0 AL.n) h := by kernel_rfl
theorem t55 (S : Sg) : Tab (fun l vs h => stepAt (regK env orc18 nt55) (finK env Try.f55.results.toList) (collect B55 A55 []) l S vs h) (T55 S) := by
  unfold T55
  refine Tab.cons 0 (fun vs0 h q e0 => ?_) ?_
  · obtain ⟨r0, vs1, rfl, e1⟩ := uI_some e0
    obtain ⟨rfl, ee⟩ := uN_some e1
    exact (q55x0 S r0 h).symm.trans ee
  exact Tab.nil
theorem r55 : ∀ args h v h', F55 args h = some (v, h') → Runs (C18) (.call 55 args.toArray h) (.ret v h') := by
  intro args h v h' e
  exact fun_sound (C := C18) (fn := Try.f55) (body := B55) (np := 1) (A := A55) (T := T55) (kinds := [Kd.i .i64]) (by kernel_rfl) (by kernel_rfl) (by kernel_rfl) (by kernel_rfl) (regK_ok env_ok) (by kernel_rfl) (fun S => t55 S) e
noncomputable def orc19 := orcQ 55 F55 orc18
noncomputable def C19 : Cfg := cfg orc19
theorem ok19 : C19.Ok := orcQ_ok (C := C18) ok18 r55
noncomputable def B74 : Code := (Try.f74.body).getD .skip
def A74 : Ann := (Ann.node (some (0, [(0, Kd.v), (1, Kd.v)])) Ann.nil (Ann.node none (Ann.node none Ann.nil (Ann.node none (Ann.node (some (1, [(0, Kd.v), (1, Kd.v), (9, Kd.v), (10, Kd.i .i64), (11, Kd.i .i64)])) (Ann.node none Ann.nil (Ann.node none (Ann.node none Ann.nil Ann.nil) (Ann.node none (Ann.node none (Ann.node none Ann.nil (Ann.node none Ann.nil (Ann.node none Ann.nil (Ann.node none (Ann.node none Ann.nil Ann.nil) Ann.nil)))) Ann.nil) Ann.nil))) Ann.nil) Ann.nil)) (Ann.node (some (2, [])) Ann.nil Ann.nil)))
noncomputable def P74x2 (S : Sg) (h : Hp) : CRes :=
  some (Value.tuple (List.toArray [(Value.int .i64 (Int.ofNat 0)), (Value.int .i64 (Int.ofNat 0))]), h)
noncomputable def P74x1 (S : Sg) (r0 : Value) (r1 : Value) (r9 : Value) (r10 : Int) (r11 : Int) (h : Hp) : CRes :=
  boolZ (ltZ r11 r10) fun b0 =>
  ifB b0
  (idxSK 3 r9 r11 fun v1 =>
  loadNK 3 h v1 fun v2 =>
  allocK h 44 [(Value.string (ByteArray.mk #[])), (Value.int .i64 (Int.ofNat 0)), (Value.int .i64 (Int.ofNat 0))] fun a3 h3 =>
  storeNK 3 h3 a3 v2 fun h4 =>
  optK (sliceV env h4 22 r0 none (some (Value.int .i64 r11)) none) fun v5 =>
  loadNK 3 h4 a3 fun v6 =>
  pairK (callF orc19 r1 [v5, v6] h4) fun v7 h7 =>
  intK .i64 v7 fun i8 =>
  boolN (eqZ i8 (Int.ofNat 0)) fun b9 =>
  ifB b9
  (some (Value.tuple (List.toArray [(Value.int .i64 r11), (Value.int .i64 i8)]), h7))
  (wrap64 (Int.add r11 (Int.ofNat 1)) fun i10 =>
  S 1 (AL.v r0 (AL.v r1 (AL.v r9 (AL.i r10 (AL.i i10 AL.n))))) h7))
  (S 2 AL.n h)
noncomputable def P74x0 (S : Sg) (r0 : Value) (r1 : Value) (h : Hp) : CRes :=
  lenSK r0 fun i0 =>
  S 1 (AL.v r0 (AL.v r1 (AL.v r0 (AL.i i0 (AL.i (Int.ofNat 0) AL.n))))) h
noncomputable def T74 (S : Sg) : Sg := tabC 0 (uV fun r0 => uV fun r1 => uN fun h => P74x0 S r0 r1 h) (tabC 1 (uV fun r0 => uV fun r1 => uV fun r9 => uI fun r10 => uI fun r11 => uN fun h => P74x1 S r0 r1 r9 r10 r11 h) (tabC 2 (uN fun h => P74x2 S  h) (tabN)))
noncomputable def F74 (args : List Value) (h : Hp) : CRes := packVals [Kd.v, Kd.v] args fun al => rec' T74 1000000 0 al h
def nt74 : Nat := 2 + (27 - 2)
theorem q74x2 (S : Sg) (h : Hp) : P74x2 S  h = stepAt (regK env orc19 (nt74)) (finK env Try.f74.results.toList) (collect B74 A74 []) 2 S AL.n h := by kernel_rfl
theorem q74x1 (S : Sg) (r0 : Value) (r1 : Value) (r9 : Value) (r10 : Int) (r11 : Int) (h : Hp) : P74x1 S r0 r1 r9 r10 r11 h = stepAt (regK env orc19 (nt74)) (finK env Try.f74.results.toList) (collect B74 A74 []) 1 S (AL.v r0 (AL.v r1 (AL.v r9 (AL.i r10 (AL.i r11 AL.n))))) h := by kernel_rfl
theorem q74x0 (S : Sg) (r0 : Value) (r1 : Value) (h : Hp) : P74x0 S r0 r1 h = stepAt (regK env orc19 (nt74)) (finK env Try.f74.results.toList) (collect B74 A74 []) 0 S (AL.v r0 (AL.v r1 AL.n)) h := by kernel_rfl
theorem t74 (S : Sg) : Tab (fun l vs h => stepAt (regK env orc19 nt74) (finK env Try.f74.results.toList) (collect B74 A74 []) l S vs h) (T74 S) := by
  unfold T74
  refine Tab.cons 0 (fun vs0 h q e0 => ?_) ?_
  · obtain ⟨r0, vs1, rfl, e1⟩ := uV_some e0
    obtain ⟨r1, vs2, rfl, e2⟩ := uV_some e1
    obtain ⟨rfl, ee⟩ := uN_some e2
    exact (q74x0 S r0 r1 h).symm.trans ee
  refine Tab.cons 1 (fun vs0 h q e0 => ?_) ?_
  · obtain ⟨r0, vs1, rfl, e1⟩ := uV_some e0
    obtain ⟨r1, vs2, rfl, e2⟩ := uV_some e1
    obtain ⟨r9, vs3, rfl, e3⟩ := uV_some e2
    obtain ⟨r10, vs4, rfl, e4⟩ := uI_some e3
    obtain ⟨r11, vs5, rfl, e5⟩ := uI_some e4
    obtain ⟨rfl, ee⟩ := uN_some e5
    exact (q74x1 S r0 r1 r9 r10 r11 h).symm.trans ee
  refine Tab.cons 2 (fun vs0 h q e0 => ?_) ?_
  · 
    obtain ⟨rfl, ee⟩ := uN_some e0
    exact (q74x2 S  h).symm.trans ee
  exact Tab.nil
theorem r74 : ∀ args h v h', F74 args h = some (v, h') → Runs (C19) (.call 74 args.toArray h) (.ret v h') := by
  intro args h v h' e
  exact fun_sound (C := C19) (fn := Try.f74) (body := B74) (np := 2) (A := A74) (T := T74) (kinds := [Kd.v, Kd.v]) (by kernel_rfl) (by kernel_rfl) (by kernel_rfl) (by kernel_rfl) (regK_ok env_ok) (by kernel_rfl) (fun S => t74 S) e
noncomputable def orc20 := orcQ 74 F74 orc19
noncomputable def C20 : Cfg := cfg orc20
theorem ok20 : C20.Ok := orcQ_ok (C := C19) ok19 r74
noncomputable def B56 : Code := (Try.f56.body).getD .skip
def A56 : Ann := (Ann.node (some (0, [(0, Kd.v), (1, Kd.i .i64), (2, Kd.v)])) Ann.nil (Ann.node none (Ann.node none Ann.nil (Ann.node none (Ann.node none Ann.nil Ann.nil) Ann.nil)) (Ann.node none Ann.nil Ann.nil)))
noncomputable def P56x0 (S : Sg) (r0 : Value) (r1 : Int) (r2 : Value) (h : Hp) : CRes :=
  lenSK r0 fun i0 =>
  boolZ (ltZ r1 i0) fun b1 =>
  ifB b1
  (some (Value.tuple (List.toArray [(Value.int .i64 (Int.ofNat 0)), (Value.int .i64 (Int.ofNat 3))]), h))
  (pairK (callQ F74 [r0, r2] h) fun v2 h2 =>
  extK v2 0 fun v3 =>
  intK .i64 v3 fun i4 =>
  extK v2 1 fun v5 =>
  intK .i64 v5 fun i6 =>
  some (Value.tuple (List.toArray [(Value.int .i64 i4), (Value.int .i64 i6)]), h2))
noncomputable def T56 (S : Sg) : Sg := tabC 0 (uV fun r0 => uI fun r1 => uV fun r2 => uN fun h => P56x0 S r0 r1 r2 h) (tabN)
noncomputable def F56 (args : List Value) (h : Hp) : CRes := packVals [Kd.v, Kd.i .i64, Kd.v] args fun al => rec' T56 1000000 0 al h
def nt56 : Nat := 3 + (17 - 3)
theorem q56x0 (S : Sg) (r0 : Value) (r1 : Int) (r2 : Value) (h : Hp) : P56x0 S r0 r1 r2 h = stepAt (regK env orc20 (nt56)) (finK env Try.f56.results.toList) (collect B56 A56 []) 0 S (AL.v r0 (AL.i r1 (AL.v r2 AL.n))) h := by kernel_rfl
theorem t56 (S : Sg) : Tab (fun l vs h => stepAt (regK env orc20 nt56) (finK env Try.f56.results.toList) (collect B56 A56 []) l S vs h) (T56 S) := by
  unfold T56
  refine Tab.cons 0 (fun vs0 h q e0 => ?_) ?_
  · obtain ⟨r0, vs1, rfl, e1⟩ := uV_some e0
    obtain ⟨r1, vs2, rfl, e2⟩ := uI_some e1
    obtain ⟨r2, vs3, rfl, e3⟩ := uV_some e2
    obtain ⟨rfl, ee⟩ := uN_some e3
    exact (q56x0 S r0 r1 r2 h).symm.trans ee
  exact Tab.nil
theorem r56 : ∀ args h v h', F56 args h = some (v, h') → Runs (C20) (.call 56 args.toArray h) (.ret v h') := by
  intro args h v h' e
  exact fun_sound (C := C20) (fn := Try.f56) (body := B56) (np := 3) (A := A56) (T := T56) (kinds := [Kd.v, Kd.i .i64, Kd.v]) (by kernel_rfl) (by kernel_rfl) (by kernel_rfl) (by kernel_rfl) (regK_ok env_ok) (by kernel_rfl) (fun S => t56 S) e
noncomputable def orc21 := orcQ 56 F56 orc20
noncomputable def C21 : Cfg := cfg orc21
theorem ok21 : C21.Ok := orcQ_ok (C := C20) ok20 r56
noncomputable def B78 : Code := (Try.f78.body).getD .skip
def A78 : Ann := (Ann.node (some (0, [(0, Kd.v), (1, Kd.v)])) Ann.nil (Ann.node none (Ann.node none Ann.nil (Ann.node none (Ann.node (some (1, [(0, Kd.v), (1, Kd.v), (9, Kd.v), (10, Kd.i .i64), (11, Kd.i .i64)])) (Ann.node none Ann.nil (Ann.node none (Ann.node none Ann.nil Ann.nil) (Ann.node none (Ann.node none (Ann.node none Ann.nil (Ann.node none Ann.nil (Ann.node none Ann.nil (Ann.node none (Ann.node none Ann.nil Ann.nil) Ann.nil)))) Ann.nil) Ann.nil))) Ann.nil) Ann.nil)) (Ann.node (some (2, [])) Ann.nil Ann.nil)))
noncomputable def P78x2 (S : Sg) (h : Hp) : CRes :=
  some (Value.tuple (List.toArray [(Value.int .i64 (Int.ofNat 0)), (Value.int .i64 (Int.ofNat 0))]), h)
noncomputable def P78x1 (S : Sg) (r0 : Value) (r1 : Value) (r9 : Value) (r10 : Int) (r11 : Int) (h : Hp) : CRes :=
  boolZ (ltZ r11 r10) fun b0 =>
  ifB b0
  (idxSK 5 r9 r11 fun v1 =>
  loadNK 5 h v1 fun v2 =>
  allocK h 53 [(Value.slice none 0 0), (Value.int .i64 (Int.ofNat 0)), (Value.int .i64 (Int.ofNat 0)), (Value.slice none 0 0), (Value.int .i64 (Int.ofNat 0))] fun a3 h3 =>
  storeNK 5 h3 a3 v2 fun h4 =>
  optK (sliceV env h4 23 r0 none (some (Value.int .i64 r11)) none) fun v5 =>
  loadNK 5 h4 a3 fun v6 =>
  pairK (callF orc21 r1 [v5, v6] h4) fun v7 h7 =>
  intK .i64 v7 fun i8 =>
  boolN (eqZ i8 (Int.ofNat 0)) fun b9 =>
  ifB b9
  (some (Value.tuple (List.toArray [(Value.int .i64 r11), (Value.int .i64 i8)]), h7))
  (wrap64 (Int.add r11 (Int.ofNat 1)) fun i10 =>
  S 1 (AL.v r0 (AL.v r1 (AL.v r9 (AL.i r10 (AL.i i10 AL.n))))) h7))
  (S 2 AL.n h)
noncomputable def P78x0 (S : Sg) (r0 : Value) (r1 : Value) (h : Hp) : CRes :=
  lenSK r0 fun i0 =>
  S 1 (AL.v r0 (AL.v r1 (AL.v r0 (AL.i i0 (AL.i (Int.ofNat 0) AL.n))))) h
noncomputable def T78 (S : Sg) : Sg := tabC 0 (uV fun r0 => uV fun r1 => uN fun h => P78x0 S r0 r1 h) (tabC 1 (uV fun r0 => uV fun r1 => uV fun r9 => uI fun r10 => uI fun r11 => uN fun h => P78x1 S r0 r1 r9 r10 r11 h) (tabC 2 (uN fun h => P78x2 S  h) (tabN)))
noncomputable def F78 (args : List Value) (h : Hp) : CRes := packVals [Kd.v, Kd.v] args fun al => rec' T78 1000000 0 al h
def nt78 : Nat := 2 + (27 - 2)
theorem q78x2 (S : Sg) (h : Hp) : P78x2 S  h = stepAt (regK env orc21 (nt78)) (finK env Try.f78.results.toList) (collect B78 A78 []) 2 S AL.n h := by kernel_rfl
theorem q78x1 (S : Sg) (r0 : Value) (r1 : Value) (r9 : Value) (r10 : Int) (r11 : Int) (h : Hp) : P78x1 S r0 r1 r9 r10 r11 h = stepAt (regK env orc21 (nt78)) (finK env Try.f78.results.toList) (collect B78 A78 []) 1 S (AL.v r0 (AL.v r1 (AL.v r9 (AL.i r10 (AL.i r11 AL.n))))) h := by kernel_rfl
theorem q78x0 (S : Sg) (r0 : Value) (r1 : Value) (h : Hp) : P78x0 S r0 r1 h = stepAt (regK env orc21 (nt78)) (finK env Try.f78.results.toList) (collect B78 A78 []) 0 S (AL.v r0 (AL.v r1 AL.n)) h := by kernel_rfl
theorem t78 (S : Sg) : Tab (fun l vs h => stepAt (regK env orc21 nt78) (finK env Try.f78.results.toList) (collect B78 A78 []) l S vs h) (T78 S) := by
  unfold T78
  refine Tab.cons 0 (fun vs0 h q e0 => ?_) ?_
  · obtain ⟨r0, vs1, rfl, e1⟩ := uV_some e0
    obtain ⟨r1, vs2, rfl, e2⟩ := uV_some e1
    obtain ⟨rfl, ee⟩ := uN_some e2
    exact (q78x0 S r0 r1 h).symm.trans ee
  refine Tab.cons 1 (fun vs0 h q e0 => ?_) ?_
  · obtain ⟨r0, vs1, rfl, e1⟩ := uV_some e0
    obtain ⟨r1, vs2, rfl, e2⟩ := uV_some e1
    obtain ⟨r9, vs3, rfl, e3⟩ := uV_some e2
    obtain ⟨r10, vs4, rfl, e4⟩ := uI_some e3
    obtain ⟨r11, vs5, rfl, e5⟩ := uI_some e4
    obtain ⟨rfl, ee⟩ := uN_some e5
    exact (q78x1 S r0 r1 r9 r10 r11 h).symm.trans ee
  refine Tab.cons 2 (fun vs0 h q e0 => ?_) ?_
  · 
    obtain ⟨rfl, ee⟩ := uN_some e0
    exact (q78x2 S  h).symm.trans ee
  exact Tab.nil
theorem r78 : ∀ args h v h', F78 args h = some (v, h') → Runs (C21) (.call 78 args.toArray h) (.ret v h') := by
  intro args h v h' e
  exact fun_sound (C := C21) (fn := Try.f78) (body := B78) (np := 2) (A := A78) (T := T78) (kinds := [Kd.v, Kd.v]) (by kernel_rfl) (by kernel_rfl) (by kernel_rfl) (by kernel_rfl) (regK_ok env_ok) (by kernel_rfl) (fun S => t78 S) e
noncomputable def orc22 := orcQ 78 F78 orc21
noncomputable def C22 : Cfg := cfg orc22
theorem ok22 : C22.Ok := orcQ_ok (C := C21) ok21 r78
noncomputable def B58 : Code := (Try.f58.body).getD .skip
def A58 : Ann := (Ann.node (some (0, [(0, Kd.v), (1, Kd.i .i64), (2, Kd.v)])) Ann.nil (Ann.node none (Ann.node none Ann.nil (Ann.node none (Ann.node none Ann.nil Ann.nil) Ann.nil)) (Ann.node none Ann.nil Ann.nil)))
noncomputable def P58x0 (S : Sg) (r0 : Value) (r1 : Int) (r2 : Value) (h : Hp) : CRes :=
  lenSK r0 fun i0 =>
  boolZ (ltZ r1 i0) fun b1 =>
  ifB b1
  (some (Value.tuple (List.toArray [(Value.int .i64 (Int.ofNat 0)), (Value.int .i64 (Int.ofNat 3))]), h))
  (pairK (callQ F78 [r0, r2] h) fun v2 h2 =>
  extK v2 0 fun v3 =>
  intK .i64 v3 fun i4 =>
  extK v2 1 fun v5 =>
  intK .i64 v5 fun i6 =>
  some (Value.tuple (List.toArray [(Value.int .i64 i4), (Value.int .i64 i6)]), h2))
noncomputable def T58 (S : Sg) : Sg := tabC 0 (uV fun r0 => uI fun r1 => uV fun r2 => uN fun h => P58x0 S r0 r1 r2 h) (tabN)
noncomputable def F58 (args : List Value) (h : Hp) : CRes := packVals [Kd.v, Kd.i .i64, Kd.v] args fun al => rec' T58 1000000 0 al h
def nt58 : Nat := 3 + (17 - 3)
theorem q58x0 (S : Sg) (r0 : Value) (r1 : Int) (r2 : Value) (h : Hp) : P58x0 S r0 r1 r2 h = stepAt (regK env orc22 (nt58)) (finK env Try.f58.results.toList) (collect B58 A58 []) 0 S (AL.v r0 (AL.i r1 (AL.v r2 AL.n))) h := by kernel_rfl
theorem t58 (S : Sg) : Tab (fun l vs h => stepAt (regK env orc22 nt58) (finK env Try.f58.results.toList) (collect B58 A58 []) l S vs h) (T58 S) := by
  unfold T58
  refine Tab.cons 0 (fun vs0 h q e0 => ?_) ?_
  · obtain ⟨r0, vs1, rfl, e1⟩ := uV_some e0
    obtain ⟨r1, vs2, rfl, e2⟩ := uI_some e1
    obtain ⟨r2, vs3, rfl, e3⟩ := uV_some e2
    obtain ⟨rfl, ee⟩ := uN_some e3
    exact (q58x0 S r0 r1 r2 h).symm.trans ee
  exact Tab.nil
theorem r58 : ∀ args h v h', F58 args h = some (v, h') → Runs (C22) (.call 58 args.toArray h) (.ret v h') := by
  intro args h v h' e
  exact fun_sound (C := C22) (fn := Try.f58) (body := B58) (np := 3) (A := A58) (T := T58) (kinds := [Kd.v, Kd.i .i64, Kd.v]) (by kernel_rfl) (by kernel_rfl) (by kernel_rfl) (by kernel_rfl) (regK_ok env_ok) (by kernel_rfl) (fun S => t58 S) e
noncomputable def orc23 := orcQ 58 F58 orc22
noncomputable def C23 : Cfg := cfg orc23
theorem ok23 : C23.Ok := orcQ_ok (C := C22) ok22 r58
noncomputable def B38 : Code := (Try.f38.body).getD .skip
def A38 : Ann := (Ann.node (some (0, [(0, Kd.v)])) Ann.nil (Ann.node none (Ann.node none Ann.nil (Ann.node none Ann.nil (Ann.node none (Ann.node none Ann.nil Ann.nil) Ann.nil))) (Ann.node none (Ann.node none Ann.nil (Ann.node none Ann.nil (Ann.node none (Ann.node none Ann.nil Ann.nil) Ann.nil))) (Ann.node none Ann.nil (Ann.node none (Ann.node none Ann.nil (Ann.node none (Ann.node none Ann.nil Ann.nil) Ann.nil)) (Ann.node none Ann.nil Ann.nil))))))
noncomputable def P38x0 (S : Sg) (r0 : Value) (h : Hp) : CRes :=
  allocK h 25 (Array.toList (Value.cells r0)) fun a0 h0 =>
  ptrAddK 0 a0 fun v1 =>
  load1K h0 v1 fun v2 =>
  intK .i64 v2 fun i3 =>
  pairK (callQ F55 [(Value.int .i64 i3)] h0) fun v4 h4 =>
  intK .i64 v4 fun i5 =>
  boolN (eqZ i5 (Int.ofNat 0)) fun b6 =>
  ifB b6
  (some (Value.tuple (List.toArray [(Value.int .i64 (Int.ofNat 1)), (Value.int .i64 (Int.ofNat 0)), (Value.int .i64 i5)]), h4))
  (ptrAddK 1 a0 fun v7 =>
  load1K h4 v7 fun v8 =>
  pairK (callQ F56 [v8, (Value.int .i64 (Int.ofNat 3)), (Value.func (.func 57) #[] #[])] h4) fun v9 h9 =>
  extK v9 0 fun v10 =>
  intK .i64 v10 fun i11 =>
  extK v9 1 fun v12 =>
  intK .i64 v12 fun i13 =>
  boolN (eqZ i13 (Int.ofNat 0)) fun b14 =>
  ifB b14
  (some (Value.tuple (List.toArray [(Value.int .i64 (Int.ofNat 2)), (Value.int .i64 i11), (Value.int .i64 i13)]), h9))
  (ptrAddK 2 a0 fun v15 =>
  load1K h9 v15 fun v16 =>
  pairK (callQ F58 [v16, (Value.int .i64 (Int.ofNat 4)), (Value.func (.func 59) (List.toArray []) (List.toArray [a0]))] h9) fun v17 h17 =>
  extK v17 0 fun v18 =>
  intK .i64 v18 fun i19 =>
  extK v17 1 fun v20 =>
  intK .i64 v20 fun i21 =>
  boolN (eqZ i21 (Int.ofNat 0)) fun b22 =>
  ifB b22
  (some (Value.tuple (List.toArray [(Value.int .i64 (Int.ofNat 3)), (Value.int .i64 i19), (Value.int .i64 i21)]), h17))
  (some (Value.tuple (List.toArray [(Value.int .i64 (Int.ofNat 0)), (Value.int .i64 (Int.ofNat 0)), (Value.int .i64 (Int.ofNat 0))]), h17))))
noncomputable def T38 (S : Sg) : Sg := tabC 0 (uV fun r0 => uN fun h => P38x0 S r0 h) (tabN)
noncomputable def F38 (args : List Value) (h : Hp) : CRes := packVals [Kd.v] args fun al => rec' T38 1000000 0 al h
def nt38 : Nat := 1 + (35 - 1)
theorem q38x0 (S : Sg) (r0 : Value) (h : Hp) : P38x0 S r0 h = stepAt (regK env orc23 (nt38)) (finK env Try.f38.results.toList) (collect B38 A38 []) 0 S (AL.v r0 AL.n) h := by kernel_rfl
theorem t38 (S : Sg) : Tab (fun l vs h => stepAt (regK env orc23 nt38) (finK env Try.f38.results.toList) (collect B38 A38 []) l S vs h) (T38 S) := by
  unfold T38
  refine Tab.cons 0 (fun vs0 h q e0 => ?_) ?_
  · obtain ⟨r0, vs1, rfl, e1⟩ := uV_some e0
    obtain ⟨rfl, ee⟩ := uN_some e1
    exact (q38x0 S r0 h).symm.trans ee
  exact Tab.nil
theorem r38 : ∀ args h v h', F38 args h = some (v, h') → Runs (C23) (.call 38 args.toArray h) (.ret v h') := by
  intro args h v h' e
  exact fun_sound (C := C23) (fn := Try.f38) (body := B38) (np := 1) (A := A38) (T := T38) (kinds := [Kd.v]) (by kernel_rfl) (by kernel_rfl) (by kernel_rfl) (by kernel_rfl) (regK_ok env_ok) (by kernel_rfl) (fun S => t38 S) e
noncomputable def orc24 := orcQ 38 F38 orc23
noncomputable def C24 : Cfg := cfg orc24
theorem ok24 : C24.Ok := orcQ_ok (C := C23) ok23 r38
noncomputable def B13 : Code := (Try.f13.body).getD .skip
def A13 : Ann := (Ann.node (some (0, [(0, Kd.v)])) Ann.nil (Ann.node none (Ann.node none Ann.nil (Ann.node none Ann.nil (Ann.node none (Ann.node none Ann.nil Ann.nil) Ann.nil))) (Ann.node none Ann.nil Ann.nil)))
noncomputable def P13x0 (S : Sg) (r0 : Value) (h : Hp) : CRes :=
  allocK h 25 (Array.toList (Value.cells r0)) fun a0 h0 =>
  allocK h0 55 [(Value.int .i64 (Int.ofNat 0)), (Value.slice none 0 0), (Value.slice none 0 0)] fun a1 h1 =>
  loadNK 3 h1 a0 fun v2 =>
  pairK (callQ F38 [v2] h1) fun v3 h3 =>
  extK v3 0 fun v4 =>
  intK .i64 v4 fun i5 =>
  extK v3 1 fun v6 =>
  intK .i64 v6 fun i7 =>
  extK v3 2 fun v8 =>
  intK .i64 v8 fun i9 =>
  boolN (eqZ i9 (Int.ofNat 0)) fun b10 =>
  ifB b10
  (optK (buildV env 55 (List.toArray [])) fun v11 =>
  storeNK 3 h3 a1 v11 fun h12 =>
  loadNK 3 h12 a1 fun v13 => some (Value.tuple (List.toArray [v13, (Value.int .i64 i9)]), h12))
  (loadNK 3 h3 a0 fun v14 =>
  optK (buildV env 55 (List.toArray [(0, v14)])) fun v15 =>
  storeNK 3 h3 a1 v15 fun h16 =>
  loadNK 3 h16 a1 fun v17 => some (Value.tuple (List.toArray [v17, (Value.int .i64 (Int.ofNat 0))]), h16))
noncomputable def T13 (S : Sg) : Sg := tabC 0 (uV fun r0 => uN fun h => P13x0 S r0 h) (tabN)
noncomputable def F13 (args : List Value) (h : Hp) : CRes := packVals [Kd.v] args fun al => rec' T13 1000000 0 al h
def nt13 : Nat := 1 + (19 - 1)
theorem q13x0 (S : Sg) (r0 : Value) (h : Hp) : P13x0 S r0 h = stepAt (regK env orc24 (nt13)) (finK env Try.f13.results.toList) (collect B13 A13 []) 0 S (AL.v r0 AL.n) h := by kernel_rfl
theorem t13 (S : Sg) : Tab (fun l vs h => stepAt (regK env orc24 nt13) (finK env Try.f13.results.toList) (collect B13 A13 []) l S vs h) (T13 S) := by
  unfold T13
  refine Tab.cons 0 (fun vs0 h q e0 => ?_) ?_
  · obtain ⟨r0, vs1, rfl, e1⟩ := uV_some e0
    obtain ⟨rfl, ee⟩ := uN_some e1
    exact (q13x0 S r0 h).symm.trans ee
  exact Tab.nil
theorem r13 : ∀ args h v h', F13 args h = some (v, h') → Runs (C24) (.call 13 args.toArray h) (.ret v h') := by
  intro args h v h' e
  exact fun_sound (C := C24) (fn := Try.f13) (body := B13) (np := 1) (A := A13) (T := T13) (kinds := [Kd.v]) (by kernel_rfl) (by kernel_rfl) (by kernel_rfl) (by kernel_rfl) (regK_ok env_ok) (by kernel_rfl) (fun S => t13 S) e
noncomputable def orc25 := orcQ 13 F13 orc24
noncomputable def C25 : Cfg := cfg orc25
theorem ok25 : C25.Ok := orcQ_ok (C := C24) ok24 r13
noncomputable def B39 : Code := (Try.f39.body).getD .skip
noncomputable def A39 : G.Ann (List KI) := (G.Ann.node (some (0, [KI.reg 0 (Kd.v)])) G.Ann.nil (G.Ann.node none G.Ann.nil G.Ann.nil))
noncomputable def P39x0 (h : Hp) (S : Nat → PAL → Option Value) (r0 : Value) : Option Value :=
  forceL (Array.toList (Value.cells r0)) fun c0 =>
  nthR c0 0 fun v1 =>
  intK .i64 v1 fun i2 =>
  slowI .i64 (binW env .quo 3 (Value.int .i64 i2) (Value.int .i64 (Int.ofNat 2))) fun i3 =>
  some (Value.int .i64 i3)
noncomputable def T39 (h : Hp) (S : Nat → PAL → Option Value) : Nat → PAL → Option Value := tabPC 0 (wV fun r0 => wN (P39x0 h S r0)) (tabPN)
noncomputable def F39 (args : List Value) (h : Hp) : Option Value := plainO (packArgs [Kd.v] args fun al => G.rec' (T39 h) 1000000 0 al)
def nt39 : Nat := 1 + (7 - 1)
theorem q39x0 (h : Hp) (S : Nat → PAL → Option Value) (r0 : Value) : P39x0 h S r0 = G.stepAt packP unpackP evXV (regP env pf6 nt39 h) (finP env Try.f39.results.toList) (G.collect B39 A39 []) 0 S (PAL.v r0 PAL.n) := by kernel_rfl
theorem t39 (h : Hp) (S : Nat → PAL → Option Value) : TabP (fun l al => G.stepAt packP unpackP evXV (regP env pf6 nt39 h) (finP env Try.f39.results.toList) (G.collect B39 A39 []) l S al) (T39 h S) := by
  unfold T39
  refine TabP.cons 0 (fun vs0 q e0 => ?_) ?_
  · obtain ⟨r0, vs1, rfl, e1⟩ := wV_some e0
    obtain ⟨rfl, ee⟩ := wN_some e1
    exact (q39x0 h S r0).symm.trans ee
  exact TabP.nil
theorem r39 : PSound Try.prog 39 F39 := fun_soundP (C := C0) ok0 (pf := pf6) pfok6 (fn := Try.f39) (body := B39) (kinds := [Kd.v]) (A := A39) (T := T39) (by kernel_rfl) (by kernel_rfl) (by kernel_rfl) (by kernel_rfl) (fun h S => t39 h S)
noncomputable def pf7 : PF := pfC 39 F39 pf6
theorem pfok7 : PfSound Try.prog pf7 := pfC_ok r39 pfok6
noncomputable def orc26 := orcP 39 F39 orc25
noncomputable def C26 : Cfg := cfg orc26
theorem ok26 : C26.Ok := orcP_ok (C := C25) ok25 r39
noncomputable def B15 : Code := (Try.f15.body).getD .skip
noncomputable def A15 : G.Ann (List KI) := (G.Ann.node (some (0, [KI.reg 0 (Kd.v), KI.reg 1 (Kd.i .i64)])) G.Ann.nil (G.Ann.node none G.Ann.nil G.Ann.nil))
noncomputable def P15x0 (h : Hp) (S : Nat → PAL → Option Value) (r0 : Value) (r1 : Int) : Option Value :=
  forceL (Array.toList (Value.cells r0)) fun c0 =>
  slowI .i64 (binW env .quo 3 (Value.int .i64 r1) (Value.int .i64 (Int.ofNat 13))) fun i1 =>
  wrap64 (Int.sub r1 i1) fun i2 =>
  dropR c0 0 fun d3 => takeR d3 3 fun l3 =>
  optK (F39 [(Value.agg (Array.mk l3))] h) fun v4 =>
  intK .i64 v4 fun i5 =>
  wrap64 (Int.mul i2 i5) fun i6 =>
  some (Value.int .i64 i6)
noncomputable def T15 (h : Hp) (S : Nat → PAL → Option Value) : Nat → PAL → Option Value := tabPC 0 (wV fun r0 => wI fun r1 => wN (P15x0 h S r0 r1)) (tabPN)
noncomputable def F15 (args : List Value) (h : Hp) : Option Value := plainO (packArgs [Kd.v, Kd.i .i64] args fun al => G.rec' (T15 h) 1000000 0 al)
def nt15 : Nat := 2 + (12 - 2)
theorem q15x0 (h : Hp) (S : Nat → PAL → Option Value) (r0 : Value) (r1 : Int) : P15x0 h S r0 r1 = G.stepAt packP unpackP evXV (regP env pf7 nt15 h) (finP env Try.f15.results.toList) (G.collect B15 A15 []) 0 S (PAL.v r0 (PAL.i r1 PAL.n)) := by kernel_rfl
theorem t15 (h : Hp) (S : Nat → PAL → Option Value) : TabP (fun l al => G.stepAt packP unpackP evXV (regP env pf7 nt15 h) (finP env Try.f15.results.toList) (G.collect B15 A15 []) l S al) (T15 h S) := by
  unfold T15
  refine TabP.cons 0 (fun vs0 q e0 => ?_) ?_
  · obtain ⟨r0, vs1, rfl, e1⟩ := wV_some e0
    obtain ⟨r1, vs2, rfl, e2⟩ := wI_some e1
    obtain ⟨rfl, ee⟩ := wN_some e2
    exact (q15x0 h S r0 r1).symm.trans ee
  exact TabP.nil
theorem r15 : PSound Try.prog 15 F15 := fun_soundP (C := C0) ok0 (pf := pf7) pfok7 (fn := Try.f15) (body := B15) (kinds := [Kd.v, Kd.i .i64]) (A := A15) (T := T15) (by kernel_rfl) (by kernel_rfl) (by kernel_rfl) (by kernel_rfl) (fun h S => t15 h S)
noncomputable def pf8 : PF := pfC 15 F15 pf7
theorem pfok8 : PfSound Try.prog pf8 := pfC_ok r15 pfok7
noncomputable def orc27 := orcP 15 F15 orc26
noncomputable def C27 : Cfg := cfg orc27
theorem ok27 : C27.Ok := orcP_ok (C := C26) ok26 r15
noncomputable def B5 : Code := (Try.f5.body).getD .skip
def A5 : Ann := (Ann.node (some (0, [(0, Kd.v), (1, Kd.i .i64)])) Ann.nil (Ann.node none Ann.nil (Ann.node none (Ann.node none Ann.nil (Ann.node none (Ann.node none Ann.nil Ann.nil) Ann.nil)) (Ann.node none (Ann.node none Ann.nil (Ann.node none (Ann.node none Ann.nil Ann.nil) Ann.nil)) (Ann.node none Ann.nil Ann.nil)))))
noncomputable def P5x0 (S : Sg) (r0 : Value) (r1 : Int) (h : Hp) : CRes :=
  allocK h 25 (Array.toList (Value.cells r0)) fun a0 h0 =>
  loadNK 3 h0 a0 fun v1 =>
  pairK (callQ F13 [v1] h0) fun v2 h2 =>
  extK v2 0 fun v3 =>
  extK v2 1 fun v4 =>
  intK .i64 v4 fun i5 =>
  allocK h2 55 [(Value.int .i64 (Int.ofNat 0)), (Value.slice none 0 0), (Value.slice none 0 0)] fun a6 h6 =>
  storeNK 3 h6 a6 v3 fun h7 =>
  boolN (eqZ i5 (Int.ofNat 0)) fun b8 =>
  ifB b8
  (some (Value.tuple (List.toArray [(Value.int .i64 (Int.ofNat 0)), (Value.int .i64 i5)]), h7))
  (pairK (buildSliceV env h7 36 1 (List.toArray [(0, (Value.int .i64 r1))])) fun v9 h9 =>
  pairK (optK (F14 [(Value.int .i64 (Int.ofNat 0)), (Value.int .i64 (Int.ofNat 60)), v9] h9) fun v => some (v, h9)) fun v10 h10 =>
  boolK v10 fun b11 =>
  boolN b11 fun b12 =>
  ifB b12
  (some (Value.tuple (List.toArray [(Value.int .i64 (Int.ofNat 0)), (Value.int .i64 (Int.ofNat 7))]), h10))
  (loadNK 3 h10 a6 fun v13 =>
  pairK (optK (F15 [v13, (Value.int .i64 r1)] h10) fun v => some (v, h10)) fun v14 h14 =>
  intK .i64 v14 fun i15 =>
  some (Value.tuple (List.toArray [(Value.int .i64 i15), (Value.int .i64 (Int.ofNat 0))]), h14)))
noncomputable def T5 (S : Sg) : Sg := tabC 0 (uV fun r0 => uI fun r1 => uN fun h => P5x0 S r0 r1 h) (tabN)
noncomputable def F5 (args : List Value) (h : Hp) : CRes := packVals [Kd.v, Kd.i .i64] args fun al => rec' T5 1000000 0 al h
def nt5 : Nat := 2 + (23 - 2)
theorem q5x0 (S : Sg) (r0 : Value) (r1 : Int) (h : Hp) : P5x0 S r0 r1 h = stepAt (regK env orc27 (nt5)) (finK env Try.f5.results.toList) (collect B5 A5 []) 0 S (AL.v r0 (AL.i r1 AL.n)) h := by kernel_rfl
theorem t5 (S : Sg) : Tab (fun l vs h => stepAt (regK env orc27 nt5) (finK env Try.f5.results.toList) (collect B5 A5 []) l S vs h) (T5 S) := by
  unfold T5
  refine Tab.cons 0 (fun vs0 h q e0 => ?_) ?_
  · obtain ⟨r0, vs1, rfl, e1⟩ := uV_some e0
    obtain ⟨r1, vs2, rfl, e2⟩ := uI_some e1
    obtain ⟨rfl, ee⟩ := uN_some e2
    exact (q5x0 S r0 r1 h).symm.trans ee
  exact Tab.nil
theorem r5 : ∀ args h v h', F5 args h = some (v, h') → Runs (C27) (.call 5 args.toArray h) (.ret v h') := by
  intro args h v h' e
  exact fun_sound (C := C27) (fn := Try.f5) (body := B5) (np := 2) (A := A5) (T := T5) (kinds := [Kd.v, Kd.i .i64]) (by kernel_rfl) (by kernel_rfl) (by kernel_rfl) (by kernel_rfl) (regK_ok env_ok) (by kernel_rfl) (fun S => t5 S) e
noncomputable def orc28 := orcQ 5 F5 orc27
noncomputable def C28 : Cfg := cfg orc28
theorem ok28 : C28.Ok := orcQ_ok (C := C27) ok27 r5
noncomputable def B17 : Code := (Try.f17.body).getD .skip
noncomputable def A17 : G.Ann (List KI) := (G.Ann.node (some (0, [KI.reg 0 (Kd.v)])) G.Ann.nil (G.Ann.node none G.Ann.nil (G.Ann.node none (G.Ann.node none G.Ann.nil (G.Ann.node none (G.Ann.node (some (1, [KI.loc 1 1, KI.reg 3 (Kd.i .i64), KI.reg 8 (Kd.v), KI.reg 9 (Kd.i .i64), KI.reg 10 (Kd.i .i64), KI.list 1])) (G.Ann.node none G.Ann.nil (G.Ann.node none (G.Ann.node none G.Ann.nil G.Ann.nil) (G.Ann.node none (G.Ann.node none (G.Ann.node none G.Ann.nil G.Ann.nil) G.Ann.nil) G.Ann.nil))) G.Ann.nil) G.Ann.nil)) (G.Ann.node (some (2, [KI.reg 3 (Kd.i .i64)])) G.Ann.nil G.Ann.nil))))
noncomputable def P17x2 (h : Hp) (S : Nat → PAL → Option Value) (r3 : Int) : Option Value :=
  some (Value.int .i64 r3)
noncomputable def P17x1 (h : Hp) (S : Nat → PAL → Option Value) (r3 : Int) (r8 : Value) (r9 : Int) (r10 : Int) (c1 : List Value) : Option Value :=
  boolZ (ltZ r10 r9) fun b0 =>
  ifB b0
  (idxSK 2 r8 r10 fun v1 =>
  loadNK 2 h v1 fun v2 =>
  aggK v2 fun l3 => ifB (Nat.beq (lenR l3) 2) (segR 0 l3 [(Value.string (ByteArray.mk #[])), (Value.int .i64 (Int.ofNat 0))] fun c3 =>
  dropR c1 0 fun d4 => takeR d4 3 fun l4 =>
  nthR c3 1 fun v5 =>
  intK .i64 v5 fun i6 =>
  optK (F15 [(Value.agg (Array.mk l4)), (Value.int .i64 i6)] h) fun v7 =>
  intK .i64 v7 fun i8 =>
  wrap64 (Int.add r3 i8) fun i9 =>
  wrap64 (Int.add r10 (Int.ofNat 1)) fun i10 =>
  S 1 (PAL.i i9 (PAL.v r8 (PAL.i r9 (PAL.i i10 (PAL.l c1 PAL.n)))))) none)
  (S 2 (PAL.i r3 PAL.n))
noncomputable def P17x0 (h : Hp) (S : Nat → PAL → Option Value) (r0 : Value) : Option Value :=
  forceL (Array.toList (Value.cells r0)) fun c0 =>
  nthR c0 3 fun v1 =>
  lenSK v1 fun i2 =>
  S 1 (PAL.i (Int.ofNat 0) (PAL.v v1 (PAL.i i2 (PAL.i (Int.ofNat 0) (PAL.l c0 PAL.n)))))
noncomputable def T17 (h : Hp) (S : Nat → PAL → Option Value) : Nat → PAL → Option Value := tabPC 0 (wV fun r0 => wN (P17x0 h S r0)) (tabPC 1 (wI fun r3 => wV fun r8 => wI fun r9 => wI fun r10 => wL fun c1 => wN (P17x1 h S r3 r8 r9 r10 c1)) (tabPC 2 (wI fun r3 => wN (P17x2 h S r3)) (tabPN)))
noncomputable def F17 (args : List Value) (h : Hp) : Option Value := plainO (packArgs [Kd.v] args fun al => G.rec' (T17 h) 1000000 0 al)
def nt17 : Nat := 1 + (23 - 1)
theorem q17x2 (h : Hp) (S : Nat → PAL → Option Value) (r3 : Int) : P17x2 h S r3 = G.stepAt packP unpackP evXV (regP env pf8 nt17 h) (finP env Try.f17.results.toList) (G.collect B17 A17 []) 2 S (PAL.i r3 PAL.n) := by kernel_rfl
theorem q17x1 (h : Hp) (S : Nat → PAL → Option Value) (r3 : Int) (r8 : Value) (r9 : Int) (r10 : Int) (c1 : List Value) : P17x1 h S r3 r8 r9 r10 c1 = G.stepAt packP unpackP evXV (regP env pf8 nt17 h) (finP env Try.f17.results.toList) (G.collect B17 A17 []) 1 S (PAL.i r3 (PAL.v r8 (PAL.i r9 (PAL.i r10 (PAL.l c1 PAL.n))))) := by kernel_rfl
theorem q17x0 (h : Hp) (S : Nat → PAL → Option Value) (r0 : Value) : P17x0 h S r0 = G.stepAt packP unpackP evXV (regP env pf8 nt17 h) (finP env Try.f17.results.toList) (G.collect B17 A17 []) 0 S (PAL.v r0 PAL.n) := by kernel_rfl
theorem t17 (h : Hp) (S : Nat → PAL → Option Value) : TabP (fun l al => G.stepAt packP unpackP evXV (regP env pf8 nt17 h) (finP env Try.f17.results.toList) (G.collect B17 A17 []) l S al) (T17 h S) := by
  unfold T17
  refine TabP.cons 0 (fun vs0 q e0 => ?_) ?_
  · obtain ⟨r0, vs1, rfl, e1⟩ := wV_some e0
    obtain ⟨rfl, ee⟩ := wN_some e1
    exact (q17x0 h S r0).symm.trans ee
  refine TabP.cons 1 (fun vs0 q e0 => ?_) ?_
  · obtain ⟨r3, vs1, rfl, e1⟩ := wI_some e0
    obtain ⟨r8, vs2, rfl, e2⟩ := wV_some e1
    obtain ⟨r9, vs3, rfl, e3⟩ := wI_some e2
    obtain ⟨r10, vs4, rfl, e4⟩ := wI_some e3
    obtain ⟨c1, vs5, rfl, e5⟩ := wL_some e4
    obtain ⟨rfl, ee⟩ := wN_some e5
    exact (q17x1 h S r3 r8 r9 r10 c1).symm.trans ee
  refine TabP.cons 2 (fun vs0 q e0 => ?_) ?_
  · obtain ⟨r3, vs1, rfl, e1⟩ := wI_some e0
    obtain ⟨rfl, ee⟩ := wN_some e1
    exact (q17x2 h S r3).symm.trans ee
  exact TabP.nil
theorem r17 : PSound Try.prog 17 F17 := fun_soundP (C := C0) ok0 (pf := pf8) pfok8 (fn := Try.f17) (body := B17) (kinds := [Kd.v]) (A := A17) (T := T17) (by kernel_rfl) (by kernel_rfl) (by kernel_rfl) (by kernel_rfl) (fun h S => t17 h S)
noncomputable def pf9 : PF := pfC 17 F17 pf8
theorem pfok9 : PfSound Try.prog pf9 := pfC_ok r17 pfok8
noncomputable def orc29 := orcP 17 F17 orc28
noncomputable def C29 : Cfg := cfg orc29
theorem ok29 : C29.Ok := orcP_ok (C := C28) ok28 r17
noncomputable def B65 : Code := (Try.f65.body).getD .skip
noncomputable def A65 : G.Ann (List KI) := (G.Ann.node (some (0, [KI.reg 0 (Kd.v), KI.reg 1 (Kd.v), KI.reg 2 (Kd.i .i64)])) G.Ann.nil (G.Ann.node none G.Ann.nil (G.Ann.node none (G.Ann.node none G.Ann.nil (G.Ann.node none (G.Ann.node (some (1, [KI.loc 3 3, KI.loc 4 4, KI.reg 7 (Kd.i .i64), KI.reg 8 (Kd.i .i64), KI.cells 3 [Kd.i .i64, Kd.v, Kd.v], KI.cells 4 [Kd.i .i64, Kd.i .i64, Kd.i .i64]])) (G.Ann.node none (G.Ann.node none G.Ann.nil (G.Ann.node none G.Ann.nil G.Ann.nil)) (G.Ann.node none (G.Ann.node none G.Ann.nil G.Ann.nil) G.Ann.nil)) G.Ann.nil) G.Ann.nil)) (G.Ann.node (some (2, [KI.reg 7 (Kd.i .i64)])) G.Ann.nil G.Ann.nil))))
noncomputable def P65x2 (h : Hp) (S : Nat → PAL → Option Value) (r7 : Int) : Option Value :=
  some (Value.int .i64 r7)
noncomputable def P65x1 (h : Hp) (S : Nat → PAL → Option Value) (r7 : Int) (r8 : Int) (c3x0 : Int) (c3x1 : Value) (c3x2 : Value) (c4x0 : Int) (c4x1 : Int) (c4x2 : Int) : Option Value :=
  lenSK c3x1 fun i0 =>
  boolZ (ltZ r8 i0) fun b1 =>
  ifB b1
  (onI r8 (fun n2 => ifB (Nat.ble (Nat.succ n2) 3) (forceN (Nat.add 0 (Nat.mul n2 1)) fun o2 =>
  nthR [(Value.int .i64 c4x0), (Value.int .i64 c4x1), (Value.int .i64 c4x2)] o2 fun v3 =>
  intK .i64 v3 fun i4 =>
  idxSK 3 c3x1 r8 fun v5 =>
  ptrAddK 1 v5 fun v6 =>
  load1K h v6 fun v7 =>
  intK .i64 v7 fun i8 =>
  wrap64 (Int.mul i4 i8) fun i9 =>
  wrap64 (Int.add r7 i9) fun i10 =>
  wrap64 (Int.add r8 (Int.ofNat 1)) fun i11 =>
  S 1 (PAL.i i10 (PAL.i i11 (PAL.i c3x0 (PAL.v c3x1 (PAL.v c3x2 (PAL.i c4x0 (PAL.i c4x1 (PAL.i c4x2 PAL.n))))))))) none) (fun _ => none))
  (S 2 (PAL.i r7 PAL.n))
noncomputable def P65x0 (h : Hp) (S : Nat → PAL → Option Value) (r0 : Value) (r1 : Value) (r2 : Int) : Option Value :=
  forceL (Array.toList (Value.cells r0)) fun c0 =>
  forceL (Array.toList (Value.cells r1)) fun c1 =>
  unconsK c0 fun a2 c2 =>
  intK .i64 a2 fun i3 =>
  unconsK c2 fun a4 c4 =>
  unconsK c4 fun a5 c5 =>
  nilK c5 (unconsK c1 fun a6 c6 =>
  intK .i64 a6 fun i7 =>
  unconsK c6 fun a8 c8 =>
  intK .i64 a8 fun i9 =>
  unconsK c8 fun a10 c10 =>
  intK .i64 a10 fun i11 =>
  nilK c10 (S 1 (PAL.i (Int.ofNat 0) (PAL.i r2 (PAL.i i3 (PAL.v a4 (PAL.v a5 (PAL.i i7 (PAL.i i9 (PAL.i i11 PAL.n))))))))))
noncomputable def T65 (h : Hp) (S : Nat → PAL → Option Value) : Nat → PAL → Option Value := tabPC 0 (wV fun r0 => wV fun r1 => wI fun r2 => wN (P65x0 h S r0 r1 r2)) (tabPC 1 (wI fun r7 => wI fun r8 => wI fun c3x0 => wV fun c3x1 => wV fun c3x2 => wI fun c4x0 => wI fun c4x1 => wI fun c4x2 => wN (P65x1 h S r7 r8 c3x0 c3x1 c3x2 c4x0 c4x1 c4x2)) (tabPC 2 (wI fun r7 => wN (P65x2 h S r7)) (tabPN)))
noncomputable def F65 (args : List Value) (h : Hp) : Option Value := plainO (packArgs [Kd.v, Kd.v, Kd.i .i64] args fun al => G.rec' (T65 h) 1000000 0 al)
def nt65 : Nat := 3 + (32 - 3)
theorem q65x2 (h : Hp) (S : Nat → PAL → Option Value) (r7 : Int) : P65x2 h S r7 = G.stepAt packP unpackP evXV (regP env pf9 nt65 h) (finP env Try.f65.results.toList) (G.collect B65 A65 []) 2 S (PAL.i r7 PAL.n) := by kernel_rfl
theorem q65x1 (h : Hp) (S : Nat → PAL → Option Value) (r7 : Int) (r8 : Int) (c3x0 : Int) (c3x1 : Value) (c3x2 : Value) (c4x0 : Int) (c4x1 : Int) (c4x2 : Int) : P65x1 h S r7 r8 c3x0 c3x1 c3x2 c4x0 c4x1 c4x2 = G.stepAt packP unpackP evXV (regP env pf9 nt65 h) (finP env Try.f65.results.toList) (G.collect B65 A65 []) 1 S (PAL.i r7 (PAL.i r8 (PAL.i c3x0 (PAL.v c3x1 (PAL.v c3x2 (PAL.i c4x0 (PAL.i c4x1 (PAL.i c4x2 PAL.n)))))))) := by kernel_rfl
theorem q65x0 (h : Hp) (S : Nat → PAL → Option Value) (r0 : Value) (r1 : Value) (r2 : Int) : P65x0 h S r0 r1 r2 = G.stepAt packP unpackP evXV (regP env pf9 nt65 h) (finP env Try.f65.results.toList) (G.collect B65 A65 []) 0 S (PAL.v r0 (PAL.v r1 (PAL.i r2 PAL.n))) := by kernel_rfl
theorem t65 (h : Hp) (S : Nat → PAL → Option Value) : TabP (fun l al => G.stepAt packP unpackP evXV (regP env pf9 nt65 h) (finP env Try.f65.results.toList) (G.collect B65 A65 []) l S al) (T65 h S) := by
  unfold T65
  refine TabP.cons 0 (fun vs0 q e0 => ?_) ?_
  · obtain ⟨r0, vs1, rfl, e1⟩ := wV_some e0
    obtain ⟨r1, vs2, rfl, e2⟩ := wV_some e1
    obtain ⟨r2, vs3, rfl, e3⟩ := wI_some e2
    obtain ⟨rfl, ee⟩ := wN_some e3
    exact (q65x0 h S r0 r1 r2).symm.trans ee
  refine TabP.cons 1 (fun vs0 q e0 => ?_) ?_
  · obtain ⟨r7, vs1, rfl, e1⟩ := wI_some e0
    obtain ⟨r8, vs2, rfl, e2⟩ := wI_some e1
    obtain ⟨c3x0, vs3, rfl, e3⟩ := wI_some e2
    obtain ⟨c3x1, vs4, rfl, e4⟩ := wV_some e3
    obtain ⟨c3x2, vs5, rfl, e5⟩ := wV_some e4
    obtain ⟨c4x0, vs6, rfl, e6⟩ := wI_some e5
    obtain ⟨c4x1, vs7, rfl, e7⟩ := wI_some e6
    obtain ⟨c4x2, vs8, rfl, e8⟩ := wI_some e7
    obtain ⟨rfl, ee⟩ := wN_some e8
    exact (q65x1 h S r7 r8 c3x0 c3x1 c3x2 c4x0 c4x1 c4x2).symm.trans ee
  refine TabP.cons 2 (fun vs0 q e0 => ?_) ?_
  · obtain ⟨r7, vs1, rfl, e1⟩ := wI_some e0
    obtain ⟨rfl, ee⟩ := wN_some e1
    exact (q65x2 h S r7).symm.trans ee
  exact TabP.nil
theorem r65 : PSound Try.prog 65 F65 := fun_soundP (C := C0) ok0 (pf := pf9) pfok9 (fn := Try.f65) (body := B65) (kinds := [Kd.v, Kd.v, Kd.i .i64]) (A := A65) (T := T65) (by kernel_rfl) (by kernel_rfl) (by kernel_rfl) (by kernel_rfl) (fun h S => t65 h S)
noncomputable def pf10 : PF := pfC 65 F65 pf9
theorem pfok10 : PfSound Try.prog pf10 := pfC_ok r65 pfok9
noncomputable def orc30 := orcP 65 F65 orc29
noncomputable def C30 : Cfg := cfg orc30
theorem ok30 : C30.Ok := orcP_ok (C := C29) ok29 r65
noncomputable def B47 : Code := (Try.f47.body).getD .skip
noncomputable def A47 : G.Ann (List KI) := (G.Ann.node (some (0, [KI.reg 0 (Kd.v), KI.reg 1 (Kd.v)])) G.Ann.nil (G.Ann.node none G.Ann.nil G.Ann.nil))
noncomputable def P47x0 (h : Hp) (S : Nat → PAL → Option Value) (r0 : Value) (r1 : Value) : Option Value :=
  forceL (Array.toList (Value.cells r0)) fun c0 =>
  forceL (Array.toList (Value.cells r1)) fun c1 =>
  nthR c1 0 fun v2 =>
  intK .i64 v2 fun i3 =>
  nthR c0 0 fun v4 =>
  intK .i64 v4 fun i5 =>
  wrap64 (Int.mul i3 i5) fun i6 =>
  nthR c1 1 fun v7 =>
  intK .i64 v7 fun i8 =>
  dropR c0 0 fun d9 => takeR d9 3 fun l9 =>
  optK (F39 [(Value.agg (Array.mk l9))] h) fun v10 =>
  intK .i64 v10 fun i11 =>
  wrap64 (Int.mul i8 i11) fun i12 =>
  dropR c0 0 fun d13 => takeR d13 8 fun l13 =>
  optK (F17 [(Value.agg (Array.mk l13))] h) fun v14 =>
  intK .i64 v14 fun i15 =>
  dropR c0 0 fun d16 => takeR d16 3 fun l16 =>
  dropR c1 2 fun d17 => takeR d17 3 fun l17 =>
  optK (F65 [(Value.agg (Array.mk l16)), (Value.agg (Array.mk l17)), (Value.int .i64 (Int.ofNat 0))] h) fun v18 =>
  intK .i64 v18 fun i19 =>
  optK (buildV env 91 (List.toArray [(0, (Value.int .i64 i6)), (1, (Value.int .i64 i12)), (2, (Value.int .i64 i15)), (3, (Value.int .i64 i19))])) fun v20 =>
  aggK v20 fun l21 => ifB (Nat.beq (lenR l21) 4) (segR 0 l21 [(Value.int .i64 (Int.ofNat 0)), (Value.int .i64 (Int.ofNat 0)), (Value.int .i64 (Int.ofNat 0)), (Value.int .i64 (Int.ofNat 0))] fun c21 =>
  dropR c21 0 fun d22 => takeR d22 4 fun l22 => some (Value.agg (Array.mk l22))) none
noncomputable def T47 (h : Hp) (S : Nat → PAL → Option Value) : Nat → PAL → Option Value := tabPC 0 (wV fun r0 => wV fun r1 => wN (P47x0 h S r0 r1)) (tabPN)
noncomputable def F47 (args : List Value) (h : Hp) : Option Value := plainO (packArgs [Kd.v, Kd.v] args fun al => G.rec' (T47 h) 1000000 0 al)
def nt47 : Nat := 2 + (26 - 2)
theorem q47x0 (h : Hp) (S : Nat → PAL → Option Value) (r0 : Value) (r1 : Value) : P47x0 h S r0 r1 = G.stepAt packP unpackP evXV (regP env pf10 nt47 h) (finP env Try.f47.results.toList) (G.collect B47 A47 []) 0 S (PAL.v r0 (PAL.v r1 PAL.n)) := by kernel_rfl
theorem t47 (h : Hp) (S : Nat → PAL → Option Value) : TabP (fun l al => G.stepAt packP unpackP evXV (regP env pf10 nt47 h) (finP env Try.f47.results.toList) (G.collect B47 A47 []) l S al) (T47 h S) := by
  unfold T47
  refine TabP.cons 0 (fun vs0 q e0 => ?_) ?_
  · obtain ⟨r0, vs1, rfl, e1⟩ := wV_some e0
    obtain ⟨r1, vs2, rfl, e2⟩ := wV_some e1
    obtain ⟨rfl, ee⟩ := wN_some e2
    exact (q47x0 h S r0 r1).symm.trans ee
  exact TabP.nil
theorem r47 : PSound Try.prog 47 F47 := fun_soundP (C := C0) ok0 (pf := pf10) pfok10 (fn := Try.f47) (body := B47) (kinds := [Kd.v, Kd.v]) (A := A47) (T := T47) (by kernel_rfl) (by kernel_rfl) (by kernel_rfl) (by kernel_rfl) (fun h S => t47 h S)
noncomputable def pf11 : PF := pfC 47 F47 pf10
theorem pfok11 : PfSound Try.prog pf11 := pfC_ok r47 pfok10
noncomputable def orc31 := orcP 47 F47 orc30
noncomputable def C31 : Cfg := cfg orc31
theorem ok31 : C31.Ok := orcP_ok (C := C30) ok30 r47
noncomputable def B23 : Code := (Try.f23.body).getD .skip
noncomputable def A23 : G.Ann (List KI) := (G.Ann.node (some (0, [KI.reg 0 (Kd.v), KI.reg 1 (Kd.v)])) G.Ann.nil (G.Ann.node none G.Ann.nil (G.Ann.node none (G.Ann.node none G.Ann.nil (G.Ann.node none (G.Ann.node (some (1, [KI.reg 5 (Kd.i .i64), KI.reg 10 (Kd.v), KI.reg 11 (Kd.i .i64)])) (G.Ann.node none G.Ann.nil (G.Ann.node none (G.Ann.node none G.Ann.nil G.Ann.nil) (G.Ann.node none (G.Ann.node none (G.Ann.node none G.Ann.nil G.Ann.nil) G.Ann.nil) G.Ann.nil))) G.Ann.nil) G.Ann.nil)) (G.Ann.node (some (2, [KI.reg 5 (Kd.i .i64)])) G.Ann.nil G.Ann.nil))))
noncomputable def P23x2 (h : Hp) (S : Nat → PAL → Option Value) (r5 : Int) : Option Value :=
  some (Value.int .i64 r5)
noncomputable def P23x1 (h : Hp) (S : Nat → PAL → Option Value) (r5 : Int) (r10 : Value) (r11 : Int) : Option Value :=
  boolZ (ltZ r11 (Int.ofNat 4)) fun b0 =>
  ifB b0
  (optK (indexV env 91 r10 (Value.int .i64 r11)) fun v1 =>
  intK .i64 v1 fun i2 =>
  wrap64 (Int.add r5 i2) fun i3 =>
  wrap64 (Int.add r11 (Int.ofNat 1)) fun i4 =>
  S 1 (PAL.i i3 (PAL.v r10 (PAL.i i4 PAL.n))))
  (S 2 (PAL.i r5 PAL.n))
noncomputable def P23x0 (h : Hp) (S : Nat → PAL → Option Value) (r0 : Value) (r1 : Value) : Option Value :=
  forceL (Array.toList (Value.cells r0)) fun c0 =>
  forceL (Array.toList (Value.cells r1)) fun c1 =>
  dropR c0 0 fun d2 => takeR d2 8 fun l2 =>
  dropR c1 0 fun d3 => takeR d3 5 fun l3 =>
  optK (F47 [(Value.agg (Array.mk l2)), (Value.agg (Array.mk l3))] h) fun v4 =>
  S 1 (PAL.i (Int.ofNat 0) (PAL.v v4 (PAL.i (Int.ofNat 0) PAL.n)))
noncomputable def T23 (h : Hp) (S : Nat → PAL → Option Value) : Nat → PAL → Option Value := tabPC 0 (wV fun r0 => wV fun r1 => wN (P23x0 h S r0 r1)) (tabPC 1 (wI fun r5 => wV fun r10 => wI fun r11 => wN (P23x1 h S r5 r10 r11)) (tabPC 2 (wI fun r5 => wN (P23x2 h S r5)) (tabPN)))
noncomputable def F23 (args : List Value) (h : Hp) : Option Value := plainO (packArgs [Kd.v, Kd.v] args fun al => G.rec' (T23 h) 1000000 0 al)
def nt23 : Nat := 2 + (19 - 2)
theorem q23x2 (h : Hp) (S : Nat → PAL → Option Value) (r5 : Int) : P23x2 h S r5 = G.stepAt packP unpackP evXV (regP env pf11 nt23 h) (finP env Try.f23.results.toList) (G.collect B23 A23 []) 2 S (PAL.i r5 PAL.n) := by kernel_rfl
theorem q23x1 (h : Hp) (S : Nat → PAL → Option Value) (r5 : Int) (r10 : Value) (r11 : Int) : P23x1 h S r5 r10 r11 = G.stepAt packP unpackP evXV (regP env pf11 nt23 h) (finP env Try.f23.results.toList) (G.collect B23 A23 []) 1 S (PAL.i r5 (PAL.v r10 (PAL.i r11 PAL.n))) := by kernel_rfl
theorem q23x0 (h : Hp) (S : Nat → PAL → Option Value) (r0 : Value) (r1 : Value) : P23x0 h S r0 r1 = G.stepAt packP unpackP evXV (regP env pf11 nt23 h) (finP env Try.f23.results.toList) (G.collect B23 A23 []) 0 S (PAL.v r0 (PAL.v r1 PAL.n)) := by kernel_rfl
theorem t23 (h : Hp) (S : Nat → PAL → Option Value) : TabP (fun l al => G.stepAt packP unpackP evXV (regP env pf11 nt23 h) (finP env Try.f23.results.toList) (G.collect B23 A23 []) l S al) (T23 h S) := by
  unfold T23
  refine TabP.cons 0 (fun vs0 q e0 => ?_) ?_
  · obtain ⟨r0, vs1, rfl, e1⟩ := wV_some e0
    obtain ⟨r1, vs2, rfl, e2⟩ := wV_some e1
    obtain ⟨rfl, ee⟩ := wN_some e2
    exact (q23x0 h S r0 r1).symm.trans ee
  refine TabP.cons 1 (fun vs0 q e0 => ?_) ?_
  · obtain ⟨r5, vs1, rfl, e1⟩ := wI_some e0
    obtain ⟨r10, vs2, rfl, e2⟩ := wV_some e1
    obtain ⟨r11, vs3, rfl, e3⟩ := wI_some e2
    obtain ⟨rfl, ee⟩ := wN_some e3
    exact (q23x1 h S r5 r10 r11).symm.trans ee
  refine TabP.cons 2 (fun vs0 q e0 => ?_) ?_
  · obtain ⟨r5, vs1, rfl, e1⟩ := wI_some e0
    obtain ⟨rfl, ee⟩ := wN_some e1
    exact (q23x2 h S r5).symm.trans ee
  exact TabP.nil
theorem r23 : PSound Try.prog 23 F23 := fun_soundP (C := C0) ok0 (pf := pf11) pfok11 (fn := Try.f23) (body := B23) (kinds := [Kd.v, Kd.v]) (A := A23) (T := T23) (by kernel_rfl) (by kernel_rfl) (by kernel_rfl) (by kernel_rfl) (fun h S => t23 h S)
noncomputable def pf12 : PF := pfC 23 F23 pf11
theorem pfok12 : PfSound Try.prog pf12 := pfC_ok r23 pfok11
noncomputable def orc32 := orcP 23 F23 orc31
noncomputable def C32 : Cfg := cfg orc32
theorem ok32 : C32.Ok := orcP_ok (C := C31) ok31 r23
noncomputable def B43 : Code := (Try.f43.body).getD .skip
noncomputable def A43 : G.Ann (List KI) := (G.Ann.node (some (0, [KI.reg 0 (Kd.v), KI.reg 1 (Kd.v)])) G.Ann.nil (G.Ann.node none G.Ann.nil G.Ann.nil))
noncomputable def P43x0 (h : Hp) (S : Nat → PAL → Option Value) (r0 : Value) (r1 : Value) : Option Value :=
  forceL (Array.toList (Value.cells r0)) fun c0 =>
  forceL (Array.toList (Value.cells r1)) fun c1 =>
  nthR c1 0 fun v2 =>
  intK .i64 v2 fun i3 =>
  nthR c1 1 fun v4 =>
  intK .i64 v4 fun i5 =>
  wrap64 (Int.add i3 i5) fun i6 =>
  nthR c0 3 fun v7 =>
  optK (F18 [v7] h) fun v8 =>
  intK .i64 v8 fun i9 =>
  wrap64 (Int.add i6 i9) fun i10 =>
  some (Value.int .i64 i10)
noncomputable def T43 (h : Hp) (S : Nat → PAL → Option Value) : Nat → PAL → Option Value := tabPC 0 (wV fun r0 => wV fun r1 => wN (P43x0 h S r0 r1)) (tabPN)
noncomputable def F43 (args : List Value) (h : Hp) : Option Value := plainO (packArgs [Kd.v, Kd.v] args fun al => G.rec' (T43 h) 1000000 0 al)
def nt43 : Nat := 2 + (15 - 2)
theorem q43x0 (h : Hp) (S : Nat → PAL → Option Value) (r0 : Value) (r1 : Value) : P43x0 h S r0 r1 = G.stepAt packP unpackP evXV (regP env pf12 nt43 h) (finP env Try.f43.results.toList) (G.collect B43 A43 []) 0 S (PAL.v r0 (PAL.v r1 PAL.n)) := by kernel_rfl
theorem t43 (h : Hp) (S : Nat → PAL → Option Value) : TabP (fun l al => G.stepAt packP unpackP evXV (regP env pf12 nt43 h) (finP env Try.f43.results.toList) (G.collect B43 A43 []) l S al) (T43 h S) := by
  unfold T43
  refine TabP.cons 0 (fun vs0 q e0 => ?_) ?_
  · obtain ⟨r0, vs1, rfl, e1⟩ := wV_some e0
    obtain ⟨r1, vs2, rfl, e2⟩ := wV_some e1
    obtain ⟨rfl, ee⟩ := wN_some e2
    exact (q43x0 h S r0 r1).symm.trans ee
  exact TabP.nil
theorem r43 : PSound Try.prog 43 F43 := fun_soundP (C := C0) ok0 (pf := pf12) pfok12 (fn := Try.f43) (body := B43) (kinds := [Kd.v, Kd.v]) (A := A43) (T := T43) (by kernel_rfl) (by kernel_rfl) (by kernel_rfl) (by kernel_rfl) (fun h S => t43 h S)
noncomputable def pf13 : PF := pfC 43 F43 pf12
theorem pfok13 : PfSound Try.prog pf13 := pfC_ok r43 pfok12
noncomputable def orc33 := orcP 43 F43 orc32
noncomputable def C33 : Cfg := cfg orc33
theorem ok33 : C33.Ok := orcP_ok (C := C32) ok32 r43
noncomputable def B67 : Code := (Try.f67.body).getD .skip
noncomputable def A67 : G.Ann (List KI) := (G.Ann.node (some (0, [KI.reg 0 (Kd.v), KI.reg 1 (Kd.i .i64)])) G.Ann.nil (G.Ann.node none G.Ann.nil G.Ann.nil))
noncomputable def P67x0 (h : Hp) (S : Nat → PAL → Option Value) (r0 : Value) (r1 : Int) : Option Value :=
  forceL (Array.toList (Value.cells r0)) fun c0 =>
  nthR c0 0 fun v1 =>
  intK .i64 v1 fun i2 =>
  wrap64 (Int.sub i2 r1) fun i3 =>
  nthR c0 1 fun v4 =>
  intK .i64 v4 fun i5 =>
  wrap64 (Int.sub i5 r1) fun i6 =>
  optK (buildV env 33 (List.toArray [(0, (Value.int .i64 i3)), (1, (Value.int .i64 i6))])) fun v7 =>
  aggK v7 fun l8 => ifB (Nat.beq (lenR l8) 2) (segR 0 l8 [(Value.int .i64 (Int.ofNat 0)), (Value.int .i64 (Int.ofNat 0))] fun c8 =>
  dropR c8 0 fun d9 => takeR d9 2 fun l9 => some (Value.agg (Array.mk l9))) none
noncomputable def T67 (h : Hp) (S : Nat → PAL → Option Value) : Nat → PAL → Option Value := tabPC 0 (wV fun r0 => wI fun r1 => wN (P67x0 h S r0 r1)) (tabPN)
noncomputable def F67 (args : List Value) (h : Hp) : Option Value := plainO (packArgs [Kd.v, Kd.i .i64] args fun al => G.rec' (T67 h) 1000000 0 al)
def nt67 : Nat := 2 + (14 - 2)
theorem q67x0 (h : Hp) (S : Nat → PAL → Option Value) (r0 : Value) (r1 : Int) : P67x0 h S r0 r1 = G.stepAt packP unpackP evXV (regP env pf13 nt67 h) (finP env Try.f67.results.toList) (G.collect B67 A67 []) 0 S (PAL.v r0 (PAL.i r1 PAL.n)) := by kernel_rfl
theorem t67 (h : Hp) (S : Nat → PAL → Option Value) : TabP (fun l al => G.stepAt packP unpackP evXV (regP env pf13 nt67 h) (finP env Try.f67.results.toList) (G.collect B67 A67 []) l S al) (T67 h S) := by
  unfold T67
  refine TabP.cons 0 (fun vs0 q e0 => ?_) ?_
  · obtain ⟨r0, vs1, rfl, e1⟩ := wV_some e0
    obtain ⟨r1, vs2, rfl, e2⟩ := wI_some e1
    obtain ⟨rfl, ee⟩ := wN_some e2
    exact (q67x0 h S r0 r1).symm.trans ee
  exact TabP.nil
theorem r67 : PSound Try.prog 67 F67 := fun_soundP (C := C0) ok0 (pf := pf13) pfok13 (fn := Try.f67) (body := B67) (kinds := [Kd.v, Kd.i .i64]) (A := A67) (T := T67) (by kernel_rfl) (by kernel_rfl) (by kernel_rfl) (by kernel_rfl) (fun h S => t67 h S)
noncomputable def pf14 : PF := pfC 67 F67 pf13
theorem pfok14 : PfSound Try.prog pf14 := pfC_ok r67 pfok13
noncomputable def orc34 := orcP 67 F67 orc33
noncomputable def C34 : Cfg := cfg orc34
theorem ok34 : C34.Ok := orcP_ok (C := C33) ok33 r67
noncomputable def B66 : Code := (Try.f66.body).getD .skip
def A66 : Ann := (Ann.node (some (0, [(0, Kd.v), (1, Kd.v), (2, Kd.i .i64), (3, Kd.v)])) Ann.nil (Ann.node none Ann.nil (Ann.node none (Ann.node none Ann.nil (Ann.node none Ann.nil (Ann.node none (Ann.node none Ann.nil (Ann.node none Ann.nil Ann.nil)) Ann.nil))) (Ann.node none Ann.nil Ann.nil))))
noncomputable def P66x0 (S : Sg) (r0 : Value) (r1 : Value) (r2 : Int) (r3 : Value) (h : Hp) : CRes :=
  allocK h 55 (Array.toList (Value.cells r0)) fun a0 h0 =>
  allocK h0 104 (Array.toList (Value.cells r1)) fun a1 h1 =>
  allocK h1 33 (Array.toList (Value.cells r3)) fun a2 h2 =>
  allocK h2 33 [(Value.int .i64 (Int.ofNat 0)), (Value.int .i64 (Int.ofNat 0))] fun a3 h3 =>
  ptrAddK 2 a1 fun v4 =>
  idxAK 3 1 v4 r2 fun v5 =>
  load1K (Hp.mk (Hp.next h3) (Hp.next h3) (Hp.objs h3)) v5 fun v6 =>
  intK .i64 v6 fun i7 =>
  ptrAddK 5 a1 fun v8 =>
  idxAK 3 1 v8 r2 fun v9 =>
  load1K (Hp.mk (Hp.next h3) (Hp.next h3) (Hp.objs h3)) v9 fun v10 =>
  intK .i64 v10 fun i11 =>
  optK (buildV env 33 (List.toArray [(0, (Value.int .i64 i7)), (1, (Value.int .i64 i11))])) fun v12 =>
  leftK v12 (Hp.next h3) (Hp.mk (Hp.next h3) (Hp.next h3) T.nil) fun w13 n13 =>
  allocK (Hp.mk n13 n13 T.nil) 33 [(Value.int .i64 (Int.ofNat 0)), (Value.int .i64 (Int.ofNat 0))] fun a14 h14 =>
  leftK a14 n13 h14 fun w15 n15 =>
  storeNK 2 (Hp.mk n15 (Hp.ro h3) (addAll w15 (addAll w13 (Hp.objs h3)))) a14 v12 fun h16 =>
  ptrAddK 0 a0 fun v17 =>
  ptrAddK 1 v17 fun v18 =>
  load1K h16 v18 fun v19 =>
  idxSK 3 v19 r2 fun v20 =>
  ptrAddK 1 v20 fun v21 =>
  load1K h16 v21 fun v22 =>
  intK .i64 v22 fun i23 =>
  boolZ (ltZ (Int.ofNat 0) i23) fun b24 =>
  ifB b24
  (ptrAddK 0 a2 fun v25 =>
  load1K h16 v25 fun v26 =>
  intK .i64 v26 fun i27 =>
  loadNK 3 h16 a0 fun v28 =>
  ptrAddK 5 a1 fun v29 =>
  loadNK 3 h16 v29 fun v30 =>
  wrap64 (Int.add r2 (Int.ofNat 1)) fun i31 =>
  pairK (pairK (optK (F65 [v28, v30, (Value.int .i64 i31)] (Hp.mk (Hp.next h16) (Hp.next h16) (Hp.objs h16))) fun v => some (v, (Hp.mk (Hp.next h16) (Hp.next h16) (Hp.objs h16)))) fun v _ => ifB (plainK v) (some (v, h16)) none) fun v32 h32 =>
  intK .i64 v32 fun i33 =>
  wrap64 (Int.sub i27 i33) fun i34 =>
  ptrAddK 0 a14 fun v35 =>
  load1K h32 v35 fun v36 =>
  intK .i64 v36 fun i37 =>
  wrap64 (Int.add i34 i23) fun i38 =>
  wrap64 (Int.sub i38 (Int.ofNat 1)) fun i39 =>
  slowI .i64 (binW env .quo 3 (Value.int .i64 i39) (Value.int .i64 i23)) fun i40 =>
  maxZ i37 i40 fun i41 =>
  ptrAddK 0 a14 fun v42 =>
  store1K h32 v42 (Value.int .i64 i41) fun h43 =>
  ptrAddK 1 a14 fun v44 =>
  load1K h43 v44 fun v45 =>
  intK .i64 v45 fun i46 =>
  ptrAddK 1 a2 fun v47 =>
  load1K h43 v47 fun v48 =>
  intK .i64 v48 fun i49 =>
  loadNK 3 h43 a0 fun v50 =>
  ptrAddK 2 a1 fun v51 =>
  loadNK 3 h43 v51 fun v52 =>
  wrap64 (Int.add r2 (Int.ofNat 1)) fun i53 =>
  pairK (pairK (optK (F65 [v50, v52, (Value.int .i64 i53)] (Hp.mk (Hp.next h43) (Hp.next h43) (Hp.objs h43))) fun v => some (v, (Hp.mk (Hp.next h43) (Hp.next h43) (Hp.objs h43)))) fun v _ => ifB (plainK v) (some (v, h43)) none) fun v54 h54 =>
  intK .i64 v54 fun i55 =>
  wrap64 (Int.sub i49 i55) fun i56 =>
  slowI .i64 (binW env .quo 3 (Value.int .i64 i56) (Value.int .i64 i23)) fun i57 =>
  minZ i46 i57 fun i58 =>
  ptrAddK 1 a14 fun v59 =>
  store1K h54 v59 (Value.int .i64 i58) fun h60 =>
  loadNK 2 h60 a14 fun v61 =>
  storeNK 2 h60 a3 v61 fun h62 =>
  loadNK 2 h62 a3 fun v63 => some (v63, h62))
  (loadNK 2 h16 a14 fun v64 =>
  storeNK 2 h16 a3 v64 fun h65 =>
  loadNK 2 h65 a3 fun v66 => some (v66, h65))
noncomputable def T66 (S : Sg) : Sg := tabC 0 (uV fun r0 => uV fun r1 => uI fun r2 => uV fun r3 => uN fun h => P66x0 S r0 r1 r2 r3 h) (tabN)
noncomputable def F66 (args : List Value) (h : Hp) : CRes := packVals [Kd.v, Kd.v, Kd.i .i64, Kd.v] args fun al => rec' T66 1000000 0 al h
def nt66 : Nat := 4 + (65 - 4)
theorem q66x0 (S : Sg) (r0 : Value) (r1 : Value) (r2 : Int) (r3 : Value) (h : Hp) : P66x0 S r0 r1 r2 r3 h = stepAt (regK env orc34 (nt66)) (finK env Try.f66.results.toList) (collect B66 A66 []) 0 S (AL.v r0 (AL.v r1 (AL.i r2 (AL.v r3 AL.n)))) h := by kernel_rfl
theorem t66 (S : Sg) : Tab (fun l vs h => stepAt (regK env orc34 nt66) (finK env Try.f66.results.toList) (collect B66 A66 []) l S vs h) (T66 S) := by
  unfold T66
  refine Tab.cons 0 (fun vs0 h q e0 => ?_) ?_
  · obtain ⟨r0, vs1, rfl, e1⟩ := uV_some e0
    obtain ⟨r1, vs2, rfl, e2⟩ := uV_some e1
    obtain ⟨r2, vs3, rfl, e3⟩ := uI_some e2
    obtain ⟨r3, vs4, rfl, e4⟩ := uV_some e3
    obtain ⟨rfl, ee⟩ := uN_some e4
    exact (q66x0 S r0 r1 r2 r3 h).symm.trans ee
  exact Tab.nil
theorem r66 : ∀ args h v h', F66 args h = some (v, h') → Runs (C34) (.call 66 args.toArray h) (.ret v h') := by
  intro args h v h' e
  exact fun_sound (C := C34) (fn := Try.f66) (body := B66) (np := 4) (A := A66) (T := T66) (kinds := [Kd.v, Kd.v, Kd.i .i64, Kd.v]) (by kernel_rfl) (by kernel_rfl) (by kernel_rfl) (by kernel_rfl) (regK_ok env_ok) (by kernel_rfl) (fun S => t66 S) e
noncomputable def orc35 := orcQ 66 F66 orc34
noncomputable def C35 : Cfg := cfg orc35
theorem ok35 : C35.Ok := orcQ_ok (C := C34) ok34 r66
noncomputable def B63 : Code := (Try.f63.body).getD .skip
noncomputable def A63 : G.Ann (List KI) := (G.Ann.node (some (0, [KI.reg 0 (Kd.v), KI.reg 1 (Kd.v)])) G.Ann.nil (G.Ann.node none (G.Ann.node none G.Ann.nil (G.Ann.node none (G.Ann.node (some (1, [KI.loc 2 2, KI.loc 3 3, KI.loc 4 4, KI.reg 6 (Kd.i .i64), KI.cells 2 [Kd.i .i64, Kd.i .i64, Kd.i .i64], KI.cells 3 [Kd.i .i64, Kd.i .i64, Kd.i .i64], KI.cells 4 [Kd.i .i64, Kd.i .i64, Kd.i .i64]])) (G.Ann.node none G.Ann.nil (G.Ann.node none (G.Ann.node none G.Ann.nil G.Ann.nil) (G.Ann.node none (G.Ann.node none (G.Ann.node none G.Ann.nil G.Ann.nil) G.Ann.nil) G.Ann.nil))) G.Ann.nil) G.Ann.nil)) (G.Ann.node (some (2, [KI.loc 2 2, KI.loc 4 4, KI.cells 2 [Kd.i .i64, Kd.i .i64, Kd.i .i64], KI.cells 4 [Kd.i .i64, Kd.i .i64, Kd.i .i64]])) G.Ann.nil G.Ann.nil)))
noncomputable def P63x2 (h : Hp) (S : Nat → PAL → Option Value) (c2x0 : Int) (c2x1 : Int) (c2x2 : Int) (c4x0 : Int) (c4x1 : Int) (c4x2 : Int) : Option Value :=
  aggK (Value.agg (Array.mk [(Value.int .i64 c2x0), (Value.int .i64 c2x1), (Value.int .i64 c2x2)])) fun l0 => ifB (Nat.beq (lenR l0) 3) (segR 0 l0 [(Value.int .i64 c4x0), (Value.int .i64 c4x1), (Value.int .i64 c4x2)] fun c0 =>
  dropR c0 0 fun d1 => takeR d1 3 fun l1 => some (Value.agg (Array.mk l1))) none
noncomputable def P63x1 (h : Hp) (S : Nat → PAL → Option Value) (r6 : Int) (c2x0 : Int) (c2x1 : Int) (c2x2 : Int) (c3x0 : Int) (c3x1 : Int) (c3x2 : Int) (c4x0 : Int) (c4x1 : Int) (c4x2 : Int) : Option Value :=
  boolZ (ltZ r6 (Int.ofNat 3)) fun b0 =>
  ifB b0
  (onI r6 (fun n1 => ifB (Nat.ble (Nat.succ n1) 3) (forceN (Nat.add 0 (Nat.mul n1 1)) fun o1 =>
  nthR [(Value.int .i64 c2x0), (Value.int .i64 c2x1), (Value.int .i64 c2x2)] o1 fun v2 =>
  intK .i64 v2 fun i3 =>
  onI r6 (fun n4 => ifB (Nat.ble (Nat.succ n4) 3) (forceN (Nat.add 0 (Nat.mul n4 1)) fun o4 =>
  nthR [(Value.int .i64 c3x0), (Value.int .i64 c3x1), (Value.int .i64 c3x2)] o4 fun v5 =>
  intK .i64 v5 fun i6 =>
  minZ i3 i6 fun i7 =>
  onI r6 (fun n8 => ifB (Nat.ble (Nat.succ n8) 3) (forceN (Nat.add 0 (Nat.mul n8 1)) fun o8 =>
  setNthR [(Value.int .i64 c2x0), (Value.int .i64 c2x1), (Value.int .i64 c2x2)] o8 (Value.int .i64 i7) fun c9 =>
  wrap64 (Int.add r6 (Int.ofNat 1)) fun i10 =>
  unconsK c9 fun a11 c11 =>
  intK .i64 a11 fun i12 =>
  unconsK c11 fun a13 c13 =>
  intK .i64 a13 fun i14 =>
  unconsK c13 fun a15 c15 =>
  intK .i64 a15 fun i16 =>
  nilK c15 (S 1 (PAL.i i10 (PAL.i i12 (PAL.i i14 (PAL.i i16 (PAL.i c3x0 (PAL.i c3x1 (PAL.i c3x2 (PAL.i c4x0 (PAL.i c4x1 (PAL.i c4x2 PAL.n)))))))))))) none) (fun _ => none)) none) (fun _ => none)) none) (fun _ => none))
  (S 2 (PAL.i c2x0 (PAL.i c2x1 (PAL.i c2x2 (PAL.i c4x0 (PAL.i c4x1 (PAL.i c4x2 PAL.n)))))))
noncomputable def P63x0 (h : Hp) (S : Nat → PAL → Option Value) (r0 : Value) (r1 : Value) : Option Value :=
  forceL (Array.toList (Value.cells r0)) fun c0 =>
  forceL (Array.toList (Value.cells r1)) fun c1 =>
  unconsK c0 fun a2 c2 =>
  intK .i64 a2 fun i3 =>
  unconsK c2 fun a4 c4 =>
  intK .i64 a4 fun i5 =>
  unconsK c4 fun a6 c6 =>
  intK .i64 a6 fun i7 =>
  nilK c6 (unconsK c1 fun a8 c8 =>
  intK .i64 a8 fun i9 =>
  unconsK c8 fun a10 c10 =>
  intK .i64 a10 fun i11 =>
  unconsK c10 fun a12 c12 =>
  intK .i64 a12 fun i13 =>
  nilK c12 (S 1 (PAL.i (Int.ofNat 0) (PAL.i i3 (PAL.i i5 (PAL.i i7 (PAL.i i9 (PAL.i i11 (PAL.i i13 (PAL.i (Int.ofNat 0) (PAL.i (Int.ofNat 0) (PAL.i (Int.ofNat 0) PAL.n))))))))))))
noncomputable def T63 (h : Hp) (S : Nat → PAL → Option Value) : Nat → PAL → Option Value := tabPC 0 (wV fun r0 => wV fun r1 => wN (P63x0 h S r0 r1)) (tabPC 1 (wI fun r6 => wI fun c2x0 => wI fun c2x1 => wI fun c2x2 => wI fun c3x0 => wI fun c3x1 => wI fun c3x2 => wI fun c4x0 => wI fun c4x1 => wI fun c4x2 => wN (P63x1 h S r6 c2x0 c2x1 c2x2 c3x0 c3x1 c3x2 c4x0 c4x1 c4x2)) (tabPC 2 (wI fun c2x0 => wI fun c2x1 => wI fun c2x2 => wI fun c4x0 => wI fun c4x1 => wI fun c4x2 => wN (P63x2 h S c2x0 c2x1 c2x2 c4x0 c4x1 c4x2)) (tabPN)))
noncomputable def F63 (args : List Value) (h : Hp) : Option Value := plainO (packArgs [Kd.v, Kd.v] args fun al => G.rec' (T63 h) 1000000 0 al)
def nt63 : Nat := 2 + (20 - 2)
theorem q63x2 (h : Hp) (S : Nat → PAL → Option Value) (c2x0 : Int) (c2x1 : Int) (c2x2 : Int) (c4x0 : Int) (c4x1 : Int) (c4x2 : Int) : P63x2 h S c2x0 c2x1 c2x2 c4x0 c4x1 c4x2 = G.stepAt packP unpackP evXV (regP env pf14 nt63 h) (finP env Try.f63.results.toList) (G.collect B63 A63 []) 2 S (PAL.i c2x0 (PAL.i c2x1 (PAL.i c2x2 (PAL.i c4x0 (PAL.i c4x1 (PAL.i c4x2 PAL.n)))))) := by kernel_rfl
theorem q63x1 (h : Hp) (S : Nat → PAL → Option Value) (r6 : Int) (c2x0 : Int) (c2x1 : Int) (c2x2 : Int) (c3x0 : Int) (c3x1 : Int) (c3x2 : Int) (c4x0 : Int) (c4x1 : Int) (c4x2 : Int) : P63x1 h S r6 c2x0 c2x1 c2x2 c3x0 c3x1 c3x2 c4x0 c4x1 c4x2 = G.stepAt packP unpackP evXV (regP env pf14 nt63 h) (finP env Try.f63.results.toList) (G.collect B63 A63 []) 1 S (PAL.i r6 (PAL.i c2x0 (PAL.i c2x1 (PAL.i c2x2 (PAL.i c3x0 (PAL.i c3x1 (PAL.i c3x2 (PAL.i c4x0 (PAL.i c4x1 (PAL.i c4x2 PAL.n)))))))))) := by kernel_rfl
theorem q63x0 (h : Hp) (S : Nat → PAL → Option Value) (r0 : Value) (r1 : Value) : P63x0 h S r0 r1 = G.stepAt packP unpackP evXV (regP env pf14 nt63 h) (finP env Try.f63.results.toList) (G.collect B63 A63 []) 0 S (PAL.v r0 (PAL.v r1 PAL.n)) := by kernel_rfl
theorem t63 (h : Hp) (S : Nat → PAL → Option Value) : TabP (fun l al => G.stepAt packP unpackP evXV (regP env pf14 nt63 h) (finP env Try.f63.results.toList) (G.collect B63 A63 []) l S al) (T63 h S) := by
  unfold T63
  refine TabP.cons 0 (fun vs0 q e0 => ?_) ?_
  · obtain ⟨r0, vs1, rfl, e1⟩ := wV_some e0
    obtain ⟨r1, vs2, rfl, e2⟩ := wV_some e1
    obtain ⟨rfl, ee⟩ := wN_some e2
    exact (q63x0 h S r0 r1).symm.trans ee
  refine TabP.cons 1 (fun vs0 q e0 => ?_) ?_
  · obtain ⟨r6, vs1, rfl, e1⟩ := wI_some e0
    obtain ⟨c2x0, vs2, rfl, e2⟩ := wI_some e1
    obtain ⟨c2x1, vs3, rfl, e3⟩ := wI_some e2
    obtain ⟨c2x2, vs4, rfl, e4⟩ := wI_some e3
    obtain ⟨c3x0, vs5, rfl, e5⟩ := wI_some e4
    obtain ⟨c3x1, vs6, rfl, e6⟩ := wI_some e5
    obtain ⟨c3x2, vs7, rfl, e7⟩ := wI_some e6
    obtain ⟨c4x0, vs8, rfl, e8⟩ := wI_some e7
    obtain ⟨c4x1, vs9, rfl, e9⟩ := wI_some e8
    obtain ⟨c4x2, vs10, rfl, e10⟩ := wI_some e9
    obtain ⟨rfl, ee⟩ := wN_some e10
    exact (q63x1 h S r6 c2x0 c2x1 c2x2 c3x0 c3x1 c3x2 c4x0 c4x1 c4x2).symm.trans ee
  refine TabP.cons 2 (fun vs0 q e0 => ?_) ?_
  · obtain ⟨c2x0, vs1, rfl, e1⟩ := wI_some e0
    obtain ⟨c2x1, vs2, rfl, e2⟩ := wI_some e1
    obtain ⟨c2x2, vs3, rfl, e3⟩ := wI_some e2
    obtain ⟨c4x0, vs4, rfl, e4⟩ := wI_some e3
    obtain ⟨c4x1, vs5, rfl, e5⟩ := wI_some e4
    obtain ⟨c4x2, vs6, rfl, e6⟩ := wI_some e5
    obtain ⟨rfl, ee⟩ := wN_some e6
    exact (q63x2 h S c2x0 c2x1 c2x2 c4x0 c4x1 c4x2).symm.trans ee
  exact TabP.nil
theorem r63 : PSound Try.prog 63 F63 := fun_soundP (C := C0) ok0 (pf := pf14) pfok14 (fn := Try.f63) (body := B63) (kinds := [Kd.v, Kd.v]) (A := A63) (T := T63) (by kernel_rfl) (by kernel_rfl) (by kernel_rfl) (by kernel_rfl) (fun h S => t63 h S)
noncomputable def pf15 : PF := pfC 63 F63 pf14
theorem pfok15 : PfSound Try.prog pf15 := pfC_ok r63 pfok14
noncomputable def orc36 := orcP 63 F63 orc35
noncomputable def C36 : Cfg := cfg orc36
theorem ok36 : C36.Ok := orcP_ok (C := C35) ok35 r63
noncomputable def B40 : Code := (Try.f40.body).getD .skip
noncomputable def A40 : G.Ann (List KI) := (G.Ann.node (some (0, [KI.reg 0 (Kd.i .i64), KI.reg 1 (Kd.v)])) G.Ann.nil (G.Ann.node none G.Ann.nil G.Ann.nil))
noncomputable def P40x0 (h : Hp) (S : Nat → PAL → Option Value) (r0 : Int) (r1 : Value) : Option Value :=
  wrap64 (Int.sub r0 (Int.ofNat 1)) fun i0 =>
  optK (F14 [(Value.int .i64 (Int.ofNat 0)), (Value.int .i64 i0), r1] h) fun v1 =>
  boolK v1 fun b2 =>
  some (Value.bool b2)
noncomputable def T40 (h : Hp) (S : Nat → PAL → Option Value) : Nat → PAL → Option Value := tabPC 0 (wI fun r0 => wV fun r1 => wN (P40x0 h S r0 r1)) (tabPN)
noncomputable def F40 (args : List Value) (h : Hp) : Option Value := plainO (packArgs [Kd.i .i64, Kd.v] args fun al => G.rec' (T40 h) 1000000 0 al)
def nt40 : Nat := 2 + (9 - 2)
theorem q40x0 (h : Hp) (S : Nat → PAL → Option Value) (r0 : Int) (r1 : Value) : P40x0 h S r0 r1 = G.stepAt packP unpackP evXV (regP env pf15 nt40 h) (finP env Try.f40.results.toList) (G.collect B40 A40 []) 0 S (PAL.i r0 (PAL.v r1 PAL.n)) := by kernel_rfl
theorem t40 (h : Hp) (S : Nat → PAL → Option Value) : TabP (fun l al => G.stepAt packP unpackP evXV (regP env pf15 nt40 h) (finP env Try.f40.results.toList) (G.collect B40 A40 []) l S al) (T40 h S) := by
  unfold T40
  refine TabP.cons 0 (fun vs0 q e0 => ?_) ?_
  · obtain ⟨r0, vs1, rfl, e1⟩ := wI_some e0
    obtain ⟨r1, vs2, rfl, e2⟩ := wV_some e1
    obtain ⟨rfl, ee⟩ := wN_some e2
    exact (q40x0 h S r0 r1).symm.trans ee
  exact TabP.nil
theorem r40 : PSound Try.prog 40 F40 := fun_soundP (C := C0) ok0 (pf := pf15) pfok15 (fn := Try.f40) (body := B40) (kinds := [Kd.i .i64, Kd.v]) (A := A40) (T := T40) (by kernel_rfl) (by kernel_rfl) (by kernel_rfl) (by kernel_rfl) (fun h S => t40 h S)
noncomputable def pf16 : PF := pfC 40 F40 pf15
theorem pfok16 : PfSound Try.prog pf16 := pfC_ok r40 pfok15
noncomputable def orc37 := orcP 40 F40 orc36
noncomputable def C37 : Cfg := cfg orc37
theorem ok37 : C37.Ok := orcP_ok (C := C36) ok36 r40
noncomputable def B16 : Code := (Try.f16.body).getD .skip
def A16 : Ann := (Ann.node (some (0, [(0, Kd.v), (1, Kd.i .i64)])) Ann.nil (Ann.node none Ann.nil (Ann.node none (Ann.node none Ann.nil (Ann.node none (Ann.node none Ann.nil Ann.nil) Ann.nil)) (Ann.node none (Ann.node none Ann.nil (Ann.node none (Ann.node none Ann.nil Ann.nil) Ann.nil)) (Ann.node none Ann.nil Ann.nil)))))
noncomputable def P16x0 (S : Sg) (r0 : Value) (r1 : Int) (h : Hp) : CRes :=
  allocK h 25 (Array.toList (Value.cells r0)) fun a0 h0 =>
  allocK h0 61 [(Value.int .i64 (Int.ofNat 0)), (Value.slice none 0 0), (Value.slice none 0 0), (Value.slice none 0 0), (Value.int .i64 (Int.ofNat 0)), (Value.int .i64 (Int.ofNat 0)), (Value.slice none 0 0), (Value.int .i64 (Int.ofNat 0))] fun a1 h1 =>
  loadNK 3 h1 a0 fun v2 =>
  pairK (callQ F13 [v2] h1) fun v3 h3 =>
  extK v3 0 fun v4 =>
  extK v3 1 fun v5 =>
  intK .i64 v5 fun i6 =>
  allocK h3 55 [(Value.int .i64 (Int.ofNat 0)), (Value.slice none 0 0), (Value.slice none 0 0)] fun a7 h7 =>
  storeNK 3 h7 a7 v4 fun h8 =>
  boolN (eqZ i6 (Int.ofNat 0)) fun b9 =>
  ifB b9
  (optK (buildV env 61 (List.toArray [])) fun v10 =>
  storeNK 8 h8 a1 v10 fun h11 =>
  loadNK 8 h11 a1 fun v12 => some (Value.tuple (List.toArray [v12, (Value.int .i64 i6)]), h11))
  (ptrAddK 0 a7 fun v13 =>
  ptrAddK 2 v13 fun v14 =>
  load1K h8 v14 fun v15 =>
  lenSK v15 fun i16 =>
  pairK (buildSliceV env h8 36 1 (List.toArray [(0, (Value.int .i64 r1))])) fun v17 h17 =>
  pairK (optK (F40 [(Value.int .i64 i16), v17] h17) fun v => some (v, h17)) fun v18 h18 =>
  boolK v18 fun b19 =>
  boolN b19 fun b20 =>
  ifB b20
  (optK (buildV env 61 (List.toArray [])) fun v21 =>
  storeNK 8 h18 a1 v21 fun h22 =>
  loadNK 8 h22 a1 fun v23 => some (Value.tuple (List.toArray [v23, (Value.int .i64 (Int.ofNat 4))]), h22))
  (loadNK 3 h18 a7 fun v24 =>
  ptrAddK 0 a7 fun v25 =>
  ptrAddK 2 v25 fun v26 =>
  load1K h18 v26 fun v27 =>
  idxSK 5 v27 r1 fun v28 =>
  loadNK 5 h18 v28 fun v29 =>
  optK (buildV env 61 (List.toArray [(0, v24), (1, v29)])) fun v30 =>
  storeNK 8 h18 a1 v30 fun h31 =>
  loadNK 8 h31 a1 fun v32 => some (Value.tuple (List.toArray [v32, (Value.int .i64 (Int.ofNat 0))]), h31)))
noncomputable def T16 (S : Sg) : Sg := tabC 0 (uV fun r0 => uI fun r1 => uN fun h => P16x0 S r0 r1 h) (tabN)
noncomputable def F16 (args : List Value) (h : Hp) : CRes := packVals [Kd.v, Kd.i .i64] args fun al => rec' T16 1000000 0 al h
def nt16 : Nat := 2 + (34 - 2)
theorem q16x0 (S : Sg) (r0 : Value) (r1 : Int) (h : Hp) : P16x0 S r0 r1 h = stepAt (regK env orc37 (nt16)) (finK env Try.f16.results.toList) (collect B16 A16 []) 0 S (AL.v r0 (AL.i r1 AL.n)) h := by kernel_rfl
theorem t16 (S : Sg) : Tab (fun l vs h => stepAt (regK env orc37 nt16) (finK env Try.f16.results.toList) (collect B16 A16 []) l S vs h) (T16 S) := by
  unfold T16
  refine Tab.cons 0 (fun vs0 h q e0 => ?_) ?_
  · obtain ⟨r0, vs1, rfl, e1⟩ := uV_some e0
    obtain ⟨r1, vs2, rfl, e2⟩ := uI_some e1
    obtain ⟨rfl, ee⟩ := uN_some e2
    exact (q16x0 S r0 r1 h).symm.trans ee
  exact Tab.nil
theorem r16 : ∀ args h v h', F16 args h = some (v, h') → Runs (C37) (.call 16 args.toArray h) (.ret v h') := by
  intro args h v h' e
  exact fun_sound (C := C37) (fn := Try.f16) (body := B16) (np := 2) (A := A16) (T := T16) (kinds := [Kd.v, Kd.i .i64]) (by kernel_rfl) (by kernel_rfl) (by kernel_rfl) (by kernel_rfl) (regK_ok env_ok) (by kernel_rfl) (fun S => t16 S) e
noncomputable def orc38 := orcQ 16 F16 orc37
noncomputable def C38 : Cfg := cfg orc38
theorem ok38 : C38.Ok := orcQ_ok (C := C37) ok37 r16
noncomputable def B85 : Code := (Try.f85.body).getD .skip
noncomputable def A85 : G.Ann (List KI) := (G.Ann.node (some (0, [KI.reg 0 (Kd.v), KI.reg 1 (Kd.v)])) G.Ann.nil (G.Ann.node none (G.Ann.node none G.Ann.nil (G.Ann.node none (G.Ann.node (some (1, [KI.reg 0 (Kd.v), KI.loc 3 3, KI.reg 7 (Kd.i .i64), KI.reg 8 (Kd.i .i64), KI.list 3])) (G.Ann.node none G.Ann.nil (G.Ann.node none (G.Ann.node none G.Ann.nil G.Ann.nil) (G.Ann.node none (G.Ann.node none (G.Ann.node none G.Ann.nil (G.Ann.node none G.Ann.nil (G.Ann.node none (G.Ann.node none G.Ann.nil G.Ann.nil) G.Ann.nil))) G.Ann.nil) G.Ann.nil))) G.Ann.nil) G.Ann.nil)) (G.Ann.node (some (2, [])) G.Ann.nil G.Ann.nil)))
noncomputable def P85x2 (h : Hp) (S : Nat → PAL → Option Value) : Option Value :=
  some (Value.int .i64 (Int.negSucc 0))
noncomputable def P85x1 (h : Hp) (S : Nat → PAL → Option Value) (r0 : Value) (r7 : Int) (r8 : Int) (c3 : List Value) : Option Value :=
  boolZ (ltZ r8 r7) fun b0 =>
  ifB b0
  (dropR c3 0 fun d1 => takeR d1 5 fun l1 =>
  idxSK 5 r0 r8 fun v2 =>
  loadNK 5 h v2 fun v3 =>
  optK (binV env .eql 76 (Operand.tmp 11) (Operand.tmp 15) (Value.agg (Array.mk l1)) v3) fun v4 =>
  boolK v4 fun b5 =>
  ifB b5
  (some (Value.int .i64 r8))
  (wrap64 (Int.add r8 (Int.ofNat 1)) fun i6 =>
  S 1 (PAL.v r0 (PAL.i r7 (PAL.i i6 (PAL.l c3 PAL.n))))))
  (S 2 PAL.n)
noncomputable def P85x0 (h : Hp) (S : Nat → PAL → Option Value) (r0 : Value) (r1 : Value) : Option Value :=
  forceL (Array.toList (Value.cells r1)) fun c0 =>
  lenSK r0 fun i1 =>
  S 1 (PAL.v r0 (PAL.i i1 (PAL.i (Int.ofNat 0) (PAL.l c0 PAL.n))))
noncomputable def T85 (h : Hp) (S : Nat → PAL → Option Value) : Nat → PAL → Option Value := tabPC 0 (wV fun r0 => wV fun r1 => wN (P85x0 h S r0 r1)) (tabPC 1 (wV fun r0 => wI fun r7 => wI fun r8 => wL fun c3 => wN (P85x1 h S r0 r7 r8 c3)) (tabPC 2 (wN (P85x2 h S)) (tabPN)))
noncomputable def F85 (args : List Value) (h : Hp) : Option Value := plainO (packArgs [Kd.v, Kd.v] args fun al => G.rec' (T85 h) 1000000 0 al)
def nt85 : Nat := 2 + (19 - 2)
theorem q85x2 (h : Hp) (S : Nat → PAL → Option Value) : P85x2 h S = G.stepAt packP unpackP evXV (regP env pf16 nt85 h) (finP env Try.f85.results.toList) (G.collect B85 A85 []) 2 S PAL.n := by kernel_rfl
theorem q85x1 (h : Hp) (S : Nat → PAL → Option Value) (r0 : Value) (r7 : Int) (r8 : Int) (c3 : List Value) : P85x1 h S r0 r7 r8 c3 = G.stepAt packP unpackP evXV (regP env pf16 nt85 h) (finP env Try.f85.results.toList) (G.collect B85 A85 []) 1 S (PAL.v r0 (PAL.i r7 (PAL.i r8 (PAL.l c3 PAL.n)))) := by kernel_rfl
theorem q85x0 (h : Hp) (S : Nat → PAL → Option Value) (r0 : Value) (r1 : Value) : P85x0 h S r0 r1 = G.stepAt packP unpackP evXV (regP env pf16 nt85 h) (finP env Try.f85.results.toList) (G.collect B85 A85 []) 0 S (PAL.v r0 (PAL.v r1 PAL.n)) := by kernel_rfl
theorem t85 (h : Hp) (S : Nat → PAL → Option Value) : TabP (fun l al => G.stepAt packP unpackP evXV (regP env pf16 nt85 h) (finP env Try.f85.results.toList) (G.collect B85 A85 []) l S al) (T85 h S) := by
  unfold T85
  refine TabP.cons 0 (fun vs0 q e0 => ?_) ?_
  · obtain ⟨r0, vs1, rfl, e1⟩ := wV_some e0
    obtain ⟨r1, vs2, rfl, e2⟩ := wV_some e1
    obtain ⟨rfl, ee⟩ := wN_some e2
    exact (q85x0 h S r0 r1).symm.trans ee
  refine TabP.cons 1 (fun vs0 q e0 => ?_) ?_
  · obtain ⟨r0, vs1, rfl, e1⟩ := wV_some e0
    obtain ⟨r7, vs2, rfl, e2⟩ := wI_some e1
    obtain ⟨r8, vs3, rfl, e3⟩ := wI_some e2
    obtain ⟨c3, vs4, rfl, e4⟩ := wL_some e3
    obtain ⟨rfl, ee⟩ := wN_some e4
    exact (q85x1 h S r0 r7 r8 c3).symm.trans ee
  refine TabP.cons 2 (fun vs0 q e0 => ?_) ?_
  · 
    obtain ⟨rfl, ee⟩ := wN_some e0
    exact (q85x2 h S).symm.trans ee
  exact TabP.nil
theorem r85 : PSound Try.prog 85 F85 := fun_soundP (C := C0) ok0 (pf := pf16) pfok16 (fn := Try.f85) (body := B85) (kinds := [Kd.v, Kd.v]) (A := A85) (T := T85) (by kernel_rfl) (by kernel_rfl) (by kernel_rfl) (by kernel_rfl) (fun h S => t85 h S)
noncomputable def pf17 : PF := pfC 85 F85 pf16
theorem pfok17 : PfSound Try.prog pf17 := pfC_ok r85 pfok16
noncomputable def orc39 := orcP 85 F85 orc38
noncomputable def C39 : Cfg := cfg orc39
theorem ok39 : C39.Ok := orcP_ok (C := C38) ok38 r85
noncomputable def B68 : Code := (Try.f68.body).getD .skip
noncomputable def A68 : G.Ann (List KI) := (G.Ann.node (some (0, [KI.reg 0 (Kd.v), KI.reg 1 (Kd.v)])) G.Ann.nil (G.Ann.node none G.Ann.nil G.Ann.nil))
noncomputable def P68x0 (h : Hp) (S : Nat → PAL → Option Value) (r0 : Value) (r1 : Value) : Option Value :=
  forceL (Array.toList (Value.cells r1)) fun c0 =>
  dropR c0 0 fun d1 => takeR d1 5 fun l1 =>
  optK (F85 [r0, (Value.agg (Array.mk l1))] h) fun v2 =>
  intK .i64 v2 fun i3 =>
  boolN (ltZ i3 (Int.ofNat 0)) fun b4 =>
  some (Value.bool b4)
noncomputable def T68 (h : Hp) (S : Nat → PAL → Option Value) : Nat → PAL → Option Value := tabPC 0 (wV fun r0 => wV fun r1 => wN (P68x0 h S r0 r1)) (tabPN)
noncomputable def F68 (args : List Value) (h : Hp) : Option Value := plainO (packArgs [Kd.v, Kd.v] args fun al => G.rec' (T68 h) 1000000 0 al)
def nt68 : Nat := 2 + (9 - 2)
theorem q68x0 (h : Hp) (S : Nat → PAL → Option Value) (r0 : Value) (r1 : Value) : P68x0 h S r0 r1 = G.stepAt packP unpackP evXV (regP env pf17 nt68 h) (finP env Try.f68.results.toList) (G.collect B68 A68 []) 0 S (PAL.v r0 (PAL.v r1 PAL.n)) := by kernel_rfl
theorem t68 (h : Hp) (S : Nat → PAL → Option Value) : TabP (fun l al => G.stepAt packP unpackP evXV (regP env pf17 nt68 h) (finP env Try.f68.results.toList) (G.collect B68 A68 []) l S al) (T68 h S) := by
  unfold T68
  refine TabP.cons 0 (fun vs0 q e0 => ?_) ?_
  · obtain ⟨r0, vs1, rfl, e1⟩ := wV_some e0
    obtain ⟨r1, vs2, rfl, e2⟩ := wV_some e1
    obtain ⟨rfl, ee⟩ := wN_some e2
    exact (q68x0 h S r0 r1).symm.trans ee
  exact TabP.nil
theorem r68 : PSound Try.prog 68 F68 := fun_soundP (C := C0) ok0 (pf := pf17) pfok17 (fn := Try.f68) (body := B68) (kinds := [Kd.v, Kd.v]) (A := A68) (T := T68) (by kernel_rfl) (by kernel_rfl) (by kernel_rfl) (by kernel_rfl) (fun h S => t68 h S)
noncomputable def pf18 : PF := pfC 68 F68 pf17
theorem pfok18 : PfSound Try.prog pf18 := pfC_ok r68 pfok17
noncomputable def orc40 := orcP 68 F68 orc39
noncomputable def C40 : Cfg := cfg orc40
theorem ok40 : C40.Ok := orcP_ok (C := C39) ok39 r68
noncomputable def B46 : Code := (Try.f46.body).getD .skip
noncomputable def A46 : G.Ann (List KI) := (G.Ann.node (some (0, [KI.reg 0 (Kd.i .i64), KI.reg 1 (Kd.i .i64)])) G.Ann.nil (G.Ann.node none G.Ann.nil G.Ann.nil))
noncomputable def P46x0 (h : Hp) (S : Nat → PAL → Option Value) (r0 : Int) (r1 : Int) : Option Value :=
  shrZ .i64 r0 r1 (shrI (binW env .shr 3 (Value.int .i64 r0) (Value.int .i64 r1)) (Value.int .i64 r0) (Value.int .i64 r1)) fun i0 =>
  andZ .i64 i0 (Int.ofNat 1) (andI (binW env .and 3 (Value.int .i64 i0) (Value.int .i64 (Int.ofNat 1))) (Value.int .i64 i0) (Value.int .i64 (Int.ofNat 1))) fun i1 =>
  boolZ (eqZ i1 (Int.ofNat 1)) fun b2 =>
  some (Value.bool b2)
noncomputable def T46 (h : Hp) (S : Nat → PAL → Option Value) : Nat → PAL → Option Value := tabPC 0 (wI fun r0 => wI fun r1 => wN (P46x0 h S r0 r1)) (tabPN)
noncomputable def F46 (args : List Value) (h : Hp) : Option Value := plainO (packArgs [Kd.i .i64, Kd.i .i64] args fun al => G.rec' (T46 h) 1000000 0 al)
def nt46 : Nat := 2 + (10 - 2)
theorem q46x0 (h : Hp) (S : Nat → PAL → Option Value) (r0 : Int) (r1 : Int) : P46x0 h S r0 r1 = G.stepAt packP unpackP evXV (regP env pf18 nt46 h) (finP env Try.f46.results.toList) (G.collect B46 A46 []) 0 S (PAL.i r0 (PAL.i r1 PAL.n)) := by kernel_rfl
theorem t46 (h : Hp) (S : Nat → PAL → Option Value) : TabP (fun l al => G.stepAt packP unpackP evXV (regP env pf18 nt46 h) (finP env Try.f46.results.toList) (G.collect B46 A46 []) l S al) (T46 h S) := by
  unfold T46
  refine TabP.cons 0 (fun vs0 q e0 => ?_) ?_
  · obtain ⟨r0, vs1, rfl, e1⟩ := wI_some e0
    obtain ⟨r1, vs2, rfl, e2⟩ := wI_some e1
    obtain ⟨rfl, ee⟩ := wN_some e2
    exact (q46x0 h S r0 r1).symm.trans ee
  exact TabP.nil
theorem r46 : PSound Try.prog 46 F46 := fun_soundP (C := C0) ok0 (pf := pf18) pfok18 (fn := Try.f46) (body := B46) (kinds := [Kd.i .i64, Kd.i .i64]) (A := A46) (T := T46) (by kernel_rfl) (by kernel_rfl) (by kernel_rfl) (by kernel_rfl) (fun h S => t46 h S)
noncomputable def pf19 : PF := pfC 46 F46 pf18
theorem pfok19 : PfSound Try.prog pf19 := pfC_ok r46 pfok18
noncomputable def orc41 := orcP 46 F46 orc40
noncomputable def C41 : Cfg := cfg orc41
theorem ok41 : C41.Ok := orcP_ok (C := C40) ok40 r46
noncomputable def B6 : Code := (Try.f6.body).getD .skip
def A6 : Ann := (Ann.node (some (0, [(0, Kd.v), (1, Kd.i .i64)])) Ann.nil (Ann.node none Ann.nil (Ann.node none (Ann.node none Ann.nil (Ann.node none (Ann.node none Ann.nil Ann.nil) Ann.nil)) (Ann.node none Ann.nil Ann.nil))))
noncomputable def P6x0 (S : Sg) (r0 : Value) (r1 : Int) (h : Hp) : CRes :=
  allocK h 25 (Array.toList (Value.cells r0)) fun a0 h0 =>
  loadNK 3 h0 a0 fun v1 =>
  pairK (callQ F16 [v1, (Value.int .i64 r1)] h0) fun v2 h2 =>
  extK v2 0 fun v3 =>
  extK v2 1 fun v4 =>
  intK .i64 v4 fun i5 =>
  allocK h2 61 [(Value.int .i64 (Int.ofNat 0)), (Value.slice none 0 0), (Value.slice none 0 0), (Value.slice none 0 0), (Value.int .i64 (Int.ofNat 0)), (Value.int .i64 (Int.ofNat 0)), (Value.slice none 0 0), (Value.int .i64 (Int.ofNat 0))] fun a6 h6 =>
  storeNK 8 h6 a6 v3 fun h7 =>
  boolN (eqZ i5 (Int.ofNat 0)) fun b8 =>
  ifB b8
  (some (Value.tuple (List.toArray [(Value.int .i64 (Int.ofNat 0)), (Value.int .i64 (Int.ofNat 0)), (Value.int .i64 i5)]), h7))
  (loadNK 8 h7 a6 fun v9 =>
  pairK (pairK (optK (F17 [v9] (Hp.mk (Hp.next h7) (Hp.next h7) (Hp.objs h7))) fun v => some (v, (Hp.mk (Hp.next h7) (Hp.next h7) (Hp.objs h7)))) fun v _ => ifB (plainK v) (some (v, h7)) none) fun v10 h10 =>
  intK .i64 v10 fun i11 =>
  ptrAddK 0 a6 fun v12 =>
  loadNK 3 h10 v12 fun v13 =>
  ptrAddK 3 a6 fun v14 =>
  ptrAddK 0 v14 fun v15 =>
  load1K h10 v15 fun v16 =>
  pairK (pairK (optK (F18 [v16] (Hp.mk (Hp.next h10) (Hp.next h10) (Hp.objs h10))) fun v => some (v, (Hp.mk (Hp.next h10) (Hp.next h10) (Hp.objs h10)))) fun v _ => ifB (plainK v) (some (v, h10)) none) fun v17 h17 =>
  intK .i64 v17 fun i18 =>
  pairK (optK (F15 [v13, (Value.int .i64 i18)] h17) fun v => some (v, h17)) fun v19 h19 =>
  intK .i64 v19 fun i20 =>
  some (Value.tuple (List.toArray [(Value.int .i64 i11), (Value.int .i64 i20), (Value.int .i64 (Int.ofNat 0))]), h19))
noncomputable def T6 (S : Sg) : Sg := tabC 0 (uV fun r0 => uI fun r1 => uN fun h => P6x0 S r0 r1 h) (tabN)
noncomputable def F6 (args : List Value) (h : Hp) : CRes := packVals [Kd.v, Kd.i .i64] args fun al => rec' T6 1000000 0 al h
def nt6 : Nat := 2 + (26 - 2)
theorem q6x0 (S : Sg) (r0 : Value) (r1 : Int) (h : Hp) : P6x0 S r0 r1 h = stepAt (regK env orc41 (nt6)) (finK env Try.f6.results.toList) (collect B6 A6 []) 0 S (AL.v r0 (AL.i r1 AL.n)) h := by kernel_rfl
theorem t6 (S : Sg) : Tab (fun l vs h => stepAt (regK env orc41 nt6) (finK env Try.f6.results.toList) (collect B6 A6 []) l S vs h) (T6 S) := by
  unfold T6
  refine Tab.cons 0 (fun vs0 h q e0 => ?_) ?_
  · obtain ⟨r0, vs1, rfl, e1⟩ := uV_some e0
    obtain ⟨r1, vs2, rfl, e2⟩ := uI_some e1
    obtain ⟨rfl, ee⟩ := uN_some e2
    exact (q6x0 S r0 r1 h).symm.trans ee
  exact Tab.nil
theorem r6 : ∀ args h v h', F6 args h = some (v, h') → Runs (C41) (.call 6 args.toArray h) (.ret v h') := by
  intro args h v h' e
  exact fun_sound (C := C41) (fn := Try.f6) (body := B6) (np := 2) (A := A6) (T := T6) (kinds := [Kd.v, Kd.i .i64]) (by kernel_rfl) (by kernel_rfl) (by kernel_rfl) (by kernel_rfl) (regK_ok env_ok) (by kernel_rfl) (fun S => t6 S) e
noncomputable def orc42 := orcQ 6 F6 orc41
noncomputable def C42 : Cfg := cfg orc42
theorem ok42 : C42.Ok := orcQ_ok (C := C41) ok41 r6
noncomputable abbrev orcE := orc42
theorem okE : (cfg orcE).Ok := ok42
end Go.Proofs.Ytgomkbcokgeciaa.K
