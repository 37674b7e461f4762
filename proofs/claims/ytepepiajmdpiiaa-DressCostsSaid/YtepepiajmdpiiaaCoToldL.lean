/- Functions told for the laws. -/
import Derived.Test.YtepepiajmdpiiaaCoAwake
open Go Go.Eng
set_option maxRecDepth 100000
set_option linter.unusedVariables false
namespace Go.Proofs.Ytepepiajmdpiiaa.K.L
noncomputable def FM21 : List Value → Hp → Option Value := constF (.bool true)
theorem rm21 : PSound Try.prog 21 FM21 := awakeP
noncomputable def pf14 : PF := pfC 21 FM21 pf13
theorem pfok14 : PfSound Try.prog pf14 := pfC_ok rm21 pfok13
noncomputable def orc39 := orcP 21 FM21 orc38
noncomputable def C39 : Cfg := cfg orc39
theorem ok39 : C39.Ok := orcP_ok (C := C38) ok38 rm21
noncomputable def B55 : Code := (Try.f55.body).getD .skip
noncomputable def A55 : G.Ann (List KI) := (G.Ann.node (some (0, [KI.reg 0 (Kd.i .i64), KI.reg 1 (Kd.i .i64), KI.reg 2 (Kd.i .i64)])) G.Ann.nil (G.Ann.node none G.Ann.nil G.Ann.nil))
noncomputable def P55x0 (h : Hp) (S : Nat → PAL → Option Value) (r0 : Int) (r1 : Int) (r2 : Int) : Option Value :=
  boolN (ltZ r0 r1) fun b0 =>
  ifB b0
  (boolN (ltZ r2 r0) fun b1 =>
  some (Value.bool b1))
  (some (Value.bool false))
noncomputable def T55 (h : Hp) (S : Nat → PAL → Option Value) : Nat → PAL → Option Value := tabPC 0 (wI fun r0 => wI fun r1 => wI fun r2 => wN (P55x0 h S r0 r1 r2)) (tabPN)
noncomputable def F55 (args : List Value) (h : Hp) : Option Value := plainO (packArgs [Kd.i .i64, Kd.i .i64, Kd.i .i64] args fun al => G.rec' (T55 h) 1000000 0 al)
def nt55 : Nat := 3 + (15 - 3)
theorem q55x0 (h : Hp) (S : Nat → PAL → Option Value) (r0 : Int) (r1 : Int) (r2 : Int) : P55x0 h S r0 r1 r2 = G.stepAt packP unpackP evXV (regP env pf14 nt55 h) (finP env Try.f55.results.toList) (G.collect B55 A55 []) 0 S (PAL.i r0 (PAL.i r1 (PAL.i r2 PAL.n))) := by kernel_rfl
theorem t55 (h : Hp) (S : Nat → PAL → Option Value) : TabP (fun l al => G.stepAt packP unpackP evXV (regP env pf14 nt55 h) (finP env Try.f55.results.toList) (G.collect B55 A55 []) l S al) (T55 h S) := by
  unfold T55
  refine TabP.cons 0 (fun vs0 q e0 => ?_) ?_
  · obtain ⟨r0, vs1, rfl, e1⟩ := wI_some e0
    obtain ⟨r1, vs2, rfl, e2⟩ := wI_some e1
    obtain ⟨r2, vs3, rfl, e3⟩ := wI_some e2
    obtain ⟨rfl, ee⟩ := wN_some e3
    exact (q55x0 h S r0 r1 r2).symm.trans ee
  exact TabP.nil
theorem r55 : PSound Try.prog 55 F55 := fun_soundP (C := C0) ok0 (pf := pf14) pfok14 (fn := Try.f55) (body := B55) (kinds := [Kd.i .i64, Kd.i .i64, Kd.i .i64]) (A := A55) (T := T55) (by kernel_rfl) (by kernel_rfl) (by kernel_rfl) (by kernel_rfl) (fun h S => t55 h S)
noncomputable def pf15 : PF := pfC 55 F55 pf14
theorem pfok15 : PfSound Try.prog pf15 := pfC_ok r55 pfok14
noncomputable def orc40 := orcP 55 F55 orc39
noncomputable def C40 : Cfg := cfg orc40
theorem ok40 : C40.Ok := orcP_ok (C := C39) ok39 r55
noncomputable def B50 : Code := (Try.f50.body).getD .skip
noncomputable def A50 : G.Ann (List KI) := (G.Ann.node (some (0, [KI.reg 0 (Kd.v), KI.reg 1 (Kd.i .i64), KI.reg 2 (Kd.i .i64)])) G.Ann.nil (G.Ann.node none (G.Ann.node none G.Ann.nil (G.Ann.node none (G.Ann.node none G.Ann.nil G.Ann.nil) G.Ann.nil)) (G.Ann.node none (G.Ann.node none G.Ann.nil (G.Ann.node none (G.Ann.node (some (1, [KI.reg 0 (Kd.v), KI.reg 2 (Kd.i .i64), KI.reg 8 (Kd.i .i64)])) (G.Ann.node none (G.Ann.node none G.Ann.nil (G.Ann.node none G.Ann.nil G.Ann.nil)) (G.Ann.node none (G.Ann.node none (G.Ann.node none G.Ann.nil (G.Ann.node none (G.Ann.node none G.Ann.nil G.Ann.nil) G.Ann.nil)) G.Ann.nil) G.Ann.nil)) G.Ann.nil) G.Ann.nil)) (G.Ann.node (some (2, [])) G.Ann.nil G.Ann.nil))))
noncomputable def P50x2 (h : Hp) (S : Nat → PAL → Option Value) : Option Value :=
  some (Value.tuple (List.toArray [(Value.int .i64 (Int.ofNat 0)), (Value.int .i64 (Int.ofNat 0))]))
noncomputable def P50x1 (h : Hp) (S : Nat → PAL → Option Value) (r0 : Value) (r2 : Int) (r8 : Int) : Option Value :=
  lenSK r0 fun i0 =>
  boolZ (ltZ r8 i0) fun b1 =>
  ifB b1
  (idxSK 1 r0 r8 fun v2 =>
  load1K h v2 fun v3 =>
  intK .i64 v3 fun i4 =>
  optK (F55 [(Value.int .i64 i4), (Value.int .i64 (Int.ofNat 0)), (Value.int .i64 r2)] h) fun v5 =>
  boolK v5 fun b6 =>
  boolN b6 fun b7 =>
  ifB b7
  (some (Value.tuple (List.toArray [(Value.int .i64 r8), (Value.int .i64 (Int.ofNat 7))])))
  (wrap64 (Int.add r8 (Int.ofNat 1)) fun i8 =>
  S 1 (PAL.v r0 (PAL.i r2 (PAL.i i8 PAL.n)))))
  (S 2 PAL.n)
noncomputable def P50x0 (h : Hp) (S : Nat → PAL → Option Value) (r0 : Value) (r1 : Int) (r2 : Int) : Option Value :=
  lenSK r0 fun i0 =>
  optK (F55 [(Value.int .i64 i0), (Value.int .i64 (Int.ofNat 1)), (Value.int .i64 r1)] h) fun v1 =>
  boolK v1 fun b2 =>
  boolN b2 fun b3 =>
  ifB b3
  (some (Value.tuple (List.toArray [(Value.int .i64 (Int.ofNat 0)), (Value.int .i64 (Int.ofNat 3))])))
  (S 1 (PAL.v r0 (PAL.i r2 (PAL.i (Int.ofNat 0) PAL.n))))
noncomputable def T50 (h : Hp) (S : Nat → PAL → Option Value) : Nat → PAL → Option Value := tabPC 0 (wV fun r0 => wI fun r1 => wI fun r2 => wN (P50x0 h S r0 r1 r2)) (tabPC 1 (wV fun r0 => wI fun r2 => wI fun r8 => wN (P50x1 h S r0 r2 r8)) (tabPC 2 (wN (P50x2 h S)) (tabPN)))
noncomputable def F50 (args : List Value) (h : Hp) : Option Value := plainO (packArgs [Kd.v, Kd.i .i64, Kd.i .i64] args fun al => G.rec' (T50 h) 1000000 0 al)
def nt50 : Nat := 3 + (28 - 3)
theorem q50x2 (h : Hp) (S : Nat → PAL → Option Value) : P50x2 h S = G.stepAt packP unpackP evXV (regP env pf15 nt50 h) (finP env Try.f50.results.toList) (G.collect B50 A50 []) 2 S PAL.n := by kernel_rfl
theorem q50x1 (h : Hp) (S : Nat → PAL → Option Value) (r0 : Value) (r2 : Int) (r8 : Int) : P50x1 h S r0 r2 r8 = G.stepAt packP unpackP evXV (regP env pf15 nt50 h) (finP env Try.f50.results.toList) (G.collect B50 A50 []) 1 S (PAL.v r0 (PAL.i r2 (PAL.i r8 PAL.n))) := by kernel_rfl
theorem q50x0 (h : Hp) (S : Nat → PAL → Option Value) (r0 : Value) (r1 : Int) (r2 : Int) : P50x0 h S r0 r1 r2 = G.stepAt packP unpackP evXV (regP env pf15 nt50 h) (finP env Try.f50.results.toList) (G.collect B50 A50 []) 0 S (PAL.v r0 (PAL.i r1 (PAL.i r2 PAL.n))) := by kernel_rfl
theorem t50 (h : Hp) (S : Nat → PAL → Option Value) : TabP (fun l al => G.stepAt packP unpackP evXV (regP env pf15 nt50 h) (finP env Try.f50.results.toList) (G.collect B50 A50 []) l S al) (T50 h S) := by
  unfold T50
  refine TabP.cons 0 (fun vs0 q e0 => ?_) ?_
  · obtain ⟨r0, vs1, rfl, e1⟩ := wV_some e0
    obtain ⟨r1, vs2, rfl, e2⟩ := wI_some e1
    obtain ⟨r2, vs3, rfl, e3⟩ := wI_some e2
    obtain ⟨rfl, ee⟩ := wN_some e3
    exact (q50x0 h S r0 r1 r2).symm.trans ee
  refine TabP.cons 1 (fun vs0 q e0 => ?_) ?_
  · obtain ⟨r0, vs1, rfl, e1⟩ := wV_some e0
    obtain ⟨r2, vs2, rfl, e2⟩ := wI_some e1
    obtain ⟨r8, vs3, rfl, e3⟩ := wI_some e2
    obtain ⟨rfl, ee⟩ := wN_some e3
    exact (q50x1 h S r0 r2 r8).symm.trans ee
  refine TabP.cons 2 (fun vs0 q e0 => ?_) ?_
  · 
    obtain ⟨rfl, ee⟩ := wN_some e0
    exact (q50x2 h S).symm.trans ee
  exact TabP.nil
theorem r50 : PSound Try.prog 50 F50 := fun_soundP (C := C0) ok0 (pf := pf15) pfok15 (fn := Try.f50) (body := B50) (kinds := [Kd.v, Kd.i .i64, Kd.i .i64]) (A := A50) (T := T50) (by kernel_rfl) (by kernel_rfl) (by kernel_rfl) (by kernel_rfl) (fun h S => t50 h S)
noncomputable def pf16 : PF := pfC 50 F50 pf15
theorem pfok16 : PfSound Try.prog pf16 := pfC_ok r50 pfok15
noncomputable def orc41 := orcP 50 F50 orc40
noncomputable def C41 : Cfg := cfg orc41
theorem ok41 : C41.Ok := orcP_ok (C := C40) ok40 r50
noncomputable def B117 : Code := (Try.f117.body).getD .skip
noncomputable def A117 : G.Ann (List KI) := (G.Ann.node (some (0, [KI.reg 0 (Kd.i .i64), KI.reg 1 (Kd.i .i64), KI.reg 2 (Kd.i .i64)])) G.Ann.nil (G.Ann.node none G.Ann.nil G.Ann.nil))
noncomputable def P117x0 (h : Hp) (S : Nat → PAL → Option Value) (r0 : Int) (r1 : Int) (r2 : Int) : Option Value :=
  boolN (ltZ r0 r1) fun b0 =>
  ifB b0
  (boolN (ltZ r2 r0) fun b1 =>
  some (Value.bool b1))
  (some (Value.bool false))
noncomputable def T117 (h : Hp) (S : Nat → PAL → Option Value) : Nat → PAL → Option Value := tabPC 0 (wI fun r0 => wI fun r1 => wI fun r2 => wN (P117x0 h S r0 r1 r2)) (tabPN)
noncomputable def F117 (args : List Value) (h : Hp) : Option Value := plainO (packArgs [Kd.i .i64, Kd.i .i64, Kd.i .i64] args fun al => G.rec' (T117 h) 1000000 0 al)
def nt117 : Nat := 3 + (15 - 3)
theorem q117x0 (h : Hp) (S : Nat → PAL → Option Value) (r0 : Int) (r1 : Int) (r2 : Int) : P117x0 h S r0 r1 r2 = G.stepAt packP unpackP evXV (regP env pf16 nt117 h) (finP env Try.f117.results.toList) (G.collect B117 A117 []) 0 S (PAL.i r0 (PAL.i r1 (PAL.i r2 PAL.n))) := by kernel_rfl
theorem t117 (h : Hp) (S : Nat → PAL → Option Value) : TabP (fun l al => G.stepAt packP unpackP evXV (regP env pf16 nt117 h) (finP env Try.f117.results.toList) (G.collect B117 A117 []) l S al) (T117 h S) := by
  unfold T117
  refine TabP.cons 0 (fun vs0 q e0 => ?_) ?_
  · obtain ⟨r0, vs1, rfl, e1⟩ := wI_some e0
    obtain ⟨r1, vs2, rfl, e2⟩ := wI_some e1
    obtain ⟨r2, vs3, rfl, e3⟩ := wI_some e2
    obtain ⟨rfl, ee⟩ := wN_some e3
    exact (q117x0 h S r0 r1 r2).symm.trans ee
  exact TabP.nil
theorem r117 : PSound Try.prog 117 F117 := fun_soundP (C := C0) ok0 (pf := pf16) pfok16 (fn := Try.f117) (body := B117) (kinds := [Kd.i .i64, Kd.i .i64, Kd.i .i64]) (A := A117) (T := T117) (by kernel_rfl) (by kernel_rfl) (by kernel_rfl) (by kernel_rfl) (fun h S => t117 h S)
noncomputable def pf17 : PF := pfC 117 F117 pf16
theorem pfok17 : PfSound Try.prog pf17 := pfC_ok r117 pfok16
noncomputable def orc42 := orcP 117 F117 orc41
noncomputable def C42 : Cfg := cfg orc42
theorem ok42 : C42.Ok := orcP_ok (C := C41) ok41 r117
noncomputable def B109 : Code := (Try.f109.body).getD .skip
noncomputable def A109 : G.Ann (List KI) := (G.Ann.node (some (0, [KI.reg 0 (Kd.v)])) G.Ann.nil (G.Ann.node none (G.Ann.node none G.Ann.nil (G.Ann.node none (G.Ann.node none G.Ann.nil G.Ann.nil) G.Ann.nil)) (G.Ann.node none (G.Ann.node none G.Ann.nil (G.Ann.node none (G.Ann.node (some (1, [KI.reg 0 (Kd.v), KI.reg 3 (Kd.i .i64)])) (G.Ann.node none (G.Ann.node none G.Ann.nil (G.Ann.node none G.Ann.nil G.Ann.nil)) (G.Ann.node none (G.Ann.node none (G.Ann.node none G.Ann.nil (G.Ann.node none G.Ann.nil (G.Ann.node (some (2, [KI.reg 0 (Kd.v), KI.reg 3 (Kd.i .i64), KI.reg 4 (Kd.b), KI.reg 5 (Kd.b)])) G.Ann.nil (G.Ann.node none (G.Ann.node none G.Ann.nil G.Ann.nil) G.Ann.nil)))) G.Ann.nil) (G.Ann.node (some (3, [KI.reg 0 (Kd.v), KI.reg 3 (Kd.i .i64)])) G.Ann.nil G.Ann.nil))) G.Ann.nil) G.Ann.nil)) (G.Ann.node (some (4, [])) G.Ann.nil G.Ann.nil))))
noncomputable def P109x4 (h : Hp) (S : Nat → PAL → Option Value) : Option Value :=
  some (Value.bool true)
noncomputable def P109x3 (h : Hp) (S : Nat → PAL → Option Value) (r0 : Value) (r3 : Int) : Option Value :=
  wrap64 (Int.add r3 (Int.ofNat 1)) fun i0 =>
  S 1 (PAL.v r0 (PAL.i i0 PAL.n))
noncomputable def P109x2 (h : Hp) (S : Nat → PAL → Option Value) (r0 : Value) (r3 : Int) (r4 : Bool) (r5 : Bool) : Option Value :=
  boolN r4 fun b0 =>
  ifB b0
  (boolZ (eqZ r3 (Int.ofNat 0)) fun b1 =>
  ifB b1
  (some (Value.bool false))
  (boolN r5 fun b2 =>
  ifB b2
  (some (Value.bool false))
  (S 3 (PAL.v r0 (PAL.i r3 PAL.n)))))
  (S 3 (PAL.v r0 (PAL.i r3 PAL.n)))
noncomputable def P109x1 (h : Hp) (S : Nat → PAL → Option Value) (r0 : Value) (r3 : Int) : Option Value :=
  lenBK r0 fun i0 =>
  boolZ (ltZ r3 i0) fun b1 =>
  ifB b1
  (optK (indexV env 9 r0 (Value.int .i64 r3)) fun v2 =>
  intK .u8 v2 fun i3 =>
  wrap64 i3 fun i4 =>
  optK (F117 [(Value.int .i64 i4), (Value.int .i64 (Int.ofNat 97)), (Value.int .i64 (Int.ofNat 122))] h) fun v5 =>
  boolK v5 fun b6 =>
  optK (indexV env 9 r0 (Value.int .i64 r3)) fun v7 =>
  intK .u8 v7 fun i8 =>
  wrap64 i8 fun i9 =>
  optK (F117 [(Value.int .i64 i9), (Value.int .i64 (Int.ofNat 48)), (Value.int .i64 (Int.ofNat 57))] h) fun v10 =>
  boolK v10 fun b11 =>
  ifB b11
  (S 2 (PAL.v r0 (PAL.i r3 (PAL.b b6 (PAL.b true PAL.n)))))
  (optK (indexV env 9 r0 (Value.int .i64 r3)) fun v12 =>
  intK .u8 v12 fun i13 =>
  boolZ (eqZ i13 (Int.ofNat 46)) fun b14 =>
  S 2 (PAL.v r0 (PAL.i r3 (PAL.b b6 (PAL.b b14 PAL.n))))))
  (S 4 PAL.n)
noncomputable def P109x0 (h : Hp) (S : Nat → PAL → Option Value) (r0 : Value) : Option Value :=
  lenBK r0 fun i0 =>
  boolZ (eqZ i0 (Int.ofNat 0)) fun b1 =>
  ifB b1
  (some (Value.bool false))
  (lenBK r0 fun i2 =>
  boolZ (ltZ (Int.ofNat 16) i2) fun b3 =>
  ifB b3
  (some (Value.bool false))
  (S 1 (PAL.v r0 (PAL.i (Int.ofNat 0) PAL.n))))
noncomputable def T109 (h : Hp) (S : Nat → PAL → Option Value) : Nat → PAL → Option Value := tabPC 0 (wV fun r0 => wN (P109x0 h S r0)) (tabPC 1 (wV fun r0 => wI fun r3 => wN (P109x1 h S r0 r3)) (tabPC 2 (wV fun r0 => wI fun r3 => wB fun r4 => wB fun r5 => wN (P109x2 h S r0 r3 r4 r5)) (tabPC 3 (wV fun r0 => wI fun r3 => wN (P109x3 h S r0 r3)) (tabPC 4 (wN (P109x4 h S)) (tabPN)))))
noncomputable def F109 (args : List Value) (h : Hp) : Option Value := plainO (packArgs [Kd.v] args fun al => G.rec' (T109 h) 1000000 0 al)
def nt109 : Nat := 1 + (46 - 1)
theorem q109x4 (h : Hp) (S : Nat → PAL → Option Value) : P109x4 h S = G.stepAt packP unpackP evXV (regP env pf17 nt109 h) (finP env Try.f109.results.toList) (G.collect B109 A109 []) 4 S PAL.n := by kernel_rfl
theorem q109x3 (h : Hp) (S : Nat → PAL → Option Value) (r0 : Value) (r3 : Int) : P109x3 h S r0 r3 = G.stepAt packP unpackP evXV (regP env pf17 nt109 h) (finP env Try.f109.results.toList) (G.collect B109 A109 []) 3 S (PAL.v r0 (PAL.i r3 PAL.n)) := by kernel_rfl
theorem q109x2 (h : Hp) (S : Nat → PAL → Option Value) (r0 : Value) (r3 : Int) (r4 : Bool) (r5 : Bool) : P109x2 h S r0 r3 r4 r5 = G.stepAt packP unpackP evXV (regP env pf17 nt109 h) (finP env Try.f109.results.toList) (G.collect B109 A109 []) 2 S (PAL.v r0 (PAL.i r3 (PAL.b r4 (PAL.b r5 PAL.n)))) := by kernel_rfl
theorem q109x1 (h : Hp) (S : Nat → PAL → Option Value) (r0 : Value) (r3 : Int) : P109x1 h S r0 r3 = G.stepAt packP unpackP evXV (regP env pf17 nt109 h) (finP env Try.f109.results.toList) (G.collect B109 A109 []) 1 S (PAL.v r0 (PAL.i r3 PAL.n)) := by kernel_rfl
theorem q109x0 (h : Hp) (S : Nat → PAL → Option Value) (r0 : Value) : P109x0 h S r0 = G.stepAt packP unpackP evXV (regP env pf17 nt109 h) (finP env Try.f109.results.toList) (G.collect B109 A109 []) 0 S (PAL.v r0 PAL.n) := by kernel_rfl
theorem t109 (h : Hp) (S : Nat → PAL → Option Value) : TabP (fun l al => G.stepAt packP unpackP evXV (regP env pf17 nt109 h) (finP env Try.f109.results.toList) (G.collect B109 A109 []) l S al) (T109 h S) := by
  unfold T109
  refine TabP.cons 0 (fun vs0 q e0 => ?_) ?_
  · obtain ⟨r0, vs1, rfl, e1⟩ := wV_some e0
    obtain ⟨rfl, ee⟩ := wN_some e1
    exact (q109x0 h S r0).symm.trans ee
  refine TabP.cons 1 (fun vs0 q e0 => ?_) ?_
  · obtain ⟨r0, vs1, rfl, e1⟩ := wV_some e0
    obtain ⟨r3, vs2, rfl, e2⟩ := wI_some e1
    obtain ⟨rfl, ee⟩ := wN_some e2
    exact (q109x1 h S r0 r3).symm.trans ee
  refine TabP.cons 2 (fun vs0 q e0 => ?_) ?_
  · obtain ⟨r0, vs1, rfl, e1⟩ := wV_some e0
    obtain ⟨r3, vs2, rfl, e2⟩ := wI_some e1
    obtain ⟨r4, vs3, rfl, e3⟩ := wB_some e2
    obtain ⟨r5, vs4, rfl, e4⟩ := wB_some e3
    obtain ⟨rfl, ee⟩ := wN_some e4
    exact (q109x2 h S r0 r3 r4 r5).symm.trans ee
  refine TabP.cons 3 (fun vs0 q e0 => ?_) ?_
  · obtain ⟨r0, vs1, rfl, e1⟩ := wV_some e0
    obtain ⟨r3, vs2, rfl, e2⟩ := wI_some e1
    obtain ⟨rfl, ee⟩ := wN_some e2
    exact (q109x3 h S r0 r3).symm.trans ee
  refine TabP.cons 4 (fun vs0 q e0 => ?_) ?_
  · 
    obtain ⟨rfl, ee⟩ := wN_some e0
    exact (q109x4 h S).symm.trans ee
  exact TabP.nil
theorem r109 : PSound Try.prog 109 F109 := fun_soundP (C := C0) ok0 (pf := pf17) pfok17 (fn := Try.f109) (body := B109) (kinds := [Kd.v]) (A := A109) (T := T109) (by kernel_rfl) (by kernel_rfl) (by kernel_rfl) (by kernel_rfl) (fun h S => t109 h S)
noncomputable def pf18 : PF := pfC 109 F109 pf17
theorem pfok18 : PfSound Try.prog pf18 := pfC_ok r109 pfok17
noncomputable def orc43 := orcP 109 F109 orc42
noncomputable def C43 : Cfg := cfg orc43
theorem ok43 : C43.Ok := orcP_ok (C := C42) ok42 r109
noncomputable def B110 : Code := (Try.f110.body).getD .skip
noncomputable def A110 : G.Ann (List KI) := (G.Ann.node (some (0, [KI.reg 0 (Kd.v), KI.reg 1 (Kd.v)])) G.Ann.nil (G.Ann.node none (G.Ann.node none G.Ann.nil (G.Ann.node none (G.Ann.node (some (1, [KI.reg 0 (Kd.v), KI.reg 1 (Kd.v), KI.reg 5 (Kd.i .i64)])) (G.Ann.node none (G.Ann.node none G.Ann.nil (G.Ann.node none G.Ann.nil G.Ann.nil)) (G.Ann.node none (G.Ann.node none (G.Ann.node none G.Ann.nil (G.Ann.node none (G.Ann.node none G.Ann.nil G.Ann.nil) G.Ann.nil)) G.Ann.nil) G.Ann.nil)) G.Ann.nil) G.Ann.nil)) (G.Ann.node (some (2, [])) G.Ann.nil G.Ann.nil)))
noncomputable def P110x2 (h : Hp) (S : Nat → PAL → Option Value) : Option Value :=
  some (Value.int .i64 (Int.negSucc 0))
noncomputable def P110x1 (h : Hp) (S : Nat → PAL → Option Value) (r0 : Value) (r1 : Value) (r5 : Int) : Option Value :=
  lenSK r0 fun i0 =>
  boolZ (ltZ r5 i0) fun b1 =>
  ifB b1
  (idxSK 1 r0 r5 fun v2 =>
  load1K h v2 fun v3 =>
  optK (binV env .eql 9 (Operand.tmp 15) (Operand.tmp 16) v3 r1) fun v4 =>
  boolK v4 fun b5 =>
  ifB b5
  (some (Value.int .i64 r5))
  (wrap64 (Int.add r5 (Int.ofNat 1)) fun i6 =>
  S 1 (PAL.v r0 (PAL.v r1 (PAL.i i6 PAL.n)))))
  (S 2 PAL.n)
noncomputable def P110x0 (h : Hp) (S : Nat → PAL → Option Value) (r0 : Value) (r1 : Value) : Option Value :=
  S 1 (PAL.v r0 (PAL.v r1 (PAL.i (Int.ofNat 0) PAL.n)))
noncomputable def T110 (h : Hp) (S : Nat → PAL → Option Value) : Nat → PAL → Option Value := tabPC 0 (wV fun r0 => wV fun r1 => wN (P110x0 h S r0 r1)) (tabPC 1 (wV fun r0 => wV fun r1 => wI fun r5 => wN (P110x1 h S r0 r1 r5)) (tabPC 2 (wN (P110x2 h S)) (tabPN)))
noncomputable def F110 (args : List Value) (h : Hp) : Option Value := plainO (packArgs [Kd.v, Kd.v] args fun al => G.rec' (T110 h) 1000000 0 al)
def nt110 : Nat := 2 + (19 - 2)
theorem q110x2 (h : Hp) (S : Nat → PAL → Option Value) : P110x2 h S = G.stepAt packP unpackP evXV (regP env pf18 nt110 h) (finP env Try.f110.results.toList) (G.collect B110 A110 []) 2 S PAL.n := by kernel_rfl
theorem q110x1 (h : Hp) (S : Nat → PAL → Option Value) (r0 : Value) (r1 : Value) (r5 : Int) : P110x1 h S r0 r1 r5 = G.stepAt packP unpackP evXV (regP env pf18 nt110 h) (finP env Try.f110.results.toList) (G.collect B110 A110 []) 1 S (PAL.v r0 (PAL.v r1 (PAL.i r5 PAL.n))) := by kernel_rfl
theorem q110x0 (h : Hp) (S : Nat → PAL → Option Value) (r0 : Value) (r1 : Value) : P110x0 h S r0 r1 = G.stepAt packP unpackP evXV (regP env pf18 nt110 h) (finP env Try.f110.results.toList) (G.collect B110 A110 []) 0 S (PAL.v r0 (PAL.v r1 PAL.n)) := by kernel_rfl
theorem t110 (h : Hp) (S : Nat → PAL → Option Value) : TabP (fun l al => G.stepAt packP unpackP evXV (regP env pf18 nt110 h) (finP env Try.f110.results.toList) (G.collect B110 A110 []) l S al) (T110 h S) := by
  unfold T110
  refine TabP.cons 0 (fun vs0 q e0 => ?_) ?_
  · obtain ⟨r0, vs1, rfl, e1⟩ := wV_some e0
    obtain ⟨r1, vs2, rfl, e2⟩ := wV_some e1
    obtain ⟨rfl, ee⟩ := wN_some e2
    exact (q110x0 h S r0 r1).symm.trans ee
  refine TabP.cons 1 (fun vs0 q e0 => ?_) ?_
  · obtain ⟨r0, vs1, rfl, e1⟩ := wV_some e0
    obtain ⟨r1, vs2, rfl, e2⟩ := wV_some e1
    obtain ⟨r5, vs3, rfl, e3⟩ := wI_some e2
    obtain ⟨rfl, ee⟩ := wN_some e3
    exact (q110x1 h S r0 r1 r5).symm.trans ee
  refine TabP.cons 2 (fun vs0 q e0 => ?_) ?_
  · 
    obtain ⟨rfl, ee⟩ := wN_some e0
    exact (q110x2 h S).symm.trans ee
  exact TabP.nil
theorem r110 : PSound Try.prog 110 F110 := fun_soundP (C := C0) ok0 (pf := pf18) pfok18 (fn := Try.f110) (body := B110) (kinds := [Kd.v, Kd.v]) (A := A110) (T := T110) (by kernel_rfl) (by kernel_rfl) (by kernel_rfl) (by kernel_rfl) (fun h S => t110 h S)
noncomputable def pf19 : PF := pfC 110 F110 pf18
theorem pfok19 : PfSound Try.prog pf19 := pfC_ok r110 pfok18
noncomputable def orc44 := orcP 110 F110 orc43
noncomputable def C44 : Cfg := cfg orc44
theorem ok44 : C44.Ok := orcP_ok (C := C43) ok43 r110
noncomputable def B88 : Code := (Try.f88.body).getD .skip
noncomputable def A88 : G.Ann (List KI) := (G.Ann.node (some (0, [KI.reg 0 (Kd.v), KI.reg 1 (Kd.v)])) G.Ann.nil (G.Ann.node none (G.Ann.node none G.Ann.nil (G.Ann.node none (G.Ann.node none G.Ann.nil G.Ann.nil) G.Ann.nil)) (G.Ann.node none (G.Ann.node none G.Ann.nil (G.Ann.node none (G.Ann.node none G.Ann.nil G.Ann.nil) G.Ann.nil)) (G.Ann.node none G.Ann.nil G.Ann.nil))))
noncomputable def P88x0 (h : Hp) (S : Nat → PAL → Option Value) (r0 : Value) (r1 : Value) : Option Value :=
  optK (F109 [r0] h) fun v0 =>
  boolK v0 fun b1 =>
  boolN b1 fun b2 =>
  ifB b2
  (some (Value.int .i64 (Int.ofNat 6)))
  (optK (F110 [r1, r0] h) fun v3 =>
  intK .i64 v3 fun i4 =>
  boolN (ltZ i4 (Int.ofNat 0)) fun b5 =>
  ifB b5
  (some (Value.int .i64 (Int.ofNat 5)))
  (some (Value.int .i64 (Int.ofNat 0))))
noncomputable def T88 (h : Hp) (S : Nat → PAL → Option Value) : Nat → PAL → Option Value := tabPC 0 (wV fun r0 => wV fun r1 => wN (P88x0 h S r0 r1)) (tabPN)
noncomputable def F88 (args : List Value) (h : Hp) : Option Value := plainO (packArgs [Kd.v, Kd.v] args fun al => G.rec' (T88 h) 1000000 0 al)
def nt88 : Nat := 2 + (12 - 2)
theorem q88x0 (h : Hp) (S : Nat → PAL → Option Value) (r0 : Value) (r1 : Value) : P88x0 h S r0 r1 = G.stepAt packP unpackP evXV (regP env pf19 nt88 h) (finP env Try.f88.results.toList) (G.collect B88 A88 []) 0 S (PAL.v r0 (PAL.v r1 PAL.n)) := by kernel_rfl
theorem t88 (h : Hp) (S : Nat → PAL → Option Value) : TabP (fun l al => G.stepAt packP unpackP evXV (regP env pf19 nt88 h) (finP env Try.f88.results.toList) (G.collect B88 A88 []) l S al) (T88 h S) := by
  unfold T88
  refine TabP.cons 0 (fun vs0 q e0 => ?_) ?_
  · obtain ⟨r0, vs1, rfl, e1⟩ := wV_some e0
    obtain ⟨r1, vs2, rfl, e2⟩ := wV_some e1
    obtain ⟨rfl, ee⟩ := wN_some e2
    exact (q88x0 h S r0 r1).symm.trans ee
  exact TabP.nil
theorem r88 : PSound Try.prog 88 F88 := fun_soundP (C := C0) ok0 (pf := pf19) pfok19 (fn := Try.f88) (body := B88) (kinds := [Kd.v, Kd.v]) (A := A88) (T := T88) (by kernel_rfl) (by kernel_rfl) (by kernel_rfl) (by kernel_rfl) (fun h S => t88 h S)
noncomputable def pf20 : PF := pfC 88 F88 pf19
theorem pfok20 : PfSound Try.prog pf20 := pfC_ok r88 pfok19
noncomputable def orc45 := orcP 88 F88 orc44
noncomputable def C45 : Cfg := cfg orc45
theorem ok45 : C45.Ok := orcP_ok (C := C44) ok44 r88
noncomputable def B89 : Code := (Try.f89.body).getD .skip
noncomputable def A89 : G.Ann (List KI) := (G.Ann.node (some (0, [KI.reg 0 (Kd.v), KI.reg 1 (Kd.v), KI.reg 2 (Kd.b)])) G.Ann.nil (G.Ann.node none (G.Ann.node none G.Ann.nil (G.Ann.node none (G.Ann.node none G.Ann.nil G.Ann.nil) G.Ann.nil)) (G.Ann.node none (G.Ann.node none G.Ann.nil (G.Ann.node none (G.Ann.node (some (1, [KI.reg 2 (Kd.b), KI.loc 3 3, KI.loc 4 4, KI.reg 7 (Kd.i .i64), KI.cells 3 [Kd.v, Kd.v, Kd.v, Kd.v], KI.cells 4 [Kd.v, Kd.v, Kd.i .i64]])) (G.Ann.node none (G.Ann.node none G.Ann.nil (G.Ann.node none G.Ann.nil G.Ann.nil)) (G.Ann.node none (G.Ann.node none (G.Ann.node none G.Ann.nil (G.Ann.node (some (2, [KI.reg 2 (Kd.b), KI.loc 3 3, KI.loc 4 4, KI.reg 7 (Kd.i .i64), KI.reg 8 (Kd.b), KI.cells 3 [Kd.v, Kd.v, Kd.v, Kd.v], KI.cells 4 [Kd.v, Kd.v, Kd.i .i64]])) G.Ann.nil (G.Ann.node none (G.Ann.node none G.Ann.nil G.Ann.nil) G.Ann.nil))) G.Ann.nil) (G.Ann.node (some (3, [KI.reg 2 (Kd.b), KI.loc 3 3, KI.loc 4 4, KI.reg 7 (Kd.i .i64), KI.cells 3 [Kd.v, Kd.v, Kd.v, Kd.v], KI.cells 4 [Kd.v, Kd.v, Kd.i .i64]])) G.Ann.nil G.Ann.nil))) G.Ann.nil) G.Ann.nil)) (G.Ann.node (some (8, [KI.reg 2 (Kd.b), KI.loc 4 4, KI.cells 4 [Kd.v, Kd.v, Kd.i .i64]])) (G.Ann.node none G.Ann.nil (G.Ann.node none (G.Ann.node (some (4, [KI.reg 2 (Kd.b), KI.loc 4 4, KI.reg 9 (Kd.i .i64), KI.cells 4 [Kd.v, Kd.v, Kd.i .i64]])) (G.Ann.node none (G.Ann.node none G.Ann.nil (G.Ann.node none G.Ann.nil G.Ann.nil)) (G.Ann.node none (G.Ann.node none (G.Ann.node none G.Ann.nil (G.Ann.node (some (5, [KI.reg 2 (Kd.b), KI.loc 4 4, KI.reg 9 (Kd.i .i64), KI.reg 10 (Kd.b), KI.cells 4 [Kd.v, Kd.v, Kd.i .i64]])) G.Ann.nil (G.Ann.node none (G.Ann.node none G.Ann.nil G.Ann.nil) G.Ann.nil))) G.Ann.nil) (G.Ann.node (some (6, [KI.reg 2 (Kd.b), KI.loc 4 4, KI.reg 9 (Kd.i .i64), KI.cells 4 [Kd.v, Kd.v, Kd.i .i64]])) G.Ann.nil G.Ann.nil))) G.Ann.nil) G.Ann.nil)) (G.Ann.node (some (7, [KI.loc 4 4, KI.cells 4 [Kd.v, Kd.v, Kd.i .i64]])) (G.Ann.node none G.Ann.nil (G.Ann.node none (G.Ann.node none G.Ann.nil G.Ann.nil) G.Ann.nil)) (G.Ann.node none G.Ann.nil G.Ann.nil))))))
noncomputable def P89x7 (h : Hp) (S : Nat → PAL → Option Value) (c4x0 : Value) (c4x1 : Value) (c4x2 : Int) : Option Value :=
  optK (F55 [(Value.int .i64 c4x2), (Value.int .i64 (Int.ofNat 0)), (Value.int .i64 (Int.ofNat 50))] h) fun v0 =>
  boolK v0 fun b1 =>
  boolN b1 fun b2 =>
  ifB b2
  (some (Value.int .i64 (Int.ofNat 7)))
  (some (Value.int .i64 (Int.ofNat 0)))
noncomputable def P89x6 (h : Hp) (S : Nat → PAL → Option Value) (r2 : Bool) (r9 : Int) (c4x0 : Value) (c4x1 : Value) (c4x2 : Int) : Option Value :=
  wrap64 (Int.add r9 (Int.ofNat 1)) fun i0 =>
  S 4 (PAL.b r2 (PAL.i i0 (PAL.v c4x0 (PAL.v c4x1 (PAL.i c4x2 PAL.n)))))
noncomputable def P89x5 (h : Hp) (S : Nat → PAL → Option Value) (r2 : Bool) (r9 : Int) (r10 : Bool) (c4x0 : Value) (c4x1 : Value) (c4x2 : Int) : Option Value :=
  boolN r10 fun b0 =>
  ifB b0
  (idxSK 1 c4x1 r9 fun v1 =>
  load1K h v1 fun v2 =>
  intK .i64 v2 fun i3 =>
  optK (F55 [(Value.int .i64 i3), (Value.int .i64 (Int.ofNat 0)), (Value.int .i64 (Int.ofNat 5))] h) fun v4 =>
  boolK v4 fun b5 =>
  boolN b5 fun b6 =>
  ifB b6
  (some (Value.int .i64 (Int.ofNat 7)))
  (S 6 (PAL.b r2 (PAL.i r9 (PAL.v c4x0 (PAL.v c4x1 (PAL.i c4x2 PAL.n)))))))
  (S 6 (PAL.b r2 (PAL.i r9 (PAL.v c4x0 (PAL.v c4x1 (PAL.i c4x2 PAL.n))))))
noncomputable def P89x4 (h : Hp) (S : Nat → PAL → Option Value) (r2 : Bool) (r9 : Int) (c4x0 : Value) (c4x1 : Value) (c4x2 : Int) : Option Value :=
  lenSK c4x1 fun i0 =>
  boolZ (ltZ r9 i0) fun b1 =>
  ifB b1
  (ifB r2
  (idxSK 1 c4x1 r9 fun v2 =>
  load1K h v2 fun v3 =>
  intK .i64 v3 fun i4 =>
  boolZ (eqZ i4 (Int.negSucc 0)) fun b5 =>
  S 5 (PAL.b r2 (PAL.i r9 (PAL.b b5 (PAL.v c4x0 (PAL.v c4x1 (PAL.i c4x2 PAL.n)))))))
  (S 5 (PAL.b r2 (PAL.i r9 (PAL.b false (PAL.v c4x0 (PAL.v c4x1 (PAL.i c4x2 PAL.n))))))))
  (S 7 (PAL.v c4x0 (PAL.v c4x1 (PAL.i c4x2 PAL.n))))
noncomputable def P89x8 (h : Hp) (S : Nat → PAL → Option Value) (r2 : Bool) (c4x0 : Value) (c4x1 : Value) (c4x2 : Int) : Option Value :=
  S 4 (PAL.b r2 (PAL.i (Int.ofNat 1) (PAL.v c4x0 (PAL.v c4x1 (PAL.i c4x2 PAL.n)))))
noncomputable def P89x3 (h : Hp) (S : Nat → PAL → Option Value) (r2 : Bool) (r7 : Int) (c3x0 : Value) (c3x1 : Value) (c3x2 : Value) (c3x3 : Value) (c4x0 : Value) (c4x1 : Value) (c4x2 : Int) : Option Value :=
  wrap64 (Int.add r7 (Int.ofNat 1)) fun i0 =>
  S 1 (PAL.b r2 (PAL.i i0 (PAL.v c3x0 (PAL.v c3x1 (PAL.v c3x2 (PAL.v c3x3 (PAL.v c4x0 (PAL.v c4x1 (PAL.i c4x2 PAL.n)))))))))
noncomputable def P89x2 (h : Hp) (S : Nat → PAL → Option Value) (r2 : Bool) (r7 : Int) (r8 : Bool) (c3x0 : Value) (c3x1 : Value) (c3x2 : Value) (c3x3 : Value) (c4x0 : Value) (c4x1 : Value) (c4x2 : Int) : Option Value :=
  boolZ (eqZ r7 (Int.ofNat 0)) fun b0 =>
  ifB b0
  (boolN r8 fun b1 =>
  ifB b1
  (idxSK 1 c4x1 r7 fun v2 =>
  load1K h v2 fun v3 =>
  intK .i64 v3 fun i4 =>
  lenSK c3x1 fun i5 =>
  wrap64 (Int.sub i5 (Int.ofNat 1)) fun i6 =>
  optK (F55 [(Value.int .i64 i4), (Value.int .i64 (Int.ofNat 0)), (Value.int .i64 i6)] h) fun v7 =>
  boolK v7 fun b8 =>
  boolN b8 fun b9 =>
  ifB b9
  (some (Value.int .i64 (Int.ofNat 4)))
  (S 3 (PAL.b r2 (PAL.i r7 (PAL.v c3x0 (PAL.v c3x1 (PAL.v c3x2 (PAL.v c3x3 (PAL.v c4x0 (PAL.v c4x1 (PAL.i c4x2 PAL.n)))))))))))
  (S 3 (PAL.b r2 (PAL.i r7 (PAL.v c3x0 (PAL.v c3x1 (PAL.v c3x2 (PAL.v c3x3 (PAL.v c4x0 (PAL.v c4x1 (PAL.i c4x2 PAL.n)))))))))))
  (S 3 (PAL.b r2 (PAL.i r7 (PAL.v c3x0 (PAL.v c3x1 (PAL.v c3x2 (PAL.v c3x3 (PAL.v c4x0 (PAL.v c4x1 (PAL.i c4x2 PAL.n))))))))))
noncomputable def P89x1 (h : Hp) (S : Nat → PAL → Option Value) (r2 : Bool) (r7 : Int) (c3x0 : Value) (c3x1 : Value) (c3x2 : Value) (c3x3 : Value) (c4x0 : Value) (c4x1 : Value) (c4x2 : Int) : Option Value :=
  lenSK c4x1 fun i0 =>
  boolZ (ltZ r7 i0) fun b1 =>
  ifB b1
  (ifB r2
  (idxSK 1 c4x1 r7 fun v2 =>
  load1K h v2 fun v3 =>
  intK .i64 v3 fun i4 =>
  boolZ (eqZ i4 (Int.negSucc 0)) fun b5 =>
  S 2 (PAL.b r2 (PAL.i r7 (PAL.b b5 (PAL.v c3x0 (PAL.v c3x1 (PAL.v c3x2 (PAL.v c3x3 (PAL.v c4x0 (PAL.v c4x1 (PAL.i c4x2 PAL.n)))))))))))
  (S 2 (PAL.b r2 (PAL.i r7 (PAL.b false (PAL.v c3x0 (PAL.v c3x1 (PAL.v c3x2 (PAL.v c3x3 (PAL.v c4x0 (PAL.v c4x1 (PAL.i c4x2 PAL.n))))))))))))
  (S 8 (PAL.b r2 (PAL.v c4x0 (PAL.v c4x1 (PAL.i c4x2 PAL.n)))))
noncomputable def P89x0 (h : Hp) (S : Nat → PAL → Option Value) (r0 : Value) (r1 : Value) (r2 : Bool) : Option Value :=
  forceL (Array.toList (Value.cells r0)) fun c0 =>
  forceL (Array.toList (Value.cells r1)) fun c1 =>
  nthR c1 1 fun v2 =>
  lenSK v2 fun i3 =>
  nthR c0 0 fun v4 =>
  lenSK v4 fun i5 =>
  boolN (eqZ i3 i5) fun b6 =>
  ifB b6
  (some (Value.int .i64 (Int.ofNat 3)))
  (unconsK c0 fun a7 c7 =>
  unconsK c7 fun a8 c8 =>
  unconsK c8 fun a9 c9 =>
  unconsK c9 fun a10 c10 =>
  nilK c10 (unconsK c1 fun a11 c11 =>
  unconsK c11 fun a12 c12 =>
  unconsK c12 fun a13 c13 =>
  intK .i64 a13 fun i14 =>
  nilK c13 (S 1 (PAL.b r2 (PAL.i (Int.ofNat 0) (PAL.v a7 (PAL.v a8 (PAL.v a9 (PAL.v a10 (PAL.v a11 (PAL.v a12 (PAL.i i14 PAL.n))))))))))))
noncomputable def T89 (h : Hp) (S : Nat → PAL → Option Value) : Nat → PAL → Option Value := tabPC 0 (wV fun r0 => wV fun r1 => wB fun r2 => wN (P89x0 h S r0 r1 r2)) (tabPC 1 (wB fun r2 => wI fun r7 => wV fun c3x0 => wV fun c3x1 => wV fun c3x2 => wV fun c3x3 => wV fun c4x0 => wV fun c4x1 => wI fun c4x2 => wN (P89x1 h S r2 r7 c3x0 c3x1 c3x2 c3x3 c4x0 c4x1 c4x2)) (tabPC 2 (wB fun r2 => wI fun r7 => wB fun r8 => wV fun c3x0 => wV fun c3x1 => wV fun c3x2 => wV fun c3x3 => wV fun c4x0 => wV fun c4x1 => wI fun c4x2 => wN (P89x2 h S r2 r7 r8 c3x0 c3x1 c3x2 c3x3 c4x0 c4x1 c4x2)) (tabPC 3 (wB fun r2 => wI fun r7 => wV fun c3x0 => wV fun c3x1 => wV fun c3x2 => wV fun c3x3 => wV fun c4x0 => wV fun c4x1 => wI fun c4x2 => wN (P89x3 h S r2 r7 c3x0 c3x1 c3x2 c3x3 c4x0 c4x1 c4x2)) (tabPC 8 (wB fun r2 => wV fun c4x0 => wV fun c4x1 => wI fun c4x2 => wN (P89x8 h S r2 c4x0 c4x1 c4x2)) (tabPC 4 (wB fun r2 => wI fun r9 => wV fun c4x0 => wV fun c4x1 => wI fun c4x2 => wN (P89x4 h S r2 r9 c4x0 c4x1 c4x2)) (tabPC 5 (wB fun r2 => wI fun r9 => wB fun r10 => wV fun c4x0 => wV fun c4x1 => wI fun c4x2 => wN (P89x5 h S r2 r9 r10 c4x0 c4x1 c4x2)) (tabPC 6 (wB fun r2 => wI fun r9 => wV fun c4x0 => wV fun c4x1 => wI fun c4x2 => wN (P89x6 h S r2 r9 c4x0 c4x1 c4x2)) (tabPC 7 (wV fun c4x0 => wV fun c4x1 => wI fun c4x2 => wN (P89x7 h S c4x0 c4x1 c4x2)) (tabPN)))))))))
noncomputable def F89 (args : List Value) (h : Hp) : Option Value := plainO (packArgs [Kd.v, Kd.v, Kd.b] args fun al => G.rec' (T89 h) 1000000 0 al)
def nt89 : Nat := 3 + (84 - 3)
theorem q89x7 (h : Hp) (S : Nat → PAL → Option Value) (c4x0 : Value) (c4x1 : Value) (c4x2 : Int) : P89x7 h S c4x0 c4x1 c4x2 = G.stepAt packP unpackP evXV (regP env pf20 nt89 h) (finP env Try.f89.results.toList) (G.collect B89 A89 []) 7 S (PAL.v c4x0 (PAL.v c4x1 (PAL.i c4x2 PAL.n))) := by kernel_rfl
theorem q89x6 (h : Hp) (S : Nat → PAL → Option Value) (r2 : Bool) (r9 : Int) (c4x0 : Value) (c4x1 : Value) (c4x2 : Int) : P89x6 h S r2 r9 c4x0 c4x1 c4x2 = G.stepAt packP unpackP evXV (regP env pf20 nt89 h) (finP env Try.f89.results.toList) (G.collect B89 A89 []) 6 S (PAL.b r2 (PAL.i r9 (PAL.v c4x0 (PAL.v c4x1 (PAL.i c4x2 PAL.n))))) := by kernel_rfl
theorem q89x5 (h : Hp) (S : Nat → PAL → Option Value) (r2 : Bool) (r9 : Int) (r10 : Bool) (c4x0 : Value) (c4x1 : Value) (c4x2 : Int) : P89x5 h S r2 r9 r10 c4x0 c4x1 c4x2 = G.stepAt packP unpackP evXV (regP env pf20 nt89 h) (finP env Try.f89.results.toList) (G.collect B89 A89 []) 5 S (PAL.b r2 (PAL.i r9 (PAL.b r10 (PAL.v c4x0 (PAL.v c4x1 (PAL.i c4x2 PAL.n)))))) := by kernel_rfl
theorem q89x4 (h : Hp) (S : Nat → PAL → Option Value) (r2 : Bool) (r9 : Int) (c4x0 : Value) (c4x1 : Value) (c4x2 : Int) : P89x4 h S r2 r9 c4x0 c4x1 c4x2 = G.stepAt packP unpackP evXV (regP env pf20 nt89 h) (finP env Try.f89.results.toList) (G.collect B89 A89 []) 4 S (PAL.b r2 (PAL.i r9 (PAL.v c4x0 (PAL.v c4x1 (PAL.i c4x2 PAL.n))))) := by kernel_rfl
theorem q89x8 (h : Hp) (S : Nat → PAL → Option Value) (r2 : Bool) (c4x0 : Value) (c4x1 : Value) (c4x2 : Int) : P89x8 h S r2 c4x0 c4x1 c4x2 = G.stepAt packP unpackP evXV (regP env pf20 nt89 h) (finP env Try.f89.results.toList) (G.collect B89 A89 []) 8 S (PAL.b r2 (PAL.v c4x0 (PAL.v c4x1 (PAL.i c4x2 PAL.n)))) := by kernel_rfl
theorem q89x3 (h : Hp) (S : Nat → PAL → Option Value) (r2 : Bool) (r7 : Int) (c3x0 : Value) (c3x1 : Value) (c3x2 : Value) (c3x3 : Value) (c4x0 : Value) (c4x1 : Value) (c4x2 : Int) : P89x3 h S r2 r7 c3x0 c3x1 c3x2 c3x3 c4x0 c4x1 c4x2 = G.stepAt packP unpackP evXV (regP env pf20 nt89 h) (finP env Try.f89.results.toList) (G.collect B89 A89 []) 3 S (PAL.b r2 (PAL.i r7 (PAL.v c3x0 (PAL.v c3x1 (PAL.v c3x2 (PAL.v c3x3 (PAL.v c4x0 (PAL.v c4x1 (PAL.i c4x2 PAL.n))))))))) := by kernel_rfl
theorem q89x2 (h : Hp) (S : Nat → PAL → Option Value) (r2 : Bool) (r7 : Int) (r8 : Bool) (c3x0 : Value) (c3x1 : Value) (c3x2 : Value) (c3x3 : Value) (c4x0 : Value) (c4x1 : Value) (c4x2 : Int) : P89x2 h S r2 r7 r8 c3x0 c3x1 c3x2 c3x3 c4x0 c4x1 c4x2 = G.stepAt packP unpackP evXV (regP env pf20 nt89 h) (finP env Try.f89.results.toList) (G.collect B89 A89 []) 2 S (PAL.b r2 (PAL.i r7 (PAL.b r8 (PAL.v c3x0 (PAL.v c3x1 (PAL.v c3x2 (PAL.v c3x3 (PAL.v c4x0 (PAL.v c4x1 (PAL.i c4x2 PAL.n)))))))))) := by kernel_rfl
theorem q89x1 (h : Hp) (S : Nat → PAL → Option Value) (r2 : Bool) (r7 : Int) (c3x0 : Value) (c3x1 : Value) (c3x2 : Value) (c3x3 : Value) (c4x0 : Value) (c4x1 : Value) (c4x2 : Int) : P89x1 h S r2 r7 c3x0 c3x1 c3x2 c3x3 c4x0 c4x1 c4x2 = G.stepAt packP unpackP evXV (regP env pf20 nt89 h) (finP env Try.f89.results.toList) (G.collect B89 A89 []) 1 S (PAL.b r2 (PAL.i r7 (PAL.v c3x0 (PAL.v c3x1 (PAL.v c3x2 (PAL.v c3x3 (PAL.v c4x0 (PAL.v c4x1 (PAL.i c4x2 PAL.n))))))))) := by kernel_rfl
theorem q89x0 (h : Hp) (S : Nat → PAL → Option Value) (r0 : Value) (r1 : Value) (r2 : Bool) : P89x0 h S r0 r1 r2 = G.stepAt packP unpackP evXV (regP env pf20 nt89 h) (finP env Try.f89.results.toList) (G.collect B89 A89 []) 0 S (PAL.v r0 (PAL.v r1 (PAL.b r2 PAL.n))) := by kernel_rfl
theorem t89 (h : Hp) (S : Nat → PAL → Option Value) : TabP (fun l al => G.stepAt packP unpackP evXV (regP env pf20 nt89 h) (finP env Try.f89.results.toList) (G.collect B89 A89 []) l S al) (T89 h S) := by
  unfold T89
  refine TabP.cons 0 (fun vs0 q e0 => ?_) ?_
  · obtain ⟨r0, vs1, rfl, e1⟩ := wV_some e0
    obtain ⟨r1, vs2, rfl, e2⟩ := wV_some e1
    obtain ⟨r2, vs3, rfl, e3⟩ := wB_some e2
    obtain ⟨rfl, ee⟩ := wN_some e3
    exact (q89x0 h S r0 r1 r2).symm.trans ee
  refine TabP.cons 1 (fun vs0 q e0 => ?_) ?_
  · obtain ⟨r2, vs1, rfl, e1⟩ := wB_some e0
    obtain ⟨r7, vs2, rfl, e2⟩ := wI_some e1
    obtain ⟨c3x0, vs3, rfl, e3⟩ := wV_some e2
    obtain ⟨c3x1, vs4, rfl, e4⟩ := wV_some e3
    obtain ⟨c3x2, vs5, rfl, e5⟩ := wV_some e4
    obtain ⟨c3x3, vs6, rfl, e6⟩ := wV_some e5
    obtain ⟨c4x0, vs7, rfl, e7⟩ := wV_some e6
    obtain ⟨c4x1, vs8, rfl, e8⟩ := wV_some e7
    obtain ⟨c4x2, vs9, rfl, e9⟩ := wI_some e8
    obtain ⟨rfl, ee⟩ := wN_some e9
    exact (q89x1 h S r2 r7 c3x0 c3x1 c3x2 c3x3 c4x0 c4x1 c4x2).symm.trans ee
  refine TabP.cons 2 (fun vs0 q e0 => ?_) ?_
  · obtain ⟨r2, vs1, rfl, e1⟩ := wB_some e0
    obtain ⟨r7, vs2, rfl, e2⟩ := wI_some e1
    obtain ⟨r8, vs3, rfl, e3⟩ := wB_some e2
    obtain ⟨c3x0, vs4, rfl, e4⟩ := wV_some e3
    obtain ⟨c3x1, vs5, rfl, e5⟩ := wV_some e4
    obtain ⟨c3x2, vs6, rfl, e6⟩ := wV_some e5
    obtain ⟨c3x3, vs7, rfl, e7⟩ := wV_some e6
    obtain ⟨c4x0, vs8, rfl, e8⟩ := wV_some e7
    obtain ⟨c4x1, vs9, rfl, e9⟩ := wV_some e8
    obtain ⟨c4x2, vs10, rfl, e10⟩ := wI_some e9
    obtain ⟨rfl, ee⟩ := wN_some e10
    exact (q89x2 h S r2 r7 r8 c3x0 c3x1 c3x2 c3x3 c4x0 c4x1 c4x2).symm.trans ee
  refine TabP.cons 3 (fun vs0 q e0 => ?_) ?_
  · obtain ⟨r2, vs1, rfl, e1⟩ := wB_some e0
    obtain ⟨r7, vs2, rfl, e2⟩ := wI_some e1
    obtain ⟨c3x0, vs3, rfl, e3⟩ := wV_some e2
    obtain ⟨c3x1, vs4, rfl, e4⟩ := wV_some e3
    obtain ⟨c3x2, vs5, rfl, e5⟩ := wV_some e4
    obtain ⟨c3x3, vs6, rfl, e6⟩ := wV_some e5
    obtain ⟨c4x0, vs7, rfl, e7⟩ := wV_some e6
    obtain ⟨c4x1, vs8, rfl, e8⟩ := wV_some e7
    obtain ⟨c4x2, vs9, rfl, e9⟩ := wI_some e8
    obtain ⟨rfl, ee⟩ := wN_some e9
    exact (q89x3 h S r2 r7 c3x0 c3x1 c3x2 c3x3 c4x0 c4x1 c4x2).symm.trans ee
  refine TabP.cons 8 (fun vs0 q e0 => ?_) ?_
  · obtain ⟨r2, vs1, rfl, e1⟩ := wB_some e0
    obtain ⟨c4x0, vs2, rfl, e2⟩ := wV_some e1
    obtain ⟨c4x1, vs3, rfl, e3⟩ := wV_some e2
    obtain ⟨c4x2, vs4, rfl, e4⟩ := wI_some e3
    obtain ⟨rfl, ee⟩ := wN_some e4
    exact (q89x8 h S r2 c4x0 c4x1 c4x2).symm.trans ee
  refine TabP.cons 4 (fun vs0 q e0 => ?_) ?_
  · obtain ⟨r2, vs1, rfl, e1⟩ := wB_some e0
    obtain ⟨r9, vs2, rfl, e2⟩ := wI_some e1
    obtain ⟨c4x0, vs3, rfl, e3⟩ := wV_some e2
    obtain ⟨c4x1, vs4, rfl, e4⟩ := wV_some e3
    obtain ⟨c4x2, vs5, rfl, e5⟩ := wI_some e4
    obtain ⟨rfl, ee⟩ := wN_some e5
    exact (q89x4 h S r2 r9 c4x0 c4x1 c4x2).symm.trans ee
  refine TabP.cons 5 (fun vs0 q e0 => ?_) ?_
  · obtain ⟨r2, vs1, rfl, e1⟩ := wB_some e0
    obtain ⟨r9, vs2, rfl, e2⟩ := wI_some e1
    obtain ⟨r10, vs3, rfl, e3⟩ := wB_some e2
    obtain ⟨c4x0, vs4, rfl, e4⟩ := wV_some e3
    obtain ⟨c4x1, vs5, rfl, e5⟩ := wV_some e4
    obtain ⟨c4x2, vs6, rfl, e6⟩ := wI_some e5
    obtain ⟨rfl, ee⟩ := wN_some e6
    exact (q89x5 h S r2 r9 r10 c4x0 c4x1 c4x2).symm.trans ee
  refine TabP.cons 6 (fun vs0 q e0 => ?_) ?_
  · obtain ⟨r2, vs1, rfl, e1⟩ := wB_some e0
    obtain ⟨r9, vs2, rfl, e2⟩ := wI_some e1
    obtain ⟨c4x0, vs3, rfl, e3⟩ := wV_some e2
    obtain ⟨c4x1, vs4, rfl, e4⟩ := wV_some e3
    obtain ⟨c4x2, vs5, rfl, e5⟩ := wI_some e4
    obtain ⟨rfl, ee⟩ := wN_some e5
    exact (q89x6 h S r2 r9 c4x0 c4x1 c4x2).symm.trans ee
  refine TabP.cons 7 (fun vs0 q e0 => ?_) ?_
  · obtain ⟨c4x0, vs1, rfl, e1⟩ := wV_some e0
    obtain ⟨c4x1, vs2, rfl, e2⟩ := wV_some e1
    obtain ⟨c4x2, vs3, rfl, e3⟩ := wI_some e2
    obtain ⟨rfl, ee⟩ := wN_some e3
    exact (q89x7 h S c4x0 c4x1 c4x2).symm.trans ee
  exact TabP.nil
theorem r89 : PSound Try.prog 89 F89 := fun_soundP (C := C0) ok0 (pf := pf20) pfok20 (fn := Try.f89) (body := B89) (kinds := [Kd.v, Kd.v, Kd.b]) (A := A89) (T := T89) (by kernel_rfl) (by kernel_rfl) (by kernel_rfl) (by kernel_rfl) (fun h S => t89 h S)
noncomputable def pf21 : PF := pfC 89 F89 pf20
theorem pfok21 : PfSound Try.prog pf21 := pfC_ok r89 pfok20
noncomputable def orc46 := orcP 89 F89 orc45
noncomputable def C46 : Cfg := cfg orc46
theorem ok46 : C46.Ok := orcP_ok (C := C45) ok45 r89
noncomputable def B51 : Code := (Try.f51.body).getD .skip
def A51 : Ann := (Ann.node (some (0, [(0, Kd.v), (1, Kd.v), (2, Kd.i .i64), (3, Kd.b)])) Ann.nil (Ann.node none (Ann.node none Ann.nil (Ann.node none (Ann.node none Ann.nil Ann.nil) Ann.nil)) (Ann.node none Ann.nil (Ann.node none (Ann.node none Ann.nil (Ann.node none (Ann.node (some (1, [(1, Kd.v), (3, Kd.b), (4, Kd.v), (10, Kd.v), (11, Kd.i .i64)])) (Ann.node none (Ann.node none Ann.nil (Ann.node none Ann.nil Ann.nil)) (Ann.node none (Ann.node none (Ann.node none Ann.nil (Ann.node none (Ann.node none Ann.nil (Ann.node none Ann.nil Ann.nil)) (Ann.node (some (2, [(1, Kd.v), (3, Kd.b), (4, Kd.v), (10, Kd.v), (11, Kd.i .i64), (12, Kd.i .i64)])) (Ann.node none Ann.nil (Ann.node none (Ann.node none Ann.nil Ann.nil) Ann.nil)) Ann.nil))) Ann.nil) (Ann.node (some (3, [(1, Kd.v), (3, Kd.b), (4, Kd.v), (10, Kd.v), (11, Kd.i .i64)])) Ann.nil Ann.nil))) Ann.nil) Ann.nil)) (Ann.node (some (4, [])) Ann.nil Ann.nil)))))
noncomputable def P51x4 (S : Sg) (h : Hp) : CRes :=
  some (Value.tuple (List.toArray [(Value.int .i64 (Int.ofNat 0)), (Value.int .i64 (Int.ofNat 0))]), h)
noncomputable def P51x3 (S : Sg) (r1 : Value) (r3 : Bool) (r4 : Value) (r10 : Value) (r11 : Int) (h : Hp) : CRes :=
  wrap64 (Int.add r11 (Int.ofNat 1)) fun i0 =>
  S 1 (AL.v r1 (AL.b r3 (AL.v r4 (AL.v r10 (AL.i i0 AL.n))))) h
noncomputable def P51x2 (S : Sg) (r1 : Value) (r3 : Bool) (r4 : Value) (r10 : Value) (r11 : Int) (r12 : Int) (h : Hp) : CRes :=
  boolN (eqZ r12 (Int.ofNat 0)) fun b0 =>
  ifB b0
  (some (Value.tuple (List.toArray [(Value.int .i64 r11), (Value.int .i64 r12)]), h))
  (idxSK 3 r1 r11 fun v1 =>
  ptrAddK 0 v1 fun v2 =>
  load1K h v2 fun v3 =>
  pairK (buildSliceV env h 120 1 (List.toArray [(0, v3)])) fun v4 h4 =>
  pairK (appendV env h4 #[120, 120] (List.toArray [r10, v4])) fun v5 h5 =>
  S 3 (AL.v r1 (AL.b r3 (AL.v r4 (AL.v v5 (AL.i r11 AL.n))))) h5)
noncomputable def P51x1 (S : Sg) (r1 : Value) (r3 : Bool) (r4 : Value) (r10 : Value) (r11 : Int) (h : Hp) : CRes :=
  lenSK r1 fun i0 =>
  boolZ (ltZ r11 i0) fun b1 =>
  ifB b1
  (idxSK 3 r1 r11 fun v2 =>
  ptrAddK 0 v2 fun v3 =>
  load1K h v3 fun v4 =>
  pairK (optK (F88 [v4, r10] h) fun v => some (v, h)) fun v5 h5 =>
  intK .i64 v5 fun i6 =>
  boolZ (eqZ i6 (Int.ofNat 0)) fun b7 =>
  ifB b7
  (loadNK 4 h5 r4 fun v8 =>
  idxSK 3 r1 r11 fun v9 =>
  loadNK 3 h5 v9 fun v10 =>
  pairK (optK (F89 [v8, v10, (Value.bool r3)] h5) fun v => some (v, h5)) fun v11 h11 =>
  intK .i64 v11 fun i12 =>
  S 2 (AL.v r1 (AL.b r3 (AL.v r4 (AL.v r10 (AL.i r11 (AL.i i12 AL.n)))))) h11)
  (S 2 (AL.v r1 (AL.b r3 (AL.v r4 (AL.v r10 (AL.i r11 (AL.i i6 AL.n)))))) h5))
  (S 4 AL.n h)
noncomputable def P51x0 (S : Sg) (r0 : Value) (r1 : Value) (r2 : Int) (r3 : Bool) (h : Hp) : CRes :=
  allocK h 25 (Array.toList (Value.cells r0)) fun a0 h0 =>
  lenSK r1 fun i1 =>
  boolZ (ltZ r2 i1) fun b2 =>
  ifB b2
  (some (Value.tuple (List.toArray [(Value.int .i64 (Int.ofNat 0)), (Value.int .i64 (Int.ofNat 3))]), h0))
  (S 1 (AL.v r1 (AL.b r3 (AL.v a0 (AL.v (Value.slice none 0 0) (AL.i (Int.ofNat 0) AL.n))))) h0)
noncomputable def T51 (S : Sg) : Sg := tabC 0 (uV fun r0 => uV fun r1 => uI fun r2 => uB fun r3 => uN fun h => P51x0 S r0 r1 r2 r3 h) (tabC 1 (uV fun r1 => uB fun r3 => uV fun r4 => uV fun r10 => uI fun r11 => uN fun h => P51x1 S r1 r3 r4 r10 r11 h) (tabC 2 (uV fun r1 => uB fun r3 => uV fun r4 => uV fun r10 => uI fun r11 => uI fun r12 => uN fun h => P51x2 S r1 r3 r4 r10 r11 r12 h) (tabC 3 (uV fun r1 => uB fun r3 => uV fun r4 => uV fun r10 => uI fun r11 => uN fun h => P51x3 S r1 r3 r4 r10 r11 h) (tabC 4 (uN fun h => P51x4 S  h) (tabN)))))
noncomputable def F51 (args : List Value) (h : Hp) : CRes := packVals [Kd.v, Kd.v, Kd.i .i64, Kd.b] args fun al => rec' T51 1000000 0 al h
def nt51 : Nat := 4 + (51 - 4)
theorem q51x4 (S : Sg) (h : Hp) : P51x4 S  h = stepAt (regK env orc46 (nt51)) (finK env Try.f51.results.toList) (collect B51 A51 []) 4 S AL.n h := by kernel_rfl
theorem q51x3 (S : Sg) (r1 : Value) (r3 : Bool) (r4 : Value) (r10 : Value) (r11 : Int) (h : Hp) : P51x3 S r1 r3 r4 r10 r11 h = stepAt (regK env orc46 (nt51)) (finK env Try.f51.results.toList) (collect B51 A51 []) 3 S (AL.v r1 (AL.b r3 (AL.v r4 (AL.v r10 (AL.i r11 AL.n))))) h := by kernel_rfl
theorem q51x2 (S : Sg) (r1 : Value) (r3 : Bool) (r4 : Value) (r10 : Value) (r11 : Int) (r12 : Int) (h : Hp) : P51x2 S r1 r3 r4 r10 r11 r12 h = stepAt (regK env orc46 (nt51)) (finK env Try.f51.results.toList) (collect B51 A51 []) 2 S (AL.v r1 (AL.b r3 (AL.v r4 (AL.v r10 (AL.i r11 (AL.i r12 AL.n)))))) h := by kernel_rfl
theorem q51x1 (S : Sg) (r1 : Value) (r3 : Bool) (r4 : Value) (r10 : Value) (r11 : Int) (h : Hp) : P51x1 S r1 r3 r4 r10 r11 h = stepAt (regK env orc46 (nt51)) (finK env Try.f51.results.toList) (collect B51 A51 []) 1 S (AL.v r1 (AL.b r3 (AL.v r4 (AL.v r10 (AL.i r11 AL.n))))) h := by kernel_rfl
theorem q51x0 (S : Sg) (r0 : Value) (r1 : Value) (r2 : Int) (r3 : Bool) (h : Hp) : P51x0 S r0 r1 r2 r3 h = stepAt (regK env orc46 (nt51)) (finK env Try.f51.results.toList) (collect B51 A51 []) 0 S (AL.v r0 (AL.v r1 (AL.i r2 (AL.b r3 AL.n)))) h := by kernel_rfl
theorem t51 (S : Sg) : Tab (fun l vs h => stepAt (regK env orc46 nt51) (finK env Try.f51.results.toList) (collect B51 A51 []) l S vs h) (T51 S) := by
  unfold T51
  refine Tab.cons 0 (fun vs0 h q e0 => ?_) ?_
  · obtain ⟨r0, vs1, rfl, e1⟩ := uV_some e0
    obtain ⟨r1, vs2, rfl, e2⟩ := uV_some e1
    obtain ⟨r2, vs3, rfl, e3⟩ := uI_some e2
    obtain ⟨r3, vs4, rfl, e4⟩ := uB_some e3
    obtain ⟨rfl, ee⟩ := uN_some e4
    exact (q51x0 S r0 r1 r2 r3 h).symm.trans ee
  refine Tab.cons 1 (fun vs0 h q e0 => ?_) ?_
  · obtain ⟨r1, vs1, rfl, e1⟩ := uV_some e0
    obtain ⟨r3, vs2, rfl, e2⟩ := uB_some e1
    obtain ⟨r4, vs3, rfl, e3⟩ := uV_some e2
    obtain ⟨r10, vs4, rfl, e4⟩ := uV_some e3
    obtain ⟨r11, vs5, rfl, e5⟩ := uI_some e4
    obtain ⟨rfl, ee⟩ := uN_some e5
    exact (q51x1 S r1 r3 r4 r10 r11 h).symm.trans ee
  refine Tab.cons 2 (fun vs0 h q e0 => ?_) ?_
  · obtain ⟨r1, vs1, rfl, e1⟩ := uV_some e0
    obtain ⟨r3, vs2, rfl, e2⟩ := uB_some e1
    obtain ⟨r4, vs3, rfl, e3⟩ := uV_some e2
    obtain ⟨r10, vs4, rfl, e4⟩ := uV_some e3
    obtain ⟨r11, vs5, rfl, e5⟩ := uI_some e4
    obtain ⟨r12, vs6, rfl, e6⟩ := uI_some e5
    obtain ⟨rfl, ee⟩ := uN_some e6
    exact (q51x2 S r1 r3 r4 r10 r11 r12 h).symm.trans ee
  refine Tab.cons 3 (fun vs0 h q e0 => ?_) ?_
  · obtain ⟨r1, vs1, rfl, e1⟩ := uV_some e0
    obtain ⟨r3, vs2, rfl, e2⟩ := uB_some e1
    obtain ⟨r4, vs3, rfl, e3⟩ := uV_some e2
    obtain ⟨r10, vs4, rfl, e4⟩ := uV_some e3
    obtain ⟨r11, vs5, rfl, e5⟩ := uI_some e4
    obtain ⟨rfl, ee⟩ := uN_some e5
    exact (q51x3 S r1 r3 r4 r10 r11 h).symm.trans ee
  refine Tab.cons 4 (fun vs0 h q e0 => ?_) ?_
  · 
    obtain ⟨rfl, ee⟩ := uN_some e0
    exact (q51x4 S  h).symm.trans ee
  exact Tab.nil
theorem r51 : ∀ args h v h', F51 args h = some (v, h') → Runs (C46) (.call 51 args.toArray h) (.ret v h') := by
  intro args h v h' e
  exact fun_sound (C := C46) (fn := Try.f51) (body := B51) (np := 4) (A := A51) (T := T51) (kinds := [Kd.v, Kd.v, Kd.i .i64, Kd.b]) (by kernel_rfl) (by kernel_rfl) (by kernel_rfl) (by kernel_rfl) (regK_ok env_ok) (by kernel_rfl) (fun S => t51 S) e
noncomputable def orc47 := orcQ 51 F51 orc46
noncomputable def C47 : Cfg := cfg orc47
theorem ok47 : C47.Ok := orcQ_ok (C := C46) ok46 r51
noncomputable def B17 : Code := (Try.f17.body).getD .skip
def A17 : Ann := (Ann.node (some (0, [(0, Kd.v)])) Ann.nil (Ann.node none Ann.nil (Ann.node none (Ann.node none Ann.nil (Ann.node none (Ann.node none Ann.nil Ann.nil) Ann.nil)) (Ann.node none Ann.nil (Ann.node none (Ann.node none Ann.nil (Ann.node none (Ann.node none Ann.nil Ann.nil) Ann.nil)) (Ann.node none Ann.nil (Ann.node none (Ann.node none Ann.nil (Ann.node none (Ann.node none Ann.nil Ann.nil) Ann.nil)) (Ann.node none Ann.nil (Ann.node none (Ann.node none Ann.nil (Ann.node none (Ann.node none Ann.nil Ann.nil) Ann.nil)) (Ann.node none Ann.nil Ann.nil))))))))))
noncomputable def P17x0 (S : Sg) (r0 : Value) (h : Hp) : CRes :=
  allocK h 25 (Array.toList (Value.cells r0)) fun a0 h0 =>
  ptrAddK 0 a0 fun v1 =>
  load1K h0 v1 fun v2 =>
  pairK (optK (F50 [v2, (Value.int .i64 (Int.ofNat 4)), (Value.int .i64 (Int.ofNat 100))] h0) fun v => some (v, h0)) fun v3 h3 =>
  extK v3 0 fun v4 =>
  intK .i64 v4 fun i5 =>
  extK v3 1 fun v6 =>
  intK .i64 v6 fun i7 =>
  boolN (eqZ i7 (Int.ofNat 0)) fun b8 =>
  ifB b8
  (some (Value.tuple (List.toArray [(Value.int .i64 (Int.ofNat 1)), (Value.int .i64 i5), (Value.int .i64 i7)]), h3))
  (ptrAddK 1 a0 fun v9 =>
  load1K h3 v9 fun v10 =>
  pairK (optK (F50 [v10, (Value.int .i64 (Int.ofNat 4)), (Value.int .i64 (Int.ofNat 50))] h3) fun v => some (v, h3)) fun v11 h11 =>
  extK v11 0 fun v12 =>
  intK .i64 v12 fun i13 =>
  extK v11 1 fun v14 =>
  intK .i64 v14 fun i15 =>
  boolN (eqZ i15 (Int.ofNat 0)) fun b16 =>
  ifB b16
  (some (Value.tuple (List.toArray [(Value.int .i64 (Int.ofNat 2)), (Value.int .i64 i13), (Value.int .i64 i15)]), h11))
  (loadNK 4 h11 a0 fun v17 =>
  ptrAddK 2 a0 fun v18 =>
  load1K h11 v18 fun v19 =>
  pairK (callQ F51 [v17, v19, (Value.int .i64 (Int.ofNat 6)), (Value.bool false)] h11) fun v20 h20 =>
  extK v20 0 fun v21 =>
  intK .i64 v21 fun i22 =>
  extK v20 1 fun v23 =>
  intK .i64 v23 fun i24 =>
  boolN (eqZ i24 (Int.ofNat 0)) fun b25 =>
  ifB b25
  (some (Value.tuple (List.toArray [(Value.int .i64 (Int.ofNat 3)), (Value.int .i64 i22), (Value.int .i64 i24)]), h20))
  (loadNK 4 h20 a0 fun v26 =>
  ptrAddK 3 a0 fun v27 =>
  load1K h20 v27 fun v28 =>
  pairK (callQ F51 [v26, v28, (Value.int .i64 (Int.ofNat 5)), (Value.bool true)] h20) fun v29 h29 =>
  extK v29 0 fun v30 =>
  intK .i64 v30 fun i31 =>
  extK v29 1 fun v32 =>
  intK .i64 v32 fun i33 =>
  boolN (eqZ i33 (Int.ofNat 0)) fun b34 =>
  ifB b34
  (some (Value.tuple (List.toArray [(Value.int .i64 (Int.ofNat 4)), (Value.int .i64 i31), (Value.int .i64 i33)]), h29))
  (some (Value.tuple (List.toArray [(Value.int .i64 (Int.ofNat 0)), (Value.int .i64 (Int.ofNat 0)), (Value.int .i64 (Int.ofNat 0))]), h29)))))
noncomputable def T17 (S : Sg) : Sg := tabC 0 (uV fun r0 => uN fun h => P17x0 S r0 h) (tabN)
noncomputable def F17 (args : List Value) (h : Hp) : CRes := packVals [Kd.v] args fun al => rec' T17 1000000 0 al h
def nt17 : Nat := 1 + (49 - 1)
theorem q17x0 (S : Sg) (r0 : Value) (h : Hp) : P17x0 S r0 h = stepAt (regK env orc47 (nt17)) (finK env Try.f17.results.toList) (collect B17 A17 []) 0 S (AL.v r0 AL.n) h := by kernel_rfl
theorem t17 (S : Sg) : Tab (fun l vs h => stepAt (regK env orc47 nt17) (finK env Try.f17.results.toList) (collect B17 A17 []) l S vs h) (T17 S) := by
  unfold T17
  refine Tab.cons 0 (fun vs0 h q e0 => ?_) ?_
  · obtain ⟨r0, vs1, rfl, e1⟩ := uV_some e0
    obtain ⟨rfl, ee⟩ := uN_some e1
    exact (q17x0 S r0 h).symm.trans ee
  exact Tab.nil
theorem r17 : ∀ args h v h', F17 args h = some (v, h') → Runs (C47) (.call 17 args.toArray h) (.ret v h') := by
  intro args h v h' e
  exact fun_sound (C := C47) (fn := Try.f17) (body := B17) (np := 1) (A := A17) (T := T17) (kinds := [Kd.v]) (by kernel_rfl) (by kernel_rfl) (by kernel_rfl) (by kernel_rfl) (regK_ok env_ok) (by kernel_rfl) (fun S => t17 S) e
noncomputable def orc48 := orcQ 17 F17 orc47
noncomputable def C48 : Cfg := cfg orc48
theorem ok48 : C48.Ok := orcQ_ok (C := C47) ok47 r17
noncomputable def B57 : Code := (Try.f57.body).getD .skip
def A57 : Ann := (Ann.node (some (0, [(0, Kd.v), (1, Kd.v)])) Ann.nil (Ann.node none Ann.nil (Ann.node none (Ann.node none Ann.nil (Ann.node none (Ann.node (some (1, [(2, Kd.v), (3, Kd.v), (5, Kd.v), (6, Kd.i .i64)])) (Ann.node none (Ann.node none Ann.nil (Ann.node none Ann.nil Ann.nil)) (Ann.node none (Ann.node none (Ann.node none Ann.nil (Ann.node none Ann.nil Ann.nil)) Ann.nil) Ann.nil)) Ann.nil) Ann.nil)) (Ann.node (some (2, [(5, Kd.v)])) Ann.nil Ann.nil))))
noncomputable def P57x2 (S : Sg) (r5 : Value) (h : Hp) : CRes :=
  some (r5, h)
noncomputable def P57x1 (S : Sg) (r2 : Value) (r3 : Value) (r5 : Value) (r6 : Int) (h : Hp) : CRes :=
  ptrAddK 1 r2 fun v0 =>
  load1K h v0 fun v1 =>
  lenSK v1 fun i2 =>
  boolZ (ltZ r6 i2) fun b3 =>
  ifB b3
  (ptrAddK 1 r3 fun v4 =>
  load1K h v4 fun v5 =>
  idxSK 1 v5 r6 fun v6 =>
  load1K h v6 fun v7 =>
  intK .i64 v7 fun i8 =>
  boolN (eqZ i8 (Int.negSucc 0)) fun b9 =>
  ifB b9
  (ptrAddK 1 r3 fun v10 =>
  load1K h v10 fun v11 =>
  idxSK 1 v11 r6 fun v12 =>
  load1K h v12 fun v13 =>
  intK .i64 v13 fun i14 =>
  ptrAddK 1 r2 fun v15 =>
  load1K h v15 fun v16 =>
  idxSK 1 v16 r6 fun v17 =>
  load1K h v17 fun v18 =>
  intK .i64 v18 fun i19 =>
  boolN (eqZ i14 i19) fun b20 =>
  ifB b20
  (pairK (buildSliceV env h 22 1 (List.toArray [(0, (Value.int .i64 r6))])) fun v21 h21 =>
  pairK (appendV env h21 #[22, 22] (List.toArray [r5, v21])) fun v22 h22 =>
  wrap64 (Int.add r6 (Int.ofNat 1)) fun i23 =>
  S 1 (AL.v r2 (AL.v r3 (AL.v v22 (AL.i i23 AL.n)))) h22)
  (wrap64 (Int.add r6 (Int.ofNat 1)) fun i24 =>
  S 1 (AL.v r2 (AL.v r3 (AL.v r5 (AL.i i24 AL.n)))) h))
  (wrap64 (Int.add r6 (Int.ofNat 1)) fun i25 =>
  S 1 (AL.v r2 (AL.v r3 (AL.v r5 (AL.i i25 AL.n)))) h))
  (S 2 (AL.v r5 AL.n) h)
noncomputable def P57x0 (S : Sg) (r0 : Value) (r1 : Value) (h : Hp) : CRes :=
  allocK h 59 (Array.toList (Value.cells r0)) fun a0 h0 =>
  allocK h0 59 (Array.toList (Value.cells r1)) fun a1 h1 =>
  S 1 (AL.v a0 (AL.v a1 (AL.v (Value.slice none 0 0) (AL.i (Int.ofNat 0) AL.n)))) h1
noncomputable def T57 (S : Sg) : Sg := tabC 0 (uV fun r0 => uV fun r1 => uN fun h => P57x0 S r0 r1 h) (tabC 1 (uV fun r2 => uV fun r3 => uV fun r5 => uI fun r6 => uN fun h => P57x1 S r2 r3 r5 r6 h) (tabC 2 (uV fun r5 => uN fun h => P57x2 S r5 h) (tabN)))
noncomputable def F57 (args : List Value) (h : Hp) : CRes := packVals [Kd.v, Kd.v] args fun al => rec' T57 1000000 0 al h
def nt57 : Nat := 2 + (38 - 2)
theorem q57x2 (S : Sg) (r5 : Value) (h : Hp) : P57x2 S r5 h = stepAt (regK env orc48 (nt57)) (finK env Try.f57.results.toList) (collect B57 A57 []) 2 S (AL.v r5 AL.n) h := by kernel_rfl
theorem q57x1 (S : Sg) (r2 : Value) (r3 : Value) (r5 : Value) (r6 : Int) (h : Hp) : P57x1 S r2 r3 r5 r6 h = stepAt (regK env orc48 (nt57)) (finK env Try.f57.results.toList) (collect B57 A57 []) 1 S (AL.v r2 (AL.v r3 (AL.v r5 (AL.i r6 AL.n)))) h := by kernel_rfl
theorem q57x0 (S : Sg) (r0 : Value) (r1 : Value) (h : Hp) : P57x0 S r0 r1 h = stepAt (regK env orc48 (nt57)) (finK env Try.f57.results.toList) (collect B57 A57 []) 0 S (AL.v r0 (AL.v r1 AL.n)) h := by kernel_rfl
theorem t57 (S : Sg) : Tab (fun l vs h => stepAt (regK env orc48 nt57) (finK env Try.f57.results.toList) (collect B57 A57 []) l S vs h) (T57 S) := by
  unfold T57
  refine Tab.cons 0 (fun vs0 h q e0 => ?_) ?_
  · obtain ⟨r0, vs1, rfl, e1⟩ := uV_some e0
    obtain ⟨r1, vs2, rfl, e2⟩ := uV_some e1
    obtain ⟨rfl, ee⟩ := uN_some e2
    exact (q57x0 S r0 r1 h).symm.trans ee
  refine Tab.cons 1 (fun vs0 h q e0 => ?_) ?_
  · obtain ⟨r2, vs1, rfl, e1⟩ := uV_some e0
    obtain ⟨r3, vs2, rfl, e2⟩ := uV_some e1
    obtain ⟨r5, vs3, rfl, e3⟩ := uV_some e2
    obtain ⟨r6, vs4, rfl, e4⟩ := uI_some e3
    obtain ⟨rfl, ee⟩ := uN_some e4
    exact (q57x1 S r2 r3 r5 r6 h).symm.trans ee
  refine Tab.cons 2 (fun vs0 h q e0 => ?_) ?_
  · obtain ⟨r5, vs1, rfl, e1⟩ := uV_some e0
    obtain ⟨rfl, ee⟩ := uN_some e1
    exact (q57x2 S r5 h).symm.trans ee
  exact Tab.nil
theorem r57 : ∀ args h v h', F57 args h = some (v, h') → Runs (C48) (.call 57 args.toArray h) (.ret v h') := by
  intro args h v h' e
  exact fun_sound (C := C48) (fn := Try.f57) (body := B57) (np := 2) (A := A57) (T := T57) (kinds := [Kd.v, Kd.v]) (by kernel_rfl) (by kernel_rfl) (by kernel_rfl) (by kernel_rfl) (regK_ok env_ok) (by kernel_rfl) (fun S => t57 S) e
noncomputable def orc49 := orcQ 57 F57 orc48
noncomputable def C49 : Cfg := cfg orc49
theorem ok49 : C49.Ok := orcQ_ok (C := C48) ok48 r57
noncomputable def B56 : Code := (Try.f56.body).getD .skip
def A56 : Ann := (Ann.node (some (0, [(0, Kd.v), (1, Kd.v), (2, Kd.v)])) Ann.nil (Ann.node none Ann.nil (Ann.node none Ann.nil (Ann.node none (Ann.node none Ann.nil (Ann.node none (Ann.node (some (1, [(3, Kd.v), (7, Kd.i .i64), (8, Kd.v), (9, Kd.i .i64)])) (Ann.node none (Ann.node none Ann.nil (Ann.node none Ann.nil Ann.nil)) (Ann.node none (Ann.node none Ann.nil Ann.nil) Ann.nil)) Ann.nil) Ann.nil)) (Ann.node (some (2, [(7, Kd.i .i64)])) Ann.nil Ann.nil)))))
noncomputable def P56x2 (S : Sg) (r7 : Int) (h : Hp) : CRes :=
  some ((Value.int .i64 r7), h)
noncomputable def P56x1 (S : Sg) (r3 : Value) (r7 : Int) (r8 : Value) (r9 : Int) (h : Hp) : CRes :=
  lenSK r8 fun i0 =>
  boolZ (ltZ r9 i0) fun b1 =>
  ifB b1
  (ptrAddK 0 r3 fun v2 =>
  load1K h v2 fun v3 =>
  idxSK 1 r8 r9 fun v4 =>
  load1K h v4 fun v5 =>
  intK .i64 v5 fun i6 =>
  idxSK 1 v3 i6 fun v7 =>
  load1K h v7 fun v8 =>
  intK .i64 v8 fun i9 =>
  wrap64 (Int.add r7 i9) fun i10 =>
  wrap64 (Int.add r9 (Int.ofNat 1)) fun i11 =>
  S 1 (AL.v r3 (AL.i i10 (AL.v r8 (AL.i i11 AL.n)))) h)
  (S 2 (AL.i r7 AL.n) h)
noncomputable def P56x0 (S : Sg) (r0 : Value) (r1 : Value) (r2 : Value) (h : Hp) : CRes :=
  allocK h 25 (Array.toList (Value.cells r0)) fun a0 h0 =>
  allocK h0 59 (Array.toList (Value.cells r1)) fun a1 h1 =>
  allocK h1 59 (Array.toList (Value.cells r2)) fun a2 h2 =>
  loadNK 3 h2 a1 fun v3 =>
  loadNK 3 h2 a2 fun v4 =>
  pairK (callQ F57 [v3, v4] h2) fun v5 h5 =>
  S 1 (AL.v a0 (AL.i (Int.ofNat 0) (AL.v v5 (AL.i (Int.ofNat 0) AL.n)))) h5
noncomputable def T56 (S : Sg) : Sg := tabC 0 (uV fun r0 => uV fun r1 => uV fun r2 => uN fun h => P56x0 S r0 r1 r2 h) (tabC 1 (uV fun r3 => uI fun r7 => uV fun r8 => uI fun r9 => uN fun h => P56x1 S r3 r7 r8 r9 h) (tabC 2 (uI fun r7 => uN fun h => P56x2 S r7 h) (tabN)))
noncomputable def F56 (args : List Value) (h : Hp) : CRes := packVals [Kd.v, Kd.v, Kd.v] args fun al => rec' T56 1000000 0 al h
def nt56 : Nat := 3 + (30 - 3)
theorem q56x2 (S : Sg) (r7 : Int) (h : Hp) : P56x2 S r7 h = stepAt (regK env orc49 (nt56)) (finK env Try.f56.results.toList) (collect B56 A56 []) 2 S (AL.i r7 AL.n) h := by kernel_rfl
theorem q56x1 (S : Sg) (r3 : Value) (r7 : Int) (r8 : Value) (r9 : Int) (h : Hp) : P56x1 S r3 r7 r8 r9 h = stepAt (regK env orc49 (nt56)) (finK env Try.f56.results.toList) (collect B56 A56 []) 1 S (AL.v r3 (AL.i r7 (AL.v r8 (AL.i r9 AL.n)))) h := by kernel_rfl
theorem q56x0 (S : Sg) (r0 : Value) (r1 : Value) (r2 : Value) (h : Hp) : P56x0 S r0 r1 r2 h = stepAt (regK env orc49 (nt56)) (finK env Try.f56.results.toList) (collect B56 A56 []) 0 S (AL.v r0 (AL.v r1 (AL.v r2 AL.n))) h := by kernel_rfl
theorem t56 (S : Sg) : Tab (fun l vs h => stepAt (regK env orc49 nt56) (finK env Try.f56.results.toList) (collect B56 A56 []) l S vs h) (T56 S) := by
  unfold T56
  refine Tab.cons 0 (fun vs0 h q e0 => ?_) ?_
  · obtain ⟨r0, vs1, rfl, e1⟩ := uV_some e0
    obtain ⟨r1, vs2, rfl, e2⟩ := uV_some e1
    obtain ⟨r2, vs3, rfl, e3⟩ := uV_some e2
    obtain ⟨rfl, ee⟩ := uN_some e3
    exact (q56x0 S r0 r1 r2 h).symm.trans ee
  refine Tab.cons 1 (fun vs0 h q e0 => ?_) ?_
  · obtain ⟨r3, vs1, rfl, e1⟩ := uV_some e0
    obtain ⟨r7, vs2, rfl, e2⟩ := uI_some e1
    obtain ⟨r8, vs3, rfl, e3⟩ := uV_some e2
    obtain ⟨r9, vs4, rfl, e4⟩ := uI_some e3
    obtain ⟨rfl, ee⟩ := uN_some e4
    exact (q56x1 S r3 r7 r8 r9 h).symm.trans ee
  refine Tab.cons 2 (fun vs0 h q e0 => ?_) ?_
  · obtain ⟨r7, vs1, rfl, e1⟩ := uI_some e0
    obtain ⟨rfl, ee⟩ := uN_some e1
    exact (q56x2 S r7 h).symm.trans ee
  exact Tab.nil
theorem r56 : ∀ args h v h', F56 args h = some (v, h') → Runs (C49) (.call 56 args.toArray h) (.ret v h') := by
  intro args h v h' e
  exact fun_sound (C := C49) (fn := Try.f56) (body := B56) (np := 3) (A := A56) (T := T56) (kinds := [Kd.v, Kd.v, Kd.v]) (by kernel_rfl) (by kernel_rfl) (by kernel_rfl) (by kernel_rfl) (regK_ok env_ok) (by kernel_rfl) (fun S => t56 S) e
noncomputable def orc50 := orcQ 56 F56 orc49
noncomputable def C50 : Cfg := cfg orc50
theorem ok50 : C50.Ok := orcQ_ok (C := C49) ok49 r56
noncomputable def B19 : Code := (Try.f19.body).getD .skip
def A19 : Ann := (Ann.node (some (0, [(0, Kd.v), (1, Kd.i .i64), (2, Kd.i .i64)])) Ann.nil (Ann.node none Ann.nil (Ann.node none (Ann.node none Ann.nil (Ann.node none Ann.nil Ann.nil)) (Ann.node (some (1, [(1, Kd.i .i64), (2, Kd.i .i64), (3, Kd.v), (11, Kd.i .i64)])) (Ann.node none Ann.nil (Ann.node none (Ann.node none Ann.nil Ann.nil) Ann.nil)) (Ann.node none Ann.nil (Ann.node none Ann.nil Ann.nil))))))
noncomputable def P19x1 (S : Sg) (r1 : Int) (r2 : Int) (r3 : Value) (r11 : Int) (h : Hp) : CRes :=
  boolN (eqZ r11 (Int.ofNat 0)) fun b0 =>
  ifB b0
  (some (Value.tuple (List.toArray [(Value.int .i64 (Int.ofNat 0)), (Value.slice none 0 0), (Value.int .i64 r11)]), h))
  (ptrAddK 2 r3 fun v1 =>
  load1K (Hp.mk (Hp.next h) (Hp.next h) (Hp.objs h)) v1 fun v2 =>
  idxSK 3 v2 r1 fun v3 =>
  loadNK 3 (Hp.mk (Hp.next h) (Hp.next h) (Hp.objs h)) v3 fun v4 =>
  ptrAddK 3 r3 fun v5 =>
  load1K (Hp.mk (Hp.next h) (Hp.next h) (Hp.objs h)) v5 fun v6 =>
  idxSK 3 v6 r2 fun v7 =>
  loadNK 3 (Hp.mk (Hp.next h) (Hp.next h) (Hp.objs h)) v7 fun v8 =>
  allocK (Hp.mk (Hp.next h) (Hp.next h) T.nil) 59 [(Value.string (ByteArray.mk #[])), (Value.slice none 0 0), (Value.int .i64 (Int.ofNat 0))] fun a9 h9 =>
  leftK a9 (Hp.next h) h9 fun w10 n10 =>
  allocK (Hp.mk n10 n10 T.nil) 59 [(Value.string (ByteArray.mk #[])), (Value.slice none 0 0), (Value.int .i64 (Int.ofNat 0))] fun a11 h11 =>
  leftK a11 n10 h11 fun w12 n12 =>
  storeQ env 59 a9 v4 n12 (Hp.next h) (addAll w12 (addAll w10 (Hp.objs h))) (fun b => (hasBlk [] b || (hasBlk [] b || (hasBlk [] b || (hasBlk [] b || (hasBlk [] b || (hasBlk w10 b || (hasBlk w12 b || false)))))))) fun w13 =>
  storeNK 3 (Hp.mk n12 (Hp.ro h) (addAll w13 (addAll w12 (addAll w10 (Hp.objs h))))) a11 v8 fun h14 =>
  loadNK 4 h14 r3 fun v15 =>
  loadNK 3 h14 a9 fun v16 =>
  loadNK 3 h14 a11 fun v17 =>
  pairK (pairK (callQ F56 [v15, v16, v17] (Hp.mk (Hp.next h14) (Hp.next h14) (Hp.objs h14))) fun v _ => ifB (plainK v) (some (v, h14)) none) fun v18 h18 =>
  intK .i64 v18 fun i19 =>
  loadNK 3 h18 a9 fun v20 =>
  loadNK 3 h18 a11 fun v21 =>
  pairK (callQ F57 [v20, v21] h18) fun v22 h22 =>
  some (Value.tuple (List.toArray [(Value.int .i64 i19), v22, (Value.int .i64 (Int.ofNat 0))]), h22))
noncomputable def P19x0 (S : Sg) (r0 : Value) (r1 : Int) (r2 : Int) (h : Hp) : CRes :=
  allocK h 25 (Array.toList (Value.cells r0)) fun a0 h0 =>
  loadNK 4 h0 a0 fun v1 =>
  pairK (callQ F17 [v1] h0) fun v2 h2 =>
  extK v2 0 fun v3 =>
  intK .i64 v3 fun i4 =>
  extK v2 1 fun v5 =>
  intK .i64 v5 fun i6 =>
  extK v2 2 fun v7 =>
  intK .i64 v7 fun i8 =>
  boolZ (eqZ i8 (Int.ofNat 0)) fun b9 =>
  ifB b9
  (ptrAddK 2 a0 fun v10 =>
  load1K h2 v10 fun v11 =>
  lenSK v11 fun i12 =>
  wrap64 (Int.sub i12 (Int.ofNat 1)) fun i13 =>
  pairK (optK (F55 [(Value.int .i64 r1), (Value.int .i64 (Int.ofNat 0)), (Value.int .i64 i13)] h2) fun v => some (v, h2)) fun v14 h14 =>
  boolK v14 fun b15 =>
  boolN b15 fun b16 =>
  ifB b16
  (S 1 (AL.i r1 (AL.i r2 (AL.v a0 (AL.i (Int.ofNat 4) AL.n)))) h14)
  (ptrAddK 3 a0 fun v17 =>
  load1K h14 v17 fun v18 =>
  lenSK v18 fun i19 =>
  wrap64 (Int.sub i19 (Int.ofNat 1)) fun i20 =>
  pairK (optK (F55 [(Value.int .i64 r2), (Value.int .i64 (Int.ofNat 0)), (Value.int .i64 i20)] h14) fun v => some (v, h14)) fun v21 h21 =>
  boolK v21 fun b22 =>
  boolN b22 fun b23 =>
  ifB b23
  (S 1 (AL.i r1 (AL.i r2 (AL.v a0 (AL.i (Int.ofNat 4) AL.n)))) h21)
  (S 1 (AL.i r1 (AL.i r2 (AL.v a0 (AL.i i8 AL.n)))) h21)))
  (S 1 (AL.i r1 (AL.i r2 (AL.v a0 (AL.i i8 AL.n)))) h2)
noncomputable def T19 (S : Sg) : Sg := tabC 0 (uV fun r0 => uI fun r1 => uI fun r2 => uN fun h => P19x0 S r0 r1 r2 h) (tabC 1 (uI fun r1 => uI fun r2 => uV fun r3 => uI fun r11 => uN fun h => P19x1 S r1 r2 r3 r11 h) (tabN))
noncomputable def F19 (args : List Value) (h : Hp) : CRes := packVals [Kd.v, Kd.i .i64, Kd.i .i64] args fun al => rec' T19 1000000 0 al h
def nt19 : Nat := 3 + (60 - 3)
theorem q19x1 (S : Sg) (r1 : Int) (r2 : Int) (r3 : Value) (r11 : Int) (h : Hp) : P19x1 S r1 r2 r3 r11 h = stepAt (regK env orc50 (nt19)) (finK env Try.f19.results.toList) (collect B19 A19 []) 1 S (AL.i r1 (AL.i r2 (AL.v r3 (AL.i r11 AL.n)))) h := by kernel_rfl
theorem q19x0 (S : Sg) (r0 : Value) (r1 : Int) (r2 : Int) (h : Hp) : P19x0 S r0 r1 r2 h = stepAt (regK env orc50 (nt19)) (finK env Try.f19.results.toList) (collect B19 A19 []) 0 S (AL.v r0 (AL.i r1 (AL.i r2 AL.n))) h := by kernel_rfl
theorem t19 (S : Sg) : Tab (fun l vs h => stepAt (regK env orc50 nt19) (finK env Try.f19.results.toList) (collect B19 A19 []) l S vs h) (T19 S) := by
  unfold T19
  refine Tab.cons 0 (fun vs0 h q e0 => ?_) ?_
  · obtain ⟨r0, vs1, rfl, e1⟩ := uV_some e0
    obtain ⟨r1, vs2, rfl, e2⟩ := uI_some e1
    obtain ⟨r2, vs3, rfl, e3⟩ := uI_some e2
    obtain ⟨rfl, ee⟩ := uN_some e3
    exact (q19x0 S r0 r1 r2 h).symm.trans ee
  refine Tab.cons 1 (fun vs0 h q e0 => ?_) ?_
  · obtain ⟨r1, vs1, rfl, e1⟩ := uI_some e0
    obtain ⟨r2, vs2, rfl, e2⟩ := uI_some e1
    obtain ⟨r3, vs3, rfl, e3⟩ := uV_some e2
    obtain ⟨r11, vs4, rfl, e4⟩ := uI_some e3
    obtain ⟨rfl, ee⟩ := uN_some e4
    exact (q19x1 S r1 r2 r3 r11 h).symm.trans ee
  exact Tab.nil
theorem r19 : ∀ args h v h', F19 args h = some (v, h') → Runs (C50) (.call 19 args.toArray h) (.ret v h') := by
  intro args h v h' e
  exact fun_sound (C := C50) (fn := Try.f19) (body := B19) (np := 3) (A := A19) (T := T19) (kinds := [Kd.v, Kd.i .i64, Kd.i .i64]) (by kernel_rfl) (by kernel_rfl) (by kernel_rfl) (by kernel_rfl) (regK_ok env_ok) (by kernel_rfl) (fun S => t19 S) e
noncomputable def orc51 := orcQ 19 F19 orc50
noncomputable def C51 : Cfg := cfg orc51
theorem ok51 : C51.Ok := orcQ_ok (C := C50) ok50 r19
noncomputable def B20 : Code := (Try.f20.body).getD .skip
noncomputable def A20 : G.Ann (List KI) := (G.Ann.node (some (0, [KI.reg 0 (Kd.v), KI.reg 1 (Kd.v)])) G.Ann.nil (G.Ann.node none G.Ann.nil (G.Ann.node none (G.Ann.node none G.Ann.nil (G.Ann.node none (G.Ann.node (some (1, [KI.reg 0 (Kd.v), KI.reg 1 (Kd.v), KI.reg 5 (Kd.b), KI.reg 6 (Kd.i .i64)])) (G.Ann.node none (G.Ann.node none G.Ann.nil (G.Ann.node none G.Ann.nil G.Ann.nil)) (G.Ann.node (some (2, [KI.reg 0 (Kd.v), KI.reg 1 (Kd.v), KI.reg 6 (Kd.i .i64)])) (G.Ann.node none G.Ann.nil G.Ann.nil) G.Ann.nil)) G.Ann.nil) G.Ann.nil)) (G.Ann.node (some (3, [KI.reg 5 (Kd.b)])) G.Ann.nil G.Ann.nil))))
noncomputable def P20x3 (h : Hp) (S : Nat → PAL → Option Value) (r5 : Bool) : Option Value :=
  some (Value.bool r5)
noncomputable def P20x2 (h : Hp) (S : Nat → PAL → Option Value) (r0 : Value) (r1 : Value) (r6 : Int) : Option Value :=
  idxSK 1 r0 r6 fun v0 =>
  load1K h v0 fun v1 =>
  intK .i64 v1 fun i2 =>
  idxSK 1 r1 r6 fun v3 =>
  load1K h v3 fun v4 =>
  intK .i64 v4 fun i5 =>
  boolZ (eqZ i2 i5) fun b6 =>
  wrap64 (Int.add r6 (Int.ofNat 1)) fun i7 =>
  S 1 (PAL.v r0 (PAL.v r1 (PAL.b b6 (PAL.i i7 PAL.n))))
noncomputable def P20x1 (h : Hp) (S : Nat → PAL → Option Value) (r0 : Value) (r1 : Value) (r5 : Bool) (r6 : Int) : Option Value :=
  ifB r5
  (lenSK r0 fun i0 =>
  boolZ (ltZ r6 i0) fun b1 =>
  ifB b1
  (S 2 (PAL.v r0 (PAL.v r1 (PAL.i r6 PAL.n))))
  (S 3 (PAL.b r5 PAL.n)))
  (S 3 (PAL.b r5 PAL.n))
noncomputable def P20x0 (h : Hp) (S : Nat → PAL → Option Value) (r0 : Value) (r1 : Value) : Option Value :=
  lenSK r0 fun i0 =>
  lenSK r1 fun i1 =>
  boolZ (eqZ i0 i1) fun b2 =>
  S 1 (PAL.v r0 (PAL.v r1 (PAL.b b2 (PAL.i (Int.ofNat 0) PAL.n))))
noncomputable def T20 (h : Hp) (S : Nat → PAL → Option Value) : Nat → PAL → Option Value := tabPC 0 (wV fun r0 => wV fun r1 => wN (P20x0 h S r0 r1)) (tabPC 1 (wV fun r0 => wV fun r1 => wB fun r5 => wI fun r6 => wN (P20x1 h S r0 r1 r5 r6)) (tabPC 2 (wV fun r0 => wV fun r1 => wI fun r6 => wN (P20x2 h S r0 r1 r6)) (tabPC 3 (wB fun r5 => wN (P20x3 h S r5)) (tabPN))))
noncomputable def F20 (args : List Value) (h : Hp) : Option Value := plainO (packArgs [Kd.v, Kd.v] args fun al => G.rec' (T20 h) 1000000 0 al)
def nt20 : Nat := 2 + (31 - 2)
theorem q20x3 (h : Hp) (S : Nat → PAL → Option Value) (r5 : Bool) : P20x3 h S r5 = G.stepAt packP unpackP evXV (regP env pf21 nt20 h) (finP env Try.f20.results.toList) (G.collect B20 A20 []) 3 S (PAL.b r5 PAL.n) := by kernel_rfl
theorem q20x2 (h : Hp) (S : Nat → PAL → Option Value) (r0 : Value) (r1 : Value) (r6 : Int) : P20x2 h S r0 r1 r6 = G.stepAt packP unpackP evXV (regP env pf21 nt20 h) (finP env Try.f20.results.toList) (G.collect B20 A20 []) 2 S (PAL.v r0 (PAL.v r1 (PAL.i r6 PAL.n))) := by kernel_rfl
theorem q20x1 (h : Hp) (S : Nat → PAL → Option Value) (r0 : Value) (r1 : Value) (r5 : Bool) (r6 : Int) : P20x1 h S r0 r1 r5 r6 = G.stepAt packP unpackP evXV (regP env pf21 nt20 h) (finP env Try.f20.results.toList) (G.collect B20 A20 []) 1 S (PAL.v r0 (PAL.v r1 (PAL.b r5 (PAL.i r6 PAL.n)))) := by kernel_rfl
theorem q20x0 (h : Hp) (S : Nat → PAL → Option Value) (r0 : Value) (r1 : Value) : P20x0 h S r0 r1 = G.stepAt packP unpackP evXV (regP env pf21 nt20 h) (finP env Try.f20.results.toList) (G.collect B20 A20 []) 0 S (PAL.v r0 (PAL.v r1 PAL.n)) := by kernel_rfl
theorem t20 (h : Hp) (S : Nat → PAL → Option Value) : TabP (fun l al => G.stepAt packP unpackP evXV (regP env pf21 nt20 h) (finP env Try.f20.results.toList) (G.collect B20 A20 []) l S al) (T20 h S) := by
  unfold T20
  refine TabP.cons 0 (fun vs0 q e0 => ?_) ?_
  · obtain ⟨r0, vs1, rfl, e1⟩ := wV_some e0
    obtain ⟨r1, vs2, rfl, e2⟩ := wV_some e1
    obtain ⟨rfl, ee⟩ := wN_some e2
    exact (q20x0 h S r0 r1).symm.trans ee
  refine TabP.cons 1 (fun vs0 q e0 => ?_) ?_
  · obtain ⟨r0, vs1, rfl, e1⟩ := wV_some e0
    obtain ⟨r1, vs2, rfl, e2⟩ := wV_some e1
    obtain ⟨r5, vs3, rfl, e3⟩ := wB_some e2
    obtain ⟨r6, vs4, rfl, e4⟩ := wI_some e3
    obtain ⟨rfl, ee⟩ := wN_some e4
    exact (q20x1 h S r0 r1 r5 r6).symm.trans ee
  refine TabP.cons 2 (fun vs0 q e0 => ?_) ?_
  · obtain ⟨r0, vs1, rfl, e1⟩ := wV_some e0
    obtain ⟨r1, vs2, rfl, e2⟩ := wV_some e1
    obtain ⟨r6, vs3, rfl, e3⟩ := wI_some e2
    obtain ⟨rfl, ee⟩ := wN_some e3
    exact (q20x2 h S r0 r1 r6).symm.trans ee
  refine TabP.cons 3 (fun vs0 q e0 => ?_) ?_
  · obtain ⟨r5, vs1, rfl, e1⟩ := wB_some e0
    obtain ⟨rfl, ee⟩ := wN_some e1
    exact (q20x3 h S r5).symm.trans ee
  exact TabP.nil
theorem r20 : PSound Try.prog 20 F20 := fun_soundP (C := C0) ok0 (pf := pf21) pfok21 (fn := Try.f20) (body := B20) (kinds := [Kd.v, Kd.v]) (A := A20) (T := T20) (by kernel_rfl) (by kernel_rfl) (by kernel_rfl) (by kernel_rfl) (fun h S => t20 h S)
noncomputable def pf22 : PF := pfC 20 F20 pf21
theorem pfok22 : PfSound Try.prog pf22 := pfC_ok r20 pfok21
noncomputable def orc52 := orcP 20 F20 orc51
noncomputable def C52 : Cfg := cfg orc52
theorem ok52 : C52.Ok := orcP_ok (C := C51) ok51 r20
noncomputable def B3 : Code := (Try.f3.body).getD .skip
def A3 : Ann := (Ann.node (some (0, [(0, Kd.v), (1, Kd.v)])) Ann.nil (Ann.node none Ann.nil (Ann.node none Ann.nil (Ann.node none (Ann.node none Ann.nil (Ann.node none (Ann.node none Ann.nil Ann.nil) Ann.nil)) (Ann.node (some (1, [(2, Kd.v), (3, Kd.v)])) Ann.nil (Ann.node none Ann.nil (Ann.node none Ann.nil Ann.nil)))))))
noncomputable def P3x1 (S : Sg) (r2 : Value) (r3 : Value) (h : Hp) : CRes :=
  loadNK 4 h r2 fun v0 =>
  idxAK 2 1 r3 (Int.ofNat 0) fun v1 =>
  load1K h v1 fun v2 =>
  intK .i64 v2 fun i3 =>
  idxAK 2 1 r3 (Int.ofNat 1) fun v4 =>
  load1K h v4 fun v5 =>
  intK .i64 v5 fun i6 =>
  pairK (callQ F18 [v0, (Value.int .i64 i3), (Value.int .i64 i6)] h) fun v7 h7 =>
  extK v7 0 fun v8 =>
  intK .i64 v8 fun i9 =>
  extK v7 1 fun v10 =>
  extK v7 2 fun v11 =>
  intK .i64 v11 fun i12 =>
  loadNK 4 h7 r2 fun v13 =>
  idxAK 2 1 r3 (Int.ofNat 0) fun v14 =>
  load1K h7 v14 fun v15 =>
  intK .i64 v15 fun i16 =>
  idxAK 2 1 r3 (Int.ofNat 1) fun v17 =>
  load1K h7 v17 fun v18 =>
  intK .i64 v18 fun i19 =>
  pairK (callQ F19 [v13, (Value.int .i64 i16), (Value.int .i64 i19)] h7) fun v20 h20 =>
  extK v20 0 fun v21 =>
  intK .i64 v21 fun i22 =>
  extK v20 1 fun v23 =>
  extK v20 2 fun v24 =>
  intK .i64 v24 fun i25 =>
  boolZ (eqZ i9 i22) fun b26 =>
  ifB b26
  (pairK (optK (F20 [v10, v23] h20) fun v => some (v, h20)) fun v27 h27 =>
  boolK v27 fun b28 =>
  ifB b28
  (boolZ (eqZ i12 i25) fun b29 =>
  ifB b29
  (pairK (optK (FM21 [] h27) fun v => some (v, h27)) fun v30 h30 =>
  boolK v30 fun b31 =>
  some ((Value.bool b31), h30))
  (some ((Value.bool false), h27)))
  (some ((Value.bool false), h27)))
  (some ((Value.bool false), h20))
noncomputable def P3x0 (S : Sg) (r0 : Value) (r1 : Value) (h : Hp) : CRes :=
  allocK h 25 (Array.toList (Value.cells r0)) fun a0 h0 =>
  allocK h0 26 (Array.toList (Value.cells r1)) fun a1 h1 =>
  loadNK 4 h1 a0 fun v2 =>
  pairK (callQ F16 [v2] h1) fun v3 h3 =>
  extK v3 0 fun v4 =>
  intK .i64 v4 fun i5 =>
  extK v3 1 fun v6 =>
  intK .i64 v6 fun i7 =>
  extK v3 2 fun v8 =>
  intK .i64 v8 fun i9 =>
  loadNK 4 h3 a0 fun v10 =>
  pairK (callQ F17 [v10] h3) fun v11 h11 =>
  extK v11 0 fun v12 =>
  intK .i64 v12 fun i13 =>
  extK v11 1 fun v14 =>
  intK .i64 v14 fun i15 =>
  extK v11 2 fun v16 =>
  intK .i64 v16 fun i17 =>
  boolN (eqZ i5 i13) fun b18 =>
  ifB b18
  (some ((Value.bool false), h11))
  (boolN (eqZ i7 i15) fun b19 =>
  ifB b19
  (some ((Value.bool false), h11))
  (boolN (eqZ i9 i17) fun b20 =>
  ifB b20
  (some ((Value.bool false), h11))
  (S 1 (AL.v a0 (AL.v a1 AL.n)) h11)))
noncomputable def T3 (S : Sg) : Sg := tabC 0 (uV fun r0 => uV fun r1 => uN fun h => P3x0 S r0 r1 h) (tabC 1 (uV fun r2 => uV fun r3 => uN fun h => P3x1 S r2 r3 h) (tabN))
noncomputable def F3 (args : List Value) (h : Hp) : CRes := packVals [Kd.v, Kd.v] args fun al => rec' T3 1000000 0 al h
def nt3 : Nat := 2 + (74 - 2)
theorem q3x1 (S : Sg) (r2 : Value) (r3 : Value) (h : Hp) : P3x1 S r2 r3 h = stepAt (regK env orc52 (nt3)) (finK env Try.f3.results.toList) (collect B3 A3 []) 1 S (AL.v r2 (AL.v r3 AL.n)) h := by kernel_rfl
theorem q3x0 (S : Sg) (r0 : Value) (r1 : Value) (h : Hp) : P3x0 S r0 r1 h = stepAt (regK env orc52 (nt3)) (finK env Try.f3.results.toList) (collect B3 A3 []) 0 S (AL.v r0 (AL.v r1 AL.n)) h := by kernel_rfl
theorem t3 (S : Sg) : Tab (fun l vs h => stepAt (regK env orc52 nt3) (finK env Try.f3.results.toList) (collect B3 A3 []) l S vs h) (T3 S) := by
  unfold T3
  refine Tab.cons 0 (fun vs0 h q e0 => ?_) ?_
  · obtain ⟨r0, vs1, rfl, e1⟩ := uV_some e0
    obtain ⟨r1, vs2, rfl, e2⟩ := uV_some e1
    obtain ⟨rfl, ee⟩ := uN_some e2
    exact (q3x0 S r0 r1 h).symm.trans ee
  refine Tab.cons 1 (fun vs0 h q e0 => ?_) ?_
  · obtain ⟨r2, vs1, rfl, e1⟩ := uV_some e0
    obtain ⟨r3, vs2, rfl, e2⟩ := uV_some e1
    obtain ⟨rfl, ee⟩ := uN_some e2
    exact (q3x1 S r2 r3 h).symm.trans ee
  exact Tab.nil
theorem r3 : ∀ args h v h', F3 args h = some (v, h') → Runs (C52) (.call 3 args.toArray h) (.ret v h') := by
  intro args h v h' e
  exact fun_sound (C := C52) (fn := Try.f3) (body := B3) (np := 2) (A := A3) (T := T3) (kinds := [Kd.v, Kd.v]) (by kernel_rfl) (by kernel_rfl) (by kernel_rfl) (by kernel_rfl) (regK_ok env_ok) (by kernel_rfl) (fun S => t3 S) e
noncomputable def orc53 := orcQ 3 F3 orc52
noncomputable def C53 : Cfg := cfg orc53
theorem ok53 : C53.Ok := orcQ_ok (C := C52) ok52 r3
noncomputable def B43 : Code := (Try.f43.body).getD .skip
noncomputable def A43 : G.Ann (List KI) := (G.Ann.node (some (0, [KI.reg 0 (Kd.v), KI.reg 1 (Kd.i .i64)])) G.Ann.nil (G.Ann.node none (G.Ann.node none G.Ann.nil (G.Ann.node none (G.Ann.node (some (1, [KI.reg 0 (Kd.v), KI.reg 1 (Kd.i .i64), KI.reg 5 (Kd.i .i64)])) (G.Ann.node none (G.Ann.node none G.Ann.nil (G.Ann.node none G.Ann.nil G.Ann.nil)) (G.Ann.node none (G.Ann.node none (G.Ann.node none G.Ann.nil (G.Ann.node none (G.Ann.node none G.Ann.nil G.Ann.nil) G.Ann.nil)) G.Ann.nil) G.Ann.nil)) G.Ann.nil) G.Ann.nil)) (G.Ann.node (some (2, [])) G.Ann.nil G.Ann.nil)))
noncomputable def P43x2 (h : Hp) (S : Nat → PAL → Option Value) : Option Value :=
  some (Value.bool false)
noncomputable def P43x1 (h : Hp) (S : Nat → PAL → Option Value) (r0 : Value) (r1 : Int) (r5 : Int) : Option Value :=
  lenSK r0 fun i0 =>
  boolZ (ltZ r5 i0) fun b1 =>
  ifB b1
  (idxSK 1 r0 r5 fun v2 =>
  load1K h v2 fun v3 =>
  intK .i64 v3 fun i4 =>
  boolZ (eqZ i4 r1) fun b5 =>
  ifB b5
  (some (Value.bool true))
  (wrap64 (Int.add r5 (Int.ofNat 1)) fun i6 =>
  S 1 (PAL.v r0 (PAL.i r1 (PAL.i i6 PAL.n)))))
  (S 2 PAL.n)
noncomputable def P43x0 (h : Hp) (S : Nat → PAL → Option Value) (r0 : Value) (r1 : Int) : Option Value :=
  S 1 (PAL.v r0 (PAL.i r1 (PAL.i (Int.ofNat 0) PAL.n)))
noncomputable def T43 (h : Hp) (S : Nat → PAL → Option Value) : Nat → PAL → Option Value := tabPC 0 (wV fun r0 => wI fun r1 => wN (P43x0 h S r0 r1)) (tabPC 1 (wV fun r0 => wI fun r1 => wI fun r5 => wN (P43x1 h S r0 r1 r5)) (tabPC 2 (wN (P43x2 h S)) (tabPN)))
noncomputable def F43 (args : List Value) (h : Hp) : Option Value := plainO (packArgs [Kd.v, Kd.i .i64] args fun al => G.rec' (T43 h) 1000000 0 al)
def nt43 : Nat := 2 + (18 - 2)
theorem q43x2 (h : Hp) (S : Nat → PAL → Option Value) : P43x2 h S = G.stepAt packP unpackP evXV (regP env pf22 nt43 h) (finP env Try.f43.results.toList) (G.collect B43 A43 []) 2 S PAL.n := by kernel_rfl
theorem q43x1 (h : Hp) (S : Nat → PAL → Option Value) (r0 : Value) (r1 : Int) (r5 : Int) : P43x1 h S r0 r1 r5 = G.stepAt packP unpackP evXV (regP env pf22 nt43 h) (finP env Try.f43.results.toList) (G.collect B43 A43 []) 1 S (PAL.v r0 (PAL.i r1 (PAL.i r5 PAL.n))) := by kernel_rfl
theorem q43x0 (h : Hp) (S : Nat → PAL → Option Value) (r0 : Value) (r1 : Int) : P43x0 h S r0 r1 = G.stepAt packP unpackP evXV (regP env pf22 nt43 h) (finP env Try.f43.results.toList) (G.collect B43 A43 []) 0 S (PAL.v r0 (PAL.i r1 PAL.n)) := by kernel_rfl
theorem t43 (h : Hp) (S : Nat → PAL → Option Value) : TabP (fun l al => G.stepAt packP unpackP evXV (regP env pf22 nt43 h) (finP env Try.f43.results.toList) (G.collect B43 A43 []) l S al) (T43 h S) := by
  unfold T43
  refine TabP.cons 0 (fun vs0 q e0 => ?_) ?_
  · obtain ⟨r0, vs1, rfl, e1⟩ := wV_some e0
    obtain ⟨r1, vs2, rfl, e2⟩ := wI_some e1
    obtain ⟨rfl, ee⟩ := wN_some e2
    exact (q43x0 h S r0 r1).symm.trans ee
  refine TabP.cons 1 (fun vs0 q e0 => ?_) ?_
  · obtain ⟨r0, vs1, rfl, e1⟩ := wV_some e0
    obtain ⟨r1, vs2, rfl, e2⟩ := wI_some e1
    obtain ⟨r5, vs3, rfl, e3⟩ := wI_some e2
    obtain ⟨rfl, ee⟩ := wN_some e3
    exact (q43x1 h S r0 r1 r5).symm.trans ee
  refine TabP.cons 2 (fun vs0 q e0 => ?_) ?_
  · 
    obtain ⟨rfl, ee⟩ := wN_some e0
    exact (q43x2 h S).symm.trans ee
  exact TabP.nil
theorem r43 : PSound Try.prog 43 F43 := fun_soundP (C := C0) ok0 (pf := pf22) pfok22 (fn := Try.f43) (body := B43) (kinds := [Kd.v, Kd.i .i64]) (A := A43) (T := T43) (by kernel_rfl) (by kernel_rfl) (by kernel_rfl) (by kernel_rfl) (fun h S => t43 h S)
noncomputable def pf23 : PF := pfC 43 F43 pf22
theorem pfok23 : PfSound Try.prog pf23 := pfC_ok r43 pfok22
noncomputable def orc54 := orcP 43 F43 orc53
noncomputable def C54 : Cfg := cfg orc54
theorem ok54 : C54.Ok := orcP_ok (C := C53) ok53 r43
noncomputable def B40 : Code := (Try.f40.body).getD .skip
def A40 : Ann := (Ann.node (some (0, [(0, Kd.v), (1, Kd.v)])) Ann.nil (Ann.node none Ann.nil (Ann.node none (Ann.node none Ann.nil (Ann.node none Ann.nil Ann.nil)) (Ann.node none (Ann.node none Ann.nil (Ann.node none (Ann.node (some (1, [(1, Kd.v), (2, Kd.v), (7, Kd.i .i64), (8, Kd.i .i64)])) (Ann.node none (Ann.node none Ann.nil (Ann.node none Ann.nil Ann.nil)) (Ann.node (some (2, [(1, Kd.v), (2, Kd.v), (7, Kd.i .i64), (8, Kd.i .i64)])) (Ann.node none (Ann.node none Ann.nil (Ann.node none Ann.nil Ann.nil)) Ann.nil) Ann.nil)) Ann.nil) Ann.nil)) (Ann.node (some (6, [(1, Kd.v), (7, Kd.i .i64)])) (Ann.node none Ann.nil (Ann.node none (Ann.node (some (3, [(1, Kd.v), (7, Kd.i .i64), (9, Kd.i .i64)])) (Ann.node none (Ann.node none Ann.nil (Ann.node none Ann.nil Ann.nil)) (Ann.node (some (4, [(1, Kd.v), (7, Kd.i .i64), (9, Kd.i .i64)])) (Ann.node none (Ann.node none Ann.nil (Ann.node none Ann.nil Ann.nil)) Ann.nil) Ann.nil)) Ann.nil) Ann.nil)) (Ann.node (some (5, [(7, Kd.i .i64)])) Ann.nil Ann.nil))))))
noncomputable def P40x5 (S : Sg) (r7 : Int) (h : Hp) : CRes :=
  some ((Value.int .i64 r7), h)
noncomputable def P40x4 (S : Sg) (r1 : Value) (r7 : Int) (r9 : Int) (h : Hp) : CRes :=
  optK (sliceV env h 22 r1 none (some (Value.int .i64 r9)) none) fun v0 =>
  idxSK 1 r1 r9 fun v1 =>
  load1K h v1 fun v2 =>
  intK .i64 v2 fun i3 =>
  pairK (optK (F43 [v0, (Value.int .i64 i3)] h) fun v => some (v, h)) fun v4 h4 =>
  boolK v4 fun b5 =>
  ifB b5
  (wrap64 (Int.add r9 (Int.ofNat 1)) fun i6 =>
  S 3 (AL.v r1 (AL.i (Int.ofNat 5) (AL.i i6 AL.n))) h4)
  (wrap64 (Int.add r9 (Int.ofNat 1)) fun i7 =>
  S 3 (AL.v r1 (AL.i r7 (AL.i i7 AL.n))) h4)
noncomputable def P40x3 (S : Sg) (r1 : Value) (r7 : Int) (r9 : Int) (h : Hp) : CRes :=
  lenSK r1 fun i0 =>
  boolZ (ltZ r9 i0) fun b1 =>
  ifB b1
  (boolZ (eqZ r7 (Int.ofNat 0)) fun b2 =>
  ifB b2
  (S 4 (AL.v r1 (AL.i r7 (AL.i r9 AL.n))) h)
  (S 5 (AL.i r7 AL.n) h))
  (S 5 (AL.i r7 AL.n) h)
noncomputable def P40x6 (S : Sg) (r1 : Value) (r7 : Int) (h : Hp) : CRes :=
  S 3 (AL.v r1 (AL.i r7 (AL.i (Int.ofNat 0) AL.n))) h
noncomputable def P40x2 (S : Sg) (r1 : Value) (r2 : Value) (r7 : Int) (r8 : Int) (h : Hp) : CRes :=
  idxSK 1 r1 r8 fun v0 =>
  load1K h v0 fun v1 =>
  intK .i64 v1 fun i2 =>
  ptrAddK 2 r2 fun v3 =>
  load1K h v3 fun v4 =>
  lenSK v4 fun i5 =>
  wrap64 (Int.sub i5 (Int.ofNat 1)) fun i6 =>
  pairK (optK (F55 [(Value.int .i64 i2), (Value.int .i64 (Int.ofNat 0)), (Value.int .i64 i6)] h) fun v => some (v, h)) fun v7 h7 =>
  boolK v7 fun b8 =>
  boolN b8 fun b9 =>
  ifB b9
  (wrap64 (Int.add r8 (Int.ofNat 1)) fun i10 =>
  S 1 (AL.v r1 (AL.v r2 (AL.i (Int.ofNat 4) (AL.i i10 AL.n)))) h7)
  (wrap64 (Int.add r8 (Int.ofNat 1)) fun i11 =>
  S 1 (AL.v r1 (AL.v r2 (AL.i r7 (AL.i i11 AL.n)))) h7)
noncomputable def P40x1 (S : Sg) (r1 : Value) (r2 : Value) (r7 : Int) (r8 : Int) (h : Hp) : CRes :=
  lenSK r1 fun i0 =>
  boolZ (ltZ r8 i0) fun b1 =>
  ifB b1
  (boolZ (eqZ r7 (Int.ofNat 0)) fun b2 =>
  ifB b2
  (S 2 (AL.v r1 (AL.v r2 (AL.i r7 (AL.i r8 AL.n)))) h)
  (S 6 (AL.v r1 (AL.i r7 AL.n)) h))
  (S 6 (AL.v r1 (AL.i r7 AL.n)) h)
noncomputable def P40x0 (S : Sg) (r0 : Value) (r1 : Value) (h : Hp) : CRes :=
  allocK h 25 (Array.toList (Value.cells r0)) fun a0 h0 =>
  loadNK 4 h0 a0 fun v1 =>
  pairK (callQ F17 [v1] h0) fun v2 h2 =>
  extK v2 0 fun v3 =>
  intK .i64 v3 fun i4 =>
  extK v2 1 fun v5 =>
  intK .i64 v5 fun i6 =>
  extK v2 2 fun v7 =>
  intK .i64 v7 fun i8 =>
  boolZ (eqZ i8 (Int.ofNat 0)) fun b9 =>
  ifB b9
  (lenSK r1 fun i10 =>
  ptrAddK 3 a0 fun v11 =>
  load1K h2 v11 fun v12 =>
  lenSK v12 fun i13 =>
  boolN (eqZ i10 i13) fun b14 =>
  ifB b14
  (S 1 (AL.v r1 (AL.v a0 (AL.i (Int.ofNat 3) (AL.i (Int.ofNat 0) AL.n)))) h2)
  (S 1 (AL.v r1 (AL.v a0 (AL.i i8 (AL.i (Int.ofNat 0) AL.n)))) h2))
  (S 1 (AL.v r1 (AL.v a0 (AL.i i8 (AL.i (Int.ofNat 0) AL.n)))) h2)
noncomputable def T40 (S : Sg) : Sg := tabC 0 (uV fun r0 => uV fun r1 => uN fun h => P40x0 S r0 r1 h) (tabC 1 (uV fun r1 => uV fun r2 => uI fun r7 => uI fun r8 => uN fun h => P40x1 S r1 r2 r7 r8 h) (tabC 2 (uV fun r1 => uV fun r2 => uI fun r7 => uI fun r8 => uN fun h => P40x2 S r1 r2 r7 r8 h) (tabC 6 (uV fun r1 => uI fun r7 => uN fun h => P40x6 S r1 r7 h) (tabC 3 (uV fun r1 => uI fun r7 => uI fun r9 => uN fun h => P40x3 S r1 r7 r9 h) (tabC 4 (uV fun r1 => uI fun r7 => uI fun r9 => uN fun h => P40x4 S r1 r7 r9 h) (tabC 5 (uI fun r7 => uN fun h => P40x5 S r7 h) (tabN)))))))
noncomputable def F40 (args : List Value) (h : Hp) : CRes := packVals [Kd.v, Kd.v] args fun al => rec' T40 1000000 0 al h
def nt40 : Nat := 2 + (65 - 2)
theorem q40x5 (S : Sg) (r7 : Int) (h : Hp) : P40x5 S r7 h = stepAt (regK env orc54 (nt40)) (finK env Try.f40.results.toList) (collect B40 A40 []) 5 S (AL.i r7 AL.n) h := by kernel_rfl
theorem q40x4 (S : Sg) (r1 : Value) (r7 : Int) (r9 : Int) (h : Hp) : P40x4 S r1 r7 r9 h = stepAt (regK env orc54 (nt40)) (finK env Try.f40.results.toList) (collect B40 A40 []) 4 S (AL.v r1 (AL.i r7 (AL.i r9 AL.n))) h := by kernel_rfl
theorem q40x3 (S : Sg) (r1 : Value) (r7 : Int) (r9 : Int) (h : Hp) : P40x3 S r1 r7 r9 h = stepAt (regK env orc54 (nt40)) (finK env Try.f40.results.toList) (collect B40 A40 []) 3 S (AL.v r1 (AL.i r7 (AL.i r9 AL.n))) h := by kernel_rfl
theorem q40x6 (S : Sg) (r1 : Value) (r7 : Int) (h : Hp) : P40x6 S r1 r7 h = stepAt (regK env orc54 (nt40)) (finK env Try.f40.results.toList) (collect B40 A40 []) 6 S (AL.v r1 (AL.i r7 AL.n)) h := by kernel_rfl
theorem q40x2 (S : Sg) (r1 : Value) (r2 : Value) (r7 : Int) (r8 : Int) (h : Hp) : P40x2 S r1 r2 r7 r8 h = stepAt (regK env orc54 (nt40)) (finK env Try.f40.results.toList) (collect B40 A40 []) 2 S (AL.v r1 (AL.v r2 (AL.i r7 (AL.i r8 AL.n)))) h := by kernel_rfl
theorem q40x1 (S : Sg) (r1 : Value) (r2 : Value) (r7 : Int) (r8 : Int) (h : Hp) : P40x1 S r1 r2 r7 r8 h = stepAt (regK env orc54 (nt40)) (finK env Try.f40.results.toList) (collect B40 A40 []) 1 S (AL.v r1 (AL.v r2 (AL.i r7 (AL.i r8 AL.n)))) h := by kernel_rfl
theorem q40x0 (S : Sg) (r0 : Value) (r1 : Value) (h : Hp) : P40x0 S r0 r1 h = stepAt (regK env orc54 (nt40)) (finK env Try.f40.results.toList) (collect B40 A40 []) 0 S (AL.v r0 (AL.v r1 AL.n)) h := by kernel_rfl
theorem t40 (S : Sg) : Tab (fun l vs h => stepAt (regK env orc54 nt40) (finK env Try.f40.results.toList) (collect B40 A40 []) l S vs h) (T40 S) := by
  unfold T40
  refine Tab.cons 0 (fun vs0 h q e0 => ?_) ?_
  · obtain ⟨r0, vs1, rfl, e1⟩ := uV_some e0
    obtain ⟨r1, vs2, rfl, e2⟩ := uV_some e1
    obtain ⟨rfl, ee⟩ := uN_some e2
    exact (q40x0 S r0 r1 h).symm.trans ee
  refine Tab.cons 1 (fun vs0 h q e0 => ?_) ?_
  · obtain ⟨r1, vs1, rfl, e1⟩ := uV_some e0
    obtain ⟨r2, vs2, rfl, e2⟩ := uV_some e1
    obtain ⟨r7, vs3, rfl, e3⟩ := uI_some e2
    obtain ⟨r8, vs4, rfl, e4⟩ := uI_some e3
    obtain ⟨rfl, ee⟩ := uN_some e4
    exact (q40x1 S r1 r2 r7 r8 h).symm.trans ee
  refine Tab.cons 2 (fun vs0 h q e0 => ?_) ?_
  · obtain ⟨r1, vs1, rfl, e1⟩ := uV_some e0
    obtain ⟨r2, vs2, rfl, e2⟩ := uV_some e1
    obtain ⟨r7, vs3, rfl, e3⟩ := uI_some e2
    obtain ⟨r8, vs4, rfl, e4⟩ := uI_some e3
    obtain ⟨rfl, ee⟩ := uN_some e4
    exact (q40x2 S r1 r2 r7 r8 h).symm.trans ee
  refine Tab.cons 6 (fun vs0 h q e0 => ?_) ?_
  · obtain ⟨r1, vs1, rfl, e1⟩ := uV_some e0
    obtain ⟨r7, vs2, rfl, e2⟩ := uI_some e1
    obtain ⟨rfl, ee⟩ := uN_some e2
    exact (q40x6 S r1 r7 h).symm.trans ee
  refine Tab.cons 3 (fun vs0 h q e0 => ?_) ?_
  · obtain ⟨r1, vs1, rfl, e1⟩ := uV_some e0
    obtain ⟨r7, vs2, rfl, e2⟩ := uI_some e1
    obtain ⟨r9, vs3, rfl, e3⟩ := uI_some e2
    obtain ⟨rfl, ee⟩ := uN_some e3
    exact (q40x3 S r1 r7 r9 h).symm.trans ee
  refine Tab.cons 4 (fun vs0 h q e0 => ?_) ?_
  · obtain ⟨r1, vs1, rfl, e1⟩ := uV_some e0
    obtain ⟨r7, vs2, rfl, e2⟩ := uI_some e1
    obtain ⟨r9, vs3, rfl, e3⟩ := uI_some e2
    obtain ⟨rfl, ee⟩ := uN_some e3
    exact (q40x4 S r1 r7 r9 h).symm.trans ee
  refine Tab.cons 5 (fun vs0 h q e0 => ?_) ?_
  · obtain ⟨r7, vs1, rfl, e1⟩ := uI_some e0
    obtain ⟨rfl, ee⟩ := uN_some e1
    exact (q40x5 S r7 h).symm.trans ee
  exact Tab.nil
theorem r40 : ∀ args h v h', F40 args h = some (v, h') → Runs (C54) (.call 40 args.toArray h) (.ret v h') := by
  intro args h v h' e
  exact fun_sound (C := C54) (fn := Try.f40) (body := B40) (np := 2) (A := A40) (T := T40) (kinds := [Kd.v, Kd.v]) (by kernel_rfl) (by kernel_rfl) (by kernel_rfl) (by kernel_rfl) (regK_ok env_ok) (by kernel_rfl) (fun S => t40 S) e
noncomputable def orc55 := orcQ 40 F40 orc54
noncomputable def C55 : Cfg := cfg orc55
theorem ok55 : C55.Ok := orcQ_ok (C := C54) ok54 r40
noncomputable def B61 : Code := (Try.f61.body).getD .skip
def A61 : Ann := (Ann.node (some (0, [(0, Kd.v), (1, Kd.v)])) Ann.nil (Ann.node none Ann.nil (Ann.node none (Ann.node none Ann.nil (Ann.node none (Ann.node (some (1, [(1, Kd.v), (2, Kd.v), (5, Kd.v), (6, Kd.i .i64)])) (Ann.node none (Ann.node none Ann.nil (Ann.node none Ann.nil Ann.nil)) (Ann.node none (Ann.node none (Ann.node none Ann.nil (Ann.node none (Ann.node none Ann.nil (Ann.node none (Ann.node (some (2, [(1, Kd.v), (2, Kd.v), (5, Kd.v), (6, Kd.i .i64), (7, Kd.i .i64), (8, Kd.i .i64)])) (Ann.node none (Ann.node none Ann.nil (Ann.node none Ann.nil Ann.nil)) (Ann.node none (Ann.node none (Ann.node none Ann.nil (Ann.node none (Ann.node none Ann.nil (Ann.node none Ann.nil Ann.nil)) (Ann.node none (Ann.node none Ann.nil (Ann.node none Ann.nil Ann.nil)) (Ann.node (some (3, [(1, Kd.v), (2, Kd.v), (5, Kd.v), (6, Kd.i .i64), (7, Kd.i .i64), (8, Kd.i .i64), (10, Kd.v)])) Ann.nil (Ann.node none Ann.nil Ann.nil))))) Ann.nil) (Ann.node (some (4, [(1, Kd.v), (2, Kd.v), (5, Kd.v), (6, Kd.i .i64), (7, Kd.i .i64), (8, Kd.i .i64)])) Ann.nil Ann.nil))) Ann.nil) Ann.nil)) (Ann.node (some (5, [(1, Kd.v), (2, Kd.v), (5, Kd.v), (6, Kd.i .i64), (7, Kd.i .i64)])) Ann.nil Ann.nil))) Ann.nil) (Ann.node (some (6, [(1, Kd.v), (2, Kd.v), (5, Kd.v), (6, Kd.i .i64)])) Ann.nil Ann.nil))) Ann.nil) Ann.nil)) (Ann.node (some (7, [(5, Kd.v)])) Ann.nil Ann.nil))))
noncomputable def P61x7 (S : Sg) (r5 : Value) (h : Hp) : CRes :=
  some (r5, h)
noncomputable def P61x6 (S : Sg) (r1 : Value) (r2 : Value) (r5 : Value) (r6 : Int) (h : Hp) : CRes :=
  wrap64 (Int.add r6 (Int.ofNat 1)) fun i0 =>
  S 1 (AL.v r1 (AL.v r2 (AL.v r5 (AL.i i0 AL.n)))) h
noncomputable def P61x5 (S : Sg) (r1 : Value) (r2 : Value) (r5 : Value) (r6 : Int) (r7 : Int) (h : Hp) : CRes :=
  pairK (buildSliceV env h 22 1 (List.toArray [(0, (Value.int .i64 r7))])) fun v0 h0 =>
  pairK (appendV env h0 #[22, 22] (List.toArray [r5, v0])) fun v1 h1 =>
  S 6 (AL.v r1 (AL.v r2 (AL.v v1 (AL.i r6 AL.n)))) h1
noncomputable def P61x4 (S : Sg) (r1 : Value) (r2 : Value) (r5 : Value) (r6 : Int) (r7 : Int) (r8 : Int) (h : Hp) : CRes :=
  wrap64 (Int.add r8 (Int.ofNat 1)) fun i0 =>
  S 2 (AL.v r1 (AL.v r2 (AL.v r5 (AL.i r6 (AL.i r7 (AL.i i0 AL.n)))))) h
noncomputable def P61x3 (S : Sg) (r1 : Value) (r2 : Value) (r5 : Value) (r6 : Int) (r7 : Int) (r8 : Int) (r10 : Value) (h : Hp) : CRes :=
  ptrAddK 1 r10 fun v0 =>
  load1K h v0 fun v1 =>
  idxSK 1 v1 (Int.ofNat 0) fun v2 =>
  load1K h v2 fun v3 =>
  intK .i64 v3 fun i4 =>
  boolZ (eqZ i4 r6) fun b5 =>
  ifB b5
  (ptrAddK 2 r10 fun v6 =>
  load1K h v6 fun v7 =>
  intK .i64 v7 fun i8 =>
  wrap64 (Int.sub r7 i8) fun i9 =>
  S 4 (AL.v r1 (AL.v r2 (AL.v r5 (AL.i r6 (AL.i i9 (AL.i r8 AL.n)))))) h)
  (S 4 (AL.v r1 (AL.v r2 (AL.v r5 (AL.i r6 (AL.i r7 (AL.i r8 AL.n)))))) h)
noncomputable def P61x2 (S : Sg) (r1 : Value) (r2 : Value) (r5 : Value) (r6 : Int) (r7 : Int) (r8 : Int) (h : Hp) : CRes :=
  lenSK r1 fun i0 =>
  boolZ (ltZ r8 i0) fun b1 =>
  ifB b1
  (ptrAddK 2 r2 fun v2 =>
  load1K (Hp.mk (Hp.next h) (Hp.next h) (Hp.objs h)) v2 fun v3 =>
  idxSK 1 r1 r8 fun v4 =>
  load1K (Hp.mk (Hp.next h) (Hp.next h) (Hp.objs h)) v4 fun v5 =>
  intK .i64 v5 fun i6 =>
  idxSK 3 v3 i6 fun v7 =>
  loadNK 3 (Hp.mk (Hp.next h) (Hp.next h) (Hp.objs h)) v7 fun v8 =>
  ptrAddK 3 r2 fun v9 =>
  load1K (Hp.mk (Hp.next h) (Hp.next h) (Hp.objs h)) v9 fun v10 =>
  idxSK 3 v10 r8 fun v11 =>
  loadNK 3 (Hp.mk (Hp.next h) (Hp.next h) (Hp.objs h)) v11 fun v12 =>
  allocK (Hp.mk (Hp.next h) (Hp.next h) T.nil) 59 [(Value.string (ByteArray.mk #[])), (Value.slice none 0 0), (Value.int .i64 (Int.ofNat 0))] fun a13 h13 =>
  leftK a13 (Hp.next h) h13 fun w14 n14 =>
  allocK (Hp.mk n14 n14 T.nil) 59 [(Value.string (ByteArray.mk #[])), (Value.slice none 0 0), (Value.int .i64 (Int.ofNat 0))] fun a15 h15 =>
  leftK a15 n14 h15 fun w16 n16 =>
  storeQ env 59 a13 v8 n16 (Hp.next h) (addAll w16 (addAll w14 (Hp.objs h))) (fun b => (hasBlk [] b || (hasBlk [] b || (hasBlk [] b || (hasBlk [] b || (hasBlk [] b || (hasBlk [] b || (hasBlk [] b || (hasBlk [] b || (hasBlk w14 b || (hasBlk w16 b || false))))))))))) fun w17 =>
  storeNK 3 (Hp.mk n16 (Hp.ro h) (addAll w17 (addAll w16 (addAll w14 (Hp.objs h))))) a15 v12 fun h18 =>
  loadNK 3 h18 a13 fun v19 =>
  loadNK 3 h18 a15 fun v20 =>
  pairK (callQ F57 [v19, v20] h18) fun v21 h21 =>
  pairK (optK (F43 [v21, (Value.int .i64 (Int.ofNat 0))] h21) fun v => some (v, h21)) fun v22 h22 =>
  boolK v22 fun b23 =>
  boolN b23 fun b24 =>
  ifB b24
  (S 4 (AL.v r1 (AL.v r2 (AL.v r5 (AL.i r6 (AL.i r7 (AL.i r8 AL.n)))))) h22)
  (ptrAddK 1 a13 fun v25 =>
  load1K h22 v25 fun v26 =>
  idxSK 1 v26 (Int.ofNat 0) fun v27 =>
  load1K h22 v27 fun v28 =>
  intK .i64 v28 fun i29 =>
  boolZ (eqZ i29 r6) fun b30 =>
  ifB b30
  (ptrAddK 2 a13 fun v31 =>
  load1K h22 v31 fun v32 =>
  intK .i64 v32 fun i33 =>
  wrap64 (Int.add r7 i33) fun i34 =>
  S 3 (AL.v r1 (AL.v r2 (AL.v r5 (AL.i r6 (AL.i i34 (AL.i r8 (AL.v a15 AL.n))))))) h22)
  (S 3 (AL.v r1 (AL.v r2 (AL.v r5 (AL.i r6 (AL.i r7 (AL.i r8 (AL.v a15 AL.n))))))) h22)))
  (S 5 (AL.v r1 (AL.v r2 (AL.v r5 (AL.i r6 (AL.i r7 AL.n))))) h)
noncomputable def P61x1 (S : Sg) (r1 : Value) (r2 : Value) (r5 : Value) (r6 : Int) (h : Hp) : CRes :=
  ptrAddK 1 r2 fun v0 =>
  load1K h v0 fun v1 =>
  lenSK v1 fun i2 =>
  boolZ (ltZ r6 i2) fun b3 =>
  ifB b3
  (ptrAddK 1 r2 fun v4 =>
  load1K h v4 fun v5 =>
  idxSK 1 v5 r6 fun v6 =>
  load1K h v6 fun v7 =>
  intK .i64 v7 fun i8 =>
  S 2 (AL.v r1 (AL.v r2 (AL.v r5 (AL.i r6 (AL.i i8 (AL.i (Int.ofNat 0) AL.n)))))) h)
  (S 7 (AL.v r5 AL.n) h)
noncomputable def P61x0 (S : Sg) (r0 : Value) (r1 : Value) (h : Hp) : CRes :=
  allocK h 25 (Array.toList (Value.cells r0)) fun a0 h0 =>
  S 1 (AL.v r1 (AL.v a0 (AL.v (Value.slice none 0 0) (AL.i (Int.ofNat 0) AL.n)))) h0
noncomputable def T61 (S : Sg) : Sg := tabC 0 (uV fun r0 => uV fun r1 => uN fun h => P61x0 S r0 r1 h) (tabC 1 (uV fun r1 => uV fun r2 => uV fun r5 => uI fun r6 => uN fun h => P61x1 S r1 r2 r5 r6 h) (tabC 2 (uV fun r1 => uV fun r2 => uV fun r5 => uI fun r6 => uI fun r7 => uI fun r8 => uN fun h => P61x2 S r1 r2 r5 r6 r7 r8 h) (tabC 3 (uV fun r1 => uV fun r2 => uV fun r5 => uI fun r6 => uI fun r7 => uI fun r8 => uV fun r10 => uN fun h => P61x3 S r1 r2 r5 r6 r7 r8 r10 h) (tabC 4 (uV fun r1 => uV fun r2 => uV fun r5 => uI fun r6 => uI fun r7 => uI fun r8 => uN fun h => P61x4 S r1 r2 r5 r6 r7 r8 h) (tabC 5 (uV fun r1 => uV fun r2 => uV fun r5 => uI fun r6 => uI fun r7 => uN fun h => P61x5 S r1 r2 r5 r6 r7 h) (tabC 6 (uV fun r1 => uV fun r2 => uV fun r5 => uI fun r6 => uN fun h => P61x6 S r1 r2 r5 r6 h) (tabC 7 (uV fun r5 => uN fun h => P61x7 S r5 h) (tabN))))))))
noncomputable def F61 (args : List Value) (h : Hp) : CRes := packVals [Kd.v, Kd.v] args fun al => rec' T61 1000000 0 al h
def nt61 : Nat := 2 + (72 - 2)
theorem q61x7 (S : Sg) (r5 : Value) (h : Hp) : P61x7 S r5 h = stepAt (regK env orc55 (nt61)) (finK env Try.f61.results.toList) (collect B61 A61 []) 7 S (AL.v r5 AL.n) h := by kernel_rfl
theorem q61x6 (S : Sg) (r1 : Value) (r2 : Value) (r5 : Value) (r6 : Int) (h : Hp) : P61x6 S r1 r2 r5 r6 h = stepAt (regK env orc55 (nt61)) (finK env Try.f61.results.toList) (collect B61 A61 []) 6 S (AL.v r1 (AL.v r2 (AL.v r5 (AL.i r6 AL.n)))) h := by kernel_rfl
theorem q61x5 (S : Sg) (r1 : Value) (r2 : Value) (r5 : Value) (r6 : Int) (r7 : Int) (h : Hp) : P61x5 S r1 r2 r5 r6 r7 h = stepAt (regK env orc55 (nt61)) (finK env Try.f61.results.toList) (collect B61 A61 []) 5 S (AL.v r1 (AL.v r2 (AL.v r5 (AL.i r6 (AL.i r7 AL.n))))) h := by kernel_rfl
theorem q61x4 (S : Sg) (r1 : Value) (r2 : Value) (r5 : Value) (r6 : Int) (r7 : Int) (r8 : Int) (h : Hp) : P61x4 S r1 r2 r5 r6 r7 r8 h = stepAt (regK env orc55 (nt61)) (finK env Try.f61.results.toList) (collect B61 A61 []) 4 S (AL.v r1 (AL.v r2 (AL.v r5 (AL.i r6 (AL.i r7 (AL.i r8 AL.n)))))) h := by kernel_rfl
theorem q61x3 (S : Sg) (r1 : Value) (r2 : Value) (r5 : Value) (r6 : Int) (r7 : Int) (r8 : Int) (r10 : Value) (h : Hp) : P61x3 S r1 r2 r5 r6 r7 r8 r10 h = stepAt (regK env orc55 (nt61)) (finK env Try.f61.results.toList) (collect B61 A61 []) 3 S (AL.v r1 (AL.v r2 (AL.v r5 (AL.i r6 (AL.i r7 (AL.i r8 (AL.v r10 AL.n))))))) h := by kernel_rfl
theorem q61x2 (S : Sg) (r1 : Value) (r2 : Value) (r5 : Value) (r6 : Int) (r7 : Int) (r8 : Int) (h : Hp) : P61x2 S r1 r2 r5 r6 r7 r8 h = stepAt (regK env orc55 (nt61)) (finK env Try.f61.results.toList) (collect B61 A61 []) 2 S (AL.v r1 (AL.v r2 (AL.v r5 (AL.i r6 (AL.i r7 (AL.i r8 AL.n)))))) h := by kernel_rfl
theorem q61x1 (S : Sg) (r1 : Value) (r2 : Value) (r5 : Value) (r6 : Int) (h : Hp) : P61x1 S r1 r2 r5 r6 h = stepAt (regK env orc55 (nt61)) (finK env Try.f61.results.toList) (collect B61 A61 []) 1 S (AL.v r1 (AL.v r2 (AL.v r5 (AL.i r6 AL.n)))) h := by kernel_rfl
theorem q61x0 (S : Sg) (r0 : Value) (r1 : Value) (h : Hp) : P61x0 S r0 r1 h = stepAt (regK env orc55 (nt61)) (finK env Try.f61.results.toList) (collect B61 A61 []) 0 S (AL.v r0 (AL.v r1 AL.n)) h := by kernel_rfl
theorem t61 (S : Sg) : Tab (fun l vs h => stepAt (regK env orc55 nt61) (finK env Try.f61.results.toList) (collect B61 A61 []) l S vs h) (T61 S) := by
  unfold T61
  refine Tab.cons 0 (fun vs0 h q e0 => ?_) ?_
  · obtain ⟨r0, vs1, rfl, e1⟩ := uV_some e0
    obtain ⟨r1, vs2, rfl, e2⟩ := uV_some e1
    obtain ⟨rfl, ee⟩ := uN_some e2
    exact (q61x0 S r0 r1 h).symm.trans ee
  refine Tab.cons 1 (fun vs0 h q e0 => ?_) ?_
  · obtain ⟨r1, vs1, rfl, e1⟩ := uV_some e0
    obtain ⟨r2, vs2, rfl, e2⟩ := uV_some e1
    obtain ⟨r5, vs3, rfl, e3⟩ := uV_some e2
    obtain ⟨r6, vs4, rfl, e4⟩ := uI_some e3
    obtain ⟨rfl, ee⟩ := uN_some e4
    exact (q61x1 S r1 r2 r5 r6 h).symm.trans ee
  refine Tab.cons 2 (fun vs0 h q e0 => ?_) ?_
  · obtain ⟨r1, vs1, rfl, e1⟩ := uV_some e0
    obtain ⟨r2, vs2, rfl, e2⟩ := uV_some e1
    obtain ⟨r5, vs3, rfl, e3⟩ := uV_some e2
    obtain ⟨r6, vs4, rfl, e4⟩ := uI_some e3
    obtain ⟨r7, vs5, rfl, e5⟩ := uI_some e4
    obtain ⟨r8, vs6, rfl, e6⟩ := uI_some e5
    obtain ⟨rfl, ee⟩ := uN_some e6
    exact (q61x2 S r1 r2 r5 r6 r7 r8 h).symm.trans ee
  refine Tab.cons 3 (fun vs0 h q e0 => ?_) ?_
  · obtain ⟨r1, vs1, rfl, e1⟩ := uV_some e0
    obtain ⟨r2, vs2, rfl, e2⟩ := uV_some e1
    obtain ⟨r5, vs3, rfl, e3⟩ := uV_some e2
    obtain ⟨r6, vs4, rfl, e4⟩ := uI_some e3
    obtain ⟨r7, vs5, rfl, e5⟩ := uI_some e4
    obtain ⟨r8, vs6, rfl, e6⟩ := uI_some e5
    obtain ⟨r10, vs7, rfl, e7⟩ := uV_some e6
    obtain ⟨rfl, ee⟩ := uN_some e7
    exact (q61x3 S r1 r2 r5 r6 r7 r8 r10 h).symm.trans ee
  refine Tab.cons 4 (fun vs0 h q e0 => ?_) ?_
  · obtain ⟨r1, vs1, rfl, e1⟩ := uV_some e0
    obtain ⟨r2, vs2, rfl, e2⟩ := uV_some e1
    obtain ⟨r5, vs3, rfl, e3⟩ := uV_some e2
    obtain ⟨r6, vs4, rfl, e4⟩ := uI_some e3
    obtain ⟨r7, vs5, rfl, e5⟩ := uI_some e4
    obtain ⟨r8, vs6, rfl, e6⟩ := uI_some e5
    obtain ⟨rfl, ee⟩ := uN_some e6
    exact (q61x4 S r1 r2 r5 r6 r7 r8 h).symm.trans ee
  refine Tab.cons 5 (fun vs0 h q e0 => ?_) ?_
  · obtain ⟨r1, vs1, rfl, e1⟩ := uV_some e0
    obtain ⟨r2, vs2, rfl, e2⟩ := uV_some e1
    obtain ⟨r5, vs3, rfl, e3⟩ := uV_some e2
    obtain ⟨r6, vs4, rfl, e4⟩ := uI_some e3
    obtain ⟨r7, vs5, rfl, e5⟩ := uI_some e4
    obtain ⟨rfl, ee⟩ := uN_some e5
    exact (q61x5 S r1 r2 r5 r6 r7 h).symm.trans ee
  refine Tab.cons 6 (fun vs0 h q e0 => ?_) ?_
  · obtain ⟨r1, vs1, rfl, e1⟩ := uV_some e0
    obtain ⟨r2, vs2, rfl, e2⟩ := uV_some e1
    obtain ⟨r5, vs3, rfl, e3⟩ := uV_some e2
    obtain ⟨r6, vs4, rfl, e4⟩ := uI_some e3
    obtain ⟨rfl, ee⟩ := uN_some e4
    exact (q61x6 S r1 r2 r5 r6 h).symm.trans ee
  refine Tab.cons 7 (fun vs0 h q e0 => ?_) ?_
  · obtain ⟨r5, vs1, rfl, e1⟩ := uV_some e0
    obtain ⟨rfl, ee⟩ := uN_some e1
    exact (q61x7 S r5 h).symm.trans ee
  exact Tab.nil
theorem r61 : ∀ args h v h', F61 args h = some (v, h') → Runs (C55) (.call 61 args.toArray h) (.ret v h') := by
  intro args h v h' e
  exact fun_sound (C := C55) (fn := Try.f61) (body := B61) (np := 2) (A := A61) (T := T61) (kinds := [Kd.v, Kd.v]) (by kernel_rfl) (by kernel_rfl) (by kernel_rfl) (by kernel_rfl) (regK_ok env_ok) (by kernel_rfl) (fun S => t61 S) e
noncomputable def orc56 := orcQ 61 F61 orc55
noncomputable def C56 : Cfg := cfg orc56
theorem ok56 : C56.Ok := orcQ_ok (C := C55) ok55 r61
noncomputable def B23 : Code := (Try.f23.body).getD .skip
def A23 : Ann := (Ann.node (some (0, [(0, Kd.v), (1, Kd.v)])) Ann.nil (Ann.node none Ann.nil (Ann.node none (Ann.node none Ann.nil (Ann.node none (Ann.node none Ann.nil Ann.nil) Ann.nil)) (Ann.node none Ann.nil Ann.nil))))
noncomputable def P23x0 (S : Sg) (r0 : Value) (r1 : Value) (h : Hp) : CRes :=
  allocK h 25 (Array.toList (Value.cells r0)) fun a0 h0 =>
  loadNK 4 h0 a0 fun v1 =>
  pairK (callQ F40 [v1, r1] h0) fun v2 h2 =>
  intK .i64 v2 fun i3 =>
  boolN (eqZ i3 (Int.ofNat 0)) fun b4 =>
  ifB b4
  (some (Value.tuple (List.toArray [(Value.slice none 0 0), (Value.int .i64 i3)]), h2))
  (loadNK 4 h2 a0 fun v5 =>
  pairK (callQ F61 [v5, r1] h2) fun v6 h6 =>
  some (Value.tuple (List.toArray [v6, (Value.int .i64 (Int.ofNat 0))]), h6))
noncomputable def T23 (S : Sg) : Sg := tabC 0 (uV fun r0 => uV fun r1 => uN fun h => P23x0 S r0 r1 h) (tabN)
noncomputable def F23 (args : List Value) (h : Hp) : CRes := packVals [Kd.v, Kd.v] args fun al => rec' T23 1000000 0 al h
def nt23 : Nat := 2 + (16 - 2)
theorem q23x0 (S : Sg) (r0 : Value) (r1 : Value) (h : Hp) : P23x0 S r0 r1 h = stepAt (regK env orc56 (nt23)) (finK env Try.f23.results.toList) (collect B23 A23 []) 0 S (AL.v r0 (AL.v r1 AL.n)) h := by kernel_rfl
theorem t23 (S : Sg) : Tab (fun l vs h => stepAt (regK env orc56 nt23) (finK env Try.f23.results.toList) (collect B23 A23 []) l S vs h) (T23 S) := by
  unfold T23
  refine Tab.cons 0 (fun vs0 h q e0 => ?_) ?_
  · obtain ⟨r0, vs1, rfl, e1⟩ := uV_some e0
    obtain ⟨r1, vs2, rfl, e2⟩ := uV_some e1
    obtain ⟨rfl, ee⟩ := uN_some e2
    exact (q23x0 S r0 r1 h).symm.trans ee
  exact Tab.nil
theorem r23 : ∀ args h v h', F23 args h = some (v, h') → Runs (C56) (.call 23 args.toArray h) (.ret v h') := by
  intro args h v h' e
  exact fun_sound (C := C56) (fn := Try.f23) (body := B23) (np := 2) (A := A23) (T := T23) (kinds := [Kd.v, Kd.v]) (by kernel_rfl) (by kernel_rfl) (by kernel_rfl) (by kernel_rfl) (regK_ok env_ok) (by kernel_rfl) (fun S => t23 S) e
noncomputable def orc57 := orcQ 23 F23 orc56
noncomputable def C57 : Cfg := cfg orc57
theorem ok57 : C57.Ok := orcQ_ok (C := C56) ok56 r23
noncomputable def B78 : Code := (Try.f78.body).getD .skip
def A78 : Ann := (Ann.node (some (0, [(0, Kd.v)])) Ann.nil (Ann.node none Ann.nil (Ann.node none Ann.nil (Ann.node none (Ann.node none Ann.nil (Ann.node none (Ann.node (some (1, [(0, Kd.v), (4, Kd.v), (5, Kd.i .i64), (6, Kd.i .i64)])) (Ann.node none (Ann.node none Ann.nil (Ann.node none Ann.nil Ann.nil)) (Ann.node none (Ann.node none (Ann.node none Ann.nil (Ann.node none Ann.nil Ann.nil)) Ann.nil) Ann.nil)) Ann.nil) Ann.nil)) (Ann.node (some (2, [(4, Kd.v), (5, Kd.i .i64)])) Ann.nil Ann.nil)))))
noncomputable def P78x2 (S : Sg) (r4 : Value) (r5 : Int) (h : Hp) : CRes :=
  some (Value.tuple (List.toArray [r4, (Value.int .i64 r5)]), h)
noncomputable def P78x1 (S : Sg) (r0 : Value) (r4 : Value) (r5 : Int) (r6 : Int) (h : Hp) : CRes :=
  lenSK r0 fun i0 =>
  boolZ (ltZ r6 i0) fun b1 =>
  ifB b1
  (idxSK 1 r0 r6 fun v2 =>
  load1K h v2 fun v3 =>
  intK .i64 v3 fun i4 =>
  wrap64 (Int.sub (Int.ofNat 0) i4) fun i5 =>
  maxZ (Int.ofNat 0) i5 fun i6 =>
  pairK (buildSliceV env h 22 1 (List.toArray [(0, (Value.int .i64 i6))])) fun v7 h7 =>
  pairK (appendV env h7 #[22, 22] (List.toArray [r4, v7])) fun v8 h8 =>
  wrap64 (Int.add r5 i6) fun i9 =>
  wrap64 (Int.add r6 (Int.ofNat 1)) fun i10 =>
  S 1 (AL.v r0 (AL.v v8 (AL.i i9 (AL.i i10 AL.n)))) h8)
  (S 2 (AL.v r4 (AL.i r5 AL.n)) h)
noncomputable def P78x0 (S : Sg) (r0 : Value) (h : Hp) : CRes :=
  S 1 (AL.v r0 (AL.v (Value.slice none 0 0) (AL.i (Int.ofNat 0) (AL.i (Int.ofNat 0) AL.n)))) h
noncomputable def T78 (S : Sg) : Sg := tabC 0 (uV fun r0 => uN fun h => P78x0 S r0 h) (tabC 1 (uV fun r0 => uV fun r4 => uI fun r5 => uI fun r6 => uN fun h => P78x1 S r0 r4 r5 r6 h) (tabC 2 (uV fun r4 => uI fun r5 => uN fun h => P78x2 S r4 r5 h) (tabN)))
noncomputable def F78 (args : List Value) (h : Hp) : CRes := packVals [Kd.v] args fun al => rec' T78 1000000 0 al h
def nt78 : Nat := 1 + (29 - 1)
theorem q78x2 (S : Sg) (r4 : Value) (r5 : Int) (h : Hp) : P78x2 S r4 r5 h = stepAt (regK env orc57 (nt78)) (finK env Try.f78.results.toList) (collect B78 A78 []) 2 S (AL.v r4 (AL.i r5 AL.n)) h := by kernel_rfl
theorem q78x1 (S : Sg) (r0 : Value) (r4 : Value) (r5 : Int) (r6 : Int) (h : Hp) : P78x1 S r0 r4 r5 r6 h = stepAt (regK env orc57 (nt78)) (finK env Try.f78.results.toList) (collect B78 A78 []) 1 S (AL.v r0 (AL.v r4 (AL.i r5 (AL.i r6 AL.n)))) h := by kernel_rfl
theorem q78x0 (S : Sg) (r0 : Value) (h : Hp) : P78x0 S r0 h = stepAt (regK env orc57 (nt78)) (finK env Try.f78.results.toList) (collect B78 A78 []) 0 S (AL.v r0 AL.n) h := by kernel_rfl
theorem t78 (S : Sg) : Tab (fun l vs h => stepAt (regK env orc57 nt78) (finK env Try.f78.results.toList) (collect B78 A78 []) l S vs h) (T78 S) := by
  unfold T78
  refine Tab.cons 0 (fun vs0 h q e0 => ?_) ?_
  · obtain ⟨r0, vs1, rfl, e1⟩ := uV_some e0
    obtain ⟨rfl, ee⟩ := uN_some e1
    exact (q78x0 S r0 h).symm.trans ee
  refine Tab.cons 1 (fun vs0 h q e0 => ?_) ?_
  · obtain ⟨r0, vs1, rfl, e1⟩ := uV_some e0
    obtain ⟨r4, vs2, rfl, e2⟩ := uV_some e1
    obtain ⟨r5, vs3, rfl, e3⟩ := uI_some e2
    obtain ⟨r6, vs4, rfl, e4⟩ := uI_some e3
    obtain ⟨rfl, ee⟩ := uN_some e4
    exact (q78x1 S r0 r4 r5 r6 h).symm.trans ee
  refine Tab.cons 2 (fun vs0 h q e0 => ?_) ?_
  · obtain ⟨r4, vs1, rfl, e1⟩ := uV_some e0
    obtain ⟨r5, vs2, rfl, e2⟩ := uI_some e1
    obtain ⟨rfl, ee⟩ := uN_some e2
    exact (q78x2 S r4 r5 h).symm.trans ee
  exact Tab.nil
theorem r78 : ∀ args h v h', F78 args h = some (v, h') → Runs (C57) (.call 78 args.toArray h) (.ret v h') := by
  intro args h v h' e
  exact fun_sound (C := C57) (fn := Try.f78) (body := B78) (np := 1) (A := A78) (T := T78) (kinds := [Kd.v]) (by kernel_rfl) (by kernel_rfl) (by kernel_rfl) (by kernel_rfl) (regK_ok env_ok) (by kernel_rfl) (fun S => t78 S) e
noncomputable def orc58 := orcQ 78 F78 orc57
noncomputable def C58 : Cfg := cfg orc58
theorem ok58 : C58.Ok := orcQ_ok (C := C57) ok57 r78
noncomputable def B39 : Code := (Try.f39.body).getD .skip
def A39 : Ann := (Ann.node (some (0, [(0, Kd.v), (1, Kd.v)])) Ann.nil (Ann.node none Ann.nil (Ann.node none Ann.nil Ann.nil)))
noncomputable def P39x0 (S : Sg) (r0 : Value) (r1 : Value) (h : Hp) : CRes :=
  allocK h 25 (Array.toList (Value.cells r0)) fun a0 h0 =>
  loadNK 4 h0 a0 fun v1 =>
  pairK (callQ F61 [v1, r1] h0) fun v2 h2 =>
  pairK (callQ F78 [v2] h2) fun v3 h3 =>
  extK v3 0 fun v4 =>
  extK v3 1 fun v5 =>
  intK .i64 v5 fun i6 =>
  boolZ (eqZ i6 (Int.ofNat 0)) fun b7 =>
  some ((Value.bool b7), h3)
noncomputable def T39 (S : Sg) : Sg := tabC 0 (uV fun r0 => uV fun r1 => uN fun h => P39x0 S r0 r1 h) (tabN)
noncomputable def F39 (args : List Value) (h : Hp) : CRes := packVals [Kd.v, Kd.v] args fun al => rec' T39 1000000 0 al h
def nt39 : Nat := 2 + (16 - 2)
theorem q39x0 (S : Sg) (r0 : Value) (r1 : Value) (h : Hp) : P39x0 S r0 r1 h = stepAt (regK env orc58 (nt39)) (finK env Try.f39.results.toList) (collect B39 A39 []) 0 S (AL.v r0 (AL.v r1 AL.n)) h := by kernel_rfl
theorem t39 (S : Sg) : Tab (fun l vs h => stepAt (regK env orc58 nt39) (finK env Try.f39.results.toList) (collect B39 A39 []) l S vs h) (T39 S) := by
  unfold T39
  refine Tab.cons 0 (fun vs0 h q e0 => ?_) ?_
  · obtain ⟨r0, vs1, rfl, e1⟩ := uV_some e0
    obtain ⟨r1, vs2, rfl, e2⟩ := uV_some e1
    obtain ⟨rfl, ee⟩ := uN_some e2
    exact (q39x0 S r0 r1 h).symm.trans ee
  exact Tab.nil
theorem r39 : ∀ args h v h', F39 args h = some (v, h') → Runs (C58) (.call 39 args.toArray h) (.ret v h') := by
  intro args h v h' e
  exact fun_sound (C := C58) (fn := Try.f39) (body := B39) (np := 2) (A := A39) (T := T39) (kinds := [Kd.v, Kd.v]) (by kernel_rfl) (by kernel_rfl) (by kernel_rfl) (by kernel_rfl) (regK_ok env_ok) (by kernel_rfl) (fun S => t39 S) e
noncomputable def orc59 := orcQ 39 F39 orc58
noncomputable def C59 : Cfg := cfg orc59
theorem ok59 : C59.Ok := orcQ_ok (C := C58) ok58 r39
noncomputable def B41 : Code := (Try.f41.body).getD .skip
def A41 : Ann := (Ann.node (some (0, [(0, Kd.v), (1, Kd.v)])) Ann.nil (Ann.node none Ann.nil (Ann.node none (Ann.node none Ann.nil (Ann.node none (Ann.node (some (1, [(1, Kd.v), (2, Kd.v), (5, Kd.i .i64), (6, Kd.i .i64)])) (Ann.node none (Ann.node none Ann.nil (Ann.node none Ann.nil Ann.nil)) (Ann.node none (Ann.node none Ann.nil Ann.nil) Ann.nil)) Ann.nil) Ann.nil)) (Ann.node (some (2, [(5, Kd.i .i64)])) Ann.nil Ann.nil))))
noncomputable def P41x2 (S : Sg) (r5 : Int) (h : Hp) : CRes :=
  some ((Value.int .i64 r5), h)
noncomputable def P41x1 (S : Sg) (r1 : Value) (r2 : Value) (r5 : Int) (r6 : Int) (h : Hp) : CRes :=
  lenSK r1 fun i0 =>
  boolZ (ltZ r6 i0) fun b1 =>
  ifB b1
  (loadNK 4 h r2 fun v2 =>
  ptrAddK 2 r2 fun v3 =>
  load1K h v3 fun v4 =>
  idxSK 1 r1 r6 fun v5 =>
  load1K h v5 fun v6 =>
  intK .i64 v6 fun i7 =>
  idxSK 3 v4 i7 fun v8 =>
  loadNK 3 h v8 fun v9 =>
  ptrAddK 3 r2 fun v10 =>
  load1K h v10 fun v11 =>
  idxSK 3 v11 r6 fun v12 =>
  loadNK 3 h v12 fun v13 =>
  pairK (callQ F56 [v2, v9, v13] h) fun v14 h14 =>
  intK .i64 v14 fun i15 =>
  wrap64 (Int.add r5 i15) fun i16 =>
  wrap64 (Int.add r6 (Int.ofNat 1)) fun i17 =>
  S 1 (AL.v r1 (AL.v r2 (AL.i i16 (AL.i i17 AL.n)))) h14)
  (S 2 (AL.i r5 AL.n) h)
noncomputable def P41x0 (S : Sg) (r0 : Value) (r1 : Value) (h : Hp) : CRes :=
  allocK h 25 (Array.toList (Value.cells r0)) fun a0 h0 =>
  S 1 (AL.v r1 (AL.v a0 (AL.i (Int.ofNat 0) (AL.i (Int.ofNat 0) AL.n)))) h0
noncomputable def T41 (S : Sg) : Sg := tabC 0 (uV fun r0 => uV fun r1 => uN fun h => P41x0 S r0 r1 h) (tabC 1 (uV fun r1 => uV fun r2 => uI fun r5 => uI fun r6 => uN fun h => P41x1 S r1 r2 r5 r6 h) (tabC 2 (uI fun r5 => uN fun h => P41x2 S r5 h) (tabN)))
noncomputable def F41 (args : List Value) (h : Hp) : CRes := packVals [Kd.v, Kd.v] args fun al => rec' T41 1000000 0 al h
def nt41 : Nat := 2 + (31 - 2)
theorem q41x2 (S : Sg) (r5 : Int) (h : Hp) : P41x2 S r5 h = stepAt (regK env orc59 (nt41)) (finK env Try.f41.results.toList) (collect B41 A41 []) 2 S (AL.i r5 AL.n) h := by kernel_rfl
theorem q41x1 (S : Sg) (r1 : Value) (r2 : Value) (r5 : Int) (r6 : Int) (h : Hp) : P41x1 S r1 r2 r5 r6 h = stepAt (regK env orc59 (nt41)) (finK env Try.f41.results.toList) (collect B41 A41 []) 1 S (AL.v r1 (AL.v r2 (AL.i r5 (AL.i r6 AL.n)))) h := by kernel_rfl
theorem q41x0 (S : Sg) (r0 : Value) (r1 : Value) (h : Hp) : P41x0 S r0 r1 h = stepAt (regK env orc59 (nt41)) (finK env Try.f41.results.toList) (collect B41 A41 []) 0 S (AL.v r0 (AL.v r1 AL.n)) h := by kernel_rfl
theorem t41 (S : Sg) : Tab (fun l vs h => stepAt (regK env orc59 nt41) (finK env Try.f41.results.toList) (collect B41 A41 []) l S vs h) (T41 S) := by
  unfold T41
  refine Tab.cons 0 (fun vs0 h q e0 => ?_) ?_
  · obtain ⟨r0, vs1, rfl, e1⟩ := uV_some e0
    obtain ⟨r1, vs2, rfl, e2⟩ := uV_some e1
    obtain ⟨rfl, ee⟩ := uN_some e2
    exact (q41x0 S r0 r1 h).symm.trans ee
  refine Tab.cons 1 (fun vs0 h q e0 => ?_) ?_
  · obtain ⟨r1, vs1, rfl, e1⟩ := uV_some e0
    obtain ⟨r2, vs2, rfl, e2⟩ := uV_some e1
    obtain ⟨r5, vs3, rfl, e3⟩ := uI_some e2
    obtain ⟨r6, vs4, rfl, e4⟩ := uI_some e3
    obtain ⟨rfl, ee⟩ := uN_some e4
    exact (q41x1 S r1 r2 r5 r6 h).symm.trans ee
  refine Tab.cons 2 (fun vs0 h q e0 => ?_) ?_
  · obtain ⟨r5, vs1, rfl, e1⟩ := uI_some e0
    obtain ⟨rfl, ee⟩ := uN_some e1
    exact (q41x2 S r5 h).symm.trans ee
  exact Tab.nil
theorem r41 : ∀ args h v h', F41 args h = some (v, h') → Runs (C59) (.call 41 args.toArray h) (.ret v h') := by
  intro args h v h' e
  exact fun_sound (C := C59) (fn := Try.f41) (body := B41) (np := 2) (A := A41) (T := T41) (kinds := [Kd.v, Kd.v]) (by kernel_rfl) (by kernel_rfl) (by kernel_rfl) (by kernel_rfl) (regK_ok env_ok) (by kernel_rfl) (fun S => t41 S) e
noncomputable def orc60 := orcQ 41 F41 orc59
noncomputable def C60 : Cfg := cfg orc60
theorem ok60 : C60.Ok := orcQ_ok (C := C59) ok59 r41
noncomputable def B25 : Code := (Try.f25.body).getD .skip
def A25 : Ann := (Ann.node (some (0, [(0, Kd.v), (1, Kd.v)])) Ann.nil (Ann.node none Ann.nil (Ann.node none (Ann.node none Ann.nil (Ann.node none Ann.nil Ann.nil)) (Ann.node (some (1, [(1, Kd.v), (2, Kd.v), (6, Kd.i .i64)])) (Ann.node none Ann.nil (Ann.node none (Ann.node none Ann.nil Ann.nil) Ann.nil)) (Ann.node none Ann.nil Ann.nil)))))
noncomputable def P25x1 (S : Sg) (r1 : Value) (r2 : Value) (r6 : Int) (h : Hp) : CRes :=
  boolN (eqZ r6 (Int.ofNat 0)) fun b0 =>
  ifB b0
  (some (Value.tuple (List.toArray [(Value.int .i64 (Int.ofNat 0)), (Value.int .i64 r6)]), h))
  (loadNK 4 h r2 fun v1 =>
  pairK (callQ F41 [v1, r1] h) fun v2 h2 =>
  intK .i64 v2 fun i3 =>
  some (Value.tuple (List.toArray [(Value.int .i64 i3), (Value.int .i64 (Int.ofNat 0))]), h2))
noncomputable def P25x0 (S : Sg) (r0 : Value) (r1 : Value) (h : Hp) : CRes :=
  allocK h 25 (Array.toList (Value.cells r0)) fun a0 h0 =>
  loadNK 4 h0 a0 fun v1 =>
  pairK (callQ F40 [v1, r1] h0) fun v2 h2 =>
  intK .i64 v2 fun i3 =>
  boolZ (eqZ i3 (Int.ofNat 0)) fun b4 =>
  ifB b4
  (loadNK 4 h2 a0 fun v5 =>
  pairK (callQ F39 [v5, r1] h2) fun v6 h6 =>
  boolK v6 fun b7 =>
  boolN b7 fun b8 =>
  ifB b8
  (S 1 (AL.v r1 (AL.v a0 (AL.i (Int.ofNat 9) AL.n))) h6)
  (S 1 (AL.v r1 (AL.v a0 (AL.i i3 AL.n))) h6))
  (S 1 (AL.v r1 (AL.v a0 (AL.i i3 AL.n))) h2)
noncomputable def T25 (S : Sg) : Sg := tabC 0 (uV fun r0 => uV fun r1 => uN fun h => P25x0 S r0 r1 h) (tabC 1 (uV fun r1 => uV fun r2 => uI fun r6 => uN fun h => P25x1 S r1 r2 r6 h) (tabN))
noncomputable def F25 (args : List Value) (h : Hp) : CRes := packVals [Kd.v, Kd.v] args fun al => rec' T25 1000000 0 al h
def nt25 : Nat := 2 + (24 - 2)
theorem q25x1 (S : Sg) (r1 : Value) (r2 : Value) (r6 : Int) (h : Hp) : P25x1 S r1 r2 r6 h = stepAt (regK env orc60 (nt25)) (finK env Try.f25.results.toList) (collect B25 A25 []) 1 S (AL.v r1 (AL.v r2 (AL.i r6 AL.n))) h := by kernel_rfl
theorem q25x0 (S : Sg) (r0 : Value) (r1 : Value) (h : Hp) : P25x0 S r0 r1 h = stepAt (regK env orc60 (nt25)) (finK env Try.f25.results.toList) (collect B25 A25 []) 0 S (AL.v r0 (AL.v r1 AL.n)) h := by kernel_rfl
theorem t25 (S : Sg) : Tab (fun l vs h => stepAt (regK env orc60 nt25) (finK env Try.f25.results.toList) (collect B25 A25 []) l S vs h) (T25 S) := by
  unfold T25
  refine Tab.cons 0 (fun vs0 h q e0 => ?_) ?_
  · obtain ⟨r0, vs1, rfl, e1⟩ := uV_some e0
    obtain ⟨r1, vs2, rfl, e2⟩ := uV_some e1
    obtain ⟨rfl, ee⟩ := uN_some e2
    exact (q25x0 S r0 r1 h).symm.trans ee
  refine Tab.cons 1 (fun vs0 h q e0 => ?_) ?_
  · obtain ⟨r1, vs1, rfl, e1⟩ := uV_some e0
    obtain ⟨r2, vs2, rfl, e2⟩ := uV_some e1
    obtain ⟨r6, vs3, rfl, e3⟩ := uI_some e2
    obtain ⟨rfl, ee⟩ := uN_some e3
    exact (q25x1 S r1 r2 r6 h).symm.trans ee
  exact Tab.nil
theorem r25 : ∀ args h v h', F25 args h = some (v, h') → Runs (C60) (.call 25 args.toArray h) (.ret v h') := by
  intro args h v h' e
  exact fun_sound (C := C60) (fn := Try.f25) (body := B25) (np := 2) (A := A25) (T := T25) (kinds := [Kd.v, Kd.v]) (by kernel_rfl) (by kernel_rfl) (by kernel_rfl) (by kernel_rfl) (regK_ok env_ok) (by kernel_rfl) (fun S => t25 S) e
noncomputable def orc61 := orcQ 25 F25 orc60
noncomputable def C61 : Cfg := cfg orc61
theorem ok61 : C61.Ok := orcQ_ok (C := C60) ok60 r25
noncomputable def B4 : Code := (Try.f4.body).getD .skip
def A4 : Ann := (Ann.node (some (0, [(0, Kd.v), (1, Kd.v)])) Ann.nil (Ann.node none Ann.nil (Ann.node none Ann.nil (Ann.node none (Ann.node none Ann.nil (Ann.node none (Ann.node none Ann.nil Ann.nil) Ann.nil)) (Ann.node (some (1, [(1, Kd.v), (2, Kd.v)])) Ann.nil (Ann.node none Ann.nil (Ann.node none Ann.nil Ann.nil)))))))
noncomputable def P4x1 (S : Sg) (r1 : Value) (r2 : Value) (h : Hp) : CRes :=
  loadNK 4 h r2 fun v0 =>
  pairK (callQ F24 [v0, r1] h) fun v1 h1 =>
  extK v1 0 fun v2 =>
  intK .i64 v2 fun i3 =>
  extK v1 1 fun v4 =>
  intK .i64 v4 fun i5 =>
  loadNK 4 h1 r2 fun v6 =>
  pairK (callQ F25 [v6, r1] h1) fun v7 h7 =>
  extK v7 0 fun v8 =>
  intK .i64 v8 fun i9 =>
  extK v7 1 fun v10 =>
  intK .i64 v10 fun i11 =>
  boolZ (eqZ i3 i9) fun b12 =>
  ifB b12
  (boolZ (eqZ i5 i11) fun b13 =>
  ifB b13
  (pairK (optK (FM21 [] h7) fun v => some (v, h7)) fun v14 h14 =>
  boolK v14 fun b15 =>
  some ((Value.bool b15), h14))
  (some ((Value.bool false), h7)))
  (some ((Value.bool false), h7))
noncomputable def P4x0 (S : Sg) (r0 : Value) (r1 : Value) (h : Hp) : CRes :=
  allocK h 25 (Array.toList (Value.cells r0)) fun a0 h0 =>
  loadNK 4 h0 a0 fun v1 =>
  pairK (callQ F22 [v1, r1] h0) fun v2 h2 =>
  extK v2 0 fun v3 =>
  extK v2 1 fun v4 =>
  intK .i64 v4 fun i5 =>
  loadNK 4 h2 a0 fun v6 =>
  pairK (callQ F23 [v6, r1] h2) fun v7 h7 =>
  extK v7 0 fun v8 =>
  extK v7 1 fun v9 =>
  intK .i64 v9 fun i10 =>
  pairK (optK (F20 [v3, v8] h7) fun v => some (v, h7)) fun v11 h11 =>
  boolK v11 fun b12 =>
  boolN b12 fun b13 =>
  ifB b13
  (some ((Value.bool false), h11))
  (boolN (eqZ i5 i10) fun b14 =>
  ifB b14
  (some ((Value.bool false), h11))
  (S 1 (AL.v r1 (AL.v a0 AL.n)) h11))
noncomputable def T4 (S : Sg) : Sg := tabC 0 (uV fun r0 => uV fun r1 => uN fun h => P4x0 S r0 r1 h) (tabC 1 (uV fun r1 => uV fun r2 => uN fun h => P4x1 S r1 r2 h) (tabN))
noncomputable def F4 (args : List Value) (h : Hp) : CRes := packVals [Kd.v, Kd.v] args fun al => rec' T4 1000000 0 al h
def nt4 : Nat := 2 + (55 - 2)
theorem q4x1 (S : Sg) (r1 : Value) (r2 : Value) (h : Hp) : P4x1 S r1 r2 h = stepAt (regK env orc61 (nt4)) (finK env Try.f4.results.toList) (collect B4 A4 []) 1 S (AL.v r1 (AL.v r2 AL.n)) h := by kernel_rfl
theorem q4x0 (S : Sg) (r0 : Value) (r1 : Value) (h : Hp) : P4x0 S r0 r1 h = stepAt (regK env orc61 (nt4)) (finK env Try.f4.results.toList) (collect B4 A4 []) 0 S (AL.v r0 (AL.v r1 AL.n)) h := by kernel_rfl
theorem t4 (S : Sg) : Tab (fun l vs h => stepAt (regK env orc61 nt4) (finK env Try.f4.results.toList) (collect B4 A4 []) l S vs h) (T4 S) := by
  unfold T4
  refine Tab.cons 0 (fun vs0 h q e0 => ?_) ?_
  · obtain ⟨r0, vs1, rfl, e1⟩ := uV_some e0
    obtain ⟨r1, vs2, rfl, e2⟩ := uV_some e1
    obtain ⟨rfl, ee⟩ := uN_some e2
    exact (q4x0 S r0 r1 h).symm.trans ee
  refine Tab.cons 1 (fun vs0 h q e0 => ?_) ?_
  · obtain ⟨r1, vs1, rfl, e1⟩ := uV_some e0
    obtain ⟨r2, vs2, rfl, e2⟩ := uV_some e1
    obtain ⟨rfl, ee⟩ := uN_some e2
    exact (q4x1 S r1 r2 h).symm.trans ee
  exact Tab.nil
theorem r4 : ∀ args h v h', F4 args h = some (v, h') → Runs (C61) (.call 4 args.toArray h) (.ret v h') := by
  intro args h v h' e
  exact fun_sound (C := C61) (fn := Try.f4) (body := B4) (np := 2) (A := A4) (T := T4) (kinds := [Kd.v, Kd.v]) (by kernel_rfl) (by kernel_rfl) (by kernel_rfl) (by kernel_rfl) (regK_ok env_ok) (by kernel_rfl) (fun S => t4 S) e
noncomputable def orc62 := orcQ 4 F4 orc61
noncomputable def C62 : Cfg := cfg orc62
theorem ok62 : C62.Ok := orcQ_ok (C := C61) ok61 r4
noncomputable def B37 : Code := (Try.f37.body).getD .skip
def A37 : Ann := (Ann.node (some (0, [(0, Kd.v)])) Ann.nil (Ann.node none Ann.nil (Ann.node none Ann.nil Ann.nil)))
noncomputable def P37x0 (S : Sg) (r0 : Value) (h : Hp) : CRes :=
  allocK h 25 (Array.toList (Value.cells r0)) fun a0 h0 =>
  loadNK 4 h0 a0 fun v1 =>
  pairK (callQ F17 [v1] h0) fun v2 h2 =>
  extK v2 0 fun v3 =>
  intK .i64 v3 fun i4 =>
  extK v2 1 fun v5 =>
  intK .i64 v5 fun i6 =>
  extK v2 2 fun v7 =>
  intK .i64 v7 fun i8 =>
  boolZ (eqZ i8 (Int.ofNat 0)) fun b9 =>
  some ((Value.bool b9), h2)
noncomputable def T37 (S : Sg) : Sg := tabC 0 (uV fun r0 => uN fun h => P37x0 S r0 h) (tabN)
noncomputable def F37 (args : List Value) (h : Hp) : CRes := packVals [Kd.v] args fun al => rec' T37 1000000 0 al h
def nt37 : Nat := 1 + (14 - 1)
theorem q37x0 (S : Sg) (r0 : Value) (h : Hp) : P37x0 S r0 h = stepAt (regK env orc62 (nt37)) (finK env Try.f37.results.toList) (collect B37 A37 []) 0 S (AL.v r0 AL.n) h := by kernel_rfl
theorem t37 (S : Sg) : Tab (fun l vs h => stepAt (regK env orc62 nt37) (finK env Try.f37.results.toList) (collect B37 A37 []) l S vs h) (T37 S) := by
  unfold T37
  refine Tab.cons 0 (fun vs0 h q e0 => ?_) ?_
  · obtain ⟨r0, vs1, rfl, e1⟩ := uV_some e0
    obtain ⟨rfl, ee⟩ := uN_some e1
    exact (q37x0 S r0 h).symm.trans ee
  exact Tab.nil
theorem r37 : ∀ args h v h', F37 args h = some (v, h') → Runs (C62) (.call 37 args.toArray h) (.ret v h') := by
  intro args h v h' e
  exact fun_sound (C := C62) (fn := Try.f37) (body := B37) (np := 1) (A := A37) (T := T37) (kinds := [Kd.v]) (by kernel_rfl) (by kernel_rfl) (by kernel_rfl) (by kernel_rfl) (regK_ok env_ok) (by kernel_rfl) (fun S => t37 S) e
noncomputable def orc63 := orcQ 37 F37 orc62
noncomputable def C63 : Cfg := cfg orc63
theorem ok63 : C63.Ok := orcQ_ok (C := C62) ok62 r37
noncomputable def B46 : Code := (Try.f46.body).getD .skip
noncomputable def A46 : G.Ann (List KI) := (G.Ann.node (some (0, [KI.reg 0 (Kd.v), KI.reg 1 (Kd.i .i64)])) G.Ann.nil (G.Ann.node none (G.Ann.node none G.Ann.nil (G.Ann.node none (G.Ann.node none G.Ann.nil G.Ann.nil) G.Ann.nil)) (G.Ann.node none G.Ann.nil G.Ann.nil)))
noncomputable def P46x0 (h : Hp) (S : Nat → PAL → Option Value) (r0 : Value) (r1 : Int) : Option Value :=
  lenSK r0 fun i0 =>
  boolZ (eqZ i0 (Int.ofNat 0)) fun b1 =>
  ifB b1
  (some (Value.int .i64 (Int.ofNat 0)))
  (lenSK r0 fun i2 =>
  slowI .i64 (binW env .rem 3 (Value.int .i64 r1) (Value.int .i64 i2)) fun i3 =>
  idxSK 1 r0 i3 fun v4 =>
  load1K h v4 fun v5 =>
  intK .u8 v5 fun i6 =>
  wrap64 i6 fun i7 =>
  some (Value.int .i64 i7))
noncomputable def T46 (h : Hp) (S : Nat → PAL → Option Value) : Nat → PAL → Option Value := tabPC 0 (wV fun r0 => wI fun r1 => wN (P46x0 h S r0 r1)) (tabPN)
noncomputable def F46 (args : List Value) (h : Hp) : Option Value := plainO (packArgs [Kd.v, Kd.i .i64] args fun al => G.rec' (T46 h) 1000000 0 al)
def nt46 : Nat := 2 + (16 - 2)
theorem q46x0 (h : Hp) (S : Nat → PAL → Option Value) (r0 : Value) (r1 : Int) : P46x0 h S r0 r1 = G.stepAt packP unpackP evXV (regP env pf23 nt46 h) (finP env Try.f46.results.toList) (G.collect B46 A46 []) 0 S (PAL.v r0 (PAL.i r1 PAL.n)) := by kernel_rfl
theorem t46 (h : Hp) (S : Nat → PAL → Option Value) : TabP (fun l al => G.stepAt packP unpackP evXV (regP env pf23 nt46 h) (finP env Try.f46.results.toList) (G.collect B46 A46 []) l S al) (T46 h S) := by
  unfold T46
  refine TabP.cons 0 (fun vs0 q e0 => ?_) ?_
  · obtain ⟨r0, vs1, rfl, e1⟩ := wV_some e0
    obtain ⟨r1, vs2, rfl, e2⟩ := wI_some e1
    obtain ⟨rfl, ee⟩ := wN_some e2
    exact (q46x0 h S r0 r1).symm.trans ee
  exact TabP.nil
theorem r46 : PSound Try.prog 46 F46 := fun_soundP (C := C0) ok0 (pf := pf23) pfok23 (fn := Try.f46) (body := B46) (kinds := [Kd.v, Kd.i .i64]) (A := A46) (T := T46) (by kernel_rfl) (by kernel_rfl) (by kernel_rfl) (by kernel_rfl) (fun h S => t46 h S)
noncomputable def pf24 : PF := pfC 46 F46 pf23
theorem pfok24 : PfSound Try.prog pf24 := pfC_ok r46 pfok23
noncomputable def orc64 := orcP 46 F46 orc63
noncomputable def C64 : Cfg := cfg orc64
theorem ok64 : C64.Ok := orcP_ok (C := C63) ok63 r46
noncomputable def B38 : Code := (Try.f38.body).getD .skip
def A38 : Ann := (Ann.node (some (0, [(0, Kd.v), (1, Kd.v)])) Ann.nil (Ann.node none Ann.nil (Ann.node none (Ann.node none Ann.nil (Ann.node none (Ann.node (some (1, [(1, Kd.v), (2, Kd.v), (5, Kd.v), (6, Kd.v), (7, Kd.i .i64)])) (Ann.node none (Ann.node none Ann.nil (Ann.node none Ann.nil Ann.nil)) (Ann.node none (Ann.node none Ann.nil Ann.nil) Ann.nil)) Ann.nil) Ann.nil)) (Ann.node (some (5, [(1, Kd.v), (2, Kd.v), (5, Kd.v), (6, Kd.v)])) (Ann.node none Ann.nil (Ann.node none (Ann.node (some (2, [(1, Kd.v), (2, Kd.v), (5, Kd.v), (6, Kd.v), (8, Kd.i .i64)])) (Ann.node none (Ann.node none Ann.nil (Ann.node none Ann.nil Ann.nil)) (Ann.node (some (3, [(1, Kd.v), (2, Kd.v), (5, Kd.v), (6, Kd.v), (8, Kd.i .i64)])) (Ann.node none (Ann.node none Ann.nil (Ann.node none Ann.nil Ann.nil)) Ann.nil) Ann.nil)) Ann.nil) Ann.nil)) (Ann.node (some (4, [(6, Kd.v)])) Ann.nil Ann.nil)))))
noncomputable def P38x4 (S : Sg) (r6 : Value) (h : Hp) : CRes :=
  some (r6, h)
noncomputable def P38x3 (S : Sg) (r1 : Value) (r2 : Value) (r5 : Value) (r6 : Value) (r8 : Int) (h : Hp) : CRes :=
  pairK (optK (F46 [r1, (Value.int .i64 r8)] h) fun v => some (v, h)) fun v0 h0 =>
  intK .i64 v0 fun i1 =>
  lenSK r5 fun i2 =>
  slowI .i64 (binW env .rem 3 (Value.int .i64 i1) (Value.int .i64 i2)) fun i3 =>
  idxSK 1 r5 i3 fun v4 =>
  load1K h0 v4 fun v5 =>
  intK .i64 v5 fun i6 =>
  pairK (buildSliceV env h0 22 1 (List.toArray [(0, (Value.int .i64 i6))])) fun v7 h7 =>
  pairK (appendV env h7 #[22, 22] (List.toArray [r6, v7])) fun v8 h8 =>
  pairK (buildSliceV env (Hp.mk (Hp.next h8) (Hp.next h8) T.nil) 22 0 (List.toArray [])) fun v9 h9 =>
  leftK v9 (Hp.next h8) h9 fun w10 n10 =>
  optK (sliceV env (Hp.mk n10 n10 (Hp.objs h8)) 22 r5 none (some (Value.int .i64 i3)) none) fun v11 =>
  pairK (appendV env (Hp.mk n10 n10 (addAll w10 (Hp.objs h8))) #[22, 22] (List.toArray [v9, v11])) fun v12 h12 =>
  leftK v12 n10 h12 fun w13 n13 =>
  wrap64 (Int.add i3 (Int.ofNat 1)) fun i14 =>
  optK (sliceV env (Hp.mk n13 n13 (Hp.objs h8)) 22 r5 (some (Value.int .i64 i14)) none none) fun v15 =>
  pairK (appendV env (Hp.mk n13 (Hp.ro h8) (addAll w13 (addAll w10 (Hp.objs h8)))) #[22, 22] (List.toArray [v12, v15])) fun v16 h16 =>
  wrap64 (Int.add r8 (Int.ofNat 1)) fun i17 =>
  S 2 (AL.v r1 (AL.v r2 (AL.v v16 (AL.v v8 (AL.i i17 AL.n))))) h16
noncomputable def P38x2 (S : Sg) (r1 : Value) (r2 : Value) (r5 : Value) (r6 : Value) (r8 : Int) (h : Hp) : CRes :=
  ptrAddK 3 r2 fun v0 =>
  load1K h v0 fun v1 =>
  lenSK v1 fun i2 =>
  boolZ (ltZ r8 i2) fun b3 =>
  ifB b3
  (lenSK r5 fun i4 =>
  boolZ (ltZ (Int.ofNat 0) i4) fun b5 =>
  ifB b5
  (S 3 (AL.v r1 (AL.v r2 (AL.v r5 (AL.v r6 (AL.i r8 AL.n))))) h)
  (S 4 (AL.v r6 AL.n) h))
  (S 4 (AL.v r6 AL.n) h)
noncomputable def P38x5 (S : Sg) (r1 : Value) (r2 : Value) (r5 : Value) (r6 : Value) (h : Hp) : CRes :=
  S 2 (AL.v r1 (AL.v r2 (AL.v r5 (AL.v r6 (AL.i (Int.ofNat 0) AL.n))))) h
noncomputable def P38x1 (S : Sg) (r1 : Value) (r2 : Value) (r5 : Value) (r6 : Value) (r7 : Int) (h : Hp) : CRes :=
  ptrAddK 2 r2 fun v0 =>
  load1K h v0 fun v1 =>
  lenSK v1 fun i2 =>
  boolZ (ltZ r7 i2) fun b3 =>
  ifB b3
  (pairK (buildSliceV env h 22 1 (List.toArray [(0, (Value.int .i64 r7))])) fun v4 h4 =>
  pairK (appendV env h4 #[22, 22] (List.toArray [r5, v4])) fun v5 h5 =>
  wrap64 (Int.add r7 (Int.ofNat 1)) fun i6 =>
  S 1 (AL.v r1 (AL.v r2 (AL.v v5 (AL.v r6 (AL.i i6 AL.n))))) h5)
  (S 5 (AL.v r1 (AL.v r2 (AL.v r5 (AL.v r6 AL.n)))) h)
noncomputable def P38x0 (S : Sg) (r0 : Value) (r1 : Value) (h : Hp) : CRes :=
  allocK h 25 (Array.toList (Value.cells r0)) fun a0 h0 =>
  S 1 (AL.v r1 (AL.v a0 (AL.v (Value.slice none 0 0) (AL.v (Value.slice none 0 0) (AL.i (Int.ofNat 0) AL.n))))) h0
noncomputable def T38 (S : Sg) : Sg := tabC 0 (uV fun r0 => uV fun r1 => uN fun h => P38x0 S r0 r1 h) (tabC 1 (uV fun r1 => uV fun r2 => uV fun r5 => uV fun r6 => uI fun r7 => uN fun h => P38x1 S r1 r2 r5 r6 r7 h) (tabC 5 (uV fun r1 => uV fun r2 => uV fun r5 => uV fun r6 => uN fun h => P38x5 S r1 r2 r5 r6 h) (tabC 2 (uV fun r1 => uV fun r2 => uV fun r5 => uV fun r6 => uI fun r8 => uN fun h => P38x2 S r1 r2 r5 r6 r8 h) (tabC 3 (uV fun r1 => uV fun r2 => uV fun r5 => uV fun r6 => uI fun r8 => uN fun h => P38x3 S r1 r2 r5 r6 r8 h) (tabC 4 (uV fun r6 => uN fun h => P38x4 S r6 h) (tabN))))))
noncomputable def F38 (args : List Value) (h : Hp) : CRes := packVals [Kd.v, Kd.v] args fun al => rec' T38 1000000 0 al h
def nt38 : Nat := 2 + (57 - 2)
theorem q38x4 (S : Sg) (r6 : Value) (h : Hp) : P38x4 S r6 h = stepAt (regK env orc64 (nt38)) (finK env Try.f38.results.toList) (collect B38 A38 []) 4 S (AL.v r6 AL.n) h := by kernel_rfl
theorem q38x3 (S : Sg) (r1 : Value) (r2 : Value) (r5 : Value) (r6 : Value) (r8 : Int) (h : Hp) : P38x3 S r1 r2 r5 r6 r8 h = stepAt (regK env orc64 (nt38)) (finK env Try.f38.results.toList) (collect B38 A38 []) 3 S (AL.v r1 (AL.v r2 (AL.v r5 (AL.v r6 (AL.i r8 AL.n))))) h := by kernel_rfl
theorem q38x2 (S : Sg) (r1 : Value) (r2 : Value) (r5 : Value) (r6 : Value) (r8 : Int) (h : Hp) : P38x2 S r1 r2 r5 r6 r8 h = stepAt (regK env orc64 (nt38)) (finK env Try.f38.results.toList) (collect B38 A38 []) 2 S (AL.v r1 (AL.v r2 (AL.v r5 (AL.v r6 (AL.i r8 AL.n))))) h := by kernel_rfl
theorem q38x5 (S : Sg) (r1 : Value) (r2 : Value) (r5 : Value) (r6 : Value) (h : Hp) : P38x5 S r1 r2 r5 r6 h = stepAt (regK env orc64 (nt38)) (finK env Try.f38.results.toList) (collect B38 A38 []) 5 S (AL.v r1 (AL.v r2 (AL.v r5 (AL.v r6 AL.n)))) h := by kernel_rfl
theorem q38x1 (S : Sg) (r1 : Value) (r2 : Value) (r5 : Value) (r6 : Value) (r7 : Int) (h : Hp) : P38x1 S r1 r2 r5 r6 r7 h = stepAt (regK env orc64 (nt38)) (finK env Try.f38.results.toList) (collect B38 A38 []) 1 S (AL.v r1 (AL.v r2 (AL.v r5 (AL.v r6 (AL.i r7 AL.n))))) h := by kernel_rfl
theorem q38x0 (S : Sg) (r0 : Value) (r1 : Value) (h : Hp) : P38x0 S r0 r1 h = stepAt (regK env orc64 (nt38)) (finK env Try.f38.results.toList) (collect B38 A38 []) 0 S (AL.v r0 (AL.v r1 AL.n)) h := by kernel_rfl
theorem t38 (S : Sg) : Tab (fun l vs h => stepAt (regK env orc64 nt38) (finK env Try.f38.results.toList) (collect B38 A38 []) l S vs h) (T38 S) := by
  unfold T38
  refine Tab.cons 0 (fun vs0 h q e0 => ?_) ?_
  · obtain ⟨r0, vs1, rfl, e1⟩ := uV_some e0
    obtain ⟨r1, vs2, rfl, e2⟩ := uV_some e1
    obtain ⟨rfl, ee⟩ := uN_some e2
    exact (q38x0 S r0 r1 h).symm.trans ee
  refine Tab.cons 1 (fun vs0 h q e0 => ?_) ?_
  · obtain ⟨r1, vs1, rfl, e1⟩ := uV_some e0
    obtain ⟨r2, vs2, rfl, e2⟩ := uV_some e1
    obtain ⟨r5, vs3, rfl, e3⟩ := uV_some e2
    obtain ⟨r6, vs4, rfl, e4⟩ := uV_some e3
    obtain ⟨r7, vs5, rfl, e5⟩ := uI_some e4
    obtain ⟨rfl, ee⟩ := uN_some e5
    exact (q38x1 S r1 r2 r5 r6 r7 h).symm.trans ee
  refine Tab.cons 5 (fun vs0 h q e0 => ?_) ?_
  · obtain ⟨r1, vs1, rfl, e1⟩ := uV_some e0
    obtain ⟨r2, vs2, rfl, e2⟩ := uV_some e1
    obtain ⟨r5, vs3, rfl, e3⟩ := uV_some e2
    obtain ⟨r6, vs4, rfl, e4⟩ := uV_some e3
    obtain ⟨rfl, ee⟩ := uN_some e4
    exact (q38x5 S r1 r2 r5 r6 h).symm.trans ee
  refine Tab.cons 2 (fun vs0 h q e0 => ?_) ?_
  · obtain ⟨r1, vs1, rfl, e1⟩ := uV_some e0
    obtain ⟨r2, vs2, rfl, e2⟩ := uV_some e1
    obtain ⟨r5, vs3, rfl, e3⟩ := uV_some e2
    obtain ⟨r6, vs4, rfl, e4⟩ := uV_some e3
    obtain ⟨r8, vs5, rfl, e5⟩ := uI_some e4
    obtain ⟨rfl, ee⟩ := uN_some e5
    exact (q38x2 S r1 r2 r5 r6 r8 h).symm.trans ee
  refine Tab.cons 3 (fun vs0 h q e0 => ?_) ?_
  · obtain ⟨r1, vs1, rfl, e1⟩ := uV_some e0
    obtain ⟨r2, vs2, rfl, e2⟩ := uV_some e1
    obtain ⟨r5, vs3, rfl, e3⟩ := uV_some e2
    obtain ⟨r6, vs4, rfl, e4⟩ := uV_some e3
    obtain ⟨r8, vs5, rfl, e5⟩ := uI_some e4
    obtain ⟨rfl, ee⟩ := uN_some e5
    exact (q38x3 S r1 r2 r5 r6 r8 h).symm.trans ee
  refine Tab.cons 4 (fun vs0 h q e0 => ?_) ?_
  · obtain ⟨r6, vs1, rfl, e1⟩ := uV_some e0
    obtain ⟨rfl, ee⟩ := uN_some e1
    exact (q38x4 S r6 h).symm.trans ee
  exact Tab.nil
theorem r38 : ∀ args h v h', F38 args h = some (v, h') → Runs (C64) (.call 38 args.toArray h) (.ret v h') := by
  intro args h v h' e
  exact fun_sound (C := C64) (fn := Try.f38) (body := B38) (np := 2) (A := A38) (T := T38) (kinds := [Kd.v, Kd.v]) (by kernel_rfl) (by kernel_rfl) (by kernel_rfl) (by kernel_rfl) (regK_ok env_ok) (by kernel_rfl) (fun S => t38 S) e
noncomputable def orc65 := orcQ 38 F38 orc64
noncomputable def C65 : Cfg := cfg orc65
theorem ok65 : C65.Ok := orcQ_ok (C := C64) ok64 r38
noncomputable def B12 : Code := (Try.f12.body).getD .skip
def A12 : Ann := (Ann.node (some (0, [(0, Kd.v), (1, Kd.v)])) Ann.nil (Ann.node none (Ann.node none Ann.nil (Ann.node none (Ann.node none Ann.nil (Ann.node none Ann.nil Ann.nil)) Ann.nil)) (Ann.node none Ann.nil (Ann.node none Ann.nil (Ann.node none (Ann.node none Ann.nil (Ann.node none (Ann.node none Ann.nil Ann.nil) Ann.nil)) (Ann.node none Ann.nil (Ann.node none (Ann.node none Ann.nil (Ann.node none (Ann.node (some (1, [(2, Kd.v), (7, Kd.v), (8, Kd.v), (9, Kd.i .i64), (10, Kd.i .i64), (11, Kd.i .i64)])) (Ann.node none (Ann.node none Ann.nil (Ann.node none Ann.nil Ann.nil)) (Ann.node none (Ann.node none Ann.nil Ann.nil) Ann.nil)) Ann.nil) Ann.nil)) (Ann.node (some (8, [(2, Kd.v), (7, Kd.v), (8, Kd.v), (9, Kd.i .i64), (10, Kd.i .i64)])) (Ann.node none Ann.nil (Ann.node none (Ann.node (some (2, [(2, Kd.v), (7, Kd.v), (8, Kd.v), (9, Kd.i .i64), (10, Kd.i .i64), (12, Kd.i .i64)])) (Ann.node none (Ann.node none Ann.nil (Ann.node none Ann.nil Ann.nil)) (Ann.node none (Ann.node none (Ann.node none Ann.nil (Ann.node none Ann.nil (Ann.node (some (3, [(2, Kd.v), (7, Kd.v), (8, Kd.v), (9, Kd.i .i64), (10, Kd.i .i64), (12, Kd.i .i64), (13, Kd.v), (14, Kd.v), (102, Kd.b)])) Ann.nil Ann.nil))) Ann.nil) (Ann.node (some (4, [(2, Kd.v), (7, Kd.v), (8, Kd.v), (9, Kd.i .i64), (10, Kd.i .i64), (12, Kd.i .i64)])) Ann.nil Ann.nil))) Ann.nil) Ann.nil)) (Ann.node (some (7, [(2, Kd.v), (8, Kd.v), (9, Kd.i .i64), (10, Kd.i .i64)])) (Ann.node none Ann.nil (Ann.node none (Ann.node (some (5, [(2, Kd.v), (8, Kd.v), (9, Kd.i .i64), (10, Kd.i .i64), (15, Kd.i .i64)])) (Ann.node none (Ann.node none Ann.nil (Ann.node none Ann.nil Ann.nil)) (Ann.node none (Ann.node none Ann.nil Ann.nil) Ann.nil)) Ann.nil) Ann.nil)) (Ann.node (some (6, [(2, Kd.v), (8, Kd.v), (9, Kd.i .i64), (10, Kd.i .i64)])) Ann.nil Ann.nil))))))))))
noncomputable def P12x6 (S : Sg) (r2 : Value) (r8 : Value) (r9 : Int) (r10 : Int) (h : Hp) : CRes :=
  boolZ (eqZ r9 (Int.ofNat 0)) fun b0 =>
  ifB b0
  (lenSK r8 fun i1 =>
  ptrAddK 1 r2 fun v2 =>
  load1K h v2 fun v3 =>
  lenSK v3 fun i4 =>
  boolZ (eqZ i1 i4) fun b5 =>
  ifB b5
  (boolZ (eqZ r10 (Int.ofNat 0)) fun b6 =>
  ifB b6
  (pairK (optK (FM21 [] h) fun v => some (v, h)) fun v7 h7 =>
  boolK v7 fun b8 =>
  some ((Value.bool b8), h7))
  (some ((Value.bool false), h)))
  (some ((Value.bool false), h)))
  (some ((Value.bool false), h))
noncomputable def P12x5 (S : Sg) (r2 : Value) (r8 : Value) (r9 : Int) (r10 : Int) (r15 : Int) (h : Hp) : CRes :=
  lenSK r8 fun i0 =>
  boolZ (ltZ r15 i0) fun b1 =>
  ifB b1
  (idxSK 1 r8 r15 fun v2 =>
  load1K h v2 fun v3 =>
  intK .i64 v3 fun i4 =>
  wrap64 (Int.sub r10 i4) fun i5 =>
  wrap64 (Int.add r15 (Int.ofNat 1)) fun i6 =>
  S 5 (AL.v r2 (AL.v r8 (AL.i r9 (AL.i i5 (AL.i i6 AL.n))))) h)
  (S 6 (AL.v r2 (AL.v r8 (AL.i r9 (AL.i r10 AL.n)))) h)
noncomputable def P12x7 (S : Sg) (r2 : Value) (r8 : Value) (r9 : Int) (r10 : Int) (h : Hp) : CRes :=
  S 5 (AL.v r2 (AL.v r8 (AL.i r9 (AL.i r10 (AL.i (Int.ofNat 0) AL.n))))) h
noncomputable def P12x4 (S : Sg) (r2 : Value) (r7 : Value) (r8 : Value) (r9 : Int) (r10 : Int) (r12 : Int) (h : Hp) : CRes :=
  wrap64 (Int.add r12 (Int.ofNat 1)) fun i0 =>
  S 2 (AL.v r2 (AL.v r7 (AL.v r8 (AL.i r9 (AL.i r10 (AL.i i0 AL.n)))))) h
noncomputable def P12x3 (S : Sg) (r2 : Value) (r7 : Value) (r8 : Value) (r9 : Int) (r10 : Int) (r12 : Int) (r13 : Value) (r14 : Value) (r102 : Bool) (h : Hp) : CRes :=
  ifB r102
  (ptrAddK 2 r13 fun v0 =>
  load1K h v0 fun v1 =>
  intK .i64 v1 fun i2 =>
  wrap64 (Int.add r10 i2) fun i3 =>
  ptrAddK 2 r14 fun v4 =>
  load1K h v4 fun v5 =>
  intK .i64 v5 fun i6 =>
  wrap64 (Int.sub i3 i6) fun i7 =>
  S 4 (AL.v r2 (AL.v r7 (AL.v r8 (AL.i r9 (AL.i i7 (AL.i r12 AL.n)))))) h)
  (S 4 (AL.v r2 (AL.v r7 (AL.v r8 (AL.i r9 (AL.i r10 (AL.i r12 AL.n)))))) h)
noncomputable def P12x2 (S : Sg) (r2 : Value) (r7 : Value) (r8 : Value) (r9 : Int) (r10 : Int) (r12 : Int) (h : Hp) : CRes :=
  lenSK r7 fun i0 =>
  boolZ (ltZ r12 i0) fun b1 =>
  ifB b1
  (ptrAddK 2 r2 fun v2 =>
  load1K (Hp.mk (Hp.next h) (Hp.next h) (Hp.objs h)) v2 fun v3 =>
  idxSK 1 r7 r12 fun v4 =>
  load1K (Hp.mk (Hp.next h) (Hp.next h) (Hp.objs h)) v4 fun v5 =>
  intK .i64 v5 fun i6 =>
  idxSK 3 v3 i6 fun v7 =>
  loadNK 3 (Hp.mk (Hp.next h) (Hp.next h) (Hp.objs h)) v7 fun v8 =>
  ptrAddK 3 r2 fun v9 =>
  load1K (Hp.mk (Hp.next h) (Hp.next h) (Hp.objs h)) v9 fun v10 =>
  idxSK 3 v10 r12 fun v11 =>
  loadNK 3 (Hp.mk (Hp.next h) (Hp.next h) (Hp.objs h)) v11 fun v12 =>
  allocK (Hp.mk (Hp.next h) (Hp.next h) T.nil) 59 [(Value.string (ByteArray.mk #[])), (Value.slice none 0 0), (Value.int .i64 (Int.ofNat 0))] fun a13 h13 =>
  leftK a13 (Hp.next h) h13 fun w14 n14 =>
  allocK (Hp.mk n14 n14 T.nil) 59 [(Value.string (ByteArray.mk #[])), (Value.slice none 0 0), (Value.int .i64 (Int.ofNat 0))] fun a15 h15 =>
  leftK a15 n14 h15 fun w16 n16 =>
  storeQ env 59 a13 v8 n16 (Hp.next h) (addAll w16 (addAll w14 (Hp.objs h))) (fun b => (hasBlk [] b || (hasBlk [] b || (hasBlk [] b || (hasBlk [] b || (hasBlk [] b || (hasBlk [] b || (hasBlk [] b || (hasBlk [] b || (hasBlk w14 b || (hasBlk w16 b || false))))))))))) fun w17 =>
  storeNK 3 (Hp.mk n16 (Hp.ro h) (addAll w17 (addAll w16 (addAll w14 (Hp.objs h))))) a15 v12 fun h18 =>
  ptrAddK 1 a15 fun v19 =>
  load1K h18 v19 fun v20 =>
  idxSK 1 v20 (Int.ofNat 0) fun v21 =>
  load1K h18 v21 fun v22 =>
  intK .i64 v22 fun i23 =>
  boolN (eqZ i23 (Int.negSucc 0)) fun b24 =>
  ifB b24
  (ptrAddK 1 a15 fun v25 =>
  load1K h18 v25 fun v26 =>
  idxSK 1 v26 (Int.ofNat 0) fun v27 =>
  load1K h18 v27 fun v28 =>
  intK .i64 v28 fun i29 =>
  ptrAddK 1 a13 fun v30 =>
  load1K h18 v30 fun v31 =>
  idxSK 1 v31 (Int.ofNat 0) fun v32 =>
  load1K h18 v32 fun v33 =>
  intK .i64 v33 fun i34 =>
  boolN (eqZ i29 i34) fun b35 =>
  S 3 (AL.v r2 (AL.v r7 (AL.v r8 (AL.i r9 (AL.i r10 (AL.i r12 (AL.v a13 (AL.v a15 (AL.b b35 AL.n))))))))) h18)
  (S 3 (AL.v r2 (AL.v r7 (AL.v r8 (AL.i r9 (AL.i r10 (AL.i r12 (AL.v a13 (AL.v a15 (AL.b false AL.n))))))))) h18))
  (S 7 (AL.v r2 (AL.v r8 (AL.i r9 (AL.i r10 AL.n)))) h)
noncomputable def P12x8 (S : Sg) (r2 : Value) (r7 : Value) (r8 : Value) (r9 : Int) (r10 : Int) (h : Hp) : CRes :=
  S 2 (AL.v r2 (AL.v r7 (AL.v r8 (AL.i r9 (AL.i r10 (AL.i (Int.ofNat 0) AL.n)))))) h
noncomputable def P12x1 (S : Sg) (r2 : Value) (r7 : Value) (r8 : Value) (r9 : Int) (r10 : Int) (r11 : Int) (h : Hp) : CRes :=
  ptrAddK 1 r2 fun v0 =>
  load1K h v0 fun v1 =>
  lenSK v1 fun i2 =>
  boolZ (ltZ r11 i2) fun b3 =>
  ifB b3
  (ptrAddK 1 r2 fun v4 =>
  load1K h v4 fun v5 =>
  idxSK 1 v5 r11 fun v6 =>
  load1K h v6 fun v7 =>
  intK .i64 v7 fun i8 =>
  wrap64 (Int.add r10 i8) fun i9 =>
  wrap64 (Int.add r11 (Int.ofNat 1)) fun i10 =>
  S 1 (AL.v r2 (AL.v r7 (AL.v r8 (AL.i r9 (AL.i i9 (AL.i i10 AL.n)))))) h)
  (S 8 (AL.v r2 (AL.v r7 (AL.v r8 (AL.i r9 (AL.i r10 AL.n))))) h)
noncomputable def P12x0 (S : Sg) (r0 : Value) (r1 : Value) (h : Hp) : CRes :=
  allocK h 25 (Array.toList (Value.cells r0)) fun a0 h0 =>
  loadNK 4 h0 a0 fun v1 =>
  pairK (callQ F37 [v1] h0) fun v2 h2 =>
  boolK v2 fun b3 =>
  boolN b3 fun b4 =>
  ifB b4
  (loadNK 4 h2 a0 fun v5 =>
  pairK (callQ F22 [v5, (Value.slice none 0 0)] h2) fun v6 h6 =>
  extK v6 0 fun v7 =>
  extK v6 1 fun v8 =>
  intK .i64 v8 fun i9 =>
  boolN (eqZ i9 (Int.ofNat 0)) fun b10 =>
  ifB b10
  (pairK (optK (FM21 [] h6) fun v => some (v, h6)) fun v11 h11 =>
  boolK v11 fun b12 =>
  some ((Value.bool b12), h11))
  (some ((Value.bool false), h6)))
  (loadNK 4 h2 a0 fun v13 =>
  pairK (callQ F38 [v13, r1] h2) fun v14 h14 =>
  loadNK 4 h14 a0 fun v15 =>
  pairK (callQ F22 [v15, v14] h14) fun v16 h16 =>
  extK v16 0 fun v17 =>
  extK v16 1 fun v18 =>
  intK .i64 v18 fun i19 =>
  lenSK v14 fun i20 =>
  ptrAddK 3 a0 fun v21 =>
  load1K h16 v21 fun v22 =>
  lenSK v22 fun i23 =>
  boolN (eqZ i20 i23) fun b24 =>
  ifB b24
  (boolZ (eqZ i19 (Int.ofNat 3)) fun b25 =>
  ifB b25
  (lenSK v17 fun i26 =>
  boolZ (eqZ i26 (Int.ofNat 0)) fun b27 =>
  ifB b27
  (pairK (optK (FM21 [] h16) fun v => some (v, h16)) fun v28 h28 =>
  boolK v28 fun b29 =>
  some ((Value.bool b29), h28))
  (some ((Value.bool false), h16)))
  (some ((Value.bool false), h16)))
  (S 1 (AL.v a0 (AL.v v14 (AL.v v17 (AL.i i19 (AL.i (Int.ofNat 0) (AL.i (Int.ofNat 0) AL.n)))))) h16))
noncomputable def T12 (S : Sg) : Sg := tabC 0 (uV fun r0 => uV fun r1 => uN fun h => P12x0 S r0 r1 h) (tabC 1 (uV fun r2 => uV fun r7 => uV fun r8 => uI fun r9 => uI fun r10 => uI fun r11 => uN fun h => P12x1 S r2 r7 r8 r9 r10 r11 h) (tabC 8 (uV fun r2 => uV fun r7 => uV fun r8 => uI fun r9 => uI fun r10 => uN fun h => P12x8 S r2 r7 r8 r9 r10 h) (tabC 2 (uV fun r2 => uV fun r7 => uV fun r8 => uI fun r9 => uI fun r10 => uI fun r12 => uN fun h => P12x2 S r2 r7 r8 r9 r10 r12 h) (tabC 3 (uV fun r2 => uV fun r7 => uV fun r8 => uI fun r9 => uI fun r10 => uI fun r12 => uV fun r13 => uV fun r14 => uB fun r102 => uN fun h => P12x3 S r2 r7 r8 r9 r10 r12 r13 r14 r102 h) (tabC 4 (uV fun r2 => uV fun r7 => uV fun r8 => uI fun r9 => uI fun r10 => uI fun r12 => uN fun h => P12x4 S r2 r7 r8 r9 r10 r12 h) (tabC 7 (uV fun r2 => uV fun r8 => uI fun r9 => uI fun r10 => uN fun h => P12x7 S r2 r8 r9 r10 h) (tabC 5 (uV fun r2 => uV fun r8 => uI fun r9 => uI fun r10 => uI fun r15 => uN fun h => P12x5 S r2 r8 r9 r10 r15 h) (tabC 6 (uV fun r2 => uV fun r8 => uI fun r9 => uI fun r10 => uN fun h => P12x6 S r2 r8 r9 r10 h) (tabN)))))))))
noncomputable def F12 (args : List Value) (h : Hp) : CRes := packVals [Kd.v, Kd.v] args fun al => rec' T12 1000000 0 al h
def nt12 : Nat := 2 + (139 - 2)
theorem q12x6 (S : Sg) (r2 : Value) (r8 : Value) (r9 : Int) (r10 : Int) (h : Hp) : P12x6 S r2 r8 r9 r10 h = stepAt (regK env orc65 (nt12)) (finK env Try.f12.results.toList) (collect B12 A12 []) 6 S (AL.v r2 (AL.v r8 (AL.i r9 (AL.i r10 AL.n)))) h := by kernel_rfl
theorem q12x5 (S : Sg) (r2 : Value) (r8 : Value) (r9 : Int) (r10 : Int) (r15 : Int) (h : Hp) : P12x5 S r2 r8 r9 r10 r15 h = stepAt (regK env orc65 (nt12)) (finK env Try.f12.results.toList) (collect B12 A12 []) 5 S (AL.v r2 (AL.v r8 (AL.i r9 (AL.i r10 (AL.i r15 AL.n))))) h := by kernel_rfl
theorem q12x7 (S : Sg) (r2 : Value) (r8 : Value) (r9 : Int) (r10 : Int) (h : Hp) : P12x7 S r2 r8 r9 r10 h = stepAt (regK env orc65 (nt12)) (finK env Try.f12.results.toList) (collect B12 A12 []) 7 S (AL.v r2 (AL.v r8 (AL.i r9 (AL.i r10 AL.n)))) h := by kernel_rfl
theorem q12x4 (S : Sg) (r2 : Value) (r7 : Value) (r8 : Value) (r9 : Int) (r10 : Int) (r12 : Int) (h : Hp) : P12x4 S r2 r7 r8 r9 r10 r12 h = stepAt (regK env orc65 (nt12)) (finK env Try.f12.results.toList) (collect B12 A12 []) 4 S (AL.v r2 (AL.v r7 (AL.v r8 (AL.i r9 (AL.i r10 (AL.i r12 AL.n)))))) h := by kernel_rfl
theorem q12x3 (S : Sg) (r2 : Value) (r7 : Value) (r8 : Value) (r9 : Int) (r10 : Int) (r12 : Int) (r13 : Value) (r14 : Value) (r102 : Bool) (h : Hp) : P12x3 S r2 r7 r8 r9 r10 r12 r13 r14 r102 h = stepAt (regK env orc65 (nt12)) (finK env Try.f12.results.toList) (collect B12 A12 []) 3 S (AL.v r2 (AL.v r7 (AL.v r8 (AL.i r9 (AL.i r10 (AL.i r12 (AL.v r13 (AL.v r14 (AL.b r102 AL.n))))))))) h := by kernel_rfl
theorem q12x2 (S : Sg) (r2 : Value) (r7 : Value) (r8 : Value) (r9 : Int) (r10 : Int) (r12 : Int) (h : Hp) : P12x2 S r2 r7 r8 r9 r10 r12 h = stepAt (regK env orc65 (nt12)) (finK env Try.f12.results.toList) (collect B12 A12 []) 2 S (AL.v r2 (AL.v r7 (AL.v r8 (AL.i r9 (AL.i r10 (AL.i r12 AL.n)))))) h := by kernel_rfl
theorem q12x8 (S : Sg) (r2 : Value) (r7 : Value) (r8 : Value) (r9 : Int) (r10 : Int) (h : Hp) : P12x8 S r2 r7 r8 r9 r10 h = stepAt (regK env orc65 (nt12)) (finK env Try.f12.results.toList) (collect B12 A12 []) 8 S (AL.v r2 (AL.v r7 (AL.v r8 (AL.i r9 (AL.i r10 AL.n))))) h := by kernel_rfl
theorem q12x1 (S : Sg) (r2 : Value) (r7 : Value) (r8 : Value) (r9 : Int) (r10 : Int) (r11 : Int) (h : Hp) : P12x1 S r2 r7 r8 r9 r10 r11 h = stepAt (regK env orc65 (nt12)) (finK env Try.f12.results.toList) (collect B12 A12 []) 1 S (AL.v r2 (AL.v r7 (AL.v r8 (AL.i r9 (AL.i r10 (AL.i r11 AL.n)))))) h := by kernel_rfl
theorem q12x0 (S : Sg) (r0 : Value) (r1 : Value) (h : Hp) : P12x0 S r0 r1 h = stepAt (regK env orc65 (nt12)) (finK env Try.f12.results.toList) (collect B12 A12 []) 0 S (AL.v r0 (AL.v r1 AL.n)) h := by kernel_rfl
theorem t12 (S : Sg) : Tab (fun l vs h => stepAt (regK env orc65 nt12) (finK env Try.f12.results.toList) (collect B12 A12 []) l S vs h) (T12 S) := by
  unfold T12
  refine Tab.cons 0 (fun vs0 h q e0 => ?_) ?_
  · obtain ⟨r0, vs1, rfl, e1⟩ := uV_some e0
    obtain ⟨r1, vs2, rfl, e2⟩ := uV_some e1
    obtain ⟨rfl, ee⟩ := uN_some e2
    exact (q12x0 S r0 r1 h).symm.trans ee
  refine Tab.cons 1 (fun vs0 h q e0 => ?_) ?_
  · obtain ⟨r2, vs1, rfl, e1⟩ := uV_some e0
    obtain ⟨r7, vs2, rfl, e2⟩ := uV_some e1
    obtain ⟨r8, vs3, rfl, e3⟩ := uV_some e2
    obtain ⟨r9, vs4, rfl, e4⟩ := uI_some e3
    obtain ⟨r10, vs5, rfl, e5⟩ := uI_some e4
    obtain ⟨r11, vs6, rfl, e6⟩ := uI_some e5
    obtain ⟨rfl, ee⟩ := uN_some e6
    exact (q12x1 S r2 r7 r8 r9 r10 r11 h).symm.trans ee
  refine Tab.cons 8 (fun vs0 h q e0 => ?_) ?_
  · obtain ⟨r2, vs1, rfl, e1⟩ := uV_some e0
    obtain ⟨r7, vs2, rfl, e2⟩ := uV_some e1
    obtain ⟨r8, vs3, rfl, e3⟩ := uV_some e2
    obtain ⟨r9, vs4, rfl, e4⟩ := uI_some e3
    obtain ⟨r10, vs5, rfl, e5⟩ := uI_some e4
    obtain ⟨rfl, ee⟩ := uN_some e5
    exact (q12x8 S r2 r7 r8 r9 r10 h).symm.trans ee
  refine Tab.cons 2 (fun vs0 h q e0 => ?_) ?_
  · obtain ⟨r2, vs1, rfl, e1⟩ := uV_some e0
    obtain ⟨r7, vs2, rfl, e2⟩ := uV_some e1
    obtain ⟨r8, vs3, rfl, e3⟩ := uV_some e2
    obtain ⟨r9, vs4, rfl, e4⟩ := uI_some e3
    obtain ⟨r10, vs5, rfl, e5⟩ := uI_some e4
    obtain ⟨r12, vs6, rfl, e6⟩ := uI_some e5
    obtain ⟨rfl, ee⟩ := uN_some e6
    exact (q12x2 S r2 r7 r8 r9 r10 r12 h).symm.trans ee
  refine Tab.cons 3 (fun vs0 h q e0 => ?_) ?_
  · obtain ⟨r2, vs1, rfl, e1⟩ := uV_some e0
    obtain ⟨r7, vs2, rfl, e2⟩ := uV_some e1
    obtain ⟨r8, vs3, rfl, e3⟩ := uV_some e2
    obtain ⟨r9, vs4, rfl, e4⟩ := uI_some e3
    obtain ⟨r10, vs5, rfl, e5⟩ := uI_some e4
    obtain ⟨r12, vs6, rfl, e6⟩ := uI_some e5
    obtain ⟨r13, vs7, rfl, e7⟩ := uV_some e6
    obtain ⟨r14, vs8, rfl, e8⟩ := uV_some e7
    obtain ⟨r102, vs9, rfl, e9⟩ := uB_some e8
    obtain ⟨rfl, ee⟩ := uN_some e9
    exact (q12x3 S r2 r7 r8 r9 r10 r12 r13 r14 r102 h).symm.trans ee
  refine Tab.cons 4 (fun vs0 h q e0 => ?_) ?_
  · obtain ⟨r2, vs1, rfl, e1⟩ := uV_some e0
    obtain ⟨r7, vs2, rfl, e2⟩ := uV_some e1
    obtain ⟨r8, vs3, rfl, e3⟩ := uV_some e2
    obtain ⟨r9, vs4, rfl, e4⟩ := uI_some e3
    obtain ⟨r10, vs5, rfl, e5⟩ := uI_some e4
    obtain ⟨r12, vs6, rfl, e6⟩ := uI_some e5
    obtain ⟨rfl, ee⟩ := uN_some e6
    exact (q12x4 S r2 r7 r8 r9 r10 r12 h).symm.trans ee
  refine Tab.cons 7 (fun vs0 h q e0 => ?_) ?_
  · obtain ⟨r2, vs1, rfl, e1⟩ := uV_some e0
    obtain ⟨r8, vs2, rfl, e2⟩ := uV_some e1
    obtain ⟨r9, vs3, rfl, e3⟩ := uI_some e2
    obtain ⟨r10, vs4, rfl, e4⟩ := uI_some e3
    obtain ⟨rfl, ee⟩ := uN_some e4
    exact (q12x7 S r2 r8 r9 r10 h).symm.trans ee
  refine Tab.cons 5 (fun vs0 h q e0 => ?_) ?_
  · obtain ⟨r2, vs1, rfl, e1⟩ := uV_some e0
    obtain ⟨r8, vs2, rfl, e2⟩ := uV_some e1
    obtain ⟨r9, vs3, rfl, e3⟩ := uI_some e2
    obtain ⟨r10, vs4, rfl, e4⟩ := uI_some e3
    obtain ⟨r15, vs5, rfl, e5⟩ := uI_some e4
    obtain ⟨rfl, ee⟩ := uN_some e5
    exact (q12x5 S r2 r8 r9 r10 r15 h).symm.trans ee
  refine Tab.cons 6 (fun vs0 h q e0 => ?_) ?_
  · obtain ⟨r2, vs1, rfl, e1⟩ := uV_some e0
    obtain ⟨r8, vs2, rfl, e2⟩ := uV_some e1
    obtain ⟨r9, vs3, rfl, e3⟩ := uI_some e2
    obtain ⟨r10, vs4, rfl, e4⟩ := uI_some e3
    obtain ⟨rfl, ee⟩ := uN_some e4
    exact (q12x6 S r2 r8 r9 r10 h).symm.trans ee
  exact Tab.nil
theorem r12 : ∀ args h v h', F12 args h = some (v, h') → Runs (C65) (.call 12 args.toArray h) (.ret v h') := by
  intro args h v h' e
  exact fun_sound (C := C65) (fn := Try.f12) (body := B12) (np := 2) (A := A12) (T := T12) (kinds := [Kd.v, Kd.v]) (by kernel_rfl) (by kernel_rfl) (by kernel_rfl) (by kernel_rfl) (regK_ok env_ok) (by kernel_rfl) (fun S => t12 S) e
noncomputable def orc66 := orcQ 12 F12 orc65
noncomputable def C66 : Cfg := cfg orc66
theorem ok66 : C66.Ok := orcQ_ok (C := C65) ok65 r12
noncomputable abbrev orcLaw := orc66
theorem okLaw : (cfg orcLaw).Ok := ok66
end Go.Proofs.Ytepepiajmdpiiaa.K.L
