/- Functions told for the laws. -/
import Derived.Test.YtaegcofpbihmhaaAwake
open Go Go.Eng
set_option maxRecDepth 100000
set_option linter.unusedVariables false
namespace Go.Proofs.Ytaegcofpbihmhaa.K.L
noncomputable def FM17 : List Value → Hp → Option Value := constF (.bool true)
theorem rm17 : PSound Try.prog 17 FM17 := awakeP
noncomputable def pf29 : PF := pfC 17 FM17 pf28
theorem pfok29 : PfSound Try.prog pf29 := pfC_ok rm17 pfok28
noncomputable def orc70 := orcP 17 FM17 orc69
noncomputable def C70 : Cfg := cfg orc70
theorem ok70 : C70.Ok := orcP_ok (C := C69) ok69 rm17
noncomputable def B95 : Code := (Try.f95.body).getD .skip
noncomputable def A95 : G.Ann (List KI) := (G.Ann.node (some (0, [KI.reg 0 (Kd.i .i64), KI.reg 1 (Kd.i .i64), KI.reg 2 (Kd.i .i64)])) al (an al al))
noncomputable def P95x0 (h : Hp) (S : Nat → PAL → Option Value) (r0 : Int) (r1 : Int) (r2 : Int) : Option Value :=
  boolN (ltZ r0 r1) fun b0 =>
  ifB b0
  (boolN (ltZ r2 r0) fun b1 =>
  some (Value.bool b1))
  (some (Value.bool false))
noncomputable def T95 (h : Hp) (S : Nat → PAL → Option Value) : Nat → PAL → Option Value := tabPC 0 (wI fun r0 => wI fun r1 => wI fun r2 => wN (P95x0 h S r0 r1 r2)) (tabPN)
noncomputable def F95 (args : List Value) (h : Hp) : Option Value := plainO (packArgs [Kd.i .i64, Kd.i .i64, Kd.i .i64] args fun al => G.rec' (T95 h) 1000000 0 al)
def nt95 : Nat := 3 + (15 - 3)
theorem q95x0 (h : Hp) (S : Nat → PAL → Option Value) (r0 : Int) (r1 : Int) (r2 : Int) : P95x0 h S r0 r1 r2 = G.stepAt packP unpackP evXV (regP env pf29 nt95 h) (finP env Try.f95.results.toList) (G.collect B95 A95 []) 0 S (PAL.i r0 (PAL.i r1 (PAL.i r2 PAL.n))) := by kernel_rfl
theorem t95 (h : Hp) (S : Nat → PAL → Option Value) : TabP (fun l al => G.stepAt packP unpackP evXV (regP env pf29 nt95 h) (finP env Try.f95.results.toList) (G.collect B95 A95 []) l S al) (T95 h S) := by
  unfold T95
  refine TabP.cons 0 (fun vs0 q e0 => ?_) ?_
  · obtain ⟨r0, vs1, rfl, e1⟩ := wI_some e0
    obtain ⟨r1, vs2, rfl, e2⟩ := wI_some e1
    obtain ⟨r2, vs3, rfl, e3⟩ := wI_some e2
    obtain ⟨rfl, ee⟩ := wN_some e3
    exact (q95x0 h S r0 r1 r2).symm.trans ee
  exact TabP.nil
theorem r95 : PSound Try.prog 95 F95 := fun_soundP (C := C0) ok0 (pf := pf29) pfok29 (fn := Try.f95) (body := B95) (kinds := [Kd.i .i64, Kd.i .i64, Kd.i .i64]) (A := A95) (T := T95) (by kernel_rfl) (by kernel_rfl) (by kernel_rfl) (by kernel_rfl) (fun h S => t95 h S)
noncomputable def pf30 : PF := pfC 95 F95 pf29
theorem pfok30 : PfSound Try.prog pf30 := pfC_ok r95 pfok29
noncomputable def orc71 := orcP 95 F95 orc70
noncomputable def C71 : Cfg := cfg orc71
theorem ok71 : C71.Ok := orcP_ok (C := C70) ok70 r95
noncomputable def B71 : Code := (Try.f71.body).getD .skip
noncomputable def A71 : G.Ann (List KI) := (G.Ann.node (some (0, [KI.reg 0 (Kd.v)])) al (an (an al (an (an al al) al)) (an (an al (an (G.Ann.node (some (1, [KI.reg 0 (Kd.v), KI.reg 3 (Kd.i .i64)])) (an (an al (an al al)) (an (an (an al (an al (G.Ann.node (some (2, [KI.reg 0 (Kd.v), KI.reg 3 (Kd.i .i64), KI.reg 4 (Kd.b), KI.reg 5 (Kd.b)])) al (an (an al al) al)))) al) (G.Ann.node (some (3, [KI.reg 0 (Kd.v), KI.reg 3 (Kd.i .i64)])) al al))) al) al)) (G.Ann.node (some (4, [])) al al))))
noncomputable def P71x4 (h : Hp) (S : Nat → PAL → Option Value) : Option Value :=
  some (Value.bool true)
noncomputable def P71x3 (h : Hp) (S : Nat → PAL → Option Value) (r0 : Value) (r3 : Int) : Option Value :=
  wrap64 (Int.add r3 (Int.ofNat 1)) fun i0 =>
  S 1 (PAL.v r0 (PAL.i i0 PAL.n))
noncomputable def P71x2 (h : Hp) (S : Nat → PAL → Option Value) (r0 : Value) (r3 : Int) (r4 : Bool) (r5 : Bool) : Option Value :=
  boolN r4 fun b0 =>
  ifB b0
  (boolZ (eqZ r3 (Int.ofNat 0)) fun b1 =>
  ifB b1
  (some (Value.bool false))
  (boolN r5 fun b2 =>
  ifB b2
  (some (Value.bool false))
  (S 3 (PAL.v r0 (PAL.i r3 PAL.n)))))
  (S 3 (PAL.v r0 (PAL.i r3 PAL.n)))
noncomputable def P71x1 (h : Hp) (S : Nat → PAL → Option Value) (r0 : Value) (r3 : Int) : Option Value :=
  lenBK r0 fun i0 =>
  boolZ (ltZ r3 i0) fun b1 =>
  ifB b1
  (optK (indexV env 9 r0 (Value.int .i64 r3)) fun v2 =>
  intK .u8 v2 fun i3 =>
  wrap64 i3 fun i4 =>
  optK (F95 [(Value.int .i64 i4), (ki 97), (ki 122)] h) fun v5 =>
  boolK v5 fun b6 =>
  optK (indexV env 9 r0 (Value.int .i64 r3)) fun v7 =>
  intK .u8 v7 fun i8 =>
  wrap64 i8 fun i9 =>
  optK (F95 [(Value.int .i64 i9), (ki 48), (ki 57)] h) fun v10 =>
  boolK v10 fun b11 =>
  ifB b11
  (S 2 (PAL.v r0 (PAL.i r3 (PAL.b b6 (PAL.b true PAL.n)))))
  (optK (indexV env 9 r0 (Value.int .i64 r3)) fun v12 =>
  intK .u8 v12 fun i13 =>
  boolZ (eqZ i13 (Int.ofNat 46)) fun b14 =>
  S 2 (PAL.v r0 (PAL.i r3 (PAL.b b6 (PAL.b b14 PAL.n))))))
  (S 4 PAL.n)
noncomputable def P71x0 (h : Hp) (S : Nat → PAL → Option Value) (r0 : Value) : Option Value :=
  lenBK r0 fun i0 =>
  boolZ (eqZ i0 (Int.ofNat 0)) fun b1 =>
  ifB b1
  (some (Value.bool false))
  (lenBK r0 fun i2 =>
  boolZ (ltZ (Int.ofNat 16) i2) fun b3 =>
  ifB b3
  (some (Value.bool false))
  (S 1 (PAL.v r0 (PAL.i (Int.ofNat 0) PAL.n))))
noncomputable def T71 (h : Hp) (S : Nat → PAL → Option Value) : Nat → PAL → Option Value := tabPC 0 (wV fun r0 => wN (P71x0 h S r0)) (tabPC 1 (wV fun r0 => wI fun r3 => wN (P71x1 h S r0 r3)) (tabPC 2 (wV fun r0 => wI fun r3 => wB fun r4 => wB fun r5 => wN (P71x2 h S r0 r3 r4 r5)) (tabPC 3 (wV fun r0 => wI fun r3 => wN (P71x3 h S r0 r3)) (tabPC 4 (wN (P71x4 h S)) (tabPN)))))
noncomputable def F71 (args : List Value) (h : Hp) : Option Value := plainO (packArgs [Kd.v] args fun al => G.rec' (T71 h) 1000000 0 al)
def nt71 : Nat := 1 + (46 - 1)
theorem q71x4 (h : Hp) (S : Nat → PAL → Option Value) : P71x4 h S = G.stepAt packP unpackP evXV (regP env pf30 nt71 h) (finP env Try.f71.results.toList) (G.collect B71 A71 []) 4 S PAL.n := by kernel_rfl
theorem q71x3 (h : Hp) (S : Nat → PAL → Option Value) (r0 : Value) (r3 : Int) : P71x3 h S r0 r3 = G.stepAt packP unpackP evXV (regP env pf30 nt71 h) (finP env Try.f71.results.toList) (G.collect B71 A71 []) 3 S (PAL.v r0 (PAL.i r3 PAL.n)) := by kernel_rfl
theorem q71x2 (h : Hp) (S : Nat → PAL → Option Value) (r0 : Value) (r3 : Int) (r4 : Bool) (r5 : Bool) : P71x2 h S r0 r3 r4 r5 = G.stepAt packP unpackP evXV (regP env pf30 nt71 h) (finP env Try.f71.results.toList) (G.collect B71 A71 []) 2 S (PAL.v r0 (PAL.i r3 (PAL.b r4 (PAL.b r5 PAL.n)))) := by kernel_rfl
theorem q71x1 (h : Hp) (S : Nat → PAL → Option Value) (r0 : Value) (r3 : Int) : P71x1 h S r0 r3 = G.stepAt packP unpackP evXV (regP env pf30 nt71 h) (finP env Try.f71.results.toList) (G.collect B71 A71 []) 1 S (PAL.v r0 (PAL.i r3 PAL.n)) := by kernel_rfl
theorem q71x0 (h : Hp) (S : Nat → PAL → Option Value) (r0 : Value) : P71x0 h S r0 = G.stepAt packP unpackP evXV (regP env pf30 nt71 h) (finP env Try.f71.results.toList) (G.collect B71 A71 []) 0 S (PAL.v r0 PAL.n) := by kernel_rfl
theorem t71 (h : Hp) (S : Nat → PAL → Option Value) : TabP (fun l al => G.stepAt packP unpackP evXV (regP env pf30 nt71 h) (finP env Try.f71.results.toList) (G.collect B71 A71 []) l S al) (T71 h S) := by
  unfold T71
  refine TabP.cons 0 (fun vs0 q e0 => ?_) ?_
  · obtain ⟨r0, vs1, rfl, e1⟩ := wV_some e0
    obtain ⟨rfl, ee⟩ := wN_some e1
    exact (q71x0 h S r0).symm.trans ee
  refine TabP.cons 1 (fun vs0 q e0 => ?_) ?_
  · obtain ⟨r0, vs1, rfl, e1⟩ := wV_some e0
    obtain ⟨r3, vs2, rfl, e2⟩ := wI_some e1
    obtain ⟨rfl, ee⟩ := wN_some e2
    exact (q71x1 h S r0 r3).symm.trans ee
  refine TabP.cons 2 (fun vs0 q e0 => ?_) ?_
  · obtain ⟨r0, vs1, rfl, e1⟩ := wV_some e0
    obtain ⟨r3, vs2, rfl, e2⟩ := wI_some e1
    obtain ⟨r4, vs3, rfl, e3⟩ := wB_some e2
    obtain ⟨r5, vs4, rfl, e4⟩ := wB_some e3
    obtain ⟨rfl, ee⟩ := wN_some e4
    exact (q71x2 h S r0 r3 r4 r5).symm.trans ee
  refine TabP.cons 3 (fun vs0 q e0 => ?_) ?_
  · obtain ⟨r0, vs1, rfl, e1⟩ := wV_some e0
    obtain ⟨r3, vs2, rfl, e2⟩ := wI_some e1
    obtain ⟨rfl, ee⟩ := wN_some e2
    exact (q71x3 h S r0 r3).symm.trans ee
  refine TabP.cons 4 (fun vs0 q e0 => ?_) ?_
  · 
    obtain ⟨rfl, ee⟩ := wN_some e0
    exact (q71x4 h S).symm.trans ee
  exact TabP.nil
theorem r71 : PSound Try.prog 71 F71 := fun_soundP (C := C0) ok0 (pf := pf30) pfok30 (fn := Try.f71) (body := B71) (kinds := [Kd.v]) (A := A71) (T := T71) (by kernel_rfl) (by kernel_rfl) (by kernel_rfl) (by kernel_rfl) (fun h S => t71 h S)
noncomputable def pf31 : PF := pfC 71 F71 pf30
theorem pfok31 : PfSound Try.prog pf31 := pfC_ok r71 pfok30
noncomputable def orc72 := orcP 71 F71 orc71
noncomputable def C72 : Cfg := cfg orc72
theorem ok72 : C72.Ok := orcP_ok (C := C71) ok71 r71
noncomputable def B72 : Code := (Try.f72.body).getD .skip
noncomputable def A72 : G.Ann (List KI) := (G.Ann.node (some (0, [KI.reg 0 (Kd.v), KI.reg 1 (Kd.v)])) al (an (an al (an (G.Ann.node (some (1, [KI.reg 0 (Kd.v), KI.reg 1 (Kd.v), KI.reg 5 (Kd.i .i64)])) (an (an al (an al al)) (an (an (an al (an (an al al) al)) al) al)) al) al)) (G.Ann.node (some (2, [])) al al)))
noncomputable def P72x2 (h : Hp) (S : Nat → PAL → Option Value) : Option Value :=
  some (Value.int .i64 (Int.negSucc 0))
noncomputable def P72x1 (h : Hp) (S : Nat → PAL → Option Value) (r0 : Value) (r1 : Value) (r5 : Int) : Option Value :=
  lenSK r0 fun i0 =>
  boolZ (ltZ r5 i0) fun b1 =>
  ifB b1
  (idxSK 1 r0 r5 fun v2 =>
  load1K h v2 fun v3 =>
  optK (binV env .eql 9 (Operand.tmp 15) (Operand.tmp 16) v3 r1) fun v4 =>
  boolK v4 fun b5 =>
  ifB b5
  (some (Value.int .i64 r5))
  (wrap64 (Int.add r5 (Int.ofNat 1)) fun i6 =>
  S 1 (PAL.v r0 (PAL.v r1 (PAL.i i6 PAL.n)))))
  (S 2 PAL.n)
noncomputable def P72x0 (h : Hp) (S : Nat → PAL → Option Value) (r0 : Value) (r1 : Value) : Option Value :=
  S 1 (PAL.v r0 (PAL.v r1 (PAL.i (Int.ofNat 0) PAL.n)))
noncomputable def T72 (h : Hp) (S : Nat → PAL → Option Value) : Nat → PAL → Option Value := tabPC 0 (wV fun r0 => wV fun r1 => wN (P72x0 h S r0 r1)) (tabPC 1 (wV fun r0 => wV fun r1 => wI fun r5 => wN (P72x1 h S r0 r1 r5)) (tabPC 2 (wN (P72x2 h S)) (tabPN)))
noncomputable def F72 (args : List Value) (h : Hp) : Option Value := plainO (packArgs [Kd.v, Kd.v] args fun al => G.rec' (T72 h) 1000000 0 al)
def nt72 : Nat := 2 + (19 - 2)
theorem q72x2 (h : Hp) (S : Nat → PAL → Option Value) : P72x2 h S = G.stepAt packP unpackP evXV (regP env pf31 nt72 h) (finP env Try.f72.results.toList) (G.collect B72 A72 []) 2 S PAL.n := by kernel_rfl
theorem q72x1 (h : Hp) (S : Nat → PAL → Option Value) (r0 : Value) (r1 : Value) (r5 : Int) : P72x1 h S r0 r1 r5 = G.stepAt packP unpackP evXV (regP env pf31 nt72 h) (finP env Try.f72.results.toList) (G.collect B72 A72 []) 1 S (PAL.v r0 (PAL.v r1 (PAL.i r5 PAL.n))) := by kernel_rfl
theorem q72x0 (h : Hp) (S : Nat → PAL → Option Value) (r0 : Value) (r1 : Value) : P72x0 h S r0 r1 = G.stepAt packP unpackP evXV (regP env pf31 nt72 h) (finP env Try.f72.results.toList) (G.collect B72 A72 []) 0 S (PAL.v r0 (PAL.v r1 PAL.n)) := by kernel_rfl
theorem t72 (h : Hp) (S : Nat → PAL → Option Value) : TabP (fun l al => G.stepAt packP unpackP evXV (regP env pf31 nt72 h) (finP env Try.f72.results.toList) (G.collect B72 A72 []) l S al) (T72 h S) := by
  unfold T72
  refine TabP.cons 0 (fun vs0 q e0 => ?_) ?_
  · obtain ⟨r0, vs1, rfl, e1⟩ := wV_some e0
    obtain ⟨r1, vs2, rfl, e2⟩ := wV_some e1
    obtain ⟨rfl, ee⟩ := wN_some e2
    exact (q72x0 h S r0 r1).symm.trans ee
  refine TabP.cons 1 (fun vs0 q e0 => ?_) ?_
  · obtain ⟨r0, vs1, rfl, e1⟩ := wV_some e0
    obtain ⟨r1, vs2, rfl, e2⟩ := wV_some e1
    obtain ⟨r5, vs3, rfl, e3⟩ := wI_some e2
    obtain ⟨rfl, ee⟩ := wN_some e3
    exact (q72x1 h S r0 r1 r5).symm.trans ee
  refine TabP.cons 2 (fun vs0 q e0 => ?_) ?_
  · 
    obtain ⟨rfl, ee⟩ := wN_some e0
    exact (q72x2 h S).symm.trans ee
  exact TabP.nil
theorem r72 : PSound Try.prog 72 F72 := fun_soundP (C := C0) ok0 (pf := pf31) pfok31 (fn := Try.f72) (body := B72) (kinds := [Kd.v, Kd.v]) (A := A72) (T := T72) (by kernel_rfl) (by kernel_rfl) (by kernel_rfl) (by kernel_rfl) (fun h S => t72 h S)
noncomputable def pf32 : PF := pfC 72 F72 pf31
theorem pfok32 : PfSound Try.prog pf32 := pfC_ok r72 pfok31
noncomputable def orc73 := orcP 72 F72 orc72
noncomputable def C73 : Cfg := cfg orc73
theorem ok73 : C73.Ok := orcP_ok (C := C72) ok72 r72
noncomputable def B36 : Code := (Try.f36.body).getD .skip
noncomputable def A36 : G.Ann (List KI) := (G.Ann.node (some (0, [KI.reg 0 (Kd.v), KI.reg 1 (Kd.v)])) al (an (an al (an (an al al) al)) (an (an al (an (an al al) al)) (an al al))))
noncomputable def P36x0 (h : Hp) (S : Nat → PAL → Option Value) (r0 : Value) (r1 : Value) : Option Value :=
  optK (F71 [r0] h) fun v0 =>
  boolK v0 fun b1 =>
  boolN b1 fun b2 =>
  ifB b2
  (some (ki 6))
  (optK (F72 [r1, r0] h) fun v3 =>
  intK .i64 v3 fun i4 =>
  boolN (ltZ i4 (Int.ofNat 0)) fun b5 =>
  ifB b5
  (some (ki 5))
  (some (ki 0)))
noncomputable def T36 (h : Hp) (S : Nat → PAL → Option Value) : Nat → PAL → Option Value := tabPC 0 (wV fun r0 => wV fun r1 => wN (P36x0 h S r0 r1)) (tabPN)
noncomputable def F36 (args : List Value) (h : Hp) : Option Value := plainO (packArgs [Kd.v, Kd.v] args fun al => G.rec' (T36 h) 1000000 0 al)
def nt36 : Nat := 2 + (12 - 2)
theorem q36x0 (h : Hp) (S : Nat → PAL → Option Value) (r0 : Value) (r1 : Value) : P36x0 h S r0 r1 = G.stepAt packP unpackP evXV (regP env pf32 nt36 h) (finP env Try.f36.results.toList) (G.collect B36 A36 []) 0 S (PAL.v r0 (PAL.v r1 PAL.n)) := by kernel_rfl
theorem t36 (h : Hp) (S : Nat → PAL → Option Value) : TabP (fun l al => G.stepAt packP unpackP evXV (regP env pf32 nt36 h) (finP env Try.f36.results.toList) (G.collect B36 A36 []) l S al) (T36 h S) := by
  unfold T36
  refine TabP.cons 0 (fun vs0 q e0 => ?_) ?_
  · obtain ⟨r0, vs1, rfl, e1⟩ := wV_some e0
    obtain ⟨r1, vs2, rfl, e2⟩ := wV_some e1
    obtain ⟨rfl, ee⟩ := wN_some e2
    exact (q36x0 h S r0 r1).symm.trans ee
  exact TabP.nil
theorem r36 : PSound Try.prog 36 F36 := fun_soundP (C := C0) ok0 (pf := pf32) pfok32 (fn := Try.f36) (body := B36) (kinds := [Kd.v, Kd.v]) (A := A36) (T := T36) (by kernel_rfl) (by kernel_rfl) (by kernel_rfl) (by kernel_rfl) (fun h S => t36 h S)
noncomputable def pf33 : PF := pfC 36 F36 pf32
theorem pfok33 : PfSound Try.prog pf33 := pfC_ok r36 pfok32
noncomputable def orc74 := orcP 36 F36 orc73
noncomputable def C74 : Cfg := cfg orc74
theorem ok74 : C74.Ok := orcP_ok (C := C73) ok73 r36
noncomputable def B39 : Code := (Try.f39.body).getD .skip
noncomputable def A39 : G.Ann (List KI) := (G.Ann.node (some (0, [KI.reg 0 (Kd.i .i64), KI.reg 1 (Kd.i .i64), KI.reg 2 (Kd.i .i64)])) al (an al al))
noncomputable def P39x0 (h : Hp) (S : Nat → PAL → Option Value) (r0 : Int) (r1 : Int) (r2 : Int) : Option Value :=
  boolN (ltZ r0 r1) fun b0 =>
  ifB b0
  (boolN (ltZ r2 r0) fun b1 =>
  some (Value.bool b1))
  (some (Value.bool false))
noncomputable def T39 (h : Hp) (S : Nat → PAL → Option Value) : Nat → PAL → Option Value := tabPC 0 (wI fun r0 => wI fun r1 => wI fun r2 => wN (P39x0 h S r0 r1 r2)) (tabPN)
noncomputable def F39 (args : List Value) (h : Hp) : Option Value := plainO (packArgs [Kd.i .i64, Kd.i .i64, Kd.i .i64] args fun al => G.rec' (T39 h) 1000000 0 al)
def nt39 : Nat := 3 + (15 - 3)
theorem q39x0 (h : Hp) (S : Nat → PAL → Option Value) (r0 : Int) (r1 : Int) (r2 : Int) : P39x0 h S r0 r1 r2 = G.stepAt packP unpackP evXV (regP env pf33 nt39 h) (finP env Try.f39.results.toList) (G.collect B39 A39 []) 0 S (PAL.i r0 (PAL.i r1 (PAL.i r2 PAL.n))) := by kernel_rfl
theorem t39 (h : Hp) (S : Nat → PAL → Option Value) : TabP (fun l al => G.stepAt packP unpackP evXV (regP env pf33 nt39 h) (finP env Try.f39.results.toList) (G.collect B39 A39 []) l S al) (T39 h S) := by
  unfold T39
  refine TabP.cons 0 (fun vs0 q e0 => ?_) ?_
  · obtain ⟨r0, vs1, rfl, e1⟩ := wI_some e0
    obtain ⟨r1, vs2, rfl, e2⟩ := wI_some e1
    obtain ⟨r2, vs3, rfl, e3⟩ := wI_some e2
    obtain ⟨rfl, ee⟩ := wN_some e3
    exact (q39x0 h S r0 r1 r2).symm.trans ee
  exact TabP.nil
theorem r39 : PSound Try.prog 39 F39 := fun_soundP (C := C0) ok0 (pf := pf33) pfok33 (fn := Try.f39) (body := B39) (kinds := [Kd.i .i64, Kd.i .i64, Kd.i .i64]) (A := A39) (T := T39) (by kernel_rfl) (by kernel_rfl) (by kernel_rfl) (by kernel_rfl) (fun h S => t39 h S)
noncomputable def pf34 : PF := pfC 39 F39 pf33
theorem pfok34 : PfSound Try.prog pf34 := pfC_ok r39 pfok33
noncomputable def orc75 := orcP 39 F39 orc74
noncomputable def C75 : Cfg := cfg orc75
theorem ok75 : C75.Ok := orcP_ok (C := C74) ok74 r39
noncomputable def B37 : Code := (Try.f37.body).getD .skip
noncomputable def A37 : G.Ann (List KI) := (G.Ann.node (some (0, [KI.reg 0 (Kd.v)])) al (an (an al (an (an al al) al)) (an (an al (an (an al al) al)) (an al al))))
noncomputable def P37x0 (h : Hp) (S : Nat → PAL → Option Value) (r0 : Value) : Option Value :=
  forceL (Array.toList (Value.cells r0)) fun c0 =>
  nthR c0 1 fun v1 =>
  intK .i64 v1 fun i2 =>
  optK (F39 [(Value.int .i64 i2), (ki 0), (ki 15)] h) fun v3 =>
  boolK v3 fun b4 =>
  boolN b4 fun b5 =>
  ifB b5
  (some (Value.bool false))
  (nthR c0 2 fun v6 =>
  boolK v6 fun b7 =>
  boolN b7 fun b8 =>
  ifB b8
  (nthR c0 3 fun v9 =>
  intK .i64 v9 fun i10 =>
  boolZ (eqZ i10 (Int.ofNat 0)) fun b11 =>
  ifB b11
  (nthR c0 4 fun v12 =>
  intK .i64 v12 fun i13 =>
  boolZ (eqZ i13 (Int.ofNat 0)) fun b14 =>
  ifB b14
  (nthR c0 5 fun v15 =>
  intK .i64 v15 fun i16 =>
  boolZ (eqZ i16 (Int.ofNat 0)) fun b17 =>
  ifB b17
  (nthR c0 6 fun v18 =>
  intK .i64 v18 fun i19 =>
  boolZ (eqZ i19 (Int.ofNat 0)) fun b20 =>
  ifB b20
  (nthR c0 7 fun v21 =>
  intK .i64 v21 fun i22 =>
  boolZ (eqZ i22 (Int.ofNat 0)) fun b23 =>
  some (Value.bool b23))
  (some (Value.bool false)))
  (some (Value.bool false)))
  (some (Value.bool false)))
  (some (Value.bool false)))
  (nthR c0 3 fun v24 =>
  intK .i64 v24 fun i25 =>
  optK (F39 [(Value.int .i64 i25), (ki 0), (ki 5000)] h) fun v26 =>
  boolK v26 fun b27 =>
  ifB b27
  (nthR c0 4 fun v28 =>
  intK .i64 v28 fun i29 =>
  optK (F39 [(Value.int .i64 i29), (ki 0), (ki 500)] h) fun v30 =>
  boolK v30 fun b31 =>
  ifB b31
  (nthR c0 5 fun v32 =>
  intK .i64 v32 fun i33 =>
  optK (F39 [(Value.int .i64 i33), (ki 0), (ki 100)] h) fun v34 =>
  boolK v34 fun b35 =>
  ifB b35
  (nthR c0 6 fun v36 =>
  intK .i64 v36 fun i37 =>
  optK (F39 [(Value.int .i64 i37), (ki 0), (ki 364)] h) fun v38 =>
  boolK v38 fun b39 =>
  ifB b39
  (nthR c0 7 fun v40 =>
  intK .i64 v40 fun i41 =>
  optK (F39 [(Value.int .i64 i41), (ki 0), (ki 364)] h) fun v42 =>
  boolK v42 fun b43 =>
  some (Value.bool b43))
  (some (Value.bool false)))
  (some (Value.bool false)))
  (some (Value.bool false)))
  (some (Value.bool false))))
noncomputable def T37 (h : Hp) (S : Nat → PAL → Option Value) : Nat → PAL → Option Value := tabPC 0 (wV fun r0 => wN (P37x0 h S r0)) (tabPN)
noncomputable def F37 (args : List Value) (h : Hp) : Option Value := plainO (packArgs [Kd.v] args fun al => G.rec' (T37 h) 1000000 0 al)
def nt37 : Nat := 1 + (56 - 1)
theorem q37x0 (h : Hp) (S : Nat → PAL → Option Value) (r0 : Value) : P37x0 h S r0 = G.stepAt packP unpackP evXV (regP env pf34 nt37 h) (finP env Try.f37.results.toList) (G.collect B37 A37 []) 0 S (PAL.v r0 PAL.n) := by kernel_rfl
theorem t37 (h : Hp) (S : Nat → PAL → Option Value) : TabP (fun l al => G.stepAt packP unpackP evXV (regP env pf34 nt37 h) (finP env Try.f37.results.toList) (G.collect B37 A37 []) l S al) (T37 h S) := by
  unfold T37
  refine TabP.cons 0 (fun vs0 q e0 => ?_) ?_
  · obtain ⟨r0, vs1, rfl, e1⟩ := wV_some e0
    obtain ⟨rfl, ee⟩ := wN_some e1
    exact (q37x0 h S r0).symm.trans ee
  exact TabP.nil
theorem r37 : PSound Try.prog 37 F37 := fun_soundP (C := C0) ok0 (pf := pf34) pfok34 (fn := Try.f37) (body := B37) (kinds := [Kd.v]) (A := A37) (T := T37) (by kernel_rfl) (by kernel_rfl) (by kernel_rfl) (by kernel_rfl) (fun h S => t37 h S)
noncomputable def pf35 : PF := pfC 37 F37 pf34
theorem pfok35 : PfSound Try.prog pf35 := pfC_ok r37 pfok34
noncomputable def orc76 := orcP 37 F37 orc75
noncomputable def C76 : Cfg := cfg orc76
theorem ok76 : C76.Ok := orcP_ok (C := C75) ok75 r37
noncomputable def B38 : Code := (Try.f38.body).getD .skip
noncomputable def A38 : G.Ann (List KI) := (G.Ann.node (some (0, [KI.reg 0 (Kd.v)])) al (an (an al (an (an al al) al)) (G.Ann.node (some (1, [KI.loc 1 1, KI.cells 1 [Kd.v, Kd.i .i64, Kd.i .i64, Kd.i .i64]])) (an al (an (an al al) al)) (an al al))))
noncomputable def P38x1 (h : Hp) (S : Nat → PAL → Option Value) (c1x0 : Value) (c1x1 : Int) (c1x2 : Int) (c1x3 : Int) : Option Value :=
  boolZ (ltZ c1x2 c1x1) fun b0 =>
  ifB b0
  (some (ki 2))
  (some (ki 0))
noncomputable def P38x0 (h : Hp) (S : Nat → PAL → Option Value) (r0 : Value) : Option Value :=
  forceL (Array.toList (Value.cells r0)) fun c0 =>
  nthR c0 1 fun v1 =>
  intK .i64 v1 fun i2 =>
  optK (F39 [(Value.int .i64 i2), (ki 0), (ki 364)] h) fun v3 =>
  boolK v3 fun b4 =>
  boolN b4 fun b5 =>
  ifB b5
  (some (ki 7))
  (nthR c0 2 fun v6 =>
  intK .i64 v6 fun i7 =>
  optK (F39 [(Value.int .i64 i7), (ki 0), (ki 364)] h) fun v8 =>
  boolK v8 fun b9 =>
  boolN b9 fun b10 =>
  ifB b10
  (some (ki 7))
  (nthR c0 3 fun v11 =>
  intK .i64 v11 fun i12 =>
  optK (F39 [(Value.int .i64 i12), (ki 0), (ki 15)] h) fun v13 =>
  boolK v13 fun b14 =>
  boolN b14 fun b15 =>
  ifB b15
  (some (ki 7))
  (unconsK c0 fun a16 c16 =>
  unconsK c16 fun a17 c17 =>
  intK .i64 a17 fun i18 =>
  unconsK c17 fun a19 c19 =>
  intK .i64 a19 fun i20 =>
  unconsK c19 fun a21 c21 =>
  intK .i64 a21 fun i22 =>
  nilK c21 (S 1 (PAL.v a16 (PAL.i i18 (PAL.i i20 (PAL.i i22 PAL.n))))))))
noncomputable def T38 (h : Hp) (S : Nat → PAL → Option Value) : Nat → PAL → Option Value := tabPC 0 (wV fun r0 => wN (P38x0 h S r0)) (tabPC 1 (wV fun c1x0 => wI fun c1x1 => wI fun c1x2 => wI fun c1x3 => wN (P38x1 h S c1x0 c1x1 c1x2 c1x3)) (tabPN))
noncomputable def F38 (args : List Value) (h : Hp) : Option Value := plainO (packArgs [Kd.v] args fun al => G.rec' (T38 h) 1000000 0 al)
def nt38 : Nat := 1 + (24 - 1)
theorem q38x1 (h : Hp) (S : Nat → PAL → Option Value) (c1x0 : Value) (c1x1 : Int) (c1x2 : Int) (c1x3 : Int) : P38x1 h S c1x0 c1x1 c1x2 c1x3 = G.stepAt packP unpackP evXV (regP env pf35 nt38 h) (finP env Try.f38.results.toList) (G.collect B38 A38 []) 1 S (PAL.v c1x0 (PAL.i c1x1 (PAL.i c1x2 (PAL.i c1x3 PAL.n)))) := by kernel_rfl
theorem q38x0 (h : Hp) (S : Nat → PAL → Option Value) (r0 : Value) : P38x0 h S r0 = G.stepAt packP unpackP evXV (regP env pf35 nt38 h) (finP env Try.f38.results.toList) (G.collect B38 A38 []) 0 S (PAL.v r0 PAL.n) := by kernel_rfl
theorem t38 (h : Hp) (S : Nat → PAL → Option Value) : TabP (fun l al => G.stepAt packP unpackP evXV (regP env pf35 nt38 h) (finP env Try.f38.results.toList) (G.collect B38 A38 []) l S al) (T38 h S) := by
  unfold T38
  refine TabP.cons 0 (fun vs0 q e0 => ?_) ?_
  · obtain ⟨r0, vs1, rfl, e1⟩ := wV_some e0
    obtain ⟨rfl, ee⟩ := wN_some e1
    exact (q38x0 h S r0).symm.trans ee
  refine TabP.cons 1 (fun vs0 q e0 => ?_) ?_
  · obtain ⟨c1x0, vs1, rfl, e1⟩ := wV_some e0
    obtain ⟨c1x1, vs2, rfl, e2⟩ := wI_some e1
    obtain ⟨c1x2, vs3, rfl, e3⟩ := wI_some e2
    obtain ⟨c1x3, vs4, rfl, e4⟩ := wI_some e3
    obtain ⟨rfl, ee⟩ := wN_some e4
    exact (q38x1 h S c1x0 c1x1 c1x2 c1x3).symm.trans ee
  exact TabP.nil
theorem r38 : PSound Try.prog 38 F38 := fun_soundP (C := C0) ok0 (pf := pf35) pfok35 (fn := Try.f38) (body := B38) (kinds := [Kd.v]) (A := A38) (T := T38) (by kernel_rfl) (by kernel_rfl) (by kernel_rfl) (by kernel_rfl) (fun h S => t38 h S)
noncomputable def pf36 : PF := pfC 38 F38 pf35
theorem pfok36 : PfSound Try.prog pf36 := pfC_ok r38 pfok35
noncomputable def orc77 := orcP 38 F38 orc76
noncomputable def C77 : Cfg := cfg orc77
theorem ok77 : C77.Ok := orcP_ok (C := C76) ok76 r38
noncomputable def B9 : Code := (Try.f9.body).getD .skip
def A9 : Ann := (Ann.node (some (0, [(0, Kd.v)])) Ann.nil (Ann.node none (Ann.node none Ann.nil (Ann.node none (Ann.node none Ann.nil Ann.nil) Ann.nil)) (Ann.node none Ann.nil (Ann.node none (Ann.node none Ann.nil (Ann.node none (Ann.node (some (1, [(1, Kd.v), (5, Kd.v), (6, Kd.i .i64)])) (Ann.node none (Ann.node none Ann.nil (Ann.node none Ann.nil Ann.nil)) (Ann.node none (Ann.node none (Ann.node none Ann.nil (Ann.node none Ann.nil (Ann.node none (Ann.node none Ann.nil (Ann.node none Ann.nil Ann.nil)) (Ann.node (some (2, [(1, Kd.v), (5, Kd.v), (6, Kd.i .i64), (7, Kd.i .i64)])) Ann.nil (Ann.node none (Ann.node none Ann.nil Ann.nil) Ann.nil))))) Ann.nil) (Ann.node (some (3, [(1, Kd.v), (5, Kd.v), (6, Kd.i .i64)])) Ann.nil Ann.nil))) Ann.nil) Ann.nil)) (Ann.node (some (10, [(1, Kd.v)])) (Ann.node none Ann.nil (Ann.node none (Ann.node none Ann.nil Ann.nil) Ann.nil)) (Ann.node none Ann.nil (Ann.node none (Ann.node none Ann.nil (Ann.node none (Ann.node (some (4, [(1, Kd.v), (5, Kd.v), (8, Kd.i .i64)])) (Ann.node none (Ann.node none Ann.nil (Ann.node none Ann.nil Ann.nil)) (Ann.node none (Ann.node none (Ann.node none Ann.nil (Ann.node none Ann.nil (Ann.node none (Ann.node none Ann.nil (Ann.node none Ann.nil Ann.nil)) (Ann.node (some (5, [(1, Kd.v), (5, Kd.v), (8, Kd.i .i64), (9, Kd.i .i64)])) Ann.nil (Ann.node none (Ann.node none Ann.nil Ann.nil) Ann.nil))))) Ann.nil) (Ann.node (some (6, [(1, Kd.v), (5, Kd.v), (8, Kd.i .i64)])) Ann.nil Ann.nil))) Ann.nil) Ann.nil)) (Ann.node (some (9, [(1, Kd.v)])) (Ann.node none Ann.nil (Ann.node none (Ann.node none Ann.nil Ann.nil) Ann.nil)) (Ann.node none (Ann.node none Ann.nil (Ann.node none (Ann.node none Ann.nil Ann.nil) Ann.nil)) (Ann.node none (Ann.node none Ann.nil (Ann.node none (Ann.node (some (7, [(1, Kd.v), (10, Kd.i .i64)])) (Ann.node none (Ann.node none Ann.nil (Ann.node none Ann.nil Ann.nil)) (Ann.node none (Ann.node none (Ann.node none Ann.nil (Ann.node none (Ann.node none Ann.nil Ann.nil) Ann.nil)) Ann.nil) Ann.nil)) Ann.nil) Ann.nil)) (Ann.node (some (8, [])) Ann.nil Ann.nil)))))))))))
noncomputable def P9x8 (S : Sg) (h : Hp) : CRes :=
  some (Value.tuple (List.toArray [(ki 0), (ki 0), (ki 0)]), h)
noncomputable def P9x7 (S : Sg) (r1 : Value) (r10 : Int) (h : Hp) : CRes :=
  ptrAddK 3 r1 fun v0 =>
  load1K h v0 fun v1 =>
  lenSK v1 fun i2 =>
  boolZ (ltZ r10 i2) fun b3 =>
  ifB b3
  (ptrAddK 3 r1 fun v4 =>
  load1K h v4 fun v5 =>
  idxSK 2 v5 r10 fun v6 =>
  ptrAddK 0 v6 fun v7 =>
  load1K h v7 fun v8 =>
  intK .i64 v8 fun i9 =>
  pairK (optK (F39 [(Value.int .i64 i9), (ki 0), (ki 364)] h) fun v => some (v, h)) fun v10 h10 =>
  boolK v10 fun b11 =>
  boolN b11 fun b12 =>
  ifB b12
  (some (Value.tuple (List.toArray [(ki 4), (Value.int .i64 r10), (ki 7)]), h10))
  (ptrAddK 3 r1 fun v13 =>
  load1K h10 v13 fun v14 =>
  idxSK 2 v14 r10 fun v15 =>
  ptrAddK 1 v15 fun v16 =>
  load1K h10 v16 fun v17 =>
  intK .i64 v17 fun i18 =>
  pairK (optK (F39 [(Value.int .i64 i18), (ki 0), (ki 10000)] h10) fun v => some (v, h10)) fun v19 h19 =>
  boolK v19 fun b20 =>
  boolN b20 fun b21 =>
  ifB b21
  (some (Value.tuple (List.toArray [(ki 4), (Value.int .i64 r10), (ki 7)]), h19))
  (wrap64 (Int.add r10 (Int.ofNat 1)) fun i22 =>
  S 7 (AL.v r1 (AL.i i22 AL.n)) h19)))
  (S 8 AL.n h)
noncomputable def P9x9 (S : Sg) (r1 : Value) (h : Hp) : CRes :=
  ptrAddK 2 r1 fun v0 =>
  load1K h v0 fun v1 =>
  intK .i64 v1 fun i2 =>
  pairK (optK (F39 [(Value.int .i64 i2), (ki 0), (ki 10000)] h) fun v => some (v, h)) fun v3 h3 =>
  boolK v3 fun b4 =>
  boolN b4 fun b5 =>
  ifB b5
  (some (Value.tuple (List.toArray [(ki 3), (ki 0), (ki 7)]), h3))
  (ptrAddK 3 r1 fun v6 =>
  load1K h3 v6 fun v7 =>
  lenSK v7 fun i8 =>
  boolZ (ltZ (Int.ofNat 3) i8) fun b9 =>
  ifB b9
  (some (Value.tuple (List.toArray [(ki 4), (ki 0), (ki 3)]), h3))
  (S 7 (AL.v r1 (AL.i (Int.ofNat 0) AL.n)) h3))
noncomputable def P9x6 (S : Sg) (r1 : Value) (r5 : Value) (r8 : Int) (h : Hp) : CRes :=
  wrap64 (Int.add r8 (Int.ofNat 1)) fun i0 =>
  S 4 (AL.v r1 (AL.v r5 (AL.i i0 AL.n))) h
noncomputable def P9x5 (S : Sg) (r1 : Value) (r5 : Value) (r8 : Int) (r9 : Int) (h : Hp) : CRes :=
  boolN (eqZ r9 (Int.ofNat 0)) fun b0 =>
  ifB b0
  (some (Value.tuple (List.toArray [(ki 2), (Value.int .i64 r8), (Value.int .i64 r9)]), h))
  (S 6 (AL.v r1 (AL.v r5 (AL.i r8 AL.n))) h)
noncomputable def P9x4 (S : Sg) (r1 : Value) (r5 : Value) (r8 : Int) (h : Hp) : CRes :=
  ptrAddK 1 r1 fun v0 =>
  load1K h v0 fun v1 =>
  lenSK v1 fun i2 =>
  boolZ (ltZ r8 i2) fun b3 =>
  ifB b3
  (ptrAddK 1 r1 fun v4 =>
  load1K h v4 fun v5 =>
  idxSK 4 v5 r8 fun v6 =>
  ptrAddK 0 v6 fun v7 =>
  load1K h v7 fun v8 =>
  pairK (optK (F36 [v8, r5] h) fun v => some (v, h)) fun v9 h9 =>
  intK .i64 v9 fun i10 =>
  ptrAddK 1 r1 fun v11 =>
  load1K h9 v11 fun v12 =>
  idxSK 4 v12 r8 fun v13 =>
  ptrAddK 0 v13 fun v14 =>
  load1K h9 v14 fun v15 =>
  pairK (buildSliceV env h9 74 1 (List.toArray [(0, v15)])) fun v16 h16 =>
  pairK (appendV env h16 #[74, 74] (List.toArray [r5, v16])) fun v17 h17 =>
  boolZ (eqZ i10 (Int.ofNat 0)) fun b18 =>
  ifB b18
  (ptrAddK 1 r1 fun v19 =>
  load1K h17 v19 fun v20 =>
  idxSK 4 v20 r8 fun v21 =>
  loadNK 4 h17 v21 fun v22 =>
  pairK (optK (F38 [v22] h17) fun v => some (v, h17)) fun v23 h23 =>
  intK .i64 v23 fun i24 =>
  S 5 (AL.v r1 (AL.v v17 (AL.i r8 (AL.i i24 AL.n)))) h23)
  (S 5 (AL.v r1 (AL.v v17 (AL.i r8 (AL.i i10 AL.n)))) h17))
  (S 9 (AL.v r1 AL.n) h)
noncomputable def P9x10 (S : Sg) (r1 : Value) (h : Hp) : CRes :=
  ptrAddK 1 r1 fun v0 =>
  load1K h v0 fun v1 =>
  lenSK v1 fun i2 =>
  boolZ (ltZ (Int.ofNat 3) i2) fun b3 =>
  ifB b3
  (some (Value.tuple (List.toArray [(ki 2), (ki 0), (ki 3)]), h))
  (S 4 (AL.v r1 (AL.v (Value.slice none 0 0) (AL.i (Int.ofNat 0) AL.n))) h)
noncomputable def P9x3 (S : Sg) (r1 : Value) (r5 : Value) (r6 : Int) (h : Hp) : CRes :=
  wrap64 (Int.add r6 (Int.ofNat 1)) fun i0 =>
  S 1 (AL.v r1 (AL.v r5 (AL.i i0 AL.n))) h
noncomputable def P9x2 (S : Sg) (r1 : Value) (r5 : Value) (r6 : Int) (r7 : Int) (h : Hp) : CRes :=
  boolN (eqZ r7 (Int.ofNat 0)) fun b0 =>
  ifB b0
  (some (Value.tuple (List.toArray [(ki 1), (Value.int .i64 r6), (Value.int .i64 r7)]), h))
  (S 3 (AL.v r1 (AL.v r5 (AL.i r6 AL.n))) h)
noncomputable def P9x1 (S : Sg) (r1 : Value) (r5 : Value) (r6 : Int) (h : Hp) : CRes :=
  ptrAddK 0 r1 fun v0 =>
  load1K h v0 fun v1 =>
  lenSK v1 fun i2 =>
  boolZ (ltZ r6 i2) fun b3 =>
  ifB b3
  (ptrAddK 0 r1 fun v4 =>
  load1K h v4 fun v5 =>
  idxSK 8 v5 r6 fun v6 =>
  ptrAddK 0 v6 fun v7 =>
  load1K h v7 fun v8 =>
  pairK (optK (F36 [v8, r5] h) fun v => some (v, h)) fun v9 h9 =>
  intK .i64 v9 fun i10 =>
  ptrAddK 0 r1 fun v11 =>
  load1K h9 v11 fun v12 =>
  idxSK 8 v12 r6 fun v13 =>
  ptrAddK 0 v13 fun v14 =>
  load1K h9 v14 fun v15 =>
  pairK (buildSliceV env h9 74 1 (List.toArray [(0, v15)])) fun v16 h16 =>
  pairK (appendV env h16 #[74, 74] (List.toArray [r5, v16])) fun v17 h17 =>
  boolZ (eqZ i10 (Int.ofNat 0)) fun b18 =>
  ifB b18
  (ptrAddK 0 r1 fun v19 =>
  load1K h17 v19 fun v20 =>
  idxSK 8 v20 r6 fun v21 =>
  loadNK 8 h17 v21 fun v22 =>
  pairK (optK (F37 [v22] h17) fun v => some (v, h17)) fun v23 h23 =>
  boolK v23 fun b24 =>
  boolN b24 fun b25 =>
  ifB b25
  (S 2 (AL.v r1 (AL.v v17 (AL.i r6 (AL.i (Int.ofNat 7) AL.n)))) h23)
  (S 2 (AL.v r1 (AL.v v17 (AL.i r6 (AL.i i10 AL.n)))) h23))
  (S 2 (AL.v r1 (AL.v v17 (AL.i r6 (AL.i i10 AL.n)))) h17))
  (S 10 (AL.v r1 AL.n) h)
noncomputable def P9x0 (S : Sg) (r0 : Value) (h : Hp) : CRes :=
  allocK h 26 (Array.toList (Value.cells r0)) fun a0 h0 =>
  ptrAddK 0 a0 fun v1 =>
  load1K h0 v1 fun v2 =>
  lenSK v2 fun i3 =>
  boolZ (ltZ (Int.ofNat 5) i3) fun b4 =>
  ifB b4
  (some (Value.tuple (List.toArray [(ki 1), (ki 0), (ki 3)]), h0))
  (S 1 (AL.v a0 (AL.v (Value.slice none 0 0) (AL.i (Int.ofNat 0) AL.n))) h0)
noncomputable def T9 (S : Sg) : Sg := tabC 0 (uV fun r0 => uN fun h => P9x0 S r0 h) (tabC 1 (uV fun r1 => uV fun r5 => uI fun r6 => uN fun h => P9x1 S r1 r5 r6 h) (tabC 2 (uV fun r1 => uV fun r5 => uI fun r6 => uI fun r7 => uN fun h => P9x2 S r1 r5 r6 r7 h) (tabC 3 (uV fun r1 => uV fun r5 => uI fun r6 => uN fun h => P9x3 S r1 r5 r6 h) (tabC 10 (uV fun r1 => uN fun h => P9x10 S r1 h) (tabC 4 (uV fun r1 => uV fun r5 => uI fun r8 => uN fun h => P9x4 S r1 r5 r8 h) (tabC 5 (uV fun r1 => uV fun r5 => uI fun r8 => uI fun r9 => uN fun h => P9x5 S r1 r5 r8 r9 h) (tabC 6 (uV fun r1 => uV fun r5 => uI fun r8 => uN fun h => P9x6 S r1 r5 r8 h) (tabC 9 (uV fun r1 => uN fun h => P9x9 S r1 h) (tabC 7 (uV fun r1 => uI fun r10 => uN fun h => P9x7 S r1 r10 h) (tabC 8 (uN fun h => P9x8 S  h) (tabN)))))))))))
noncomputable def F9 (args : List Value) (h : Hp) : CRes := packVals [Kd.v] args fun al => rec' T9 1000000 0 al h
def nt9 : Nat := 1 + (128 - 1)
theorem q9x8 (S : Sg) (h : Hp) : P9x8 S  h = stepAt (regK env orc77 (nt9)) (finK env Try.f9.results.toList) (collect B9 A9 []) 8 S AL.n h := by kernel_rfl
theorem q9x7 (S : Sg) (r1 : Value) (r10 : Int) (h : Hp) : P9x7 S r1 r10 h = stepAt (regK env orc77 (nt9)) (finK env Try.f9.results.toList) (collect B9 A9 []) 7 S (AL.v r1 (AL.i r10 AL.n)) h := by kernel_rfl
theorem q9x9 (S : Sg) (r1 : Value) (h : Hp) : P9x9 S r1 h = stepAt (regK env orc77 (nt9)) (finK env Try.f9.results.toList) (collect B9 A9 []) 9 S (AL.v r1 AL.n) h := by kernel_rfl
theorem q9x6 (S : Sg) (r1 : Value) (r5 : Value) (r8 : Int) (h : Hp) : P9x6 S r1 r5 r8 h = stepAt (regK env orc77 (nt9)) (finK env Try.f9.results.toList) (collect B9 A9 []) 6 S (AL.v r1 (AL.v r5 (AL.i r8 AL.n))) h := by kernel_rfl
theorem q9x5 (S : Sg) (r1 : Value) (r5 : Value) (r8 : Int) (r9 : Int) (h : Hp) : P9x5 S r1 r5 r8 r9 h = stepAt (regK env orc77 (nt9)) (finK env Try.f9.results.toList) (collect B9 A9 []) 5 S (AL.v r1 (AL.v r5 (AL.i r8 (AL.i r9 AL.n)))) h := by kernel_rfl
theorem q9x4 (S : Sg) (r1 : Value) (r5 : Value) (r8 : Int) (h : Hp) : P9x4 S r1 r5 r8 h = stepAt (regK env orc77 (nt9)) (finK env Try.f9.results.toList) (collect B9 A9 []) 4 S (AL.v r1 (AL.v r5 (AL.i r8 AL.n))) h := by kernel_rfl
theorem q9x10 (S : Sg) (r1 : Value) (h : Hp) : P9x10 S r1 h = stepAt (regK env orc77 (nt9)) (finK env Try.f9.results.toList) (collect B9 A9 []) 10 S (AL.v r1 AL.n) h := by kernel_rfl
theorem q9x3 (S : Sg) (r1 : Value) (r5 : Value) (r6 : Int) (h : Hp) : P9x3 S r1 r5 r6 h = stepAt (regK env orc77 (nt9)) (finK env Try.f9.results.toList) (collect B9 A9 []) 3 S (AL.v r1 (AL.v r5 (AL.i r6 AL.n))) h := by kernel_rfl
theorem q9x2 (S : Sg) (r1 : Value) (r5 : Value) (r6 : Int) (r7 : Int) (h : Hp) : P9x2 S r1 r5 r6 r7 h = stepAt (regK env orc77 (nt9)) (finK env Try.f9.results.toList) (collect B9 A9 []) 2 S (AL.v r1 (AL.v r5 (AL.i r6 (AL.i r7 AL.n)))) h := by kernel_rfl
theorem q9x1 (S : Sg) (r1 : Value) (r5 : Value) (r6 : Int) (h : Hp) : P9x1 S r1 r5 r6 h = stepAt (regK env orc77 (nt9)) (finK env Try.f9.results.toList) (collect B9 A9 []) 1 S (AL.v r1 (AL.v r5 (AL.i r6 AL.n))) h := by kernel_rfl
theorem q9x0 (S : Sg) (r0 : Value) (h : Hp) : P9x0 S r0 h = stepAt (regK env orc77 (nt9)) (finK env Try.f9.results.toList) (collect B9 A9 []) 0 S (AL.v r0 AL.n) h := by kernel_rfl
theorem t9 (S : Sg) : Tab (fun l vs h => stepAt (regK env orc77 nt9) (finK env Try.f9.results.toList) (collect B9 A9 []) l S vs h) (T9 S) := by
  unfold T9
  refine Tab.cons 0 (fun vs0 h q e0 => ?_) ?_
  · obtain ⟨r0, vs1, rfl, e1⟩ := uV_some e0
    obtain ⟨rfl, ee⟩ := uN_some e1
    exact (q9x0 S r0 h).symm.trans ee
  refine Tab.cons 1 (fun vs0 h q e0 => ?_) ?_
  · obtain ⟨r1, vs1, rfl, e1⟩ := uV_some e0
    obtain ⟨r5, vs2, rfl, e2⟩ := uV_some e1
    obtain ⟨r6, vs3, rfl, e3⟩ := uI_some e2
    obtain ⟨rfl, ee⟩ := uN_some e3
    exact (q9x1 S r1 r5 r6 h).symm.trans ee
  refine Tab.cons 2 (fun vs0 h q e0 => ?_) ?_
  · obtain ⟨r1, vs1, rfl, e1⟩ := uV_some e0
    obtain ⟨r5, vs2, rfl, e2⟩ := uV_some e1
    obtain ⟨r6, vs3, rfl, e3⟩ := uI_some e2
    obtain ⟨r7, vs4, rfl, e4⟩ := uI_some e3
    obtain ⟨rfl, ee⟩ := uN_some e4
    exact (q9x2 S r1 r5 r6 r7 h).symm.trans ee
  refine Tab.cons 3 (fun vs0 h q e0 => ?_) ?_
  · obtain ⟨r1, vs1, rfl, e1⟩ := uV_some e0
    obtain ⟨r5, vs2, rfl, e2⟩ := uV_some e1
    obtain ⟨r6, vs3, rfl, e3⟩ := uI_some e2
    obtain ⟨rfl, ee⟩ := uN_some e3
    exact (q9x3 S r1 r5 r6 h).symm.trans ee
  refine Tab.cons 10 (fun vs0 h q e0 => ?_) ?_
  · obtain ⟨r1, vs1, rfl, e1⟩ := uV_some e0
    obtain ⟨rfl, ee⟩ := uN_some e1
    exact (q9x10 S r1 h).symm.trans ee
  refine Tab.cons 4 (fun vs0 h q e0 => ?_) ?_
  · obtain ⟨r1, vs1, rfl, e1⟩ := uV_some e0
    obtain ⟨r5, vs2, rfl, e2⟩ := uV_some e1
    obtain ⟨r8, vs3, rfl, e3⟩ := uI_some e2
    obtain ⟨rfl, ee⟩ := uN_some e3
    exact (q9x4 S r1 r5 r8 h).symm.trans ee
  refine Tab.cons 5 (fun vs0 h q e0 => ?_) ?_
  · obtain ⟨r1, vs1, rfl, e1⟩ := uV_some e0
    obtain ⟨r5, vs2, rfl, e2⟩ := uV_some e1
    obtain ⟨r8, vs3, rfl, e3⟩ := uI_some e2
    obtain ⟨r9, vs4, rfl, e4⟩ := uI_some e3
    obtain ⟨rfl, ee⟩ := uN_some e4
    exact (q9x5 S r1 r5 r8 r9 h).symm.trans ee
  refine Tab.cons 6 (fun vs0 h q e0 => ?_) ?_
  · obtain ⟨r1, vs1, rfl, e1⟩ := uV_some e0
    obtain ⟨r5, vs2, rfl, e2⟩ := uV_some e1
    obtain ⟨r8, vs3, rfl, e3⟩ := uI_some e2
    obtain ⟨rfl, ee⟩ := uN_some e3
    exact (q9x6 S r1 r5 r8 h).symm.trans ee
  refine Tab.cons 9 (fun vs0 h q e0 => ?_) ?_
  · obtain ⟨r1, vs1, rfl, e1⟩ := uV_some e0
    obtain ⟨rfl, ee⟩ := uN_some e1
    exact (q9x9 S r1 h).symm.trans ee
  refine Tab.cons 7 (fun vs0 h q e0 => ?_) ?_
  · obtain ⟨r1, vs1, rfl, e1⟩ := uV_some e0
    obtain ⟨r10, vs2, rfl, e2⟩ := uI_some e1
    obtain ⟨rfl, ee⟩ := uN_some e2
    exact (q9x7 S r1 r10 h).symm.trans ee
  refine Tab.cons 8 (fun vs0 h q e0 => ?_) ?_
  · 
    obtain ⟨rfl, ee⟩ := uN_some e0
    exact (q9x8 S  h).symm.trans ee
  exact Tab.nil
theorem r9 : ∀ args h v h', F9 args h = some (v, h') → Runs (C77) (.call 9 args.toArray h) (.ret v h') := by
  intro args h v h' e
  exact fun_sound (C := C77) (fn := Try.f9) (body := B9) (np := 1) (A := A9) (T := T9) (kinds := [Kd.v]) (by kernel_rfl) (by kernel_rfl) (by kernel_rfl) (by kernel_rfl) (regK_ok env_ok) (by kernel_rfl) (fun S => t9 S) e
noncomputable def orc78 := orcQ 9 F9 orc77
noncomputable def C78 : Cfg := cfg orc78
theorem ok78 : C78.Ok := orcQ_ok (C := C77) ok77 r9
noncomputable def B24 : Code := (Try.f24.body).getD .skip
def A24 : Ann := (Ann.node (some (0, [(0, Kd.v)])) Ann.nil (Ann.node none Ann.nil (Ann.node none Ann.nil Ann.nil)))
noncomputable def P24x0 (S : Sg) (r0 : Value) (h : Hp) : CRes :=
  allocK h 26 (Array.toList (Value.cells r0)) fun a0 h0 =>
  loadNK 4 h0 a0 fun v1 =>
  pairK (callQ F9 [v1] h0) fun v2 h2 =>
  extK v2 0 fun v3 =>
  intK .i64 v3 fun i4 =>
  extK v2 1 fun v5 =>
  intK .i64 v5 fun i6 =>
  extK v2 2 fun v7 =>
  intK .i64 v7 fun i8 =>
  boolZ (eqZ i8 (Int.ofNat 0)) fun b9 =>
  some ((Value.bool b9), h2)
noncomputable def T24 (S : Sg) : Sg := tabC 0 (uV fun r0 => uN fun h => P24x0 S r0 h) (tabN)
noncomputable def F24 (args : List Value) (h : Hp) : CRes := packVals [Kd.v] args fun al => rec' T24 1000000 0 al h
def nt24 : Nat := 1 + (14 - 1)
theorem q24x0 (S : Sg) (r0 : Value) (h : Hp) : P24x0 S r0 h = stepAt (regK env orc78 (nt24)) (finK env Try.f24.results.toList) (collect B24 A24 []) 0 S (AL.v r0 AL.n) h := by kernel_rfl
theorem t24 (S : Sg) : Tab (fun l vs h => stepAt (regK env orc78 nt24) (finK env Try.f24.results.toList) (collect B24 A24 []) l S vs h) (T24 S) := by
  unfold T24
  refine Tab.cons 0 (fun vs0 h q e0 => ?_) ?_
  · obtain ⟨r0, vs1, rfl, e1⟩ := uV_some e0
    obtain ⟨rfl, ee⟩ := uN_some e1
    exact (q24x0 S r0 h).symm.trans ee
  exact Tab.nil
theorem r24 : ∀ args h v h', F24 args h = some (v, h') → Runs (C78) (.call 24 args.toArray h) (.ret v h') := by
  intro args h v h' e
  exact fun_sound (C := C78) (fn := Try.f24) (body := B24) (np := 1) (A := A24) (T := T24) (kinds := [Kd.v]) (by kernel_rfl) (by kernel_rfl) (by kernel_rfl) (by kernel_rfl) (regK_ok env_ok) (by kernel_rfl) (fun S => t24 S) e
noncomputable def orc79 := orcQ 24 F24 orc78
noncomputable def C79 : Cfg := cfg orc79
theorem ok79 : C79.Ok := orcQ_ok (C := C78) ok78 r24
noncomputable def B5 : Code := (Try.f5.body).getD .skip
def A5 : Ann := (Ann.node (some (0, [(0, Kd.v), (1, Kd.i .u8), (2, Kd.v)])) Ann.nil (Ann.node none (Ann.node none Ann.nil (Ann.node (some (1, [(1, Kd.i .u8), (3, Kd.v), (5, Kd.v), (26, Kd.b)])) (Ann.node none Ann.nil (Ann.node none Ann.nil Ann.nil)) Ann.nil)) (Ann.node (some (2, [(1, Kd.i .u8), (3, Kd.v), (5, Kd.v)])) Ann.nil (Ann.node none Ann.nil (Ann.node none Ann.nil (Ann.node none Ann.nil (Ann.node none Ann.nil (Ann.node none (Ann.node none Ann.nil (Ann.node none (Ann.node none Ann.nil Ann.nil) Ann.nil)) (Ann.node none (Ann.node none Ann.nil (Ann.node none (Ann.node none Ann.nil Ann.nil) Ann.nil)) (Ann.node none (Ann.node none Ann.nil (Ann.node none (Ann.node none Ann.nil Ann.nil) Ann.nil)) (Ann.node none Ann.nil (Ann.node none Ann.nil Ann.nil))))))))))))
noncomputable def P5x2 (S : Sg) (r1 : Int) (r3 : Value) (r5 : Value) (h : Hp) : CRes :=
  wrap64 r1 fun i0 =>
  ptrAddK 0 r3 fun v1 =>
  load1K h v1 fun v2 =>
  lenSK v2 fun i3 =>
  slowI .i64 (binW env .rem 3 (Value.int .i64 i0) (Value.int .i64 i3)) fun i4 =>
  idxAK 2 1 r5 (Int.ofNat 0) fun v5 =>
  leftK v5 (Hp.next h) (Hp.mk (Hp.next h) (Hp.next h) T.nil) fun w6 n6 =>
  load1K (Hp.mk n6 n6 (addAll w6 (Hp.objs h))) v5 fun v7 =>
  intK .u16 v7 fun i8 =>
  wrap64 i8 fun i9 =>
  slowI .i64 (binW env .rem 3 (Value.int .i64 i9) (ki 365)) fun i10 =>
  idxAK 2 1 r5 (Int.ofNat 1) fun v11 =>
  leftK v11 n6 (Hp.mk n6 n6 T.nil) fun w12 n12 =>
  load1K (Hp.mk n12 n12 (addAll w12 (Hp.objs h))) v11 fun v13 =>
  intK .u16 v13 fun i14 =>
  wrap64 i14 fun i15 =>
  slowI .i64 (binW env .rem 3 (Value.int .i64 i15) (ki 365)) fun i16 =>
  loadNK 4 (Hp.mk n12 (Hp.ro h) (addAll w12 (addAll w6 (Hp.objs h)))) r3 fun v17 =>
  minZ i10 i16 fun i18 =>
  pairK (callQ F10 [v17, (Value.int .i64 i4), (Value.int .i64 i18)] (Hp.mk n12 (Hp.ro h) (addAll w12 (addAll w6 (Hp.objs h))))) fun v19 h19 =>
  extK v19 0 fun v20 =>
  intK .i64 v20 fun i21 =>
  extK v19 1 fun v22 =>
  intK .i64 v22 fun i23 =>
  loadNK 4 h19 r3 fun v24 =>
  maxZ i10 i16 fun i25 =>
  pairK (callQ F10 [v24, (Value.int .i64 i4), (Value.int .i64 i25)] h19) fun v26 h26 =>
  extK v26 0 fun v27 =>
  intK .i64 v27 fun i28 =>
  extK v26 1 fun v29 =>
  intK .i64 v29 fun i30 =>
  ptrAddK 0 r3 fun v31 =>
  load1K h26 v31 fun v32 =>
  idxSK 8 v32 i4 fun v33 =>
  loadNK 8 h26 v33 fun v34 =>
  allocK h26 54 [(Value.string (ByteArray.mk #[])), (ki 0), (Value.bool false), (ki 0), (ki 0), (ki 0), (ki 0), (ki 0)] fun a35 h35 =>
  storeNK 8 h35 a35 v34 fun h36 =>
  ptrAddK 2 a35 fun v37 =>
  load1K h36 v37 fun v38 =>
  boolK v38 fun b39 =>
  boolN b39 fun b40 =>
  ifB b40
  (boolZ (eqZ i23 (Int.ofNat 2)) fun b41 =>
  ifB b41
  (boolZ (eqZ i30 i23) fun b42 =>
  ifB b42
  (pairK (optK (FM17 [] h36) fun v => some (v, h36)) fun v43 h43 =>
  boolK v43 fun b44 =>
  some ((Value.bool b44), h43))
  (some ((Value.bool false), h36)))
  (some ((Value.bool false), h36)))
  (boolN (eqZ i23 (Int.ofNat 0)) fun b45 =>
  ifB b45
  (boolZ (eqZ i23 (Int.ofNat 9)) fun b46 =>
  ifB b46
  (boolZ (eqZ i30 i23) fun b47 =>
  ifB b47
  (minZ i10 i16 fun i48 =>
  ptrAddK 7 a35 fun v49 =>
  load1K h36 v49 fun v50 =>
  intK .i64 v50 fun i51 =>
  boolZ (ltZ i51 i48) fun b52 =>
  ifB b52
  (pairK (optK (FM17 [] h36) fun v => some (v, h36)) fun v53 h53 =>
  boolK v53 fun b54 =>
  some ((Value.bool b54), h53))
  (some ((Value.bool false), h36)))
  (some ((Value.bool false), h36)))
  (some ((Value.bool false), h36)))
  (boolN (eqZ i30 (Int.ofNat 0)) fun b55 =>
  ifB b55
  (boolZ (eqZ i30 (Int.ofNat 9)) fun b56 =>
  ifB b56
  (maxZ i10 i16 fun i57 =>
  ptrAddK 7 a35 fun v58 =>
  load1K h36 v58 fun v59 =>
  intK .i64 v59 fun i60 =>
  boolZ (ltZ i60 i57) fun b61 =>
  ifB b61
  (pairK (optK (FM17 [] h36) fun v => some (v, h36)) fun v62 h62 =>
  boolK v62 fun b63 =>
  some ((Value.bool b63), h62))
  (some ((Value.bool false), h36)))
  (some ((Value.bool false), h36)))
  (ptrAddK 6 a35 fun v64 =>
  load1K h36 v64 fun v65 =>
  intK .i64 v65 fun i66 =>
  wrap64 (Int.add i66 i10) fun i67 =>
  slowI .i64 (binW env .quo 3 (Value.int .i64 i67) (ki 30)) fun i68 =>
  ptrAddK 6 a35 fun v69 =>
  load1K h36 v69 fun v70 =>
  intK .i64 v70 fun i71 =>
  wrap64 (Int.add i71 i16) fun i72 =>
  slowI .i64 (binW env .quo 3 (Value.int .i64 i72) (ki 30)) fun i73 =>
  boolZ (eqZ i68 i73) fun b74 =>
  boolN (ltZ i28 i21) fun b75 =>
  ifB b75
  (ptrAddK 3 a35 fun v76 =>
  load1K h36 v76 fun v77 =>
  intK .i64 v77 fun i78 =>
  ptrAddK 4 a35 fun v79 =>
  load1K h36 v79 fun v80 =>
  intK .i64 v80 fun i81 =>
  wrap64 (Int.add i78 i81) fun i82 =>
  boolN (ltZ i21 i82) fun b83 =>
  ifB b83
  (boolN b74 fun b84 =>
  ifB b84
  (pairK (optK (FM17 [] h36) fun v => some (v, h36)) fun v85 h85 =>
  boolK v85 fun b86 =>
  some ((Value.bool b86), h85))
  (boolZ (eqZ i21 i28) fun b87 =>
  ifB b87
  (pairK (optK (FM17 [] h36) fun v => some (v, h36)) fun v88 h88 =>
  boolK v88 fun b89 =>
  some ((Value.bool b89), h88))
  (some ((Value.bool false), h36))))
  (some ((Value.bool false), h36)))
  (some ((Value.bool false), h36)))))
noncomputable def P5x1 (S : Sg) (r1 : Int) (r3 : Value) (r5 : Value) (r26 : Bool) (h : Hp) : CRes :=
  ifB r26
  (loadNK 4 h r3 fun v0 =>
  pairK (callQ F10 [v0, (ki 0), (ki 0)] h) fun v1 h1 =>
  extK v1 0 fun v2 =>
  intK .i64 v2 fun i3 =>
  extK v1 1 fun v4 =>
  intK .i64 v4 fun i5 =>
  boolN (eqZ i5 (Int.ofNat 0)) fun b6 =>
  ifB b6
  (pairK (optK (FM17 [] h1) fun v => some (v, h1)) fun v7 h7 =>
  boolK v7 fun b8 =>
  some ((Value.bool b8), h7))
  (some ((Value.bool false), h1)))
  (S 2 (AL.i r1 (AL.v r3 (AL.v r5 AL.n))) h)
noncomputable def P5x0 (S : Sg) (r0 : Value) (r1 : Int) (r2 : Value) (h : Hp) : CRes :=
  allocK h 26 (Array.toList (Value.cells r0)) fun a0 h0 =>
  allocK h0 51 (Array.toList (Value.cells r2)) fun a1 h1 =>
  loadNK 4 h1 a0 fun v2 =>
  pairK (callQ F24 [v2] h1) fun v3 h3 =>
  boolK v3 fun b4 =>
  boolN b4 fun b5 =>
  ifB b5
  (S 1 (AL.i r1 (AL.v a0 (AL.v a1 (AL.b true AL.n)))) h3)
  (ptrAddK 0 a0 fun v6 =>
  load1K h3 v6 fun v7 =>
  lenSK v7 fun i8 =>
  boolZ (eqZ i8 (Int.ofNat 0)) fun b9 =>
  S 1 (AL.i r1 (AL.v a0 (AL.v a1 (AL.b b9 AL.n)))) h3)
noncomputable def T5 (S : Sg) : Sg := tabC 0 (uV fun r0 => uI fun r1 => uV fun r2 => uN fun h => P5x0 S r0 r1 r2 h) (tabC 1 (uI fun r1 => uV fun r3 => uV fun r5 => uB fun r26 => uN fun h => P5x1 S r1 r3 r5 r26 h) (tabC 2 (uI fun r1 => uV fun r3 => uV fun r5 => uN fun h => P5x2 S r1 r3 r5 h) (tabN)))
noncomputable def F5 (args : List Value) (h : Hp) : CRes := packVals [Kd.v, Kd.i .u8, Kd.v] args fun al => rec' T5 1000000 0 al h
def nt5 : Nat := 3 + (157 - 3)
theorem q5x2 (S : Sg) (r1 : Int) (r3 : Value) (r5 : Value) (h : Hp) : P5x2 S r1 r3 r5 h = stepAt (regK env orc79 (nt5)) (finK env Try.f5.results.toList) (collect B5 A5 []) 2 S (AL.i r1 (AL.v r3 (AL.v r5 AL.n))) h := by kernel_rfl
theorem q5x1 (S : Sg) (r1 : Int) (r3 : Value) (r5 : Value) (r26 : Bool) (h : Hp) : P5x1 S r1 r3 r5 r26 h = stepAt (regK env orc79 (nt5)) (finK env Try.f5.results.toList) (collect B5 A5 []) 1 S (AL.i r1 (AL.v r3 (AL.v r5 (AL.b r26 AL.n)))) h := by kernel_rfl
theorem q5x0 (S : Sg) (r0 : Value) (r1 : Int) (r2 : Value) (h : Hp) : P5x0 S r0 r1 r2 h = stepAt (regK env orc79 (nt5)) (finK env Try.f5.results.toList) (collect B5 A5 []) 0 S (AL.v r0 (AL.i r1 (AL.v r2 AL.n))) h := by kernel_rfl
theorem t5 (S : Sg) : Tab (fun l vs h => stepAt (regK env orc79 nt5) (finK env Try.f5.results.toList) (collect B5 A5 []) l S vs h) (T5 S) := by
  unfold T5
  refine Tab.cons 0 (fun vs0 h q e0 => ?_) ?_
  · obtain ⟨r0, vs1, rfl, e1⟩ := uV_some e0
    obtain ⟨r1, vs2, rfl, e2⟩ := uI_some e1
    obtain ⟨r2, vs3, rfl, e3⟩ := uV_some e2
    obtain ⟨rfl, ee⟩ := uN_some e3
    exact (q5x0 S r0 r1 r2 h).symm.trans ee
  refine Tab.cons 1 (fun vs0 h q e0 => ?_) ?_
  · obtain ⟨r1, vs1, rfl, e1⟩ := uI_some e0
    obtain ⟨r3, vs2, rfl, e2⟩ := uV_some e1
    obtain ⟨r5, vs3, rfl, e3⟩ := uV_some e2
    obtain ⟨r26, vs4, rfl, e4⟩ := uB_some e3
    obtain ⟨rfl, ee⟩ := uN_some e4
    exact (q5x1 S r1 r3 r5 r26 h).symm.trans ee
  refine Tab.cons 2 (fun vs0 h q e0 => ?_) ?_
  · obtain ⟨r1, vs1, rfl, e1⟩ := uI_some e0
    obtain ⟨r3, vs2, rfl, e2⟩ := uV_some e1
    obtain ⟨r5, vs3, rfl, e3⟩ := uV_some e2
    obtain ⟨rfl, ee⟩ := uN_some e3
    exact (q5x2 S r1 r3 r5 h).symm.trans ee
  exact Tab.nil
theorem r5 : ∀ args h v h', F5 args h = some (v, h') → Runs (C79) (.call 5 args.toArray h) (.ret v h') := by
  intro args h v h' e
  exact fun_sound (C := C79) (fn := Try.f5) (body := B5) (np := 3) (A := A5) (T := T5) (kinds := [Kd.v, Kd.i .u8, Kd.v]) (by kernel_rfl) (by kernel_rfl) (by kernel_rfl) (by kernel_rfl) (regK_ok env_ok) (by kernel_rfl) (fun S => t5 S) e
noncomputable def orc80 := orcQ 5 F5 orc79
noncomputable def C80 : Cfg := cfg orc80
theorem ok80 : C80.Ok := orcQ_ok (C := C79) ok79 r5
noncomputable abbrev orcLaw := orc80
theorem okLaw : (cfg orcLaw).Ok := ok80
end Go.Proofs.Ytaegcofpbihmhaa.K.L
