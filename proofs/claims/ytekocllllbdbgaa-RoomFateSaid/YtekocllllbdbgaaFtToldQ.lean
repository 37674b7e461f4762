/- Functions told for the laws. -/
import Derived.Test.YtekocllllbdbgaaFtAwake
open Go Go.Eng
set_option maxRecDepth 100000
set_option linter.unusedVariables false
namespace Go.Proofs.Ytekocllllbdbgaa.K.L
noncomputable def FM19 : List Value → Hp → Option Value := constF (.bool true)
theorem rm19 : PSound Try.prog 19 FM19 := awakeP
noncomputable def pf23 : PF := pfC 19 FM19 pf22
theorem pfok23 : PfSound Try.prog pf23 := pfC_ok rm19 pfok22
noncomputable def orc62 := orcP 19 FM19 orc61
noncomputable def C62 : Cfg := cfg orc62
theorem ok62 : C62.Ok := orcP_ok (C := C61) ok61 rm19
noncomputable def B96 : Code := (Try.f96.body).getD .skip
noncomputable def A96 : G.Ann (List KI) := (G.Ann.node (some (0, [KI.reg 0 (Kd.i .i64), KI.reg 1 (Kd.i .i64), KI.reg 2 (Kd.i .i64)])) al (an al al))
noncomputable def P96x0 (h : Hp) (S : Nat → PAL → Option Value) (r0 : Int) (r1 : Int) (r2 : Int) : Option Value :=
  boolN (ltZ r0 r1) fun b0 =>
  ifB b0
  (boolN (ltZ r2 r0) fun b1 =>
  some (Value.bool b1))
  (some (Value.bool false))
noncomputable def T96 (h : Hp) (S : Nat → PAL → Option Value) : Nat → PAL → Option Value := tabPC 0 (wI fun r0 => wI fun r1 => wI fun r2 => wN (P96x0 h S r0 r1 r2)) (tabPN)
noncomputable def F96 (args : List Value) (h : Hp) : Option Value := plainO (packArgs [Kd.i .i64, Kd.i .i64, Kd.i .i64] args fun al => G.rec' (T96 h) 1000000 0 al)
def nt96 : Nat := 3 + (15 - 3)
theorem q96x0 (h : Hp) (S : Nat → PAL → Option Value) (r0 : Int) (r1 : Int) (r2 : Int) : P96x0 h S r0 r1 r2 = G.stepAt packP unpackP evXV (regP env pf23 nt96 h) (finP env Try.f96.results.toList) (G.collect B96 A96 []) 0 S (PAL.i r0 (PAL.i r1 (PAL.i r2 PAL.n))) := by kernel_rfl
theorem t96 (h : Hp) (S : Nat → PAL → Option Value) : TabP (fun l al => G.stepAt packP unpackP evXV (regP env pf23 nt96 h) (finP env Try.f96.results.toList) (G.collect B96 A96 []) l S al) (T96 h S) := by
  unfold T96
  refine TabP.cons 0 (fun vs0 q e0 => ?_) ?_
  · obtain ⟨r0, vs1, rfl, e1⟩ := wI_some e0
    obtain ⟨r1, vs2, rfl, e2⟩ := wI_some e1
    obtain ⟨r2, vs3, rfl, e3⟩ := wI_some e2
    obtain ⟨rfl, ee⟩ := wN_some e3
    exact (q96x0 h S r0 r1 r2).symm.trans ee
  exact TabP.nil
theorem r96 : PSound Try.prog 96 F96 := fun_soundP (C := C0) ok0 (pf := pf23) pfok23 (fn := Try.f96) (body := B96) (kinds := [Kd.i .i64, Kd.i .i64, Kd.i .i64]) (A := A96) (T := T96) (by kernel_rfl) (by kernel_rfl) (by kernel_rfl) (by kernel_rfl) (fun h S => t96 h S)
noncomputable def pf24 : PF := pfC 96 F96 pf23
theorem pfok24 : PfSound Try.prog pf24 := pfC_ok r96 pfok23
noncomputable def orc63 := orcP 96 F96 orc62
noncomputable def C63 : Cfg := cfg orc63
theorem ok63 : C63.Ok := orcP_ok (C := C62) ok62 r96
noncomputable def B53 : Code := (Try.f53.body).getD .skip
noncomputable def A53 : G.Ann (List KI) := (G.Ann.node (some (0, [KI.reg 0 (Kd.v), KI.reg 1 (Kd.i .i64), KI.reg 2 (Kd.i .i64)])) al (an (an al (an (an al al) al)) (G.Ann.node (some (1, [KI.loc 3 3, KI.cells 3 [Kd.i .i64, Kd.i .i64]])) (an al (an (an al al) al)) (an al al))))
noncomputable def P53x1 (h : Hp) (S : Nat → PAL → Option Value) (c3x0 : Int) (c3x1 : Int) : Option Value :=
  boolZ (ltZ c3x1 c3x0) fun b0 =>
  ifB b0
  (some (Value.int .i64 (Int.ofNat 2)))
  (some (Value.int .i64 (Int.ofNat 0)))
noncomputable def P53x0 (h : Hp) (S : Nat → PAL → Option Value) (r0 : Value) (r1 : Int) (r2 : Int) : Option Value :=
  forceL (Array.toList (Value.cells r0)) fun c0 =>
  nthR c0 0 fun v1 =>
  intK .i64 v1 fun i2 =>
  optK (F96 [(Value.int .i64 i2), (Value.int .i64 r1), (Value.int .i64 r2)] h) fun v3 =>
  boolK v3 fun b4 =>
  boolN b4 fun b5 =>
  ifB b5
  (some (Value.int .i64 (Int.ofNat 7)))
  (nthR c0 1 fun v6 =>
  intK .i64 v6 fun i7 =>
  optK (F96 [(Value.int .i64 i7), (Value.int .i64 r1), (Value.int .i64 r2)] h) fun v8 =>
  boolK v8 fun b9 =>
  boolN b9 fun b10 =>
  ifB b10
  (some (Value.int .i64 (Int.ofNat 7)))
  (unconsK c0 fun a11 c11 =>
  intK .i64 a11 fun i12 =>
  unconsK c11 fun a13 c13 =>
  intK .i64 a13 fun i14 =>
  nilK c13 (S 1 (PAL.i i12 (PAL.i i14 PAL.n)))))
noncomputable def T53 (h : Hp) (S : Nat → PAL → Option Value) : Nat → PAL → Option Value := tabPC 0 (wV fun r0 => wI fun r1 => wI fun r2 => wN (P53x0 h S r0 r1 r2)) (tabPC 1 (wI fun c3x0 => wI fun c3x1 => wN (P53x1 h S c3x0 c3x1)) (tabPN))
noncomputable def F53 (args : List Value) (h : Hp) : Option Value := plainO (packArgs [Kd.v, Kd.i .i64, Kd.i .i64] args fun al => G.rec' (T53 h) 1000000 0 al)
def nt53 : Nat := 3 + (26 - 3)
theorem q53x1 (h : Hp) (S : Nat → PAL → Option Value) (c3x0 : Int) (c3x1 : Int) : P53x1 h S c3x0 c3x1 = G.stepAt packP unpackP evXV (regP env pf24 nt53 h) (finP env Try.f53.results.toList) (G.collect B53 A53 []) 1 S (PAL.i c3x0 (PAL.i c3x1 PAL.n)) := by kernel_rfl
theorem q53x0 (h : Hp) (S : Nat → PAL → Option Value) (r0 : Value) (r1 : Int) (r2 : Int) : P53x0 h S r0 r1 r2 = G.stepAt packP unpackP evXV (regP env pf24 nt53 h) (finP env Try.f53.results.toList) (G.collect B53 A53 []) 0 S (PAL.v r0 (PAL.i r1 (PAL.i r2 PAL.n))) := by kernel_rfl
theorem t53 (h : Hp) (S : Nat → PAL → Option Value) : TabP (fun l al => G.stepAt packP unpackP evXV (regP env pf24 nt53 h) (finP env Try.f53.results.toList) (G.collect B53 A53 []) l S al) (T53 h S) := by
  unfold T53
  refine TabP.cons 0 (fun vs0 q e0 => ?_) ?_
  · obtain ⟨r0, vs1, rfl, e1⟩ := wV_some e0
    obtain ⟨r1, vs2, rfl, e2⟩ := wI_some e1
    obtain ⟨r2, vs3, rfl, e3⟩ := wI_some e2
    obtain ⟨rfl, ee⟩ := wN_some e3
    exact (q53x0 h S r0 r1 r2).symm.trans ee
  refine TabP.cons 1 (fun vs0 q e0 => ?_) ?_
  · obtain ⟨c3x0, vs1, rfl, e1⟩ := wI_some e0
    obtain ⟨c3x1, vs2, rfl, e2⟩ := wI_some e1
    obtain ⟨rfl, ee⟩ := wN_some e2
    exact (q53x1 h S c3x0 c3x1).symm.trans ee
  exact TabP.nil
theorem r53 : PSound Try.prog 53 F53 := fun_soundP (C := C0) ok0 (pf := pf24) pfok24 (fn := Try.f53) (body := B53) (kinds := [Kd.v, Kd.i .i64, Kd.i .i64]) (A := A53) (T := T53) (by kernel_rfl) (by kernel_rfl) (by kernel_rfl) (by kernel_rfl) (fun h S => t53 h S)
noncomputable def pf25 : PF := pfC 53 F53 pf24
theorem pfok25 : PfSound Try.prog pf25 := pfC_ok r53 pfok24
noncomputable def orc64 := orcP 53 F53 orc63
noncomputable def C64 : Cfg := cfg orc64
theorem ok64 : C64.Ok := orcP_ok (C := C63) ok63 r53
noncomputable def B54 : Code := (Try.f54.body).getD .skip
noncomputable def A54 : G.Ann (List KI) := (G.Ann.node (some (0, [KI.reg 0 (Kd.i .i64), KI.reg 1 (Kd.i .i64), KI.reg 2 (Kd.i .i64)])) al (an al al))
noncomputable def P54x0 (h : Hp) (S : Nat → PAL → Option Value) (r0 : Int) (r1 : Int) (r2 : Int) : Option Value :=
  boolN (ltZ r0 r1) fun b0 =>
  ifB b0
  (boolN (ltZ r2 r0) fun b1 =>
  some (Value.bool b1))
  (some (Value.bool false))
noncomputable def T54 (h : Hp) (S : Nat → PAL → Option Value) : Nat → PAL → Option Value := tabPC 0 (wI fun r0 => wI fun r1 => wI fun r2 => wN (P54x0 h S r0 r1 r2)) (tabPN)
noncomputable def F54 (args : List Value) (h : Hp) : Option Value := plainO (packArgs [Kd.i .i64, Kd.i .i64, Kd.i .i64] args fun al => G.rec' (T54 h) 1000000 0 al)
def nt54 : Nat := 3 + (15 - 3)
theorem q54x0 (h : Hp) (S : Nat → PAL → Option Value) (r0 : Int) (r1 : Int) (r2 : Int) : P54x0 h S r0 r1 r2 = G.stepAt packP unpackP evXV (regP env pf25 nt54 h) (finP env Try.f54.results.toList) (G.collect B54 A54 []) 0 S (PAL.i r0 (PAL.i r1 (PAL.i r2 PAL.n))) := by kernel_rfl
theorem t54 (h : Hp) (S : Nat → PAL → Option Value) : TabP (fun l al => G.stepAt packP unpackP evXV (regP env pf25 nt54 h) (finP env Try.f54.results.toList) (G.collect B54 A54 []) l S al) (T54 h S) := by
  unfold T54
  refine TabP.cons 0 (fun vs0 q e0 => ?_) ?_
  · obtain ⟨r0, vs1, rfl, e1⟩ := wI_some e0
    obtain ⟨r1, vs2, rfl, e2⟩ := wI_some e1
    obtain ⟨r2, vs3, rfl, e3⟩ := wI_some e2
    obtain ⟨rfl, ee⟩ := wN_some e3
    exact (q54x0 h S r0 r1 r2).symm.trans ee
  exact TabP.nil
theorem r54 : PSound Try.prog 54 F54 := fun_soundP (C := C0) ok0 (pf := pf25) pfok25 (fn := Try.f54) (body := B54) (kinds := [Kd.i .i64, Kd.i .i64, Kd.i .i64]) (A := A54) (T := T54) (by kernel_rfl) (by kernel_rfl) (by kernel_rfl) (by kernel_rfl) (fun h S => t54 h S)
noncomputable def pf26 : PF := pfC 54 F54 pf25
theorem pfok26 : PfSound Try.prog pf26 := pfC_ok r54 pfok25
noncomputable def orc65 := orcP 54 F54 orc64
noncomputable def C65 : Cfg := cfg orc65
theorem ok65 : C65.Ok := orcP_ok (C := C64) ok64 r54
noncomputable def B97 : Code := (Try.f97.body).getD .skip
noncomputable def A97 : G.Ann (List KI) := (G.Ann.node (some (0, [KI.reg 0 (Kd.v)])) al (an (an al (an (an al al) al)) (an (an al (an (G.Ann.node (some (1, [KI.reg 0 (Kd.v), KI.reg 3 (Kd.i .i64)])) (an (an al (an al al)) (an (an (an al (an al (G.Ann.node (some (2, [KI.reg 0 (Kd.v), KI.reg 3 (Kd.i .i64), KI.reg 4 (Kd.b), KI.reg 5 (Kd.b)])) al (an (an al al) al)))) al) (G.Ann.node (some (3, [KI.reg 0 (Kd.v), KI.reg 3 (Kd.i .i64)])) al al))) al) al)) (G.Ann.node (some (4, [])) al al))))
noncomputable def P97x4 (h : Hp) (S : Nat → PAL → Option Value) : Option Value :=
  some (Value.bool true)
noncomputable def P97x3 (h : Hp) (S : Nat → PAL → Option Value) (r0 : Value) (r3 : Int) : Option Value :=
  wrap64 (Int.add r3 (Int.ofNat 1)) fun i0 =>
  S 1 (PAL.v r0 (PAL.i i0 PAL.n))
noncomputable def P97x2 (h : Hp) (S : Nat → PAL → Option Value) (r0 : Value) (r3 : Int) (r4 : Bool) (r5 : Bool) : Option Value :=
  boolN r4 fun b0 =>
  ifB b0
  (boolZ (eqZ r3 (Int.ofNat 0)) fun b1 =>
  ifB b1
  (some (Value.bool false))
  (boolN r5 fun b2 =>
  ifB b2
  (some (Value.bool false))
  (S 3 (PAL.v r0 (PAL.i r3 PAL.n)))))
  (S 3 (PAL.v r0 (PAL.i r3 PAL.n)))
noncomputable def P97x1 (h : Hp) (S : Nat → PAL → Option Value) (r0 : Value) (r3 : Int) : Option Value :=
  lenBK r0 fun i0 =>
  boolZ (ltZ r3 i0) fun b1 =>
  ifB b1
  (optK (indexV env 9 r0 (Value.int .i64 r3)) fun v2 =>
  intK .u8 v2 fun i3 =>
  wrap64 i3 fun i4 =>
  optK (F96 [(Value.int .i64 i4), (Value.int .i64 (Int.ofNat 97)), (Value.int .i64 (Int.ofNat 122))] h) fun v5 =>
  boolK v5 fun b6 =>
  optK (indexV env 9 r0 (Value.int .i64 r3)) fun v7 =>
  intK .u8 v7 fun i8 =>
  wrap64 i8 fun i9 =>
  optK (F96 [(Value.int .i64 i9), (Value.int .i64 (Int.ofNat 48)), (Value.int .i64 (Int.ofNat 57))] h) fun v10 =>
  boolK v10 fun b11 =>
  ifB b11
  (S 2 (PAL.v r0 (PAL.i r3 (PAL.b b6 (PAL.b true PAL.n)))))
  (optK (indexV env 9 r0 (Value.int .i64 r3)) fun v12 =>
  intK .u8 v12 fun i13 =>
  boolZ (eqZ i13 (Int.ofNat 46)) fun b14 =>
  S 2 (PAL.v r0 (PAL.i r3 (PAL.b b6 (PAL.b b14 PAL.n))))))
  (S 4 PAL.n)
noncomputable def P97x0 (h : Hp) (S : Nat → PAL → Option Value) (r0 : Value) : Option Value :=
  lenBK r0 fun i0 =>
  boolZ (eqZ i0 (Int.ofNat 0)) fun b1 =>
  ifB b1
  (some (Value.bool false))
  (lenBK r0 fun i2 =>
  boolZ (ltZ (Int.ofNat 16) i2) fun b3 =>
  ifB b3
  (some (Value.bool false))
  (S 1 (PAL.v r0 (PAL.i (Int.ofNat 0) PAL.n))))
noncomputable def T97 (h : Hp) (S : Nat → PAL → Option Value) : Nat → PAL → Option Value := tabPC 0 (wV fun r0 => wN (P97x0 h S r0)) (tabPC 1 (wV fun r0 => wI fun r3 => wN (P97x1 h S r0 r3)) (tabPC 2 (wV fun r0 => wI fun r3 => wB fun r4 => wB fun r5 => wN (P97x2 h S r0 r3 r4 r5)) (tabPC 3 (wV fun r0 => wI fun r3 => wN (P97x3 h S r0 r3)) (tabPC 4 (wN (P97x4 h S)) (tabPN)))))
noncomputable def F97 (args : List Value) (h : Hp) : Option Value := plainO (packArgs [Kd.v] args fun al => G.rec' (T97 h) 1000000 0 al)
def nt97 : Nat := 1 + (46 - 1)
theorem q97x4 (h : Hp) (S : Nat → PAL → Option Value) : P97x4 h S = G.stepAt packP unpackP evXV (regP env pf26 nt97 h) (finP env Try.f97.results.toList) (G.collect B97 A97 []) 4 S PAL.n := by kernel_rfl
theorem q97x3 (h : Hp) (S : Nat → PAL → Option Value) (r0 : Value) (r3 : Int) : P97x3 h S r0 r3 = G.stepAt packP unpackP evXV (regP env pf26 nt97 h) (finP env Try.f97.results.toList) (G.collect B97 A97 []) 3 S (PAL.v r0 (PAL.i r3 PAL.n)) := by kernel_rfl
theorem q97x2 (h : Hp) (S : Nat → PAL → Option Value) (r0 : Value) (r3 : Int) (r4 : Bool) (r5 : Bool) : P97x2 h S r0 r3 r4 r5 = G.stepAt packP unpackP evXV (regP env pf26 nt97 h) (finP env Try.f97.results.toList) (G.collect B97 A97 []) 2 S (PAL.v r0 (PAL.i r3 (PAL.b r4 (PAL.b r5 PAL.n)))) := by kernel_rfl
theorem q97x1 (h : Hp) (S : Nat → PAL → Option Value) (r0 : Value) (r3 : Int) : P97x1 h S r0 r3 = G.stepAt packP unpackP evXV (regP env pf26 nt97 h) (finP env Try.f97.results.toList) (G.collect B97 A97 []) 1 S (PAL.v r0 (PAL.i r3 PAL.n)) := by kernel_rfl
theorem q97x0 (h : Hp) (S : Nat → PAL → Option Value) (r0 : Value) : P97x0 h S r0 = G.stepAt packP unpackP evXV (regP env pf26 nt97 h) (finP env Try.f97.results.toList) (G.collect B97 A97 []) 0 S (PAL.v r0 PAL.n) := by kernel_rfl
theorem t97 (h : Hp) (S : Nat → PAL → Option Value) : TabP (fun l al => G.stepAt packP unpackP evXV (regP env pf26 nt97 h) (finP env Try.f97.results.toList) (G.collect B97 A97 []) l S al) (T97 h S) := by
  unfold T97
  refine TabP.cons 0 (fun vs0 q e0 => ?_) ?_
  · obtain ⟨r0, vs1, rfl, e1⟩ := wV_some e0
    obtain ⟨rfl, ee⟩ := wN_some e1
    exact (q97x0 h S r0).symm.trans ee
  refine TabP.cons 1 (fun vs0 q e0 => ?_) ?_
  · obtain ⟨r0, vs1, rfl, e1⟩ := wV_some e0
    obtain ⟨r3, vs2, rfl, e2⟩ := wI_some e1
    obtain ⟨rfl, ee⟩ := wN_some e2
    exact (q97x1 h S r0 r3).symm.trans ee
  refine TabP.cons 2 (fun vs0 q e0 => ?_) ?_
  · obtain ⟨r0, vs1, rfl, e1⟩ := wV_some e0
    obtain ⟨r3, vs2, rfl, e2⟩ := wI_some e1
    obtain ⟨r4, vs3, rfl, e3⟩ := wB_some e2
    obtain ⟨r5, vs4, rfl, e4⟩ := wB_some e3
    obtain ⟨rfl, ee⟩ := wN_some e4
    exact (q97x2 h S r0 r3 r4 r5).symm.trans ee
  refine TabP.cons 3 (fun vs0 q e0 => ?_) ?_
  · obtain ⟨r0, vs1, rfl, e1⟩ := wV_some e0
    obtain ⟨r3, vs2, rfl, e2⟩ := wI_some e1
    obtain ⟨rfl, ee⟩ := wN_some e2
    exact (q97x3 h S r0 r3).symm.trans ee
  refine TabP.cons 4 (fun vs0 q e0 => ?_) ?_
  · 
    obtain ⟨rfl, ee⟩ := wN_some e0
    exact (q97x4 h S).symm.trans ee
  exact TabP.nil
theorem r97 : PSound Try.prog 97 F97 := fun_soundP (C := C0) ok0 (pf := pf26) pfok26 (fn := Try.f97) (body := B97) (kinds := [Kd.v]) (A := A97) (T := T97) (by kernel_rfl) (by kernel_rfl) (by kernel_rfl) (by kernel_rfl) (fun h S => t97 h S)
noncomputable def pf27 : PF := pfC 97 F97 pf26
theorem pfok27 : PfSound Try.prog pf27 := pfC_ok r97 pfok26
noncomputable def orc66 := orcP 97 F97 orc65
noncomputable def C66 : Cfg := cfg orc66
theorem ok66 : C66.Ok := orcP_ok (C := C65) ok65 r97
noncomputable def B98 : Code := (Try.f98.body).getD .skip
noncomputable def A98 : G.Ann (List KI) := (G.Ann.node (some (0, [KI.reg 0 (Kd.v), KI.reg 1 (Kd.v)])) al (an (an al (an (G.Ann.node (some (1, [KI.reg 0 (Kd.v), KI.reg 1 (Kd.v), KI.reg 5 (Kd.i .i64)])) (an (an al (an al al)) (an (an (an al (an (an al al) al)) al) al)) al) al)) (G.Ann.node (some (2, [])) al al)))
noncomputable def P98x2 (h : Hp) (S : Nat → PAL → Option Value) : Option Value :=
  some (Value.int .i64 (Int.negSucc 0))
noncomputable def P98x1 (h : Hp) (S : Nat → PAL → Option Value) (r0 : Value) (r1 : Value) (r5 : Int) : Option Value :=
  lenSK r0 fun i0 =>
  boolZ (ltZ r5 i0) fun b1 =>
  ifB b1
  (idxSK 1 r0 r5 fun v2 =>
  load1K h v2 fun v3 =>
  optK (binV env .eql 9 (Operand.tmp 15) (Operand.tmp 16) v3 r1) fun v4 =>
  boolK v4 fun b5 =>
  ifB b5
  (some (Value.int .i64 r5))
  (wrap64 (Int.add r5 (Int.ofNat 1)) fun i6 =>
  S 1 (PAL.v r0 (PAL.v r1 (PAL.i i6 PAL.n)))))
  (S 2 PAL.n)
noncomputable def P98x0 (h : Hp) (S : Nat → PAL → Option Value) (r0 : Value) (r1 : Value) : Option Value :=
  S 1 (PAL.v r0 (PAL.v r1 (PAL.i (Int.ofNat 0) PAL.n)))
noncomputable def T98 (h : Hp) (S : Nat → PAL → Option Value) : Nat → PAL → Option Value := tabPC 0 (wV fun r0 => wV fun r1 => wN (P98x0 h S r0 r1)) (tabPC 1 (wV fun r0 => wV fun r1 => wI fun r5 => wN (P98x1 h S r0 r1 r5)) (tabPC 2 (wN (P98x2 h S)) (tabPN)))
noncomputable def F98 (args : List Value) (h : Hp) : Option Value := plainO (packArgs [Kd.v, Kd.v] args fun al => G.rec' (T98 h) 1000000 0 al)
def nt98 : Nat := 2 + (19 - 2)
theorem q98x2 (h : Hp) (S : Nat → PAL → Option Value) : P98x2 h S = G.stepAt packP unpackP evXV (regP env pf27 nt98 h) (finP env Try.f98.results.toList) (G.collect B98 A98 []) 2 S PAL.n := by kernel_rfl
theorem q98x1 (h : Hp) (S : Nat → PAL → Option Value) (r0 : Value) (r1 : Value) (r5 : Int) : P98x1 h S r0 r1 r5 = G.stepAt packP unpackP evXV (regP env pf27 nt98 h) (finP env Try.f98.results.toList) (G.collect B98 A98 []) 1 S (PAL.v r0 (PAL.v r1 (PAL.i r5 PAL.n))) := by kernel_rfl
theorem q98x0 (h : Hp) (S : Nat → PAL → Option Value) (r0 : Value) (r1 : Value) : P98x0 h S r0 r1 = G.stepAt packP unpackP evXV (regP env pf27 nt98 h) (finP env Try.f98.results.toList) (G.collect B98 A98 []) 0 S (PAL.v r0 (PAL.v r1 PAL.n)) := by kernel_rfl
theorem t98 (h : Hp) (S : Nat → PAL → Option Value) : TabP (fun l al => G.stepAt packP unpackP evXV (regP env pf27 nt98 h) (finP env Try.f98.results.toList) (G.collect B98 A98 []) l S al) (T98 h S) := by
  unfold T98
  refine TabP.cons 0 (fun vs0 q e0 => ?_) ?_
  · obtain ⟨r0, vs1, rfl, e1⟩ := wV_some e0
    obtain ⟨r1, vs2, rfl, e2⟩ := wV_some e1
    obtain ⟨rfl, ee⟩ := wN_some e2
    exact (q98x0 h S r0 r1).symm.trans ee
  refine TabP.cons 1 (fun vs0 q e0 => ?_) ?_
  · obtain ⟨r0, vs1, rfl, e1⟩ := wV_some e0
    obtain ⟨r1, vs2, rfl, e2⟩ := wV_some e1
    obtain ⟨r5, vs3, rfl, e3⟩ := wI_some e2
    obtain ⟨rfl, ee⟩ := wN_some e3
    exact (q98x1 h S r0 r1 r5).symm.trans ee
  refine TabP.cons 2 (fun vs0 q e0 => ?_) ?_
  · 
    obtain ⟨rfl, ee⟩ := wN_some e0
    exact (q98x2 h S).symm.trans ee
  exact TabP.nil
theorem r98 : PSound Try.prog 98 F98 := fun_soundP (C := C0) ok0 (pf := pf27) pfok27 (fn := Try.f98) (body := B98) (kinds := [Kd.v, Kd.v]) (A := A98) (T := T98) (by kernel_rfl) (by kernel_rfl) (by kernel_rfl) (by kernel_rfl) (fun h S => t98 h S)
noncomputable def pf28 : PF := pfC 98 F98 pf27
theorem pfok28 : PfSound Try.prog pf28 := pfC_ok r98 pfok27
noncomputable def orc67 := orcP 98 F98 orc66
noncomputable def C67 : Cfg := cfg orc67
theorem ok67 : C67.Ok := orcP_ok (C := C66) ok66 r98
noncomputable def B55 : Code := (Try.f55.body).getD .skip
noncomputable def A55 : G.Ann (List KI) := (G.Ann.node (some (0, [KI.reg 0 (Kd.v), KI.reg 1 (Kd.v)])) al (an (an al (an (an al al) al)) (an (an al (an (an al al) al)) (an al al))))
noncomputable def P55x0 (h : Hp) (S : Nat → PAL → Option Value) (r0 : Value) (r1 : Value) : Option Value :=
  optK (F97 [r0] h) fun v0 =>
  boolK v0 fun b1 =>
  boolN b1 fun b2 =>
  ifB b2
  (some (Value.int .i64 (Int.ofNat 6)))
  (optK (F98 [r1, r0] h) fun v3 =>
  intK .i64 v3 fun i4 =>
  boolN (ltZ i4 (Int.ofNat 0)) fun b5 =>
  ifB b5
  (some (Value.int .i64 (Int.ofNat 5)))
  (some (Value.int .i64 (Int.ofNat 0))))
noncomputable def T55 (h : Hp) (S : Nat → PAL → Option Value) : Nat → PAL → Option Value := tabPC 0 (wV fun r0 => wV fun r1 => wN (P55x0 h S r0 r1)) (tabPN)
noncomputable def F55 (args : List Value) (h : Hp) : Option Value := plainO (packArgs [Kd.v, Kd.v] args fun al => G.rec' (T55 h) 1000000 0 al)
def nt55 : Nat := 2 + (12 - 2)
theorem q55x0 (h : Hp) (S : Nat → PAL → Option Value) (r0 : Value) (r1 : Value) : P55x0 h S r0 r1 = G.stepAt packP unpackP evXV (regP env pf28 nt55 h) (finP env Try.f55.results.toList) (G.collect B55 A55 []) 0 S (PAL.v r0 (PAL.v r1 PAL.n)) := by kernel_rfl
theorem t55 (h : Hp) (S : Nat → PAL → Option Value) : TabP (fun l al => G.stepAt packP unpackP evXV (regP env pf28 nt55 h) (finP env Try.f55.results.toList) (G.collect B55 A55 []) l S al) (T55 h S) := by
  unfold T55
  refine TabP.cons 0 (fun vs0 q e0 => ?_) ?_
  · obtain ⟨r0, vs1, rfl, e1⟩ := wV_some e0
    obtain ⟨r1, vs2, rfl, e2⟩ := wV_some e1
    obtain ⟨rfl, ee⟩ := wN_some e2
    exact (q55x0 h S r0 r1).symm.trans ee
  exact TabP.nil
theorem r55 : PSound Try.prog 55 F55 := fun_soundP (C := C0) ok0 (pf := pf28) pfok28 (fn := Try.f55) (body := B55) (kinds := [Kd.v, Kd.v]) (A := A55) (T := T55) (by kernel_rfl) (by kernel_rfl) (by kernel_rfl) (by kernel_rfl) (fun h S => t55 h S)
noncomputable def pf29 : PF := pfC 55 F55 pf28
theorem pfok29 : PfSound Try.prog pf29 := pfC_ok r55 pfok28
noncomputable def orc68 := orcP 55 F55 orc67
noncomputable def C68 : Cfg := cfg orc68
theorem ok68 : C68.Ok := orcP_ok (C := C67) ok67 r55
noncomputable def B99 : Code := (Try.f99.body).getD .skip
noncomputable def A99 : G.Ann (List KI) := (G.Ann.node (some (0, [KI.reg 0 (Kd.i .i64)])) al (an al (an (an al (an (G.Ann.node (some (1, [KI.reg 0 (Kd.i .i64), KI.reg 3 (Kd.i .i64), KI.reg 4 (Kd.i .i64)])) (an (an al (an al al)) (an (an al al) al)) al) al)) (G.Ann.node (some (2, [KI.reg 3 (Kd.i .i64)])) al al))))
noncomputable def P99x2 (h : Hp) (S : Nat → PAL → Option Value) (r3 : Int) : Option Value :=
  some (Value.int .i64 r3)
noncomputable def P99x1 (h : Hp) (S : Nat → PAL → Option Value) (r0 : Int) (r3 : Int) (r4 : Int) : Option Value :=
  boolZ (ltZ r4 r0) fun b0 =>
  ifB b0
  (wrap64 (Int.mul (Int.ofNat 2) r3) fun i1 =>
  wrap64 (Int.add r4 (Int.ofNat 1)) fun i2 =>
  S 1 (PAL.i r0 (PAL.i i1 (PAL.i i2 PAL.n))))
  (S 2 (PAL.i r3 PAL.n))
noncomputable def P99x0 (h : Hp) (S : Nat → PAL → Option Value) (r0 : Int) : Option Value :=
  S 1 (PAL.i r0 (PAL.i (Int.ofNat 1) (PAL.i (Int.ofNat 0) PAL.n)))
noncomputable def T99 (h : Hp) (S : Nat → PAL → Option Value) : Nat → PAL → Option Value := tabPC 0 (wI fun r0 => wN (P99x0 h S r0)) (tabPC 1 (wI fun r0 => wI fun r3 => wI fun r4 => wN (P99x1 h S r0 r3 r4)) (tabPC 2 (wI fun r3 => wN (P99x2 h S r3)) (tabPN)))
noncomputable def F99 (args : List Value) (h : Hp) : Option Value := plainO (packArgs [Kd.i .i64] args fun al => G.rec' (T99 h) 1000000 0 al)
def nt99 : Nat := 1 + (13 - 1)
theorem q99x2 (h : Hp) (S : Nat → PAL → Option Value) (r3 : Int) : P99x2 h S r3 = G.stepAt packP unpackP evXV (regP env pf29 nt99 h) (finP env Try.f99.results.toList) (G.collect B99 A99 []) 2 S (PAL.i r3 PAL.n) := by kernel_rfl
theorem q99x1 (h : Hp) (S : Nat → PAL → Option Value) (r0 : Int) (r3 : Int) (r4 : Int) : P99x1 h S r0 r3 r4 = G.stepAt packP unpackP evXV (regP env pf29 nt99 h) (finP env Try.f99.results.toList) (G.collect B99 A99 []) 1 S (PAL.i r0 (PAL.i r3 (PAL.i r4 PAL.n))) := by kernel_rfl
theorem q99x0 (h : Hp) (S : Nat → PAL → Option Value) (r0 : Int) : P99x0 h S r0 = G.stepAt packP unpackP evXV (regP env pf29 nt99 h) (finP env Try.f99.results.toList) (G.collect B99 A99 []) 0 S (PAL.i r0 PAL.n) := by kernel_rfl
theorem t99 (h : Hp) (S : Nat → PAL → Option Value) : TabP (fun l al => G.stepAt packP unpackP evXV (regP env pf29 nt99 h) (finP env Try.f99.results.toList) (G.collect B99 A99 []) l S al) (T99 h S) := by
  unfold T99
  refine TabP.cons 0 (fun vs0 q e0 => ?_) ?_
  · obtain ⟨r0, vs1, rfl, e1⟩ := wI_some e0
    obtain ⟨rfl, ee⟩ := wN_some e1
    exact (q99x0 h S r0).symm.trans ee
  refine TabP.cons 1 (fun vs0 q e0 => ?_) ?_
  · obtain ⟨r0, vs1, rfl, e1⟩ := wI_some e0
    obtain ⟨r3, vs2, rfl, e2⟩ := wI_some e1
    obtain ⟨r4, vs3, rfl, e3⟩ := wI_some e2
    obtain ⟨rfl, ee⟩ := wN_some e3
    exact (q99x1 h S r0 r3 r4).symm.trans ee
  refine TabP.cons 2 (fun vs0 q e0 => ?_) ?_
  · obtain ⟨r3, vs1, rfl, e1⟩ := wI_some e0
    obtain ⟨rfl, ee⟩ := wN_some e1
    exact (q99x2 h S r3).symm.trans ee
  exact TabP.nil
theorem r99 : PSound Try.prog 99 F99 := fun_soundP (C := C0) ok0 (pf := pf29) pfok29 (fn := Try.f99) (body := B99) (kinds := [Kd.i .i64]) (A := A99) (T := T99) (by kernel_rfl) (by kernel_rfl) (by kernel_rfl) (by kernel_rfl) (fun h S => t99 h S)
noncomputable def pf30 : PF := pfC 99 F99 pf29
theorem pfok30 : PfSound Try.prog pf30 := pfC_ok r99 pfok29
noncomputable def orc69 := orcP 99 F99 orc68
noncomputable def C69 : Cfg := cfg orc69
theorem ok69 : C69.Ok := orcP_ok (C := C68) ok68 r99
noncomputable def B56 : Code := (Try.f56.body).getD .skip
noncomputable def A56 : G.Ann (List KI) := (G.Ann.node (some (0, [KI.reg 0 (Kd.v), KI.reg 1 (Kd.v)])) al (an (an al (an (an al al) al)) (an (an al (an (G.Ann.node (some (1, [KI.loc 2 2, KI.loc 3 3, KI.reg 5 (Kd.i .i64), KI.list 2, KI.cells 3 [Kd.v, Kd.b, Kd.v, Kd.i .i64]])) (an (an al (an al al)) (an (an (an al (an al (an (an al al) al))) al) al)) al) al)) (G.Ann.node (some (2, [KI.loc 2 2, KI.loc 3 3, KI.list 2, KI.cells 3 [Kd.v, Kd.b, Kd.v, Kd.i .i64]])) (an al (an (an al al) al)) (an al al)))))
noncomputable def P56x2 (h : Hp) (S : Nat → PAL → Option Value) (c2 : List Value) (c3x0 : Value) (c3x1 : Bool) (c3x2 : Value) (c3x3 : Int) : Option Value :=
  nthR c2 3 fun v0 =>
  lenSK v0 fun i1 =>
  optK (F99 [(Value.int .i64 i1)] h) fun v2 =>
  intK .i64 v2 fun i3 =>
  wrap64 (Int.sub i3 (Int.ofNat 1)) fun i4 =>
  optK (F54 [(Value.int .i64 c3x3), (Value.int .i64 (Int.ofNat 0)), (Value.int .i64 i4)] h) fun v5 =>
  boolK v5 fun b6 =>
  boolN b6 fun b7 =>
  ifB b7
  (some (Value.int .i64 (Int.ofNat 4)))
  (some (Value.int .i64 (Int.ofNat 0)))
noncomputable def P56x1 (h : Hp) (S : Nat → PAL → Option Value) (r5 : Int) (c2 : List Value) (c3x0 : Value) (c3x1 : Bool) (c3x2 : Value) (c3x3 : Int) : Option Value :=
  lenSK c3x2 fun i0 =>
  boolZ (ltZ r5 i0) fun b1 =>
  ifB b1
  (idxSK 2 c3x2 r5 fun v2 =>
  loadNK 2 h v2 fun v3 =>
  optK (F53 [v3, (Value.int .i64 (Int.ofNat 0)), (Value.int .i64 (Int.ofNat 60))] h) fun v4 =>
  intK .i64 v4 fun i5 =>
  boolN (eqZ i5 (Int.ofNat 0)) fun b6 =>
  ifB b6
  (some (Value.int .i64 i5))
  (wrap64 (Int.add r5 (Int.ofNat 1)) fun i7 =>
  S 1 (PAL.i i7 (PAL.l c2 (PAL.v c3x0 (PAL.b c3x1 (PAL.v c3x2 (PAL.i c3x3 PAL.n))))))))
  (S 2 (PAL.l c2 (PAL.v c3x0 (PAL.b c3x1 (PAL.v c3x2 (PAL.i c3x3 PAL.n))))))
noncomputable def P56x0 (h : Hp) (S : Nat → PAL → Option Value) (r0 : Value) (r1 : Value) : Option Value :=
  forceL (Array.toList (Value.cells r0)) fun c0 =>
  forceL (Array.toList (Value.cells r1)) fun c1 =>
  nthR c1 2 fun v2 =>
  lenSK v2 fun i3 =>
  nthR c0 2 fun v4 =>
  intK .i64 v4 fun i5 =>
  boolN (eqZ i3 i5) fun b6 =>
  ifB b6
  (some (Value.int .i64 (Int.ofNat 3)))
  (unconsK c1 fun a7 c7 =>
  unconsK c7 fun a8 c8 =>
  boolK a8 fun b9 =>
  unconsK c8 fun a10 c10 =>
  unconsK c10 fun a11 c11 =>
  intK .i64 a11 fun i12 =>
  nilK c11 (S 1 (PAL.i (Int.ofNat 0) (PAL.l c0 (PAL.v a7 (PAL.b b9 (PAL.v a10 (PAL.i i12 PAL.n))))))))
noncomputable def T56 (h : Hp) (S : Nat → PAL → Option Value) : Nat → PAL → Option Value := tabPC 0 (wV fun r0 => wV fun r1 => wN (P56x0 h S r0 r1)) (tabPC 1 (wI fun r5 => wL fun c2 => wV fun c3x0 => wB fun c3x1 => wV fun c3x2 => wI fun c3x3 => wN (P56x1 h S r5 c2 c3x0 c3x1 c3x2 c3x3)) (tabPC 2 (wL fun c2 => wV fun c3x0 => wB fun c3x1 => wV fun c3x2 => wI fun c3x3 => wN (P56x2 h S c2 c3x0 c3x1 c3x2 c3x3)) (tabPN)))
noncomputable def F56 (args : List Value) (h : Hp) : Option Value := plainO (packArgs [Kd.v, Kd.v] args fun al => G.rec' (T56 h) 1000000 0 al)
def nt56 : Nat := 2 + (38 - 2)
theorem q56x2 (h : Hp) (S : Nat → PAL → Option Value) (c2 : List Value) (c3x0 : Value) (c3x1 : Bool) (c3x2 : Value) (c3x3 : Int) : P56x2 h S c2 c3x0 c3x1 c3x2 c3x3 = G.stepAt packP unpackP evXV (regP env pf30 nt56 h) (finP env Try.f56.results.toList) (G.collect B56 A56 []) 2 S (PAL.l c2 (PAL.v c3x0 (PAL.b c3x1 (PAL.v c3x2 (PAL.i c3x3 PAL.n))))) := by kernel_rfl
theorem q56x1 (h : Hp) (S : Nat → PAL → Option Value) (r5 : Int) (c2 : List Value) (c3x0 : Value) (c3x1 : Bool) (c3x2 : Value) (c3x3 : Int) : P56x1 h S r5 c2 c3x0 c3x1 c3x2 c3x3 = G.stepAt packP unpackP evXV (regP env pf30 nt56 h) (finP env Try.f56.results.toList) (G.collect B56 A56 []) 1 S (PAL.i r5 (PAL.l c2 (PAL.v c3x0 (PAL.b c3x1 (PAL.v c3x2 (PAL.i c3x3 PAL.n)))))) := by kernel_rfl
theorem q56x0 (h : Hp) (S : Nat → PAL → Option Value) (r0 : Value) (r1 : Value) : P56x0 h S r0 r1 = G.stepAt packP unpackP evXV (regP env pf30 nt56 h) (finP env Try.f56.results.toList) (G.collect B56 A56 []) 0 S (PAL.v r0 (PAL.v r1 PAL.n)) := by kernel_rfl
theorem t56 (h : Hp) (S : Nat → PAL → Option Value) : TabP (fun l al => G.stepAt packP unpackP evXV (regP env pf30 nt56 h) (finP env Try.f56.results.toList) (G.collect B56 A56 []) l S al) (T56 h S) := by
  unfold T56
  refine TabP.cons 0 (fun vs0 q e0 => ?_) ?_
  · obtain ⟨r0, vs1, rfl, e1⟩ := wV_some e0
    obtain ⟨r1, vs2, rfl, e2⟩ := wV_some e1
    obtain ⟨rfl, ee⟩ := wN_some e2
    exact (q56x0 h S r0 r1).symm.trans ee
  refine TabP.cons 1 (fun vs0 q e0 => ?_) ?_
  · obtain ⟨r5, vs1, rfl, e1⟩ := wI_some e0
    obtain ⟨c2, vs2, rfl, e2⟩ := wL_some e1
    obtain ⟨c3x0, vs3, rfl, e3⟩ := wV_some e2
    obtain ⟨c3x1, vs4, rfl, e4⟩ := wB_some e3
    obtain ⟨c3x2, vs5, rfl, e5⟩ := wV_some e4
    obtain ⟨c3x3, vs6, rfl, e6⟩ := wI_some e5
    obtain ⟨rfl, ee⟩ := wN_some e6
    exact (q56x1 h S r5 c2 c3x0 c3x1 c3x2 c3x3).symm.trans ee
  refine TabP.cons 2 (fun vs0 q e0 => ?_) ?_
  · obtain ⟨c2, vs1, rfl, e1⟩ := wL_some e0
    obtain ⟨c3x0, vs2, rfl, e2⟩ := wV_some e1
    obtain ⟨c3x1, vs3, rfl, e3⟩ := wB_some e2
    obtain ⟨c3x2, vs4, rfl, e4⟩ := wV_some e3
    obtain ⟨c3x3, vs5, rfl, e5⟩ := wI_some e4
    obtain ⟨rfl, ee⟩ := wN_some e5
    exact (q56x2 h S c2 c3x0 c3x1 c3x2 c3x3).symm.trans ee
  exact TabP.nil
theorem r56 : PSound Try.prog 56 F56 := fun_soundP (C := C0) ok0 (pf := pf30) pfok30 (fn := Try.f56) (body := B56) (kinds := [Kd.v, Kd.v]) (A := A56) (T := T56) (by kernel_rfl) (by kernel_rfl) (by kernel_rfl) (by kernel_rfl) (fun h S => t56 h S)
noncomputable def pf31 : PF := pfC 56 F56 pf30
theorem pfok31 : PfSound Try.prog pf31 := pfC_ok r56 pfok30
noncomputable def orc70 := orcP 56 F56 orc69
noncomputable def C70 : Cfg := cfg orc70
theorem ok70 : C70.Ok := orcP_ok (C := C69) ok69 r56
noncomputable def B57 : Code := (Try.f57.body).getD .skip
noncomputable def A57 : G.Ann (List KI) := (G.Ann.node (some (0, [KI.reg 0 (Kd.v)])) al (an al (an (an al (G.Ann.node (some (1, [KI.loc 1 1, KI.reg 37 (Kd.b), KI.list 1])) (an al al) al)) (G.Ann.node (some (2, [KI.loc 1 1, KI.list 1])) (an al (an (an al al) al)) (an al al)))))
noncomputable def P57x2 (h : Hp) (S : Nat → PAL → Option Value) (c1 : List Value) : Option Value :=
  nthR c1 3 fun v0 =>
  intK .i64 v0 fun i1 =>
  nthR c1 4 fun v2 =>
  intK .i64 v2 fun i3 =>
  boolZ (ltZ i3 i1) fun b4 =>
  ifB b4
  (some (Value.int .i64 (Int.ofNat 2)))
  (some (Value.int .i64 (Int.ofNat 0)))
noncomputable def P57x1 (h : Hp) (S : Nat → PAL → Option Value) (r37 : Bool) (c1 : List Value) : Option Value :=
  ifB r37
  (some (Value.int .i64 (Int.ofNat 7)))
  (S 2 (PAL.l c1 PAL.n))
noncomputable def P57x0 (h : Hp) (S : Nat → PAL → Option Value) (r0 : Value) : Option Value :=
  forceL (Array.toList (Value.cells r0)) fun c0 =>
  nthR c0 1 fun v1 =>
  intK .i64 v1 fun i2 =>
  optK (F54 [(Value.int .i64 i2), (Value.int .i64 (Int.ofNat 0)), (Value.int .i64 (Int.ofNat 9))] h) fun v3 =>
  boolK v3 fun b4 =>
  boolN b4 fun b5 =>
  ifB b5
  (S 1 (PAL.b true (PAL.l c0 PAL.n)))
  (nthR c0 2 fun v6 =>
  intK .i64 v6 fun i7 =>
  optK (F54 [(Value.int .i64 i7), (Value.int .i64 (Int.ofNat 1)), (Value.int .i64 (Int.ofNat 500))] h) fun v8 =>
  boolK v8 fun b9 =>
  boolN b9 fun b10 =>
  ifB b10
  (S 1 (PAL.b true (PAL.l c0 PAL.n)))
  (nthR c0 3 fun v11 =>
  intK .i64 v11 fun i12 =>
  wrap64 (Int.sub (Int.ofNat 0) (Int.ofNat 100)) fun i13 =>
  optK (F54 [(Value.int .i64 i12), (Value.int .i64 i13), (Value.int .i64 (Int.ofNat 100))] h) fun v14 =>
  boolK v14 fun b15 =>
  boolN b15 fun b16 =>
  ifB b16
  (S 1 (PAL.b true (PAL.l c0 PAL.n)))
  (nthR c0 4 fun v17 =>
  intK .i64 v17 fun i18 =>
  wrap64 (Int.sub (Int.ofNat 0) (Int.ofNat 100)) fun i19 =>
  optK (F54 [(Value.int .i64 i18), (Value.int .i64 i19), (Value.int .i64 (Int.ofNat 100))] h) fun v20 =>
  boolK v20 fun b21 =>
  boolN b21 fun b22 =>
  ifB b22
  (S 1 (PAL.b true (PAL.l c0 PAL.n)))
  (nthR c0 5 fun v23 =>
  intK .i64 v23 fun i24 =>
  optK (F54 [(Value.int .i64 i24), (Value.int .i64 (Int.ofNat 0)), (Value.int .i64 (Int.ofNat 100))] h) fun v25 =>
  boolK v25 fun b26 =>
  boolN b26 fun b27 =>
  S 1 (PAL.b b27 (PAL.l c0 PAL.n))))))
noncomputable def T57 (h : Hp) (S : Nat → PAL → Option Value) : Nat → PAL → Option Value := tabPC 0 (wV fun r0 => wN (P57x0 h S r0)) (tabPC 1 (wB fun r37 => wL fun c1 => wN (P57x1 h S r37 c1)) (tabPC 2 (wL fun c1 => wN (P57x2 h S c1)) (tabPN)))
noncomputable def F57 (args : List Value) (h : Hp) : Option Value := plainO (packArgs [Kd.v] args fun al => G.rec' (T57 h) 1000000 0 al)
def nt57 : Nat := 1 + (43 - 1)
theorem q57x2 (h : Hp) (S : Nat → PAL → Option Value) (c1 : List Value) : P57x2 h S c1 = G.stepAt packP unpackP evXV (regP env pf31 nt57 h) (finP env Try.f57.results.toList) (G.collect B57 A57 []) 2 S (PAL.l c1 PAL.n) := by kernel_rfl
theorem q57x1 (h : Hp) (S : Nat → PAL → Option Value) (r37 : Bool) (c1 : List Value) : P57x1 h S r37 c1 = G.stepAt packP unpackP evXV (regP env pf31 nt57 h) (finP env Try.f57.results.toList) (G.collect B57 A57 []) 1 S (PAL.b r37 (PAL.l c1 PAL.n)) := by kernel_rfl
theorem q57x0 (h : Hp) (S : Nat → PAL → Option Value) (r0 : Value) : P57x0 h S r0 = G.stepAt packP unpackP evXV (regP env pf31 nt57 h) (finP env Try.f57.results.toList) (G.collect B57 A57 []) 0 S (PAL.v r0 PAL.n) := by kernel_rfl
theorem t57 (h : Hp) (S : Nat → PAL → Option Value) : TabP (fun l al => G.stepAt packP unpackP evXV (regP env pf31 nt57 h) (finP env Try.f57.results.toList) (G.collect B57 A57 []) l S al) (T57 h S) := by
  unfold T57
  refine TabP.cons 0 (fun vs0 q e0 => ?_) ?_
  · obtain ⟨r0, vs1, rfl, e1⟩ := wV_some e0
    obtain ⟨rfl, ee⟩ := wN_some e1
    exact (q57x0 h S r0).symm.trans ee
  refine TabP.cons 1 (fun vs0 q e0 => ?_) ?_
  · obtain ⟨r37, vs1, rfl, e1⟩ := wB_some e0
    obtain ⟨c1, vs2, rfl, e2⟩ := wL_some e1
    obtain ⟨rfl, ee⟩ := wN_some e2
    exact (q57x1 h S r37 c1).symm.trans ee
  refine TabP.cons 2 (fun vs0 q e0 => ?_) ?_
  · obtain ⟨c1, vs1, rfl, e1⟩ := wL_some e0
    obtain ⟨rfl, ee⟩ := wN_some e1
    exact (q57x2 h S c1).symm.trans ee
  exact TabP.nil
theorem r57 : PSound Try.prog 57 F57 := fun_soundP (C := C0) ok0 (pf := pf31) pfok31 (fn := Try.f57) (body := B57) (kinds := [Kd.v]) (A := A57) (T := T57) (by kernel_rfl) (by kernel_rfl) (by kernel_rfl) (by kernel_rfl) (fun h S => t57 h S)
noncomputable def pf32 : PF := pfC 57 F57 pf31
theorem pfok32 : PfSound Try.prog pf32 := pfC_ok r57 pfok31
noncomputable def orc71 := orcP 57 F57 orc70
noncomputable def C71 : Cfg := cfg orc71
theorem ok71 : C71.Ok := orcP_ok (C := C70) ok70 r57
noncomputable def B14 : Code := (Try.f14.body).getD .skip
def A14 : Ann := (Ann.node (some (0, [(0, Kd.v)])) Ann.nil (Ann.node none Ann.nil (Ann.node none (Ann.node none Ann.nil (Ann.node none (Ann.node none Ann.nil Ann.nil) Ann.nil)) (Ann.node none (Ann.node none Ann.nil (Ann.node none (Ann.node none Ann.nil Ann.nil) Ann.nil)) (Ann.node none (Ann.node none Ann.nil (Ann.node none (Ann.node none Ann.nil Ann.nil) Ann.nil)) (Ann.node none (Ann.node none Ann.nil (Ann.node none (Ann.node (some (1, [(1, Kd.v), (6, Kd.i .i64)])) (Ann.node none (Ann.node none Ann.nil (Ann.node none Ann.nil Ann.nil)) (Ann.node none (Ann.node none (Ann.node none Ann.nil (Ann.node none (Ann.node none Ann.nil Ann.nil) Ann.nil)) Ann.nil) Ann.nil)) Ann.nil) Ann.nil)) (Ann.node (some (12, [(1, Kd.v)])) (Ann.node none Ann.nil (Ann.node none (Ann.node none Ann.nil Ann.nil) Ann.nil)) (Ann.node none Ann.nil (Ann.node none (Ann.node none Ann.nil (Ann.node none (Ann.node (some (2, [(1, Kd.v), (7, Kd.v), (8, Kd.i .i64)])) (Ann.node none (Ann.node none Ann.nil (Ann.node none Ann.nil Ann.nil)) (Ann.node none (Ann.node none (Ann.node none Ann.nil (Ann.node none (Ann.node none Ann.nil (Ann.node none Ann.nil Ann.nil)) (Ann.node (some (3, [(1, Kd.v), (5, Kd.i .i64), (7, Kd.v), (8, Kd.i .i64)])) (Ann.node none Ann.nil (Ann.node none (Ann.node none Ann.nil Ann.nil) Ann.nil)) Ann.nil))) Ann.nil) (Ann.node (some (4, [(1, Kd.v), (7, Kd.v), (8, Kd.i .i64)])) Ann.nil Ann.nil))) Ann.nil) Ann.nil)) (Ann.node (some (11, [(1, Kd.v)])) (Ann.node none Ann.nil (Ann.node none (Ann.node none Ann.nil Ann.nil) Ann.nil)) (Ann.node none Ann.nil (Ann.node none (Ann.node none Ann.nil (Ann.node none (Ann.node (some (5, [(1, Kd.v), (7, Kd.v), (9, Kd.i .i64)])) (Ann.node none (Ann.node none Ann.nil (Ann.node none Ann.nil Ann.nil)) (Ann.node none (Ann.node none (Ann.node none Ann.nil (Ann.node none (Ann.node none Ann.nil (Ann.node none Ann.nil Ann.nil)) (Ann.node (some (6, [(1, Kd.v), (5, Kd.i .i64), (7, Kd.v), (9, Kd.i .i64)])) (Ann.node none Ann.nil (Ann.node none (Ann.node none Ann.nil Ann.nil) Ann.nil)) Ann.nil))) Ann.nil) (Ann.node (some (7, [(1, Kd.v), (7, Kd.v), (9, Kd.i .i64)])) Ann.nil Ann.nil))) Ann.nil) Ann.nil)) (Ann.node (some (10, [(1, Kd.v)])) (Ann.node none Ann.nil (Ann.node none (Ann.node none Ann.nil Ann.nil) Ann.nil)) (Ann.node none (Ann.node none Ann.nil (Ann.node none (Ann.node (some (8, [(1, Kd.v), (10, Kd.i .i64)])) (Ann.node none (Ann.node none Ann.nil (Ann.node none Ann.nil Ann.nil)) (Ann.node none (Ann.node none (Ann.node none Ann.nil (Ann.node none (Ann.node none Ann.nil Ann.nil) Ann.nil)) Ann.nil) Ann.nil)) Ann.nil) Ann.nil)) (Ann.node (some (9, [])) Ann.nil Ann.nil)))))))))))))))
noncomputable def P14x9 (S : Sg) (h : Hp) : CRes :=
  some (Value.tuple (List.toArray [(Value.int .i64 (Int.ofNat 0)), (Value.int .i64 (Int.ofNat 0)), (Value.int .i64 (Int.ofNat 0))]), h)
noncomputable def P14x8 (S : Sg) (r1 : Value) (r10 : Int) (h : Hp) : CRes :=
  ptrAddK 6 r1 fun v0 =>
  load1K h v0 fun v1 =>
  lenSK v1 fun i2 =>
  boolZ (ltZ r10 i2) fun b3 =>
  ifB b3
  (ptrAddK 6 r1 fun v4 =>
  load1K h v4 fun v5 =>
  idxSK 1 v5 r10 fun v6 =>
  load1K h v6 fun v7 =>
  intK .i64 v7 fun i8 =>
  pairK (optK (F54 [(Value.int .i64 i8), (Value.int .i64 (Int.ofNat 0)), (Value.int .i64 (Int.ofNat 9))] h) fun v => some (v, h)) fun v9 h9 =>
  boolK v9 fun b10 =>
  boolN b10 fun b11 =>
  ifB b11
  (some (Value.tuple (List.toArray [(Value.int .i64 (Int.ofNat 6)), (Value.int .i64 r10), (Value.int .i64 (Int.ofNat 7))]), h9))
  (wrap64 (Int.add r10 (Int.ofNat 1)) fun i12 =>
  S 8 (AL.v r1 (AL.i i12 AL.n)) h9))
  (S 9 AL.n h)
noncomputable def P14x10 (S : Sg) (r1 : Value) (h : Hp) : CRes :=
  ptrAddK 6 r1 fun v0 =>
  load1K h v0 fun v1 =>
  lenSK v1 fun i2 =>
  boolZ (ltZ (Int.ofNat 3) i2) fun b3 =>
  ifB b3
  (some (Value.tuple (List.toArray [(Value.int .i64 (Int.ofNat 6)), (Value.int .i64 (Int.ofNat 0)), (Value.int .i64 (Int.ofNat 3))]), h))
  (S 8 (AL.v r1 (AL.i (Int.ofNat 0) AL.n)) h)
noncomputable def P14x7 (S : Sg) (r1 : Value) (r7 : Value) (r9 : Int) (h : Hp) : CRes :=
  wrap64 (Int.add r9 (Int.ofNat 1)) fun i0 =>
  S 5 (AL.v r1 (AL.v r7 (AL.i i0 AL.n))) h
noncomputable def P14x6 (S : Sg) (r1 : Value) (r5 : Int) (r7 : Value) (r9 : Int) (h : Hp) : CRes :=
  boolN (eqZ r5 (Int.ofNat 0)) fun b0 =>
  ifB b0
  (some (Value.tuple (List.toArray [(Value.int .i64 (Int.ofNat 5)), (Value.int .i64 r9), (Value.int .i64 r5)]), h))
  (ptrAddK 5 r1 fun v1 =>
  load1K h v1 fun v2 =>
  idxSK 6 v2 r9 fun v3 =>
  ptrAddK 0 v3 fun v4 =>
  load1K h v4 fun v5 =>
  pairK (buildSliceV env h 92 1 (List.toArray [(0, v5)])) fun v6 h6 =>
  pairK (appendV env h6 #[92, 92] (List.toArray [r7, v6])) fun v7 h7 =>
  S 7 (AL.v r1 (AL.v v7 (AL.i r9 AL.n))) h7)
noncomputable def P14x5 (S : Sg) (r1 : Value) (r7 : Value) (r9 : Int) (h : Hp) : CRes :=
  ptrAddK 5 r1 fun v0 =>
  load1K h v0 fun v1 =>
  lenSK v1 fun i2 =>
  boolZ (ltZ r9 i2) fun b3 =>
  ifB b3
  (ptrAddK 5 r1 fun v4 =>
  load1K h v4 fun v5 =>
  idxSK 6 v5 r9 fun v6 =>
  ptrAddK 0 v6 fun v7 =>
  load1K h v7 fun v8 =>
  pairK (optK (F55 [v8, r7] h) fun v => some (v, h)) fun v9 h9 =>
  intK .i64 v9 fun i10 =>
  boolZ (eqZ i10 (Int.ofNat 0)) fun b11 =>
  ifB b11
  (ptrAddK 5 r1 fun v12 =>
  load1K h9 v12 fun v13 =>
  idxSK 6 v13 r9 fun v14 =>
  loadNK 6 h9 v14 fun v15 =>
  pairK (optK (F57 [v15] h9) fun v => some (v, h9)) fun v16 h16 =>
  intK .i64 v16 fun i17 =>
  S 6 (AL.v r1 (AL.i i17 (AL.v r7 (AL.i r9 AL.n)))) h16)
  (S 6 (AL.v r1 (AL.i i10 (AL.v r7 (AL.i r9 AL.n)))) h9))
  (S 10 (AL.v r1 AL.n) h)
noncomputable def P14x11 (S : Sg) (r1 : Value) (h : Hp) : CRes :=
  ptrAddK 5 r1 fun v0 =>
  load1K h v0 fun v1 =>
  lenSK v1 fun i2 =>
  boolZ (ltZ (Int.ofNat 5) i2) fun b3 =>
  ifB b3
  (some (Value.tuple (List.toArray [(Value.int .i64 (Int.ofNat 5)), (Value.int .i64 (Int.ofNat 0)), (Value.int .i64 (Int.ofNat 3))]), h))
  (S 5 (AL.v r1 (AL.v (Value.slice none 0 0) (AL.i (Int.ofNat 0) AL.n))) h)
noncomputable def P14x4 (S : Sg) (r1 : Value) (r7 : Value) (r8 : Int) (h : Hp) : CRes :=
  wrap64 (Int.add r8 (Int.ofNat 1)) fun i0 =>
  S 2 (AL.v r1 (AL.v r7 (AL.i i0 AL.n))) h
noncomputable def P14x3 (S : Sg) (r1 : Value) (r5 : Int) (r7 : Value) (r8 : Int) (h : Hp) : CRes :=
  boolN (eqZ r5 (Int.ofNat 0)) fun b0 =>
  ifB b0
  (some (Value.tuple (List.toArray [(Value.int .i64 (Int.ofNat 4)), (Value.int .i64 r8), (Value.int .i64 r5)]), h))
  (ptrAddK 4 r1 fun v1 =>
  load1K h v1 fun v2 =>
  idxSK 4 v2 r8 fun v3 =>
  ptrAddK 0 v3 fun v4 =>
  load1K h v4 fun v5 =>
  pairK (buildSliceV env h 92 1 (List.toArray [(0, v5)])) fun v6 h6 =>
  pairK (appendV env h6 #[92, 92] (List.toArray [r7, v6])) fun v7 h7 =>
  S 4 (AL.v r1 (AL.v v7 (AL.i r8 AL.n))) h7)
noncomputable def P14x2 (S : Sg) (r1 : Value) (r7 : Value) (r8 : Int) (h : Hp) : CRes :=
  ptrAddK 4 r1 fun v0 =>
  load1K h v0 fun v1 =>
  lenSK v1 fun i2 =>
  boolZ (ltZ r8 i2) fun b3 =>
  ifB b3
  (ptrAddK 4 r1 fun v4 =>
  load1K h v4 fun v5 =>
  idxSK 4 v5 r8 fun v6 =>
  ptrAddK 0 v6 fun v7 =>
  load1K h v7 fun v8 =>
  pairK (optK (F55 [v8, r7] h) fun v => some (v, h)) fun v9 h9 =>
  intK .i64 v9 fun i10 =>
  boolZ (eqZ i10 (Int.ofNat 0)) fun b11 =>
  ifB b11
  (loadNK 7 h9 r1 fun v12 =>
  ptrAddK 4 r1 fun v13 =>
  load1K h9 v13 fun v14 =>
  idxSK 4 v14 r8 fun v15 =>
  loadNK 4 h9 v15 fun v16 =>
  pairK (optK (F56 [v12, v16] h9) fun v => some (v, h9)) fun v17 h17 =>
  intK .i64 v17 fun i18 =>
  S 3 (AL.v r1 (AL.i i18 (AL.v r7 (AL.i r8 AL.n)))) h17)
  (S 3 (AL.v r1 (AL.i i10 (AL.v r7 (AL.i r8 AL.n)))) h9))
  (S 11 (AL.v r1 AL.n) h)
noncomputable def P14x12 (S : Sg) (r1 : Value) (h : Hp) : CRes :=
  ptrAddK 4 r1 fun v0 =>
  load1K h v0 fun v1 =>
  lenSK v1 fun i2 =>
  boolZ (ltZ (Int.ofNat 5) i2) fun b3 =>
  ifB b3
  (some (Value.tuple (List.toArray [(Value.int .i64 (Int.ofNat 4)), (Value.int .i64 (Int.ofNat 0)), (Value.int .i64 (Int.ofNat 3))]), h))
  (S 2 (AL.v r1 (AL.v (Value.slice none 0 0) (AL.i (Int.ofNat 0) AL.n))) h)
noncomputable def P14x1 (S : Sg) (r1 : Value) (r6 : Int) (h : Hp) : CRes :=
  ptrAddK 3 r1 fun v0 =>
  load1K h v0 fun v1 =>
  lenSK v1 fun i2 =>
  boolZ (ltZ r6 i2) fun b3 =>
  ifB b3
  (ptrAddK 3 r1 fun v4 =>
  load1K h v4 fun v5 =>
  idxSK 1 v5 r6 fun v6 =>
  load1K h v6 fun v7 =>
  intK .i64 v7 fun i8 =>
  pairK (optK (F54 [(Value.int .i64 i8), (Value.int .i64 (Int.ofNat 0)), (Value.int .i64 (Int.ofNat 2000))] h) fun v => some (v, h)) fun v9 h9 =>
  boolK v9 fun b10 =>
  boolN b10 fun b11 =>
  ifB b11
  (some (Value.tuple (List.toArray [(Value.int .i64 (Int.ofNat 3)), (Value.int .i64 r6), (Value.int .i64 (Int.ofNat 7))]), h9))
  (wrap64 (Int.add r6 (Int.ofNat 1)) fun i12 =>
  S 1 (AL.v r1 (AL.i i12 AL.n)) h9))
  (S 12 (AL.v r1 AL.n) h)
noncomputable def P14x0 (S : Sg) (r0 : Value) (h : Hp) : CRes :=
  allocK h 28 (Array.toList (Value.cells r0)) fun a0 h0 =>
  ptrAddK 0 a0 fun v1 =>
  loadNK 2 h0 v1 fun v2 =>
  pairK (optK (F53 [v2, (Value.int .i64 (Int.negSucc 99)), (Value.int .i64 (Int.ofNat 100))] h0) fun v => some (v, h0)) fun v3 h3 =>
  intK .i64 v3 fun i4 =>
  boolN (eqZ i4 (Int.ofNat 0)) fun b5 =>
  ifB b5
  (some (Value.tuple (List.toArray [(Value.int .i64 (Int.ofNat 1)), (Value.int .i64 (Int.ofNat 0)), (Value.int .i64 i4)]), h3))
  (ptrAddK 2 a0 fun v6 =>
  load1K h3 v6 fun v7 =>
  intK .i64 v7 fun i8 =>
  pairK (optK (F54 [(Value.int .i64 i8), (Value.int .i64 (Int.ofNat 0)), (Value.int .i64 (Int.ofNat 3))] h3) fun v => some (v, h3)) fun v9 h9 =>
  boolK v9 fun b10 =>
  boolN b10 fun b11 =>
  ifB b11
  (some (Value.tuple (List.toArray [(Value.int .i64 (Int.ofNat 2)), (Value.int .i64 (Int.ofNat 0)), (Value.int .i64 (Int.ofNat 7))]), h9))
  (ptrAddK 3 a0 fun v12 =>
  load1K h9 v12 fun v13 =>
  lenSK v13 fun i14 =>
  boolZ (ltZ (Int.ofNat 4) i14) fun b15 =>
  ifB b15
  (some (Value.tuple (List.toArray [(Value.int .i64 (Int.ofNat 3)), (Value.int .i64 (Int.ofNat 0)), (Value.int .i64 (Int.ofNat 3))]), h9))
  (S 1 (AL.v a0 (AL.i (Int.ofNat 0) AL.n)) h9)))
noncomputable def T14 (S : Sg) : Sg := tabC 0 (uV fun r0 => uN fun h => P14x0 S r0 h) (tabC 1 (uV fun r1 => uI fun r6 => uN fun h => P14x1 S r1 r6 h) (tabC 12 (uV fun r1 => uN fun h => P14x12 S r1 h) (tabC 2 (uV fun r1 => uV fun r7 => uI fun r8 => uN fun h => P14x2 S r1 r7 r8 h) (tabC 3 (uV fun r1 => uI fun r5 => uV fun r7 => uI fun r8 => uN fun h => P14x3 S r1 r5 r7 r8 h) (tabC 4 (uV fun r1 => uV fun r7 => uI fun r8 => uN fun h => P14x4 S r1 r7 r8 h) (tabC 11 (uV fun r1 => uN fun h => P14x11 S r1 h) (tabC 5 (uV fun r1 => uV fun r7 => uI fun r9 => uN fun h => P14x5 S r1 r7 r9 h) (tabC 6 (uV fun r1 => uI fun r5 => uV fun r7 => uI fun r9 => uN fun h => P14x6 S r1 r5 r7 r9 h) (tabC 7 (uV fun r1 => uV fun r7 => uI fun r9 => uN fun h => P14x7 S r1 r7 r9 h) (tabC 10 (uV fun r1 => uN fun h => P14x10 S r1 h) (tabC 8 (uV fun r1 => uI fun r10 => uN fun h => P14x8 S r1 r10 h) (tabC 9 (uN fun h => P14x9 S  h) (tabN)))))))))))))
noncomputable def F14 (args : List Value) (h : Hp) : CRes := packVals [Kd.v] args fun al => rec' T14 1000000 0 al h
def nt14 : Nat := 1 + (140 - 1)
theorem q14x9 (S : Sg) (h : Hp) : P14x9 S  h = stepAt (regK env orc71 (nt14)) (finK env Try.f14.results.toList) (collect B14 A14 []) 9 S AL.n h := by kernel_rfl
theorem q14x8 (S : Sg) (r1 : Value) (r10 : Int) (h : Hp) : P14x8 S r1 r10 h = stepAt (regK env orc71 (nt14)) (finK env Try.f14.results.toList) (collect B14 A14 []) 8 S (AL.v r1 (AL.i r10 AL.n)) h := by kernel_rfl
theorem q14x10 (S : Sg) (r1 : Value) (h : Hp) : P14x10 S r1 h = stepAt (regK env orc71 (nt14)) (finK env Try.f14.results.toList) (collect B14 A14 []) 10 S (AL.v r1 AL.n) h := by kernel_rfl
theorem q14x7 (S : Sg) (r1 : Value) (r7 : Value) (r9 : Int) (h : Hp) : P14x7 S r1 r7 r9 h = stepAt (regK env orc71 (nt14)) (finK env Try.f14.results.toList) (collect B14 A14 []) 7 S (AL.v r1 (AL.v r7 (AL.i r9 AL.n))) h := by kernel_rfl
theorem q14x6 (S : Sg) (r1 : Value) (r5 : Int) (r7 : Value) (r9 : Int) (h : Hp) : P14x6 S r1 r5 r7 r9 h = stepAt (regK env orc71 (nt14)) (finK env Try.f14.results.toList) (collect B14 A14 []) 6 S (AL.v r1 (AL.i r5 (AL.v r7 (AL.i r9 AL.n)))) h := by kernel_rfl
theorem q14x5 (S : Sg) (r1 : Value) (r7 : Value) (r9 : Int) (h : Hp) : P14x5 S r1 r7 r9 h = stepAt (regK env orc71 (nt14)) (finK env Try.f14.results.toList) (collect B14 A14 []) 5 S (AL.v r1 (AL.v r7 (AL.i r9 AL.n))) h := by kernel_rfl
theorem q14x11 (S : Sg) (r1 : Value) (h : Hp) : P14x11 S r1 h = stepAt (regK env orc71 (nt14)) (finK env Try.f14.results.toList) (collect B14 A14 []) 11 S (AL.v r1 AL.n) h := by kernel_rfl
theorem q14x4 (S : Sg) (r1 : Value) (r7 : Value) (r8 : Int) (h : Hp) : P14x4 S r1 r7 r8 h = stepAt (regK env orc71 (nt14)) (finK env Try.f14.results.toList) (collect B14 A14 []) 4 S (AL.v r1 (AL.v r7 (AL.i r8 AL.n))) h := by kernel_rfl
theorem q14x3 (S : Sg) (r1 : Value) (r5 : Int) (r7 : Value) (r8 : Int) (h : Hp) : P14x3 S r1 r5 r7 r8 h = stepAt (regK env orc71 (nt14)) (finK env Try.f14.results.toList) (collect B14 A14 []) 3 S (AL.v r1 (AL.i r5 (AL.v r7 (AL.i r8 AL.n)))) h := by kernel_rfl
theorem q14x2 (S : Sg) (r1 : Value) (r7 : Value) (r8 : Int) (h : Hp) : P14x2 S r1 r7 r8 h = stepAt (regK env orc71 (nt14)) (finK env Try.f14.results.toList) (collect B14 A14 []) 2 S (AL.v r1 (AL.v r7 (AL.i r8 AL.n))) h := by kernel_rfl
theorem q14x12 (S : Sg) (r1 : Value) (h : Hp) : P14x12 S r1 h = stepAt (regK env orc71 (nt14)) (finK env Try.f14.results.toList) (collect B14 A14 []) 12 S (AL.v r1 AL.n) h := by kernel_rfl
theorem q14x1 (S : Sg) (r1 : Value) (r6 : Int) (h : Hp) : P14x1 S r1 r6 h = stepAt (regK env orc71 (nt14)) (finK env Try.f14.results.toList) (collect B14 A14 []) 1 S (AL.v r1 (AL.i r6 AL.n)) h := by kernel_rfl
theorem q14x0 (S : Sg) (r0 : Value) (h : Hp) : P14x0 S r0 h = stepAt (regK env orc71 (nt14)) (finK env Try.f14.results.toList) (collect B14 A14 []) 0 S (AL.v r0 AL.n) h := by kernel_rfl
theorem t14 (S : Sg) : Tab (fun l vs h => stepAt (regK env orc71 nt14) (finK env Try.f14.results.toList) (collect B14 A14 []) l S vs h) (T14 S) := by
  unfold T14
  refine Tab.cons 0 (fun vs0 h q e0 => ?_) ?_
  · obtain ⟨r0, vs1, rfl, e1⟩ := uV_some e0
    obtain ⟨rfl, ee⟩ := uN_some e1
    exact (q14x0 S r0 h).symm.trans ee
  refine Tab.cons 1 (fun vs0 h q e0 => ?_) ?_
  · obtain ⟨r1, vs1, rfl, e1⟩ := uV_some e0
    obtain ⟨r6, vs2, rfl, e2⟩ := uI_some e1
    obtain ⟨rfl, ee⟩ := uN_some e2
    exact (q14x1 S r1 r6 h).symm.trans ee
  refine Tab.cons 12 (fun vs0 h q e0 => ?_) ?_
  · obtain ⟨r1, vs1, rfl, e1⟩ := uV_some e0
    obtain ⟨rfl, ee⟩ := uN_some e1
    exact (q14x12 S r1 h).symm.trans ee
  refine Tab.cons 2 (fun vs0 h q e0 => ?_) ?_
  · obtain ⟨r1, vs1, rfl, e1⟩ := uV_some e0
    obtain ⟨r7, vs2, rfl, e2⟩ := uV_some e1
    obtain ⟨r8, vs3, rfl, e3⟩ := uI_some e2
    obtain ⟨rfl, ee⟩ := uN_some e3
    exact (q14x2 S r1 r7 r8 h).symm.trans ee
  refine Tab.cons 3 (fun vs0 h q e0 => ?_) ?_
  · obtain ⟨r1, vs1, rfl, e1⟩ := uV_some e0
    obtain ⟨r5, vs2, rfl, e2⟩ := uI_some e1
    obtain ⟨r7, vs3, rfl, e3⟩ := uV_some e2
    obtain ⟨r8, vs4, rfl, e4⟩ := uI_some e3
    obtain ⟨rfl, ee⟩ := uN_some e4
    exact (q14x3 S r1 r5 r7 r8 h).symm.trans ee
  refine Tab.cons 4 (fun vs0 h q e0 => ?_) ?_
  · obtain ⟨r1, vs1, rfl, e1⟩ := uV_some e0
    obtain ⟨r7, vs2, rfl, e2⟩ := uV_some e1
    obtain ⟨r8, vs3, rfl, e3⟩ := uI_some e2
    obtain ⟨rfl, ee⟩ := uN_some e3
    exact (q14x4 S r1 r7 r8 h).symm.trans ee
  refine Tab.cons 11 (fun vs0 h q e0 => ?_) ?_
  · obtain ⟨r1, vs1, rfl, e1⟩ := uV_some e0
    obtain ⟨rfl, ee⟩ := uN_some e1
    exact (q14x11 S r1 h).symm.trans ee
  refine Tab.cons 5 (fun vs0 h q e0 => ?_) ?_
  · obtain ⟨r1, vs1, rfl, e1⟩ := uV_some e0
    obtain ⟨r7, vs2, rfl, e2⟩ := uV_some e1
    obtain ⟨r9, vs3, rfl, e3⟩ := uI_some e2
    obtain ⟨rfl, ee⟩ := uN_some e3
    exact (q14x5 S r1 r7 r9 h).symm.trans ee
  refine Tab.cons 6 (fun vs0 h q e0 => ?_) ?_
  · obtain ⟨r1, vs1, rfl, e1⟩ := uV_some e0
    obtain ⟨r5, vs2, rfl, e2⟩ := uI_some e1
    obtain ⟨r7, vs3, rfl, e3⟩ := uV_some e2
    obtain ⟨r9, vs4, rfl, e4⟩ := uI_some e3
    obtain ⟨rfl, ee⟩ := uN_some e4
    exact (q14x6 S r1 r5 r7 r9 h).symm.trans ee
  refine Tab.cons 7 (fun vs0 h q e0 => ?_) ?_
  · obtain ⟨r1, vs1, rfl, e1⟩ := uV_some e0
    obtain ⟨r7, vs2, rfl, e2⟩ := uV_some e1
    obtain ⟨r9, vs3, rfl, e3⟩ := uI_some e2
    obtain ⟨rfl, ee⟩ := uN_some e3
    exact (q14x7 S r1 r7 r9 h).symm.trans ee
  refine Tab.cons 10 (fun vs0 h q e0 => ?_) ?_
  · obtain ⟨r1, vs1, rfl, e1⟩ := uV_some e0
    obtain ⟨rfl, ee⟩ := uN_some e1
    exact (q14x10 S r1 h).symm.trans ee
  refine Tab.cons 8 (fun vs0 h q e0 => ?_) ?_
  · obtain ⟨r1, vs1, rfl, e1⟩ := uV_some e0
    obtain ⟨r10, vs2, rfl, e2⟩ := uI_some e1
    obtain ⟨rfl, ee⟩ := uN_some e2
    exact (q14x8 S r1 r10 h).symm.trans ee
  refine Tab.cons 9 (fun vs0 h q e0 => ?_) ?_
  · 
    obtain ⟨rfl, ee⟩ := uN_some e0
    exact (q14x9 S  h).symm.trans ee
  exact Tab.nil
theorem r14 : ∀ args h v h', F14 args h = some (v, h') → Runs (C71) (.call 14 args.toArray h) (.ret v h') := by
  intro args h v h' e
  exact fun_sound (C := C71) (fn := Try.f14) (body := B14) (np := 1) (A := A14) (T := T14) (kinds := [Kd.v]) (by kernel_rfl) (by kernel_rfl) (by kernel_rfl) (by kernel_rfl) (regK_ok env_ok) (by kernel_rfl) (fun S => t14 S) e
noncomputable def orc72 := orcQ 14 F14 orc71
noncomputable def C72 : Cfg := cfg orc72
theorem ok72 : C72.Ok := orcQ_ok (C := C71) ok71 r14
noncomputable def B30 : Code := (Try.f30.body).getD .skip
def A30 : Ann := (Ann.node (some (0, [(0, Kd.v)])) Ann.nil (Ann.node none Ann.nil (Ann.node none Ann.nil Ann.nil)))
noncomputable def P30x0 (S : Sg) (r0 : Value) (h : Hp) : CRes :=
  allocK h 28 (Array.toList (Value.cells r0)) fun a0 h0 =>
  loadNK 7 h0 a0 fun v1 =>
  pairK (callQ F14 [v1] h0) fun v2 h2 =>
  extK v2 0 fun v3 =>
  intK .i64 v3 fun i4 =>
  extK v2 1 fun v5 =>
  intK .i64 v5 fun i6 =>
  extK v2 2 fun v7 =>
  intK .i64 v7 fun i8 =>
  boolZ (eqZ i8 (Int.ofNat 0)) fun b9 =>
  some ((Value.bool b9), h2)
noncomputable def T30 (S : Sg) : Sg := tabC 0 (uV fun r0 => uN fun h => P30x0 S r0 h) (tabN)
noncomputable def F30 (args : List Value) (h : Hp) : CRes := packVals [Kd.v] args fun al => rec' T30 1000000 0 al h
def nt30 : Nat := 1 + (14 - 1)
theorem q30x0 (S : Sg) (r0 : Value) (h : Hp) : P30x0 S r0 h = stepAt (regK env orc72 (nt30)) (finK env Try.f30.results.toList) (collect B30 A30 []) 0 S (AL.v r0 AL.n) h := by kernel_rfl
theorem t30 (S : Sg) : Tab (fun l vs h => stepAt (regK env orc72 nt30) (finK env Try.f30.results.toList) (collect B30 A30 []) l S vs h) (T30 S) := by
  unfold T30
  refine Tab.cons 0 (fun vs0 h q e0 => ?_) ?_
  · obtain ⟨r0, vs1, rfl, e1⟩ := uV_some e0
    obtain ⟨rfl, ee⟩ := uN_some e1
    exact (q30x0 S r0 h).symm.trans ee
  exact Tab.nil
theorem r30 : ∀ args h v h', F30 args h = some (v, h') → Runs (C72) (.call 30 args.toArray h) (.ret v h') := by
  intro args h v h' e
  exact fun_sound (C := C72) (fn := Try.f30) (body := B30) (np := 1) (A := A30) (T := T30) (kinds := [Kd.v]) (by kernel_rfl) (by kernel_rfl) (by kernel_rfl) (by kernel_rfl) (regK_ok env_ok) (by kernel_rfl) (fun S => t30 S) e
noncomputable def orc73 := orcQ 30 F30 orc72
noncomputable def C73 : Cfg := cfg orc73
theorem ok73 : C73.Ok := orcQ_ok (C := C72) ok72 r30
noncomputable def B39 : Code := (Try.f39.body).getD .skip
noncomputable def A39 : G.Ann (List KI) := (G.Ann.node (some (0, [KI.reg 0 (Kd.v), KI.reg 1 (Kd.i .i64)])) al (an al al))
noncomputable def P39x0 (h : Hp) (S : Nat → PAL → Option Value) (r0 : Value) (r1 : Int) : Option Value :=
  forceL (Array.toList (Value.cells r0)) fun c0 =>
  nthR c0 0 fun v1 =>
  intK .i64 v1 fun i2 =>
  nthR c0 1 fun v3 =>
  intK .i64 v3 fun i4 =>
  nthR c0 0 fun v5 =>
  intK .i64 v5 fun i6 =>
  wrap64 (Int.sub i4 i6) fun i7 =>
  wrap64 (Int.add i7 (Int.ofNat 1)) fun i8 =>
  slowI .i64 (binW env .rem 3 (Value.int .i64 r1) (Value.int .i64 i8)) fun i9 =>
  wrap64 (Int.add i2 i9) fun i10 =>
  some (Value.int .i64 i10)
noncomputable def T39 (h : Hp) (S : Nat → PAL → Option Value) : Nat → PAL → Option Value := tabPC 0 (wV fun r0 => wI fun r1 => wN (P39x0 h S r0 r1)) (tabPN)
noncomputable def F39 (args : List Value) (h : Hp) : Option Value := plainO (packArgs [Kd.v, Kd.i .i64] args fun al => G.rec' (T39 h) 1000000 0 al)
def nt39 : Nat := 2 + (16 - 2)
theorem q39x0 (h : Hp) (S : Nat → PAL → Option Value) (r0 : Value) (r1 : Int) : P39x0 h S r0 r1 = G.stepAt packP unpackP evXV (regP env pf32 nt39 h) (finP env Try.f39.results.toList) (G.collect B39 A39 []) 0 S (PAL.v r0 (PAL.i r1 PAL.n)) := by kernel_rfl
theorem t39 (h : Hp) (S : Nat → PAL → Option Value) : TabP (fun l al => G.stepAt packP unpackP evXV (regP env pf32 nt39 h) (finP env Try.f39.results.toList) (G.collect B39 A39 []) l S al) (T39 h S) := by
  unfold T39
  refine TabP.cons 0 (fun vs0 q e0 => ?_) ?_
  · obtain ⟨r0, vs1, rfl, e1⟩ := wV_some e0
    obtain ⟨r1, vs2, rfl, e2⟩ := wI_some e1
    obtain ⟨rfl, ee⟩ := wN_some e2
    exact (q39x0 h S r0 r1).symm.trans ee
  exact TabP.nil
theorem r39 : PSound Try.prog 39 F39 := fun_soundP (C := C0) ok0 (pf := pf32) pfok32 (fn := Try.f39) (body := B39) (kinds := [Kd.v, Kd.i .i64]) (A := A39) (T := T39) (by kernel_rfl) (by kernel_rfl) (by kernel_rfl) (by kernel_rfl) (fun h S => t39 h S)
noncomputable def pf33 : PF := pfC 39 F39 pf32
theorem pfok33 : PfSound Try.prog pf33 := pfC_ok r39 pfok32
noncomputable def orc74 := orcP 39 F39 orc73
noncomputable def C74 : Cfg := cfg orc74
theorem ok74 : C74.Ok := orcP_ok (C := C73) ok73 r39
noncomputable def B38 : Code := (Try.f38.body).getD .skip
def A38 : Ann := (Ann.node (some (0, [(0, Kd.v), (1, Kd.v)])) Ann.nil (Ann.node none Ann.nil (Ann.node none Ann.nil (Ann.node none Ann.nil Ann.nil))))
noncomputable def P38x0 (S : Sg) (r0 : Value) (r1 : Value) (h : Hp) : CRes :=
  allocK h 28 (Array.toList (Value.cells r0)) fun a0 h0 =>
  allocK h0 67 (Array.toList (Value.cells r1)) fun a1 h1 =>
  allocK h1 28 [(Value.int .i64 (Int.ofNat 0)), (Value.int .i64 (Int.ofNat 0)), (Value.int .i64 (Int.ofNat 0)), (Value.slice none 0 0), (Value.slice none 0 0), (Value.slice none 0 0), (Value.slice none 0 0)] fun a2 h2 =>
  ptrAddK 0 a0 fun v3 =>
  loadNK 2 h2 v3 fun v4 =>
  idxAK 2 1 a1 (Int.ofNat 0) fun v5 =>
  load1K h2 v5 fun v6 =>
  intK .u8 v6 fun i7 =>
  wrap64 i7 fun i8 =>
  pairK (optK (F39 [v4, (Value.int .i64 i8)] h2) fun v => some (v, h2)) fun v9 h9 =>
  intK .i64 v9 fun i10 =>
  ptrAddK 0 a0 fun v11 =>
  leftK v11 (Hp.next h9) (Hp.mk (Hp.next h9) (Hp.next h9) T.nil) fun w12 n12 =>
  ptrAddK 1 v11 fun v13 =>
  leftK v13 n12 (Hp.mk n12 n12 T.nil) fun w14 n14 =>
  load1K (Hp.mk n14 n14 (addAll w14 (addAll w12 (Hp.objs h9)))) v13 fun v15 =>
  intK .i64 v15 fun i16 =>
  pairK (optK (F27 [(Value.int .i64 i10), (Value.int .i64 i16)] (Hp.mk n14 n14 (addAll w14 (addAll w12 (Hp.objs h9))))) fun v => some (v, (Hp.mk n14 n14 (addAll w14 (addAll w12 (Hp.objs h9)))))) fun v17 h17 =>
  leftK v17 n14 h17 fun w18 n18 =>
  idxAK 2 1 a1 (Int.ofNat 1) fun v19 =>
  leftK v19 n18 (Hp.mk n18 n18 T.nil) fun w20 n20 =>
  load1K (Hp.mk n20 n20 (addAll w20 (Hp.objs h9))) v19 fun v21 =>
  intK .u8 v21 fun i22 =>
  wrap64 i22 fun i23 =>
  pairK (optK (F39 [v17, (Value.int .i64 i23)] (Hp.mk n20 (Hp.ro h9) (addAll w20 (addAll w18 (addAll w14 (addAll w12 (Hp.objs h9))))))) fun v => some (v, (Hp.mk n20 (Hp.ro h9) (addAll w20 (addAll w18 (addAll w14 (addAll w12 (Hp.objs h9)))))))) fun v24 h24 =>
  intK .i64 v24 fun i25 =>
  pairK (optK (F27 [(Value.int .i64 i10), (Value.int .i64 i25)] h24) fun v => some (v, h24)) fun v26 h26 =>
  ptrAddK 0 a0 fun v27 =>
  storeNK 2 h26 v27 v26 fun h28 =>
  loadNK 7 h28 a0 fun v29 =>
  storeNK 7 h28 a2 v29 fun h30 =>
  loadNK 7 h30 a2 fun v31 => some (v31, h30)
noncomputable def T38 (S : Sg) : Sg := tabC 0 (uV fun r0 => uV fun r1 => uN fun h => P38x0 S r0 r1 h) (tabN)
noncomputable def F38 (args : List Value) (h : Hp) : CRes := packVals [Kd.v, Kd.v] args fun al => rec' T38 1000000 0 al h
def nt38 : Nat := 2 + (25 - 2)
theorem q38x0 (S : Sg) (r0 : Value) (r1 : Value) (h : Hp) : P38x0 S r0 r1 h = stepAt (regK env orc74 (nt38)) (finK env Try.f38.results.toList) (collect B38 A38 []) 0 S (AL.v r0 (AL.v r1 AL.n)) h := by kernel_rfl
theorem t38 (S : Sg) : Tab (fun l vs h => stepAt (regK env orc74 nt38) (finK env Try.f38.results.toList) (collect B38 A38 []) l S vs h) (T38 S) := by
  unfold T38
  refine Tab.cons 0 (fun vs0 h q e0 => ?_) ?_
  · obtain ⟨r0, vs1, rfl, e1⟩ := uV_some e0
    obtain ⟨r1, vs2, rfl, e2⟩ := uV_some e1
    obtain ⟨rfl, ee⟩ := uN_some e2
    exact (q38x0 S r0 r1 h).symm.trans ee
  exact Tab.nil
theorem r38 : ∀ args h v h', F38 args h = some (v, h') → Runs (C74) (.call 38 args.toArray h) (.ret v h') := by
  intro args h v h' e
  exact fun_sound (C := C74) (fn := Try.f38) (body := B38) (np := 2) (A := A38) (T := T38) (kinds := [Kd.v, Kd.v]) (by kernel_rfl) (by kernel_rfl) (by kernel_rfl) (by kernel_rfl) (regK_ok env_ok) (by kernel_rfl) (fun S => t38 S) e
noncomputable def orc75 := orcQ 38 F38 orc74
noncomputable def C75 : Cfg := cfg orc75
theorem ok75 : C75.Ok := orcQ_ok (C := C74) ok74 r38
noncomputable def B40 : Code := (Try.f40.body).getD .skip
noncomputable def A40 : G.Ann (List KI) := (G.Ann.node (some (0, [KI.reg 0 (Kd.i .i64), KI.reg 1 (Kd.i .i64)])) al (an al al))
noncomputable def P40x0 (h : Hp) (S : Nat → PAL → Option Value) (r0 : Int) (r1 : Int) : Option Value :=
  shrZ .i64 r0 r1 (shrI (binW env .shr 3 (Value.int .i64 r0) (Value.int .i64 r1)) (Value.int .i64 r0) (Value.int .i64 r1)) fun i0 =>
  slowI .i64 (binW env .rem 3 (Value.int .i64 i0) (Value.int .i64 (Int.ofNat 2))) fun i1 =>
  boolZ (eqZ i1 (Int.ofNat 1)) fun b2 =>
  some (Value.bool b2)
noncomputable def T40 (h : Hp) (S : Nat → PAL → Option Value) : Nat → PAL → Option Value := tabPC 0 (wI fun r0 => wI fun r1 => wN (P40x0 h S r0 r1)) (tabPN)
noncomputable def F40 (args : List Value) (h : Hp) : Option Value := plainO (packArgs [Kd.i .i64, Kd.i .i64] args fun al => G.rec' (T40 h) 1000000 0 al)
def nt40 : Nat := 2 + (10 - 2)
theorem q40x0 (h : Hp) (S : Nat → PAL → Option Value) (r0 : Int) (r1 : Int) : P40x0 h S r0 r1 = G.stepAt packP unpackP evXV (regP env pf33 nt40 h) (finP env Try.f40.results.toList) (G.collect B40 A40 []) 0 S (PAL.i r0 (PAL.i r1 PAL.n)) := by kernel_rfl
theorem t40 (h : Hp) (S : Nat → PAL → Option Value) : TabP (fun l al => G.stepAt packP unpackP evXV (regP env pf33 nt40 h) (finP env Try.f40.results.toList) (G.collect B40 A40 []) l S al) (T40 h S) := by
  unfold T40
  refine TabP.cons 0 (fun vs0 q e0 => ?_) ?_
  · obtain ⟨r0, vs1, rfl, e1⟩ := wI_some e0
    obtain ⟨r1, vs2, rfl, e2⟩ := wI_some e1
    obtain ⟨rfl, ee⟩ := wN_some e2
    exact (q40x0 h S r0 r1).symm.trans ee
  exact TabP.nil
theorem r40 : PSound Try.prog 40 F40 := fun_soundP (C := C0) ok0 (pf := pf33) pfok33 (fn := Try.f40) (body := B40) (kinds := [Kd.i .i64, Kd.i .i64]) (A := A40) (T := T40) (by kernel_rfl) (by kernel_rfl) (by kernel_rfl) (by kernel_rfl) (fun h S => t40 h S)
noncomputable def pf34 : PF := pfC 40 F40 pf33
theorem pfok34 : PfSound Try.prog pf34 := pfC_ok r40 pfok33
noncomputable def orc76 := orcP 40 F40 orc75
noncomputable def C76 : Cfg := cfg orc76
theorem ok76 : C76.Ok := orcP_ok (C := C75) ok75 r40
noncomputable def B8 : Code := (Try.f8.body).getD .skip
def A8 : Ann := (Ann.node (some (0, [(0, Kd.v), (1, Kd.v), (2, Kd.v)])) Ann.nil (Ann.node none (Ann.node none Ann.nil (Ann.node (some (1, [(3, Kd.v), (4, Kd.v), (5, Kd.v), (41, Kd.b)])) (Ann.node none Ann.nil (Ann.node none Ann.nil Ann.nil)) Ann.nil)) (Ann.node (some (12, [(3, Kd.v), (4, Kd.v), (5, Kd.v)])) Ann.nil (Ann.node none (Ann.node none Ann.nil (Ann.node none (Ann.node (some (2, [(3, Kd.v), (4, Kd.v), (5, Kd.v), (9, Kd.i .i64), (10, Kd.i .i64)])) (Ann.node none (Ann.node none Ann.nil (Ann.node none Ann.nil Ann.nil)) (Ann.node none (Ann.node none Ann.nil Ann.nil) Ann.nil)) Ann.nil) Ann.nil)) (Ann.node (some (11, [(3, Kd.v), (4, Kd.v), (5, Kd.v), (9, Kd.i .i64)])) Ann.nil (Ann.node none Ann.nil (Ann.node none Ann.nil (Ann.node none Ann.nil (Ann.node none (Ann.node none Ann.nil (Ann.node (some (3, [(3, Kd.v), (5, Kd.v), (11, Kd.i .i64), (12, Kd.i .i64), (13, Kd.i .i64), (14, Kd.i .i64), (16, Kd.v), (148, Kd.b)])) (Ann.node none Ann.nil Ann.nil) Ann.nil)) (Ann.node (some (10, [(3, Kd.v), (5, Kd.v), (11, Kd.i .i64), (12, Kd.i .i64), (13, Kd.i .i64), (14, Kd.i .i64), (16, Kd.v)])) Ann.nil (Ann.node none Ann.nil (Ann.node (some (9, [(3, Kd.v), (12, Kd.i .i64), (13, Kd.i .i64), (14, Kd.i .i64), (16, Kd.v), (21, Kd.b)])) (Ann.node none Ann.nil (Ann.node none (Ann.node none Ann.nil Ann.nil) Ann.nil)) (Ann.node none (Ann.node none Ann.nil (Ann.node none (Ann.node (some (4, [(3, Kd.v), (12, Kd.i .i64), (13, Kd.i .i64), (16, Kd.v), (22, Kd.i .i64)])) (Ann.node none (Ann.node none Ann.nil (Ann.node none Ann.nil Ann.nil)) (Ann.node none (Ann.node none (Ann.node none (Ann.node none Ann.nil (Ann.node none Ann.nil Ann.nil)) (Ann.node none Ann.nil (Ann.node none (Ann.node none Ann.nil (Ann.node none (Ann.node (some (5, [(3, Kd.v), (12, Kd.i .i64), (13, Kd.i .i64), (16, Kd.v), (22, Kd.i .i64), (23, Kd.i .i64), (24, Kd.i .i64)])) (Ann.node none (Ann.node none Ann.nil (Ann.node none Ann.nil Ann.nil)) (Ann.node none (Ann.node none Ann.nil Ann.nil) Ann.nil)) Ann.nil) Ann.nil)) (Ann.node (some (6, [(3, Kd.v), (12, Kd.i .i64), (13, Kd.i .i64), (16, Kd.v), (22, Kd.i .i64), (23, Kd.i .i64)])) Ann.nil (Ann.node none Ann.nil (Ann.node none (Ann.node none Ann.nil Ann.nil) Ann.nil)))))) Ann.nil) (Ann.node (some (7, [(3, Kd.v), (12, Kd.i .i64), (13, Kd.i .i64), (16, Kd.v), (22, Kd.i .i64)])) Ann.nil Ann.nil))) Ann.nil) Ann.nil)) (Ann.node (some (8, [])) Ann.nil Ann.nil))))))))))))))
noncomputable def P8x8 (S : Sg) (h : Hp) : CRes :=
  pairK (optK (FM19 [] h) fun v => some (v, h)) fun v0 h0 =>
  boolK v0 fun b1 =>
  some ((Value.bool b1), h0)
noncomputable def P8x7 (S : Sg) (r3 : Value) (r12 : Int) (r13 : Int) (r16 : Value) (r22 : Int) (h : Hp) : CRes :=
  wrap64 (Int.add r22 (Int.ofNat 1)) fun i0 =>
  S 4 (AL.v r3 (AL.i r12 (AL.i r13 (AL.v r16 (AL.i i0 AL.n))))) h
noncomputable def P8x6 (S : Sg) (r3 : Value) (r12 : Int) (r13 : Int) (r16 : Value) (r22 : Int) (r23 : Int) (h : Hp) : CRes :=
  loadNK 7 h r3 fun v0 =>
  wrap64 (Int.add r13 r23) fun i1 =>
  pairK (callQ F15 [v0, (Value.int .i64 r12), (Value.int .i64 i1)] h) fun v2 h2 =>
  extK v2 0 fun v3 =>
  extK v2 1 fun v4 =>
  intK .i64 v4 fun i5 =>
  allocK h2 23 [(Value.int .i64 (Int.ofNat 0)), (Value.int .i64 (Int.ofNat 0))] fun a6 h6 =>
  storeNK 2 h6 a6 v3 fun h7 =>
  boolN (eqZ i5 (Int.ofNat 0)) fun b8 =>
  ifB b8
  (some ((Value.bool false), h7))
  (ptrAddK 0 a6 fun v9 =>
  load1K h7 v9 fun v10 =>
  intK .i64 v10 fun i11 =>
  ptrAddK 0 r16 fun v12 =>
  load1K h7 v12 fun v13 =>
  intK .i64 v13 fun i14 =>
  boolZ (ltZ i11 i14) fun b15 =>
  ifB b15
  (some ((Value.bool false), h7))
  (ptrAddK 1 a6 fun v16 =>
  load1K h7 v16 fun v17 =>
  intK .i64 v17 fun i18 =>
  ptrAddK 1 r16 fun v19 =>
  load1K h7 v19 fun v20 =>
  intK .i64 v20 fun i21 =>
  boolZ (ltZ i18 i21) fun b22 =>
  ifB b22
  (some ((Value.bool false), h7))
  (S 7 (AL.v r3 (AL.i r12 (AL.i r13 (AL.v r16 (AL.i r22 AL.n))))) h7)))
noncomputable def P8x5 (S : Sg) (r3 : Value) (r12 : Int) (r13 : Int) (r16 : Value) (r22 : Int) (r23 : Int) (r24 : Int) (h : Hp) : CRes :=
  boolZ (ltZ r24 r22) fun b0 =>
  ifB b0
  (wrap64 (Int.mul (Int.ofNat 2) r23) fun i1 =>
  wrap64 (Int.add r24 (Int.ofNat 1)) fun i2 =>
  S 5 (AL.v r3 (AL.i r12 (AL.i r13 (AL.v r16 (AL.i r22 (AL.i i1 (AL.i i2 AL.n))))))) h)
  (S 6 (AL.v r3 (AL.i r12 (AL.i r13 (AL.v r16 (AL.i r22 (AL.i r23 AL.n)))))) h)
noncomputable def P8x4 (S : Sg) (r3 : Value) (r12 : Int) (r13 : Int) (r16 : Value) (r22 : Int) (h : Hp) : CRes :=
  ptrAddK 2 r3 fun v0 =>
  load1K h v0 fun v1 =>
  intK .i64 v1 fun i2 =>
  boolZ (ltZ r22 i2) fun b3 =>
  ifB b3
  (pairK (optK (F40 [(Value.int .i64 r13), (Value.int .i64 r22)] h) fun v => some (v, h)) fun v4 h4 =>
  boolK v4 fun b5 =>
  ifB b5
  (S 7 (AL.v r3 (AL.i r12 (AL.i r13 (AL.v r16 (AL.i r22 AL.n))))) h4)
  (S 5 (AL.v r3 (AL.i r12 (AL.i r13 (AL.v r16 (AL.i r22 (AL.i (Int.ofNat 1) (AL.i (Int.ofNat 0) AL.n))))))) h4))
  (S 8 AL.n h)
noncomputable def P8x9 (S : Sg) (r3 : Value) (r12 : Int) (r13 : Int) (r14 : Int) (r16 : Value) (r21 : Bool) (h : Hp) : CRes :=
  boolZ (eqZ r14 (Int.ofNat 1)) fun b0 =>
  ifB b0
  (boolN r21 fun b1 =>
  ifB b1
  (some ((Value.bool false), h))
  (boolZ (eqZ r14 (Int.ofNat 2)) fun b2 =>
  ifB b2
  (ifB r21
  (some ((Value.bool false), h))
  (S 4 (AL.v r3 (AL.i r12 (AL.i r13 (AL.v r16 (AL.i (Int.ofNat 0) AL.n))))) h))
  (S 4 (AL.v r3 (AL.i r12 (AL.i r13 (AL.v r16 (AL.i (Int.ofNat 0) AL.n))))) h)))
  (boolZ (eqZ r14 (Int.ofNat 2)) fun b3 =>
  ifB b3
  (ifB r21
  (some ((Value.bool false), h))
  (S 4 (AL.v r3 (AL.i r12 (AL.i r13 (AL.v r16 (AL.i (Int.ofNat 0) AL.n))))) h))
  (S 4 (AL.v r3 (AL.i r12 (AL.i r13 (AL.v r16 (AL.i (Int.ofNat 0) AL.n))))) h))
noncomputable def P8x10 (S : Sg) (r3 : Value) (r5 : Value) (r11 : Int) (r12 : Int) (r13 : Int) (r14 : Int) (r16 : Value) (h : Hp) : CRes :=
  loadNK 2 h r16 fun v0 =>
  idxAK 3 1 r5 (Int.ofNat 2) fun v1 =>
  load1K h v1 fun v2 =>
  intK .u8 v2 fun i3 =>
  wrap64 i3 fun i4 =>
  pairK (optK (F39 [v0, (Value.int .i64 i4)] h) fun v => some (v, h)) fun v5 h5 =>
  intK .i64 v5 fun i6 =>
  ptrAddK 5 r3 fun v7 =>
  load1K h5 v7 fun v8 =>
  idxSK 6 v8 r11 fun v9 =>
  ptrAddK 3 v9 fun v10 =>
  load1K h5 v10 fun v11 =>
  intK .i64 v11 fun i12 =>
  boolN (ltZ i6 i12) fun b13 =>
  ifB b13
  (ptrAddK 5 r3 fun v14 =>
  load1K h5 v14 fun v15 =>
  idxSK 6 v15 r11 fun v16 =>
  ptrAddK 4 v16 fun v17 =>
  load1K h5 v17 fun v18 =>
  intK .i64 v18 fun i19 =>
  boolN (ltZ i19 i6) fun b20 =>
  S 9 (AL.v r3 (AL.i r12 (AL.i r13 (AL.i r14 (AL.v r16 (AL.b b20 AL.n)))))) h5)
  (S 9 (AL.v r3 (AL.i r12 (AL.i r13 (AL.i r14 (AL.v r16 (AL.b false AL.n)))))) h5)
noncomputable def P8x3 (S : Sg) (r3 : Value) (r5 : Value) (r11 : Int) (r12 : Int) (r13 : Int) (r14 : Int) (r16 : Value) (r148 : Bool) (h : Hp) : CRes :=
  ifB r148
  (some ((Value.bool false), h))
  (S 10 (AL.v r3 (AL.v r5 (AL.i r11 (AL.i r12 (AL.i r13 (AL.i r14 (AL.v r16 AL.n))))))) h)
noncomputable def P8x11 (S : Sg) (r3 : Value) (r4 : Value) (r5 : Value) (r9 : Int) (h : Hp) : CRes :=
  idxAK 3 1 r4 (Int.ofNat 0) fun v0 =>
  leftK v0 (Hp.next h) (Hp.mk (Hp.next h) (Hp.next h) T.nil) fun w1 n1 =>
  load1K (Hp.mk n1 n1 (addAll w1 (Hp.objs h))) v0 fun v2 =>
  intK .u8 v2 fun i3 =>
  wrap64 i3 fun i4 =>
  ptrAddK 5 r3 fun v5 =>
  leftK v5 n1 (Hp.mk n1 n1 T.nil) fun w6 n6 =>
  load1K (Hp.mk n6 n6 (addAll w6 (Hp.objs h))) v5 fun v7 =>
  leftK v7 n6 (Hp.mk n6 n6 (addAll w6 (Hp.objs h))) fun w8 n8 =>
  lenSK v7 fun i9 =>
  slowI .i64 (binW env .rem 3 (Value.int .i64 i4) (Value.int .i64 i9)) fun i10 =>
  idxAK 3 1 r4 (Int.ofNat 1) fun v11 =>
  leftK v11 n8 (Hp.mk n8 n8 T.nil) fun w12 n12 =>
  load1K (Hp.mk n12 n12 (addAll w12 (Hp.objs h))) v11 fun v13 =>
  intK .u8 v13 fun i14 =>
  wrap64 i14 fun i15 =>
  ptrAddK 4 r3 fun v16 =>
  leftK v16 n12 (Hp.mk n12 n12 T.nil) fun w17 n17 =>
  load1K (Hp.mk n17 n17 (addAll w17 (Hp.objs h))) v16 fun v18 =>
  leftK v18 n17 (Hp.mk n17 n17 (addAll w17 (Hp.objs h))) fun w19 n19 =>
  lenSK v18 fun i20 =>
  slowI .i64 (binW env .rem 3 (Value.int .i64 i15) (Value.int .i64 i20)) fun i21 =>
  idxAK 3 1 r4 (Int.ofNat 2) fun v22 =>
  leftK v22 n19 (Hp.mk n19 n19 T.nil) fun w23 n23 =>
  load1K (Hp.mk n23 n23 (addAll w23 (Hp.objs h))) v22 fun v24 =>
  intK .u8 v24 fun i25 =>
  wrap64 i25 fun i26 =>
  slowI .i64 (binW env .rem 3 (Value.int .i64 i26) (Value.int .i64 r9)) fun i27 =>
  loadNK 7 (Hp.mk n23 (Hp.ro h) (addAll w23 (addAll w19 (addAll w17 (addAll w12 (addAll w8 (addAll w6 (addAll w1 (Hp.objs h))))))))) r3 fun v28 =>
  pairK (callQ F17 [v28, (Value.int .i64 i10), (Value.int .i64 i21), (Value.int .i64 i27)] (Hp.mk n23 (Hp.ro h) (addAll w23 (addAll w19 (addAll w17 (addAll w12 (addAll w8 (addAll w6 (addAll w1 (Hp.objs h)))))))))) fun v29 h29 =>
  extK v29 0 fun v30 =>
  intK .i64 v30 fun i31 =>
  extK v29 1 fun v32 =>
  intK .i64 v32 fun i33 =>
  loadNK 7 h29 r3 fun v34 =>
  pairK (callQ F15 [v34, (Value.int .i64 i21), (Value.int .i64 i27)] h29) fun v35 h35 =>
  extK v35 0 fun v36 =>
  extK v35 1 fun v37 =>
  intK .i64 v37 fun i38 =>
  allocK h35 23 [(Value.int .i64 (Int.ofNat 0)), (Value.int .i64 (Int.ofNat 0))] fun a39 h39 =>
  storeNK 2 h39 a39 v36 fun h40 =>
  loadNK 7 h40 r3 fun v41 =>
  idxAK 3 1 r5 (Int.ofNat 0) fun v42 =>
  load1K h40 v42 fun v43 =>
  intK .u8 v43 fun i44 =>
  idxAK 3 1 r5 (Int.ofNat 1) fun v45 =>
  load1K h40 v45 fun v46 =>
  intK .u8 v46 fun i47 =>
  optK (buildV env 67 (List.toArray [(0, (Value.int .u8 i44)), (1, (Value.int .u8 i47))])) fun v48 =>
  pairK (callQ F38 [v41, v48] h40) fun v49 h49 =>
  pairK (callQ F17 [v49, (Value.int .i64 i10), (Value.int .i64 i21), (Value.int .i64 i27)] h49) fun v50 h50 =>
  extK v50 0 fun v51 =>
  intK .i64 v51 fun i52 =>
  extK v50 1 fun v53 =>
  intK .i64 v53 fun i54 =>
  boolN (eqZ i33 (Int.ofNat 0)) fun b55 =>
  ifB b55
  (S 3 (AL.v r3 (AL.v r5 (AL.i i10 (AL.i i21 (AL.i i27 (AL.i i31 (AL.v a39 (AL.b true AL.n)))))))) h50)
  (boolN (eqZ i38 (Int.ofNat 0)) fun b56 =>
  ifB b56
  (S 3 (AL.v r3 (AL.v r5 (AL.i i10 (AL.i i21 (AL.i i27 (AL.i i31 (AL.v a39 (AL.b true AL.n)))))))) h50)
  (boolN (eqZ i54 (Int.ofNat 0)) fun b57 =>
  ifB b57
  (S 3 (AL.v r3 (AL.v r5 (AL.i i10 (AL.i i21 (AL.i i27 (AL.i i31 (AL.v a39 (AL.b true AL.n)))))))) h50)
  (ptrAddK 0 a39 fun v58 =>
  load1K h50 v58 fun v59 =>
  intK .i64 v59 fun i60 =>
  ptrAddK 1 a39 fun v61 =>
  load1K h50 v61 fun v62 =>
  intK .i64 v62 fun i63 =>
  boolZ (ltZ i63 i60) fun b64 =>
  ifB b64
  (S 3 (AL.v r3 (AL.v r5 (AL.i i10 (AL.i i21 (AL.i i27 (AL.i i31 (AL.v a39 (AL.b true AL.n)))))))) h50)
  (boolZ (ltZ i31 (Int.ofNat 0)) fun b65 =>
  ifB b65
  (S 3 (AL.v r3 (AL.v r5 (AL.i i10 (AL.i i21 (AL.i i27 (AL.i i31 (AL.v a39 (AL.b true AL.n)))))))) h50)
  (boolZ (ltZ (Int.ofNat 2) i31) fun b66 =>
  ifB b66
  (S 3 (AL.v r3 (AL.v r5 (AL.i i10 (AL.i i21 (AL.i i27 (AL.i i31 (AL.v a39 (AL.b true AL.n)))))))) h50)
  (boolZ (eqZ i31 (Int.ofNat 1)) fun b67 =>
  ifB b67
  (boolN (eqZ i52 (Int.ofNat 1)) fun b68 =>
  ifB b68
  (S 3 (AL.v r3 (AL.v r5 (AL.i i10 (AL.i i21 (AL.i i27 (AL.i i31 (AL.v a39 (AL.b true AL.n)))))))) h50)
  (boolZ (eqZ i31 (Int.ofNat 2)) fun b69 =>
  ifB b69
  (boolN (eqZ i52 (Int.ofNat 2)) fun b70 =>
  S 3 (AL.v r3 (AL.v r5 (AL.i i10 (AL.i i21 (AL.i i27 (AL.i i31 (AL.v a39 (AL.b b70 AL.n)))))))) h50)
  (S 3 (AL.v r3 (AL.v r5 (AL.i i10 (AL.i i21 (AL.i i27 (AL.i i31 (AL.v a39 (AL.b false AL.n)))))))) h50)))
  (boolZ (eqZ i31 (Int.ofNat 2)) fun b71 =>
  ifB b71
  (boolN (eqZ i52 (Int.ofNat 2)) fun b72 =>
  S 3 (AL.v r3 (AL.v r5 (AL.i i10 (AL.i i21 (AL.i i27 (AL.i i31 (AL.v a39 (AL.b b72 AL.n)))))))) h50)
  (S 3 (AL.v r3 (AL.v r5 (AL.i i10 (AL.i i21 (AL.i i27 (AL.i i31 (AL.v a39 (AL.b false AL.n)))))))) h50))))))))
noncomputable def P8x2 (S : Sg) (r3 : Value) (r4 : Value) (r5 : Value) (r9 : Int) (r10 : Int) (h : Hp) : CRes :=
  ptrAddK 2 r3 fun v0 =>
  load1K h v0 fun v1 =>
  intK .i64 v1 fun i2 =>
  boolZ (ltZ r10 i2) fun b3 =>
  ifB b3
  (wrap64 (Int.mul (Int.ofNat 2) r9) fun i4 =>
  wrap64 (Int.add r10 (Int.ofNat 1)) fun i5 =>
  S 2 (AL.v r3 (AL.v r4 (AL.v r5 (AL.i i4 (AL.i i5 AL.n))))) h)
  (S 11 (AL.v r3 (AL.v r4 (AL.v r5 (AL.i r9 AL.n)))) h)
noncomputable def P8x12 (S : Sg) (r3 : Value) (r4 : Value) (r5 : Value) (h : Hp) : CRes :=
  S 2 (AL.v r3 (AL.v r4 (AL.v r5 (AL.i (Int.ofNat 1) (AL.i (Int.ofNat 0) AL.n))))) h
noncomputable def P8x1 (S : Sg) (r3 : Value) (r4 : Value) (r5 : Value) (r41 : Bool) (h : Hp) : CRes :=
  ifB r41
  (loadNK 7 h r3 fun v0 =>
  pairK (callQ F17 [v0, (Value.int .i64 (Int.ofNat 0)), (Value.int .i64 (Int.ofNat 0)), (Value.int .i64 (Int.ofNat 0))] h) fun v1 h1 =>
  extK v1 0 fun v2 =>
  intK .i64 v2 fun i3 =>
  extK v1 1 fun v4 =>
  intK .i64 v4 fun i5 =>
  boolN (eqZ i5 (Int.ofNat 0)) fun b6 =>
  ifB b6
  (pairK (optK (FM19 [] h1) fun v => some (v, h1)) fun v7 h7 =>
  boolK v7 fun b8 =>
  some ((Value.bool b8), h7))
  (some ((Value.bool false), h1)))
  (S 12 (AL.v r3 (AL.v r4 (AL.v r5 AL.n))) h)
noncomputable def P8x0 (S : Sg) (r0 : Value) (r1 : Value) (r2 : Value) (h : Hp) : CRes :=
  allocK h 28 (Array.toList (Value.cells r0)) fun a0 h0 =>
  allocK h0 65 (Array.toList (Value.cells r1)) fun a1 h1 =>
  allocK h1 65 (Array.toList (Value.cells r2)) fun a2 h2 =>
  loadNK 7 h2 a0 fun v3 =>
  pairK (callQ F30 [v3] h2) fun v4 h4 =>
  boolK v4 fun b5 =>
  boolN b5 fun b6 =>
  ifB b6
  (S 1 (AL.v a0 (AL.v a1 (AL.v a2 (AL.b true AL.n)))) h4)
  (ptrAddK 5 a0 fun v7 =>
  load1K h4 v7 fun v8 =>
  lenSK v8 fun i9 =>
  boolZ (eqZ i9 (Int.ofNat 0)) fun b10 =>
  ifB b10
  (S 1 (AL.v a0 (AL.v a1 (AL.v a2 (AL.b true AL.n)))) h4)
  (ptrAddK 4 a0 fun v11 =>
  load1K h4 v11 fun v12 =>
  lenSK v12 fun i13 =>
  boolZ (eqZ i13 (Int.ofNat 0)) fun b14 =>
  S 1 (AL.v a0 (AL.v a1 (AL.v a2 (AL.b b14 AL.n)))) h4))
noncomputable def T8 (S : Sg) : Sg := tabC 0 (uV fun r0 => uV fun r1 => uV fun r2 => uN fun h => P8x0 S r0 r1 r2 h) (tabC 1 (uV fun r3 => uV fun r4 => uV fun r5 => uB fun r41 => uN fun h => P8x1 S r3 r4 r5 r41 h) (tabC 12 (uV fun r3 => uV fun r4 => uV fun r5 => uN fun h => P8x12 S r3 r4 r5 h) (tabC 2 (uV fun r3 => uV fun r4 => uV fun r5 => uI fun r9 => uI fun r10 => uN fun h => P8x2 S r3 r4 r5 r9 r10 h) (tabC 11 (uV fun r3 => uV fun r4 => uV fun r5 => uI fun r9 => uN fun h => P8x11 S r3 r4 r5 r9 h) (tabC 3 (uV fun r3 => uV fun r5 => uI fun r11 => uI fun r12 => uI fun r13 => uI fun r14 => uV fun r16 => uB fun r148 => uN fun h => P8x3 S r3 r5 r11 r12 r13 r14 r16 r148 h) (tabC 10 (uV fun r3 => uV fun r5 => uI fun r11 => uI fun r12 => uI fun r13 => uI fun r14 => uV fun r16 => uN fun h => P8x10 S r3 r5 r11 r12 r13 r14 r16 h) (tabC 9 (uV fun r3 => uI fun r12 => uI fun r13 => uI fun r14 => uV fun r16 => uB fun r21 => uN fun h => P8x9 S r3 r12 r13 r14 r16 r21 h) (tabC 4 (uV fun r3 => uI fun r12 => uI fun r13 => uV fun r16 => uI fun r22 => uN fun h => P8x4 S r3 r12 r13 r16 r22 h) (tabC 5 (uV fun r3 => uI fun r12 => uI fun r13 => uV fun r16 => uI fun r22 => uI fun r23 => uI fun r24 => uN fun h => P8x5 S r3 r12 r13 r16 r22 r23 r24 h) (tabC 6 (uV fun r3 => uI fun r12 => uI fun r13 => uV fun r16 => uI fun r22 => uI fun r23 => uN fun h => P8x6 S r3 r12 r13 r16 r22 r23 h) (tabC 7 (uV fun r3 => uI fun r12 => uI fun r13 => uV fun r16 => uI fun r22 => uN fun h => P8x7 S r3 r12 r13 r16 r22 h) (tabC 8 (uN fun h => P8x8 S  h) (tabN)))))))))))))
noncomputable def F8 (args : List Value) (h : Hp) : CRes := packVals [Kd.v, Kd.v, Kd.v] args fun al => rec' T8 1000000 0 al h
def nt8 : Nat := 3 + (227 - 3)
theorem q8x8 (S : Sg) (h : Hp) : P8x8 S  h = stepAt (regK env orc76 (nt8)) (finK env Try.f8.results.toList) (collect B8 A8 []) 8 S AL.n h := by kernel_rfl
theorem q8x7 (S : Sg) (r3 : Value) (r12 : Int) (r13 : Int) (r16 : Value) (r22 : Int) (h : Hp) : P8x7 S r3 r12 r13 r16 r22 h = stepAt (regK env orc76 (nt8)) (finK env Try.f8.results.toList) (collect B8 A8 []) 7 S (AL.v r3 (AL.i r12 (AL.i r13 (AL.v r16 (AL.i r22 AL.n))))) h := by kernel_rfl
theorem q8x6 (S : Sg) (r3 : Value) (r12 : Int) (r13 : Int) (r16 : Value) (r22 : Int) (r23 : Int) (h : Hp) : P8x6 S r3 r12 r13 r16 r22 r23 h = stepAt (regK env orc76 (nt8)) (finK env Try.f8.results.toList) (collect B8 A8 []) 6 S (AL.v r3 (AL.i r12 (AL.i r13 (AL.v r16 (AL.i r22 (AL.i r23 AL.n)))))) h := by kernel_rfl
theorem q8x5 (S : Sg) (r3 : Value) (r12 : Int) (r13 : Int) (r16 : Value) (r22 : Int) (r23 : Int) (r24 : Int) (h : Hp) : P8x5 S r3 r12 r13 r16 r22 r23 r24 h = stepAt (regK env orc76 (nt8)) (finK env Try.f8.results.toList) (collect B8 A8 []) 5 S (AL.v r3 (AL.i r12 (AL.i r13 (AL.v r16 (AL.i r22 (AL.i r23 (AL.i r24 AL.n))))))) h := by kernel_rfl
theorem q8x4 (S : Sg) (r3 : Value) (r12 : Int) (r13 : Int) (r16 : Value) (r22 : Int) (h : Hp) : P8x4 S r3 r12 r13 r16 r22 h = stepAt (regK env orc76 (nt8)) (finK env Try.f8.results.toList) (collect B8 A8 []) 4 S (AL.v r3 (AL.i r12 (AL.i r13 (AL.v r16 (AL.i r22 AL.n))))) h := by kernel_rfl
theorem q8x9 (S : Sg) (r3 : Value) (r12 : Int) (r13 : Int) (r14 : Int) (r16 : Value) (r21 : Bool) (h : Hp) : P8x9 S r3 r12 r13 r14 r16 r21 h = stepAt (regK env orc76 (nt8)) (finK env Try.f8.results.toList) (collect B8 A8 []) 9 S (AL.v r3 (AL.i r12 (AL.i r13 (AL.i r14 (AL.v r16 (AL.b r21 AL.n)))))) h := by kernel_rfl
theorem q8x10 (S : Sg) (r3 : Value) (r5 : Value) (r11 : Int) (r12 : Int) (r13 : Int) (r14 : Int) (r16 : Value) (h : Hp) : P8x10 S r3 r5 r11 r12 r13 r14 r16 h = stepAt (regK env orc76 (nt8)) (finK env Try.f8.results.toList) (collect B8 A8 []) 10 S (AL.v r3 (AL.v r5 (AL.i r11 (AL.i r12 (AL.i r13 (AL.i r14 (AL.v r16 AL.n))))))) h := by kernel_rfl
theorem q8x3 (S : Sg) (r3 : Value) (r5 : Value) (r11 : Int) (r12 : Int) (r13 : Int) (r14 : Int) (r16 : Value) (r148 : Bool) (h : Hp) : P8x3 S r3 r5 r11 r12 r13 r14 r16 r148 h = stepAt (regK env orc76 (nt8)) (finK env Try.f8.results.toList) (collect B8 A8 []) 3 S (AL.v r3 (AL.v r5 (AL.i r11 (AL.i r12 (AL.i r13 (AL.i r14 (AL.v r16 (AL.b r148 AL.n)))))))) h := by kernel_rfl
theorem q8x11 (S : Sg) (r3 : Value) (r4 : Value) (r5 : Value) (r9 : Int) (h : Hp) : P8x11 S r3 r4 r5 r9 h = stepAt (regK env orc76 (nt8)) (finK env Try.f8.results.toList) (collect B8 A8 []) 11 S (AL.v r3 (AL.v r4 (AL.v r5 (AL.i r9 AL.n)))) h := by kernel_rfl
theorem q8x2 (S : Sg) (r3 : Value) (r4 : Value) (r5 : Value) (r9 : Int) (r10 : Int) (h : Hp) : P8x2 S r3 r4 r5 r9 r10 h = stepAt (regK env orc76 (nt8)) (finK env Try.f8.results.toList) (collect B8 A8 []) 2 S (AL.v r3 (AL.v r4 (AL.v r5 (AL.i r9 (AL.i r10 AL.n))))) h := by kernel_rfl
theorem q8x12 (S : Sg) (r3 : Value) (r4 : Value) (r5 : Value) (h : Hp) : P8x12 S r3 r4 r5 h = stepAt (regK env orc76 (nt8)) (finK env Try.f8.results.toList) (collect B8 A8 []) 12 S (AL.v r3 (AL.v r4 (AL.v r5 AL.n))) h := by kernel_rfl
theorem q8x1 (S : Sg) (r3 : Value) (r4 : Value) (r5 : Value) (r41 : Bool) (h : Hp) : P8x1 S r3 r4 r5 r41 h = stepAt (regK env orc76 (nt8)) (finK env Try.f8.results.toList) (collect B8 A8 []) 1 S (AL.v r3 (AL.v r4 (AL.v r5 (AL.b r41 AL.n)))) h := by kernel_rfl
theorem q8x0 (S : Sg) (r0 : Value) (r1 : Value) (r2 : Value) (h : Hp) : P8x0 S r0 r1 r2 h = stepAt (regK env orc76 (nt8)) (finK env Try.f8.results.toList) (collect B8 A8 []) 0 S (AL.v r0 (AL.v r1 (AL.v r2 AL.n))) h := by kernel_rfl
theorem t8 (S : Sg) : Tab (fun l vs h => stepAt (regK env orc76 nt8) (finK env Try.f8.results.toList) (collect B8 A8 []) l S vs h) (T8 S) := by
  unfold T8
  refine Tab.cons 0 (fun vs0 h q e0 => ?_) ?_
  · obtain ⟨r0, vs1, rfl, e1⟩ := uV_some e0
    obtain ⟨r1, vs2, rfl, e2⟩ := uV_some e1
    obtain ⟨r2, vs3, rfl, e3⟩ := uV_some e2
    obtain ⟨rfl, ee⟩ := uN_some e3
    exact (q8x0 S r0 r1 r2 h).symm.trans ee
  refine Tab.cons 1 (fun vs0 h q e0 => ?_) ?_
  · obtain ⟨r3, vs1, rfl, e1⟩ := uV_some e0
    obtain ⟨r4, vs2, rfl, e2⟩ := uV_some e1
    obtain ⟨r5, vs3, rfl, e3⟩ := uV_some e2
    obtain ⟨r41, vs4, rfl, e4⟩ := uB_some e3
    obtain ⟨rfl, ee⟩ := uN_some e4
    exact (q8x1 S r3 r4 r5 r41 h).symm.trans ee
  refine Tab.cons 12 (fun vs0 h q e0 => ?_) ?_
  · obtain ⟨r3, vs1, rfl, e1⟩ := uV_some e0
    obtain ⟨r4, vs2, rfl, e2⟩ := uV_some e1
    obtain ⟨r5, vs3, rfl, e3⟩ := uV_some e2
    obtain ⟨rfl, ee⟩ := uN_some e3
    exact (q8x12 S r3 r4 r5 h).symm.trans ee
  refine Tab.cons 2 (fun vs0 h q e0 => ?_) ?_
  · obtain ⟨r3, vs1, rfl, e1⟩ := uV_some e0
    obtain ⟨r4, vs2, rfl, e2⟩ := uV_some e1
    obtain ⟨r5, vs3, rfl, e3⟩ := uV_some e2
    obtain ⟨r9, vs4, rfl, e4⟩ := uI_some e3
    obtain ⟨r10, vs5, rfl, e5⟩ := uI_some e4
    obtain ⟨rfl, ee⟩ := uN_some e5
    exact (q8x2 S r3 r4 r5 r9 r10 h).symm.trans ee
  refine Tab.cons 11 (fun vs0 h q e0 => ?_) ?_
  · obtain ⟨r3, vs1, rfl, e1⟩ := uV_some e0
    obtain ⟨r4, vs2, rfl, e2⟩ := uV_some e1
    obtain ⟨r5, vs3, rfl, e3⟩ := uV_some e2
    obtain ⟨r9, vs4, rfl, e4⟩ := uI_some e3
    obtain ⟨rfl, ee⟩ := uN_some e4
    exact (q8x11 S r3 r4 r5 r9 h).symm.trans ee
  refine Tab.cons 3 (fun vs0 h q e0 => ?_) ?_
  · obtain ⟨r3, vs1, rfl, e1⟩ := uV_some e0
    obtain ⟨r5, vs2, rfl, e2⟩ := uV_some e1
    obtain ⟨r11, vs3, rfl, e3⟩ := uI_some e2
    obtain ⟨r12, vs4, rfl, e4⟩ := uI_some e3
    obtain ⟨r13, vs5, rfl, e5⟩ := uI_some e4
    obtain ⟨r14, vs6, rfl, e6⟩ := uI_some e5
    obtain ⟨r16, vs7, rfl, e7⟩ := uV_some e6
    obtain ⟨r148, vs8, rfl, e8⟩ := uB_some e7
    obtain ⟨rfl, ee⟩ := uN_some e8
    exact (q8x3 S r3 r5 r11 r12 r13 r14 r16 r148 h).symm.trans ee
  refine Tab.cons 10 (fun vs0 h q e0 => ?_) ?_
  · obtain ⟨r3, vs1, rfl, e1⟩ := uV_some e0
    obtain ⟨r5, vs2, rfl, e2⟩ := uV_some e1
    obtain ⟨r11, vs3, rfl, e3⟩ := uI_some e2
    obtain ⟨r12, vs4, rfl, e4⟩ := uI_some e3
    obtain ⟨r13, vs5, rfl, e5⟩ := uI_some e4
    obtain ⟨r14, vs6, rfl, e6⟩ := uI_some e5
    obtain ⟨r16, vs7, rfl, e7⟩ := uV_some e6
    obtain ⟨rfl, ee⟩ := uN_some e7
    exact (q8x10 S r3 r5 r11 r12 r13 r14 r16 h).symm.trans ee
  refine Tab.cons 9 (fun vs0 h q e0 => ?_) ?_
  · obtain ⟨r3, vs1, rfl, e1⟩ := uV_some e0
    obtain ⟨r12, vs2, rfl, e2⟩ := uI_some e1
    obtain ⟨r13, vs3, rfl, e3⟩ := uI_some e2
    obtain ⟨r14, vs4, rfl, e4⟩ := uI_some e3
    obtain ⟨r16, vs5, rfl, e5⟩ := uV_some e4
    obtain ⟨r21, vs6, rfl, e6⟩ := uB_some e5
    obtain ⟨rfl, ee⟩ := uN_some e6
    exact (q8x9 S r3 r12 r13 r14 r16 r21 h).symm.trans ee
  refine Tab.cons 4 (fun vs0 h q e0 => ?_) ?_
  · obtain ⟨r3, vs1, rfl, e1⟩ := uV_some e0
    obtain ⟨r12, vs2, rfl, e2⟩ := uI_some e1
    obtain ⟨r13, vs3, rfl, e3⟩ := uI_some e2
    obtain ⟨r16, vs4, rfl, e4⟩ := uV_some e3
    obtain ⟨r22, vs5, rfl, e5⟩ := uI_some e4
    obtain ⟨rfl, ee⟩ := uN_some e5
    exact (q8x4 S r3 r12 r13 r16 r22 h).symm.trans ee
  refine Tab.cons 5 (fun vs0 h q e0 => ?_) ?_
  · obtain ⟨r3, vs1, rfl, e1⟩ := uV_some e0
    obtain ⟨r12, vs2, rfl, e2⟩ := uI_some e1
    obtain ⟨r13, vs3, rfl, e3⟩ := uI_some e2
    obtain ⟨r16, vs4, rfl, e4⟩ := uV_some e3
    obtain ⟨r22, vs5, rfl, e5⟩ := uI_some e4
    obtain ⟨r23, vs6, rfl, e6⟩ := uI_some e5
    obtain ⟨r24, vs7, rfl, e7⟩ := uI_some e6
    obtain ⟨rfl, ee⟩ := uN_some e7
    exact (q8x5 S r3 r12 r13 r16 r22 r23 r24 h).symm.trans ee
  refine Tab.cons 6 (fun vs0 h q e0 => ?_) ?_
  · obtain ⟨r3, vs1, rfl, e1⟩ := uV_some e0
    obtain ⟨r12, vs2, rfl, e2⟩ := uI_some e1
    obtain ⟨r13, vs3, rfl, e3⟩ := uI_some e2
    obtain ⟨r16, vs4, rfl, e4⟩ := uV_some e3
    obtain ⟨r22, vs5, rfl, e5⟩ := uI_some e4
    obtain ⟨r23, vs6, rfl, e6⟩ := uI_some e5
    obtain ⟨rfl, ee⟩ := uN_some e6
    exact (q8x6 S r3 r12 r13 r16 r22 r23 h).symm.trans ee
  refine Tab.cons 7 (fun vs0 h q e0 => ?_) ?_
  · obtain ⟨r3, vs1, rfl, e1⟩ := uV_some e0
    obtain ⟨r12, vs2, rfl, e2⟩ := uI_some e1
    obtain ⟨r13, vs3, rfl, e3⟩ := uI_some e2
    obtain ⟨r16, vs4, rfl, e4⟩ := uV_some e3
    obtain ⟨r22, vs5, rfl, e5⟩ := uI_some e4
    obtain ⟨rfl, ee⟩ := uN_some e5
    exact (q8x7 S r3 r12 r13 r16 r22 h).symm.trans ee
  refine Tab.cons 8 (fun vs0 h q e0 => ?_) ?_
  · 
    obtain ⟨rfl, ee⟩ := uN_some e0
    exact (q8x8 S  h).symm.trans ee
  exact Tab.nil
theorem r8 : ∀ args h v h', F8 args h = some (v, h') → Runs (C76) (.call 8 args.toArray h) (.ret v h') := by
  intro args h v h' e
  exact fun_sound (C := C76) (fn := Try.f8) (body := B8) (np := 3) (A := A8) (T := T8) (kinds := [Kd.v, Kd.v, Kd.v]) (by kernel_rfl) (by kernel_rfl) (by kernel_rfl) (by kernel_rfl) (regK_ok env_ok) (by kernel_rfl) (fun S => t8 S) e
noncomputable def orc77 := orcQ 8 F8 orc76
noncomputable def C77 : Cfg := cfg orc77
theorem ok77 : C77.Ok := orcQ_ok (C := C76) ok76 r8
noncomputable abbrev orcLaw := orc77
theorem okLaw : (cfg orcLaw).Ok := ok77
end Go.Proofs.Ytekocllllbdbgaa.K.L
