/- Functions told for the laws. -/
import Derived.Test.YtpjflnjlmjnmjaaGreatDoorFsAwake
open Go Go.Eng
set_option maxRecDepth 100000
set_option linter.unusedVariables false
namespace Go.Proofs.YtpjflnjlmjnmjaaGreatDoor.K.L
noncomputable def FM22 : List Value → Hp → Option Value := constF (.bool true)
theorem rm22 : PSound Tryz.prog 22 FM22 := awakeP
noncomputable def pf9 : PF := pfC 22 FM22 pf8
theorem pfok9 : PfSound Tryz.prog pf9 := pfC_ok rm22 pfok8
noncomputable def orc25 := orcP 22 FM22 orc24
noncomputable def C25 : Cfg := cfg orc25
theorem ok25 : C25.Ok := orcP_ok (C := C24) ok24 rm22
noncomputable def B60 : Code := (Tryz.f60.body).getD .skip
noncomputable def A60 : G.Ann (List KI) := (G.Ann.node (some (0, [KI.reg 0 (Kd.i .i64), KI.reg 1 (Kd.i .i64), KI.reg 2 (Kd.i .i64)])) G.Ann.nil (G.Ann.node none G.Ann.nil G.Ann.nil))
noncomputable def P60x0 (h : Hp) (S : Nat → PAL → Option Value) (r0 : Int) (r1 : Int) (r2 : Int) : Option Value :=
  boolN (ltZ r0 r1) fun b0 =>
  ifB b0
  (boolN (ltZ r2 r0) fun b1 =>
  some (Value.bool b1))
  (some (Value.bool false))
noncomputable def T60 (h : Hp) (S : Nat → PAL → Option Value) : Nat → PAL → Option Value := tabPC 0 (wI fun r0 => wI fun r1 => wI fun r2 => wN (P60x0 h S r0 r1 r2)) (tabPN)
noncomputable def F60 (args : List Value) (h : Hp) : Option Value := plainO (packArgs [Kd.i .i64, Kd.i .i64, Kd.i .i64] args fun al => G.rec' (T60 h) 1000000 0 al)
def nt60 : Nat := 3 + (15 - 3)
theorem q60x0 (h : Hp) (S : Nat → PAL → Option Value) (r0 : Int) (r1 : Int) (r2 : Int) : P60x0 h S r0 r1 r2 = G.stepAt packP unpackP evXV (regP env pf9 nt60 h) (finP env Tryz.f60.results.toList) (G.collect B60 A60 []) 0 S (PAL.i r0 (PAL.i r1 (PAL.i r2 PAL.n))) := by kernel_rfl
theorem t60 (h : Hp) (S : Nat → PAL → Option Value) : TabP (fun l al => G.stepAt packP unpackP evXV (regP env pf9 nt60 h) (finP env Tryz.f60.results.toList) (G.collect B60 A60 []) l S al) (T60 h S) := by
  unfold T60
  refine TabP.cons 0 (fun vs0 q e0 => ?_) ?_
  · obtain ⟨r0, vs1, rfl, e1⟩ := wI_some e0
    obtain ⟨r1, vs2, rfl, e2⟩ := wI_some e1
    obtain ⟨r2, vs3, rfl, e3⟩ := wI_some e2
    obtain ⟨rfl, ee⟩ := wN_some e3
    exact (q60x0 h S r0 r1 r2).symm.trans ee
  exact TabP.nil
theorem r60 : PSound Tryz.prog 60 F60 := fun_soundP (C := C0) ok0 (pf := pf9) pfok9 (fn := Tryz.f60) (body := B60) (kinds := [Kd.i .i64, Kd.i .i64, Kd.i .i64]) (A := A60) (T := T60) (by kernel_rfl) (by kernel_rfl) (by kernel_rfl) (by kernel_rfl) (fun h S => t60 h S)
noncomputable def pf10 : PF := pfC 60 F60 pf9
theorem pfok10 : PfSound Tryz.prog pf10 := pfC_ok r60 pfok9
noncomputable def orc26 := orcP 60 F60 orc25
noncomputable def C26 : Cfg := cfg orc26
theorem ok26 : C26.Ok := orcP_ok (C := C25) ok25 r60
noncomputable def B100 : Code := (Tryz.f100.body).getD .skip
noncomputable def A100 : G.Ann (List KI) := (G.Ann.node (some (0, [KI.reg 0 (Kd.i .i64), KI.reg 1 (Kd.i .i64), KI.reg 2 (Kd.i .i64)])) G.Ann.nil (G.Ann.node none G.Ann.nil G.Ann.nil))
noncomputable def P100x0 (h : Hp) (S : Nat → PAL → Option Value) (r0 : Int) (r1 : Int) (r2 : Int) : Option Value :=
  boolN (ltZ r0 r1) fun b0 =>
  ifB b0
  (boolN (ltZ r2 r0) fun b1 =>
  some (Value.bool b1))
  (some (Value.bool false))
noncomputable def T100 (h : Hp) (S : Nat → PAL → Option Value) : Nat → PAL → Option Value := tabPC 0 (wI fun r0 => wI fun r1 => wI fun r2 => wN (P100x0 h S r0 r1 r2)) (tabPN)
noncomputable def F100 (args : List Value) (h : Hp) : Option Value := plainO (packArgs [Kd.i .i64, Kd.i .i64, Kd.i .i64] args fun al => G.rec' (T100 h) 1000000 0 al)
def nt100 : Nat := 3 + (15 - 3)
theorem q100x0 (h : Hp) (S : Nat → PAL → Option Value) (r0 : Int) (r1 : Int) (r2 : Int) : P100x0 h S r0 r1 r2 = G.stepAt packP unpackP evXV (regP env pf10 nt100 h) (finP env Tryz.f100.results.toList) (G.collect B100 A100 []) 0 S (PAL.i r0 (PAL.i r1 (PAL.i r2 PAL.n))) := by kernel_rfl
theorem t100 (h : Hp) (S : Nat → PAL → Option Value) : TabP (fun l al => G.stepAt packP unpackP evXV (regP env pf10 nt100 h) (finP env Tryz.f100.results.toList) (G.collect B100 A100 []) l S al) (T100 h S) := by
  unfold T100
  refine TabP.cons 0 (fun vs0 q e0 => ?_) ?_
  · obtain ⟨r0, vs1, rfl, e1⟩ := wI_some e0
    obtain ⟨r1, vs2, rfl, e2⟩ := wI_some e1
    obtain ⟨r2, vs3, rfl, e3⟩ := wI_some e2
    obtain ⟨rfl, ee⟩ := wN_some e3
    exact (q100x0 h S r0 r1 r2).symm.trans ee
  exact TabP.nil
theorem r100 : PSound Tryz.prog 100 F100 := fun_soundP (C := C0) ok0 (pf := pf10) pfok10 (fn := Tryz.f100) (body := B100) (kinds := [Kd.i .i64, Kd.i .i64, Kd.i .i64]) (A := A100) (T := T100) (by kernel_rfl) (by kernel_rfl) (by kernel_rfl) (by kernel_rfl) (fun h S => t100 h S)
noncomputable def pf11 : PF := pfC 100 F100 pf10
theorem pfok11 : PfSound Tryz.prog pf11 := pfC_ok r100 pfok10
noncomputable def orc27 := orcP 100 F100 orc26
noncomputable def C27 : Cfg := cfg orc27
theorem ok27 : C27.Ok := orcP_ok (C := C26) ok26 r100
noncomputable def B62 : Code := (Tryz.f62.body).getD .skip
noncomputable def A62 : G.Ann (List KI) := (G.Ann.node (some (0, [KI.reg 0 (Kd.v)])) G.Ann.nil (G.Ann.node none (G.Ann.node none G.Ann.nil (G.Ann.node none (G.Ann.node none G.Ann.nil G.Ann.nil) G.Ann.nil)) (G.Ann.node none (G.Ann.node none G.Ann.nil (G.Ann.node none (G.Ann.node (some (1, [KI.reg 0 (Kd.v), KI.reg 3 (Kd.i .i64)])) (G.Ann.node none (G.Ann.node none G.Ann.nil (G.Ann.node none G.Ann.nil G.Ann.nil)) (G.Ann.node none (G.Ann.node none (G.Ann.node none G.Ann.nil (G.Ann.node none G.Ann.nil (G.Ann.node (some (2, [KI.reg 0 (Kd.v), KI.reg 3 (Kd.i .i64), KI.reg 4 (Kd.b), KI.reg 5 (Kd.b)])) G.Ann.nil (G.Ann.node none (G.Ann.node none G.Ann.nil G.Ann.nil) G.Ann.nil)))) G.Ann.nil) (G.Ann.node (some (3, [KI.reg 0 (Kd.v), KI.reg 3 (Kd.i .i64)])) G.Ann.nil G.Ann.nil))) G.Ann.nil) G.Ann.nil)) (G.Ann.node (some (4, [])) G.Ann.nil G.Ann.nil))))
noncomputable def P62x4 (h : Hp) (S : Nat → PAL → Option Value) : Option Value :=
  some (Value.bool true)
noncomputable def P62x3 (h : Hp) (S : Nat → PAL → Option Value) (r0 : Value) (r3 : Int) : Option Value :=
  wrap64 (Int.add r3 (Int.ofNat 1)) fun i0 =>
  S 1 (PAL.v r0 (PAL.i i0 PAL.n))
noncomputable def P62x2 (h : Hp) (S : Nat → PAL → Option Value) (r0 : Value) (r3 : Int) (r4 : Bool) (r5 : Bool) : Option Value :=
  boolN r4 fun b0 =>
  ifB b0
  (boolZ (eqZ r3 (Int.ofNat 0)) fun b1 =>
  ifB b1
  (some (Value.bool false))
  (boolN r5 fun b2 =>
  ifB b2
  (some (Value.bool false))
  (S 3 (PAL.v r0 (PAL.i r3 PAL.n)))))
  (S 3 (PAL.v r0 (PAL.i r3 PAL.n)))
noncomputable def P62x1 (h : Hp) (S : Nat → PAL → Option Value) (r0 : Value) (r3 : Int) : Option Value :=
  lenBK r0 fun i0 =>
  boolZ (ltZ r3 i0) fun b1 =>
  ifB b1
  (optK (indexV env 9 r0 (Value.int .i64 r3)) fun v2 =>
  intK .u8 v2 fun i3 =>
  wrap64 i3 fun i4 =>
  optK (F100 [(Value.int .i64 i4), (Value.int .i64 (Int.ofNat 97)), (Value.int .i64 (Int.ofNat 122))] h) fun v5 =>
  boolK v5 fun b6 =>
  optK (indexV env 9 r0 (Value.int .i64 r3)) fun v7 =>
  intK .u8 v7 fun i8 =>
  wrap64 i8 fun i9 =>
  optK (F100 [(Value.int .i64 i9), (Value.int .i64 (Int.ofNat 48)), (Value.int .i64 (Int.ofNat 57))] h) fun v10 =>
  boolK v10 fun b11 =>
  ifB b11
  (S 2 (PAL.v r0 (PAL.i r3 (PAL.b b6 (PAL.b true PAL.n)))))
  (optK (indexV env 9 r0 (Value.int .i64 r3)) fun v12 =>
  intK .u8 v12 fun i13 =>
  boolZ (eqZ i13 (Int.ofNat 46)) fun b14 =>
  S 2 (PAL.v r0 (PAL.i r3 (PAL.b b6 (PAL.b b14 PAL.n))))))
  (S 4 PAL.n)
noncomputable def P62x0 (h : Hp) (S : Nat → PAL → Option Value) (r0 : Value) : Option Value :=
  lenBK r0 fun i0 =>
  boolZ (eqZ i0 (Int.ofNat 0)) fun b1 =>
  ifB b1
  (some (Value.bool false))
  (lenBK r0 fun i2 =>
  boolZ (ltZ (Int.ofNat 16) i2) fun b3 =>
  ifB b3
  (some (Value.bool false))
  (S 1 (PAL.v r0 (PAL.i (Int.ofNat 0) PAL.n))))
noncomputable def T62 (h : Hp) (S : Nat → PAL → Option Value) : Nat → PAL → Option Value := tabPC 0 (wV fun r0 => wN (P62x0 h S r0)) (tabPC 1 (wV fun r0 => wI fun r3 => wN (P62x1 h S r0 r3)) (tabPC 2 (wV fun r0 => wI fun r3 => wB fun r4 => wB fun r5 => wN (P62x2 h S r0 r3 r4 r5)) (tabPC 3 (wV fun r0 => wI fun r3 => wN (P62x3 h S r0 r3)) (tabPC 4 (wN (P62x4 h S)) (tabPN)))))
noncomputable def F62 (args : List Value) (h : Hp) : Option Value := plainO (packArgs [Kd.v] args fun al => G.rec' (T62 h) 1000000 0 al)
def nt62 : Nat := 1 + (46 - 1)
theorem q62x4 (h : Hp) (S : Nat → PAL → Option Value) : P62x4 h S = G.stepAt packP unpackP evXV (regP env pf11 nt62 h) (finP env Tryz.f62.results.toList) (G.collect B62 A62 []) 4 S PAL.n := by kernel_rfl
theorem q62x3 (h : Hp) (S : Nat → PAL → Option Value) (r0 : Value) (r3 : Int) : P62x3 h S r0 r3 = G.stepAt packP unpackP evXV (regP env pf11 nt62 h) (finP env Tryz.f62.results.toList) (G.collect B62 A62 []) 3 S (PAL.v r0 (PAL.i r3 PAL.n)) := by kernel_rfl
theorem q62x2 (h : Hp) (S : Nat → PAL → Option Value) (r0 : Value) (r3 : Int) (r4 : Bool) (r5 : Bool) : P62x2 h S r0 r3 r4 r5 = G.stepAt packP unpackP evXV (regP env pf11 nt62 h) (finP env Tryz.f62.results.toList) (G.collect B62 A62 []) 2 S (PAL.v r0 (PAL.i r3 (PAL.b r4 (PAL.b r5 PAL.n)))) := by kernel_rfl
theorem q62x1 (h : Hp) (S : Nat → PAL → Option Value) (r0 : Value) (r3 : Int) : P62x1 h S r0 r3 = G.stepAt packP unpackP evXV (regP env pf11 nt62 h) (finP env Tryz.f62.results.toList) (G.collect B62 A62 []) 1 S (PAL.v r0 (PAL.i r3 PAL.n)) := by kernel_rfl
theorem q62x0 (h : Hp) (S : Nat → PAL → Option Value) (r0 : Value) : P62x0 h S r0 = G.stepAt packP unpackP evXV (regP env pf11 nt62 h) (finP env Tryz.f62.results.toList) (G.collect B62 A62 []) 0 S (PAL.v r0 PAL.n) := by kernel_rfl
theorem t62 (h : Hp) (S : Nat → PAL → Option Value) : TabP (fun l al => G.stepAt packP unpackP evXV (regP env pf11 nt62 h) (finP env Tryz.f62.results.toList) (G.collect B62 A62 []) l S al) (T62 h S) := by
  unfold T62
  refine TabP.cons 0 (fun vs0 q e0 => ?_) ?_
  · obtain ⟨r0, vs1, rfl, e1⟩ := wV_some e0
    obtain ⟨rfl, ee⟩ := wN_some e1
    exact (q62x0 h S r0).symm.trans ee
  refine TabP.cons 1 (fun vs0 q e0 => ?_) ?_
  · obtain ⟨r0, vs1, rfl, e1⟩ := wV_some e0
    obtain ⟨r3, vs2, rfl, e2⟩ := wI_some e1
    obtain ⟨rfl, ee⟩ := wN_some e2
    exact (q62x1 h S r0 r3).symm.trans ee
  refine TabP.cons 2 (fun vs0 q e0 => ?_) ?_
  · obtain ⟨r0, vs1, rfl, e1⟩ := wV_some e0
    obtain ⟨r3, vs2, rfl, e2⟩ := wI_some e1
    obtain ⟨r4, vs3, rfl, e3⟩ := wB_some e2
    obtain ⟨r5, vs4, rfl, e4⟩ := wB_some e3
    obtain ⟨rfl, ee⟩ := wN_some e4
    exact (q62x2 h S r0 r3 r4 r5).symm.trans ee
  refine TabP.cons 3 (fun vs0 q e0 => ?_) ?_
  · obtain ⟨r0, vs1, rfl, e1⟩ := wV_some e0
    obtain ⟨r3, vs2, rfl, e2⟩ := wI_some e1
    obtain ⟨rfl, ee⟩ := wN_some e2
    exact (q62x3 h S r0 r3).symm.trans ee
  refine TabP.cons 4 (fun vs0 q e0 => ?_) ?_
  · 
    obtain ⟨rfl, ee⟩ := wN_some e0
    exact (q62x4 h S).symm.trans ee
  exact TabP.nil
theorem r62 : PSound Tryz.prog 62 F62 := fun_soundP (C := C0) ok0 (pf := pf11) pfok11 (fn := Tryz.f62) (body := B62) (kinds := [Kd.v]) (A := A62) (T := T62) (by kernel_rfl) (by kernel_rfl) (by kernel_rfl) (by kernel_rfl) (fun h S => t62 h S)
noncomputable def pf12 : PF := pfC 62 F62 pf11
theorem pfok12 : PfSound Tryz.prog pf12 := pfC_ok r62 pfok11
noncomputable def orc28 := orcP 62 F62 orc27
noncomputable def C28 : Cfg := cfg orc28
theorem ok28 : C28.Ok := orcP_ok (C := C27) ok27 r62
noncomputable def B99 : Code := (Tryz.f99.body).getD .skip
noncomputable def A99 : G.Ann (List KI) := (G.Ann.node (some (0, [KI.reg 0 (Kd.v), KI.reg 1 (Kd.v)])) G.Ann.nil (G.Ann.node none (G.Ann.node none G.Ann.nil (G.Ann.node none (G.Ann.node (some (1, [KI.reg 0 (Kd.v), KI.reg 1 (Kd.v), KI.reg 5 (Kd.i .i64)])) (G.Ann.node none (G.Ann.node none G.Ann.nil (G.Ann.node none G.Ann.nil G.Ann.nil)) (G.Ann.node none (G.Ann.node none (G.Ann.node none G.Ann.nil (G.Ann.node none (G.Ann.node none G.Ann.nil G.Ann.nil) G.Ann.nil)) G.Ann.nil) G.Ann.nil)) G.Ann.nil) G.Ann.nil)) (G.Ann.node (some (2, [])) G.Ann.nil G.Ann.nil)))
noncomputable def P99x2 (h : Hp) (S : Nat → PAL → Option Value) : Option Value :=
  some (Value.int .i64 (Int.negSucc 0))
noncomputable def P99x1 (h : Hp) (S : Nat → PAL → Option Value) (r0 : Value) (r1 : Value) (r5 : Int) : Option Value :=
  lenSK r0 fun i0 =>
  boolZ (ltZ r5 i0) fun b1 =>
  ifB b1
  (idxSK 1 r0 r5 fun v2 =>
  load1K h v2 fun v3 =>
  optK (binV env .eql 9 (Operand.tmp 15) (Operand.tmp 16) v3 r1) fun v4 =>
  boolK v4 fun b5 =>
  ifB b5
  (some (Value.int .i64 r5))
  (wrap64 (Int.add r5 (Int.ofNat 1)) fun i6 =>
  S 1 (PAL.v r0 (PAL.v r1 (PAL.i i6 PAL.n)))))
  (S 2 PAL.n)
noncomputable def P99x0 (h : Hp) (S : Nat → PAL → Option Value) (r0 : Value) (r1 : Value) : Option Value :=
  S 1 (PAL.v r0 (PAL.v r1 (PAL.i (Int.ofNat 0) PAL.n)))
noncomputable def T99 (h : Hp) (S : Nat → PAL → Option Value) : Nat → PAL → Option Value := tabPC 0 (wV fun r0 => wV fun r1 => wN (P99x0 h S r0 r1)) (tabPC 1 (wV fun r0 => wV fun r1 => wI fun r5 => wN (P99x1 h S r0 r1 r5)) (tabPC 2 (wN (P99x2 h S)) (tabPN)))
noncomputable def F99 (args : List Value) (h : Hp) : Option Value := plainO (packArgs [Kd.v, Kd.v] args fun al => G.rec' (T99 h) 1000000 0 al)
def nt99 : Nat := 2 + (19 - 2)
theorem q99x2 (h : Hp) (S : Nat → PAL → Option Value) : P99x2 h S = G.stepAt packP unpackP evXV (regP env pf12 nt99 h) (finP env Tryz.f99.results.toList) (G.collect B99 A99 []) 2 S PAL.n := by kernel_rfl
theorem q99x1 (h : Hp) (S : Nat → PAL → Option Value) (r0 : Value) (r1 : Value) (r5 : Int) : P99x1 h S r0 r1 r5 = G.stepAt packP unpackP evXV (regP env pf12 nt99 h) (finP env Tryz.f99.results.toList) (G.collect B99 A99 []) 1 S (PAL.v r0 (PAL.v r1 (PAL.i r5 PAL.n))) := by kernel_rfl
theorem q99x0 (h : Hp) (S : Nat → PAL → Option Value) (r0 : Value) (r1 : Value) : P99x0 h S r0 r1 = G.stepAt packP unpackP evXV (regP env pf12 nt99 h) (finP env Tryz.f99.results.toList) (G.collect B99 A99 []) 0 S (PAL.v r0 (PAL.v r1 PAL.n)) := by kernel_rfl
theorem t99 (h : Hp) (S : Nat → PAL → Option Value) : TabP (fun l al => G.stepAt packP unpackP evXV (regP env pf12 nt99 h) (finP env Tryz.f99.results.toList) (G.collect B99 A99 []) l S al) (T99 h S) := by
  unfold T99
  refine TabP.cons 0 (fun vs0 q e0 => ?_) ?_
  · obtain ⟨r0, vs1, rfl, e1⟩ := wV_some e0
    obtain ⟨r1, vs2, rfl, e2⟩ := wV_some e1
    obtain ⟨rfl, ee⟩ := wN_some e2
    exact (q99x0 h S r0 r1).symm.trans ee
  refine TabP.cons 1 (fun vs0 q e0 => ?_) ?_
  · obtain ⟨r0, vs1, rfl, e1⟩ := wV_some e0
    obtain ⟨r1, vs2, rfl, e2⟩ := wV_some e1
    obtain ⟨r5, vs3, rfl, e3⟩ := wI_some e2
    obtain ⟨rfl, ee⟩ := wN_some e3
    exact (q99x1 h S r0 r1 r5).symm.trans ee
  refine TabP.cons 2 (fun vs0 q e0 => ?_) ?_
  · 
    obtain ⟨rfl, ee⟩ := wN_some e0
    exact (q99x2 h S).symm.trans ee
  exact TabP.nil
theorem r99 : PSound Tryz.prog 99 F99 := fun_soundP (C := C0) ok0 (pf := pf12) pfok12 (fn := Tryz.f99) (body := B99) (kinds := [Kd.v, Kd.v]) (A := A99) (T := T99) (by kernel_rfl) (by kernel_rfl) (by kernel_rfl) (by kernel_rfl) (fun h S => t99 h S)
noncomputable def pf13 : PF := pfC 99 F99 pf12
theorem pfok13 : PfSound Tryz.prog pf13 := pfC_ok r99 pfok12
noncomputable def orc29 := orcP 99 F99 orc28
noncomputable def C29 : Cfg := cfg orc29
theorem ok29 : C29.Ok := orcP_ok (C := C28) ok28 r99
noncomputable def B61 : Code := (Tryz.f61.body).getD .skip
noncomputable def A61 : G.Ann (List KI) := (G.Ann.node (some (0, [KI.reg 0 (Kd.v), KI.reg 1 (Kd.v)])) G.Ann.nil (G.Ann.node none (G.Ann.node none G.Ann.nil (G.Ann.node none (G.Ann.node none G.Ann.nil G.Ann.nil) G.Ann.nil)) (G.Ann.node none (G.Ann.node none G.Ann.nil (G.Ann.node none (G.Ann.node none G.Ann.nil G.Ann.nil) G.Ann.nil)) (G.Ann.node none G.Ann.nil G.Ann.nil))))
noncomputable def P61x0 (h : Hp) (S : Nat → PAL → Option Value) (r0 : Value) (r1 : Value) : Option Value :=
  optK (F62 [r0] h) fun v0 =>
  boolK v0 fun b1 =>
  boolN b1 fun b2 =>
  ifB b2
  (some (Value.int .i64 (Int.ofNat 6)))
  (optK (F99 [r1, r0] h) fun v3 =>
  intK .i64 v3 fun i4 =>
  boolN (ltZ i4 (Int.ofNat 0)) fun b5 =>
  ifB b5
  (some (Value.int .i64 (Int.ofNat 5)))
  (some (Value.int .i64 (Int.ofNat 0))))
noncomputable def T61 (h : Hp) (S : Nat → PAL → Option Value) : Nat → PAL → Option Value := tabPC 0 (wV fun r0 => wV fun r1 => wN (P61x0 h S r0 r1)) (tabPN)
noncomputable def F61 (args : List Value) (h : Hp) : Option Value := plainO (packArgs [Kd.v, Kd.v] args fun al => G.rec' (T61 h) 1000000 0 al)
def nt61 : Nat := 2 + (12 - 2)
theorem q61x0 (h : Hp) (S : Nat → PAL → Option Value) (r0 : Value) (r1 : Value) : P61x0 h S r0 r1 = G.stepAt packP unpackP evXV (regP env pf13 nt61 h) (finP env Tryz.f61.results.toList) (G.collect B61 A61 []) 0 S (PAL.v r0 (PAL.v r1 PAL.n)) := by kernel_rfl
theorem t61 (h : Hp) (S : Nat → PAL → Option Value) : TabP (fun l al => G.stepAt packP unpackP evXV (regP env pf13 nt61 h) (finP env Tryz.f61.results.toList) (G.collect B61 A61 []) l S al) (T61 h S) := by
  unfold T61
  refine TabP.cons 0 (fun vs0 q e0 => ?_) ?_
  · obtain ⟨r0, vs1, rfl, e1⟩ := wV_some e0
    obtain ⟨r1, vs2, rfl, e2⟩ := wV_some e1
    obtain ⟨rfl, ee⟩ := wN_some e2
    exact (q61x0 h S r0 r1).symm.trans ee
  exact TabP.nil
theorem r61 : PSound Tryz.prog 61 F61 := fun_soundP (C := C0) ok0 (pf := pf13) pfok13 (fn := Tryz.f61) (body := B61) (kinds := [Kd.v, Kd.v]) (A := A61) (T := T61) (by kernel_rfl) (by kernel_rfl) (by kernel_rfl) (by kernel_rfl) (fun h S => t61 h S)
noncomputable def pf14 : PF := pfC 61 F61 pf13
theorem pfok14 : PfSound Tryz.prog pf14 := pfC_ok r61 pfok13
noncomputable def orc30 := orcP 61 F61 orc29
noncomputable def C30 : Cfg := cfg orc30
theorem ok30 : C30.Ok := orcP_ok (C := C29) ok29 r61
noncomputable def B50 : Code := (Tryz.f50.body).getD .skip
noncomputable def A50 : G.Ann (List KI) := (G.Ann.node (some (0, [KI.reg 0 (Kd.i .i64)])) G.Ann.nil (G.Ann.node none G.Ann.nil (G.Ann.node none (G.Ann.node none G.Ann.nil (G.Ann.node none (G.Ann.node (some (1, [KI.reg 0 (Kd.i .i64), KI.reg 3 (Kd.i .i64), KI.reg 4 (Kd.i .i64)])) (G.Ann.node none (G.Ann.node none G.Ann.nil (G.Ann.node none G.Ann.nil G.Ann.nil)) (G.Ann.node none (G.Ann.node none G.Ann.nil G.Ann.nil) G.Ann.nil)) G.Ann.nil) G.Ann.nil)) (G.Ann.node (some (2, [KI.reg 3 (Kd.i .i64)])) G.Ann.nil G.Ann.nil))))
noncomputable def P50x2 (h : Hp) (S : Nat → PAL → Option Value) (r3 : Int) : Option Value :=
  some (Value.int .i64 r3)
noncomputable def P50x1 (h : Hp) (S : Nat → PAL → Option Value) (r0 : Int) (r3 : Int) (r4 : Int) : Option Value :=
  boolZ (ltZ r4 r0) fun b0 =>
  ifB b0
  (wrap64 (Int.mul (Int.ofNat 2) r3) fun i1 =>
  wrap64 (Int.add r4 (Int.ofNat 1)) fun i2 =>
  S 1 (PAL.i r0 (PAL.i i1 (PAL.i i2 PAL.n))))
  (S 2 (PAL.i r3 PAL.n))
noncomputable def P50x0 (h : Hp) (S : Nat → PAL → Option Value) (r0 : Int) : Option Value :=
  S 1 (PAL.i r0 (PAL.i (Int.ofNat 1) (PAL.i (Int.ofNat 0) PAL.n)))
noncomputable def T50 (h : Hp) (S : Nat → PAL → Option Value) : Nat → PAL → Option Value := tabPC 0 (wI fun r0 => wN (P50x0 h S r0)) (tabPC 1 (wI fun r0 => wI fun r3 => wI fun r4 => wN (P50x1 h S r0 r3 r4)) (tabPC 2 (wI fun r3 => wN (P50x2 h S r3)) (tabPN)))
noncomputable def F50 (args : List Value) (h : Hp) : Option Value := plainO (packArgs [Kd.i .i64] args fun al => G.rec' (T50 h) 1000000 0 al)
def nt50 : Nat := 1 + (13 - 1)
theorem q50x2 (h : Hp) (S : Nat → PAL → Option Value) (r3 : Int) : P50x2 h S r3 = G.stepAt packP unpackP evXV (regP env pf14 nt50 h) (finP env Tryz.f50.results.toList) (G.collect B50 A50 []) 2 S (PAL.i r3 PAL.n) := by kernel_rfl
theorem q50x1 (h : Hp) (S : Nat → PAL → Option Value) (r0 : Int) (r3 : Int) (r4 : Int) : P50x1 h S r0 r3 r4 = G.stepAt packP unpackP evXV (regP env pf14 nt50 h) (finP env Tryz.f50.results.toList) (G.collect B50 A50 []) 1 S (PAL.i r0 (PAL.i r3 (PAL.i r4 PAL.n))) := by kernel_rfl
theorem q50x0 (h : Hp) (S : Nat → PAL → Option Value) (r0 : Int) : P50x0 h S r0 = G.stepAt packP unpackP evXV (regP env pf14 nt50 h) (finP env Tryz.f50.results.toList) (G.collect B50 A50 []) 0 S (PAL.i r0 PAL.n) := by kernel_rfl
theorem t50 (h : Hp) (S : Nat → PAL → Option Value) : TabP (fun l al => G.stepAt packP unpackP evXV (regP env pf14 nt50 h) (finP env Tryz.f50.results.toList) (G.collect B50 A50 []) l S al) (T50 h S) := by
  unfold T50
  refine TabP.cons 0 (fun vs0 q e0 => ?_) ?_
  · obtain ⟨r0, vs1, rfl, e1⟩ := wI_some e0
    obtain ⟨rfl, ee⟩ := wN_some e1
    exact (q50x0 h S r0).symm.trans ee
  refine TabP.cons 1 (fun vs0 q e0 => ?_) ?_
  · obtain ⟨r0, vs1, rfl, e1⟩ := wI_some e0
    obtain ⟨r3, vs2, rfl, e2⟩ := wI_some e1
    obtain ⟨r4, vs3, rfl, e3⟩ := wI_some e2
    obtain ⟨rfl, ee⟩ := wN_some e3
    exact (q50x1 h S r0 r3 r4).symm.trans ee
  refine TabP.cons 2 (fun vs0 q e0 => ?_) ?_
  · obtain ⟨r3, vs1, rfl, e1⟩ := wI_some e0
    obtain ⟨rfl, ee⟩ := wN_some e1
    exact (q50x2 h S r3).symm.trans ee
  exact TabP.nil
theorem r50 : PSound Tryz.prog 50 F50 := fun_soundP (C := C0) ok0 (pf := pf14) pfok14 (fn := Tryz.f50) (body := B50) (kinds := [Kd.i .i64]) (A := A50) (T := T50) (by kernel_rfl) (by kernel_rfl) (by kernel_rfl) (by kernel_rfl) (fun h S => t50 h S)
noncomputable def pf15 : PF := pfC 50 F50 pf14
theorem pfok15 : PfSound Tryz.prog pf15 := pfC_ok r50 pfok14
noncomputable def orc31 := orcP 50 F50 orc30
noncomputable def C31 : Cfg := cfg orc31
theorem ok31 : C31.Ok := orcP_ok (C := C30) ok30 r50
noncomputable def B44 : Code := (Tryz.f44.body).getD .skip
noncomputable def A44 : G.Ann (List KI) := (G.Ann.node (some (0, [KI.reg 0 (Kd.v), KI.reg 1 (Kd.i .i64)])) G.Ann.nil (G.Ann.node none (G.Ann.node none G.Ann.nil (G.Ann.node none (G.Ann.node (some (1, [KI.reg 0 (Kd.v), KI.reg 1 (Kd.i .i64), KI.reg 5 (Kd.i .i64)])) (G.Ann.node none (G.Ann.node none G.Ann.nil (G.Ann.node none G.Ann.nil G.Ann.nil)) (G.Ann.node none (G.Ann.node none (G.Ann.node none G.Ann.nil (G.Ann.node none (G.Ann.node none G.Ann.nil G.Ann.nil) G.Ann.nil)) G.Ann.nil) G.Ann.nil)) G.Ann.nil) G.Ann.nil)) (G.Ann.node (some (2, [])) G.Ann.nil G.Ann.nil)))
noncomputable def P44x2 (h : Hp) (S : Nat → PAL → Option Value) : Option Value :=
  some (Value.bool false)
noncomputable def P44x1 (h : Hp) (S : Nat → PAL → Option Value) (r0 : Value) (r1 : Int) (r5 : Int) : Option Value :=
  lenSK r0 fun i0 =>
  boolZ (ltZ r5 i0) fun b1 =>
  ifB b1
  (idxSK 1 r0 r5 fun v2 =>
  load1K h v2 fun v3 =>
  intK .i64 v3 fun i4 =>
  boolZ (eqZ i4 r1) fun b5 =>
  ifB b5
  (some (Value.bool true))
  (wrap64 (Int.add r5 (Int.ofNat 1)) fun i6 =>
  S 1 (PAL.v r0 (PAL.i r1 (PAL.i i6 PAL.n)))))
  (S 2 PAL.n)
noncomputable def P44x0 (h : Hp) (S : Nat → PAL → Option Value) (r0 : Value) (r1 : Int) : Option Value :=
  S 1 (PAL.v r0 (PAL.i r1 (PAL.i (Int.ofNat 0) PAL.n)))
noncomputable def T44 (h : Hp) (S : Nat → PAL → Option Value) : Nat → PAL → Option Value := tabPC 0 (wV fun r0 => wI fun r1 => wN (P44x0 h S r0 r1)) (tabPC 1 (wV fun r0 => wI fun r1 => wI fun r5 => wN (P44x1 h S r0 r1 r5)) (tabPC 2 (wN (P44x2 h S)) (tabPN)))
noncomputable def F44 (args : List Value) (h : Hp) : Option Value := plainO (packArgs [Kd.v, Kd.i .i64] args fun al => G.rec' (T44 h) 1000000 0 al)
def nt44 : Nat := 2 + (18 - 2)
theorem q44x2 (h : Hp) (S : Nat → PAL → Option Value) : P44x2 h S = G.stepAt packP unpackP evXV (regP env pf15 nt44 h) (finP env Tryz.f44.results.toList) (G.collect B44 A44 []) 2 S PAL.n := by kernel_rfl
theorem q44x1 (h : Hp) (S : Nat → PAL → Option Value) (r0 : Value) (r1 : Int) (r5 : Int) : P44x1 h S r0 r1 r5 = G.stepAt packP unpackP evXV (regP env pf15 nt44 h) (finP env Tryz.f44.results.toList) (G.collect B44 A44 []) 1 S (PAL.v r0 (PAL.i r1 (PAL.i r5 PAL.n))) := by kernel_rfl
theorem q44x0 (h : Hp) (S : Nat → PAL → Option Value) (r0 : Value) (r1 : Int) : P44x0 h S r0 r1 = G.stepAt packP unpackP evXV (regP env pf15 nt44 h) (finP env Tryz.f44.results.toList) (G.collect B44 A44 []) 0 S (PAL.v r0 (PAL.i r1 PAL.n)) := by kernel_rfl
theorem t44 (h : Hp) (S : Nat → PAL → Option Value) : TabP (fun l al => G.stepAt packP unpackP evXV (regP env pf15 nt44 h) (finP env Tryz.f44.results.toList) (G.collect B44 A44 []) l S al) (T44 h S) := by
  unfold T44
  refine TabP.cons 0 (fun vs0 q e0 => ?_) ?_
  · obtain ⟨r0, vs1, rfl, e1⟩ := wV_some e0
    obtain ⟨r1, vs2, rfl, e2⟩ := wI_some e1
    obtain ⟨rfl, ee⟩ := wN_some e2
    exact (q44x0 h S r0 r1).symm.trans ee
  refine TabP.cons 1 (fun vs0 q e0 => ?_) ?_
  · obtain ⟨r0, vs1, rfl, e1⟩ := wV_some e0
    obtain ⟨r1, vs2, rfl, e2⟩ := wI_some e1
    obtain ⟨r5, vs3, rfl, e3⟩ := wI_some e2
    obtain ⟨rfl, ee⟩ := wN_some e3
    exact (q44x1 h S r0 r1 r5).symm.trans ee
  refine TabP.cons 2 (fun vs0 q e0 => ?_) ?_
  · 
    obtain ⟨rfl, ee⟩ := wN_some e0
    exact (q44x2 h S).symm.trans ee
  exact TabP.nil
theorem r44 : PSound Tryz.prog 44 F44 := fun_soundP (C := C0) ok0 (pf := pf15) pfok15 (fn := Tryz.f44) (body := B44) (kinds := [Kd.v, Kd.i .i64]) (A := A44) (T := T44) (by kernel_rfl) (by kernel_rfl) (by kernel_rfl) (by kernel_rfl) (fun h S => t44 h S)
noncomputable def pf16 : PF := pfC 44 F44 pf15
theorem pfok16 : PfSound Tryz.prog pf16 := pfC_ok r44 pfok15
noncomputable def orc32 := orcP 44 F44 orc31
noncomputable def C32 : Cfg := cfg orc32
theorem ok32 : C32.Ok := orcP_ok (C := C31) ok31 r44
noncomputable def B17 : Code := (Tryz.f17.body).getD .skip
def A17 : Ann := (Ann.node (some (0, [(0, Kd.v)])) Ann.nil (Ann.node none (Ann.node none Ann.nil (Ann.node none (Ann.node none Ann.nil Ann.nil) Ann.nil)) (Ann.node none (Ann.node none Ann.nil (Ann.node none (Ann.node none Ann.nil Ann.nil) Ann.nil)) (Ann.node none Ann.nil (Ann.node none (Ann.node none Ann.nil (Ann.node none (Ann.node (some (1, [(1, Kd.v), (5, Kd.v), (6, Kd.i .i64)])) (Ann.node none (Ann.node none Ann.nil (Ann.node none Ann.nil Ann.nil)) (Ann.node none (Ann.node none (Ann.node none Ann.nil (Ann.node none Ann.nil (Ann.node none (Ann.node none Ann.nil (Ann.node none Ann.nil Ann.nil)) (Ann.node (some (4, [(1, Kd.v), (5, Kd.v), (6, Kd.i .i64), (7, Kd.v), (8, Kd.i .i64)])) (Ann.node none Ann.nil (Ann.node none Ann.nil Ann.nil)) (Ann.node (some (3, [(1, Kd.v), (5, Kd.v), (6, Kd.i .i64), (7, Kd.v), (8, Kd.i .i64)])) (Ann.node none Ann.nil (Ann.node none Ann.nil Ann.nil)) (Ann.node (some (2, [(1, Kd.v), (5, Kd.v), (6, Kd.i .i64), (7, Kd.v), (8, Kd.i .i64)])) (Ann.node none Ann.nil (Ann.node none (Ann.node none Ann.nil Ann.nil) Ann.nil)) Ann.nil)))))) Ann.nil) (Ann.node (some (5, [(1, Kd.v), (5, Kd.v), (6, Kd.i .i64)])) Ann.nil Ann.nil))) Ann.nil) Ann.nil)) (Ann.node (some (8, [(1, Kd.v)])) (Ann.node none Ann.nil (Ann.node none (Ann.node none Ann.nil Ann.nil) Ann.nil)) (Ann.node none (Ann.node none Ann.nil (Ann.node none (Ann.node (some (6, [(1, Kd.v), (9, Kd.i .i64)])) (Ann.node none (Ann.node none Ann.nil (Ann.node none Ann.nil Ann.nil)) (Ann.node none (Ann.node none (Ann.node none (Ann.node none Ann.nil (Ann.node none (Ann.node none Ann.nil Ann.nil) Ann.nil)) (Ann.node none Ann.nil (Ann.node none (Ann.node none Ann.nil Ann.nil) Ann.nil))) Ann.nil) Ann.nil)) Ann.nil) Ann.nil)) (Ann.node (some (7, [])) Ann.nil Ann.nil))))))))
noncomputable def P17x7 (S : Sg) (h : Hp) : CRes :=
  some (Value.tuple (List.toArray [(Value.int .i64 (Int.ofNat 0)), (Value.int .i64 (Int.ofNat 0)), (Value.int .i64 (Int.ofNat 0))]), h)
noncomputable def P17x6 (S : Sg) (r1 : Value) (r9 : Int) (h : Hp) : CRes :=
  ptrAddK 2 r1 fun v0 =>
  load1K h v0 fun v1 =>
  lenSK v1 fun i2 =>
  boolZ (ltZ r9 i2) fun b3 =>
  ifB b3
  (ptrAddK 2 r1 fun v4 =>
  load1K h v4 fun v5 =>
  idxSK 1 v5 r9 fun v6 =>
  load1K h v6 fun v7 =>
  intK .i64 v7 fun i8 =>
  ptrAddK 1 r1 fun v9 =>
  load1K h v9 fun v10 =>
  lenSK v10 fun i11 =>
  pairK (pairK (optK (F50 [(Value.int .i64 i11)] (Hp.mk (Hp.next h) (Hp.next h) (Hp.objs h))) fun v => some (v, (Hp.mk (Hp.next h) (Hp.next h) (Hp.objs h)))) fun v _ => ifB (plainK v) (some (v, h)) none) fun v12 h12 =>
  intK .i64 v12 fun i13 =>
  wrap64 (Int.sub i13 (Int.ofNat 1)) fun i14 =>
  pairK (optK (F60 [(Value.int .i64 i8), (Value.int .i64 (Int.ofNat 0)), (Value.int .i64 i14)] h12) fun v => some (v, h12)) fun v15 h15 =>
  boolK v15 fun b16 =>
  boolN b16 fun b17 =>
  ifB b17
  (some (Value.tuple (List.toArray [(Value.int .i64 (Int.ofNat 3)), (Value.int .i64 r9), (Value.int .i64 (Int.ofNat 4))]), h15))
  (ptrAddK 2 r1 fun v18 =>
  load1K h15 v18 fun v19 =>
  optK (sliceV env h15 23 v19 none (some (Value.int .i64 r9)) none) fun v20 =>
  ptrAddK 2 r1 fun v21 =>
  load1K h15 v21 fun v22 =>
  idxSK 1 v22 r9 fun v23 =>
  load1K h15 v23 fun v24 =>
  intK .i64 v24 fun i25 =>
  pairK (optK (F44 [v20, (Value.int .i64 i25)] h15) fun v => some (v, h15)) fun v26 h26 =>
  boolK v26 fun b27 =>
  ifB b27
  (some (Value.tuple (List.toArray [(Value.int .i64 (Int.ofNat 3)), (Value.int .i64 r9), (Value.int .i64 (Int.ofNat 5))]), h26))
  (wrap64 (Int.add r9 (Int.ofNat 1)) fun i28 =>
  S 6 (AL.v r1 (AL.i i28 AL.n)) h26)))
  (S 7 AL.n h)
noncomputable def P17x8 (S : Sg) (r1 : Value) (h : Hp) : CRes :=
  ptrAddK 2 r1 fun v0 =>
  load1K h v0 fun v1 =>
  lenSK v1 fun i2 =>
  pairK (optK (F60 [(Value.int .i64 i2), (Value.int .i64 (Int.ofNat 1)), (Value.int .i64 (Int.ofNat 6))] h) fun v => some (v, h)) fun v3 h3 =>
  boolK v3 fun b4 =>
  boolN b4 fun b5 =>
  ifB b5
  (some (Value.tuple (List.toArray [(Value.int .i64 (Int.ofNat 3)), (Value.int .i64 (Int.ofNat 0)), (Value.int .i64 (Int.ofNat 3))]), h3))
  (S 6 (AL.v r1 (AL.i (Int.ofNat 0) AL.n)) h3)
noncomputable def P17x5 (S : Sg) (r1 : Value) (r5 : Value) (r6 : Int) (h : Hp) : CRes :=
  wrap64 (Int.add r6 (Int.ofNat 1)) fun i0 =>
  S 1 (AL.v r1 (AL.v r5 (AL.i i0 AL.n))) h
noncomputable def P17x2 (S : Sg) (r1 : Value) (r5 : Value) (r6 : Int) (r7 : Value) (r8 : Int) (h : Hp) : CRes :=
  boolN (eqZ r8 (Int.ofNat 0)) fun b0 =>
  ifB b0
  (some (Value.tuple (List.toArray [(Value.int .i64 (Int.ofNat 2)), (Value.int .i64 r6), (Value.int .i64 r8)]), h))
  (ptrAddK 0 r7 fun v1 =>
  load1K h v1 fun v2 =>
  pairK (buildSliceV env h 84 1 (List.toArray [(0, v2)])) fun v3 h3 =>
  pairK (appendV env h3 #[84, 84] (List.toArray [r5, v3])) fun v4 h4 =>
  S 5 (AL.v r1 (AL.v v4 (AL.i r6 AL.n))) h4)
noncomputable def P17x3 (S : Sg) (r1 : Value) (r5 : Value) (r6 : Int) (r7 : Value) (r8 : Int) (h : Hp) : CRes :=
  boolZ (eqZ r8 (Int.ofNat 0)) fun b0 =>
  ifB b0
  (boolZ (ltZ (Int.ofNat 0) r6) fun b1 =>
  ifB b1
  (ptrAddK 2 r7 fun v2 =>
  load1K h v2 fun v3 =>
  intK .i64 v3 fun i4 =>
  ptrAddK 1 r1 fun v5 =>
  load1K h v5 fun v6 =>
  wrap64 (Int.sub r6 (Int.ofNat 1)) fun i7 =>
  idxSK 4 v6 i7 fun v8 =>
  ptrAddK 2 v8 fun v9 =>
  load1K h v9 fun v10 =>
  intK .i64 v10 fun i11 =>
  boolZ (ltZ i4 i11) fun b12 =>
  ifB b12
  (S 2 (AL.v r1 (AL.v r5 (AL.i r6 (AL.v r7 (AL.i (Int.ofNat 2) AL.n))))) h)
  (S 2 (AL.v r1 (AL.v r5 (AL.i r6 (AL.v r7 (AL.i r8 AL.n))))) h))
  (S 2 (AL.v r1 (AL.v r5 (AL.i r6 (AL.v r7 (AL.i r8 AL.n))))) h))
  (S 2 (AL.v r1 (AL.v r5 (AL.i r6 (AL.v r7 (AL.i r8 AL.n))))) h)
noncomputable def P17x4 (S : Sg) (r1 : Value) (r5 : Value) (r6 : Int) (r7 : Value) (r8 : Int) (h : Hp) : CRes :=
  boolZ (eqZ r8 (Int.ofNat 0)) fun b0 =>
  ifB b0
  (ptrAddK 2 r7 fun v1 =>
  load1K h v1 fun v2 =>
  intK .i64 v2 fun i3 =>
  pairK (optK (F60 [(Value.int .i64 i3), (Value.int .i64 (Int.ofNat 0)), (Value.int .i64 (Int.ofNat 9))] h) fun v => some (v, h)) fun v4 h4 =>
  boolK v4 fun b5 =>
  boolN b5 fun b6 =>
  ifB b6
  (S 3 (AL.v r1 (AL.v r5 (AL.i r6 (AL.v r7 (AL.i (Int.ofNat 7) AL.n))))) h4)
  (ptrAddK 3 r7 fun v7 =>
  load1K h4 v7 fun v8 =>
  intK .i64 v8 fun i9 =>
  pairK (optK (F60 [(Value.int .i64 i9), (Value.int .i64 (Int.ofNat 1)), (Value.int .i64 (Int.ofNat 6))] h4) fun v => some (v, h4)) fun v10 h10 =>
  boolK v10 fun b11 =>
  boolN b11 fun b12 =>
  ifB b12
  (S 3 (AL.v r1 (AL.v r5 (AL.i r6 (AL.v r7 (AL.i (Int.ofNat 7) AL.n))))) h10)
  (S 3 (AL.v r1 (AL.v r5 (AL.i r6 (AL.v r7 (AL.i r8 AL.n))))) h10)))
  (S 3 (AL.v r1 (AL.v r5 (AL.i r6 (AL.v r7 (AL.i r8 AL.n))))) h)
noncomputable def P17x1 (S : Sg) (r1 : Value) (r5 : Value) (r6 : Int) (h : Hp) : CRes :=
  ptrAddK 1 r1 fun v0 =>
  load1K h v0 fun v1 =>
  lenSK v1 fun i2 =>
  boolZ (ltZ r6 i2) fun b3 =>
  ifB b3
  (ptrAddK 1 r1 fun v4 =>
  load1K h v4 fun v5 =>
  idxSK 4 v5 r6 fun v6 =>
  loadNK 4 h v6 fun v7 =>
  allocK h 76 [(Value.string (ByteArray.mk #[])), (Value.string (ByteArray.mk #[])), (Value.int .i64 (Int.ofNat 0)), (Value.int .i64 (Int.ofNat 0))] fun a8 h8 =>
  storeNK 4 h8 a8 v7 fun h9 =>
  ptrAddK 0 a8 fun v10 =>
  load1K h9 v10 fun v11 =>
  pairK (optK (F61 [v11, r5] h9) fun v => some (v, h9)) fun v12 h12 =>
  intK .i64 v12 fun i13 =>
  boolZ (eqZ i13 (Int.ofNat 0)) fun b14 =>
  ifB b14
  (ptrAddK 1 a8 fun v15 =>
  load1K h12 v15 fun v16 =>
  pairK (optK (F62 [v16] h12) fun v => some (v, h12)) fun v17 h17 =>
  boolK v17 fun b18 =>
  boolN b18 fun b19 =>
  ifB b19
  (S 4 (AL.v r1 (AL.v r5 (AL.i r6 (AL.v a8 (AL.i (Int.ofNat 6) AL.n))))) h17)
  (S 4 (AL.v r1 (AL.v r5 (AL.i r6 (AL.v a8 (AL.i i13 AL.n))))) h17))
  (S 4 (AL.v r1 (AL.v r5 (AL.i r6 (AL.v a8 (AL.i i13 AL.n))))) h12))
  (S 8 (AL.v r1 AL.n) h)
noncomputable def P17x0 (S : Sg) (r0 : Value) (h : Hp) : CRes :=
  allocK h 25 (Array.toList (Value.cells r0)) fun a0 h0 =>
  ptrAddK 0 a0 fun v1 =>
  load1K h0 v1 fun v2 =>
  intK .i64 v2 fun i3 =>
  pairK (optK (F60 [(Value.int .i64 i3), (Value.int .i64 (Int.ofNat 14)), (Value.int .i64 (Int.ofNat 30))] h0) fun v => some (v, h0)) fun v4 h4 =>
  boolK v4 fun b5 =>
  boolN b5 fun b6 =>
  ifB b6
  (some (Value.tuple (List.toArray [(Value.int .i64 (Int.ofNat 1)), (Value.int .i64 (Int.ofNat 0)), (Value.int .i64 (Int.ofNat 7))]), h4))
  (ptrAddK 1 a0 fun v7 =>
  load1K h4 v7 fun v8 =>
  lenSK v8 fun i9 =>
  boolZ (ltZ (Int.ofNat 6) i9) fun b10 =>
  ifB b10
  (some (Value.tuple (List.toArray [(Value.int .i64 (Int.ofNat 2)), (Value.int .i64 (Int.ofNat 0)), (Value.int .i64 (Int.ofNat 3))]), h4))
  (S 1 (AL.v a0 (AL.v (Value.slice none 0 0) (AL.i (Int.ofNat 0) AL.n))) h4))
noncomputable def T17 (S : Sg) : Sg := tabC 0 (uV fun r0 => uN fun h => P17x0 S r0 h) (tabC 1 (uV fun r1 => uV fun r5 => uI fun r6 => uN fun h => P17x1 S r1 r5 r6 h) (tabC 4 (uV fun r1 => uV fun r5 => uI fun r6 => uV fun r7 => uI fun r8 => uN fun h => P17x4 S r1 r5 r6 r7 r8 h) (tabC 3 (uV fun r1 => uV fun r5 => uI fun r6 => uV fun r7 => uI fun r8 => uN fun h => P17x3 S r1 r5 r6 r7 r8 h) (tabC 2 (uV fun r1 => uV fun r5 => uI fun r6 => uV fun r7 => uI fun r8 => uN fun h => P17x2 S r1 r5 r6 r7 r8 h) (tabC 5 (uV fun r1 => uV fun r5 => uI fun r6 => uN fun h => P17x5 S r1 r5 r6 h) (tabC 8 (uV fun r1 => uN fun h => P17x8 S r1 h) (tabC 6 (uV fun r1 => uI fun r9 => uN fun h => P17x6 S r1 r9 h) (tabC 7 (uN fun h => P17x7 S  h) (tabN)))))))))
noncomputable def F17 (args : List Value) (h : Hp) : CRes := packVals [Kd.v] args fun al => rec' T17 1000000 0 al h
def nt17 : Nat := 1 + (119 - 1)
theorem q17x7 (S : Sg) (h : Hp) : P17x7 S  h = stepAt (regK env orc32 (nt17)) (finK env Tryz.f17.results.toList) (collect B17 A17 []) 7 S AL.n h := by kernel_rfl
theorem q17x6 (S : Sg) (r1 : Value) (r9 : Int) (h : Hp) : P17x6 S r1 r9 h = stepAt (regK env orc32 (nt17)) (finK env Tryz.f17.results.toList) (collect B17 A17 []) 6 S (AL.v r1 (AL.i r9 AL.n)) h := by kernel_rfl
theorem q17x8 (S : Sg) (r1 : Value) (h : Hp) : P17x8 S r1 h = stepAt (regK env orc32 (nt17)) (finK env Tryz.f17.results.toList) (collect B17 A17 []) 8 S (AL.v r1 AL.n) h := by kernel_rfl
theorem q17x5 (S : Sg) (r1 : Value) (r5 : Value) (r6 : Int) (h : Hp) : P17x5 S r1 r5 r6 h = stepAt (regK env orc32 (nt17)) (finK env Tryz.f17.results.toList) (collect B17 A17 []) 5 S (AL.v r1 (AL.v r5 (AL.i r6 AL.n))) h := by kernel_rfl
theorem q17x2 (S : Sg) (r1 : Value) (r5 : Value) (r6 : Int) (r7 : Value) (r8 : Int) (h : Hp) : P17x2 S r1 r5 r6 r7 r8 h = stepAt (regK env orc32 (nt17)) (finK env Tryz.f17.results.toList) (collect B17 A17 []) 2 S (AL.v r1 (AL.v r5 (AL.i r6 (AL.v r7 (AL.i r8 AL.n))))) h := by kernel_rfl
theorem q17x3 (S : Sg) (r1 : Value) (r5 : Value) (r6 : Int) (r7 : Value) (r8 : Int) (h : Hp) : P17x3 S r1 r5 r6 r7 r8 h = stepAt (regK env orc32 (nt17)) (finK env Tryz.f17.results.toList) (collect B17 A17 []) 3 S (AL.v r1 (AL.v r5 (AL.i r6 (AL.v r7 (AL.i r8 AL.n))))) h := by kernel_rfl
theorem q17x4 (S : Sg) (r1 : Value) (r5 : Value) (r6 : Int) (r7 : Value) (r8 : Int) (h : Hp) : P17x4 S r1 r5 r6 r7 r8 h = stepAt (regK env orc32 (nt17)) (finK env Tryz.f17.results.toList) (collect B17 A17 []) 4 S (AL.v r1 (AL.v r5 (AL.i r6 (AL.v r7 (AL.i r8 AL.n))))) h := by kernel_rfl
theorem q17x1 (S : Sg) (r1 : Value) (r5 : Value) (r6 : Int) (h : Hp) : P17x1 S r1 r5 r6 h = stepAt (regK env orc32 (nt17)) (finK env Tryz.f17.results.toList) (collect B17 A17 []) 1 S (AL.v r1 (AL.v r5 (AL.i r6 AL.n))) h := by kernel_rfl
theorem q17x0 (S : Sg) (r0 : Value) (h : Hp) : P17x0 S r0 h = stepAt (regK env orc32 (nt17)) (finK env Tryz.f17.results.toList) (collect B17 A17 []) 0 S (AL.v r0 AL.n) h := by kernel_rfl
theorem t17 (S : Sg) : Tab (fun l vs h => stepAt (regK env orc32 nt17) (finK env Tryz.f17.results.toList) (collect B17 A17 []) l S vs h) (T17 S) := by
  unfold T17
  refine Tab.cons 0 (fun vs0 h q e0 => ?_) ?_
  · obtain ⟨r0, vs1, rfl, e1⟩ := uV_some e0
    obtain ⟨rfl, ee⟩ := uN_some e1
    exact (q17x0 S r0 h).symm.trans ee
  refine Tab.cons 1 (fun vs0 h q e0 => ?_) ?_
  · obtain ⟨r1, vs1, rfl, e1⟩ := uV_some e0
    obtain ⟨r5, vs2, rfl, e2⟩ := uV_some e1
    obtain ⟨r6, vs3, rfl, e3⟩ := uI_some e2
    obtain ⟨rfl, ee⟩ := uN_some e3
    exact (q17x1 S r1 r5 r6 h).symm.trans ee
  refine Tab.cons 4 (fun vs0 h q e0 => ?_) ?_
  · obtain ⟨r1, vs1, rfl, e1⟩ := uV_some e0
    obtain ⟨r5, vs2, rfl, e2⟩ := uV_some e1
    obtain ⟨r6, vs3, rfl, e3⟩ := uI_some e2
    obtain ⟨r7, vs4, rfl, e4⟩ := uV_some e3
    obtain ⟨r8, vs5, rfl, e5⟩ := uI_some e4
    obtain ⟨rfl, ee⟩ := uN_some e5
    exact (q17x4 S r1 r5 r6 r7 r8 h).symm.trans ee
  refine Tab.cons 3 (fun vs0 h q e0 => ?_) ?_
  · obtain ⟨r1, vs1, rfl, e1⟩ := uV_some e0
    obtain ⟨r5, vs2, rfl, e2⟩ := uV_some e1
    obtain ⟨r6, vs3, rfl, e3⟩ := uI_some e2
    obtain ⟨r7, vs4, rfl, e4⟩ := uV_some e3
    obtain ⟨r8, vs5, rfl, e5⟩ := uI_some e4
    obtain ⟨rfl, ee⟩ := uN_some e5
    exact (q17x3 S r1 r5 r6 r7 r8 h).symm.trans ee
  refine Tab.cons 2 (fun vs0 h q e0 => ?_) ?_
  · obtain ⟨r1, vs1, rfl, e1⟩ := uV_some e0
    obtain ⟨r5, vs2, rfl, e2⟩ := uV_some e1
    obtain ⟨r6, vs3, rfl, e3⟩ := uI_some e2
    obtain ⟨r7, vs4, rfl, e4⟩ := uV_some e3
    obtain ⟨r8, vs5, rfl, e5⟩ := uI_some e4
    obtain ⟨rfl, ee⟩ := uN_some e5
    exact (q17x2 S r1 r5 r6 r7 r8 h).symm.trans ee
  refine Tab.cons 5 (fun vs0 h q e0 => ?_) ?_
  · obtain ⟨r1, vs1, rfl, e1⟩ := uV_some e0
    obtain ⟨r5, vs2, rfl, e2⟩ := uV_some e1
    obtain ⟨r6, vs3, rfl, e3⟩ := uI_some e2
    obtain ⟨rfl, ee⟩ := uN_some e3
    exact (q17x5 S r1 r5 r6 h).symm.trans ee
  refine Tab.cons 8 (fun vs0 h q e0 => ?_) ?_
  · obtain ⟨r1, vs1, rfl, e1⟩ := uV_some e0
    obtain ⟨rfl, ee⟩ := uN_some e1
    exact (q17x8 S r1 h).symm.trans ee
  refine Tab.cons 6 (fun vs0 h q e0 => ?_) ?_
  · obtain ⟨r1, vs1, rfl, e1⟩ := uV_some e0
    obtain ⟨r9, vs2, rfl, e2⟩ := uI_some e1
    obtain ⟨rfl, ee⟩ := uN_some e2
    exact (q17x6 S r1 r9 h).symm.trans ee
  refine Tab.cons 7 (fun vs0 h q e0 => ?_) ?_
  · 
    obtain ⟨rfl, ee⟩ := uN_some e0
    exact (q17x7 S  h).symm.trans ee
  exact Tab.nil
theorem r17 : ∀ args h v h', F17 args h = some (v, h') → Runs (C32) (.call 17 args.toArray h) (.ret v h') := by
  intro args h v h' e
  exact fun_sound (C := C32) (fn := Tryz.f17) (body := B17) (np := 1) (A := A17) (T := T17) (kinds := [Kd.v]) (by kernel_rfl) (by kernel_rfl) (by kernel_rfl) (by kernel_rfl) (regK_ok env_ok) (by kernel_rfl) (fun S => t17 S) e
noncomputable def orc33 := orcQ 17 F17 orc32
noncomputable def C33 : Cfg := cfg orc33
theorem ok33 : C33.Ok := orcQ_ok (C := C32) ok32 r17
noncomputable def B41 : Code := (Tryz.f41.body).getD .skip
def A41 : Ann := (Ann.node (some (0, [(0, Kd.v)])) Ann.nil (Ann.node none Ann.nil (Ann.node none Ann.nil Ann.nil)))
noncomputable def P41x0 (S : Sg) (r0 : Value) (h : Hp) : CRes :=
  allocK h 25 (Array.toList (Value.cells r0)) fun a0 h0 =>
  loadNK 3 h0 a0 fun v1 =>
  pairK (callQ F17 [v1] h0) fun v2 h2 =>
  extK v2 0 fun v3 =>
  intK .i64 v3 fun i4 =>
  extK v2 1 fun v5 =>
  intK .i64 v5 fun i6 =>
  extK v2 2 fun v7 =>
  intK .i64 v7 fun i8 =>
  boolZ (eqZ i8 (Int.ofNat 0)) fun b9 =>
  some ((Value.bool b9), h2)
noncomputable def T41 (S : Sg) : Sg := tabC 0 (uV fun r0 => uN fun h => P41x0 S r0 h) (tabN)
noncomputable def F41 (args : List Value) (h : Hp) : CRes := packVals [Kd.v] args fun al => rec' T41 1000000 0 al h
def nt41 : Nat := 1 + (14 - 1)
theorem q41x0 (S : Sg) (r0 : Value) (h : Hp) : P41x0 S r0 h = stepAt (regK env orc33 (nt41)) (finK env Tryz.f41.results.toList) (collect B41 A41 []) 0 S (AL.v r0 AL.n) h := by kernel_rfl
theorem t41 (S : Sg) : Tab (fun l vs h => stepAt (regK env orc33 nt41) (finK env Tryz.f41.results.toList) (collect B41 A41 []) l S vs h) (T41 S) := by
  unfold T41
  refine Tab.cons 0 (fun vs0 h q e0 => ?_) ?_
  · obtain ⟨r0, vs1, rfl, e1⟩ := uV_some e0
    obtain ⟨rfl, ee⟩ := uN_some e1
    exact (q41x0 S r0 h).symm.trans ee
  exact Tab.nil
theorem r41 : ∀ args h v h', F41 args h = some (v, h') → Runs (C33) (.call 41 args.toArray h) (.ret v h') := by
  intro args h v h' e
  exact fun_sound (C := C33) (fn := Tryz.f41) (body := B41) (np := 1) (A := A41) (T := T41) (kinds := [Kd.v]) (by kernel_rfl) (by kernel_rfl) (by kernel_rfl) (by kernel_rfl) (regK_ok env_ok) (by kernel_rfl) (fun S => t41 S) e
noncomputable def orc34 := orcQ 41 F41 orc33
noncomputable def C34 : Cfg := cfg orc34
theorem ok34 : C34.Ok := orcQ_ok (C := C33) ok33 r41
noncomputable def B42 : Code := (Tryz.f42.body).getD .skip
noncomputable def A42 : G.Ann (List KI) := (G.Ann.node (some (0, [KI.reg 0 (Kd.i .i64), KI.reg 1 (Kd.i .i64)])) G.Ann.nil (G.Ann.node none G.Ann.nil G.Ann.nil))
noncomputable def P42x0 (h : Hp) (S : Nat → PAL → Option Value) (r0 : Int) (r1 : Int) : Option Value :=
  shrZ .i64 r0 r1 (shrI (binW env .shr 3 (Value.int .i64 r0) (Value.int .i64 r1)) (Value.int .i64 r0) (Value.int .i64 r1)) fun i0 =>
  slowI .i64 (binW env .rem 3 (Value.int .i64 i0) (Value.int .i64 (Int.ofNat 2))) fun i1 =>
  boolZ (eqZ i1 (Int.ofNat 1)) fun b2 =>
  some (Value.bool b2)
noncomputable def T42 (h : Hp) (S : Nat → PAL → Option Value) : Nat → PAL → Option Value := tabPC 0 (wI fun r0 => wI fun r1 => wN (P42x0 h S r0 r1)) (tabPN)
noncomputable def F42 (args : List Value) (h : Hp) : Option Value := plainO (packArgs [Kd.i .i64, Kd.i .i64] args fun al => G.rec' (T42 h) 1000000 0 al)
def nt42 : Nat := 2 + (10 - 2)
theorem q42x0 (h : Hp) (S : Nat → PAL → Option Value) (r0 : Int) (r1 : Int) : P42x0 h S r0 r1 = G.stepAt packP unpackP evXV (regP env pf16 nt42 h) (finP env Tryz.f42.results.toList) (G.collect B42 A42 []) 0 S (PAL.i r0 (PAL.i r1 PAL.n)) := by kernel_rfl
theorem t42 (h : Hp) (S : Nat → PAL → Option Value) : TabP (fun l al => G.stepAt packP unpackP evXV (regP env pf16 nt42 h) (finP env Tryz.f42.results.toList) (G.collect B42 A42 []) l S al) (T42 h S) := by
  unfold T42
  refine TabP.cons 0 (fun vs0 q e0 => ?_) ?_
  · obtain ⟨r0, vs1, rfl, e1⟩ := wI_some e0
    obtain ⟨r1, vs2, rfl, e2⟩ := wI_some e1
    obtain ⟨rfl, ee⟩ := wN_some e2
    exact (q42x0 h S r0 r1).symm.trans ee
  exact TabP.nil
theorem r42 : PSound Tryz.prog 42 F42 := fun_soundP (C := C0) ok0 (pf := pf16) pfok16 (fn := Tryz.f42) (body := B42) (kinds := [Kd.i .i64, Kd.i .i64]) (A := A42) (T := T42) (by kernel_rfl) (by kernel_rfl) (by kernel_rfl) (by kernel_rfl) (fun h S => t42 h S)
noncomputable def pf17 : PF := pfC 42 F42 pf16
theorem pfok17 : PfSound Tryz.prog pf17 := pfC_ok r42 pfok16
noncomputable def orc35 := orcP 42 F42 orc34
noncomputable def C35 : Cfg := cfg orc35
theorem ok35 : C35.Ok := orcP_ok (C := C34) ok34 r42
noncomputable def B51 : Code := (Tryz.f51.body).getD .skip
def A51 : Ann := (Ann.node (some (0, [(0, Kd.v), (1, Kd.i .i64)])) Ann.nil (Ann.node none Ann.nil (Ann.node none (Ann.node none Ann.nil (Ann.node none (Ann.node (some (1, [(1, Kd.i .i64), (2, Kd.v), (4, Kd.v), (5, Kd.v), (6, Kd.i .i64)])) (Ann.node none (Ann.node none Ann.nil (Ann.node none Ann.nil Ann.nil)) (Ann.node none (Ann.node none (Ann.node none Ann.nil (Ann.node none Ann.nil Ann.nil)) Ann.nil) Ann.nil)) Ann.nil) Ann.nil)) (Ann.node (some (2, [(2, Kd.v), (4, Kd.v), (5, Kd.v)])) Ann.nil (Ann.node none Ann.nil Ann.nil)))))
noncomputable def P51x2 (S : Sg) (r2 : Value) (r4 : Value) (r5 : Value) (h : Hp) : CRes :=
  ptrAddK 2 r2 fun v0 =>
  store1K h v0 r5 fun h1 =>
  loadNK 3 h1 r2 fun v2 =>
  storeNK 3 h1 r4 v2 fun h3 =>
  loadNK 3 h3 r4 fun v4 => some (v4, h3)
noncomputable def P51x1 (S : Sg) (r1 : Int) (r2 : Value) (r4 : Value) (r5 : Value) (r6 : Int) (h : Hp) : CRes :=
  ptrAddK 2 r2 fun v0 =>
  load1K h v0 fun v1 =>
  lenSK v1 fun i2 =>
  boolZ (ltZ r6 i2) fun b3 =>
  ifB b3
  (pairK (optK (F42 [(Value.int .i64 r1), (Value.int .i64 r6)] h) fun v => some (v, h)) fun v4 h4 =>
  boolK v4 fun b5 =>
  ifB b5
  (ptrAddK 2 r2 fun v6 =>
  load1K h4 v6 fun v7 =>
  idxSK 1 v7 r6 fun v8 =>
  load1K h4 v8 fun v9 =>
  intK .i64 v9 fun i10 =>
  pairK (buildSliceV env h4 23 1 (List.toArray [(0, (Value.int .i64 i10))])) fun v11 h11 =>
  pairK (appendV env h11 #[23, 23] (List.toArray [r5, v11])) fun v12 h12 =>
  wrap64 (Int.add r6 (Int.ofNat 1)) fun i13 =>
  S 1 (AL.i r1 (AL.v r2 (AL.v r4 (AL.v v12 (AL.i i13 AL.n))))) h12)
  (wrap64 (Int.add r6 (Int.ofNat 1)) fun i14 =>
  S 1 (AL.i r1 (AL.v r2 (AL.v r4 (AL.v r5 (AL.i i14 AL.n))))) h4))
  (S 2 (AL.v r2 (AL.v r4 (AL.v r5 AL.n))) h)
noncomputable def P51x0 (S : Sg) (r0 : Value) (r1 : Int) (h : Hp) : CRes :=
  allocK h 25 (Array.toList (Value.cells r0)) fun a0 h0 =>
  allocK h0 25 [(Value.int .i64 (Int.ofNat 0)), (Value.slice none 0 0), (Value.slice none 0 0)] fun a1 h1 =>
  S 1 (AL.i r1 (AL.v a0 (AL.v a1 (AL.v (Value.slice none 0 0) (AL.i (Int.ofNat 0) AL.n))))) h1
noncomputable def T51 (S : Sg) : Sg := tabC 0 (uV fun r0 => uI fun r1 => uN fun h => P51x0 S r0 r1 h) (tabC 1 (uI fun r1 => uV fun r2 => uV fun r4 => uV fun r5 => uI fun r6 => uN fun h => P51x1 S r1 r2 r4 r5 r6 h) (tabC 2 (uV fun r2 => uV fun r4 => uV fun r5 => uN fun h => P51x2 S r2 r4 r5 h) (tabN)))
noncomputable def F51 (args : List Value) (h : Hp) : CRes := packVals [Kd.v, Kd.i .i64] args fun al => rec' T51 1000000 0 al h
def nt51 : Nat := 2 + (28 - 2)
theorem q51x2 (S : Sg) (r2 : Value) (r4 : Value) (r5 : Value) (h : Hp) : P51x2 S r2 r4 r5 h = stepAt (regK env orc35 (nt51)) (finK env Tryz.f51.results.toList) (collect B51 A51 []) 2 S (AL.v r2 (AL.v r4 (AL.v r5 AL.n))) h := by kernel_rfl
theorem q51x1 (S : Sg) (r1 : Int) (r2 : Value) (r4 : Value) (r5 : Value) (r6 : Int) (h : Hp) : P51x1 S r1 r2 r4 r5 r6 h = stepAt (regK env orc35 (nt51)) (finK env Tryz.f51.results.toList) (collect B51 A51 []) 1 S (AL.i r1 (AL.v r2 (AL.v r4 (AL.v r5 (AL.i r6 AL.n))))) h := by kernel_rfl
theorem q51x0 (S : Sg) (r0 : Value) (r1 : Int) (h : Hp) : P51x0 S r0 r1 h = stepAt (regK env orc35 (nt51)) (finK env Tryz.f51.results.toList) (collect B51 A51 []) 0 S (AL.v r0 (AL.i r1 AL.n)) h := by kernel_rfl
theorem t51 (S : Sg) : Tab (fun l vs h => stepAt (regK env orc35 nt51) (finK env Tryz.f51.results.toList) (collect B51 A51 []) l S vs h) (T51 S) := by
  unfold T51
  refine Tab.cons 0 (fun vs0 h q e0 => ?_) ?_
  · obtain ⟨r0, vs1, rfl, e1⟩ := uV_some e0
    obtain ⟨r1, vs2, rfl, e2⟩ := uI_some e1
    obtain ⟨rfl, ee⟩ := uN_some e2
    exact (q51x0 S r0 r1 h).symm.trans ee
  refine Tab.cons 1 (fun vs0 h q e0 => ?_) ?_
  · obtain ⟨r1, vs1, rfl, e1⟩ := uI_some e0
    obtain ⟨r2, vs2, rfl, e2⟩ := uV_some e1
    obtain ⟨r4, vs3, rfl, e3⟩ := uV_some e2
    obtain ⟨r5, vs4, rfl, e4⟩ := uV_some e3
    obtain ⟨r6, vs5, rfl, e5⟩ := uI_some e4
    obtain ⟨rfl, ee⟩ := uN_some e5
    exact (q51x1 S r1 r2 r4 r5 r6 h).symm.trans ee
  refine Tab.cons 2 (fun vs0 h q e0 => ?_) ?_
  · obtain ⟨r2, vs1, rfl, e1⟩ := uV_some e0
    obtain ⟨r4, vs2, rfl, e2⟩ := uV_some e1
    obtain ⟨r5, vs3, rfl, e3⟩ := uV_some e2
    obtain ⟨rfl, ee⟩ := uN_some e3
    exact (q51x2 S r2 r4 r5 h).symm.trans ee
  exact Tab.nil
theorem r51 : ∀ args h v h', F51 args h = some (v, h') → Runs (C35) (.call 51 args.toArray h) (.ret v h') := by
  intro args h v h' e
  exact fun_sound (C := C35) (fn := Tryz.f51) (body := B51) (np := 2) (A := A51) (T := T51) (kinds := [Kd.v, Kd.i .i64]) (by kernel_rfl) (by kernel_rfl) (by kernel_rfl) (by kernel_rfl) (regK_ok env_ok) (by kernel_rfl) (fun S => t51 S) e
noncomputable def orc36 := orcQ 51 F51 orc35
noncomputable def C36 : Cfg := cfg orc36
theorem ok36 : C36.Ok := orcQ_ok (C := C35) ok35 r51
noncomputable def B14 : Code := (Tryz.f14.body).getD .skip
def A14 : Ann := (Ann.node (some (0, [(0, Kd.v), (1, Kd.i .u8), (2, Kd.v)])) Ann.nil (Ann.node none (Ann.node none Ann.nil (Ann.node (some (1, [(1, Kd.i .u8), (3, Kd.v), (5, Kd.v), (31, Kd.b)])) (Ann.node none Ann.nil (Ann.node none Ann.nil Ann.nil)) Ann.nil)) (Ann.node (some (7, [(1, Kd.i .u8), (3, Kd.v), (5, Kd.v)])) Ann.nil (Ann.node none Ann.nil (Ann.node none Ann.nil (Ann.node none (Ann.node none Ann.nil (Ann.node none Ann.nil Ann.nil)) (Ann.node (some (6, [(3, Kd.v), (5, Kd.v), (9, Kd.i .i64), (10, Kd.i .i64), (11, Kd.i .i64)])) Ann.nil (Ann.node none Ann.nil (Ann.node none Ann.nil (Ann.node none (Ann.node none Ann.nil (Ann.node (some (2, [(3, Kd.v), (5, Kd.v), (9, Kd.i .i64), (10, Kd.i .i64), (12, Kd.b), (16, Kd.b), (108, Kd.b)])) (Ann.node none Ann.nil Ann.nil) Ann.nil)) (Ann.node (some (5, [(3, Kd.v), (5, Kd.v), (9, Kd.i .i64), (10, Kd.i .i64), (12, Kd.b), (16, Kd.b)])) Ann.nil (Ann.node none (Ann.node none Ann.nil (Ann.node none (Ann.node (some (3, [(3, Kd.v), (5, Kd.v), (9, Kd.i .i64), (10, Kd.i .i64), (12, Kd.b), (16, Kd.b), (18, Kd.b), (19, Kd.i .i64)])) (Ann.node none (Ann.node none Ann.nil (Ann.node none Ann.nil Ann.nil)) (Ann.node none (Ann.node none Ann.nil Ann.nil) Ann.nil)) Ann.nil) Ann.nil)) (Ann.node (some (4, [(3, Kd.v), (5, Kd.v), (9, Kd.i .i64), (12, Kd.b), (16, Kd.b), (18, Kd.b)])) (Ann.node none Ann.nil (Ann.node none (Ann.node none Ann.nil Ann.nil) Ann.nil)) (Ann.node none (Ann.node none Ann.nil (Ann.node none (Ann.node none Ann.nil Ann.nil) Ann.nil)) (Ann.node none Ann.nil (Ann.node none Ann.nil (Ann.node none Ann.nil Ann.nil)))))))))))))))))
noncomputable def P14x4 (S : Sg) (r3 : Value) (r5 : Value) (r9 : Int) (r12 : Bool) (r16 : Bool) (r18 : Bool) (h : Hp) : CRes :=
  optK (binV env .neq 4 (Operand.tmp 126) (Operand.tmp 127) (Value.bool r16) (Value.bool r18)) fun v0 =>
  boolK v0 fun b1 =>
  ifB b1
  (some ((Value.bool false), h))
  (ptrAddK 2 r3 fun v2 =>
  load1K h v2 fun v3 =>
  lenSK v3 fun i4 =>
  boolZ (eqZ i4 (Int.ofNat 1)) fun b5 =>
  ifB b5
  (pairK (optK (FM22 [] h) fun v => some (v, h)) fun v6 h6 =>
  boolK v6 fun b7 =>
  some ((Value.bool b7), h6))
  (loadNK 3 (Hp.mk (Hp.next h) (Hp.next h) (Hp.objs h)) r3 fun v8 =>
  leftK v8 (Hp.next h) (Hp.mk (Hp.next h) (Hp.next h) (Hp.objs h)) fun w9 n9 =>
  ptrAddK 2 r3 fun v10 =>
  leftK v10 n9 (Hp.mk n9 n9 T.nil) fun w11 n11 =>
  load1K (Hp.mk n11 n11 (addAll w11 (Hp.objs h))) v10 fun v12 =>
  leftK v12 n11 (Hp.mk n11 n11 (addAll w11 (Hp.objs h))) fun w13 n13 =>
  lenSK v12 fun i14 =>
  pairK (optK (F50 [(Value.int .i64 i14)] (Hp.mk n13 n13 (addAll w13 (addAll w11 (Hp.objs h))))) fun v => some (v, (Hp.mk n13 n13 (addAll w13 (addAll w11 (Hp.objs h)))))) fun v15 h15 =>
  intK .i64 v15 fun i16 =>
  wrap64 (Int.sub i16 (Int.ofNat 1)) fun i17 =>
  idxAK 2 1 r5 (Int.ofNat 1) fun v18 =>
  leftK v18 n13 (Hp.mk n13 n13 T.nil) fun w19 n19 =>
  load1K (Hp.mk n19 n19 (addAll w19 (Hp.objs h))) v18 fun v20 =>
  intK .u8 v20 fun i21 =>
  wrap64 i21 fun i22 =>
  ptrAddK 2 r3 fun v23 =>
  leftK v23 n19 (Hp.mk n19 n19 T.nil) fun w24 n24 =>
  load1K (Hp.mk n24 n24 (addAll w24 (Hp.objs h))) v23 fun v25 =>
  leftK v25 n24 (Hp.mk n24 n24 (addAll w24 (Hp.objs h))) fun w26 n26 =>
  lenSK v25 fun i27 =>
  slowI .i64 (binW env .rem 3 (Value.int .i64 i22) (Value.int .i64 i27)) fun i28 =>
  pairK (optK (F50 [(Value.int .i64 i28)] (Hp.mk n26 n26 (addAll w26 (addAll w24 (addAll w19 (addAll w13 (addAll w11 (Hp.objs h)))))))) fun v => some (v, (Hp.mk n26 n26 (addAll w26 (addAll w24 (addAll w19 (addAll w13 (addAll w11 (Hp.objs h))))))))) fun v29 h29 =>
  intK .i64 v29 fun i30 =>
  wrap64 (Int.sub i17 i30) fun i31 =>
  pairK (callQ F51 [v8, (Value.int .i64 i31)] (Hp.mk n26 n26 (addAll w26 (addAll w24 (addAll w19 (addAll w13 (addAll w11 (addAll w9 (Hp.objs h))))))))) fun v32 h32 =>
  leftK v32 n26 h32 fun w33 n33 =>
  allocK (Hp.mk n33 n33 T.nil) 25 [(Value.int .i64 (Int.ofNat 0)), (Value.slice none 0 0), (Value.slice none 0 0)] fun a34 h34 =>
  leftK a34 n33 h34 fun w35 n35 =>
  storeNK 3 (Hp.mk n35 (Hp.ro h) (addAll w35 (addAll w33 (addAll w26 (addAll w24 (addAll w19 (addAll w13 (addAll w11 (addAll w9 (Hp.objs h)))))))))) a34 v32 fun h36 =>
  loadNK 3 h36 a34 fun v37 =>
  pairK (callQ F18 [v37, (Value.int .i64 r9)] h36) fun v38 h38 =>
  extK v38 0 fun v39 =>
  boolK v39 fun b40 =>
  extK v38 1 fun v41 =>
  intK .i64 v41 fun i42 =>
  boolZ (eqZ i42 (Int.ofNat 0)) fun b43 =>
  ifB b43
  (boolN r12 fun b44 =>
  ifB b44
  (pairK (optK (FM22 [] h38) fun v => some (v, h38)) fun v45 h45 =>
  boolK v45 fun b46 =>
  some ((Value.bool b46), h45))
  (ifB b40
  (pairK (optK (FM22 [] h38) fun v => some (v, h38)) fun v47 h47 =>
  boolK v47 fun b48 =>
  some ((Value.bool b48), h47))
  (some ((Value.bool false), h38))))
  (some ((Value.bool false), h38))))
noncomputable def P14x3 (S : Sg) (r3 : Value) (r5 : Value) (r9 : Int) (r10 : Int) (r12 : Bool) (r16 : Bool) (r18 : Bool) (r19 : Int) (h : Hp) : CRes :=
  ptrAddK 2 r3 fun v0 =>
  load1K h v0 fun v1 =>
  lenSK v1 fun i2 =>
  boolZ (ltZ r19 i2) fun b3 =>
  ifB b3
  (ifB r18
  (ptrAddK 2 r3 fun v4 =>
  load1K h v4 fun v5 =>
  idxSK 1 v5 r19 fun v6 =>
  load1K h v6 fun v7 =>
  intK .i64 v7 fun i8 =>
  pairK (optK (F42 [(Value.int .i64 i8), (Value.int .i64 r10)] h) fun v => some (v, h)) fun v9 h9 =>
  boolK v9 fun b10 =>
  wrap64 (Int.add r19 (Int.ofNat 1)) fun i11 =>
  S 3 (AL.v r3 (AL.v r5 (AL.i r9 (AL.i r10 (AL.b r12 (AL.b r16 (AL.b b10 (AL.i i11 AL.n)))))))) h9)
  (wrap64 (Int.add r19 (Int.ofNat 1)) fun i12 =>
  S 3 (AL.v r3 (AL.v r5 (AL.i r9 (AL.i r10 (AL.b r12 (AL.b r16 (AL.b false (AL.i i12 AL.n)))))))) h))
  (S 4 (AL.v r3 (AL.v r5 (AL.i r9 (AL.b r12 (AL.b r16 (AL.b r18 AL.n)))))) h)
noncomputable def P14x5 (S : Sg) (r3 : Value) (r5 : Value) (r9 : Int) (r10 : Int) (r12 : Bool) (r16 : Bool) (h : Hp) : CRes :=
  S 3 (AL.v r3 (AL.v r5 (AL.i r9 (AL.i r10 (AL.b r12 (AL.b r16 (AL.b true (AL.i (Int.ofNat 0) AL.n)))))))) h
noncomputable def P14x2 (S : Sg) (r3 : Value) (r5 : Value) (r9 : Int) (r10 : Int) (r12 : Bool) (r16 : Bool) (r108 : Bool) (h : Hp) : CRes :=
  ifB r108
  (some ((Value.bool false), h))
  (S 5 (AL.v r3 (AL.v r5 (AL.i r9 (AL.i r10 (AL.b r12 (AL.b r16 AL.n)))))) h)
noncomputable def P14x6 (S : Sg) (r3 : Value) (r5 : Value) (r9 : Int) (r10 : Int) (r11 : Int) (h : Hp) : CRes :=
  loadNK 3 h r3 fun v0 =>
  pairK (callQ F18 [v0, (Value.int .i64 r9)] h) fun v1 h1 =>
  extK v1 0 fun v2 =>
  boolK v2 fun b3 =>
  extK v1 1 fun v4 =>
  intK .i64 v4 fun i5 =>
  loadNK 3 h1 r3 fun v6 =>
  pairK (callQ F18 [v6, (Value.int .i64 r11)] h1) fun v7 h7 =>
  extK v7 0 fun v8 =>
  boolK v8 fun b9 =>
  extK v7 1 fun v10 =>
  intK .i64 v10 fun i11 =>
  loadNK 3 h7 r3 fun v12 =>
  pairK (pairK (optK (F50 [(Value.int .i64 r10)] (Hp.mk (Hp.next h7) (Hp.next h7) (Hp.objs h7))) fun v => some (v, (Hp.mk (Hp.next h7) (Hp.next h7) (Hp.objs h7)))) fun v _ => ifB (plainK v) (some (v, h7)) none) fun v13 h13 =>
  intK .i64 v13 fun i14 =>
  pairK (pairK (callQ F18 [v12, (Value.int .i64 i14)] (Hp.mk (Hp.next h13) (Hp.next h13) (Hp.objs h13))) fun v _ => ifB (plainK v) (some (v, h13)) none) fun v15 h15 =>
  extK v15 0 fun v16 =>
  boolK v16 fun b17 =>
  extK v15 1 fun v18 =>
  intK .i64 v18 fun i19 =>
  boolN (eqZ i5 (Int.ofNat 0)) fun b20 =>
  ifB b20
  (S 2 (AL.v r3 (AL.v r5 (AL.i r9 (AL.i r10 (AL.b b3 (AL.b b17 (AL.b true AL.n))))))) h15)
  (boolN (eqZ i11 (Int.ofNat 0)) fun b21 =>
  ifB b21
  (S 2 (AL.v r3 (AL.v r5 (AL.i r9 (AL.i r10 (AL.b b3 (AL.b b17 (AL.b true AL.n))))))) h15)
  (boolN (eqZ i19 (Int.ofNat 0)) fun b22 =>
  ifB b22
  (S 2 (AL.v r3 (AL.v r5 (AL.i r9 (AL.i r10 (AL.b b3 (AL.b b17 (AL.b true AL.n))))))) h15)
  (ifB b3
  (boolN b9 fun b23 =>
  S 2 (AL.v r3 (AL.v r5 (AL.i r9 (AL.i r10 (AL.b b3 (AL.b b17 (AL.b b23 AL.n))))))) h15)
  (S 2 (AL.v r3 (AL.v r5 (AL.i r9 (AL.i r10 (AL.b b3 (AL.b b17 (AL.b false AL.n))))))) h15))))
noncomputable def P14x7 (S : Sg) (r1 : Int) (r3 : Value) (r5 : Value) (h : Hp) : CRes :=
  wrap64 r1 fun i0 =>
  ptrAddK 1 r3 fun v1 =>
  load1K h v1 fun v2 =>
  lenSK v2 fun i3 =>
  pairK (optK (F50 [(Value.int .i64 i3)] h) fun v => some (v, h)) fun v4 h4 =>
  intK .i64 v4 fun i5 =>
  slowI .i64 (binW env .rem 3 (Value.int .i64 i0) (Value.int .i64 i5)) fun i6 =>
  idxAK 2 1 r5 (Int.ofNat 0) fun v7 =>
  load1K h4 v7 fun v8 =>
  intK .u8 v8 fun i9 =>
  wrap64 i9 fun i10 =>
  ptrAddK 1 r3 fun v11 =>
  load1K h4 v11 fun v12 =>
  lenSK v12 fun i13 =>
  slowI .i64 (binW env .rem 3 (Value.int .i64 i10) (Value.int .i64 i13)) fun i14 =>
  pairK (optK (F42 [(Value.int .i64 i6), (Value.int .i64 i14)] h4) fun v => some (v, h4)) fun v15 h15 =>
  boolK v15 fun b16 =>
  boolN b16 fun b17 =>
  ifB b17
  (pairK (optK (F50 [(Value.int .i64 i14)] h15) fun v => some (v, h15)) fun v18 h18 =>
  intK .i64 v18 fun i19 =>
  wrap64 (Int.add i6 i19) fun i20 =>
  S 6 (AL.v r3 (AL.v r5 (AL.i i6 (AL.i i14 (AL.i i20 AL.n))))) h18)
  (S 6 (AL.v r3 (AL.v r5 (AL.i i6 (AL.i i14 (AL.i i6 AL.n))))) h15)
noncomputable def P14x1 (S : Sg) (r1 : Int) (r3 : Value) (r5 : Value) (r31 : Bool) (h : Hp) : CRes :=
  ifB r31
  (loadNK 3 h r3 fun v0 =>
  pairK (callQ F18 [v0, (Value.int .i64 (Int.ofNat 0))] h) fun v1 h1 =>
  extK v1 0 fun v2 =>
  boolK v2 fun b3 =>
  extK v1 1 fun v4 =>
  intK .i64 v4 fun i5 =>
  boolN b3 fun b6 =>
  ifB b6
  (boolN (eqZ i5 (Int.ofNat 0)) fun b7 =>
  loadNK 3 h1 r3 fun v8 =>
  pairK (callQ F41 [v8] h1) fun v9 h9 =>
  boolK v9 fun b10 =>
  boolN b10 fun b11 =>
  optK (binV env .eql 4 (Operand.tmp 41) (Operand.tmp 44) (Value.bool b7) (Value.bool b11)) fun v12 =>
  boolK v12 fun b13 =>
  ifB b13
  (pairK (optK (FM22 [] h9) fun v => some (v, h9)) fun v14 h14 =>
  boolK v14 fun b15 =>
  some ((Value.bool b15), h14))
  (some ((Value.bool false), h9)))
  (some ((Value.bool false), h1)))
  (S 7 (AL.i r1 (AL.v r3 (AL.v r5 AL.n))) h)
noncomputable def P14x0 (S : Sg) (r0 : Value) (r1 : Int) (r2 : Value) (h : Hp) : CRes :=
  allocK h 25 (Array.toList (Value.cells r0)) fun a0 h0 =>
  allocK h0 73 (Array.toList (Value.cells r2)) fun a1 h1 =>
  loadNK 3 h1 a0 fun v2 =>
  pairK (callQ F41 [v2] h1) fun v3 h3 =>
  boolK v3 fun b4 =>
  boolN b4 fun b5 =>
  ifB b5
  (S 1 (AL.i r1 (AL.v a0 (AL.v a1 (AL.b true AL.n)))) h3)
  (ptrAddK 1 a0 fun v6 =>
  load1K h3 v6 fun v7 =>
  lenSK v7 fun i8 =>
  boolZ (eqZ i8 (Int.ofNat 0)) fun b9 =>
  S 1 (AL.i r1 (AL.v a0 (AL.v a1 (AL.b b9 AL.n)))) h3)
noncomputable def T14 (S : Sg) : Sg := tabC 0 (uV fun r0 => uI fun r1 => uV fun r2 => uN fun h => P14x0 S r0 r1 r2 h) (tabC 1 (uI fun r1 => uV fun r3 => uV fun r5 => uB fun r31 => uN fun h => P14x1 S r1 r3 r5 r31 h) (tabC 7 (uI fun r1 => uV fun r3 => uV fun r5 => uN fun h => P14x7 S r1 r3 r5 h) (tabC 6 (uV fun r3 => uV fun r5 => uI fun r9 => uI fun r10 => uI fun r11 => uN fun h => P14x6 S r3 r5 r9 r10 r11 h) (tabC 2 (uV fun r3 => uV fun r5 => uI fun r9 => uI fun r10 => uB fun r12 => uB fun r16 => uB fun r108 => uN fun h => P14x2 S r3 r5 r9 r10 r12 r16 r108 h) (tabC 5 (uV fun r3 => uV fun r5 => uI fun r9 => uI fun r10 => uB fun r12 => uB fun r16 => uN fun h => P14x5 S r3 r5 r9 r10 r12 r16 h) (tabC 3 (uV fun r3 => uV fun r5 => uI fun r9 => uI fun r10 => uB fun r12 => uB fun r16 => uB fun r18 => uI fun r19 => uN fun h => P14x3 S r3 r5 r9 r10 r12 r16 r18 r19 h) (tabC 4 (uV fun r3 => uV fun r5 => uI fun r9 => uB fun r12 => uB fun r16 => uB fun r18 => uN fun h => P14x4 S r3 r5 r9 r12 r16 r18 h) (tabN))))))))
noncomputable def F14 (args : List Value) (h : Hp) : CRes := packVals [Kd.v, Kd.i .u8, Kd.v] args fun al => rec' T14 1000000 0 al h
def nt14 : Nat := 3 + (168 - 3)
theorem q14x4 (S : Sg) (r3 : Value) (r5 : Value) (r9 : Int) (r12 : Bool) (r16 : Bool) (r18 : Bool) (h : Hp) : P14x4 S r3 r5 r9 r12 r16 r18 h = stepAt (regK env orc36 (nt14)) (finK env Tryz.f14.results.toList) (collect B14 A14 []) 4 S (AL.v r3 (AL.v r5 (AL.i r9 (AL.b r12 (AL.b r16 (AL.b r18 AL.n)))))) h := by kernel_rfl
theorem q14x3 (S : Sg) (r3 : Value) (r5 : Value) (r9 : Int) (r10 : Int) (r12 : Bool) (r16 : Bool) (r18 : Bool) (r19 : Int) (h : Hp) : P14x3 S r3 r5 r9 r10 r12 r16 r18 r19 h = stepAt (regK env orc36 (nt14)) (finK env Tryz.f14.results.toList) (collect B14 A14 []) 3 S (AL.v r3 (AL.v r5 (AL.i r9 (AL.i r10 (AL.b r12 (AL.b r16 (AL.b r18 (AL.i r19 AL.n)))))))) h := by kernel_rfl
theorem q14x5 (S : Sg) (r3 : Value) (r5 : Value) (r9 : Int) (r10 : Int) (r12 : Bool) (r16 : Bool) (h : Hp) : P14x5 S r3 r5 r9 r10 r12 r16 h = stepAt (regK env orc36 (nt14)) (finK env Tryz.f14.results.toList) (collect B14 A14 []) 5 S (AL.v r3 (AL.v r5 (AL.i r9 (AL.i r10 (AL.b r12 (AL.b r16 AL.n)))))) h := by kernel_rfl
theorem q14x2 (S : Sg) (r3 : Value) (r5 : Value) (r9 : Int) (r10 : Int) (r12 : Bool) (r16 : Bool) (r108 : Bool) (h : Hp) : P14x2 S r3 r5 r9 r10 r12 r16 r108 h = stepAt (regK env orc36 (nt14)) (finK env Tryz.f14.results.toList) (collect B14 A14 []) 2 S (AL.v r3 (AL.v r5 (AL.i r9 (AL.i r10 (AL.b r12 (AL.b r16 (AL.b r108 AL.n))))))) h := by kernel_rfl
theorem q14x6 (S : Sg) (r3 : Value) (r5 : Value) (r9 : Int) (r10 : Int) (r11 : Int) (h : Hp) : P14x6 S r3 r5 r9 r10 r11 h = stepAt (regK env orc36 (nt14)) (finK env Tryz.f14.results.toList) (collect B14 A14 []) 6 S (AL.v r3 (AL.v r5 (AL.i r9 (AL.i r10 (AL.i r11 AL.n))))) h := by kernel_rfl
theorem q14x7 (S : Sg) (r1 : Int) (r3 : Value) (r5 : Value) (h : Hp) : P14x7 S r1 r3 r5 h = stepAt (regK env orc36 (nt14)) (finK env Tryz.f14.results.toList) (collect B14 A14 []) 7 S (AL.i r1 (AL.v r3 (AL.v r5 AL.n))) h := by kernel_rfl
theorem q14x1 (S : Sg) (r1 : Int) (r3 : Value) (r5 : Value) (r31 : Bool) (h : Hp) : P14x1 S r1 r3 r5 r31 h = stepAt (regK env orc36 (nt14)) (finK env Tryz.f14.results.toList) (collect B14 A14 []) 1 S (AL.i r1 (AL.v r3 (AL.v r5 (AL.b r31 AL.n)))) h := by kernel_rfl
theorem q14x0 (S : Sg) (r0 : Value) (r1 : Int) (r2 : Value) (h : Hp) : P14x0 S r0 r1 r2 h = stepAt (regK env orc36 (nt14)) (finK env Tryz.f14.results.toList) (collect B14 A14 []) 0 S (AL.v r0 (AL.i r1 (AL.v r2 AL.n))) h := by kernel_rfl
theorem t14 (S : Sg) : Tab (fun l vs h => stepAt (regK env orc36 nt14) (finK env Tryz.f14.results.toList) (collect B14 A14 []) l S vs h) (T14 S) := by
  unfold T14
  refine Tab.cons 0 (fun vs0 h q e0 => ?_) ?_
  · obtain ⟨r0, vs1, rfl, e1⟩ := uV_some e0
    obtain ⟨r1, vs2, rfl, e2⟩ := uI_some e1
    obtain ⟨r2, vs3, rfl, e3⟩ := uV_some e2
    obtain ⟨rfl, ee⟩ := uN_some e3
    exact (q14x0 S r0 r1 r2 h).symm.trans ee
  refine Tab.cons 1 (fun vs0 h q e0 => ?_) ?_
  · obtain ⟨r1, vs1, rfl, e1⟩ := uI_some e0
    obtain ⟨r3, vs2, rfl, e2⟩ := uV_some e1
    obtain ⟨r5, vs3, rfl, e3⟩ := uV_some e2
    obtain ⟨r31, vs4, rfl, e4⟩ := uB_some e3
    obtain ⟨rfl, ee⟩ := uN_some e4
    exact (q14x1 S r1 r3 r5 r31 h).symm.trans ee
  refine Tab.cons 7 (fun vs0 h q e0 => ?_) ?_
  · obtain ⟨r1, vs1, rfl, e1⟩ := uI_some e0
    obtain ⟨r3, vs2, rfl, e2⟩ := uV_some e1
    obtain ⟨r5, vs3, rfl, e3⟩ := uV_some e2
    obtain ⟨rfl, ee⟩ := uN_some e3
    exact (q14x7 S r1 r3 r5 h).symm.trans ee
  refine Tab.cons 6 (fun vs0 h q e0 => ?_) ?_
  · obtain ⟨r3, vs1, rfl, e1⟩ := uV_some e0
    obtain ⟨r5, vs2, rfl, e2⟩ := uV_some e1
    obtain ⟨r9, vs3, rfl, e3⟩ := uI_some e2
    obtain ⟨r10, vs4, rfl, e4⟩ := uI_some e3
    obtain ⟨r11, vs5, rfl, e5⟩ := uI_some e4
    obtain ⟨rfl, ee⟩ := uN_some e5
    exact (q14x6 S r3 r5 r9 r10 r11 h).symm.trans ee
  refine Tab.cons 2 (fun vs0 h q e0 => ?_) ?_
  · obtain ⟨r3, vs1, rfl, e1⟩ := uV_some e0
    obtain ⟨r5, vs2, rfl, e2⟩ := uV_some e1
    obtain ⟨r9, vs3, rfl, e3⟩ := uI_some e2
    obtain ⟨r10, vs4, rfl, e4⟩ := uI_some e3
    obtain ⟨r12, vs5, rfl, e5⟩ := uB_some e4
    obtain ⟨r16, vs6, rfl, e6⟩ := uB_some e5
    obtain ⟨r108, vs7, rfl, e7⟩ := uB_some e6
    obtain ⟨rfl, ee⟩ := uN_some e7
    exact (q14x2 S r3 r5 r9 r10 r12 r16 r108 h).symm.trans ee
  refine Tab.cons 5 (fun vs0 h q e0 => ?_) ?_
  · obtain ⟨r3, vs1, rfl, e1⟩ := uV_some e0
    obtain ⟨r5, vs2, rfl, e2⟩ := uV_some e1
    obtain ⟨r9, vs3, rfl, e3⟩ := uI_some e2
    obtain ⟨r10, vs4, rfl, e4⟩ := uI_some e3
    obtain ⟨r12, vs5, rfl, e5⟩ := uB_some e4
    obtain ⟨r16, vs6, rfl, e6⟩ := uB_some e5
    obtain ⟨rfl, ee⟩ := uN_some e6
    exact (q14x5 S r3 r5 r9 r10 r12 r16 h).symm.trans ee
  refine Tab.cons 3 (fun vs0 h q e0 => ?_) ?_
  · obtain ⟨r3, vs1, rfl, e1⟩ := uV_some e0
    obtain ⟨r5, vs2, rfl, e2⟩ := uV_some e1
    obtain ⟨r9, vs3, rfl, e3⟩ := uI_some e2
    obtain ⟨r10, vs4, rfl, e4⟩ := uI_some e3
    obtain ⟨r12, vs5, rfl, e5⟩ := uB_some e4
    obtain ⟨r16, vs6, rfl, e6⟩ := uB_some e5
    obtain ⟨r18, vs7, rfl, e7⟩ := uB_some e6
    obtain ⟨r19, vs8, rfl, e8⟩ := uI_some e7
    obtain ⟨rfl, ee⟩ := uN_some e8
    exact (q14x3 S r3 r5 r9 r10 r12 r16 r18 r19 h).symm.trans ee
  refine Tab.cons 4 (fun vs0 h q e0 => ?_) ?_
  · obtain ⟨r3, vs1, rfl, e1⟩ := uV_some e0
    obtain ⟨r5, vs2, rfl, e2⟩ := uV_some e1
    obtain ⟨r9, vs3, rfl, e3⟩ := uI_some e2
    obtain ⟨r12, vs4, rfl, e4⟩ := uB_some e3
    obtain ⟨r16, vs5, rfl, e5⟩ := uB_some e4
    obtain ⟨r18, vs6, rfl, e6⟩ := uB_some e5
    obtain ⟨rfl, ee⟩ := uN_some e6
    exact (q14x4 S r3 r5 r9 r12 r16 r18 h).symm.trans ee
  exact Tab.nil
theorem r14 : ∀ args h v h', F14 args h = some (v, h') → Runs (C36) (.call 14 args.toArray h) (.ret v h') := by
  intro args h v h' e
  exact fun_sound (C := C36) (fn := Tryz.f14) (body := B14) (np := 3) (A := A14) (T := T14) (kinds := [Kd.v, Kd.i .u8, Kd.v]) (by kernel_rfl) (by kernel_rfl) (by kernel_rfl) (by kernel_rfl) (regK_ok env_ok) (by kernel_rfl) (fun S => t14 S) e
noncomputable def orc37 := orcQ 14 F14 orc36
noncomputable def C37 : Cfg := cfg orc37
theorem ok37 : C37.Ok := orcQ_ok (C := C36) ok36 r14
noncomputable abbrev orcLaw := orc37
theorem okLaw : (cfg orcLaw).Ok := ok37
end Go.Proofs.YtpjflnjlmjnmjaaGreatDoor.K.L
