/- Functions told, first part. -/
import Derived.Test.YtgggdoahikgacaaGreatDoorTab
open Go Go.Eng
set_option maxRecDepth 100000
set_option linter.unusedVariables false
namespace Go.Proofs.YtgggdoahikgacaaGreatDoor.K
/-! (ceroplast/mould.look).left -/
noncomputable def B36 : Code := (Tryz.f36.body).getD .skip
noncomputable def A36 : G.Ann (List KI) := (G.Ann.node (some (0, [KI.reg 0 (Kd.v), KI.reg 1 (Kd.v), KI.reg 2 (Kd.i .i64), KI.reg 3 (Kd.i .i64), KI.reg 4 (Kd.i .i64)])) G.Ann.nil (G.Ann.node none G.Ann.nil (G.Ann.node none (G.Ann.node none G.Ann.nil (G.Ann.node none (G.Ann.node (some (1, [KI.reg 2 (Kd.i .i64), KI.reg 3 (Kd.i .i64), KI.reg 4 (Kd.i .i64), KI.loc 6 6, KI.loc 10 10, KI.loc 11 11, KI.reg 26 (Kd.v), KI.reg 27 (Kd.i .i64), KI.reg 28 (Kd.i .i64), KI.list 6, KI.cells 10 [Kd.i .i64, Kd.i .i64], KI.cells 11 [Kd.i .i64, Kd.i .i64]])) (G.Ann.node none G.Ann.nil (G.Ann.node none (G.Ann.node none G.Ann.nil G.Ann.nil) (G.Ann.node none (G.Ann.node none (G.Ann.node none G.Ann.nil (G.Ann.node none (G.Ann.node none G.Ann.nil (G.Ann.node none G.Ann.nil G.Ann.nil)) (G.Ann.node (some (2, [KI.reg 2 (Kd.i .i64), KI.reg 3 (Kd.i .i64), KI.reg 4 (Kd.i .i64), KI.loc 6 6, KI.loc 10 10, KI.loc 11 11, KI.reg 12 (Kd.i .i64), KI.loc 13 13, KI.reg 26 (Kd.v), KI.reg 27 (Kd.i .i64), KI.reg 28 (Kd.i .i64), KI.list 6, KI.cells 10 [Kd.i .i64, Kd.i .i64], KI.cells 11 [Kd.i .i64, Kd.i .i64], KI.cells 13 [Kd.v, Kd.v]])) G.Ann.nil (G.Ann.node none (G.Ann.node none G.Ann.nil (G.Ann.node none G.Ann.nil (G.Ann.node none G.Ann.nil (G.Ann.node none G.Ann.nil G.Ann.nil)))) G.Ann.nil)))) G.Ann.nil) (G.Ann.node (some (3, [KI.reg 2 (Kd.i .i64), KI.reg 3 (Kd.i .i64), KI.reg 4 (Kd.i .i64), KI.loc 6 6, KI.loc 10 10, KI.loc 11 11, KI.reg 26 (Kd.v), KI.reg 27 (Kd.i .i64), KI.reg 28 (Kd.i .i64), KI.list 6, KI.cells 10 [Kd.i .i64, Kd.i .i64], KI.cells 11 [Kd.i .i64, Kd.i .i64]])) G.Ann.nil G.Ann.nil)))) G.Ann.nil) G.Ann.nil)) (G.Ann.node (some (4, [KI.loc 10 10, KI.loc 11 11, KI.cells 10 [Kd.i .i64, Kd.i .i64], KI.cells 11 [Kd.i .i64, Kd.i .i64]])) G.Ann.nil G.Ann.nil))))
noncomputable def P36x4 (h : Hp) (S : Nat → PAL → Option Value) (c10x0 : Int) (c10x1 : Int) (c11x0 : Int) (c11x1 : Int) : Option Value :=
  aggK (Value.agg (Array.mk [(Value.int .i64 c11x0), (Value.int .i64 c11x1)])) fun l0 => ifB (Nat.beq (lenR l0) 2) (segR 0 l0 [(Value.int .i64 c10x0), (Value.int .i64 c10x1)] fun c0 =>
  dropR c0 0 fun d1 => takeR d1 2 fun l1 => some (Value.agg (Array.mk l1))) none
noncomputable def P36x3 (h : Hp) (S : Nat → PAL → Option Value) (r2 : Int) (r3 : Int) (r4 : Int) (r26 : Value) (r27 : Int) (r28 : Int) (c6 : List Value) (c10x0 : Int) (c10x1 : Int) (c11x0 : Int) (c11x1 : Int) : Option Value :=
  wrap64 (Int.add r28 (Int.ofNat 1)) fun i0 =>
  S 1 (PAL.i r2 (PAL.i r3 (PAL.i r4 (PAL.v r26 (PAL.i r27 (PAL.i i0 (PAL.l c6 (PAL.i c10x0 (PAL.i c10x1 (PAL.i c11x0 (PAL.i c11x1 PAL.n)))))))))))
noncomputable def P36x2 (h : Hp) (S : Nat → PAL → Option Value) (r2 : Int) (r3 : Int) (r4 : Int) (r12 : Int) (r26 : Value) (r27 : Int) (r28 : Int) (c6 : List Value) (c10x0 : Int) (c10x1 : Int) (c11x0 : Int) (c11x1 : Int) (c13x0 : Value) (c13x1 : Value) : Option Value :=
  idxSK 1 c13x1 r4 fun v0 =>
  load1K h v0 fun v1 =>
  intK .i64 v1 fun i2 =>
  boolZ (eqZ i2 (Int.ofNat 1)) fun b3 =>
  ifB b3
  (onI r12 (fun n4 => ifB (Nat.ble (Nat.succ n4) 4) (forceN (Nat.add 0 (Nat.mul n4 2)) fun o4 =>
  nthR c6 (Nat.add o4 1) fun v5 =>
  intK .i64 v5 fun i6 =>
  maxZ c11x0 i6 fun i7 =>
  S 3 (PAL.i r2 (PAL.i r3 (PAL.i r4 (PAL.v r26 (PAL.i r27 (PAL.i r28 (PAL.l c6 (PAL.i c10x0 (PAL.i c10x1 (PAL.i i7 (PAL.i c11x1 PAL.n)))))))))))) none) (fun _ => none))
  (boolZ (eqZ i2 (Int.ofNat 2)) fun b8 =>
  ifB b8
  (onI r12 (fun n9 => ifB (Nat.ble (Nat.succ n9) 4) (forceN (Nat.add 0 (Nat.mul n9 2)) fun o9 =>
  nthR c6 (Nat.add o9 1) fun v10 =>
  intK .i64 v10 fun i11 =>
  wrap64 (Int.sub i11 (Int.ofNat 1)) fun i12 =>
  minZ c11x1 i12 fun i13 =>
  S 3 (PAL.i r2 (PAL.i r3 (PAL.i r4 (PAL.v r26 (PAL.i r27 (PAL.i r28 (PAL.l c6 (PAL.i c10x0 (PAL.i c10x1 (PAL.i c11x0 (PAL.i i13 PAL.n)))))))))))) none) (fun _ => none))
  (S 3 (PAL.i r2 (PAL.i r3 (PAL.i r4 (PAL.v r26 (PAL.i r27 (PAL.i r28 (PAL.l c6 (PAL.i c10x0 (PAL.i c10x1 (PAL.i c11x0 (PAL.i c11x1 PAL.n)))))))))))))
noncomputable def P36x1 (h : Hp) (S : Nat → PAL → Option Value) (r2 : Int) (r3 : Int) (r4 : Int) (r26 : Value) (r27 : Int) (r28 : Int) (c6 : List Value) (c10x0 : Int) (c10x1 : Int) (c11x0 : Int) (c11x1 : Int) : Option Value :=
  boolZ (ltZ r28 r27) fun b0 =>
  ifB b0
  (idxSK 2 r26 r28 fun v1 =>
  loadNK 2 h v1 fun v2 =>
  aggK v2 fun l3 => ifB (Nat.beq (lenR l3) 2) (segR 0 l3 [(Value.string (ByteArray.mk #[])), (Value.slice none 0 0)] fun c3 =>
  shrZ .i64 r2 r28 (shrI (binW env .shr 3 (Value.int .i64 r2) (Value.int .i64 r28)) (Value.int .i64 r2) (Value.int .i64 r28)) fun i4 =>
  andZ .i64 i4 (Int.ofNat 1) (andI (binW env .and 3 (Value.int .i64 i4) (Value.int .i64 (Int.ofNat 1))) (Value.int .i64 i4) (Value.int .i64 (Int.ofNat 1))) fun i5 =>
  boolZ (eqZ i5 (Int.ofNat 1)) fun b6 =>
  ifB b6
  (S 3 (PAL.i r2 (PAL.i r3 (PAL.i r4 (PAL.v r26 (PAL.i r27 (PAL.i r28 (PAL.l c6 (PAL.i c10x0 (PAL.i c10x1 (PAL.i c11x0 (PAL.i c11x1 PAL.n))))))))))))
  (onI r28 (fun n7 => ifB (Nat.ble (Nat.succ n7) 4) (forceN (Nat.add 0 (Nat.mul n7 2)) fun o7 =>
  nthR c6 (Nat.add o7 0) fun v8 =>
  intK .i64 v8 fun i9 =>
  boolN (eqZ i9 r3) fun b10 =>
  ifB b10
  (S 3 (PAL.i r2 (PAL.i r3 (PAL.i r4 (PAL.v r26 (PAL.i r27 (PAL.i r28 (PAL.l c6 (PAL.i c10x0 (PAL.i c10x1 (PAL.i c11x0 (PAL.i c11x1 PAL.n))))))))))))
  (unconsK c3 fun a11 c11 =>
  unconsK c11 fun a12 c12 =>
  nilK c12 (S 2 (PAL.i r2 (PAL.i r3 (PAL.i r4 (PAL.i r28 (PAL.v r26 (PAL.i r27 (PAL.i r28 (PAL.l c6 (PAL.i c10x0 (PAL.i c10x1 (PAL.i c11x0 (PAL.i c11x1 (PAL.v a11 (PAL.v a12 PAL.n))))))))))))))))) none) (fun _ => none))) none)
  (S 4 (PAL.i c10x0 (PAL.i c10x1 (PAL.i c11x0 (PAL.i c11x1 PAL.n)))))
noncomputable def P36x0 (h : Hp) (S : Nat → PAL → Option Value) (r0 : Value) (r1 : Value) (r2 : Int) (r3 : Int) (r4 : Int) : Option Value :=
  forceL (Array.toList (Value.cells r0)) fun c0 =>
  forceL (Array.toList (Value.cells r1)) fun c1 =>
  nthR c0 1 fun v2 =>
  idxSK 3 v2 r3 fun v3 =>
  ptrAddK 2 v3 fun v4 =>
  load1K h v4 fun v5 =>
  idxSK 2 v5 r4 fun v6 =>
  loadNK 2 h v6 fun v7 =>
  aggK v7 fun l8 => ifB (Nat.beq (lenR l8) 2) (segR 0 l8 [(Value.int .i64 (Int.ofNat 0)), (Value.int .i64 (Int.ofNat 0))] fun c8 =>
  nthR c0 2 fun v9 =>
  lenSK v9 fun i10 =>
  unconsK c8 fun a11 c11 =>
  intK .i64 a11 fun i12 =>
  unconsK c11 fun a13 c13 =>
  intK .i64 a13 fun i14 =>
  nilK c13 (S 1 (PAL.i r2 (PAL.i r3 (PAL.i r4 (PAL.v v9 (PAL.i i10 (PAL.i (Int.ofNat 0) (PAL.l c1 (PAL.i (Int.ofNat 0) (PAL.i (Int.ofNat 0) (PAL.i i12 (PAL.i i14 PAL.n))))))))))))) none
noncomputable def T36 (h : Hp) (S : Nat → PAL → Option Value) : Nat → PAL → Option Value := tabPC 0 (wV fun r0 => wV fun r1 => wI fun r2 => wI fun r3 => wI fun r4 => wN (P36x0 h S r0 r1 r2 r3 r4)) (tabPC 1 (wI fun r2 => wI fun r3 => wI fun r4 => wV fun r26 => wI fun r27 => wI fun r28 => wL fun c6 => wI fun c10x0 => wI fun c10x1 => wI fun c11x0 => wI fun c11x1 => wN (P36x1 h S r2 r3 r4 r26 r27 r28 c6 c10x0 c10x1 c11x0 c11x1)) (tabPC 2 (wI fun r2 => wI fun r3 => wI fun r4 => wI fun r12 => wV fun r26 => wI fun r27 => wI fun r28 => wL fun c6 => wI fun c10x0 => wI fun c10x1 => wI fun c11x0 => wI fun c11x1 => wV fun c13x0 => wV fun c13x1 => wN (P36x2 h S r2 r3 r4 r12 r26 r27 r28 c6 c10x0 c10x1 c11x0 c11x1 c13x0 c13x1)) (tabPC 3 (wI fun r2 => wI fun r3 => wI fun r4 => wV fun r26 => wI fun r27 => wI fun r28 => wL fun c6 => wI fun c10x0 => wI fun c10x1 => wI fun c11x0 => wI fun c11x1 => wN (P36x3 h S r2 r3 r4 r26 r27 r28 c6 c10x0 c10x1 c11x0 c11x1)) (tabPC 4 (wI fun c10x0 => wI fun c10x1 => wI fun c11x0 => wI fun c11x1 => wN (P36x4 h S c10x0 c10x1 c11x0 c11x1)) (tabPN)))))
noncomputable def F36 (args : List Value) (h : Hp) : Option Value := plainO (packArgs [Kd.v, Kd.v, Kd.i .i64, Kd.i .i64, Kd.i .i64] args fun al => G.rec' (T36 h) 1000000 0 al)
def nt36 : Nat := 5 + (74 - 5)
theorem q36x4 (h : Hp) (S : Nat → PAL → Option Value) (c10x0 : Int) (c10x1 : Int) (c11x0 : Int) (c11x1 : Int) : P36x4 h S c10x0 c10x1 c11x0 c11x1 = G.stepAt packP unpackP evXV (regP env pf0 nt36 h) (finP env Tryz.f36.results.toList) (G.collect B36 A36 []) 4 S (PAL.i c10x0 (PAL.i c10x1 (PAL.i c11x0 (PAL.i c11x1 PAL.n)))) := by kernel_rfl
theorem q36x3 (h : Hp) (S : Nat → PAL → Option Value) (r2 : Int) (r3 : Int) (r4 : Int) (r26 : Value) (r27 : Int) (r28 : Int) (c6 : List Value) (c10x0 : Int) (c10x1 : Int) (c11x0 : Int) (c11x1 : Int) : P36x3 h S r2 r3 r4 r26 r27 r28 c6 c10x0 c10x1 c11x0 c11x1 = G.stepAt packP unpackP evXV (regP env pf0 nt36 h) (finP env Tryz.f36.results.toList) (G.collect B36 A36 []) 3 S (PAL.i r2 (PAL.i r3 (PAL.i r4 (PAL.v r26 (PAL.i r27 (PAL.i r28 (PAL.l c6 (PAL.i c10x0 (PAL.i c10x1 (PAL.i c11x0 (PAL.i c11x1 PAL.n))))))))))) := by kernel_rfl
theorem q36x2 (h : Hp) (S : Nat → PAL → Option Value) (r2 : Int) (r3 : Int) (r4 : Int) (r12 : Int) (r26 : Value) (r27 : Int) (r28 : Int) (c6 : List Value) (c10x0 : Int) (c10x1 : Int) (c11x0 : Int) (c11x1 : Int) (c13x0 : Value) (c13x1 : Value) : P36x2 h S r2 r3 r4 r12 r26 r27 r28 c6 c10x0 c10x1 c11x0 c11x1 c13x0 c13x1 = G.stepAt packP unpackP evXV (regP env pf0 nt36 h) (finP env Tryz.f36.results.toList) (G.collect B36 A36 []) 2 S (PAL.i r2 (PAL.i r3 (PAL.i r4 (PAL.i r12 (PAL.v r26 (PAL.i r27 (PAL.i r28 (PAL.l c6 (PAL.i c10x0 (PAL.i c10x1 (PAL.i c11x0 (PAL.i c11x1 (PAL.v c13x0 (PAL.v c13x1 PAL.n)))))))))))))) := by kernel_rfl
theorem q36x1 (h : Hp) (S : Nat → PAL → Option Value) (r2 : Int) (r3 : Int) (r4 : Int) (r26 : Value) (r27 : Int) (r28 : Int) (c6 : List Value) (c10x0 : Int) (c10x1 : Int) (c11x0 : Int) (c11x1 : Int) : P36x1 h S r2 r3 r4 r26 r27 r28 c6 c10x0 c10x1 c11x0 c11x1 = G.stepAt packP unpackP evXV (regP env pf0 nt36 h) (finP env Tryz.f36.results.toList) (G.collect B36 A36 []) 1 S (PAL.i r2 (PAL.i r3 (PAL.i r4 (PAL.v r26 (PAL.i r27 (PAL.i r28 (PAL.l c6 (PAL.i c10x0 (PAL.i c10x1 (PAL.i c11x0 (PAL.i c11x1 PAL.n))))))))))) := by kernel_rfl
theorem q36x0 (h : Hp) (S : Nat → PAL → Option Value) (r0 : Value) (r1 : Value) (r2 : Int) (r3 : Int) (r4 : Int) : P36x0 h S r0 r1 r2 r3 r4 = G.stepAt packP unpackP evXV (regP env pf0 nt36 h) (finP env Tryz.f36.results.toList) (G.collect B36 A36 []) 0 S (PAL.v r0 (PAL.v r1 (PAL.i r2 (PAL.i r3 (PAL.i r4 PAL.n))))) := by kernel_rfl
theorem t36 (h : Hp) (S : Nat → PAL → Option Value) : TabP (fun l al => G.stepAt packP unpackP evXV (regP env pf0 nt36 h) (finP env Tryz.f36.results.toList) (G.collect B36 A36 []) l S al) (T36 h S) := by
  unfold T36
  refine TabP.cons 0 (fun vs0 q e0 => ?_) ?_
  · obtain ⟨r0, vs1, rfl, e1⟩ := wV_some e0
    obtain ⟨r1, vs2, rfl, e2⟩ := wV_some e1
    obtain ⟨r2, vs3, rfl, e3⟩ := wI_some e2
    obtain ⟨r3, vs4, rfl, e4⟩ := wI_some e3
    obtain ⟨r4, vs5, rfl, e5⟩ := wI_some e4
    obtain ⟨rfl, ee⟩ := wN_some e5
    exact (q36x0 h S r0 r1 r2 r3 r4).symm.trans ee
  refine TabP.cons 1 (fun vs0 q e0 => ?_) ?_
  · obtain ⟨r2, vs1, rfl, e1⟩ := wI_some e0
    obtain ⟨r3, vs2, rfl, e2⟩ := wI_some e1
    obtain ⟨r4, vs3, rfl, e3⟩ := wI_some e2
    obtain ⟨r26, vs4, rfl, e4⟩ := wV_some e3
    obtain ⟨r27, vs5, rfl, e5⟩ := wI_some e4
    obtain ⟨r28, vs6, rfl, e6⟩ := wI_some e5
    obtain ⟨c6, vs7, rfl, e7⟩ := wL_some e6
    obtain ⟨c10x0, vs8, rfl, e8⟩ := wI_some e7
    obtain ⟨c10x1, vs9, rfl, e9⟩ := wI_some e8
    obtain ⟨c11x0, vs10, rfl, e10⟩ := wI_some e9
    obtain ⟨c11x1, vs11, rfl, e11⟩ := wI_some e10
    obtain ⟨rfl, ee⟩ := wN_some e11
    exact (q36x1 h S r2 r3 r4 r26 r27 r28 c6 c10x0 c10x1 c11x0 c11x1).symm.trans ee
  refine TabP.cons 2 (fun vs0 q e0 => ?_) ?_
  · obtain ⟨r2, vs1, rfl, e1⟩ := wI_some e0
    obtain ⟨r3, vs2, rfl, e2⟩ := wI_some e1
    obtain ⟨r4, vs3, rfl, e3⟩ := wI_some e2
    obtain ⟨r12, vs4, rfl, e4⟩ := wI_some e3
    obtain ⟨r26, vs5, rfl, e5⟩ := wV_some e4
    obtain ⟨r27, vs6, rfl, e6⟩ := wI_some e5
    obtain ⟨r28, vs7, rfl, e7⟩ := wI_some e6
    obtain ⟨c6, vs8, rfl, e8⟩ := wL_some e7
    obtain ⟨c10x0, vs9, rfl, e9⟩ := wI_some e8
    obtain ⟨c10x1, vs10, rfl, e10⟩ := wI_some e9
    obtain ⟨c11x0, vs11, rfl, e11⟩ := wI_some e10
    obtain ⟨c11x1, vs12, rfl, e12⟩ := wI_some e11
    obtain ⟨c13x0, vs13, rfl, e13⟩ := wV_some e12
    obtain ⟨c13x1, vs14, rfl, e14⟩ := wV_some e13
    obtain ⟨rfl, ee⟩ := wN_some e14
    exact (q36x2 h S r2 r3 r4 r12 r26 r27 r28 c6 c10x0 c10x1 c11x0 c11x1 c13x0 c13x1).symm.trans ee
  refine TabP.cons 3 (fun vs0 q e0 => ?_) ?_
  · obtain ⟨r2, vs1, rfl, e1⟩ := wI_some e0
    obtain ⟨r3, vs2, rfl, e2⟩ := wI_some e1
    obtain ⟨r4, vs3, rfl, e3⟩ := wI_some e2
    obtain ⟨r26, vs4, rfl, e4⟩ := wV_some e3
    obtain ⟨r27, vs5, rfl, e5⟩ := wI_some e4
    obtain ⟨r28, vs6, rfl, e6⟩ := wI_some e5
    obtain ⟨c6, vs7, rfl, e7⟩ := wL_some e6
    obtain ⟨c10x0, vs8, rfl, e8⟩ := wI_some e7
    obtain ⟨c10x1, vs9, rfl, e9⟩ := wI_some e8
    obtain ⟨c11x0, vs10, rfl, e10⟩ := wI_some e9
    obtain ⟨c11x1, vs11, rfl, e11⟩ := wI_some e10
    obtain ⟨rfl, ee⟩ := wN_some e11
    exact (q36x3 h S r2 r3 r4 r26 r27 r28 c6 c10x0 c10x1 c11x0 c11x1).symm.trans ee
  refine TabP.cons 4 (fun vs0 q e0 => ?_) ?_
  · obtain ⟨c10x0, vs1, rfl, e1⟩ := wI_some e0
    obtain ⟨c10x1, vs2, rfl, e2⟩ := wI_some e1
    obtain ⟨c11x0, vs3, rfl, e3⟩ := wI_some e2
    obtain ⟨c11x1, vs4, rfl, e4⟩ := wI_some e3
    obtain ⟨rfl, ee⟩ := wN_some e4
    exact (q36x4 h S c10x0 c10x1 c11x0 c11x1).symm.trans ee
  exact TabP.nil
theorem r36 : PSound Tryz.prog 36 F36 := fun_soundP (C := C0) ok0 (pf := pf0) pfok0 (fn := Tryz.f36) (body := B36) (kinds := [Kd.v, Kd.v, Kd.i .i64, Kd.i .i64, Kd.i .i64]) (A := A36) (T := T36) (by kernel_rfl) (by kernel_rfl) (by kernel_rfl) (by kernel_rfl) (fun h S => t36 h S)
noncomputable def pf1 : PF := pfC 36 F36 pf0
theorem pfok1 : PfSound Tryz.prog pf1 := pfC_ok r36 pfok0
noncomputable def orc1 := orcP 36 F36 orc0
noncomputable def C1 : Cfg := cfg orc1
theorem ok1 : C1.Ok := orcP_ok (C := C0) ok0 r36
/-! (ceroplast/mould.look).leaves -/
noncomputable def B59 : Code := (Tryz.f59.body).getD .skip
noncomputable def A59 : G.Ann (List KI) := (G.Ann.node (some (0, [KI.reg 0 (Kd.v), KI.reg 1 (Kd.v), KI.reg 2 (Kd.i .i64), KI.reg 3 (Kd.i .i64)])) G.Ann.nil (G.Ann.node none (G.Ann.node none G.Ann.nil (G.Ann.node none (G.Ann.node (some (1, [KI.reg 2 (Kd.i .i64), KI.reg 3 (Kd.i .i64), KI.loc 4 4, KI.loc 5 5, KI.reg 14 (Kd.i .i64), KI.reg 15 (Kd.i .i64), KI.cells 4 [Kd.i .i64, Kd.v, Kd.v, Kd.v], KI.list 5])) (G.Ann.node none G.Ann.nil (G.Ann.node none (G.Ann.node none G.Ann.nil G.Ann.nil) (G.Ann.node none (G.Ann.node none (G.Ann.node none G.Ann.nil (G.Ann.node none G.Ann.nil (G.Ann.node none G.Ann.nil (G.Ann.node none (G.Ann.node none G.Ann.nil G.Ann.nil) G.Ann.nil)))) G.Ann.nil) G.Ann.nil))) G.Ann.nil) G.Ann.nil)) (G.Ann.node (some (2, [])) G.Ann.nil G.Ann.nil)))
noncomputable def P59x2 (h : Hp) (S : Nat → PAL → Option Value) : Option Value :=
  some (Value.bool true)
noncomputable def P59x1 (h : Hp) (S : Nat → PAL → Option Value) (r2 : Int) (r3 : Int) (r14 : Int) (r15 : Int) (c4x0 : Int) (c4x1 : Value) (c4x2 : Value) (c4x3 : Value) (c5 : List Value) : Option Value :=
  boolZ (ltZ r15 r14) fun b0 =>
  ifB b0
  (dropR c5 0 fun d1 => takeR d1 8 fun l1 =>
  optK (F36 [(Value.agg (Array.mk [(Value.int .i64 c4x0), c4x1, c4x2, c4x3])), (Value.agg (Array.mk l1)), (Value.int .i64 r2), (Value.int .i64 r15), (Value.int .i64 r3)] h) fun v2 =>
  aggK v2 fun l3 => ifB (Nat.beq (lenR l3) 2) (segR 0 l3 [(Value.int .i64 (Int.ofNat 0)), (Value.int .i64 (Int.ofNat 0))] fun c3 =>
  nthR c3 0 fun v4 =>
  intK .i64 v4 fun i5 =>
  nthR c3 1 fun v6 =>
  intK .i64 v6 fun i7 =>
  boolZ (ltZ i7 i5) fun b8 =>
  ifB b8
  (some (Value.bool false))
  (wrap64 (Int.add r15 (Int.ofNat 1)) fun i9 =>
  S 1 (PAL.i r2 (PAL.i r3 (PAL.i r14 (PAL.i i9 (PAL.i c4x0 (PAL.v c4x1 (PAL.v c4x2 (PAL.v c4x3 (PAL.l c5 PAL.n))))))))))) none)
  (S 2 PAL.n)
noncomputable def P59x0 (h : Hp) (S : Nat → PAL → Option Value) (r0 : Value) (r1 : Value) (r2 : Int) (r3 : Int) : Option Value :=
  forceL (Array.toList (Value.cells r0)) fun c0 =>
  forceL (Array.toList (Value.cells r1)) fun c1 =>
  nthR c0 1 fun v2 =>
  lenSK v2 fun i3 =>
  unconsK c0 fun a4 c4 =>
  intK .i64 a4 fun i5 =>
  unconsK c4 fun a6 c6 =>
  unconsK c6 fun a7 c7 =>
  unconsK c7 fun a8 c8 =>
  nilK c8 (S 1 (PAL.i r2 (PAL.i r3 (PAL.i i3 (PAL.i (Int.ofNat 0) (PAL.i i5 (PAL.v a6 (PAL.v a7 (PAL.v a8 (PAL.l c1 PAL.n))))))))))
noncomputable def T59 (h : Hp) (S : Nat → PAL → Option Value) : Nat → PAL → Option Value := tabPC 0 (wV fun r0 => wV fun r1 => wI fun r2 => wI fun r3 => wN (P59x0 h S r0 r1 r2 r3)) (tabPC 1 (wI fun r2 => wI fun r3 => wI fun r14 => wI fun r15 => wI fun c4x0 => wV fun c4x1 => wV fun c4x2 => wV fun c4x3 => wL fun c5 => wN (P59x1 h S r2 r3 r14 r15 c4x0 c4x1 c4x2 c4x3 c5)) (tabPC 2 (wN (P59x2 h S)) (tabPN)))
noncomputable def F59 (args : List Value) (h : Hp) : Option Value := plainO (packArgs [Kd.v, Kd.v, Kd.i .i64, Kd.i .i64] args fun al => G.rec' (T59 h) 1000000 0 al)
def nt59 : Nat := 4 + (30 - 4)
theorem q59x2 (h : Hp) (S : Nat → PAL → Option Value) : P59x2 h S = G.stepAt packP unpackP evXV (regP env pf1 nt59 h) (finP env Tryz.f59.results.toList) (G.collect B59 A59 []) 2 S PAL.n := by kernel_rfl
theorem q59x1 (h : Hp) (S : Nat → PAL → Option Value) (r2 : Int) (r3 : Int) (r14 : Int) (r15 : Int) (c4x0 : Int) (c4x1 : Value) (c4x2 : Value) (c4x3 : Value) (c5 : List Value) : P59x1 h S r2 r3 r14 r15 c4x0 c4x1 c4x2 c4x3 c5 = G.stepAt packP unpackP evXV (regP env pf1 nt59 h) (finP env Tryz.f59.results.toList) (G.collect B59 A59 []) 1 S (PAL.i r2 (PAL.i r3 (PAL.i r14 (PAL.i r15 (PAL.i c4x0 (PAL.v c4x1 (PAL.v c4x2 (PAL.v c4x3 (PAL.l c5 PAL.n))))))))) := by kernel_rfl
theorem q59x0 (h : Hp) (S : Nat → PAL → Option Value) (r0 : Value) (r1 : Value) (r2 : Int) (r3 : Int) : P59x0 h S r0 r1 r2 r3 = G.stepAt packP unpackP evXV (regP env pf1 nt59 h) (finP env Tryz.f59.results.toList) (G.collect B59 A59 []) 0 S (PAL.v r0 (PAL.v r1 (PAL.i r2 (PAL.i r3 PAL.n)))) := by kernel_rfl
theorem t59 (h : Hp) (S : Nat → PAL → Option Value) : TabP (fun l al => G.stepAt packP unpackP evXV (regP env pf1 nt59 h) (finP env Tryz.f59.results.toList) (G.collect B59 A59 []) l S al) (T59 h S) := by
  unfold T59
  refine TabP.cons 0 (fun vs0 q e0 => ?_) ?_
  · obtain ⟨r0, vs1, rfl, e1⟩ := wV_some e0
    obtain ⟨r1, vs2, rfl, e2⟩ := wV_some e1
    obtain ⟨r2, vs3, rfl, e3⟩ := wI_some e2
    obtain ⟨r3, vs4, rfl, e4⟩ := wI_some e3
    obtain ⟨rfl, ee⟩ := wN_some e4
    exact (q59x0 h S r0 r1 r2 r3).symm.trans ee
  refine TabP.cons 1 (fun vs0 q e0 => ?_) ?_
  · obtain ⟨r2, vs1, rfl, e1⟩ := wI_some e0
    obtain ⟨r3, vs2, rfl, e2⟩ := wI_some e1
    obtain ⟨r14, vs3, rfl, e3⟩ := wI_some e2
    obtain ⟨r15, vs4, rfl, e4⟩ := wI_some e3
    obtain ⟨c4x0, vs5, rfl, e5⟩ := wI_some e4
    obtain ⟨c4x1, vs6, rfl, e6⟩ := wV_some e5
    obtain ⟨c4x2, vs7, rfl, e7⟩ := wV_some e6
    obtain ⟨c4x3, vs8, rfl, e8⟩ := wV_some e7
    obtain ⟨c5, vs9, rfl, e9⟩ := wL_some e8
    obtain ⟨rfl, ee⟩ := wN_some e9
    exact (q59x1 h S r2 r3 r14 r15 c4x0 c4x1 c4x2 c4x3 c5).symm.trans ee
  refine TabP.cons 2 (fun vs0 q e0 => ?_) ?_
  · 
    obtain ⟨rfl, ee⟩ := wN_some e0
    exact (q59x2 h S).symm.trans ee
  exact TabP.nil
theorem r59 : PSound Tryz.prog 59 F59 := fun_soundP (C := C0) ok0 (pf := pf1) pfok1 (fn := Tryz.f59) (body := B59) (kinds := [Kd.v, Kd.v, Kd.i .i64, Kd.i .i64]) (A := A59) (T := T59) (by kernel_rfl) (by kernel_rfl) (by kernel_rfl) (by kernel_rfl) (fun h S => t59 h S)
noncomputable def pf2 : PF := pfC 59 F59 pf1
theorem pfok2 : PfSound Tryz.prog pf2 := pfC_ok r59 pfok1
noncomputable def orc2 := orcP 59 F59 orc1
noncomputable def C2 : Cfg := cfg orc2
theorem ok2 : C2.Ok := orcP_ok (C := C1) ok1 r59
/-! (ceroplast/mould.look).agrees -/
noncomputable def B34 : Code := (Tryz.f34.body).getD .skip
noncomputable def A34 : G.Ann (List KI) := (G.Ann.node (some (0, [KI.reg 0 (Kd.v), KI.reg 1 (Kd.v), KI.reg 2 (Kd.i .i64)])) G.Ann.nil (G.Ann.node none (G.Ann.node none G.Ann.nil (G.Ann.node none (G.Ann.node (some (1, [KI.reg 2 (Kd.i .i64), KI.loc 3 3, KI.loc 4 4, KI.reg 10 (Kd.i .i64), KI.reg 11 (Kd.i .i64), KI.cells 3 [Kd.i .i64, Kd.v, Kd.v, Kd.v], KI.list 4])) (G.Ann.node none G.Ann.nil (G.Ann.node none (G.Ann.node none G.Ann.nil G.Ann.nil) (G.Ann.node none (G.Ann.node none (G.Ann.node none G.Ann.nil (G.Ann.node none G.Ann.nil (G.Ann.node none (G.Ann.node none G.Ann.nil G.Ann.nil) G.Ann.nil))) G.Ann.nil) G.Ann.nil))) G.Ann.nil) G.Ann.nil)) (G.Ann.node (some (2, [])) G.Ann.nil G.Ann.nil)))
noncomputable def P34x2 (h : Hp) (S : Nat → PAL → Option Value) : Option Value :=
  some (Value.bool true)
noncomputable def P34x1 (h : Hp) (S : Nat → PAL → Option Value) (r2 : Int) (r10 : Int) (r11 : Int) (c3x0 : Int) (c3x1 : Value) (c3x2 : Value) (c3x3 : Value) (c4 : List Value) : Option Value :=
  boolZ (ltZ r11 r10) fun b0 =>
  ifB b0
  (dropR c4 0 fun d1 => takeR d1 8 fun l1 =>
  optK (F59 [(Value.agg (Array.mk [(Value.int .i64 c3x0), c3x1, c3x2, c3x3])), (Value.agg (Array.mk l1)), (Value.int .i64 r2), (Value.int .i64 r11)] h) fun v2 =>
  boolK v2 fun b3 =>
  boolN b3 fun b4 =>
  ifB b4
  (some (Value.bool false))
  (wrap64 (Int.add r11 (Int.ofNat 1)) fun i5 =>
  S 1 (PAL.i r2 (PAL.i r10 (PAL.i i5 (PAL.i c3x0 (PAL.v c3x1 (PAL.v c3x2 (PAL.v c3x3 (PAL.l c4 PAL.n))))))))))
  (S 2 PAL.n)
noncomputable def P34x0 (h : Hp) (S : Nat → PAL → Option Value) (r0 : Value) (r1 : Value) (r2 : Int) : Option Value :=
  forceL (Array.toList (Value.cells r0)) fun c0 =>
  forceL (Array.toList (Value.cells r1)) fun c1 =>
  nthR c0 0 fun v2 =>
  intK .i64 v2 fun i3 =>
  unconsK c0 fun a4 c4 =>
  intK .i64 a4 fun i5 =>
  unconsK c4 fun a6 c6 =>
  unconsK c6 fun a7 c7 =>
  unconsK c7 fun a8 c8 =>
  nilK c8 (S 1 (PAL.i r2 (PAL.i i3 (PAL.i (Int.ofNat 0) (PAL.i i5 (PAL.v a6 (PAL.v a7 (PAL.v a8 (PAL.l c1 PAL.n)))))))))
noncomputable def T34 (h : Hp) (S : Nat → PAL → Option Value) : Nat → PAL → Option Value := tabPC 0 (wV fun r0 => wV fun r1 => wI fun r2 => wN (P34x0 h S r0 r1 r2)) (tabPC 1 (wI fun r2 => wI fun r10 => wI fun r11 => wI fun c3x0 => wV fun c3x1 => wV fun c3x2 => wV fun c3x3 => wL fun c4 => wN (P34x1 h S r2 r10 r11 c3x0 c3x1 c3x2 c3x3 c4)) (tabPC 2 (wN (P34x2 h S)) (tabPN)))
noncomputable def F34 (args : List Value) (h : Hp) : Option Value := plainO (packArgs [Kd.v, Kd.v, Kd.i .i64] args fun al => G.rec' (T34 h) 1000000 0 al)
def nt34 : Nat := 3 + (21 - 3)
theorem q34x2 (h : Hp) (S : Nat → PAL → Option Value) : P34x2 h S = G.stepAt packP unpackP evXV (regP env pf2 nt34 h) (finP env Tryz.f34.results.toList) (G.collect B34 A34 []) 2 S PAL.n := by kernel_rfl
theorem q34x1 (h : Hp) (S : Nat → PAL → Option Value) (r2 : Int) (r10 : Int) (r11 : Int) (c3x0 : Int) (c3x1 : Value) (c3x2 : Value) (c3x3 : Value) (c4 : List Value) : P34x1 h S r2 r10 r11 c3x0 c3x1 c3x2 c3x3 c4 = G.stepAt packP unpackP evXV (regP env pf2 nt34 h) (finP env Tryz.f34.results.toList) (G.collect B34 A34 []) 1 S (PAL.i r2 (PAL.i r10 (PAL.i r11 (PAL.i c3x0 (PAL.v c3x1 (PAL.v c3x2 (PAL.v c3x3 (PAL.l c4 PAL.n)))))))) := by kernel_rfl
theorem q34x0 (h : Hp) (S : Nat → PAL → Option Value) (r0 : Value) (r1 : Value) (r2 : Int) : P34x0 h S r0 r1 r2 = G.stepAt packP unpackP evXV (regP env pf2 nt34 h) (finP env Tryz.f34.results.toList) (G.collect B34 A34 []) 0 S (PAL.v r0 (PAL.v r1 (PAL.i r2 PAL.n))) := by kernel_rfl
theorem t34 (h : Hp) (S : Nat → PAL → Option Value) : TabP (fun l al => G.stepAt packP unpackP evXV (regP env pf2 nt34 h) (finP env Tryz.f34.results.toList) (G.collect B34 A34 []) l S al) (T34 h S) := by
  unfold T34
  refine TabP.cons 0 (fun vs0 q e0 => ?_) ?_
  · obtain ⟨r0, vs1, rfl, e1⟩ := wV_some e0
    obtain ⟨r1, vs2, rfl, e2⟩ := wV_some e1
    obtain ⟨r2, vs3, rfl, e3⟩ := wI_some e2
    obtain ⟨rfl, ee⟩ := wN_some e3
    exact (q34x0 h S r0 r1 r2).symm.trans ee
  refine TabP.cons 1 (fun vs0 q e0 => ?_) ?_
  · obtain ⟨r2, vs1, rfl, e1⟩ := wI_some e0
    obtain ⟨r10, vs2, rfl, e2⟩ := wI_some e1
    obtain ⟨r11, vs3, rfl, e3⟩ := wI_some e2
    obtain ⟨c3x0, vs4, rfl, e4⟩ := wI_some e3
    obtain ⟨c3x1, vs5, rfl, e5⟩ := wV_some e4
    obtain ⟨c3x2, vs6, rfl, e6⟩ := wV_some e5
    obtain ⟨c3x3, vs7, rfl, e7⟩ := wV_some e6
    obtain ⟨c4, vs8, rfl, e8⟩ := wL_some e7
    obtain ⟨rfl, ee⟩ := wN_some e8
    exact (q34x1 h S r2 r10 r11 c3x0 c3x1 c3x2 c3x3 c4).symm.trans ee
  refine TabP.cons 2 (fun vs0 q e0 => ?_) ?_
  · 
    obtain ⟨rfl, ee⟩ := wN_some e0
    exact (q34x2 h S).symm.trans ee
  exact TabP.nil
theorem r34 : PSound Tryz.prog 34 F34 := fun_soundP (C := C0) ok0 (pf := pf2) pfok2 (fn := Tryz.f34) (body := B34) (kinds := [Kd.v, Kd.v, Kd.i .i64]) (A := A34) (T := T34) (by kernel_rfl) (by kernel_rfl) (by kernel_rfl) (by kernel_rfl) (fun h S => t34 h S)
noncomputable def pf3 : PF := pfC 34 F34 pf2
theorem pfok3 : PfSound Tryz.prog pf3 := pfC_ok r34 pfok2
noncomputable def orc3 := orcP 34 F34 orc2
noncomputable def C3 : Cfg := cfg orc3
theorem ok3 : C3.Ok := orcP_ok (C := C2) ok2 r34
/-! math/bits.OnesCount64 -/
noncomputable def B77 : Code := (Tryz.f77.body).getD .skip
noncomputable def A77 : G.Ann (List KI) := (G.Ann.node (some (0, [KI.reg 0 (Kd.i .u64)])) G.Ann.nil (G.Ann.node none G.Ann.nil (G.Ann.node none G.Ann.nil (G.Ann.node none G.Ann.nil (G.Ann.node none G.Ann.nil (G.Ann.node none G.Ann.nil (G.Ann.node none G.Ann.nil (G.Ann.node none G.Ann.nil G.Ann.nil))))))))
noncomputable def P77x0 (h : Hp) (S : Nat → PAL → Option Value) (r0 : Int) : Option Value :=
  shrZ .u64 r0 (Int.ofNat 1) (shrI (binW env .shr 138 (Value.int .u64 r0) (Value.int .u64 (Int.ofNat 1))) (Value.int .u64 r0) (Value.int .u64 (Int.ofNat 1))) fun i0 =>
  andZ .u64 i0 (Int.ofNat 6148914691236517205) (andI (binW env .and 138 (Value.int .u64 i0) (Value.int .u64 (Int.ofNat 6148914691236517205))) (Value.int .u64 i0) (Value.int .u64 (Int.ofNat 6148914691236517205))) fun i1 =>
  andZ .u64 r0 (Int.ofNat 6148914691236517205) (andI (binW env .and 138 (Value.int .u64 r0) (Value.int .u64 (Int.ofNat 6148914691236517205))) (Value.int .u64 r0) (Value.int .u64 (Int.ofNat 6148914691236517205))) fun i2 =>
  forceI (wrapF .u64 (Int.add i1 i2)) fun i3 =>
  shrZ .u64 i3 (Int.ofNat 2) (shrI (binW env .shr 138 (Value.int .u64 i3) (Value.int .u64 (Int.ofNat 2))) (Value.int .u64 i3) (Value.int .u64 (Int.ofNat 2))) fun i4 =>
  andZ .u64 i4 (Int.ofNat 3689348814741910323) (andI (binW env .and 138 (Value.int .u64 i4) (Value.int .u64 (Int.ofNat 3689348814741910323))) (Value.int .u64 i4) (Value.int .u64 (Int.ofNat 3689348814741910323))) fun i5 =>
  andZ .u64 i3 (Int.ofNat 3689348814741910323) (andI (binW env .and 138 (Value.int .u64 i3) (Value.int .u64 (Int.ofNat 3689348814741910323))) (Value.int .u64 i3) (Value.int .u64 (Int.ofNat 3689348814741910323))) fun i6 =>
  forceI (wrapF .u64 (Int.add i5 i6)) fun i7 =>
  shrZ .u64 i7 (Int.ofNat 4) (shrI (binW env .shr 138 (Value.int .u64 i7) (Value.int .u64 (Int.ofNat 4))) (Value.int .u64 i7) (Value.int .u64 (Int.ofNat 4))) fun i8 =>
  forceI (wrapF .u64 (Int.add i8 i7)) fun i9 =>
  andZ .u64 i9 (Int.ofNat 1085102592571150095) (andI (binW env .and 138 (Value.int .u64 i9) (Value.int .u64 (Int.ofNat 1085102592571150095))) (Value.int .u64 i9) (Value.int .u64 (Int.ofNat 1085102592571150095))) fun i10 =>
  shrZ .u64 i10 (Int.ofNat 8) (shrI (binW env .shr 138 (Value.int .u64 i10) (Value.int .u64 (Int.ofNat 8))) (Value.int .u64 i10) (Value.int .u64 (Int.ofNat 8))) fun i11 =>
  forceI (wrapF .u64 (Int.add i10 i11)) fun i12 =>
  shrZ .u64 i12 (Int.ofNat 16) (shrI (binW env .shr 138 (Value.int .u64 i12) (Value.int .u64 (Int.ofNat 16))) (Value.int .u64 i12) (Value.int .u64 (Int.ofNat 16))) fun i13 =>
  forceI (wrapF .u64 (Int.add i12 i13)) fun i14 =>
  shrZ .u64 i14 (Int.ofNat 32) (shrI (binW env .shr 138 (Value.int .u64 i14) (Value.int .u64 (Int.ofNat 32))) (Value.int .u64 i14) (Value.int .u64 (Int.ofNat 32))) fun i15 =>
  forceI (wrapF .u64 (Int.add i14 i15)) fun i16 =>
  wrap64 i16 fun i17 =>
  andZ .i64 i17 (Int.ofNat 127) (andI (binW env .and 3 (Value.int .i64 i17) (Value.int .i64 (Int.ofNat 127))) (Value.int .i64 i17) (Value.int .i64 (Int.ofNat 127))) fun i18 =>
  some (Value.int .i64 i18)
noncomputable def T77 (h : Hp) (S : Nat → PAL → Option Value) : Nat → PAL → Option Value := tabPC 0 (wI fun r0 => wN (P77x0 h S r0)) (tabPN)
noncomputable def F77 (args : List Value) (h : Hp) : Option Value := plainO (packArgs [Kd.i .u64] args fun al => G.rec' (T77 h) 1000000 0 al)
def nt77 : Nat := 1 + (35 - 1)
theorem q77x0 (h : Hp) (S : Nat → PAL → Option Value) (r0 : Int) : P77x0 h S r0 = G.stepAt packP unpackP evXV (regP env pf3 nt77 h) (finP env Tryz.f77.results.toList) (G.collect B77 A77 []) 0 S (PAL.i r0 PAL.n) := by kernel_rfl
theorem t77 (h : Hp) (S : Nat → PAL → Option Value) : TabP (fun l al => G.stepAt packP unpackP evXV (regP env pf3 nt77 h) (finP env Tryz.f77.results.toList) (G.collect B77 A77 []) l S al) (T77 h S) := by
  unfold T77
  refine TabP.cons 0 (fun vs0 q e0 => ?_) ?_
  · obtain ⟨r0, vs1, rfl, e1⟩ := wI_some e0
    obtain ⟨rfl, ee⟩ := wN_some e1
    exact (q77x0 h S r0).symm.trans ee
  exact TabP.nil
theorem r77 : PSound Tryz.prog 77 F77 := fun_soundP (C := C0) ok0 (pf := pf3) pfok3 (fn := Tryz.f77) (body := B77) (kinds := [Kd.i .u64]) (A := A77) (T := T77) (by kernel_rfl) (by kernel_rfl) (by kernel_rfl) (by kernel_rfl) (fun h S => t77 h S)
noncomputable def pf4 : PF := pfC 77 F77 pf3
theorem pfok4 : PfSound Tryz.prog pf4 := pfC_ok r77 pfok3
noncomputable def orc4 := orcP 77 F77 orc3
noncomputable def C4 : Cfg := cfg orc4
theorem ok4 : C4.Ok := orcP_ok (C := C3) ok3 r77
/-! math/bits.OnesCount -/
noncomputable def B61 : Code := (Tryz.f61.body).getD .skip
noncomputable def A61 : G.Ann (List KI) := (G.Ann.node (some (0, [KI.reg 0 (Kd.i .u64)])) G.Ann.nil (G.Ann.node none (G.Ann.node none (G.Ann.node none G.Ann.nil G.Ann.nil) G.Ann.nil) (G.Ann.node none G.Ann.nil G.Ann.nil)))
noncomputable def P61x0 (h : Hp) (S : Nat → PAL → Option Value) (r0 : Int) : Option Value :=
  optK (F77 [(Value.int .u64 r0)] h) fun v0 =>
  intK .i64 v0 fun i1 =>
  some (Value.int .i64 i1)
noncomputable def T61 (h : Hp) (S : Nat → PAL → Option Value) : Nat → PAL → Option Value := tabPC 0 (wI fun r0 => wN (P61x0 h S r0)) (tabPN)
noncomputable def F61 (args : List Value) (h : Hp) : Option Value := plainO (packArgs [Kd.i .u64] args fun al => G.rec' (T61 h) 1000000 0 al)
def nt61 : Nat := 1 + (8 - 1)
theorem q61x0 (h : Hp) (S : Nat → PAL → Option Value) (r0 : Int) : P61x0 h S r0 = G.stepAt packP unpackP evXV (regP env pf4 nt61 h) (finP env Tryz.f61.results.toList) (G.collect B61 A61 []) 0 S (PAL.i r0 PAL.n) := by kernel_rfl
theorem t61 (h : Hp) (S : Nat → PAL → Option Value) : TabP (fun l al => G.stepAt packP unpackP evXV (regP env pf4 nt61 h) (finP env Tryz.f61.results.toList) (G.collect B61 A61 []) l S al) (T61 h S) := by
  unfold T61
  refine TabP.cons 0 (fun vs0 q e0 => ?_) ?_
  · obtain ⟨r0, vs1, rfl, e1⟩ := wI_some e0
    obtain ⟨rfl, ee⟩ := wN_some e1
    exact (q61x0 h S r0).symm.trans ee
  exact TabP.nil
theorem r61 : PSound Tryz.prog 61 F61 := fun_soundP (C := C0) ok0 (pf := pf4) pfok4 (fn := Tryz.f61) (body := B61) (kinds := [Kd.i .u64]) (A := A61) (T := T61) (by kernel_rfl) (by kernel_rfl) (by kernel_rfl) (by kernel_rfl) (fun h S => t61 h S)
noncomputable def pf5 : PF := pfC 61 F61 pf4
theorem pfok5 : PfSound Tryz.prog pf5 := pfC_ok r61 pfok4
noncomputable def orc5 := orcP 61 F61 orc4
noncomputable def C5 : Cfg := cfg orc5
theorem ok5 : C5.Ok := orcP_ok (C := C4) ok4 r61
/-! ceroplast/mould.fewer -/
noncomputable def B39 : Code := (Tryz.f39.body).getD .skip
noncomputable def A39 : G.Ann (List KI) := (G.Ann.node (some (0, [KI.reg 0 (Kd.i .i64), KI.reg 1 (Kd.i .i64)])) G.Ann.nil (G.Ann.node none (G.Ann.node none G.Ann.nil (G.Ann.node none G.Ann.nil (G.Ann.node none (G.Ann.node none G.Ann.nil G.Ann.nil) G.Ann.nil))) (G.Ann.node none G.Ann.nil (G.Ann.node none G.Ann.nil (G.Ann.node none G.Ann.nil G.Ann.nil)))))
noncomputable def P39x0 (h : Hp) (S : Nat → PAL → Option Value) (r0 : Int) (r1 : Int) : Option Value :=
  forceI (wrapF .u64 r0) fun i0 =>
  optK (F61 [(Value.int .u64 i0)] h) fun v1 =>
  intK .i64 v1 fun i2 =>
  forceI (wrapF .u64 r1) fun i3 =>
  optK (F61 [(Value.int .u64 i3)] h) fun v4 =>
  intK .i64 v4 fun i5 =>
  boolN (eqZ i2 i5) fun b6 =>
  ifB b6
  (boolZ (ltZ i2 i5) fun b7 =>
  some (Value.bool b7))
  (slowI .i64 (xorI (binW env .xor 3 (Value.int .i64 r0) (Value.int .i64 r1)) (Value.int .i64 r0) (Value.int .i64 r1)) fun i8 =>
  wrap64 (Int.sub 0 i8) fun i9 =>
  andZ .i64 i8 i9 (andI (binW env .and 3 (Value.int .i64 i8) (Value.int .i64 i9)) (Value.int .i64 i8) (Value.int .i64 i9)) fun i10 =>
  andZ .i64 r0 i10 (andI (binW env .and 3 (Value.int .i64 r0) (Value.int .i64 i10)) (Value.int .i64 r0) (Value.int .i64 i10)) fun i11 =>
  boolN (eqZ i11 (Int.ofNat 0)) fun b12 =>
  some (Value.bool b12))
noncomputable def T39 (h : Hp) (S : Nat → PAL → Option Value) : Nat → PAL → Option Value := tabPC 0 (wI fun r0 => wI fun r1 => wN (P39x0 h S r0 r1)) (tabPN)
noncomputable def F39 (args : List Value) (h : Hp) : Option Value := plainO (packArgs [Kd.i .i64, Kd.i .i64] args fun al => G.rec' (T39 h) 1000000 0 al)
def nt39 : Nat := 2 + (32 - 2)
theorem q39x0 (h : Hp) (S : Nat → PAL → Option Value) (r0 : Int) (r1 : Int) : P39x0 h S r0 r1 = G.stepAt packP unpackP evXV (regP env pf5 nt39 h) (finP env Tryz.f39.results.toList) (G.collect B39 A39 []) 0 S (PAL.i r0 (PAL.i r1 PAL.n)) := by kernel_rfl
theorem t39 (h : Hp) (S : Nat → PAL → Option Value) : TabP (fun l al => G.stepAt packP unpackP evXV (regP env pf5 nt39 h) (finP env Tryz.f39.results.toList) (G.collect B39 A39 []) l S al) (T39 h S) := by
  unfold T39
  refine TabP.cons 0 (fun vs0 q e0 => ?_) ?_
  · obtain ⟨r0, vs1, rfl, e1⟩ := wI_some e0
    obtain ⟨r1, vs2, rfl, e2⟩ := wI_some e1
    obtain ⟨rfl, ee⟩ := wN_some e2
    exact (q39x0 h S r0 r1).symm.trans ee
  exact TabP.nil
theorem r39 : PSound Tryz.prog 39 F39 := fun_soundP (C := C0) ok0 (pf := pf5) pfok5 (fn := Tryz.f39) (body := B39) (kinds := [Kd.i .i64, Kd.i .i64]) (A := A39) (T := T39) (by kernel_rfl) (by kernel_rfl) (by kernel_rfl) (by kernel_rfl) (fun h S => t39 h S)
noncomputable def pf6 : PF := pfC 39 F39 pf5
theorem pfok6 : PfSound Tryz.prog pf6 := pfC_ok r39 pfok5
noncomputable def orc6 := orcP 39 F39 orc5
noncomputable def C6 : Cfg := cfg orc6
theorem ok6 : C6.Ok := orcP_ok (C := C5) ok5 r39
/-! (ceroplast/mould.look).headsAgainst -/
noncomputable def B60 : Code := (Tryz.f60.body).getD .skip
noncomputable def A60 : G.Ann (List KI) := (G.Ann.node (some (0, [KI.reg 0 (Kd.v), KI.reg 1 (Kd.v), KI.reg 2 (Kd.i .i64)])) G.Ann.nil (G.Ann.node none G.Ann.nil (G.Ann.node none (G.Ann.node none G.Ann.nil (G.Ann.node none (G.Ann.node (some (1, [KI.reg 2 (Kd.i .i64), KI.loc 3 3, KI.loc 4 4, KI.reg 7 (Kd.i .i64), KI.reg 15 (Kd.i .i64), KI.reg 16 (Kd.i .i64), KI.cells 3 [Kd.i .i64, Kd.v, Kd.v, Kd.v], KI.list 4])) (G.Ann.node none G.Ann.nil (G.Ann.node none (G.Ann.node none G.Ann.nil G.Ann.nil) (G.Ann.node none (G.Ann.node none (G.Ann.node none G.Ann.nil (G.Ann.node none G.Ann.nil (G.Ann.node none G.Ann.nil G.Ann.nil))) G.Ann.nil) G.Ann.nil))) G.Ann.nil) G.Ann.nil)) (G.Ann.node (some (2, [KI.reg 7 (Kd.i .i64)])) G.Ann.nil G.Ann.nil))))
noncomputable def P60x2 (h : Hp) (S : Nat → PAL → Option Value) (r7 : Int) : Option Value :=
  some (Value.int .i64 r7)
noncomputable def P60x1 (h : Hp) (S : Nat → PAL → Option Value) (r2 : Int) (r7 : Int) (r15 : Int) (r16 : Int) (c3x0 : Int) (c3x1 : Value) (c3x2 : Value) (c3x3 : Value) (c4 : List Value) : Option Value :=
  boolZ (ltZ r16 r15) fun b0 =>
  ifB b0
  (optK (F39 [(Value.int .i64 r16), (Value.int .i64 r7)] h) fun v1 =>
  boolK v1 fun b2 =>
  ifB b2
  (dropR c4 0 fun d3 => takeR d3 8 fun l3 =>
  optK (F59 [(Value.agg (Array.mk [(Value.int .i64 c3x0), c3x1, c3x2, c3x3])), (Value.agg (Array.mk l3)), (Value.int .i64 r16), (Value.int .i64 r2)] h) fun v4 =>
  boolK v4 fun b5 =>
  ifB b5
  (wrap64 (Int.add r16 (Int.ofNat 1)) fun i6 =>
  S 1 (PAL.i r2 (PAL.i r16 (PAL.i r15 (PAL.i i6 (PAL.i c3x0 (PAL.v c3x1 (PAL.v c3x2 (PAL.v c3x3 (PAL.l c4 PAL.n))))))))))
  (wrap64 (Int.add r16 (Int.ofNat 1)) fun i7 =>
  S 1 (PAL.i r2 (PAL.i r7 (PAL.i r15 (PAL.i i7 (PAL.i c3x0 (PAL.v c3x1 (PAL.v c3x2 (PAL.v c3x3 (PAL.l c4 PAL.n)))))))))))
  (wrap64 (Int.add r16 (Int.ofNat 1)) fun i8 =>
  S 1 (PAL.i r2 (PAL.i r7 (PAL.i r15 (PAL.i i8 (PAL.i c3x0 (PAL.v c3x1 (PAL.v c3x2 (PAL.v c3x3 (PAL.l c4 PAL.n)))))))))))
  (S 2 (PAL.i r7 PAL.n))
noncomputable def P60x0 (h : Hp) (S : Nat → PAL → Option Value) (r0 : Value) (r1 : Value) (r2 : Int) : Option Value :=
  forceL (Array.toList (Value.cells r0)) fun c0 =>
  forceL (Array.toList (Value.cells r1)) fun c1 =>
  nthR c0 2 fun v2 =>
  lenSK v2 fun i3 =>
  slowI .i64 (shlI (binW env .shl 3 (Value.int .i64 (Int.ofNat 1)) (Value.int .i64 i3)) (Value.int .i64 (Int.ofNat 1)) (Value.int .i64 i3)) fun i4 =>
  wrap64 (Int.sub i4 (Int.ofNat 1)) fun i5 =>
  unconsK c0 fun a6 c6 =>
  intK .i64 a6 fun i7 =>
  unconsK c6 fun a8 c8 =>
  unconsK c8 fun a9 c9 =>
  unconsK c9 fun a10 c10 =>
  nilK c10 (S 1 (PAL.i r2 (PAL.i i5 (PAL.i i5 (PAL.i (Int.ofNat 0) (PAL.i i7 (PAL.v a8 (PAL.v a9 (PAL.v a10 (PAL.l c1 PAL.n))))))))))
noncomputable def T60 (h : Hp) (S : Nat → PAL → Option Value) : Nat → PAL → Option Value := tabPC 0 (wV fun r0 => wV fun r1 => wI fun r2 => wN (P60x0 h S r0 r1 r2)) (tabPC 1 (wI fun r2 => wI fun r7 => wI fun r15 => wI fun r16 => wI fun c3x0 => wV fun c3x1 => wV fun c3x2 => wV fun c3x3 => wL fun c4 => wN (P60x1 h S r2 r7 r15 r16 c3x0 c3x1 c3x2 c3x3 c4)) (tabPC 2 (wI fun r7 => wN (P60x2 h S r7)) (tabPN)))
noncomputable def F60 (args : List Value) (h : Hp) : Option Value := plainO (packArgs [Kd.v, Kd.v, Kd.i .i64] args fun al => G.rec' (T60 h) 1000000 0 al)
def nt60 : Nat := 3 + (32 - 3)
theorem q60x2 (h : Hp) (S : Nat → PAL → Option Value) (r7 : Int) : P60x2 h S r7 = G.stepAt packP unpackP evXV (regP env pf6 nt60 h) (finP env Tryz.f60.results.toList) (G.collect B60 A60 []) 2 S (PAL.i r7 PAL.n) := by kernel_rfl
theorem q60x1 (h : Hp) (S : Nat → PAL → Option Value) (r2 : Int) (r7 : Int) (r15 : Int) (r16 : Int) (c3x0 : Int) (c3x1 : Value) (c3x2 : Value) (c3x3 : Value) (c4 : List Value) : P60x1 h S r2 r7 r15 r16 c3x0 c3x1 c3x2 c3x3 c4 = G.stepAt packP unpackP evXV (regP env pf6 nt60 h) (finP env Tryz.f60.results.toList) (G.collect B60 A60 []) 1 S (PAL.i r2 (PAL.i r7 (PAL.i r15 (PAL.i r16 (PAL.i c3x0 (PAL.v c3x1 (PAL.v c3x2 (PAL.v c3x3 (PAL.l c4 PAL.n))))))))) := by kernel_rfl
theorem q60x0 (h : Hp) (S : Nat → PAL → Option Value) (r0 : Value) (r1 : Value) (r2 : Int) : P60x0 h S r0 r1 r2 = G.stepAt packP unpackP evXV (regP env pf6 nt60 h) (finP env Tryz.f60.results.toList) (G.collect B60 A60 []) 0 S (PAL.v r0 (PAL.v r1 (PAL.i r2 PAL.n))) := by kernel_rfl
theorem t60 (h : Hp) (S : Nat → PAL → Option Value) : TabP (fun l al => G.stepAt packP unpackP evXV (regP env pf6 nt60 h) (finP env Tryz.f60.results.toList) (G.collect B60 A60 []) l S al) (T60 h S) := by
  unfold T60
  refine TabP.cons 0 (fun vs0 q e0 => ?_) ?_
  · obtain ⟨r0, vs1, rfl, e1⟩ := wV_some e0
    obtain ⟨r1, vs2, rfl, e2⟩ := wV_some e1
    obtain ⟨r2, vs3, rfl, e3⟩ := wI_some e2
    obtain ⟨rfl, ee⟩ := wN_some e3
    exact (q60x0 h S r0 r1 r2).symm.trans ee
  refine TabP.cons 1 (fun vs0 q e0 => ?_) ?_
  · obtain ⟨r2, vs1, rfl, e1⟩ := wI_some e0
    obtain ⟨r7, vs2, rfl, e2⟩ := wI_some e1
    obtain ⟨r15, vs3, rfl, e3⟩ := wI_some e2
    obtain ⟨r16, vs4, rfl, e4⟩ := wI_some e3
    obtain ⟨c3x0, vs5, rfl, e5⟩ := wI_some e4
    obtain ⟨c3x1, vs6, rfl, e6⟩ := wV_some e5
    obtain ⟨c3x2, vs7, rfl, e7⟩ := wV_some e6
    obtain ⟨c3x3, vs8, rfl, e8⟩ := wV_some e7
    obtain ⟨c4, vs9, rfl, e9⟩ := wL_some e8
    obtain ⟨rfl, ee⟩ := wN_some e9
    exact (q60x1 h S r2 r7 r15 r16 c3x0 c3x1 c3x2 c3x3 c4).symm.trans ee
  refine TabP.cons 2 (fun vs0 q e0 => ?_) ?_
  · obtain ⟨r7, vs1, rfl, e1⟩ := wI_some e0
    obtain ⟨rfl, ee⟩ := wN_some e1
    exact (q60x2 h S r7).symm.trans ee
  exact TabP.nil
theorem r60 : PSound Tryz.prog 60 F60 := fun_soundP (C := C0) ok0 (pf := pf6) pfok6 (fn := Tryz.f60) (body := B60) (kinds := [Kd.v, Kd.v, Kd.i .i64]) (A := A60) (T := T60) (by kernel_rfl) (by kernel_rfl) (by kernel_rfl) (by kernel_rfl) (fun h S => t60 h S)
noncomputable def pf7 : PF := pfC 60 F60 pf6
theorem pfok7 : PfSound Tryz.prog pf7 := pfC_ok r60 pfok6
noncomputable def orc7 := orcP 60 F60 orc6
noncomputable def C7 : Cfg := cfg orc7
theorem ok7 : C7.Ok := orcP_ok (C := C6) ok6 r60
/-! (ceroplast/mould.look).against -/
noncomputable def B38 : Code := (Tryz.f38.body).getD .skip
noncomputable def A38 : G.Ann (List KI) := (G.Ann.node (some (0, [KI.reg 0 (Kd.v), KI.reg 1 (Kd.v)])) G.Ann.nil (G.Ann.node none G.Ann.nil (G.Ann.node none (G.Ann.node none G.Ann.nil (G.Ann.node none (G.Ann.node (some (1, [KI.loc 2 2, KI.loc 3 3, KI.reg 5 (Kd.i .i64), KI.reg 11 (Kd.i .i64), KI.reg 12 (Kd.i .i64), KI.cells 2 [Kd.i .i64, Kd.v, Kd.v, Kd.v], KI.list 3])) (G.Ann.node none G.Ann.nil (G.Ann.node none (G.Ann.node none G.Ann.nil G.Ann.nil) (G.Ann.node none (G.Ann.node none (G.Ann.node none G.Ann.nil (G.Ann.node none G.Ann.nil (G.Ann.node none G.Ann.nil (G.Ann.node none (G.Ann.node (some (2, [KI.loc 2 2, KI.loc 3 3, KI.reg 5 (Kd.i .i64), KI.reg 6 (Kd.i .i64), KI.reg 7 (Kd.i .i64), KI.reg 11 (Kd.i .i64), KI.reg 12 (Kd.i .i64), KI.reg 22 (Kd.i .i64), KI.reg 23 (Kd.i .i64), KI.cells 2 [Kd.i .i64, Kd.v, Kd.v, Kd.v], KI.list 3])) (G.Ann.node none G.Ann.nil (G.Ann.node none (G.Ann.node none G.Ann.nil G.Ann.nil) (G.Ann.node none (G.Ann.node none (G.Ann.node none G.Ann.nil (G.Ann.node none G.Ann.nil (G.Ann.node none G.Ann.nil G.Ann.nil))) G.Ann.nil) G.Ann.nil))) G.Ann.nil) G.Ann.nil)))) G.Ann.nil) (G.Ann.node (some (3, [KI.loc 2 2, KI.loc 3 3, KI.reg 5 (Kd.i .i64), KI.reg 11 (Kd.i .i64), KI.reg 12 (Kd.i .i64), KI.cells 2 [Kd.i .i64, Kd.v, Kd.v, Kd.v], KI.list 3])) G.Ann.nil G.Ann.nil)))) G.Ann.nil) G.Ann.nil)) (G.Ann.node (some (4, [KI.reg 5 (Kd.i .i64)])) G.Ann.nil G.Ann.nil))))
noncomputable def P38x4 (h : Hp) (S : Nat → PAL → Option Value) (r5 : Int) : Option Value :=
  some (Value.int .i64 r5)
noncomputable def P38x3 (h : Hp) (S : Nat → PAL → Option Value) (r5 : Int) (r11 : Int) (r12 : Int) (c2x0 : Int) (c2x1 : Value) (c2x2 : Value) (c2x3 : Value) (c3 : List Value) : Option Value :=
  wrap64 (Int.add r12 (Int.ofNat 1)) fun i0 =>
  S 1 (PAL.i r5 (PAL.i r11 (PAL.i i0 (PAL.i c2x0 (PAL.v c2x1 (PAL.v c2x2 (PAL.v c2x3 (PAL.l c3 PAL.n))))))))
noncomputable def P38x2 (h : Hp) (S : Nat → PAL → Option Value) (r5 : Int) (r6 : Int) (r7 : Int) (r11 : Int) (r12 : Int) (r22 : Int) (r23 : Int) (c2x0 : Int) (c2x1 : Value) (c2x2 : Value) (c2x3 : Value) (c3 : List Value) : Option Value :=
  boolZ (ltZ r23 r22) fun b0 =>
  ifB b0
  (shrZ .i64 r7 r23 (shrI (binW env .shr 3 (Value.int .i64 r7) (Value.int .i64 r23)) (Value.int .i64 r7) (Value.int .i64 r23)) fun i1 =>
  andZ .i64 i1 (Int.ofNat 1) (andI (binW env .and 3 (Value.int .i64 i1) (Value.int .i64 (Int.ofNat 1))) (Value.int .i64 i1) (Value.int .i64 (Int.ofNat 1))) fun i2 =>
  boolZ (eqZ i2 (Int.ofNat 1)) fun b3 =>
  ifB b3
  (wrap64 (Int.mul r23 c2x0) fun i4 =>
  wrap64 (Int.add i4 r6) fun i5 =>
  slowI .i64 (shlI (binW env .shl 3 (Value.int .i64 (Int.ofNat 1)) (Value.int .i64 i5)) (Value.int .i64 (Int.ofNat 1)) (Value.int .i64 i5)) fun i6 =>
  slowI .i64 (orI (binW env .or 3 (Value.int .i64 r5) (Value.int .i64 i6)) (Value.int .i64 r5) (Value.int .i64 i6)) fun i7 =>
  wrap64 (Int.add r23 (Int.ofNat 1)) fun i8 =>
  S 2 (PAL.i i7 (PAL.i r6 (PAL.i r7 (PAL.i r11 (PAL.i r12 (PAL.i r22 (PAL.i i8 (PAL.i c2x0 (PAL.v c2x1 (PAL.v c2x2 (PAL.v c2x3 (PAL.l c3 PAL.n)))))))))))))
  (wrap64 (Int.add r23 (Int.ofNat 1)) fun i9 =>
  S 2 (PAL.i r5 (PAL.i r6 (PAL.i r7 (PAL.i r11 (PAL.i r12 (PAL.i r22 (PAL.i i9 (PAL.i c2x0 (PAL.v c2x1 (PAL.v c2x2 (PAL.v c2x3 (PAL.l c3 PAL.n))))))))))))))
  (S 3 (PAL.i r5 (PAL.i r11 (PAL.i r12 (PAL.i c2x0 (PAL.v c2x1 (PAL.v c2x2 (PAL.v c2x3 (PAL.l c3 PAL.n)))))))))
noncomputable def P38x1 (h : Hp) (S : Nat → PAL → Option Value) (r5 : Int) (r11 : Int) (r12 : Int) (c2x0 : Int) (c2x1 : Value) (c2x2 : Value) (c2x3 : Value) (c3 : List Value) : Option Value :=
  boolZ (ltZ r12 r11) fun b0 =>
  ifB b0
  (dropR c3 0 fun d1 => takeR d1 8 fun l1 =>
  optK (F60 [(Value.agg (Array.mk [(Value.int .i64 c2x0), c2x1, c2x2, c2x3])), (Value.agg (Array.mk l1)), (Value.int .i64 r12)] h) fun v2 =>
  intK .i64 v2 fun i3 =>
  lenSK c2x2 fun i4 =>
  S 2 (PAL.i r5 (PAL.i r12 (PAL.i i3 (PAL.i r11 (PAL.i r12 (PAL.i i4 (PAL.i (Int.ofNat 0) (PAL.i c2x0 (PAL.v c2x1 (PAL.v c2x2 (PAL.v c2x3 (PAL.l c3 PAL.n)))))))))))))
  (S 4 (PAL.i r5 PAL.n))
noncomputable def P38x0 (h : Hp) (S : Nat → PAL → Option Value) (r0 : Value) (r1 : Value) : Option Value :=
  forceL (Array.toList (Value.cells r0)) fun c0 =>
  forceL (Array.toList (Value.cells r1)) fun c1 =>
  nthR c0 0 fun v2 =>
  intK .i64 v2 fun i3 =>
  unconsK c0 fun a4 c4 =>
  intK .i64 a4 fun i5 =>
  unconsK c4 fun a6 c6 =>
  unconsK c6 fun a7 c7 =>
  unconsK c7 fun a8 c8 =>
  nilK c8 (S 1 (PAL.i (Int.ofNat 0) (PAL.i i3 (PAL.i (Int.ofNat 0) (PAL.i i5 (PAL.v a6 (PAL.v a7 (PAL.v a8 (PAL.l c1 PAL.n)))))))))
noncomputable def T38 (h : Hp) (S : Nat → PAL → Option Value) : Nat → PAL → Option Value := tabPC 0 (wV fun r0 => wV fun r1 => wN (P38x0 h S r0 r1)) (tabPC 1 (wI fun r5 => wI fun r11 => wI fun r12 => wI fun c2x0 => wV fun c2x1 => wV fun c2x2 => wV fun c2x3 => wL fun c3 => wN (P38x1 h S r5 r11 r12 c2x0 c2x1 c2x2 c2x3 c3)) (tabPC 2 (wI fun r5 => wI fun r6 => wI fun r7 => wI fun r11 => wI fun r12 => wI fun r22 => wI fun r23 => wI fun c2x0 => wV fun c2x1 => wV fun c2x2 => wV fun c2x3 => wL fun c3 => wN (P38x2 h S r5 r6 r7 r11 r12 r22 r23 c2x0 c2x1 c2x2 c2x3 c3)) (tabPC 3 (wI fun r5 => wI fun r11 => wI fun r12 => wI fun c2x0 => wV fun c2x1 => wV fun c2x2 => wV fun c2x3 => wL fun c3 => wN (P38x3 h S r5 r11 r12 c2x0 c2x1 c2x2 c2x3 c3)) (tabPC 4 (wI fun r5 => wN (P38x4 h S r5)) (tabPN)))))
noncomputable def F38 (args : List Value) (h : Hp) : Option Value := plainO (packArgs [Kd.v, Kd.v] args fun al => G.rec' (T38 h) 1000000 0 al)
def nt38 : Nat := 2 + (44 - 2)
theorem q38x4 (h : Hp) (S : Nat → PAL → Option Value) (r5 : Int) : P38x4 h S r5 = G.stepAt packP unpackP evXV (regP env pf7 nt38 h) (finP env Tryz.f38.results.toList) (G.collect B38 A38 []) 4 S (PAL.i r5 PAL.n) := by kernel_rfl
theorem q38x3 (h : Hp) (S : Nat → PAL → Option Value) (r5 : Int) (r11 : Int) (r12 : Int) (c2x0 : Int) (c2x1 : Value) (c2x2 : Value) (c2x3 : Value) (c3 : List Value) : P38x3 h S r5 r11 r12 c2x0 c2x1 c2x2 c2x3 c3 = G.stepAt packP unpackP evXV (regP env pf7 nt38 h) (finP env Tryz.f38.results.toList) (G.collect B38 A38 []) 3 S (PAL.i r5 (PAL.i r11 (PAL.i r12 (PAL.i c2x0 (PAL.v c2x1 (PAL.v c2x2 (PAL.v c2x3 (PAL.l c3 PAL.n)))))))) := by kernel_rfl
theorem q38x2 (h : Hp) (S : Nat → PAL → Option Value) (r5 : Int) (r6 : Int) (r7 : Int) (r11 : Int) (r12 : Int) (r22 : Int) (r23 : Int) (c2x0 : Int) (c2x1 : Value) (c2x2 : Value) (c2x3 : Value) (c3 : List Value) : P38x2 h S r5 r6 r7 r11 r12 r22 r23 c2x0 c2x1 c2x2 c2x3 c3 = G.stepAt packP unpackP evXV (regP env pf7 nt38 h) (finP env Tryz.f38.results.toList) (G.collect B38 A38 []) 2 S (PAL.i r5 (PAL.i r6 (PAL.i r7 (PAL.i r11 (PAL.i r12 (PAL.i r22 (PAL.i r23 (PAL.i c2x0 (PAL.v c2x1 (PAL.v c2x2 (PAL.v c2x3 (PAL.l c3 PAL.n)))))))))))) := by kernel_rfl
theorem q38x1 (h : Hp) (S : Nat → PAL → Option Value) (r5 : Int) (r11 : Int) (r12 : Int) (c2x0 : Int) (c2x1 : Value) (c2x2 : Value) (c2x3 : Value) (c3 : List Value) : P38x1 h S r5 r11 r12 c2x0 c2x1 c2x2 c2x3 c3 = G.stepAt packP unpackP evXV (regP env pf7 nt38 h) (finP env Tryz.f38.results.toList) (G.collect B38 A38 []) 1 S (PAL.i r5 (PAL.i r11 (PAL.i r12 (PAL.i c2x0 (PAL.v c2x1 (PAL.v c2x2 (PAL.v c2x3 (PAL.l c3 PAL.n)))))))) := by kernel_rfl
theorem q38x0 (h : Hp) (S : Nat → PAL → Option Value) (r0 : Value) (r1 : Value) : P38x0 h S r0 r1 = G.stepAt packP unpackP evXV (regP env pf7 nt38 h) (finP env Tryz.f38.results.toList) (G.collect B38 A38 []) 0 S (PAL.v r0 (PAL.v r1 PAL.n)) := by kernel_rfl
theorem t38 (h : Hp) (S : Nat → PAL → Option Value) : TabP (fun l al => G.stepAt packP unpackP evXV (regP env pf7 nt38 h) (finP env Tryz.f38.results.toList) (G.collect B38 A38 []) l S al) (T38 h S) := by
  unfold T38
  refine TabP.cons 0 (fun vs0 q e0 => ?_) ?_
  · obtain ⟨r0, vs1, rfl, e1⟩ := wV_some e0
    obtain ⟨r1, vs2, rfl, e2⟩ := wV_some e1
    obtain ⟨rfl, ee⟩ := wN_some e2
    exact (q38x0 h S r0 r1).symm.trans ee
  refine TabP.cons 1 (fun vs0 q e0 => ?_) ?_
  · obtain ⟨r5, vs1, rfl, e1⟩ := wI_some e0
    obtain ⟨r11, vs2, rfl, e2⟩ := wI_some e1
    obtain ⟨r12, vs3, rfl, e3⟩ := wI_some e2
    obtain ⟨c2x0, vs4, rfl, e4⟩ := wI_some e3
    obtain ⟨c2x1, vs5, rfl, e5⟩ := wV_some e4
    obtain ⟨c2x2, vs6, rfl, e6⟩ := wV_some e5
    obtain ⟨c2x3, vs7, rfl, e7⟩ := wV_some e6
    obtain ⟨c3, vs8, rfl, e8⟩ := wL_some e7
    obtain ⟨rfl, ee⟩ := wN_some e8
    exact (q38x1 h S r5 r11 r12 c2x0 c2x1 c2x2 c2x3 c3).symm.trans ee
  refine TabP.cons 2 (fun vs0 q e0 => ?_) ?_
  · obtain ⟨r5, vs1, rfl, e1⟩ := wI_some e0
    obtain ⟨r6, vs2, rfl, e2⟩ := wI_some e1
    obtain ⟨r7, vs3, rfl, e3⟩ := wI_some e2
    obtain ⟨r11, vs4, rfl, e4⟩ := wI_some e3
    obtain ⟨r12, vs5, rfl, e5⟩ := wI_some e4
    obtain ⟨r22, vs6, rfl, e6⟩ := wI_some e5
    obtain ⟨r23, vs7, rfl, e7⟩ := wI_some e6
    obtain ⟨c2x0, vs8, rfl, e8⟩ := wI_some e7
    obtain ⟨c2x1, vs9, rfl, e9⟩ := wV_some e8
    obtain ⟨c2x2, vs10, rfl, e10⟩ := wV_some e9
    obtain ⟨c2x3, vs11, rfl, e11⟩ := wV_some e10
    obtain ⟨c3, vs12, rfl, e12⟩ := wL_some e11
    obtain ⟨rfl, ee⟩ := wN_some e12
    exact (q38x2 h S r5 r6 r7 r11 r12 r22 r23 c2x0 c2x1 c2x2 c2x3 c3).symm.trans ee
  refine TabP.cons 3 (fun vs0 q e0 => ?_) ?_
  · obtain ⟨r5, vs1, rfl, e1⟩ := wI_some e0
    obtain ⟨r11, vs2, rfl, e2⟩ := wI_some e1
    obtain ⟨r12, vs3, rfl, e3⟩ := wI_some e2
    obtain ⟨c2x0, vs4, rfl, e4⟩ := wI_some e3
    obtain ⟨c2x1, vs5, rfl, e5⟩ := wV_some e4
    obtain ⟨c2x2, vs6, rfl, e6⟩ := wV_some e5
    obtain ⟨c2x3, vs7, rfl, e7⟩ := wV_some e6
    obtain ⟨c3, vs8, rfl, e8⟩ := wL_some e7
    obtain ⟨rfl, ee⟩ := wN_some e8
    exact (q38x3 h S r5 r11 r12 c2x0 c2x1 c2x2 c2x3 c3).symm.trans ee
  refine TabP.cons 4 (fun vs0 q e0 => ?_) ?_
  · obtain ⟨r5, vs1, rfl, e1⟩ := wI_some e0
    obtain ⟨rfl, ee⟩ := wN_some e1
    exact (q38x4 h S r5).symm.trans ee
  exact TabP.nil
theorem r38 : PSound Tryz.prog 38 F38 := fun_soundP (C := C0) ok0 (pf := pf7) pfok7 (fn := Tryz.f38) (body := B38) (kinds := [Kd.v, Kd.v]) (A := A38) (T := T38) (by kernel_rfl) (by kernel_rfl) (by kernel_rfl) (by kernel_rfl) (fun h S => t38 h S)
noncomputable def pf8 : PF := pfC 38 F38 pf7
theorem pfok8 : PfSound Tryz.prog pf8 := pfC_ok r38 pfok7
noncomputable def orc8 := orcP 38 F38 orc7
noncomputable def C8 : Cfg := cfg orc8
theorem ok8 : C8.Ok := orcP_ok (C := C7) ok7 r38
end Go.Proofs.YtgggdoahikgacaaGreatDoor.K
