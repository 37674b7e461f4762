/- Functions told. -/
import Derived.Test.YtpjflnjlmjnmjaaGreatDoorFsTab
open Go Go.Eng
set_option maxRecDepth 100000
set_option linter.unusedVariables false
namespace Go.Proofs.YtpjflnjlmjnmjaaGreatDoor.K
noncomputable def B96 : Code := (Tryz.f96.body).getD .skip
noncomputable def A96 : G.Ann (List KI) := (G.Ann.node (some (0, [KI.reg 0 (Kd.v), KI.reg 1 (Kd.v)])) G.Ann.nil (G.Ann.node none G.Ann.nil G.Ann.nil))
noncomputable def P96x0 (h : Hp) (S : Nat → PAL → Option Value) (r0 : Value) (r1 : Value) : Option Value :=
  forceL (Array.toList (Value.cells r0)) fun c0 =>
  nthR c0 0 fun v1 =>
  ptrAddK 0 r1 fun v2 =>
  load1K h v2 fun v3 =>
  optK (binV env .eql 9 (Operand.tmp 5) (Operand.tmp 7) v1 v3) fun v4 =>
  boolK v4 fun b5 =>
  some (Value.bool b5)
noncomputable def T96 (h : Hp) (S : Nat → PAL → Option Value) : Nat → PAL → Option Value := tabPC 0 (wV fun r0 => wV fun r1 => wN (P96x0 h S r0 r1)) (tabPN)
noncomputable def F96 (args : List Value) (h : Hp) : Option Value := plainO (packArgs [Kd.v, Kd.v] args fun al => G.rec' (T96 h) 1000000 0 al)
def nt96 : Nat := 2 + (9 - 2)
theorem q96x0 (h : Hp) (S : Nat → PAL → Option Value) (r0 : Value) (r1 : Value) : P96x0 h S r0 r1 = G.stepAt packP unpackP evXV (regP env pf0 nt96 h) (finP env Tryz.f96.results.toList) (G.collect B96 A96 []) 0 S (PAL.v r0 (PAL.v r1 PAL.n)) := by kernel_rfl
theorem t96 (h : Hp) (S : Nat → PAL → Option Value) : TabP (fun l al => G.stepAt packP unpackP evXV (regP env pf0 nt96 h) (finP env Tryz.f96.results.toList) (G.collect B96 A96 []) l S al) (T96 h S) := by
  unfold T96
  refine TabP.cons 0 (fun vs0 q e0 => ?_) ?_
  · obtain ⟨r0, vs1, rfl, e1⟩ := wV_some e0
    obtain ⟨r1, vs2, rfl, e2⟩ := wV_some e1
    obtain ⟨rfl, ee⟩ := wN_some e2
    exact (q96x0 h S r0 r1).symm.trans ee
  exact TabP.nil
theorem r96 : PSound Tryz.prog 96 F96 := fun_soundP (C := C0) ok0 (pf := pf0) pfok0 (fn := Tryz.f96) (body := B96) (kinds := [Kd.v, Kd.v]) (A := A96) (T := T96) (by kernel_rfl) (by kernel_rfl) (by kernel_rfl) (by kernel_rfl) (fun h S => t96 h S)
noncomputable def pf1 : PF := pfC 96 F96 pf0
theorem pfok1 : PfSound Tryz.prog pf1 := pfC_ok r96 pfok0
noncomputable def orc1 := orcP 96 F96 orc0
noncomputable def C1 : Cfg := cfg orc1
theorem ok1 : C1.Ok := orcP_ok (C := C0) ok0 r96
noncomputable def B54 : Code := (Tryz.f54.body).getD .skip
noncomputable def A54 : G.Ann (List KI) := (G.Ann.node (some (0, [KI.reg 0 (Kd.i .i64), KI.reg 1 (Kd.i .i64), KI.reg 2 (Kd.v)])) G.Ann.nil (G.Ann.node none (G.Ann.node none G.Ann.nil (G.Ann.node none (G.Ann.node (some (1, [KI.reg 0 (Kd.i .i64), KI.reg 1 (Kd.i .i64), KI.reg 9 (Kd.v), KI.reg 10 (Kd.i .i64), KI.reg 11 (Kd.i .i64)])) (G.Ann.node none G.Ann.nil (G.Ann.node none (G.Ann.node none G.Ann.nil G.Ann.nil) (G.Ann.node none (G.Ann.node none (G.Ann.node none G.Ann.nil (G.Ann.node none G.Ann.nil (G.Ann.node none (G.Ann.node none G.Ann.nil G.Ann.nil) G.Ann.nil))) G.Ann.nil) G.Ann.nil))) G.Ann.nil) G.Ann.nil)) (G.Ann.node (some (2, [])) G.Ann.nil G.Ann.nil)))
noncomputable def P54x2 (h : Hp) (S : Nat → PAL → Option Value) : Option Value :=
  some (Value.bool true)
noncomputable def P54x1 (h : Hp) (S : Nat → PAL → Option Value) (r0 : Int) (r1 : Int) (r9 : Value) (r10 : Int) (r11 : Int) : Option Value :=
  boolZ (ltZ r11 r10) fun b0 =>
  ifB b0
  (idxSK 1 r9 r11 fun v1 =>
  load1K h v1 fun v2 =>
  intK .i64 v2 fun i3 =>
  boolZ (ltZ i3 r0) fun b4 =>
  ifB b4
  (some (Value.bool false))
  (boolZ (ltZ r1 i3) fun b5 =>
  ifB b5
  (some (Value.bool false))
  (wrap64 (Int.add r11 (Int.ofNat 1)) fun i6 =>
  S 1 (PAL.i r0 (PAL.i r1 (PAL.v r9 (PAL.i r10 (PAL.i i6 PAL.n))))))))
  (S 2 PAL.n)
noncomputable def P54x0 (h : Hp) (S : Nat → PAL → Option Value) (r0 : Int) (r1 : Int) (r2 : Value) : Option Value :=
  lenSK r2 fun i0 =>
  S 1 (PAL.i r0 (PAL.i r1 (PAL.v r2 (PAL.i i0 (PAL.i (Int.ofNat 0) PAL.n)))))
noncomputable def T54 (h : Hp) (S : Nat → PAL → Option Value) : Nat → PAL → Option Value := tabPC 0 (wI fun r0 => wI fun r1 => wV fun r2 => wN (P54x0 h S r0 r1 r2)) (tabPC 1 (wI fun r0 => wI fun r1 => wV fun r9 => wI fun r10 => wI fun r11 => wN (P54x1 h S r0 r1 r9 r10 r11)) (tabPC 2 (wN (P54x2 h S)) (tabPN)))
noncomputable def F54 (args : List Value) (h : Hp) : Option Value := plainO (packArgs [Kd.i .i64, Kd.i .i64, Kd.v] args fun al => G.rec' (T54 h) 1000000 0 al)
def nt54 : Nat := 3 + (24 - 3)
theorem q54x2 (h : Hp) (S : Nat → PAL → Option Value) : P54x2 h S = G.stepAt packP unpackP evXV (regP env pf1 nt54 h) (finP env Tryz.f54.results.toList) (G.collect B54 A54 []) 2 S PAL.n := by kernel_rfl
theorem q54x1 (h : Hp) (S : Nat → PAL → Option Value) (r0 : Int) (r1 : Int) (r9 : Value) (r10 : Int) (r11 : Int) : P54x1 h S r0 r1 r9 r10 r11 = G.stepAt packP unpackP evXV (regP env pf1 nt54 h) (finP env Tryz.f54.results.toList) (G.collect B54 A54 []) 1 S (PAL.i r0 (PAL.i r1 (PAL.v r9 (PAL.i r10 (PAL.i r11 PAL.n))))) := by kernel_rfl
theorem q54x0 (h : Hp) (S : Nat → PAL → Option Value) (r0 : Int) (r1 : Int) (r2 : Value) : P54x0 h S r0 r1 r2 = G.stepAt packP unpackP evXV (regP env pf1 nt54 h) (finP env Tryz.f54.results.toList) (G.collect B54 A54 []) 0 S (PAL.i r0 (PAL.i r1 (PAL.v r2 PAL.n))) := by kernel_rfl
theorem t54 (h : Hp) (S : Nat → PAL → Option Value) : TabP (fun l al => G.stepAt packP unpackP evXV (regP env pf1 nt54 h) (finP env Tryz.f54.results.toList) (G.collect B54 A54 []) l S al) (T54 h S) := by
  unfold T54
  refine TabP.cons 0 (fun vs0 q e0 => ?_) ?_
  · obtain ⟨r0, vs1, rfl, e1⟩ := wI_some e0
    obtain ⟨r1, vs2, rfl, e2⟩ := wI_some e1
    obtain ⟨r2, vs3, rfl, e3⟩ := wV_some e2
    obtain ⟨rfl, ee⟩ := wN_some e3
    exact (q54x0 h S r0 r1 r2).symm.trans ee
  refine TabP.cons 1 (fun vs0 q e0 => ?_) ?_
  · obtain ⟨r0, vs1, rfl, e1⟩ := wI_some e0
    obtain ⟨r1, vs2, rfl, e2⟩ := wI_some e1
    obtain ⟨r9, vs3, rfl, e3⟩ := wV_some e2
    obtain ⟨r10, vs4, rfl, e4⟩ := wI_some e3
    obtain ⟨r11, vs5, rfl, e5⟩ := wI_some e4
    obtain ⟨rfl, ee⟩ := wN_some e5
    exact (q54x1 h S r0 r1 r9 r10 r11).symm.trans ee
  refine TabP.cons 2 (fun vs0 q e0 => ?_) ?_
  · 
    obtain ⟨rfl, ee⟩ := wN_some e0
    exact (q54x2 h S).symm.trans ee
  exact TabP.nil
theorem r54 : PSound Tryz.prog 54 F54 := fun_soundP (C := C0) ok0 (pf := pf1) pfok1 (fn := Tryz.f54) (body := B54) (kinds := [Kd.i .i64, Kd.i .i64, Kd.v]) (A := A54) (T := T54) (by kernel_rfl) (by kernel_rfl) (by kernel_rfl) (by kernel_rfl) (fun h S => t54 h S)
noncomputable def pf2 : PF := pfC 54 F54 pf1
theorem pfok2 : PfSound Tryz.prog pf2 := pfC_ok r54 pfok1
noncomputable def orc2 := orcP 54 F54 orc1
noncomputable def C2 : Cfg := cfg orc2
theorem ok2 : C2.Ok := orcP_ok (C := C1) ok1 r54
noncomputable def B140 : Code := (Tryz.f140.body).getD .skip
noncomputable def A140 : G.Ann (List KI) := (G.Ann.node (some (0, [KI.reg 0 (Kd.i .u8)])) G.Ann.nil (G.Ann.node none G.Ann.nil G.Ann.nil))
noncomputable def P140x0 (h : Hp) (S : Nat → PAL → Option Value) (r0 : Int) : Option Value :=
  boolN (ltZ r0 (Int.ofNat 97)) fun b0 =>
  ifB b0
  (boolN (ltZ (Int.ofNat 122) r0) fun b1 =>
  some (Value.bool b1))
  (some (Value.bool false))
noncomputable def T140 (h : Hp) (S : Nat → PAL → Option Value) : Nat → PAL → Option Value := tabPC 0 (wI fun r0 => wN (P140x0 h S r0)) (tabPN)
noncomputable def F140 (args : List Value) (h : Hp) : Option Value := plainO (packArgs [Kd.i .u8] args fun al => G.rec' (T140 h) 1000000 0 al)
def nt140 : Nat := 1 + (9 - 1)
theorem q140x0 (h : Hp) (S : Nat → PAL → Option Value) (r0 : Int) : P140x0 h S r0 = G.stepAt packP unpackP evXV (regP env pf2 nt140 h) (finP env Tryz.f140.results.toList) (G.collect B140 A140 []) 0 S (PAL.i r0 PAL.n) := by kernel_rfl
theorem t140 (h : Hp) (S : Nat → PAL → Option Value) : TabP (fun l al => G.stepAt packP unpackP evXV (regP env pf2 nt140 h) (finP env Tryz.f140.results.toList) (G.collect B140 A140 []) l S al) (T140 h S) := by
  unfold T140
  refine TabP.cons 0 (fun vs0 q e0 => ?_) ?_
  · obtain ⟨r0, vs1, rfl, e1⟩ := wI_some e0
    obtain ⟨rfl, ee⟩ := wN_some e1
    exact (q140x0 h S r0).symm.trans ee
  exact TabP.nil
theorem r140 : PSound Tryz.prog 140 F140 := fun_soundP (C := C0) ok0 (pf := pf2) pfok2 (fn := Tryz.f140) (body := B140) (kinds := [Kd.i .u8]) (A := A140) (T := T140) (by kernel_rfl) (by kernel_rfl) (by kernel_rfl) (by kernel_rfl) (fun h S => t140 h S)
noncomputable def pf3 : PF := pfC 140 F140 pf2
theorem pfok3 : PfSound Tryz.prog pf3 := pfC_ok r140 pfok2
noncomputable def orc3 := orcP 140 F140 orc2
noncomputable def C3 : Cfg := cfg orc3
theorem ok3 : C3.Ok := orcP_ok (C := C2) ok2 r140
noncomputable def B141 : Code := (Tryz.f141.body).getD .skip
noncomputable def A141 : G.Ann (List KI) := (G.Ann.node (some (0, [KI.reg 0 (Kd.i .u8)])) G.Ann.nil (G.Ann.node none G.Ann.nil G.Ann.nil))
noncomputable def P141x0 (h : Hp) (S : Nat → PAL → Option Value) (r0 : Int) : Option Value :=
  boolN (ltZ r0 (Int.ofNat 48)) fun b0 =>
  ifB b0
  (boolN (ltZ (Int.ofNat 57) r0) fun b1 =>
  some (Value.bool b1))
  (some (Value.bool false))
noncomputable def T141 (h : Hp) (S : Nat → PAL → Option Value) : Nat → PAL → Option Value := tabPC 0 (wI fun r0 => wN (P141x0 h S r0)) (tabPN)
noncomputable def F141 (args : List Value) (h : Hp) : Option Value := plainO (packArgs [Kd.i .u8] args fun al => G.rec' (T141 h) 1000000 0 al)
def nt141 : Nat := 1 + (9 - 1)
theorem q141x0 (h : Hp) (S : Nat → PAL → Option Value) (r0 : Int) : P141x0 h S r0 = G.stepAt packP unpackP evXV (regP env pf3 nt141 h) (finP env Tryz.f141.results.toList) (G.collect B141 A141 []) 0 S (PAL.i r0 PAL.n) := by kernel_rfl
theorem t141 (h : Hp) (S : Nat → PAL → Option Value) : TabP (fun l al => G.stepAt packP unpackP evXV (regP env pf3 nt141 h) (finP env Tryz.f141.results.toList) (G.collect B141 A141 []) l S al) (T141 h S) := by
  unfold T141
  refine TabP.cons 0 (fun vs0 q e0 => ?_) ?_
  · obtain ⟨r0, vs1, rfl, e1⟩ := wI_some e0
    obtain ⟨rfl, ee⟩ := wN_some e1
    exact (q141x0 h S r0).symm.trans ee
  exact TabP.nil
theorem r141 : PSound Tryz.prog 141 F141 := fun_soundP (C := C0) ok0 (pf := pf3) pfok3 (fn := Tryz.f141) (body := B141) (kinds := [Kd.i .u8]) (A := A141) (T := T141) (by kernel_rfl) (by kernel_rfl) (by kernel_rfl) (by kernel_rfl) (fun h S => t141 h S)
noncomputable def pf4 : PF := pfC 141 F141 pf3
theorem pfok4 : PfSound Tryz.prog pf4 := pfC_ok r141 pfok3
noncomputable def orc4 := orcP 141 F141 orc3
noncomputable def C4 : Cfg := cfg orc4
theorem ok4 : C4.Ok := orcP_ok (C := C3) ok3 r141
noncomputable def B94 : Code := (Tryz.f94.body).getD .skip
def A94 : Ann := (Ann.node (some (0, [(0, Kd.v)])) Ann.nil (Ann.node none (Ann.node none Ann.nil (Ann.node none (Ann.node none Ann.nil Ann.nil) Ann.nil)) (Ann.node none (Ann.node none Ann.nil (Ann.node none (Ann.node (some (1, [(0, Kd.v), (16, Kd.i .i64), (17, Kd.i .i64)])) (Ann.node none Ann.nil (Ann.node none (Ann.node none Ann.nil Ann.nil) (Ann.node none (Ann.node none (Ann.node none Ann.nil (Ann.node none Ann.nil (Ann.node none (Ann.node none Ann.nil Ann.nil) Ann.nil))) Ann.nil) Ann.nil))) Ann.nil) Ann.nil)) (Ann.node (some (2, [])) Ann.nil Ann.nil))))
noncomputable def P94x2 (S : Sg) (h : Hp) : CRes :=
  some ((Value.bool true), h)
noncomputable def P94x1 (S : Sg) (r0 : Value) (r16 : Int) (r17 : Int) (h : Hp) : CRes :=
  boolZ (ltZ r17 r16) fun b0 =>
  ifB b0
  (optK (indexV env 9 r0 (Value.int .i64 r17)) fun v1 =>
  intK .u8 v1 fun i2 =>
  pairK (optK (F140 [(Value.int .u8 i2)] h) fun v => some (v, h)) fun v3 h3 =>
  boolK v3 fun b4 =>
  boolN b4 fun b5 =>
  ifB b5
  (optK (indexV env 9 r0 (Value.int .i64 r17)) fun v6 =>
  intK .u8 v6 fun i7 =>
  pairK (optK (F141 [(Value.int .u8 i7)] h3) fun v => some (v, h3)) fun v8 h8 =>
  boolK v8 fun b9 =>
  boolN b9 fun b10 =>
  ifB b10
  (optK (indexV env 9 r0 (Value.int .i64 r17)) fun v11 =>
  intK .u8 v11 fun i12 =>
  boolN (eqZ i12 (Int.ofNat 46)) fun b13 =>
  ifB b13
  (some ((Value.bool false), h8))
  (wrap64 (Int.add r17 (Int.ofNat 1)) fun i14 =>
  S 1 (AL.v r0 (AL.i r16 (AL.i i14 AL.n))) h8))
  (wrap64 (Int.add r17 (Int.ofNat 1)) fun i15 =>
  S 1 (AL.v r0 (AL.i r16 (AL.i i15 AL.n))) h8))
  (wrap64 (Int.add r17 (Int.ofNat 1)) fun i16 =>
  S 1 (AL.v r0 (AL.i r16 (AL.i i16 AL.n))) h3))
  (S 2 AL.n h)
noncomputable def P94x0 (S : Sg) (r0 : Value) (h : Hp) : CRes :=
  lenBK r0 fun i0 =>
  pairK (buildSliceV env h 23 1 (List.toArray [(0, (Value.int .i64 i0))])) fun v1 h1 =>
  pairK (optK (F54 [(Value.int .i64 (Int.ofNat 1)), (Value.int .i64 (Int.ofNat 16)), v1] h1) fun v => some (v, h1)) fun v2 h2 =>
  boolK v2 fun b3 =>
  boolN b3 fun b4 =>
  ifB b4
  (some ((Value.bool false), h2))
  (optK (indexV env 9 r0 (Value.int .i64 (Int.ofNat 0))) fun v5 =>
  intK .u8 v5 fun i6 =>
  pairK (optK (F140 [(Value.int .u8 i6)] h2) fun v => some (v, h2)) fun v7 h7 =>
  boolK v7 fun b8 =>
  boolN b8 fun b9 =>
  ifB b9
  (some ((Value.bool false), h7))
  (lenBK r0 fun i10 =>
  S 1 (AL.v r0 (AL.i i10 (AL.i (Int.ofNat 0) AL.n))) h7))
noncomputable def T94 (S : Sg) : Sg := tabC 0 (uV fun r0 => uN fun h => P94x0 S r0 h) (tabC 1 (uV fun r0 => uI fun r16 => uI fun r17 => uN fun h => P94x1 S r0 r16 r17 h) (tabC 2 (uN fun h => P94x2 S  h) (tabN)))
noncomputable def F94 (args : List Value) (h : Hp) : CRes := packVals [Kd.v] args fun al => rec' T94 1000000 0 al h
def nt94 : Nat := 1 + (39 - 1)
theorem q94x2 (S : Sg) (h : Hp) : P94x2 S  h = stepAt (regK env orc4 (nt94)) (finK env Tryz.f94.results.toList) (collect B94 A94 []) 2 S AL.n h := by kernel_rfl
theorem q94x1 (S : Sg) (r0 : Value) (r16 : Int) (r17 : Int) (h : Hp) : P94x1 S r0 r16 r17 h = stepAt (regK env orc4 (nt94)) (finK env Tryz.f94.results.toList) (collect B94 A94 []) 1 S (AL.v r0 (AL.i r16 (AL.i r17 AL.n))) h := by kernel_rfl
theorem q94x0 (S : Sg) (r0 : Value) (h : Hp) : P94x0 S r0 h = stepAt (regK env orc4 (nt94)) (finK env Tryz.f94.results.toList) (collect B94 A94 []) 0 S (AL.v r0 AL.n) h := by kernel_rfl
theorem t94 (S : Sg) : Tab (fun l vs h => stepAt (regK env orc4 nt94) (finK env Tryz.f94.results.toList) (collect B94 A94 []) l S vs h) (T94 S) := by
  unfold T94
  refine Tab.cons 0 (fun vs0 h q e0 => ?_) ?_
  · obtain ⟨r0, vs1, rfl, e1⟩ := uV_some e0
    obtain ⟨rfl, ee⟩ := uN_some e1
    exact (q94x0 S r0 h).symm.trans ee
  refine Tab.cons 1 (fun vs0 h q e0 => ?_) ?_
  · obtain ⟨r0, vs1, rfl, e1⟩ := uV_some e0
    obtain ⟨r16, vs2, rfl, e2⟩ := uI_some e1
    obtain ⟨r17, vs3, rfl, e3⟩ := uI_some e2
    obtain ⟨rfl, ee⟩ := uN_some e3
    exact (q94x1 S r0 r16 r17 h).symm.trans ee
  refine Tab.cons 2 (fun vs0 h q e0 => ?_) ?_
  · 
    obtain ⟨rfl, ee⟩ := uN_some e0
    exact (q94x2 S  h).symm.trans ee
  exact Tab.nil
theorem r94 : ∀ args h v h', F94 args h = some (v, h') → Runs (C4) (.call 94 args.toArray h) (.ret v h') := by
  intro args h v h' e
  exact fun_sound (C := C4) (fn := Tryz.f94) (body := B94) (np := 1) (A := A94) (T := T94) (kinds := [Kd.v]) (by kernel_rfl) (by kernel_rfl) (by kernel_rfl) (by kernel_rfl) (regK_ok env_ok) (by kernel_rfl) (fun S => t94 S) e
noncomputable def orc5 := orcQ 94 F94 orc4
noncomputable def C5 : Cfg := cfg orc5
theorem ok5 : C5.Ok := orcQ_ok (C := C4) ok4 r94
noncomputable def B142 : Code := (Tryz.f142.body).getD .skip
def A142 : Ann := (Ann.node (some (0, [(0, Kd.v), (1, Kd.v)])) Ann.nil (Ann.node none (Ann.node none Ann.nil (Ann.node none (Ann.node (some (1, [(0, Kd.v), (1, Kd.v), (7, Kd.i .i64), (8, Kd.i .i64)])) (Ann.node none Ann.nil (Ann.node none (Ann.node none Ann.nil Ann.nil) (Ann.node none (Ann.node none (Ann.node none Ann.nil (Ann.node none Ann.nil (Ann.node none (Ann.node none Ann.nil Ann.nil) Ann.nil))) Ann.nil) Ann.nil))) Ann.nil) Ann.nil)) (Ann.node (some (2, [])) Ann.nil Ann.nil)))
noncomputable def P142x2 (S : Sg) (h : Hp) : CRes :=
  some ((Value.int .i64 (Int.negSucc 0)), h)
noncomputable def P142x1 (S : Sg) (r0 : Value) (r1 : Value) (r7 : Int) (r8 : Int) (h : Hp) : CRes :=
  boolZ (ltZ r8 r7) fun b0 =>
  ifB b0
  (idxSK 4 r0 r8 fun v1 =>
  loadNK 4 h v1 fun v2 =>
  pairK (callF orc5 r1 [v2] h) fun v3 h3 =>
  boolK v3 fun b4 =>
  ifB b4
  (some ((Value.int .i64 r8), h3))
  (wrap64 (Int.add r8 (Int.ofNat 1)) fun i5 =>
  S 1 (AL.v r0 (AL.v r1 (AL.i r7 (AL.i i5 AL.n)))) h3))
  (S 2 AL.n h)
noncomputable def P142x0 (S : Sg) (r0 : Value) (r1 : Value) (h : Hp) : CRes :=
  lenSK r0 fun i0 =>
  S 1 (AL.v r0 (AL.v r1 (AL.i i0 (AL.i (Int.ofNat 0) AL.n)))) h
noncomputable def T142 (S : Sg) : Sg := tabC 0 (uV fun r0 => uV fun r1 => uN fun h => P142x0 S r0 r1 h) (tabC 1 (uV fun r0 => uV fun r1 => uI fun r7 => uI fun r8 => uN fun h => P142x1 S r0 r1 r7 r8 h) (tabC 2 (uN fun h => P142x2 S  h) (tabN)))
noncomputable def F142 (args : List Value) (h : Hp) : CRes := packVals [Kd.v, Kd.v] args fun al => rec' T142 1000000 0 al h
def nt142 : Nat := 2 + (19 - 2)
theorem q142x2 (S : Sg) (h : Hp) : P142x2 S  h = stepAt (regK env orc5 (nt142)) (finK env Tryz.f142.results.toList) (collect B142 A142 []) 2 S AL.n h := by kernel_rfl
theorem q142x1 (S : Sg) (r0 : Value) (r1 : Value) (r7 : Int) (r8 : Int) (h : Hp) : P142x1 S r0 r1 r7 r8 h = stepAt (regK env orc5 (nt142)) (finK env Tryz.f142.results.toList) (collect B142 A142 []) 1 S (AL.v r0 (AL.v r1 (AL.i r7 (AL.i r8 AL.n)))) h := by kernel_rfl
theorem q142x0 (S : Sg) (r0 : Value) (r1 : Value) (h : Hp) : P142x0 S r0 r1 h = stepAt (regK env orc5 (nt142)) (finK env Tryz.f142.results.toList) (collect B142 A142 []) 0 S (AL.v r0 (AL.v r1 AL.n)) h := by kernel_rfl
theorem t142 (S : Sg) : Tab (fun l vs h => stepAt (regK env orc5 nt142) (finK env Tryz.f142.results.toList) (collect B142 A142 []) l S vs h) (T142 S) := by
  unfold T142
  refine Tab.cons 0 (fun vs0 h q e0 => ?_) ?_
  · obtain ⟨r0, vs1, rfl, e1⟩ := uV_some e0
    obtain ⟨r1, vs2, rfl, e2⟩ := uV_some e1
    obtain ⟨rfl, ee⟩ := uN_some e2
    exact (q142x0 S r0 r1 h).symm.trans ee
  refine Tab.cons 1 (fun vs0 h q e0 => ?_) ?_
  · obtain ⟨r0, vs1, rfl, e1⟩ := uV_some e0
    obtain ⟨r1, vs2, rfl, e2⟩ := uV_some e1
    obtain ⟨r7, vs3, rfl, e3⟩ := uI_some e2
    obtain ⟨r8, vs4, rfl, e4⟩ := uI_some e3
    obtain ⟨rfl, ee⟩ := uN_some e4
    exact (q142x1 S r0 r1 r7 r8 h).symm.trans ee
  refine Tab.cons 2 (fun vs0 h q e0 => ?_) ?_
  · 
    obtain ⟨rfl, ee⟩ := uN_some e0
    exact (q142x2 S  h).symm.trans ee
  exact Tab.nil
theorem r142 : ∀ args h v h', F142 args h = some (v, h') → Runs (C5) (.call 142 args.toArray h) (.ret v h') := by
  intro args h v h' e
  exact fun_sound (C := C5) (fn := Tryz.f142) (body := B142) (np := 2) (A := A142) (T := T142) (kinds := [Kd.v, Kd.v]) (by kernel_rfl) (by kernel_rfl) (by kernel_rfl) (by kernel_rfl) (regK_ok env_ok) (by kernel_rfl) (fun S => t142 S) e
noncomputable def orc6 := orcQ 142 F142 orc5
noncomputable def C6 : Cfg := cfg orc6
theorem ok6 : C6.Ok := orcQ_ok (C := C5) ok5 r142
noncomputable def B95 : Code := (Tryz.f95.body).getD .skip
def A95 : Ann := (Ann.node (some (0, [(0, Kd.v), (1, Kd.v)])) Ann.nil (Ann.node none Ann.nil Ann.nil))
noncomputable def P95x0 (S : Sg) (r0 : Value) (r1 : Value) (h : Hp) : CRes :=
  pairK (callQ F142 [r0, r1] h) fun v0 h0 =>
  intK .i64 v0 fun i1 =>
  boolN (ltZ i1 (Int.ofNat 0)) fun b2 =>
  some ((Value.bool b2), h0)
noncomputable def T95 (S : Sg) : Sg := tabC 0 (uV fun r0 => uV fun r1 => uN fun h => P95x0 S r0 r1 h) (tabN)
noncomputable def F95 (args : List Value) (h : Hp) : CRes := packVals [Kd.v, Kd.v] args fun al => rec' T95 1000000 0 al h
def nt95 : Nat := 2 + (9 - 2)
theorem q95x0 (S : Sg) (r0 : Value) (r1 : Value) (h : Hp) : P95x0 S r0 r1 h = stepAt (regK env orc6 (nt95)) (finK env Tryz.f95.results.toList) (collect B95 A95 []) 0 S (AL.v r0 (AL.v r1 AL.n)) h := by kernel_rfl
theorem t95 (S : Sg) : Tab (fun l vs h => stepAt (regK env orc6 nt95) (finK env Tryz.f95.results.toList) (collect B95 A95 []) l S vs h) (T95 S) := by
  unfold T95
  refine Tab.cons 0 (fun vs0 h q e0 => ?_) ?_
  · obtain ⟨r0, vs1, rfl, e1⟩ := uV_some e0
    obtain ⟨r1, vs2, rfl, e2⟩ := uV_some e1
    obtain ⟨rfl, ee⟩ := uN_some e2
    exact (q95x0 S r0 r1 h).symm.trans ee
  exact Tab.nil
theorem r95 : ∀ args h v h', F95 args h = some (v, h') → Runs (C6) (.call 95 args.toArray h) (.ret v h') := by
  intro args h v h' e
  exact fun_sound (C := C6) (fn := Tryz.f95) (body := B95) (np := 2) (A := A95) (T := T95) (kinds := [Kd.v, Kd.v]) (by kernel_rfl) (by kernel_rfl) (by kernel_rfl) (by kernel_rfl) (regK_ok env_ok) (by kernel_rfl) (fun S => t95 S) e
noncomputable def orc7 := orcQ 95 F95 orc6
noncomputable def C7 : Cfg := cfg orc7
theorem ok7 : C7.Ok := orcQ_ok (C := C6) ok6 r95
noncomputable def B56 : Code := (Tryz.f56.body).getD .skip
def A56 : Ann := (Ann.node (some (0, [(0, Kd.v), (1, Kd.v)])) Ann.nil (Ann.node none (Ann.node none (Ann.node none Ann.nil (Ann.node none (Ann.node none Ann.nil Ann.nil) (Ann.node none Ann.nil (Ann.node none (Ann.node none Ann.nil Ann.nil) (Ann.node none Ann.nil (Ann.node none (Ann.node none Ann.nil Ann.nil) (Ann.node none (Ann.node none Ann.nil (Ann.node none Ann.nil Ann.nil)) (Ann.node (some (1, [(0, Kd.v), (3, Kd.v), (19, Kd.b)])) (Ann.node none Ann.nil Ann.nil) (Ann.node none Ann.nil (Ann.node none (Ann.node none Ann.nil Ann.nil) Ann.nil)))))))))) Ann.nil) (Ann.node (some (2, [])) Ann.nil Ann.nil)))
noncomputable def P56x2 (S : Sg) (h : Hp) : CRes :=
  some ((Value.int .i64 (Int.ofNat 0)), h)
noncomputable def P56x1 (S : Sg) (r0 : Value) (r3 : Value) (r19 : Bool) (h : Hp) : CRes :=
  ifB r19
  (some ((Value.int .i64 (Int.ofNat 7)), h))
  (lenSK r0 fun i0 =>
  boolZ (ltZ (Int.ofNat 0) i0) fun b1 =>
  ifB b1
  (ptrAddK 2 r3 fun v2 =>
  load1K h v2 fun v3 =>
  intK .i64 v3 fun i4 =>
  lenSK r0 fun i5 =>
  wrap64 (Int.sub i5 (Int.ofNat 1)) fun i6 =>
  idxSK 4 r0 i6 fun v7 =>
  ptrAddK 2 v7 fun v8 =>
  load1K h v8 fun v9 =>
  intK .i64 v9 fun i10 =>
  boolZ (ltZ i4 i10) fun b11 =>
  ifB b11
  (some ((Value.int .i64 (Int.ofNat 2)), h))
  (S 2 AL.n h))
  (S 2 AL.n h))
noncomputable def P56x0 (S : Sg) (r0 : Value) (r1 : Value) (h : Hp) : CRes :=
  allocK h 76 (Array.toList (Value.cells r1)) fun a0 h0 =>
  ptrAddK 0 a0 fun v1 =>
  load1K h0 v1 fun v2 =>
  pairK (callQ F94 [v2] h0) fun v3 h3 =>
  boolK v3 fun b4 =>
  boolN b4 fun b5 =>
  ifB b5
  (some ((Value.int .i64 (Int.ofNat 6)), h3))
  (pairK (callQ F95 [r0, (Value.func (.func 96) (List.toArray []) (List.toArray [a0]))] h3) fun v6 h6 =>
  boolK v6 fun b7 =>
  ifB b7
  (some ((Value.int .i64 (Int.ofNat 5)), h6))
  (ptrAddK 1 a0 fun v8 =>
  load1K h6 v8 fun v9 =>
  pairK (callQ F94 [v9] h6) fun v10 h10 =>
  boolK v10 fun b11 =>
  boolN b11 fun b12 =>
  ifB b12
  (some ((Value.int .i64 (Int.ofNat 6)), h10))
  (ptrAddK 2 a0 fun v13 =>
  load1K h10 v13 fun v14 =>
  intK .i64 v14 fun i15 =>
  pairK (buildSliceV env h10 23 1 (List.toArray [(0, (Value.int .i64 i15))])) fun v16 h16 =>
  pairK (optK (F54 [(Value.int .i64 (Int.ofNat 0)), (Value.int .i64 (Int.ofNat 9)), v16] h16) fun v => some (v, h16)) fun v17 h17 =>
  boolK v17 fun b18 =>
  boolN b18 fun b19 =>
  ifB b19
  (S 1 (AL.v r0 (AL.v a0 (AL.b b19 AL.n))) h17)
  (ptrAddK 3 a0 fun v20 =>
  load1K h17 v20 fun v21 =>
  intK .i64 v21 fun i22 =>
  pairK (buildSliceV env h17 23 1 (List.toArray [(0, (Value.int .i64 i22))])) fun v23 h23 =>
  pairK (optK (F54 [(Value.int .i64 (Int.ofNat 1)), (Value.int .i64 (Int.ofNat 6)), v23] h23) fun v => some (v, h23)) fun v24 h24 =>
  boolK v24 fun b25 =>
  boolN b25 fun b26 =>
  S 1 (AL.v r0 (AL.v a0 (AL.b b26 AL.n))) h24))))
noncomputable def T56 (S : Sg) : Sg := tabC 0 (uV fun r0 => uV fun r1 => uN fun h => P56x0 S r0 r1 h) (tabC 1 (uV fun r0 => uV fun r3 => uB fun r19 => uN fun h => P56x1 S r0 r3 r19 h) (tabC 2 (uN fun h => P56x2 S  h) (tabN)))
noncomputable def F56 (args : List Value) (h : Hp) : CRes := packVals [Kd.v, Kd.v] args fun al => rec' T56 1000000 0 al h
def nt56 : Nat := 2 + (46 - 2)
theorem q56x2 (S : Sg) (h : Hp) : P56x2 S  h = stepAt (regK env orc7 (nt56)) (finK env Tryz.f56.results.toList) (collect B56 A56 []) 2 S AL.n h := by kernel_rfl
theorem q56x1 (S : Sg) (r0 : Value) (r3 : Value) (r19 : Bool) (h : Hp) : P56x1 S r0 r3 r19 h = stepAt (regK env orc7 (nt56)) (finK env Tryz.f56.results.toList) (collect B56 A56 []) 1 S (AL.v r0 (AL.v r3 (AL.b r19 AL.n))) h := by kernel_rfl
theorem q56x0 (S : Sg) (r0 : Value) (r1 : Value) (h : Hp) : P56x0 S r0 r1 h = stepAt (regK env orc7 (nt56)) (finK env Tryz.f56.results.toList) (collect B56 A56 []) 0 S (AL.v r0 (AL.v r1 AL.n)) h := by kernel_rfl
theorem t56 (S : Sg) : Tab (fun l vs h => stepAt (regK env orc7 nt56) (finK env Tryz.f56.results.toList) (collect B56 A56 []) l S vs h) (T56 S) := by
  unfold T56
  refine Tab.cons 0 (fun vs0 h q e0 => ?_) ?_
  · obtain ⟨r0, vs1, rfl, e1⟩ := uV_some e0
    obtain ⟨r1, vs2, rfl, e2⟩ := uV_some e1
    obtain ⟨rfl, ee⟩ := uN_some e2
    exact (q56x0 S r0 r1 h).symm.trans ee
  refine Tab.cons 1 (fun vs0 h q e0 => ?_) ?_
  · obtain ⟨r0, vs1, rfl, e1⟩ := uV_some e0
    obtain ⟨r3, vs2, rfl, e2⟩ := uV_some e1
    obtain ⟨r19, vs3, rfl, e3⟩ := uB_some e2
    obtain ⟨rfl, ee⟩ := uN_some e3
    exact (q56x1 S r0 r3 r19 h).symm.trans ee
  refine Tab.cons 2 (fun vs0 h q e0 => ?_) ?_
  · 
    obtain ⟨rfl, ee⟩ := uN_some e0
    exact (q56x2 S  h).symm.trans ee
  exact Tab.nil
theorem r56 : ∀ args h v h', F56 args h = some (v, h') → Runs (C7) (.call 56 args.toArray h) (.ret v h') := by
  intro args h v h' e
  exact fun_sound (C := C7) (fn := Tryz.f56) (body := B56) (np := 2) (A := A56) (T := T56) (kinds := [Kd.v, Kd.v]) (by kernel_rfl) (by kernel_rfl) (by kernel_rfl) (by kernel_rfl) (regK_ok env_ok) (by kernel_rfl) (fun S => t56 S) e
noncomputable def orc8 := orcQ 56 F56 orc7
noncomputable def C8 : Cfg := cfg orc8
theorem ok8 : C8.Ok := orcQ_ok (C := C7) ok7 r56
noncomputable def B64 : Code := (Tryz.f64.body).getD .skip
noncomputable def A64 : G.Ann (List KI) := (G.Ann.node (some (0, [KI.reg 0 (Kd.i .i64), KI.reg 1 (Kd.v)])) G.Ann.nil (G.Ann.node none G.Ann.nil G.Ann.nil))
noncomputable def P64x0 (h : Hp) (S : Nat → PAL → Option Value) (r0 : Int) (r1 : Value) : Option Value :=
  wrap64 (Int.sub r0 (Int.ofNat 1)) fun i0 =>
  optK (F54 [(Value.int .i64 (Int.ofNat 0)), (Value.int .i64 i0), r1] h) fun v1 =>
  boolK v1 fun b2 =>
  some (Value.bool b2)
noncomputable def T64 (h : Hp) (S : Nat → PAL → Option Value) : Nat → PAL → Option Value := tabPC 0 (wI fun r0 => wV fun r1 => wN (P64x0 h S r0 r1)) (tabPN)
noncomputable def F64 (args : List Value) (h : Hp) : Option Value := plainO (packArgs [Kd.i .i64, Kd.v] args fun al => G.rec' (T64 h) 1000000 0 al)
def nt64 : Nat := 2 + (9 - 2)
theorem q64x0 (h : Hp) (S : Nat → PAL → Option Value) (r0 : Int) (r1 : Value) : P64x0 h S r0 r1 = G.stepAt packP unpackP evXV (regP env pf4 nt64 h) (finP env Tryz.f64.results.toList) (G.collect B64 A64 []) 0 S (PAL.i r0 (PAL.v r1 PAL.n)) := by kernel_rfl
theorem t64 (h : Hp) (S : Nat → PAL → Option Value) : TabP (fun l al => G.stepAt packP unpackP evXV (regP env pf4 nt64 h) (finP env Tryz.f64.results.toList) (G.collect B64 A64 []) l S al) (T64 h S) := by
  unfold T64
  refine TabP.cons 0 (fun vs0 q e0 => ?_) ?_
  · obtain ⟨r0, vs1, rfl, e1⟩ := wI_some e0
    obtain ⟨r1, vs2, rfl, e2⟩ := wV_some e1
    obtain ⟨rfl, ee⟩ := wN_some e2
    exact (q64x0 h S r0 r1).symm.trans ee
  exact TabP.nil
theorem r64 : PSound Tryz.prog 64 F64 := fun_soundP (C := C0) ok0 (pf := pf4) pfok4 (fn := Tryz.f64) (body := B64) (kinds := [Kd.i .i64, Kd.v]) (A := A64) (T := T64) (by kernel_rfl) (by kernel_rfl) (by kernel_rfl) (by kernel_rfl) (fun h S => t64 h S)
noncomputable def pf5 : PF := pfC 64 F64 pf4
theorem pfok5 : PfSound Tryz.prog pf5 := pfC_ok r64 pfok4
noncomputable def orc9 := orcP 64 F64 orc8
noncomputable def C9 : Cfg := cfg orc9
theorem ok9 : C9.Ok := orcP_ok (C := C8) ok8 r64
noncomputable def B143 : Code := (Tryz.f143.body).getD .skip
noncomputable def A143 : G.Ann (List KI) := (G.Ann.node (some (0, [KI.reg 0 (Kd.v), KI.reg 1 (Kd.i .i64)])) G.Ann.nil (G.Ann.node none (G.Ann.node none G.Ann.nil (G.Ann.node none (G.Ann.node (some (1, [KI.reg 0 (Kd.v), KI.reg 1 (Kd.i .i64), KI.reg 7 (Kd.i .i64), KI.reg 8 (Kd.i .i64)])) (G.Ann.node none G.Ann.nil (G.Ann.node none (G.Ann.node none G.Ann.nil G.Ann.nil) (G.Ann.node none (G.Ann.node none (G.Ann.node none G.Ann.nil (G.Ann.node none G.Ann.nil (G.Ann.node none (G.Ann.node none G.Ann.nil G.Ann.nil) G.Ann.nil))) G.Ann.nil) G.Ann.nil))) G.Ann.nil) G.Ann.nil)) (G.Ann.node (some (2, [])) G.Ann.nil G.Ann.nil)))
noncomputable def P143x2 (h : Hp) (S : Nat → PAL → Option Value) : Option Value :=
  some (Value.int .i64 (Int.negSucc 0))
noncomputable def P143x1 (h : Hp) (S : Nat → PAL → Option Value) (r0 : Value) (r1 : Int) (r7 : Int) (r8 : Int) : Option Value :=
  boolZ (ltZ r8 r7) fun b0 =>
  ifB b0
  (idxSK 1 r0 r8 fun v1 =>
  load1K h v1 fun v2 =>
  intK .i64 v2 fun i3 =>
  boolZ (eqZ r1 i3) fun b4 =>
  ifB b4
  (some (Value.int .i64 r8))
  (wrap64 (Int.add r8 (Int.ofNat 1)) fun i5 =>
  S 1 (PAL.v r0 (PAL.i r1 (PAL.i r7 (PAL.i i5 PAL.n))))))
  (S 2 PAL.n)
noncomputable def P143x0 (h : Hp) (S : Nat → PAL → Option Value) (r0 : Value) (r1 : Int) : Option Value :=
  lenSK r0 fun i0 =>
  S 1 (PAL.v r0 (PAL.i r1 (PAL.i i0 (PAL.i (Int.ofNat 0) PAL.n))))
noncomputable def T143 (h : Hp) (S : Nat → PAL → Option Value) : Nat → PAL → Option Value := tabPC 0 (wV fun r0 => wI fun r1 => wN (P143x0 h S r0 r1)) (tabPC 1 (wV fun r0 => wI fun r1 => wI fun r7 => wI fun r8 => wN (P143x1 h S r0 r1 r7 r8)) (tabPC 2 (wN (P143x2 h S)) (tabPN)))
noncomputable def F143 (args : List Value) (h : Hp) : Option Value := plainO (packArgs [Kd.v, Kd.i .i64] args fun al => G.rec' (T143 h) 1000000 0 al)
def nt143 : Nat := 2 + (19 - 2)
theorem q143x2 (h : Hp) (S : Nat → PAL → Option Value) : P143x2 h S = G.stepAt packP unpackP evXV (regP env pf5 nt143 h) (finP env Tryz.f143.results.toList) (G.collect B143 A143 []) 2 S PAL.n := by kernel_rfl
theorem q143x1 (h : Hp) (S : Nat → PAL → Option Value) (r0 : Value) (r1 : Int) (r7 : Int) (r8 : Int) : P143x1 h S r0 r1 r7 r8 = G.stepAt packP unpackP evXV (regP env pf5 nt143 h) (finP env Tryz.f143.results.toList) (G.collect B143 A143 []) 1 S (PAL.v r0 (PAL.i r1 (PAL.i r7 (PAL.i r8 PAL.n)))) := by kernel_rfl
theorem q143x0 (h : Hp) (S : Nat → PAL → Option Value) (r0 : Value) (r1 : Int) : P143x0 h S r0 r1 = G.stepAt packP unpackP evXV (regP env pf5 nt143 h) (finP env Tryz.f143.results.toList) (G.collect B143 A143 []) 0 S (PAL.v r0 (PAL.i r1 PAL.n)) := by kernel_rfl
theorem t143 (h : Hp) (S : Nat → PAL → Option Value) : TabP (fun l al => G.stepAt packP unpackP evXV (regP env pf5 nt143 h) (finP env Tryz.f143.results.toList) (G.collect B143 A143 []) l S al) (T143 h S) := by
  unfold T143
  refine TabP.cons 0 (fun vs0 q e0 => ?_) ?_
  · obtain ⟨r0, vs1, rfl, e1⟩ := wV_some e0
    obtain ⟨r1, vs2, rfl, e2⟩ := wI_some e1
    obtain ⟨rfl, ee⟩ := wN_some e2
    exact (q143x0 h S r0 r1).symm.trans ee
  refine TabP.cons 1 (fun vs0 q e0 => ?_) ?_
  · obtain ⟨r0, vs1, rfl, e1⟩ := wV_some e0
    obtain ⟨r1, vs2, rfl, e2⟩ := wI_some e1
    obtain ⟨r7, vs3, rfl, e3⟩ := wI_some e2
    obtain ⟨r8, vs4, rfl, e4⟩ := wI_some e3
    obtain ⟨rfl, ee⟩ := wN_some e4
    exact (q143x1 h S r0 r1 r7 r8).symm.trans ee
  refine TabP.cons 2 (fun vs0 q e0 => ?_) ?_
  · 
    obtain ⟨rfl, ee⟩ := wN_some e0
    exact (q143x2 h S).symm.trans ee
  exact TabP.nil
theorem r143 : PSound Tryz.prog 143 F143 := fun_soundP (C := C0) ok0 (pf := pf5) pfok5 (fn := Tryz.f143) (body := B143) (kinds := [Kd.v, Kd.i .i64]) (A := A143) (T := T143) (by kernel_rfl) (by kernel_rfl) (by kernel_rfl) (by kernel_rfl) (fun h S => t143 h S)
noncomputable def pf6 : PF := pfC 143 F143 pf5
theorem pfok6 : PfSound Tryz.prog pf6 := pfC_ok r143 pfok5
noncomputable def orc10 := orcP 143 F143 orc9
noncomputable def C10 : Cfg := cfg orc10
theorem ok10 : C10.Ok := orcP_ok (C := C9) ok9 r143
noncomputable def B98 : Code := (Tryz.f98.body).getD .skip
noncomputable def A98 : G.Ann (List KI) := (G.Ann.node (some (0, [KI.reg 0 (Kd.v), KI.reg 1 (Kd.i .i64)])) G.Ann.nil (G.Ann.node none G.Ann.nil G.Ann.nil))
noncomputable def P98x0 (h : Hp) (S : Nat → PAL → Option Value) (r0 : Value) (r1 : Int) : Option Value :=
  optK (F143 [r0, (Value.int .i64 r1)] h) fun v0 =>
  intK .i64 v0 fun i1 =>
  boolN (ltZ i1 (Int.ofNat 0)) fun b2 =>
  some (Value.bool b2)
noncomputable def T98 (h : Hp) (S : Nat → PAL → Option Value) : Nat → PAL → Option Value := tabPC 0 (wV fun r0 => wI fun r1 => wN (P98x0 h S r0 r1)) (tabPN)
noncomputable def F98 (args : List Value) (h : Hp) : Option Value := plainO (packArgs [Kd.v, Kd.i .i64] args fun al => G.rec' (T98 h) 1000000 0 al)
def nt98 : Nat := 2 + (9 - 2)
theorem q98x0 (h : Hp) (S : Nat → PAL → Option Value) (r0 : Value) (r1 : Int) : P98x0 h S r0 r1 = G.stepAt packP unpackP evXV (regP env pf6 nt98 h) (finP env Tryz.f98.results.toList) (G.collect B98 A98 []) 0 S (PAL.v r0 (PAL.i r1 PAL.n)) := by kernel_rfl
theorem t98 (h : Hp) (S : Nat → PAL → Option Value) : TabP (fun l al => G.stepAt packP unpackP evXV (regP env pf6 nt98 h) (finP env Tryz.f98.results.toList) (G.collect B98 A98 []) l S al) (T98 h S) := by
  unfold T98
  refine TabP.cons 0 (fun vs0 q e0 => ?_) ?_
  · obtain ⟨r0, vs1, rfl, e1⟩ := wV_some e0
    obtain ⟨r1, vs2, rfl, e2⟩ := wI_some e1
    obtain ⟨rfl, ee⟩ := wN_some e2
    exact (q98x0 h S r0 r1).symm.trans ee
  exact TabP.nil
theorem r98 : PSound Tryz.prog 98 F98 := fun_soundP (C := C0) ok0 (pf := pf6) pfok6 (fn := Tryz.f98) (body := B98) (kinds := [Kd.v, Kd.i .i64]) (A := A98) (T := T98) (by kernel_rfl) (by kernel_rfl) (by kernel_rfl) (by kernel_rfl) (fun h S => t98 h S)
noncomputable def pf7 : PF := pfC 98 F98 pf6
theorem pfok7 : PfSound Tryz.prog pf7 := pfC_ok r98 pfok6
noncomputable def orc11 := orcP 98 F98 orc10
noncomputable def C11 : Cfg := cfg orc11
theorem ok11 : C11.Ok := orcP_ok (C := C10) ok10 r98
noncomputable def B59 : Code := (Tryz.f59.body).getD .skip
def A59 : Ann := (Ann.node (some (0, [(0, Kd.i .i64), (1, Kd.v), (2, Kd.i .i64)])) Ann.nil (Ann.node none (Ann.node none (Ann.node none Ann.nil (Ann.node none (Ann.node none Ann.nil Ann.nil) (Ann.node none Ann.nil (Ann.node none (Ann.node none Ann.nil Ann.nil) Ann.nil)))) Ann.nil) (Ann.node none Ann.nil Ann.nil)))
noncomputable def P59x0 (S : Sg) (r0 : Int) (r1 : Value) (r2 : Int) (h : Hp) : CRes :=
  slowI .i64 (shlI (binW env .shl 3 (Value.int .i64 (Int.ofNat 1)) (Value.int .i64 r0)) (Value.int .i64 (Int.ofNat 1)) (Value.int .i64 r0)) fun i0 =>
  pairK (buildSliceV env h 23 1 (List.toArray [(0, (Value.int .i64 r2))])) fun v1 h1 =>
  pairK (optK (F64 [(Value.int .i64 i0), v1] h1) fun v => some (v, h1)) fun v2 h2 =>
  boolK v2 fun b3 =>
  boolN b3 fun b4 =>
  ifB b4
  (some ((Value.int .i64 (Int.ofNat 4)), h2))
  (pairK (optK (F98 [r1, (Value.int .i64 r2)] h2) fun v => some (v, h2)) fun v5 h5 =>
  boolK v5 fun b6 =>
  ifB b6
  (some ((Value.int .i64 (Int.ofNat 5)), h5))
  (some ((Value.int .i64 (Int.ofNat 0)), h5)))
noncomputable def T59 (S : Sg) : Sg := tabC 0 (uI fun r0 => uV fun r1 => uI fun r2 => uN fun h => P59x0 S r0 r1 r2 h) (tabN)
noncomputable def F59 (args : List Value) (h : Hp) : CRes := packVals [Kd.i .i64, Kd.v, Kd.i .i64] args fun al => rec' T59 1000000 0 al h
def nt59 : Nat := 3 + (18 - 3)
theorem q59x0 (S : Sg) (r0 : Int) (r1 : Value) (r2 : Int) (h : Hp) : P59x0 S r0 r1 r2 h = stepAt (regK env orc11 (nt59)) (finK env Tryz.f59.results.toList) (collect B59 A59 []) 0 S (AL.i r0 (AL.v r1 (AL.i r2 AL.n))) h := by kernel_rfl
theorem t59 (S : Sg) : Tab (fun l vs h => stepAt (regK env orc11 nt59) (finK env Tryz.f59.results.toList) (collect B59 A59 []) l S vs h) (T59 S) := by
  unfold T59
  refine Tab.cons 0 (fun vs0 h q e0 => ?_) ?_
  · obtain ⟨r0, vs1, rfl, e1⟩ := uI_some e0
    obtain ⟨r1, vs2, rfl, e2⟩ := uV_some e1
    obtain ⟨r2, vs3, rfl, e3⟩ := uI_some e2
    obtain ⟨rfl, ee⟩ := uN_some e3
    exact (q59x0 S r0 r1 r2 h).symm.trans ee
  exact Tab.nil
theorem r59 : ∀ args h v h', F59 args h = some (v, h') → Runs (C11) (.call 59 args.toArray h) (.ret v h') := by
  intro args h v h' e
  exact fun_sound (C := C11) (fn := Tryz.f59) (body := B59) (np := 3) (A := A59) (T := T59) (kinds := [Kd.i .i64, Kd.v, Kd.i .i64]) (by kernel_rfl) (by kernel_rfl) (by kernel_rfl) (by kernel_rfl) (regK_ok env_ok) (by kernel_rfl) (fun S => t59 S) e
noncomputable def orc12 := orcQ 59 F59 orc11
noncomputable def C12 : Cfg := cfg orc12
theorem ok12 : C12.Ok := orcQ_ok (C := C11) ok11 r59
noncomputable def B58 : Code := (Tryz.f58.body).getD .skip
def A58 : Ann := (Ann.node (some (0, [(0, Kd.v), (1, Kd.i .i64), (2, Kd.v)])) Ann.nil (Ann.node none Ann.nil Ann.nil))
noncomputable def P58x0 (S : Sg) (r0 : Value) (r1 : Int) (r2 : Value) (h : Hp) : CRes :=
  ptrAddK 1 r2 fun v0 =>
  load1K h v0 fun v1 =>
  lenSK v1 fun i2 =>
  pairK (callQ F59 [(Value.int .i64 i2), r0, (Value.int .i64 r1)] h) fun v3 h3 =>
  intK .i64 v3 fun i4 =>
  some ((Value.int .i64 i4), h3)
noncomputable def T58 (S : Sg) : Sg := tabC 0 (uV fun r0 => uI fun r1 => uV fun r2 => uN fun h => P58x0 S r0 r1 r2 h) (tabN)
noncomputable def F58 (args : List Value) (h : Hp) : CRes := packVals [Kd.v, Kd.i .i64, Kd.v] args fun al => rec' T58 1000000 0 al h
def nt58 : Nat := 3 + (12 - 3)
theorem q58x0 (S : Sg) (r0 : Value) (r1 : Int) (r2 : Value) (h : Hp) : P58x0 S r0 r1 r2 h = stepAt (regK env orc12 (nt58)) (finK env Tryz.f58.results.toList) (collect B58 A58 []) 0 S (AL.v r0 (AL.i r1 (AL.v r2 AL.n))) h := by kernel_rfl
theorem t58 (S : Sg) : Tab (fun l vs h => stepAt (regK env orc12 nt58) (finK env Tryz.f58.results.toList) (collect B58 A58 []) l S vs h) (T58 S) := by
  unfold T58
  refine Tab.cons 0 (fun vs0 h q e0 => ?_) ?_
  · obtain ⟨r0, vs1, rfl, e1⟩ := uV_some e0
    obtain ⟨r1, vs2, rfl, e2⟩ := uI_some e1
    obtain ⟨r2, vs3, rfl, e3⟩ := uV_some e2
    obtain ⟨rfl, ee⟩ := uN_some e3
    exact (q58x0 S r0 r1 r2 h).symm.trans ee
  exact Tab.nil
theorem r58 : ∀ args h v h', F58 args h = some (v, h') → Runs (C12) (.call 58 args.toArray h) (.ret v h') := by
  intro args h v h' e
  exact fun_sound (C := C12) (fn := Tryz.f58) (body := B58) (np := 3) (A := A58) (T := T58) (kinds := [Kd.v, Kd.i .i64, Kd.v]) (by kernel_rfl) (by kernel_rfl) (by kernel_rfl) (by kernel_rfl) (regK_ok env_ok) (by kernel_rfl) (fun S => t58 S) e
noncomputable def orc13 := orcQ 58 F58 orc12
noncomputable def C13 : Cfg := cfg orc13
theorem ok13 : C13.Ok := orcQ_ok (C := C12) ok12 r58
noncomputable def B93 : Code := (Tryz.f93.body).getD .skip
def A93 : Ann := (Ann.node (some (0, [(0, Kd.v), (1, Kd.v)])) Ann.nil (Ann.node none (Ann.node none Ann.nil (Ann.node none (Ann.node (some (1, [(0, Kd.v), (1, Kd.v), (9, Kd.v), (10, Kd.i .i64), (11, Kd.i .i64)])) (Ann.node none Ann.nil (Ann.node none (Ann.node none Ann.nil Ann.nil) (Ann.node none (Ann.node none (Ann.node none Ann.nil (Ann.node none Ann.nil (Ann.node none Ann.nil (Ann.node none (Ann.node none Ann.nil Ann.nil) Ann.nil)))) Ann.nil) Ann.nil))) Ann.nil) Ann.nil)) (Ann.node (some (2, [])) Ann.nil Ann.nil)))
noncomputable def P93x2 (S : Sg) (h : Hp) : CRes :=
  some (Value.tuple (List.toArray [(Value.int .i64 (Int.ofNat 0)), (Value.int .i64 (Int.ofNat 0))]), h)
noncomputable def P93x1 (S : Sg) (r0 : Value) (r1 : Value) (r9 : Value) (r10 : Int) (r11 : Int) (h : Hp) : CRes :=
  boolZ (ltZ r11 r10) fun b0 =>
  ifB b0
  (idxSK 4 r9 r11 fun v1 =>
  loadNK 4 h v1 fun v2 =>
  allocK h 76 [(Value.string (ByteArray.mk #[])), (Value.string (ByteArray.mk #[])), (Value.int .i64 (Int.ofNat 0)), (Value.int .i64 (Int.ofNat 0))] fun a3 h3 =>
  storeNK 4 h3 a3 v2 fun h4 =>
  optK (sliceV env h4 22 r0 none (some (Value.int .i64 r11)) none) fun v5 =>
  loadNK 4 h4 a3 fun v6 =>
  pairK (callF orc13 r1 [v5, v6] h4) fun v7 h7 =>
  intK .i64 v7 fun i8 =>
  boolN (eqZ i8 (Int.ofNat 0)) fun b9 =>
  ifB b9
  (some (Value.tuple (List.toArray [(Value.int .i64 r11), (Value.int .i64 i8)]), h7))
  (wrap64 (Int.add r11 (Int.ofNat 1)) fun i10 =>
  S 1 (AL.v r0 (AL.v r1 (AL.v r9 (AL.i r10 (AL.i i10 AL.n))))) h7))
  (S 2 AL.n h)
noncomputable def P93x0 (S : Sg) (r0 : Value) (r1 : Value) (h : Hp) : CRes :=
  lenSK r0 fun i0 =>
  S 1 (AL.v r0 (AL.v r1 (AL.v r0 (AL.i i0 (AL.i (Int.ofNat 0) AL.n))))) h
noncomputable def T93 (S : Sg) : Sg := tabC 0 (uV fun r0 => uV fun r1 => uN fun h => P93x0 S r0 r1 h) (tabC 1 (uV fun r0 => uV fun r1 => uV fun r9 => uI fun r10 => uI fun r11 => uN fun h => P93x1 S r0 r1 r9 r10 r11 h) (tabC 2 (uN fun h => P93x2 S  h) (tabN)))
noncomputable def F93 (args : List Value) (h : Hp) : CRes := packVals [Kd.v, Kd.v] args fun al => rec' T93 1000000 0 al h
def nt93 : Nat := 2 + (27 - 2)
theorem q93x2 (S : Sg) (h : Hp) : P93x2 S  h = stepAt (regK env orc13 (nt93)) (finK env Tryz.f93.results.toList) (collect B93 A93 []) 2 S AL.n h := by kernel_rfl
theorem q93x1 (S : Sg) (r0 : Value) (r1 : Value) (r9 : Value) (r10 : Int) (r11 : Int) (h : Hp) : P93x1 S r0 r1 r9 r10 r11 h = stepAt (regK env orc13 (nt93)) (finK env Tryz.f93.results.toList) (collect B93 A93 []) 1 S (AL.v r0 (AL.v r1 (AL.v r9 (AL.i r10 (AL.i r11 AL.n))))) h := by kernel_rfl
theorem q93x0 (S : Sg) (r0 : Value) (r1 : Value) (h : Hp) : P93x0 S r0 r1 h = stepAt (regK env orc13 (nt93)) (finK env Tryz.f93.results.toList) (collect B93 A93 []) 0 S (AL.v r0 (AL.v r1 AL.n)) h := by kernel_rfl
theorem t93 (S : Sg) : Tab (fun l vs h => stepAt (regK env orc13 nt93) (finK env Tryz.f93.results.toList) (collect B93 A93 []) l S vs h) (T93 S) := by
  unfold T93
  refine Tab.cons 0 (fun vs0 h q e0 => ?_) ?_
  · obtain ⟨r0, vs1, rfl, e1⟩ := uV_some e0
    obtain ⟨r1, vs2, rfl, e2⟩ := uV_some e1
    obtain ⟨rfl, ee⟩ := uN_some e2
    exact (q93x0 S r0 r1 h).symm.trans ee
  refine Tab.cons 1 (fun vs0 h q e0 => ?_) ?_
  · obtain ⟨r0, vs1, rfl, e1⟩ := uV_some e0
    obtain ⟨r1, vs2, rfl, e2⟩ := uV_some e1
    obtain ⟨r9, vs3, rfl, e3⟩ := uV_some e2
    obtain ⟨r10, vs4, rfl, e4⟩ := uI_some e3
    obtain ⟨r11, vs5, rfl, e5⟩ := uI_some e4
    obtain ⟨rfl, ee⟩ := uN_some e5
    exact (q93x1 S r0 r1 r9 r10 r11 h).symm.trans ee
  refine Tab.cons 2 (fun vs0 h q e0 => ?_) ?_
  · 
    obtain ⟨rfl, ee⟩ := uN_some e0
    exact (q93x2 S  h).symm.trans ee
  exact Tab.nil
theorem r93 : ∀ args h v h', F93 args h = some (v, h') → Runs (C13) (.call 93 args.toArray h) (.ret v h') := by
  intro args h v h' e
  exact fun_sound (C := C13) (fn := Tryz.f93) (body := B93) (np := 2) (A := A93) (T := T93) (kinds := [Kd.v, Kd.v]) (by kernel_rfl) (by kernel_rfl) (by kernel_rfl) (by kernel_rfl) (regK_ok env_ok) (by kernel_rfl) (fun S => t93 S) e
noncomputable def orc14 := orcQ 93 F93 orc13
noncomputable def C14 : Cfg := cfg orc14
theorem ok14 : C14.Ok := orcQ_ok (C := C13) ok13 r93
noncomputable def B55 : Code := (Tryz.f55.body).getD .skip
def A55 : Ann := (Ann.node (some (0, [(0, Kd.v), (1, Kd.i .i64), (2, Kd.v)])) Ann.nil (Ann.node none (Ann.node none Ann.nil (Ann.node none (Ann.node none Ann.nil Ann.nil) Ann.nil)) (Ann.node none Ann.nil Ann.nil)))
noncomputable def P55x0 (S : Sg) (r0 : Value) (r1 : Int) (r2 : Value) (h : Hp) : CRes :=
  lenSK r0 fun i0 =>
  boolZ (ltZ r1 i0) fun b1 =>
  ifB b1
  (some (Value.tuple (List.toArray [(Value.int .i64 (Int.ofNat 0)), (Value.int .i64 (Int.ofNat 3))]), h))
  (pairK (callQ F93 [r0, r2] h) fun v2 h2 =>
  extK v2 0 fun v3 =>
  intK .i64 v3 fun i4 =>
  extK v2 1 fun v5 =>
  intK .i64 v5 fun i6 =>
  some (Value.tuple (List.toArray [(Value.int .i64 i4), (Value.int .i64 i6)]), h2))
noncomputable def T55 (S : Sg) : Sg := tabC 0 (uV fun r0 => uI fun r1 => uV fun r2 => uN fun h => P55x0 S r0 r1 r2 h) (tabN)
noncomputable def F55 (args : List Value) (h : Hp) : CRes := packVals [Kd.v, Kd.i .i64, Kd.v] args fun al => rec' T55 1000000 0 al h
def nt55 : Nat := 3 + (17 - 3)
theorem q55x0 (S : Sg) (r0 : Value) (r1 : Int) (r2 : Value) (h : Hp) : P55x0 S r0 r1 r2 h = stepAt (regK env orc14 (nt55)) (finK env Tryz.f55.results.toList) (collect B55 A55 []) 0 S (AL.v r0 (AL.i r1 (AL.v r2 AL.n))) h := by kernel_rfl
theorem t55 (S : Sg) : Tab (fun l vs h => stepAt (regK env orc14 nt55) (finK env Tryz.f55.results.toList) (collect B55 A55 []) l S vs h) (T55 S) := by
  unfold T55
  refine Tab.cons 0 (fun vs0 h q e0 => ?_) ?_
  · obtain ⟨r0, vs1, rfl, e1⟩ := uV_some e0
    obtain ⟨r1, vs2, rfl, e2⟩ := uI_some e1
    obtain ⟨r2, vs3, rfl, e3⟩ := uV_some e2
    obtain ⟨rfl, ee⟩ := uN_some e3
    exact (q55x0 S r0 r1 r2 h).symm.trans ee
  exact Tab.nil
theorem r55 : ∀ args h v h', F55 args h = some (v, h') → Runs (C14) (.call 55 args.toArray h) (.ret v h') := by
  intro args h v h' e
  exact fun_sound (C := C14) (fn := Tryz.f55) (body := B55) (np := 3) (A := A55) (T := T55) (kinds := [Kd.v, Kd.i .i64, Kd.v]) (by kernel_rfl) (by kernel_rfl) (by kernel_rfl) (by kernel_rfl) (regK_ok env_ok) (by kernel_rfl) (fun S => t55 S) e
noncomputable def orc15 := orcQ 55 F55 orc14
noncomputable def C15 : Cfg := cfg orc15
theorem ok15 : C15.Ok := orcQ_ok (C := C14) ok14 r55
noncomputable def B97 : Code := (Tryz.f97.body).getD .skip
def A97 : Ann := (Ann.node (some (0, [(0, Kd.v), (1, Kd.v)])) Ann.nil (Ann.node none (Ann.node none Ann.nil (Ann.node none (Ann.node (some (1, [(0, Kd.v), (1, Kd.v), (9, Kd.v), (10, Kd.i .i64), (11, Kd.i .i64)])) (Ann.node none Ann.nil (Ann.node none (Ann.node none Ann.nil Ann.nil) (Ann.node none (Ann.node none (Ann.node none Ann.nil (Ann.node none Ann.nil (Ann.node none Ann.nil (Ann.node none (Ann.node none Ann.nil Ann.nil) Ann.nil)))) Ann.nil) Ann.nil))) Ann.nil) Ann.nil)) (Ann.node (some (2, [])) Ann.nil Ann.nil)))
noncomputable def P97x2 (S : Sg) (h : Hp) : CRes :=
  some (Value.tuple (List.toArray [(Value.int .i64 (Int.ofNat 0)), (Value.int .i64 (Int.ofNat 0))]), h)
noncomputable def P97x1 (S : Sg) (r0 : Value) (r1 : Value) (r9 : Value) (r10 : Int) (r11 : Int) (h : Hp) : CRes :=
  boolZ (ltZ r11 r10) fun b0 =>
  ifB b0
  (idxSK 1 r9 r11 fun v1 =>
  load1K h v1 fun v2 =>
  intK .i64 v2 fun i3 =>
  optK (sliceV env h 23 r0 none (some (Value.int .i64 r11)) none) fun v4 =>
  pairK (callF orc15 r1 [v4, (Value.int .i64 i3)] h) fun v5 h5 =>
  intK .i64 v5 fun i6 =>
  boolN (eqZ i6 (Int.ofNat 0)) fun b7 =>
  ifB b7
  (some (Value.tuple (List.toArray [(Value.int .i64 r11), (Value.int .i64 i6)]), h5))
  (wrap64 (Int.add r11 (Int.ofNat 1)) fun i8 =>
  S 1 (AL.v r0 (AL.v r1 (AL.v r9 (AL.i r10 (AL.i i8 AL.n))))) h5))
  (S 2 AL.n h)
noncomputable def P97x0 (S : Sg) (r0 : Value) (r1 : Value) (h : Hp) : CRes :=
  lenSK r0 fun i0 =>
  S 1 (AL.v r0 (AL.v r1 (AL.v r0 (AL.i i0 (AL.i (Int.ofNat 0) AL.n))))) h
noncomputable def T97 (S : Sg) : Sg := tabC 0 (uV fun r0 => uV fun r1 => uN fun h => P97x0 S r0 r1 h) (tabC 1 (uV fun r0 => uV fun r1 => uV fun r9 => uI fun r10 => uI fun r11 => uN fun h => P97x1 S r0 r1 r9 r10 r11 h) (tabC 2 (uN fun h => P97x2 S  h) (tabN)))
noncomputable def F97 (args : List Value) (h : Hp) : CRes := packVals [Kd.v, Kd.v] args fun al => rec' T97 1000000 0 al h
def nt97 : Nat := 2 + (27 - 2)
theorem q97x2 (S : Sg) (h : Hp) : P97x2 S  h = stepAt (regK env orc15 (nt97)) (finK env Tryz.f97.results.toList) (collect B97 A97 []) 2 S AL.n h := by kernel_rfl
theorem q97x1 (S : Sg) (r0 : Value) (r1 : Value) (r9 : Value) (r10 : Int) (r11 : Int) (h : Hp) : P97x1 S r0 r1 r9 r10 r11 h = stepAt (regK env orc15 (nt97)) (finK env Tryz.f97.results.toList) (collect B97 A97 []) 1 S (AL.v r0 (AL.v r1 (AL.v r9 (AL.i r10 (AL.i r11 AL.n))))) h := by kernel_rfl
theorem q97x0 (S : Sg) (r0 : Value) (r1 : Value) (h : Hp) : P97x0 S r0 r1 h = stepAt (regK env orc15 (nt97)) (finK env Tryz.f97.results.toList) (collect B97 A97 []) 0 S (AL.v r0 (AL.v r1 AL.n)) h := by kernel_rfl
theorem t97 (S : Sg) : Tab (fun l vs h => stepAt (regK env orc15 nt97) (finK env Tryz.f97.results.toList) (collect B97 A97 []) l S vs h) (T97 S) := by
  unfold T97
  refine Tab.cons 0 (fun vs0 h q e0 => ?_) ?_
  · obtain ⟨r0, vs1, rfl, e1⟩ := uV_some e0
    obtain ⟨r1, vs2, rfl, e2⟩ := uV_some e1
    obtain ⟨rfl, ee⟩ := uN_some e2
    exact (q97x0 S r0 r1 h).symm.trans ee
  refine Tab.cons 1 (fun vs0 h q e0 => ?_) ?_
  · obtain ⟨r0, vs1, rfl, e1⟩ := uV_some e0
    obtain ⟨r1, vs2, rfl, e2⟩ := uV_some e1
    obtain ⟨r9, vs3, rfl, e3⟩ := uV_some e2
    obtain ⟨r10, vs4, rfl, e4⟩ := uI_some e3
    obtain ⟨r11, vs5, rfl, e5⟩ := uI_some e4
    obtain ⟨rfl, ee⟩ := uN_some e5
    exact (q97x1 S r0 r1 r9 r10 r11 h).symm.trans ee
  refine Tab.cons 2 (fun vs0 h q e0 => ?_) ?_
  · 
    obtain ⟨rfl, ee⟩ := uN_some e0
    exact (q97x2 S  h).symm.trans ee
  exact Tab.nil
theorem r97 : ∀ args h v h', F97 args h = some (v, h') → Runs (C15) (.call 97 args.toArray h) (.ret v h') := by
  intro args h v h' e
  exact fun_sound (C := C15) (fn := Tryz.f97) (body := B97) (np := 2) (A := A97) (T := T97) (kinds := [Kd.v, Kd.v]) (by kernel_rfl) (by kernel_rfl) (by kernel_rfl) (by kernel_rfl) (regK_ok env_ok) (by kernel_rfl) (fun S => t97 S) e
noncomputable def orc16 := orcQ 97 F97 orc15
noncomputable def C16 : Cfg := cfg orc16
theorem ok16 : C16.Ok := orcQ_ok (C := C15) ok15 r97
noncomputable def B57 : Code := (Tryz.f57.body).getD .skip
def A57 : Ann := (Ann.node (some (0, [(0, Kd.v), (1, Kd.i .i64), (2, Kd.v)])) Ann.nil (Ann.node none (Ann.node none Ann.nil (Ann.node none (Ann.node none Ann.nil Ann.nil) Ann.nil)) (Ann.node none Ann.nil Ann.nil)))
noncomputable def P57x0 (S : Sg) (r0 : Value) (r1 : Int) (r2 : Value) (h : Hp) : CRes :=
  lenSK r0 fun i0 =>
  boolZ (ltZ r1 i0) fun b1 =>
  ifB b1
  (some (Value.tuple (List.toArray [(Value.int .i64 (Int.ofNat 0)), (Value.int .i64 (Int.ofNat 3))]), h))
  (pairK (callQ F97 [r0, r2] h) fun v2 h2 =>
  extK v2 0 fun v3 =>
  intK .i64 v3 fun i4 =>
  extK v2 1 fun v5 =>
  intK .i64 v5 fun i6 =>
  some (Value.tuple (List.toArray [(Value.int .i64 i4), (Value.int .i64 i6)]), h2))
noncomputable def T57 (S : Sg) : Sg := tabC 0 (uV fun r0 => uI fun r1 => uV fun r2 => uN fun h => P57x0 S r0 r1 r2 h) (tabN)
noncomputable def F57 (args : List Value) (h : Hp) : CRes := packVals [Kd.v, Kd.i .i64, Kd.v] args fun al => rec' T57 1000000 0 al h
def nt57 : Nat := 3 + (17 - 3)
theorem q57x0 (S : Sg) (r0 : Value) (r1 : Int) (r2 : Value) (h : Hp) : P57x0 S r0 r1 r2 h = stepAt (regK env orc16 (nt57)) (finK env Tryz.f57.results.toList) (collect B57 A57 []) 0 S (AL.v r0 (AL.i r1 (AL.v r2 AL.n))) h := by kernel_rfl
theorem t57 (S : Sg) : Tab (fun l vs h => stepAt (regK env orc16 nt57) (finK env Tryz.f57.results.toList) (collect B57 A57 []) l S vs h) (T57 S) := by
  unfold T57
  refine Tab.cons 0 (fun vs0 h q e0 => ?_) ?_
  · obtain ⟨r0, vs1, rfl, e1⟩ := uV_some e0
    obtain ⟨r1, vs2, rfl, e2⟩ := uI_some e1
    obtain ⟨r2, vs3, rfl, e3⟩ := uV_some e2
    obtain ⟨rfl, ee⟩ := uN_some e3
    exact (q57x0 S r0 r1 r2 h).symm.trans ee
  exact Tab.nil
theorem r57 : ∀ args h v h', F57 args h = some (v, h') → Runs (C16) (.call 57 args.toArray h) (.ret v h') := by
  intro args h v h' e
  exact fun_sound (C := C16) (fn := Tryz.f57) (body := B57) (np := 3) (A := A57) (T := T57) (kinds := [Kd.v, Kd.i .i64, Kd.v]) (by kernel_rfl) (by kernel_rfl) (by kernel_rfl) (by kernel_rfl) (regK_ok env_ok) (by kernel_rfl) (fun S => t57 S) e
noncomputable def orc17 := orcQ 57 F57 orc16
noncomputable def C17 : Cfg := cfg orc17
theorem ok17 : C17.Ok := orcQ_ok (C := C16) ok16 r57
noncomputable def B16 : Code := (Tryz.f16.body).getD .skip
def A16 : Ann := (Ann.node (some (0, [(0, Kd.v)])) Ann.nil (Ann.node none (Ann.node none Ann.nil (Ann.node none (Ann.node none Ann.nil Ann.nil) Ann.nil)) (Ann.node none (Ann.node none Ann.nil (Ann.node none Ann.nil (Ann.node none (Ann.node none Ann.nil Ann.nil) Ann.nil))) (Ann.node none (Ann.node none Ann.nil (Ann.node none (Ann.node none Ann.nil Ann.nil) Ann.nil)) (Ann.node none Ann.nil (Ann.node none (Ann.node none Ann.nil (Ann.node none (Ann.node none Ann.nil Ann.nil) Ann.nil)) (Ann.node none Ann.nil Ann.nil)))))))
noncomputable def P16x0 (S : Sg) (r0 : Value) (h : Hp) : CRes :=
  allocK h 25 (Array.toList (Value.cells r0)) fun a0 h0 =>
  ptrAddK 0 a0 fun v1 =>
  load1K h0 v1 fun v2 =>
  intK .i64 v2 fun i3 =>
  pairK (buildSliceV env h0 23 1 (List.toArray [(0, (Value.int .i64 i3))])) fun v4 h4 =>
  pairK (optK (F54 [(Value.int .i64 (Int.ofNat 14)), (Value.int .i64 (Int.ofNat 30)), v4] h4) fun v => some (v, h4)) fun v5 h5 =>
  boolK v5 fun b6 =>
  boolN b6 fun b7 =>
  ifB b7
  (some (Value.tuple (List.toArray [(Value.int .i64 (Int.ofNat 1)), (Value.int .i64 (Int.ofNat 0)), (Value.int .i64 (Int.ofNat 7))]), h5))
  (ptrAddK 1 a0 fun v8 =>
  load1K h5 v8 fun v9 =>
  pairK (callQ F55 [v9, (Value.int .i64 (Int.ofNat 6)), (Value.func (.func 56) #[] #[])] h5) fun v10 h10 =>
  extK v10 0 fun v11 =>
  intK .i64 v11 fun i12 =>
  extK v10 1 fun v13 =>
  intK .i64 v13 fun i14 =>
  boolN (eqZ i14 (Int.ofNat 0)) fun b15 =>
  ifB b15
  (some (Value.tuple (List.toArray [(Value.int .i64 (Int.ofNat 2)), (Value.int .i64 i12), (Value.int .i64 i14)]), h10))
  (ptrAddK 2 a0 fun v16 =>
  load1K h10 v16 fun v17 =>
  lenSK v17 fun i18 =>
  boolZ (eqZ i18 (Int.ofNat 0)) fun b19 =>
  ifB b19
  (some (Value.tuple (List.toArray [(Value.int .i64 (Int.ofNat 3)), (Value.int .i64 (Int.ofNat 0)), (Value.int .i64 (Int.ofNat 3))]), h10))
  (ptrAddK 2 a0 fun v20 =>
  load1K h10 v20 fun v21 =>
  pairK (callQ F57 [v21, (Value.int .i64 (Int.ofNat 6)), (Value.func (.func 58) (List.toArray []) (List.toArray [a0]))] h10) fun v22 h22 =>
  extK v22 0 fun v23 =>
  intK .i64 v23 fun i24 =>
  extK v22 1 fun v25 =>
  intK .i64 v25 fun i26 =>
  boolN (eqZ i26 (Int.ofNat 0)) fun b27 =>
  ifB b27
  (some (Value.tuple (List.toArray [(Value.int .i64 (Int.ofNat 3)), (Value.int .i64 i24), (Value.int .i64 i26)]), h22))
  (some (Value.tuple (List.toArray [(Value.int .i64 (Int.ofNat 0)), (Value.int .i64 (Int.ofNat 0)), (Value.int .i64 (Int.ofNat 0))]), h22)))))
noncomputable def T16 (S : Sg) : Sg := tabC 0 (uV fun r0 => uN fun h => P16x0 S r0 h) (tabN)
noncomputable def F16 (args : List Value) (h : Hp) : CRes := packVals [Kd.v] args fun al => rec' T16 1000000 0 al h
def nt16 : Nat := 1 + (37 - 1)
theorem q16x0 (S : Sg) (r0 : Value) (h : Hp) : P16x0 S r0 h = stepAt (regK env orc17 (nt16)) (finK env Tryz.f16.results.toList) (collect B16 A16 []) 0 S (AL.v r0 AL.n) h := by kernel_rfl
theorem t16 (S : Sg) : Tab (fun l vs h => stepAt (regK env orc17 nt16) (finK env Tryz.f16.results.toList) (collect B16 A16 []) l S vs h) (T16 S) := by
  unfold T16
  refine Tab.cons 0 (fun vs0 h q e0 => ?_) ?_
  · obtain ⟨r0, vs1, rfl, e1⟩ := uV_some e0
    obtain ⟨rfl, ee⟩ := uN_some e1
    exact (q16x0 S r0 h).symm.trans ee
  exact Tab.nil
theorem r16 : ∀ args h v h', F16 args h = some (v, h') → Runs (C17) (.call 16 args.toArray h) (.ret v h') := by
  intro args h v h' e
  exact fun_sound (C := C17) (fn := Tryz.f16) (body := B16) (np := 1) (A := A16) (T := T16) (kinds := [Kd.v]) (by kernel_rfl) (by kernel_rfl) (by kernel_rfl) (by kernel_rfl) (regK_ok env_ok) (by kernel_rfl) (fun S => t16 S) e
noncomputable def orc18 := orcQ 16 F16 orc17
noncomputable def C18 : Cfg := cfg orc18
theorem ok18 : C18.Ok := orcQ_ok (C := C17) ok17 r16
noncomputable def B63 : Code := (Tryz.f63.body).getD .skip
def A63 : Ann := (Ann.node (some (0, [(0, Kd.v)])) Ann.nil (Ann.node none (Ann.node none Ann.nil (Ann.node none Ann.nil (Ann.node none (Ann.node none Ann.nil Ann.nil) Ann.nil))) (Ann.node none Ann.nil Ann.nil)))
noncomputable def P63x0 (S : Sg) (r0 : Value) (h : Hp) : CRes :=
  allocK h 25 (Array.toList (Value.cells r0)) fun a0 h0 =>
  allocK h0 88 [(Value.int .i64 (Int.ofNat 0)), (Value.slice none 0 0), (Value.slice none 0 0)] fun a1 h1 =>
  loadNK 3 h1 a0 fun v2 =>
  pairK (callQ F16 [v2] h1) fun v3 h3 =>
  extK v3 0 fun v4 =>
  intK .i64 v4 fun i5 =>
  extK v3 1 fun v6 =>
  intK .i64 v6 fun i7 =>
  extK v3 2 fun v8 =>
  intK .i64 v8 fun i9 =>
  boolN (eqZ i9 (Int.ofNat 0)) fun b10 =>
  ifB b10
  (optK (buildV env 88 (List.toArray [])) fun v11 =>
  storeNK 3 h3 a1 v11 fun h12 =>
  loadNK 3 h12 a1 fun v13 => some (Value.tuple (List.toArray [v13, (Value.int .i64 i9)]), h12))
  (loadNK 3 h3 a0 fun v14 =>
  optK (buildV env 88 (List.toArray [(0, v14)])) fun v15 =>
  storeNK 3 h3 a1 v15 fun h16 =>
  loadNK 3 h16 a1 fun v17 => some (Value.tuple (List.toArray [v17, (Value.int .i64 (Int.ofNat 0))]), h16))
noncomputable def T63 (S : Sg) : Sg := tabC 0 (uV fun r0 => uN fun h => P63x0 S r0 h) (tabN)
noncomputable def F63 (args : List Value) (h : Hp) : CRes := packVals [Kd.v] args fun al => rec' T63 1000000 0 al h
def nt63 : Nat := 1 + (19 - 1)
theorem q63x0 (S : Sg) (r0 : Value) (h : Hp) : P63x0 S r0 h = stepAt (regK env orc18 (nt63)) (finK env Tryz.f63.results.toList) (collect B63 A63 []) 0 S (AL.v r0 AL.n) h := by kernel_rfl
theorem t63 (S : Sg) : Tab (fun l vs h => stepAt (regK env orc18 nt63) (finK env Tryz.f63.results.toList) (collect B63 A63 []) l S vs h) (T63 S) := by
  unfold T63
  refine Tab.cons 0 (fun vs0 h q e0 => ?_) ?_
  · obtain ⟨r0, vs1, rfl, e1⟩ := uV_some e0
    obtain ⟨rfl, ee⟩ := uN_some e1
    exact (q63x0 S r0 h).symm.trans ee
  exact Tab.nil
theorem r63 : ∀ args h v h', F63 args h = some (v, h') → Runs (C18) (.call 63 args.toArray h) (.ret v h') := by
  intro args h v h' e
  exact fun_sound (C := C18) (fn := Tryz.f63) (body := B63) (np := 1) (A := A63) (T := T63) (kinds := [Kd.v]) (by kernel_rfl) (by kernel_rfl) (by kernel_rfl) (by kernel_rfl) (regK_ok env_ok) (by kernel_rfl) (fun S => t63 S) e
noncomputable def orc19 := orcQ 63 F63 orc18
noncomputable def C19 : Cfg := cfg orc19
theorem ok19 : C19.Ok := orcQ_ok (C := C18) ok18 r63
noncomputable def B102 : Code := (Tryz.f102.body).getD .skip
noncomputable def A102 : G.Ann (List KI) := (G.Ann.node (some (0, [KI.reg 0 (Kd.i .i64), KI.reg 1 (Kd.v)])) G.Ann.nil (G.Ann.node none G.Ann.nil G.Ann.nil))
noncomputable def P102x0 (h : Hp) (S : Nat → PAL → Option Value) (r0 : Int) (r1 : Value) : Option Value :=
  load1K h r1 fun v0 =>
  intK .i64 v0 fun i1 =>
  andZ .i64 r0 i1 (andI (binW env .and 3 (Value.int .i64 r0) (Value.int .i64 i1)) (Value.int .i64 r0) (Value.int .i64 i1)) fun i2 =>
  boolZ (eqZ i2 (Int.ofNat 0)) fun b3 =>
  some (Value.bool b3)
noncomputable def T102 (h : Hp) (S : Nat → PAL → Option Value) : Nat → PAL → Option Value := tabPC 0 (wI fun r0 => wV fun r1 => wN (P102x0 h S r0 r1)) (tabPN)
noncomputable def F102 (args : List Value) (h : Hp) : Option Value := plainO (packArgs [Kd.i .i64, Kd.v] args fun al => G.rec' (T102 h) 1000000 0 al)
def nt102 : Nat := 2 + (8 - 2)
theorem q102x0 (h : Hp) (S : Nat → PAL → Option Value) (r0 : Int) (r1 : Value) : P102x0 h S r0 r1 = G.stepAt packP unpackP evXV (regP env pf7 nt102 h) (finP env Tryz.f102.results.toList) (G.collect B102 A102 []) 0 S (PAL.i r0 (PAL.v r1 PAL.n)) := by kernel_rfl
theorem t102 (h : Hp) (S : Nat → PAL → Option Value) : TabP (fun l al => G.stepAt packP unpackP evXV (regP env pf7 nt102 h) (finP env Tryz.f102.results.toList) (G.collect B102 A102 []) l S al) (T102 h S) := by
  unfold T102
  refine TabP.cons 0 (fun vs0 q e0 => ?_) ?_
  · obtain ⟨r0, vs1, rfl, e1⟩ := wI_some e0
    obtain ⟨r1, vs2, rfl, e2⟩ := wV_some e1
    obtain ⟨rfl, ee⟩ := wN_some e2
    exact (q102x0 h S r0 r1).symm.trans ee
  exact TabP.nil
theorem r102 : PSound Tryz.prog 102 F102 := fun_soundP (C := C0) ok0 (pf := pf7) pfok7 (fn := Tryz.f102) (body := B102) (kinds := [Kd.i .i64, Kd.v]) (A := A102) (T := T102) (by kernel_rfl) (by kernel_rfl) (by kernel_rfl) (by kernel_rfl) (fun h S => t102 h S)
noncomputable def pf8 : PF := pfC 102 F102 pf7
theorem pfok8 : PfSound Tryz.prog pf8 := pfC_ok r102 pfok7
noncomputable def orc20 := orcP 102 F102 orc19
noncomputable def C20 : Cfg := cfg orc20
theorem ok20 : C20.Ok := orcP_ok (C := C19) ok19 r102
noncomputable def B144 : Code := (Tryz.f144.body).getD .skip
def A144 : Ann := (Ann.node (some (0, [(0, Kd.v), (1, Kd.v)])) Ann.nil (Ann.node none (Ann.node none Ann.nil (Ann.node none (Ann.node (some (1, [(0, Kd.v), (1, Kd.v), (7, Kd.i .i64), (8, Kd.i .i64)])) (Ann.node none Ann.nil (Ann.node none (Ann.node none Ann.nil Ann.nil) (Ann.node none (Ann.node none (Ann.node none Ann.nil (Ann.node none Ann.nil (Ann.node none (Ann.node none Ann.nil Ann.nil) Ann.nil))) Ann.nil) Ann.nil))) Ann.nil) Ann.nil)) (Ann.node (some (2, [])) Ann.nil Ann.nil)))
noncomputable def P144x2 (S : Sg) (h : Hp) : CRes :=
  some ((Value.int .i64 (Int.negSucc 0)), h)
noncomputable def P144x1 (S : Sg) (r0 : Value) (r1 : Value) (r7 : Int) (r8 : Int) (h : Hp) : CRes :=
  boolZ (ltZ r8 r7) fun b0 =>
  ifB b0
  (idxSK 1 r0 r8 fun v1 =>
  load1K h v1 fun v2 =>
  intK .i64 v2 fun i3 =>
  pairK (callF orc20 r1 [(Value.int .i64 i3)] h) fun v4 h4 =>
  boolK v4 fun b5 =>
  ifB b5
  (some ((Value.int .i64 r8), h4))
  (wrap64 (Int.add r8 (Int.ofNat 1)) fun i6 =>
  S 1 (AL.v r0 (AL.v r1 (AL.i r7 (AL.i i6 AL.n)))) h4))
  (S 2 AL.n h)
noncomputable def P144x0 (S : Sg) (r0 : Value) (r1 : Value) (h : Hp) : CRes :=
  lenSK r0 fun i0 =>
  S 1 (AL.v r0 (AL.v r1 (AL.i i0 (AL.i (Int.ofNat 0) AL.n)))) h
noncomputable def T144 (S : Sg) : Sg := tabC 0 (uV fun r0 => uV fun r1 => uN fun h => P144x0 S r0 r1 h) (tabC 1 (uV fun r0 => uV fun r1 => uI fun r7 => uI fun r8 => uN fun h => P144x1 S r0 r1 r7 r8 h) (tabC 2 (uN fun h => P144x2 S  h) (tabN)))
noncomputable def F144 (args : List Value) (h : Hp) : CRes := packVals [Kd.v, Kd.v] args fun al => rec' T144 1000000 0 al h
def nt144 : Nat := 2 + (19 - 2)
theorem q144x2 (S : Sg) (h : Hp) : P144x2 S  h = stepAt (regK env orc20 (nt144)) (finK env Tryz.f144.results.toList) (collect B144 A144 []) 2 S AL.n h := by kernel_rfl
theorem q144x1 (S : Sg) (r0 : Value) (r1 : Value) (r7 : Int) (r8 : Int) (h : Hp) : P144x1 S r0 r1 r7 r8 h = stepAt (regK env orc20 (nt144)) (finK env Tryz.f144.results.toList) (collect B144 A144 []) 1 S (AL.v r0 (AL.v r1 (AL.i r7 (AL.i r8 AL.n)))) h := by kernel_rfl
theorem q144x0 (S : Sg) (r0 : Value) (r1 : Value) (h : Hp) : P144x0 S r0 r1 h = stepAt (regK env orc20 (nt144)) (finK env Tryz.f144.results.toList) (collect B144 A144 []) 0 S (AL.v r0 (AL.v r1 AL.n)) h := by kernel_rfl
theorem t144 (S : Sg) : Tab (fun l vs h => stepAt (regK env orc20 nt144) (finK env Tryz.f144.results.toList) (collect B144 A144 []) l S vs h) (T144 S) := by
  unfold T144
  refine Tab.cons 0 (fun vs0 h q e0 => ?_) ?_
  · obtain ⟨r0, vs1, rfl, e1⟩ := uV_some e0
    obtain ⟨r1, vs2, rfl, e2⟩ := uV_some e1
    obtain ⟨rfl, ee⟩ := uN_some e2
    exact (q144x0 S r0 r1 h).symm.trans ee
  refine Tab.cons 1 (fun vs0 h q e0 => ?_) ?_
  · obtain ⟨r0, vs1, rfl, e1⟩ := uV_some e0
    obtain ⟨r1, vs2, rfl, e2⟩ := uV_some e1
    obtain ⟨r7, vs3, rfl, e3⟩ := uI_some e2
    obtain ⟨r8, vs4, rfl, e4⟩ := uI_some e3
    obtain ⟨rfl, ee⟩ := uN_some e4
    exact (q144x1 S r0 r1 r7 r8 h).symm.trans ee
  refine Tab.cons 2 (fun vs0 h q e0 => ?_) ?_
  · 
    obtain ⟨rfl, ee⟩ := uN_some e0
    exact (q144x2 S  h).symm.trans ee
  exact Tab.nil
theorem r144 : ∀ args h v h', F144 args h = some (v, h') → Runs (C20) (.call 144 args.toArray h) (.ret v h') := by
  intro args h v h' e
  exact fun_sound (C := C20) (fn := Tryz.f144) (body := B144) (np := 2) (A := A144) (T := T144) (kinds := [Kd.v, Kd.v]) (by kernel_rfl) (by kernel_rfl) (by kernel_rfl) (by kernel_rfl) (regK_ok env_ok) (by kernel_rfl) (fun S => t144 S) e
noncomputable def orc21 := orcQ 144 F144 orc20
noncomputable def C21 : Cfg := cfg orc21
theorem ok21 : C21.Ok := orcQ_ok (C := C20) ok20 r144
noncomputable def B101 : Code := (Tryz.f101.body).getD .skip
def A101 : Ann := (Ann.node (some (0, [(0, Kd.v), (1, Kd.v)])) Ann.nil (Ann.node none Ann.nil Ann.nil))
noncomputable def P101x0 (S : Sg) (r0 : Value) (r1 : Value) (h : Hp) : CRes :=
  pairK (callQ F144 [r0, r1] h) fun v0 h0 =>
  intK .i64 v0 fun i1 =>
  boolN (ltZ i1 (Int.ofNat 0)) fun b2 =>
  some ((Value.bool b2), h0)
noncomputable def T101 (S : Sg) : Sg := tabC 0 (uV fun r0 => uV fun r1 => uN fun h => P101x0 S r0 r1 h) (tabN)
noncomputable def F101 (args : List Value) (h : Hp) : CRes := packVals [Kd.v, Kd.v] args fun al => rec' T101 1000000 0 al h
def nt101 : Nat := 2 + (9 - 2)
theorem q101x0 (S : Sg) (r0 : Value) (r1 : Value) (h : Hp) : P101x0 S r0 r1 h = stepAt (regK env orc21 (nt101)) (finK env Tryz.f101.results.toList) (collect B101 A101 []) 0 S (AL.v r0 (AL.v r1 AL.n)) h := by kernel_rfl
theorem t101 (S : Sg) : Tab (fun l vs h => stepAt (regK env orc21 nt101) (finK env Tryz.f101.results.toList) (collect B101 A101 []) l S vs h) (T101 S) := by
  unfold T101
  refine Tab.cons 0 (fun vs0 h q e0 => ?_) ?_
  · obtain ⟨r0, vs1, rfl, e1⟩ := uV_some e0
    obtain ⟨r1, vs2, rfl, e2⟩ := uV_some e1
    obtain ⟨rfl, ee⟩ := uN_some e2
    exact (q101x0 S r0 r1 h).symm.trans ee
  exact Tab.nil
theorem r101 : ∀ args h v h', F101 args h = some (v, h') → Runs (C21) (.call 101 args.toArray h) (.ret v h') := by
  intro args h v h' e
  exact fun_sound (C := C21) (fn := Tryz.f101) (body := B101) (np := 2) (A := A101) (T := T101) (kinds := [Kd.v, Kd.v]) (by kernel_rfl) (by kernel_rfl) (by kernel_rfl) (by kernel_rfl) (regK_ok env_ok) (by kernel_rfl) (fun S => t101 S) e
noncomputable def orc22 := orcQ 101 F101 orc21
noncomputable def C22 : Cfg := cfg orc22
theorem ok22 : C22.Ok := orcQ_ok (C := C21) ok21 r101
noncomputable def B65 : Code := (Tryz.f65.body).getD .skip
def A65 : Ann := (Ann.node (some (0, [(0, Kd.v), (1, Kd.i .i64)])) Ann.nil (Ann.node none Ann.nil Ann.nil))
noncomputable def P65x0 (S : Sg) (r0 : Value) (r1 : Int) (h : Hp) : CRes :=
  allocK h 88 (Array.toList (Value.cells r0)) fun a0 h0 =>
  allocK h0 3 [(Value.int .i64 r1)] fun a1 h1 =>
  ptrAddK 0 a0 fun v2 =>
  ptrAddK 2 v2 fun v3 =>
  load1K h1 v3 fun v4 =>
  pairK (callQ F101 [v4, (Value.func (.func 102) (List.toArray []) (List.toArray [a1]))] h1) fun v5 h5 =>
  boolK v5 fun b6 =>
  boolN b6 fun b7 =>
  some ((Value.bool b7), h5)
noncomputable def T65 (S : Sg) : Sg := tabC 0 (uV fun r0 => uI fun r1 => uN fun h => P65x0 S r0 r1 h) (tabN)
noncomputable def F65 (args : List Value) (h : Hp) : CRes := packVals [Kd.v, Kd.i .i64] args fun al => rec' T65 1000000 0 al h
def nt65 : Nat := 2 + (11 - 2)
theorem q65x0 (S : Sg) (r0 : Value) (r1 : Int) (h : Hp) : P65x0 S r0 r1 h = stepAt (regK env orc22 (nt65)) (finK env Tryz.f65.results.toList) (collect B65 A65 []) 0 S (AL.v r0 (AL.i r1 AL.n)) h := by kernel_rfl
theorem t65 (S : Sg) : Tab (fun l vs h => stepAt (regK env orc22 nt65) (finK env Tryz.f65.results.toList) (collect B65 A65 []) l S vs h) (T65 S) := by
  unfold T65
  refine Tab.cons 0 (fun vs0 h q e0 => ?_) ?_
  · obtain ⟨r0, vs1, rfl, e1⟩ := uV_some e0
    obtain ⟨r1, vs2, rfl, e2⟩ := uI_some e1
    obtain ⟨rfl, ee⟩ := uN_some e2
    exact (q65x0 S r0 r1 h).symm.trans ee
  exact Tab.nil
theorem r65 : ∀ args h v h', F65 args h = some (v, h') → Runs (C22) (.call 65 args.toArray h) (.ret v h') := by
  intro args h v h' e
  exact fun_sound (C := C22) (fn := Tryz.f65) (body := B65) (np := 2) (A := A65) (T := T65) (kinds := [Kd.v, Kd.i .i64]) (by kernel_rfl) (by kernel_rfl) (by kernel_rfl) (by kernel_rfl) (regK_ok env_ok) (by kernel_rfl) (fun S => t65 S) e
noncomputable def orc23 := orcQ 65 F65 orc22
noncomputable def C23 : Cfg := cfg orc23
theorem ok23 : C23.Ok := orcQ_ok (C := C22) ok22 r65
noncomputable def B18 : Code := (Tryz.f18.body).getD .skip
def A18 : Ann := (Ann.node (some (0, [(0, Kd.v), (1, Kd.i .i64)])) Ann.nil (Ann.node none Ann.nil (Ann.node none (Ann.node none Ann.nil (Ann.node none (Ann.node none Ann.nil Ann.nil) Ann.nil)) (Ann.node none (Ann.node none Ann.nil (Ann.node none (Ann.node none Ann.nil Ann.nil) Ann.nil)) (Ann.node none Ann.nil Ann.nil)))))
noncomputable def P18x0 (S : Sg) (r0 : Value) (r1 : Int) (h : Hp) : CRes :=
  allocK h 25 (Array.toList (Value.cells r0)) fun a0 h0 =>
  loadNK 3 h0 a0 fun v1 =>
  pairK (callQ F63 [v1] h0) fun v2 h2 =>
  extK v2 0 fun v3 =>
  extK v2 1 fun v4 =>
  intK .i64 v4 fun i5 =>
  allocK h2 88 [(Value.int .i64 (Int.ofNat 0)), (Value.slice none 0 0), (Value.slice none 0 0)] fun a6 h6 =>
  storeNK 3 h6 a6 v3 fun h7 =>
  boolN (eqZ i5 (Int.ofNat 0)) fun b8 =>
  ifB b8
  (some (Value.tuple (List.toArray [(Value.bool false), (Value.int .i64 i5)]), h7))
  (ptrAddK 0 a6 fun v9 =>
  ptrAddK 1 v9 fun v10 =>
  load1K h7 v10 fun v11 =>
  lenSK v11 fun i12 =>
  slowI .i64 (shlI (binW env .shl 3 (Value.int .i64 (Int.ofNat 1)) (Value.int .i64 i12)) (Value.int .i64 (Int.ofNat 1)) (Value.int .i64 i12)) fun i13 =>
  pairK (buildSliceV env h7 23 1 (List.toArray [(0, (Value.int .i64 r1))])) fun v14 h14 =>
  pairK (optK (F64 [(Value.int .i64 i13), v14] h14) fun v => some (v, h14)) fun v15 h15 =>
  boolK v15 fun b16 =>
  boolN b16 fun b17 =>
  ifB b17
  (some (Value.tuple (List.toArray [(Value.bool false), (Value.int .i64 (Int.ofNat 4))]), h15))
  (loadNK 3 h15 a6 fun v18 =>
  pairK (callQ F65 [v18, (Value.int .i64 r1)] h15) fun v19 h19 =>
  boolK v19 fun b20 =>
  some (Value.tuple (List.toArray [(Value.bool b20), (Value.int .i64 (Int.ofNat 0))]), h19)))
noncomputable def T18 (S : Sg) : Sg := tabC 0 (uV fun r0 => uI fun r1 => uN fun h => P18x0 S r0 r1 h) (tabN)
noncomputable def F18 (args : List Value) (h : Hp) : CRes := packVals [Kd.v, Kd.i .i64] args fun al => rec' T18 1000000 0 al h
def nt18 : Nat := 2 + (28 - 2)
theorem q18x0 (S : Sg) (r0 : Value) (r1 : Int) (h : Hp) : P18x0 S r0 r1 h = stepAt (regK env orc23 (nt18)) (finK env Tryz.f18.results.toList) (collect B18 A18 []) 0 S (AL.v r0 (AL.i r1 AL.n)) h := by kernel_rfl
theorem t18 (S : Sg) : Tab (fun l vs h => stepAt (regK env orc23 nt18) (finK env Tryz.f18.results.toList) (collect B18 A18 []) l S vs h) (T18 S) := by
  unfold T18
  refine Tab.cons 0 (fun vs0 h q e0 => ?_) ?_
  · obtain ⟨r0, vs1, rfl, e1⟩ := uV_some e0
    obtain ⟨r1, vs2, rfl, e2⟩ := uI_some e1
    obtain ⟨rfl, ee⟩ := uN_some e2
    exact (q18x0 S r0 r1 h).symm.trans ee
  exact Tab.nil
theorem r18 : ∀ args h v h', F18 args h = some (v, h') → Runs (C23) (.call 18 args.toArray h) (.ret v h') := by
  intro args h v h' e
  exact fun_sound (C := C23) (fn := Tryz.f18) (body := B18) (np := 2) (A := A18) (T := T18) (kinds := [Kd.v, Kd.i .i64]) (by kernel_rfl) (by kernel_rfl) (by kernel_rfl) (by kernel_rfl) (regK_ok env_ok) (by kernel_rfl) (fun S => t18 S) e
noncomputable def orc24 := orcQ 18 F18 orc23
noncomputable def C24 : Cfg := cfg orc24
theorem ok24 : C24.Ok := orcQ_ok (C := C23) ok23 r18
noncomputable abbrev orcE := orc24
theorem okE : (cfg orcE).Ok := ok24
end Go.Proofs.YtpjflnjlmjnmjaaGreatDoor.K
