/- Functions told. -/
import Derived.Test.YtaegcofpbihmhaaTab
open Go Go.Eng
set_option maxRecDepth 100000
set_option linter.unusedVariables false
namespace Go.Proofs.Ytaegcofpbihmhaa.K
abbrev bn (a b : Ann) : Ann := .node none a b
abbrev bl : Ann := .nil
abbrev ki (n : Nat) : Value := Value.int .i64 (Int.ofNat n)
abbrev an {V : Type} (a b : G.Ann V) : G.Ann V := G.Ann.node none a b
abbrev al {V : Type} : G.Ann V := G.Ann.nil
noncomputable def B18 : Code := (Try.f18.body).getD .skip
def A18 : Ann := (Ann.node (some (0, [(0, Kd.b)])) bl (bn bl (bn (bn bl (bn bl bl)) (bn bl bl))))
noncomputable def P18x0 (S : Sg) (r0 : Bool) (h : Hp) : CRes :=
  allocK h 26 [(Value.slice none 0 0), (Value.slice none 0 0), (ki 0), (Value.slice none 0 0)] fun a0 h0 =>
  optK (buildV env 54 (List.toArray [(0, (Value.string (ByteArray.mk #[114, 101, 100]))), (1, (ki 3)), (2, (Value.bool true)), (3, (ki 90)), (4, (ki 10)), (5, (ki 3)), (6, (ki 20)), (7, (ki 100))])) fun v1 =>
  optK (buildV env 54 (List.toArray [(0, (Value.string (ByteArray.mk #[98, 108, 117, 101]))), (1, (ki 1))])) fun v2 =>
  optK (buildV env 54 (List.toArray [(0, (Value.string (ByteArray.mk #[103, 111, 108, 100]))), (1, (ki 7)), (2, (Value.bool true)), (3, (ki 120)), (4, (ki 5)), (5, (ki 8)), (7, (ki 60))])) fun v3 =>
  pairK (buildSliceV env h0 22 3 (List.toArray [(0, v1), (1, v2), (2, v3)])) fun v4 h4 =>
  optK (buildV env 63 (List.toArray [(0, (Value.string (ByteArray.mk #[113, 117, 101, 101, 110]))), (1, (ki 50)), (2, (ki 59)), (3, (ki 2))])) fun v5 =>
  optK (buildV env 63 (List.toArray [(0, (Value.string (ByteArray.mk #[98, 105, 115, 104, 111, 112]))), (1, (ki 20)), (2, (ki 80)), (3, (ki 1))])) fun v6 =>
  optK (buildV env 63 (List.toArray [(0, (Value.string (ByteArray.mk #[108, 97, 100, 121]))), (1, (ki 45)), (2, (ki 50)), (3, (ki 4))])) fun v7 =>
  pairK (buildSliceV env h4 23 3 (List.toArray [(0, v5), (1, v6), (2, v7)])) fun v8 h8 =>
  optK (buildV env 57 (List.toArray [(0, (ki 40)), (1, (ki 150))])) fun v9 =>
  pairK (buildSliceV env h8 24 1 (List.toArray [(0, v9)])) fun v10 h10 =>
  optK (buildV env 26 (List.toArray [(0, v4), (1, v8), (2, (ki 100)), (3, v10)])) fun v11 =>
  allocK h10 26 [(Value.slice none 0 0), (Value.slice none 0 0), (ki 0), (Value.slice none 0 0)] fun a12 h12 =>
  storeNK 4 h12 a12 v11 fun h13 =>
  ifB r0
  (ptrAddK 2 a12 fun v14 =>
  store1K h13 v14 (ki 20) fun h15 =>
  ptrAddK 3 a12 fun v16 =>
  store1K h15 v16 (Value.slice none 0 0) fun h17 =>
  loadNK 4 h17 a12 fun v18 =>
  storeNK 4 h17 a0 v18 fun h19 =>
  loadNK 4 h19 a0 fun v20 => some (v20, h19))
  (loadNK 4 h13 a12 fun v21 =>
  storeNK 4 h13 a0 v21 fun h22 =>
  loadNK 4 h22 a0 fun v23 => some (v23, h22))
noncomputable def T18 (S : Sg) : Sg := tabC 0 (uB fun r0 => uN fun h => P18x0 S r0 h) (tabN)
noncomputable def F18 (args : List Value) (h : Hp) : CRes := packVals [Kd.b] args fun al => rec' T18 1000000 0 al h
def nt18 : Nat := 1 + (19 - 1)
theorem q18x0 (S : Sg) (r0 : Bool) (h : Hp) : P18x0 S r0 h = stepAt (regK env orc0 (nt18)) (finK env Try.f18.results.toList) (collect B18 A18 []) 0 S (AL.b r0 AL.n) h := by kernel_rfl
theorem t18 (S : Sg) : Tab (fun l vs h => stepAt (regK env orc0 nt18) (finK env Try.f18.results.toList) (collect B18 A18 []) l S vs h) (T18 S) := by
  unfold T18
  refine Tab.cons 0 (fun vs0 h q e0 => ?_) ?_
  · obtain ⟨r0, vs1, rfl, e1⟩ := uB_some e0
    obtain ⟨rfl, ee⟩ := uN_some e1
    exact (q18x0 S r0 h).symm.trans ee
  exact Tab.nil
theorem r18 : ∀ args h v h', F18 args h = some (v, h') → Runs (C0) (.call 18 args.toArray h) (.ret v h') := by
  intro args h v h' e
  exact fun_sound (C := C0) (fn := Try.f18) (body := B18) (np := 1) (A := A18) (T := T18) (kinds := [Kd.b]) (by kernel_rfl) (by kernel_rfl) (by kernel_rfl) (by kernel_rfl) (regK_ok env_ok) (by kernel_rfl) (fun S => t18 S) e
noncomputable def orc1 := orcQ 18 F18 orc0
noncomputable def C1 : Cfg := cfg orc1
theorem ok1 : C1.Ok := orcQ_ok (C := C0) ok0 r18
noncomputable def B67 : Code := (Try.f67.body).getD .skip
noncomputable def A67 : G.Ann (List KI) := (G.Ann.node (some (0, [KI.reg 0 (Kd.v), KI.reg 1 (Kd.v)])) al (an al al))
noncomputable def P67x0 (h : Hp) (S : Nat → PAL → Option Value) (r0 : Value) (r1 : Value) : Option Value :=
  forceL (Array.toList (Value.cells r0)) fun c0 =>
  nthR c0 0 fun v1 =>
  ptrAddK 0 r1 fun v2 =>
  load1K h v2 fun v3 =>
  optK (binV env .eql 9 (Operand.tmp 5) (Operand.tmp 7) v1 v3) fun v4 =>
  boolK v4 fun b5 =>
  some (Value.bool b5)
noncomputable def T67 (h : Hp) (S : Nat → PAL → Option Value) : Nat → PAL → Option Value := tabPC 0 (wV fun r0 => wV fun r1 => wN (P67x0 h S r0 r1)) (tabPN)
noncomputable def F67 (args : List Value) (h : Hp) : Option Value := plainO (packArgs [Kd.v, Kd.v] args fun al => G.rec' (T67 h) 1000000 0 al)
def nt67 : Nat := 2 + (9 - 2)
theorem q67x0 (h : Hp) (S : Nat → PAL → Option Value) (r0 : Value) (r1 : Value) : P67x0 h S r0 r1 = G.stepAt packP unpackP evXV (regP env pf0 nt67 h) (finP env Try.f67.results.toList) (G.collect B67 A67 []) 0 S (PAL.v r0 (PAL.v r1 PAL.n)) := by kernel_rfl
theorem t67 (h : Hp) (S : Nat → PAL → Option Value) : TabP (fun l al => G.stepAt packP unpackP evXV (regP env pf0 nt67 h) (finP env Try.f67.results.toList) (G.collect B67 A67 []) l S al) (T67 h S) := by
  unfold T67
  refine TabP.cons 0 (fun vs0 q e0 => ?_) ?_
  · obtain ⟨r0, vs1, rfl, e1⟩ := wV_some e0
    obtain ⟨r1, vs2, rfl, e2⟩ := wV_some e1
    obtain ⟨rfl, ee⟩ := wN_some e2
    exact (q67x0 h S r0 r1).symm.trans ee
  exact TabP.nil
theorem r67 : PSound Try.prog 67 F67 := fun_soundP (C := C0) ok0 (pf := pf0) pfok0 (fn := Try.f67) (body := B67) (kinds := [Kd.v, Kd.v]) (A := A67) (T := T67) (by kernel_rfl) (by kernel_rfl) (by kernel_rfl) (by kernel_rfl) (fun h S => t67 h S)
noncomputable def pf1 : PF := pfC 67 F67 pf0
theorem pfok1 : PfSound Try.prog pf1 := pfC_ok r67 pfok0
noncomputable def orc2 := orcP 67 F67 orc1
noncomputable def C2 : Cfg := cfg orc2
theorem ok2 : C2.Ok := orcP_ok (C := C1) ok1 r67
noncomputable def B33 : Code := (Try.f33.body).getD .skip
noncomputable def A33 : G.Ann (List KI) := (G.Ann.node (some (0, [KI.reg 0 (Kd.i .i64), KI.reg 1 (Kd.i .i64), KI.reg 2 (Kd.v)])) al (an (an al (an (G.Ann.node (some (1, [KI.reg 0 (Kd.i .i64), KI.reg 1 (Kd.i .i64), KI.reg 9 (Kd.v), KI.reg 10 (Kd.i .i64), KI.reg 11 (Kd.i .i64)])) (an al (an (an al al) (an (an (an al (an al (an (an al al) al))) al) al))) al) al)) (G.Ann.node (some (2, [])) al al)))
noncomputable def P33x2 (h : Hp) (S : Nat → PAL → Option Value) : Option Value :=
  some (Value.bool true)
noncomputable def P33x1 (h : Hp) (S : Nat → PAL → Option Value) (r0 : Int) (r1 : Int) (r9 : Value) (r10 : Int) (r11 : Int) : Option Value :=
  boolZ (ltZ r11 r10) fun b0 =>
  ifB b0
  (idxSK 1 r9 r11 fun v1 =>
  load1K h v1 fun v2 =>
  intK .i64 v2 fun i3 =>
  boolZ (ltZ i3 r0) fun b4 =>
  ifB b4
  (some (Value.bool false))
  (boolZ (ltZ r1 i3) fun b5 =>
  ifB b5
  (some (Value.bool false))
  (wrap64 (Int.add r11 (Int.ofNat 1)) fun i6 =>
  S 1 (PAL.i r0 (PAL.i r1 (PAL.v r9 (PAL.i r10 (PAL.i i6 PAL.n))))))))
  (S 2 PAL.n)
noncomputable def P33x0 (h : Hp) (S : Nat → PAL → Option Value) (r0 : Int) (r1 : Int) (r2 : Value) : Option Value :=
  lenSK r2 fun i0 =>
  S 1 (PAL.i r0 (PAL.i r1 (PAL.v r2 (PAL.i i0 (PAL.i (Int.ofNat 0) PAL.n)))))
noncomputable def T33 (h : Hp) (S : Nat → PAL → Option Value) : Nat → PAL → Option Value := tabPC 0 (wI fun r0 => wI fun r1 => wV fun r2 => wN (P33x0 h S r0 r1 r2)) (tabPC 1 (wI fun r0 => wI fun r1 => wV fun r9 => wI fun r10 => wI fun r11 => wN (P33x1 h S r0 r1 r9 r10 r11)) (tabPC 2 (wN (P33x2 h S)) (tabPN)))
noncomputable def F33 (args : List Value) (h : Hp) : Option Value := plainO (packArgs [Kd.i .i64, Kd.i .i64, Kd.v] args fun al => G.rec' (T33 h) 1000000 0 al)
def nt33 : Nat := 3 + (24 - 3)
theorem q33x2 (h : Hp) (S : Nat → PAL → Option Value) : P33x2 h S = G.stepAt packP unpackP evXV (regP env pf1 nt33 h) (finP env Try.f33.results.toList) (G.collect B33 A33 []) 2 S PAL.n := by kernel_rfl
theorem q33x1 (h : Hp) (S : Nat → PAL → Option Value) (r0 : Int) (r1 : Int) (r9 : Value) (r10 : Int) (r11 : Int) : P33x1 h S r0 r1 r9 r10 r11 = G.stepAt packP unpackP evXV (regP env pf1 nt33 h) (finP env Try.f33.results.toList) (G.collect B33 A33 []) 1 S (PAL.i r0 (PAL.i r1 (PAL.v r9 (PAL.i r10 (PAL.i r11 PAL.n))))) := by kernel_rfl
theorem q33x0 (h : Hp) (S : Nat → PAL → Option Value) (r0 : Int) (r1 : Int) (r2 : Value) : P33x0 h S r0 r1 r2 = G.stepAt packP unpackP evXV (regP env pf1 nt33 h) (finP env Try.f33.results.toList) (G.collect B33 A33 []) 0 S (PAL.i r0 (PAL.i r1 (PAL.v r2 PAL.n))) := by kernel_rfl
theorem t33 (h : Hp) (S : Nat → PAL → Option Value) : TabP (fun l al => G.stepAt packP unpackP evXV (regP env pf1 nt33 h) (finP env Try.f33.results.toList) (G.collect B33 A33 []) l S al) (T33 h S) := by
  unfold T33
  refine TabP.cons 0 (fun vs0 q e0 => ?_) ?_
  · obtain ⟨r0, vs1, rfl, e1⟩ := wI_some e0
    obtain ⟨r1, vs2, rfl, e2⟩ := wI_some e1
    obtain ⟨r2, vs3, rfl, e3⟩ := wV_some e2
    obtain ⟨rfl, ee⟩ := wN_some e3
    exact (q33x0 h S r0 r1 r2).symm.trans ee
  refine TabP.cons 1 (fun vs0 q e0 => ?_) ?_
  · obtain ⟨r0, vs1, rfl, e1⟩ := wI_some e0
    obtain ⟨r1, vs2, rfl, e2⟩ := wI_some e1
    obtain ⟨r9, vs3, rfl, e3⟩ := wV_some e2
    obtain ⟨r10, vs4, rfl, e4⟩ := wI_some e3
    obtain ⟨r11, vs5, rfl, e5⟩ := wI_some e4
    obtain ⟨rfl, ee⟩ := wN_some e5
    exact (q33x1 h S r0 r1 r9 r10 r11).symm.trans ee
  refine TabP.cons 2 (fun vs0 q e0 => ?_) ?_
  · 
    obtain ⟨rfl, ee⟩ := wN_some e0
    exact (q33x2 h S).symm.trans ee
  exact TabP.nil
theorem r33 : PSound Try.prog 33 F33 := fun_soundP (C := C0) ok0 (pf := pf1) pfok1 (fn := Try.f33) (body := B33) (kinds := [Kd.i .i64, Kd.i .i64, Kd.v]) (A := A33) (T := T33) (by kernel_rfl) (by kernel_rfl) (by kernel_rfl) (by kernel_rfl) (fun h S => t33 h S)
noncomputable def pf2 : PF := pfC 33 F33 pf1
theorem pfok2 : PfSound Try.prog pf2 := pfC_ok r33 pfok1
noncomputable def orc3 := orcP 33 F33 orc2
noncomputable def C3 : Cfg := cfg orc3
theorem ok3 : C3.Ok := orcP_ok (C := C2) ok2 r33
noncomputable def B91 : Code := (Try.f91.body).getD .skip
noncomputable def A91 : G.Ann (List KI) := (G.Ann.node (some (0, [KI.reg 0 (Kd.i .u8)])) al (an al al))
noncomputable def P91x0 (h : Hp) (S : Nat → PAL → Option Value) (r0 : Int) : Option Value :=
  boolN (ltZ r0 (Int.ofNat 97)) fun b0 =>
  ifB b0
  (boolN (ltZ (Int.ofNat 122) r0) fun b1 =>
  some (Value.bool b1))
  (some (Value.bool false))
noncomputable def T91 (h : Hp) (S : Nat → PAL → Option Value) : Nat → PAL → Option Value := tabPC 0 (wI fun r0 => wN (P91x0 h S r0)) (tabPN)
noncomputable def F91 (args : List Value) (h : Hp) : Option Value := plainO (packArgs [Kd.i .u8] args fun al => G.rec' (T91 h) 1000000 0 al)
def nt91 : Nat := 1 + (9 - 1)
theorem q91x0 (h : Hp) (S : Nat → PAL → Option Value) (r0 : Int) : P91x0 h S r0 = G.stepAt packP unpackP evXV (regP env pf2 nt91 h) (finP env Try.f91.results.toList) (G.collect B91 A91 []) 0 S (PAL.i r0 PAL.n) := by kernel_rfl
theorem t91 (h : Hp) (S : Nat → PAL → Option Value) : TabP (fun l al => G.stepAt packP unpackP evXV (regP env pf2 nt91 h) (finP env Try.f91.results.toList) (G.collect B91 A91 []) l S al) (T91 h S) := by
  unfold T91
  refine TabP.cons 0 (fun vs0 q e0 => ?_) ?_
  · obtain ⟨r0, vs1, rfl, e1⟩ := wI_some e0
    obtain ⟨rfl, ee⟩ := wN_some e1
    exact (q91x0 h S r0).symm.trans ee
  exact TabP.nil
theorem r91 : PSound Try.prog 91 F91 := fun_soundP (C := C0) ok0 (pf := pf2) pfok2 (fn := Try.f91) (body := B91) (kinds := [Kd.i .u8]) (A := A91) (T := T91) (by kernel_rfl) (by kernel_rfl) (by kernel_rfl) (by kernel_rfl) (fun h S => t91 h S)
noncomputable def pf3 : PF := pfC 91 F91 pf2
theorem pfok3 : PfSound Try.prog pf3 := pfC_ok r91 pfok2
noncomputable def orc4 := orcP 91 F91 orc3
noncomputable def C4 : Cfg := cfg orc4
theorem ok4 : C4.Ok := orcP_ok (C := C3) ok3 r91
noncomputable def B92 : Code := (Try.f92.body).getD .skip
noncomputable def A92 : G.Ann (List KI) := (G.Ann.node (some (0, [KI.reg 0 (Kd.i .u8)])) al (an al al))
noncomputable def P92x0 (h : Hp) (S : Nat → PAL → Option Value) (r0 : Int) : Option Value :=
  boolN (ltZ r0 (Int.ofNat 48)) fun b0 =>
  ifB b0
  (boolN (ltZ (Int.ofNat 57) r0) fun b1 =>
  some (Value.bool b1))
  (some (Value.bool false))
noncomputable def T92 (h : Hp) (S : Nat → PAL → Option Value) : Nat → PAL → Option Value := tabPC 0 (wI fun r0 => wN (P92x0 h S r0)) (tabPN)
noncomputable def F92 (args : List Value) (h : Hp) : Option Value := plainO (packArgs [Kd.i .u8] args fun al => G.rec' (T92 h) 1000000 0 al)
def nt92 : Nat := 1 + (9 - 1)
theorem q92x0 (h : Hp) (S : Nat → PAL → Option Value) (r0 : Int) : P92x0 h S r0 = G.stepAt packP unpackP evXV (regP env pf3 nt92 h) (finP env Try.f92.results.toList) (G.collect B92 A92 []) 0 S (PAL.i r0 PAL.n) := by kernel_rfl
theorem t92 (h : Hp) (S : Nat → PAL → Option Value) : TabP (fun l al => G.stepAt packP unpackP evXV (regP env pf3 nt92 h) (finP env Try.f92.results.toList) (G.collect B92 A92 []) l S al) (T92 h S) := by
  unfold T92
  refine TabP.cons 0 (fun vs0 q e0 => ?_) ?_
  · obtain ⟨r0, vs1, rfl, e1⟩ := wI_some e0
    obtain ⟨rfl, ee⟩ := wN_some e1
    exact (q92x0 h S r0).symm.trans ee
  exact TabP.nil
theorem r92 : PSound Try.prog 92 F92 := fun_soundP (C := C0) ok0 (pf := pf3) pfok3 (fn := Try.f92) (body := B92) (kinds := [Kd.i .u8]) (A := A92) (T := T92) (by kernel_rfl) (by kernel_rfl) (by kernel_rfl) (by kernel_rfl) (fun h S => t92 h S)
noncomputable def pf4 : PF := pfC 92 F92 pf3
theorem pfok4 : PfSound Try.prog pf4 := pfC_ok r92 pfok3
noncomputable def orc5 := orcP 92 F92 orc4
noncomputable def C5 : Cfg := cfg orc5
theorem ok5 : C5.Ok := orcP_ok (C := C4) ok4 r92
noncomputable def B65 : Code := (Try.f65.body).getD .skip
def A65 : Ann := (Ann.node (some (0, [(0, Kd.v)])) bl (bn (bn bl (bn (bn bl bl) bl)) (bn (bn bl (bn (Ann.node (some (1, [(0, Kd.v), (16, Kd.i .i64), (17, Kd.i .i64)])) (bn bl (bn (bn bl bl) (bn (bn (bn bl (bn bl (bn (bn bl bl) bl))) bl) bl))) bl) bl)) (Ann.node (some (2, [])) bl bl))))
noncomputable def P65x2 (S : Sg) (h : Hp) : CRes :=
  some ((Value.bool true), h)
noncomputable def P65x1 (S : Sg) (r0 : Value) (r16 : Int) (r17 : Int) (h : Hp) : CRes :=
  boolZ (ltZ r17 r16) fun b0 =>
  ifB b0
  (optK (indexV env 9 r0 (Value.int .i64 r17)) fun v1 =>
  intK .u8 v1 fun i2 =>
  pairK (optK (F91 [(Value.int .u8 i2)] h) fun v => some (v, h)) fun v3 h3 =>
  boolK v3 fun b4 =>
  boolN b4 fun b5 =>
  ifB b5
  (optK (indexV env 9 r0 (Value.int .i64 r17)) fun v6 =>
  intK .u8 v6 fun i7 =>
  pairK (optK (F92 [(Value.int .u8 i7)] h3) fun v => some (v, h3)) fun v8 h8 =>
  boolK v8 fun b9 =>
  boolN b9 fun b10 =>
  ifB b10
  (optK (indexV env 9 r0 (Value.int .i64 r17)) fun v11 =>
  intK .u8 v11 fun i12 =>
  boolN (eqZ i12 (Int.ofNat 46)) fun b13 =>
  ifB b13
  (some ((Value.bool false), h8))
  (wrap64 (Int.add r17 (Int.ofNat 1)) fun i14 =>
  S 1 (AL.v r0 (AL.i r16 (AL.i i14 AL.n))) h8))
  (wrap64 (Int.add r17 (Int.ofNat 1)) fun i15 =>
  S 1 (AL.v r0 (AL.i r16 (AL.i i15 AL.n))) h8))
  (wrap64 (Int.add r17 (Int.ofNat 1)) fun i16 =>
  S 1 (AL.v r0 (AL.i r16 (AL.i i16 AL.n))) h3))
  (S 2 AL.n h)
noncomputable def P65x0 (S : Sg) (r0 : Value) (h : Hp) : CRes :=
  lenBK r0 fun i0 =>
  pairK (buildSliceV env h 34 1 (List.toArray [(0, (Value.int .i64 i0))])) fun v1 h1 =>
  pairK (optK (F33 [(ki 1), (ki 16), v1] h1) fun v => some (v, h1)) fun v2 h2 =>
  boolK v2 fun b3 =>
  boolN b3 fun b4 =>
  ifB b4
  (some ((Value.bool false), h2))
  (optK (indexV env 9 r0 (ki 0)) fun v5 =>
  intK .u8 v5 fun i6 =>
  pairK (optK (F91 [(Value.int .u8 i6)] h2) fun v => some (v, h2)) fun v7 h7 =>
  boolK v7 fun b8 =>
  boolN b8 fun b9 =>
  ifB b9
  (some ((Value.bool false), h7))
  (lenBK r0 fun i10 =>
  S 1 (AL.v r0 (AL.i i10 (AL.i (Int.ofNat 0) AL.n))) h7))
noncomputable def T65 (S : Sg) : Sg := tabC 0 (uV fun r0 => uN fun h => P65x0 S r0 h) (tabC 1 (uV fun r0 => uI fun r16 => uI fun r17 => uN fun h => P65x1 S r0 r16 r17 h) (tabC 2 (uN fun h => P65x2 S  h) (tabN)))
noncomputable def F65 (args : List Value) (h : Hp) : CRes := packVals [Kd.v] args fun al => rec' T65 1000000 0 al h
def nt65 : Nat := 1 + (39 - 1)
theorem q65x2 (S : Sg) (h : Hp) : P65x2 S  h = stepAt (regK env orc5 (nt65)) (finK env Try.f65.results.toList) (collect B65 A65 []) 2 S AL.n h := by kernel_rfl
theorem q65x1 (S : Sg) (r0 : Value) (r16 : Int) (r17 : Int) (h : Hp) : P65x1 S r0 r16 r17 h = stepAt (regK env orc5 (nt65)) (finK env Try.f65.results.toList) (collect B65 A65 []) 1 S (AL.v r0 (AL.i r16 (AL.i r17 AL.n))) h := by kernel_rfl
theorem q65x0 (S : Sg) (r0 : Value) (h : Hp) : P65x0 S r0 h = stepAt (regK env orc5 (nt65)) (finK env Try.f65.results.toList) (collect B65 A65 []) 0 S (AL.v r0 AL.n) h := by kernel_rfl
theorem t65 (S : Sg) : Tab (fun l vs h => stepAt (regK env orc5 nt65) (finK env Try.f65.results.toList) (collect B65 A65 []) l S vs h) (T65 S) := by
  unfold T65
  refine Tab.cons 0 (fun vs0 h q e0 => ?_) ?_
  · obtain ⟨r0, vs1, rfl, e1⟩ := uV_some e0
    obtain ⟨rfl, ee⟩ := uN_some e1
    exact (q65x0 S r0 h).symm.trans ee
  refine Tab.cons 1 (fun vs0 h q e0 => ?_) ?_
  · obtain ⟨r0, vs1, rfl, e1⟩ := uV_some e0
    obtain ⟨r16, vs2, rfl, e2⟩ := uI_some e1
    obtain ⟨r17, vs3, rfl, e3⟩ := uI_some e2
    obtain ⟨rfl, ee⟩ := uN_some e3
    exact (q65x1 S r0 r16 r17 h).symm.trans ee
  refine Tab.cons 2 (fun vs0 h q e0 => ?_) ?_
  · 
    obtain ⟨rfl, ee⟩ := uN_some e0
    exact (q65x2 S  h).symm.trans ee
  exact Tab.nil
theorem r65 : ∀ args h v h', F65 args h = some (v, h') → Runs (C5) (.call 65 args.toArray h) (.ret v h') := by
  intro args h v h' e
  exact fun_sound (C := C5) (fn := Try.f65) (body := B65) (np := 1) (A := A65) (T := T65) (kinds := [Kd.v]) (by kernel_rfl) (by kernel_rfl) (by kernel_rfl) (by kernel_rfl) (regK_ok env_ok) (by kernel_rfl) (fun S => t65 S) e
noncomputable def orc6 := orcQ 65 F65 orc5
noncomputable def C6 : Cfg := cfg orc6
theorem ok6 : C6.Ok := orcQ_ok (C := C5) ok5 r65
noncomputable def B93 : Code := (Try.f93.body).getD .skip
def A93 : Ann := (Ann.node (some (0, [(0, Kd.v), (1, Kd.v)])) bl (bn (bn bl (bn (Ann.node (some (1, [(0, Kd.v), (1, Kd.v), (7, Kd.i .i64), (8, Kd.i .i64)])) (bn bl (bn (bn bl bl) (bn (bn (bn bl (bn bl (bn (bn bl bl) bl))) bl) bl))) bl) bl)) (Ann.node (some (2, [])) bl bl)))
noncomputable def P93x2 (S : Sg) (h : Hp) : CRes :=
  some ((Value.int .i64 (Int.negSucc 0)), h)
noncomputable def P93x1 (S : Sg) (r0 : Value) (r1 : Value) (r7 : Int) (r8 : Int) (h : Hp) : CRes :=
  boolZ (ltZ r8 r7) fun b0 =>
  ifB b0
  (idxSK 8 r0 r8 fun v1 =>
  loadNK 8 h v1 fun v2 =>
  pairK (callF orc6 r1 [v2] h) fun v3 h3 =>
  boolK v3 fun b4 =>
  ifB b4
  (some ((Value.int .i64 r8), h3))
  (wrap64 (Int.add r8 (Int.ofNat 1)) fun i5 =>
  S 1 (AL.v r0 (AL.v r1 (AL.i r7 (AL.i i5 AL.n)))) h3))
  (S 2 AL.n h)
noncomputable def P93x0 (S : Sg) (r0 : Value) (r1 : Value) (h : Hp) : CRes :=
  lenSK r0 fun i0 =>
  S 1 (AL.v r0 (AL.v r1 (AL.i i0 (AL.i (Int.ofNat 0) AL.n)))) h
noncomputable def T93 (S : Sg) : Sg := tabC 0 (uV fun r0 => uV fun r1 => uN fun h => P93x0 S r0 r1 h) (tabC 1 (uV fun r0 => uV fun r1 => uI fun r7 => uI fun r8 => uN fun h => P93x1 S r0 r1 r7 r8 h) (tabC 2 (uN fun h => P93x2 S  h) (tabN)))
noncomputable def F93 (args : List Value) (h : Hp) : CRes := packVals [Kd.v, Kd.v] args fun al => rec' T93 1000000 0 al h
def nt93 : Nat := 2 + (19 - 2)
theorem q93x2 (S : Sg) (h : Hp) : P93x2 S  h = stepAt (regK env orc6 (nt93)) (finK env Try.f93.results.toList) (collect B93 A93 []) 2 S AL.n h := by kernel_rfl
theorem q93x1 (S : Sg) (r0 : Value) (r1 : Value) (r7 : Int) (r8 : Int) (h : Hp) : P93x1 S r0 r1 r7 r8 h = stepAt (regK env orc6 (nt93)) (finK env Try.f93.results.toList) (collect B93 A93 []) 1 S (AL.v r0 (AL.v r1 (AL.i r7 (AL.i r8 AL.n)))) h := by kernel_rfl
theorem q93x0 (S : Sg) (r0 : Value) (r1 : Value) (h : Hp) : P93x0 S r0 r1 h = stepAt (regK env orc6 (nt93)) (finK env Try.f93.results.toList) (collect B93 A93 []) 0 S (AL.v r0 (AL.v r1 AL.n)) h := by kernel_rfl
theorem t93 (S : Sg) : Tab (fun l vs h => stepAt (regK env orc6 nt93) (finK env Try.f93.results.toList) (collect B93 A93 []) l S vs h) (T93 S) := by
  unfold T93
  refine Tab.cons 0 (fun vs0 h q e0 => ?_) ?_
  · obtain ⟨r0, vs1, rfl, e1⟩ := uV_some e0
    obtain ⟨r1, vs2, rfl, e2⟩ := uV_some e1
    obtain ⟨rfl, ee⟩ := uN_some e2
    exact (q93x0 S r0 r1 h).symm.trans ee
  refine Tab.cons 1 (fun vs0 h q e0 => ?_) ?_
  · obtain ⟨r0, vs1, rfl, e1⟩ := uV_some e0
    obtain ⟨r1, vs2, rfl, e2⟩ := uV_some e1
    obtain ⟨r7, vs3, rfl, e3⟩ := uI_some e2
    obtain ⟨r8, vs4, rfl, e4⟩ := uI_some e3
    obtain ⟨rfl, ee⟩ := uN_some e4
    exact (q93x1 S r0 r1 r7 r8 h).symm.trans ee
  refine Tab.cons 2 (fun vs0 h q e0 => ?_) ?_
  · 
    obtain ⟨rfl, ee⟩ := uN_some e0
    exact (q93x2 S  h).symm.trans ee
  exact Tab.nil
theorem r93 : ∀ args h v h', F93 args h = some (v, h') → Runs (C6) (.call 93 args.toArray h) (.ret v h') := by
  intro args h v h' e
  exact fun_sound (C := C6) (fn := Try.f93) (body := B93) (np := 2) (A := A93) (T := T93) (kinds := [Kd.v, Kd.v]) (by kernel_rfl) (by kernel_rfl) (by kernel_rfl) (by kernel_rfl) (regK_ok env_ok) (by kernel_rfl) (fun S => t93 S) e
noncomputable def orc7 := orcQ 93 F93 orc6
noncomputable def C7 : Cfg := cfg orc7
theorem ok7 : C7.Ok := orcQ_ok (C := C6) ok6 r93
noncomputable def B66 : Code := (Try.f66.body).getD .skip
def A66 : Ann := (Ann.node (some (0, [(0, Kd.v), (1, Kd.v)])) bl (bn bl bl))
noncomputable def P66x0 (S : Sg) (r0 : Value) (r1 : Value) (h : Hp) : CRes :=
  pairK (callQ F93 [r0, r1] h) fun v0 h0 =>
  intK .i64 v0 fun i1 =>
  boolN (ltZ i1 (Int.ofNat 0)) fun b2 =>
  some ((Value.bool b2), h0)
noncomputable def T66 (S : Sg) : Sg := tabC 0 (uV fun r0 => uV fun r1 => uN fun h => P66x0 S r0 r1 h) (tabN)
noncomputable def F66 (args : List Value) (h : Hp) : CRes := packVals [Kd.v, Kd.v] args fun al => rec' T66 1000000 0 al h
def nt66 : Nat := 2 + (9 - 2)
theorem q66x0 (S : Sg) (r0 : Value) (r1 : Value) (h : Hp) : P66x0 S r0 r1 h = stepAt (regK env orc7 (nt66)) (finK env Try.f66.results.toList) (collect B66 A66 []) 0 S (AL.v r0 (AL.v r1 AL.n)) h := by kernel_rfl
theorem t66 (S : Sg) : Tab (fun l vs h => stepAt (regK env orc7 nt66) (finK env Try.f66.results.toList) (collect B66 A66 []) l S vs h) (T66 S) := by
  unfold T66
  refine Tab.cons 0 (fun vs0 h q e0 => ?_) ?_
  · obtain ⟨r0, vs1, rfl, e1⟩ := uV_some e0
    obtain ⟨r1, vs2, rfl, e2⟩ := uV_some e1
    obtain ⟨rfl, ee⟩ := uN_some e2
    exact (q66x0 S r0 r1 h).symm.trans ee
  exact Tab.nil
theorem r66 : ∀ args h v h', F66 args h = some (v, h') → Runs (C7) (.call 66 args.toArray h) (.ret v h') := by
  intro args h v h' e
  exact fun_sound (C := C7) (fn := Try.f66) (body := B66) (np := 2) (A := A66) (T := T66) (kinds := [Kd.v, Kd.v]) (by kernel_rfl) (by kernel_rfl) (by kernel_rfl) (by kernel_rfl) (regK_ok env_ok) (by kernel_rfl) (fun S => t66 S) e
noncomputable def orc8 := orcQ 66 F66 orc7
noncomputable def C8 : Cfg := cfg orc8
theorem ok8 : C8.Ok := orcQ_ok (C := C7) ok7 r66
noncomputable def B68 : Code := (Try.f68.body).getD .skip
def A68 : Ann := (Ann.node (some (0, [(0, Kd.v)])) bl (bn (bn bl (bn (bn bl bl) bl)) (bn bl bl)))
noncomputable def P68x0 (S : Sg) (r0 : Value) (h : Hp) : CRes :=
  allocK h 54 (Array.toList (Value.cells r0)) fun a0 h0 =>
  ptrAddK 2 a0 fun v1 =>
  load1K h0 v1 fun v2 =>
  boolK v2 fun b3 =>
  boolN b3 fun b4 =>
  ifB b4
  (ptrAddK 3 a0 fun v5 =>
  load1K h0 v5 fun v6 =>
  intK .i64 v6 fun i7 =>
  ptrAddK 4 a0 fun v8 =>
  load1K h0 v8 fun v9 =>
  intK .i64 v9 fun i10 =>
  ptrAddK 5 a0 fun v11 =>
  load1K h0 v11 fun v12 =>
  intK .i64 v12 fun i13 =>
  ptrAddK 6 a0 fun v14 =>
  load1K h0 v14 fun v15 =>
  intK .i64 v15 fun i16 =>
  ptrAddK 7 a0 fun v17 =>
  load1K h0 v17 fun v18 =>
  intK .i64 v18 fun i19 =>
  pairK (buildSliceV env h0 34 5 (List.toArray [(0, (Value.int .i64 i7)), (1, (Value.int .i64 i10)), (2, (Value.int .i64 i13)), (3, (Value.int .i64 i16)), (4, (Value.int .i64 i19))])) fun v20 h20 =>
  pairK (optK (F33 [(ki 0), (ki 0), v20] h20) fun v => some (v, h20)) fun v21 h21 =>
  boolK v21 fun b22 =>
  some ((Value.bool b22), h21))
  (ptrAddK 3 a0 fun v23 =>
  load1K h0 v23 fun v24 =>
  intK .i64 v24 fun i25 =>
  pairK (buildSliceV env h0 34 1 (List.toArray [(0, (Value.int .i64 i25))])) fun v26 h26 =>
  pairK (optK (F33 [(ki 0), (ki 5000), v26] h26) fun v => some (v, h26)) fun v27 h27 =>
  boolK v27 fun b28 =>
  ifB b28
  (ptrAddK 4 a0 fun v29 =>
  load1K h27 v29 fun v30 =>
  intK .i64 v30 fun i31 =>
  pairK (buildSliceV env h27 34 1 (List.toArray [(0, (Value.int .i64 i31))])) fun v32 h32 =>
  pairK (optK (F33 [(ki 0), (ki 500), v32] h32) fun v => some (v, h32)) fun v33 h33 =>
  boolK v33 fun b34 =>
  ifB b34
  (ptrAddK 5 a0 fun v35 =>
  load1K h33 v35 fun v36 =>
  intK .i64 v36 fun i37 =>
  pairK (buildSliceV env h33 34 1 (List.toArray [(0, (Value.int .i64 i37))])) fun v38 h38 =>
  pairK (optK (F33 [(ki 0), (ki 100), v38] h38) fun v => some (v, h38)) fun v39 h39 =>
  boolK v39 fun b40 =>
  ifB b40
  (ptrAddK 6 a0 fun v41 =>
  load1K h39 v41 fun v42 =>
  intK .i64 v42 fun i43 =>
  ptrAddK 7 a0 fun v44 =>
  load1K h39 v44 fun v45 =>
  intK .i64 v45 fun i46 =>
  pairK (buildSliceV env h39 34 2 (List.toArray [(0, (Value.int .i64 i43)), (1, (Value.int .i64 i46))])) fun v47 h47 =>
  pairK (optK (F33 [(ki 0), (ki 364), v47] h47) fun v => some (v, h47)) fun v48 h48 =>
  boolK v48 fun b49 =>
  some ((Value.bool b49), h48))
  (some ((Value.bool false), h39)))
  (some ((Value.bool false), h33)))
  (some ((Value.bool false), h27)))
noncomputable def T68 (S : Sg) : Sg := tabC 0 (uV fun r0 => uN fun h => P68x0 S r0 h) (tabN)
noncomputable def F68 (args : List Value) (h : Hp) : CRes := packVals [Kd.v] args fun al => rec' T68 1000000 0 al h
def nt68 : Nat := 1 + (42 - 1)
theorem q68x0 (S : Sg) (r0 : Value) (h : Hp) : P68x0 S r0 h = stepAt (regK env orc8 (nt68)) (finK env Try.f68.results.toList) (collect B68 A68 []) 0 S (AL.v r0 AL.n) h := by kernel_rfl
theorem t68 (S : Sg) : Tab (fun l vs h => stepAt (regK env orc8 nt68) (finK env Try.f68.results.toList) (collect B68 A68 []) l S vs h) (T68 S) := by
  unfold T68
  refine Tab.cons 0 (fun vs0 h q e0 => ?_) ?_
  · obtain ⟨r0, vs1, rfl, e1⟩ := uV_some e0
    obtain ⟨rfl, ee⟩ := uN_some e1
    exact (q68x0 S r0 h).symm.trans ee
  exact Tab.nil
theorem r68 : ∀ args h v h', F68 args h = some (v, h') → Runs (C8) (.call 68 args.toArray h) (.ret v h') := by
  intro args h v h' e
  exact fun_sound (C := C8) (fn := Try.f68) (body := B68) (np := 1) (A := A68) (T := T68) (kinds := [Kd.v]) (by kernel_rfl) (by kernel_rfl) (by kernel_rfl) (by kernel_rfl) (regK_ok env_ok) (by kernel_rfl) (fun S => t68 S) e
noncomputable def orc9 := orcQ 68 F68 orc8
noncomputable def C9 : Cfg := cfg orc9
theorem ok9 : C9.Ok := orcQ_ok (C := C8) ok8 r68
noncomputable def B30 : Code := (Try.f30.body).getD .skip
def A30 : Ann := (Ann.node (some (0, [(0, Kd.v), (1, Kd.v)])) bl (bn (bn (bn bl (bn (bn bl bl) (bn bl (bn (bn bl bl) (bn (bn bl (bn bl bl)) (bn (bn bl bl) bl)))))) bl) (bn bl bl)))
noncomputable def P30x0 (S : Sg) (r0 : Value) (r1 : Value) (h : Hp) : CRes :=
  allocK h 54 (Array.toList (Value.cells r1)) fun a0 h0 =>
  ptrAddK 0 a0 fun v1 =>
  load1K h0 v1 fun v2 =>
  pairK (callQ F65 [v2] h0) fun v3 h3 =>
  boolK v3 fun b4 =>
  boolN b4 fun b5 =>
  ifB b5
  (some ((ki 6), h3))
  (pairK (callQ F66 [r0, (Value.func (.func 67) (List.toArray []) (List.toArray [a0]))] h3) fun v6 h6 =>
  boolK v6 fun b7 =>
  ifB b7
  (some ((ki 5), h6))
  (ptrAddK 1 a0 fun v8 =>
  load1K h6 v8 fun v9 =>
  intK .i64 v9 fun i10 =>
  pairK (buildSliceV env h6 34 1 (List.toArray [(0, (Value.int .i64 i10))])) fun v11 h11 =>
  pairK (optK (F33 [(ki 0), (ki 15), v11] h11) fun v => some (v, h11)) fun v12 h12 =>
  boolK v12 fun b13 =>
  boolN b13 fun b14 =>
  ifB b14
  (ifB b14
  (some ((ki 7), h12))
  (some ((ki 0), h12)))
  (loadNK 8 h12 a0 fun v15 =>
  pairK (callQ F68 [v15] h12) fun v16 h16 =>
  boolK v16 fun b17 =>
  boolN b17 fun b18 =>
  ifB b18
  (some ((ki 7), h16))
  (some ((ki 0), h16)))))
noncomputable def T30 (S : Sg) : Sg := tabC 0 (uV fun r0 => uV fun r1 => uN fun h => P30x0 S r0 r1 h) (tabN)
noncomputable def F30 (args : List Value) (h : Hp) : CRes := packVals [Kd.v, Kd.v] args fun al => rec' T30 1000000 0 al h
def nt30 : Nat := 2 + (23 - 2)
theorem q30x0 (S : Sg) (r0 : Value) (r1 : Value) (h : Hp) : P30x0 S r0 r1 h = stepAt (regK env orc9 (nt30)) (finK env Try.f30.results.toList) (collect B30 A30 []) 0 S (AL.v r0 (AL.v r1 AL.n)) h := by kernel_rfl
theorem t30 (S : Sg) : Tab (fun l vs h => stepAt (regK env orc9 nt30) (finK env Try.f30.results.toList) (collect B30 A30 []) l S vs h) (T30 S) := by
  unfold T30
  refine Tab.cons 0 (fun vs0 h q e0 => ?_) ?_
  · obtain ⟨r0, vs1, rfl, e1⟩ := uV_some e0
    obtain ⟨r1, vs2, rfl, e2⟩ := uV_some e1
    obtain ⟨rfl, ee⟩ := uN_some e2
    exact (q30x0 S r0 r1 h).symm.trans ee
  exact Tab.nil
theorem r30 : ∀ args h v h', F30 args h = some (v, h') → Runs (C9) (.call 30 args.toArray h) (.ret v h') := by
  intro args h v h' e
  exact fun_sound (C := C9) (fn := Try.f30) (body := B30) (np := 2) (A := A30) (T := T30) (kinds := [Kd.v, Kd.v]) (by kernel_rfl) (by kernel_rfl) (by kernel_rfl) (by kernel_rfl) (regK_ok env_ok) (by kernel_rfl) (fun S => t30 S) e
noncomputable def orc10 := orcQ 30 F30 orc9
noncomputable def C10 : Cfg := cfg orc10
theorem ok10 : C10.Ok := orcQ_ok (C := C9) ok9 r30
noncomputable def B70 : Code := (Try.f70.body).getD .skip
noncomputable def A70 : G.Ann (List KI) := (G.Ann.node (some (0, [KI.reg 0 (Kd.v), KI.reg 1 (Kd.v)])) al (an al al))
noncomputable def P70x0 (h : Hp) (S : Nat → PAL → Option Value) (r0 : Value) (r1 : Value) : Option Value :=
  forceL (Array.toList (Value.cells r0)) fun c0 =>
  nthR c0 0 fun v1 =>
  ptrAddK 0 r1 fun v2 =>
  load1K h v2 fun v3 =>
  optK (binV env .eql 9 (Operand.tmp 5) (Operand.tmp 7) v1 v3) fun v4 =>
  boolK v4 fun b5 =>
  some (Value.bool b5)
noncomputable def T70 (h : Hp) (S : Nat → PAL → Option Value) : Nat → PAL → Option Value := tabPC 0 (wV fun r0 => wV fun r1 => wN (P70x0 h S r0 r1)) (tabPN)
noncomputable def F70 (args : List Value) (h : Hp) : Option Value := plainO (packArgs [Kd.v, Kd.v] args fun al => G.rec' (T70 h) 1000000 0 al)
def nt70 : Nat := 2 + (9 - 2)
theorem q70x0 (h : Hp) (S : Nat → PAL → Option Value) (r0 : Value) (r1 : Value) : P70x0 h S r0 r1 = G.stepAt packP unpackP evXV (regP env pf4 nt70 h) (finP env Try.f70.results.toList) (G.collect B70 A70 []) 0 S (PAL.v r0 (PAL.v r1 PAL.n)) := by kernel_rfl
theorem t70 (h : Hp) (S : Nat → PAL → Option Value) : TabP (fun l al => G.stepAt packP unpackP evXV (regP env pf4 nt70 h) (finP env Try.f70.results.toList) (G.collect B70 A70 []) l S al) (T70 h S) := by
  unfold T70
  refine TabP.cons 0 (fun vs0 q e0 => ?_) ?_
  · obtain ⟨r0, vs1, rfl, e1⟩ := wV_some e0
    obtain ⟨r1, vs2, rfl, e2⟩ := wV_some e1
    obtain ⟨rfl, ee⟩ := wN_some e2
    exact (q70x0 h S r0 r1).symm.trans ee
  exact TabP.nil
theorem r70 : PSound Try.prog 70 F70 := fun_soundP (C := C0) ok0 (pf := pf4) pfok4 (fn := Try.f70) (body := B70) (kinds := [Kd.v, Kd.v]) (A := A70) (T := T70) (by kernel_rfl) (by kernel_rfl) (by kernel_rfl) (by kernel_rfl) (fun h S => t70 h S)
noncomputable def pf5 : PF := pfC 70 F70 pf4
theorem pfok5 : PfSound Try.prog pf5 := pfC_ok r70 pfok4
noncomputable def orc11 := orcP 70 F70 orc10
noncomputable def C11 : Cfg := cfg orc11
theorem ok11 : C11.Ok := orcP_ok (C := C10) ok10 r70
noncomputable def B94 : Code := (Try.f94.body).getD .skip
def A94 : Ann := (Ann.node (some (0, [(0, Kd.v), (1, Kd.v)])) bl (bn (bn bl (bn (Ann.node (some (1, [(0, Kd.v), (1, Kd.v), (7, Kd.i .i64), (8, Kd.i .i64)])) (bn bl (bn (bn bl bl) (bn (bn (bn bl (bn bl (bn (bn bl bl) bl))) bl) bl))) bl) bl)) (Ann.node (some (2, [])) bl bl)))
noncomputable def P94x2 (S : Sg) (h : Hp) : CRes :=
  some ((Value.int .i64 (Int.negSucc 0)), h)
noncomputable def P94x1 (S : Sg) (r0 : Value) (r1 : Value) (r7 : Int) (r8 : Int) (h : Hp) : CRes :=
  boolZ (ltZ r8 r7) fun b0 =>
  ifB b0
  (idxSK 4 r0 r8 fun v1 =>
  loadNK 4 h v1 fun v2 =>
  pairK (callF orc11 r1 [v2] h) fun v3 h3 =>
  boolK v3 fun b4 =>
  ifB b4
  (some ((Value.int .i64 r8), h3))
  (wrap64 (Int.add r8 (Int.ofNat 1)) fun i5 =>
  S 1 (AL.v r0 (AL.v r1 (AL.i r7 (AL.i i5 AL.n)))) h3))
  (S 2 AL.n h)
noncomputable def P94x0 (S : Sg) (r0 : Value) (r1 : Value) (h : Hp) : CRes :=
  lenSK r0 fun i0 =>
  S 1 (AL.v r0 (AL.v r1 (AL.i i0 (AL.i (Int.ofNat 0) AL.n)))) h
noncomputable def T94 (S : Sg) : Sg := tabC 0 (uV fun r0 => uV fun r1 => uN fun h => P94x0 S r0 r1 h) (tabC 1 (uV fun r0 => uV fun r1 => uI fun r7 => uI fun r8 => uN fun h => P94x1 S r0 r1 r7 r8 h) (tabC 2 (uN fun h => P94x2 S  h) (tabN)))
noncomputable def F94 (args : List Value) (h : Hp) : CRes := packVals [Kd.v, Kd.v] args fun al => rec' T94 1000000 0 al h
def nt94 : Nat := 2 + (19 - 2)
theorem q94x2 (S : Sg) (h : Hp) : P94x2 S  h = stepAt (regK env orc11 (nt94)) (finK env Try.f94.results.toList) (collect B94 A94 []) 2 S AL.n h := by kernel_rfl
theorem q94x1 (S : Sg) (r0 : Value) (r1 : Value) (r7 : Int) (r8 : Int) (h : Hp) : P94x1 S r0 r1 r7 r8 h = stepAt (regK env orc11 (nt94)) (finK env Try.f94.results.toList) (collect B94 A94 []) 1 S (AL.v r0 (AL.v r1 (AL.i r7 (AL.i r8 AL.n)))) h := by kernel_rfl
theorem q94x0 (S : Sg) (r0 : Value) (r1 : Value) (h : Hp) : P94x0 S r0 r1 h = stepAt (regK env orc11 (nt94)) (finK env Try.f94.results.toList) (collect B94 A94 []) 0 S (AL.v r0 (AL.v r1 AL.n)) h := by kernel_rfl
theorem t94 (S : Sg) : Tab (fun l vs h => stepAt (regK env orc11 nt94) (finK env Try.f94.results.toList) (collect B94 A94 []) l S vs h) (T94 S) := by
  unfold T94
  refine Tab.cons 0 (fun vs0 h q e0 => ?_) ?_
  · obtain ⟨r0, vs1, rfl, e1⟩ := uV_some e0
    obtain ⟨r1, vs2, rfl, e2⟩ := uV_some e1
    obtain ⟨rfl, ee⟩ := uN_some e2
    exact (q94x0 S r0 r1 h).symm.trans ee
  refine Tab.cons 1 (fun vs0 h q e0 => ?_) ?_
  · obtain ⟨r0, vs1, rfl, e1⟩ := uV_some e0
    obtain ⟨r1, vs2, rfl, e2⟩ := uV_some e1
    obtain ⟨r7, vs3, rfl, e3⟩ := uI_some e2
    obtain ⟨r8, vs4, rfl, e4⟩ := uI_some e3
    obtain ⟨rfl, ee⟩ := uN_some e4
    exact (q94x1 S r0 r1 r7 r8 h).symm.trans ee
  refine Tab.cons 2 (fun vs0 h q e0 => ?_) ?_
  · 
    obtain ⟨rfl, ee⟩ := uN_some e0
    exact (q94x2 S  h).symm.trans ee
  exact Tab.nil
theorem r94 : ∀ args h v h', F94 args h = some (v, h') → Runs (C11) (.call 94 args.toArray h) (.ret v h') := by
  intro args h v h' e
  exact fun_sound (C := C11) (fn := Try.f94) (body := B94) (np := 2) (A := A94) (T := T94) (kinds := [Kd.v, Kd.v]) (by kernel_rfl) (by kernel_rfl) (by kernel_rfl) (by kernel_rfl) (regK_ok env_ok) (by kernel_rfl) (fun S => t94 S) e
noncomputable def orc12 := orcQ 94 F94 orc11
noncomputable def C12 : Cfg := cfg orc12
theorem ok12 : C12.Ok := orcQ_ok (C := C11) ok11 r94
noncomputable def B69 : Code := (Try.f69.body).getD .skip
def A69 : Ann := (Ann.node (some (0, [(0, Kd.v), (1, Kd.v)])) bl (bn bl bl))
noncomputable def P69x0 (S : Sg) (r0 : Value) (r1 : Value) (h : Hp) : CRes :=
  pairK (callQ F94 [r0, r1] h) fun v0 h0 =>
  intK .i64 v0 fun i1 =>
  boolN (ltZ i1 (Int.ofNat 0)) fun b2 =>
  some ((Value.bool b2), h0)
noncomputable def T69 (S : Sg) : Sg := tabC 0 (uV fun r0 => uV fun r1 => uN fun h => P69x0 S r0 r1 h) (tabN)
noncomputable def F69 (args : List Value) (h : Hp) : CRes := packVals [Kd.v, Kd.v] args fun al => rec' T69 1000000 0 al h
def nt69 : Nat := 2 + (9 - 2)
theorem q69x0 (S : Sg) (r0 : Value) (r1 : Value) (h : Hp) : P69x0 S r0 r1 h = stepAt (regK env orc12 (nt69)) (finK env Try.f69.results.toList) (collect B69 A69 []) 0 S (AL.v r0 (AL.v r1 AL.n)) h := by kernel_rfl
theorem t69 (S : Sg) : Tab (fun l vs h => stepAt (regK env orc12 nt69) (finK env Try.f69.results.toList) (collect B69 A69 []) l S vs h) (T69 S) := by
  unfold T69
  refine Tab.cons 0 (fun vs0 h q e0 => ?_) ?_
  · obtain ⟨r0, vs1, rfl, e1⟩ := uV_some e0
    obtain ⟨r1, vs2, rfl, e2⟩ := uV_some e1
    obtain ⟨rfl, ee⟩ := uN_some e2
    exact (q69x0 S r0 r1 h).symm.trans ee
  exact Tab.nil
theorem r69 : ∀ args h v h', F69 args h = some (v, h') → Runs (C12) (.call 69 args.toArray h) (.ret v h') := by
  intro args h v h' e
  exact fun_sound (C := C12) (fn := Try.f69) (body := B69) (np := 2) (A := A69) (T := T69) (kinds := [Kd.v, Kd.v]) (by kernel_rfl) (by kernel_rfl) (by kernel_rfl) (by kernel_rfl) (regK_ok env_ok) (by kernel_rfl) (fun S => t69 S) e
noncomputable def orc13 := orcQ 69 F69 orc12
noncomputable def C13 : Cfg := cfg orc13
theorem ok13 : C13.Ok := orcQ_ok (C := C12) ok12 r69
noncomputable def B32 : Code := (Try.f32.body).getD .skip
def A32 : Ann := (Ann.node (some (0, [(0, Kd.v), (1, Kd.v)])) bl (bn (bn (bn bl (bn (bn bl bl) (bn bl (bn (bn bl bl) (bn (bn bl (bn bl bl)) (Ann.node (some (1, [(3, Kd.v), (14, Kd.b)])) (bn bl bl) (bn bl (bn (bn bl bl) bl)))))))) bl) (Ann.node (some (2, [])) bl bl)))
noncomputable def P32x2 (S : Sg) (h : Hp) : CRes :=
  some ((ki 0), h)
noncomputable def P32x1 (S : Sg) (r3 : Value) (r14 : Bool) (h : Hp) : CRes :=
  ifB r14
  (some ((ki 7), h))
  (ptrAddK 1 r3 fun v0 =>
  load1K h v0 fun v1 =>
  intK .i64 v1 fun i2 =>
  ptrAddK 2 r3 fun v3 =>
  load1K h v3 fun v4 =>
  intK .i64 v4 fun i5 =>
  boolZ (ltZ i5 i2) fun b6 =>
  ifB b6
  (some ((ki 2), h))
  (S 2 AL.n h))
noncomputable def P32x0 (S : Sg) (r0 : Value) (r1 : Value) (h : Hp) : CRes :=
  allocK h 63 (Array.toList (Value.cells r1)) fun a0 h0 =>
  ptrAddK 0 a0 fun v1 =>
  load1K h0 v1 fun v2 =>
  pairK (callQ F65 [v2] h0) fun v3 h3 =>
  boolK v3 fun b4 =>
  boolN b4 fun b5 =>
  ifB b5
  (some ((ki 6), h3))
  (pairK (callQ F69 [r0, (Value.func (.func 70) (List.toArray []) (List.toArray [a0]))] h3) fun v6 h6 =>
  boolK v6 fun b7 =>
  ifB b7
  (some ((ki 5), h6))
  (ptrAddK 1 a0 fun v8 =>
  load1K h6 v8 fun v9 =>
  intK .i64 v9 fun i10 =>
  ptrAddK 2 a0 fun v11 =>
  load1K h6 v11 fun v12 =>
  intK .i64 v12 fun i13 =>
  pairK (buildSliceV env h6 34 2 (List.toArray [(0, (Value.int .i64 i10)), (1, (Value.int .i64 i13))])) fun v14 h14 =>
  pairK (optK (F33 [(ki 0), (ki 364), v14] h14) fun v => some (v, h14)) fun v15 h15 =>
  boolK v15 fun b16 =>
  boolN b16 fun b17 =>
  ifB b17
  (S 1 (AL.v a0 (AL.b b17 AL.n)) h15)
  (ptrAddK 3 a0 fun v18 =>
  load1K h15 v18 fun v19 =>
  intK .i64 v19 fun i20 =>
  pairK (buildSliceV env h15 34 1 (List.toArray [(0, (Value.int .i64 i20))])) fun v21 h21 =>
  pairK (optK (F33 [(ki 0), (ki 15), v21] h21) fun v => some (v, h21)) fun v22 h22 =>
  boolK v22 fun b23 =>
  boolN b23 fun b24 =>
  S 1 (AL.v a0 (AL.b b24 AL.n)) h22)))
noncomputable def T32 (S : Sg) : Sg := tabC 0 (uV fun r0 => uV fun r1 => uN fun h => P32x0 S r0 r1 h) (tabC 1 (uV fun r3 => uB fun r14 => uN fun h => P32x1 S r3 r14 h) (tabC 2 (uN fun h => P32x2 S  h) (tabN)))
noncomputable def F32 (args : List Value) (h : Hp) : CRes := packVals [Kd.v, Kd.v] args fun al => rec' T32 1000000 0 al h
def nt32 : Nat := 2 + (33 - 2)
theorem q32x2 (S : Sg) (h : Hp) : P32x2 S  h = stepAt (regK env orc13 (nt32)) (finK env Try.f32.results.toList) (collect B32 A32 []) 2 S AL.n h := by kernel_rfl
theorem q32x1 (S : Sg) (r3 : Value) (r14 : Bool) (h : Hp) : P32x1 S r3 r14 h = stepAt (regK env orc13 (nt32)) (finK env Try.f32.results.toList) (collect B32 A32 []) 1 S (AL.v r3 (AL.b r14 AL.n)) h := by kernel_rfl
theorem q32x0 (S : Sg) (r0 : Value) (r1 : Value) (h : Hp) : P32x0 S r0 r1 h = stepAt (regK env orc13 (nt32)) (finK env Try.f32.results.toList) (collect B32 A32 []) 0 S (AL.v r0 (AL.v r1 AL.n)) h := by kernel_rfl
theorem t32 (S : Sg) : Tab (fun l vs h => stepAt (regK env orc13 nt32) (finK env Try.f32.results.toList) (collect B32 A32 []) l S vs h) (T32 S) := by
  unfold T32
  refine Tab.cons 0 (fun vs0 h q e0 => ?_) ?_
  · obtain ⟨r0, vs1, rfl, e1⟩ := uV_some e0
    obtain ⟨r1, vs2, rfl, e2⟩ := uV_some e1
    obtain ⟨rfl, ee⟩ := uN_some e2
    exact (q32x0 S r0 r1 h).symm.trans ee
  refine Tab.cons 1 (fun vs0 h q e0 => ?_) ?_
  · obtain ⟨r3, vs1, rfl, e1⟩ := uV_some e0
    obtain ⟨r14, vs2, rfl, e2⟩ := uB_some e1
    obtain ⟨rfl, ee⟩ := uN_some e2
    exact (q32x1 S r3 r14 h).symm.trans ee
  refine Tab.cons 2 (fun vs0 h q e0 => ?_) ?_
  · 
    obtain ⟨rfl, ee⟩ := uN_some e0
    exact (q32x2 S  h).symm.trans ee
  exact Tab.nil
theorem r32 : ∀ args h v h', F32 args h = some (v, h') → Runs (C13) (.call 32 args.toArray h) (.ret v h') := by
  intro args h v h' e
  exact fun_sound (C := C13) (fn := Try.f32) (body := B32) (np := 2) (A := A32) (T := T32) (kinds := [Kd.v, Kd.v]) (by kernel_rfl) (by kernel_rfl) (by kernel_rfl) (by kernel_rfl) (regK_ok env_ok) (by kernel_rfl) (fun S => t32 S) e
noncomputable def orc14 := orcQ 32 F32 orc13
noncomputable def C14 : Cfg := cfg orc14
theorem ok14 : C14.Ok := orcQ_ok (C := C13) ok13 r32
noncomputable def B35 : Code := (Try.f35.body).getD .skip
def A35 : Ann := (Ann.node (some (0, [(0, Kd.v), (1, Kd.v)])) bl (bn (bn bl (bn (bn bl bl) bl)) (bn bl bl)))
noncomputable def P35x0 (S : Sg) (r0 : Value) (r1 : Value) (h : Hp) : CRes :=
  allocK h 57 (Array.toList (Value.cells r1)) fun a0 h0 =>
  ptrAddK 0 a0 fun v1 =>
  load1K h0 v1 fun v2 =>
  intK .i64 v2 fun i3 =>
  pairK (buildSliceV env h0 34 1 (List.toArray [(0, (Value.int .i64 i3))])) fun v4 h4 =>
  pairK (optK (F33 [(ki 0), (ki 364), v4] h4) fun v => some (v, h4)) fun v5 h5 =>
  boolK v5 fun b6 =>
  boolN b6 fun b7 =>
  ifB b7
  (some ((ki 7), h5))
  (ptrAddK 1 a0 fun v8 =>
  load1K h5 v8 fun v9 =>
  intK .i64 v9 fun i10 =>
  pairK (buildSliceV env h5 34 1 (List.toArray [(0, (Value.int .i64 i10))])) fun v11 h11 =>
  pairK (optK (F33 [(ki 0), (ki 10000), v11] h11) fun v => some (v, h11)) fun v12 h12 =>
  boolK v12 fun b13 =>
  boolN b13 fun b14 =>
  ifB b14
  (some ((ki 7), h12))
  (some ((ki 0), h12)))
noncomputable def T35 (S : Sg) : Sg := tabC 0 (uV fun r0 => uV fun r1 => uN fun h => P35x0 S r0 r1 h) (tabN)
noncomputable def F35 (args : List Value) (h : Hp) : CRes := packVals [Kd.v, Kd.v] args fun al => rec' T35 1000000 0 al h
def nt35 : Nat := 2 + (17 - 2)
theorem q35x0 (S : Sg) (r0 : Value) (r1 : Value) (h : Hp) : P35x0 S r0 r1 h = stepAt (regK env orc14 (nt35)) (finK env Try.f35.results.toList) (collect B35 A35 []) 0 S (AL.v r0 (AL.v r1 AL.n)) h := by kernel_rfl
theorem t35 (S : Sg) : Tab (fun l vs h => stepAt (regK env orc14 nt35) (finK env Try.f35.results.toList) (collect B35 A35 []) l S vs h) (T35 S) := by
  unfold T35
  refine Tab.cons 0 (fun vs0 h q e0 => ?_) ?_
  · obtain ⟨r0, vs1, rfl, e1⟩ := uV_some e0
    obtain ⟨r1, vs2, rfl, e2⟩ := uV_some e1
    obtain ⟨rfl, ee⟩ := uN_some e2
    exact (q35x0 S r0 r1 h).symm.trans ee
  exact Tab.nil
theorem r35 : ∀ args h v h', F35 args h = some (v, h') → Runs (C14) (.call 35 args.toArray h) (.ret v h') := by
  intro args h v h' e
  exact fun_sound (C := C14) (fn := Try.f35) (body := B35) (np := 2) (A := A35) (T := T35) (kinds := [Kd.v, Kd.v]) (by kernel_rfl) (by kernel_rfl) (by kernel_rfl) (by kernel_rfl) (regK_ok env_ok) (by kernel_rfl) (fun S => t35 S) e
noncomputable def orc15 := orcQ 35 F35 orc14
noncomputable def C15 : Cfg := cfg orc15
theorem ok15 : C15.Ok := orcQ_ok (C := C14) ok14 r35
noncomputable def B29 : Code := (Try.f29.body).getD .skip
def A29 : Ann := (Ann.node (some (0, [(0, Kd.v), (1, Kd.v)])) bl (bn (bn bl (bn (Ann.node (some (1, [(0, Kd.v), (1, Kd.v), (9, Kd.v), (10, Kd.i .i64), (11, Kd.i .i64)])) (bn bl (bn (bn bl bl) (bn (bn (bn bl (bn bl (bn bl (bn (bn bl bl) bl)))) bl) bl))) bl) bl)) (Ann.node (some (2, [])) bl bl)))
noncomputable def P29x2 (S : Sg) (h : Hp) : CRes :=
  some (Value.tuple (List.toArray [(ki 0), (ki 0)]), h)
noncomputable def P29x1 (S : Sg) (r0 : Value) (r1 : Value) (r9 : Value) (r10 : Int) (r11 : Int) (h : Hp) : CRes :=
  boolZ (ltZ r11 r10) fun b0 =>
  ifB b0
  (idxSK 8 r9 r11 fun v1 =>
  loadNK 8 h v1 fun v2 =>
  allocK h 54 [(Value.string (ByteArray.mk #[])), (ki 0), (Value.bool false), (ki 0), (ki 0), (ki 0), (ki 0), (ki 0)] fun a3 h3 =>
  storeNK 8 h3 a3 v2 fun h4 =>
  optK (sliceV env h4 22 r0 none (some (Value.int .i64 r11)) none) fun v5 =>
  loadNK 8 h4 a3 fun v6 =>
  pairK (callF orc15 r1 [v5, v6] h4) fun v7 h7 =>
  intK .i64 v7 fun i8 =>
  boolN (eqZ i8 (Int.ofNat 0)) fun b9 =>
  ifB b9
  (some (Value.tuple (List.toArray [(Value.int .i64 r11), (Value.int .i64 i8)]), h7))
  (wrap64 (Int.add r11 (Int.ofNat 1)) fun i10 =>
  S 1 (AL.v r0 (AL.v r1 (AL.v r9 (AL.i r10 (AL.i i10 AL.n))))) h7))
  (S 2 AL.n h)
noncomputable def P29x0 (S : Sg) (r0 : Value) (r1 : Value) (h : Hp) : CRes :=
  lenSK r0 fun i0 =>
  S 1 (AL.v r0 (AL.v r1 (AL.v r0 (AL.i i0 (AL.i (Int.ofNat 0) AL.n))))) h
noncomputable def T29 (S : Sg) : Sg := tabC 0 (uV fun r0 => uV fun r1 => uN fun h => P29x0 S r0 r1 h) (tabC 1 (uV fun r0 => uV fun r1 => uV fun r9 => uI fun r10 => uI fun r11 => uN fun h => P29x1 S r0 r1 r9 r10 r11 h) (tabC 2 (uN fun h => P29x2 S  h) (tabN)))
noncomputable def F29 (args : List Value) (h : Hp) : CRes := packVals [Kd.v, Kd.v] args fun al => rec' T29 1000000 0 al h
def nt29 : Nat := 2 + (27 - 2)
theorem q29x2 (S : Sg) (h : Hp) : P29x2 S  h = stepAt (regK env orc15 (nt29)) (finK env Try.f29.results.toList) (collect B29 A29 []) 2 S AL.n h := by kernel_rfl
theorem q29x1 (S : Sg) (r0 : Value) (r1 : Value) (r9 : Value) (r10 : Int) (r11 : Int) (h : Hp) : P29x1 S r0 r1 r9 r10 r11 h = stepAt (regK env orc15 (nt29)) (finK env Try.f29.results.toList) (collect B29 A29 []) 1 S (AL.v r0 (AL.v r1 (AL.v r9 (AL.i r10 (AL.i r11 AL.n))))) h := by kernel_rfl
theorem q29x0 (S : Sg) (r0 : Value) (r1 : Value) (h : Hp) : P29x0 S r0 r1 h = stepAt (regK env orc15 (nt29)) (finK env Try.f29.results.toList) (collect B29 A29 []) 0 S (AL.v r0 (AL.v r1 AL.n)) h := by kernel_rfl
theorem t29 (S : Sg) : Tab (fun l vs h => stepAt (regK env orc15 nt29) (finK env Try.f29.results.toList) (collect B29 A29 []) l S vs h) (T29 S) := by
  unfold T29
  refine Tab.cons 0 (fun vs0 h q e0 => ?_) ?_
  · obtain ⟨r0, vs1, rfl, e1⟩ := uV_some e0
    obtain ⟨r1, vs2, rfl, e2⟩ := uV_some e1
    obtain ⟨rfl, ee⟩ := uN_some e2
    exact (q29x0 S r0 r1 h).symm.trans ee
  refine Tab.cons 1 (fun vs0 h q e0 => ?_) ?_
  · obtain ⟨r0, vs1, rfl, e1⟩ := uV_some e0
    obtain ⟨r1, vs2, rfl, e2⟩ := uV_some e1
    obtain ⟨r9, vs3, rfl, e3⟩ := uV_some e2
    obtain ⟨r10, vs4, rfl, e4⟩ := uI_some e3
    obtain ⟨r11, vs5, rfl, e5⟩ := uI_some e4
    obtain ⟨rfl, ee⟩ := uN_some e5
    exact (q29x1 S r0 r1 r9 r10 r11 h).symm.trans ee
  refine Tab.cons 2 (fun vs0 h q e0 => ?_) ?_
  · 
    obtain ⟨rfl, ee⟩ := uN_some e0
    exact (q29x2 S  h).symm.trans ee
  exact Tab.nil
theorem r29 : ∀ args h v h', F29 args h = some (v, h') → Runs (C15) (.call 29 args.toArray h) (.ret v h') := by
  intro args h v h' e
  exact fun_sound (C := C15) (fn := Try.f29) (body := B29) (np := 2) (A := A29) (T := T29) (kinds := [Kd.v, Kd.v]) (by kernel_rfl) (by kernel_rfl) (by kernel_rfl) (by kernel_rfl) (regK_ok env_ok) (by kernel_rfl) (fun S => t29 S) e
noncomputable def orc16 := orcQ 29 F29 orc15
noncomputable def C16 : Cfg := cfg orc16
theorem ok16 : C16.Ok := orcQ_ok (C := C15) ok15 r29
noncomputable def B31 : Code := (Try.f31.body).getD .skip
def A31 : Ann := (Ann.node (some (0, [(0, Kd.v), (1, Kd.v)])) bl (bn (bn bl (bn (Ann.node (some (1, [(0, Kd.v), (1, Kd.v), (9, Kd.v), (10, Kd.i .i64), (11, Kd.i .i64)])) (bn bl (bn (bn bl bl) (bn (bn (bn bl (bn bl (bn bl (bn (bn bl bl) bl)))) bl) bl))) bl) bl)) (Ann.node (some (2, [])) bl bl)))
noncomputable def P31x2 (S : Sg) (h : Hp) : CRes :=
  some (Value.tuple (List.toArray [(ki 0), (ki 0)]), h)
noncomputable def P31x1 (S : Sg) (r0 : Value) (r1 : Value) (r9 : Value) (r10 : Int) (r11 : Int) (h : Hp) : CRes :=
  boolZ (ltZ r11 r10) fun b0 =>
  ifB b0
  (idxSK 4 r9 r11 fun v1 =>
  loadNK 4 h v1 fun v2 =>
  allocK h 63 [(Value.string (ByteArray.mk #[])), (ki 0), (ki 0), (ki 0)] fun a3 h3 =>
  storeNK 4 h3 a3 v2 fun h4 =>
  optK (sliceV env h4 23 r0 none (some (Value.int .i64 r11)) none) fun v5 =>
  loadNK 4 h4 a3 fun v6 =>
  pairK (callF orc16 r1 [v5, v6] h4) fun v7 h7 =>
  intK .i64 v7 fun i8 =>
  boolN (eqZ i8 (Int.ofNat 0)) fun b9 =>
  ifB b9
  (some (Value.tuple (List.toArray [(Value.int .i64 r11), (Value.int .i64 i8)]), h7))
  (wrap64 (Int.add r11 (Int.ofNat 1)) fun i10 =>
  S 1 (AL.v r0 (AL.v r1 (AL.v r9 (AL.i r10 (AL.i i10 AL.n))))) h7))
  (S 2 AL.n h)
noncomputable def P31x0 (S : Sg) (r0 : Value) (r1 : Value) (h : Hp) : CRes :=
  lenSK r0 fun i0 =>
  S 1 (AL.v r0 (AL.v r1 (AL.v r0 (AL.i i0 (AL.i (Int.ofNat 0) AL.n))))) h
noncomputable def T31 (S : Sg) : Sg := tabC 0 (uV fun r0 => uV fun r1 => uN fun h => P31x0 S r0 r1 h) (tabC 1 (uV fun r0 => uV fun r1 => uV fun r9 => uI fun r10 => uI fun r11 => uN fun h => P31x1 S r0 r1 r9 r10 r11 h) (tabC 2 (uN fun h => P31x2 S  h) (tabN)))
noncomputable def F31 (args : List Value) (h : Hp) : CRes := packVals [Kd.v, Kd.v] args fun al => rec' T31 1000000 0 al h
def nt31 : Nat := 2 + (27 - 2)
theorem q31x2 (S : Sg) (h : Hp) : P31x2 S  h = stepAt (regK env orc16 (nt31)) (finK env Try.f31.results.toList) (collect B31 A31 []) 2 S AL.n h := by kernel_rfl
theorem q31x1 (S : Sg) (r0 : Value) (r1 : Value) (r9 : Value) (r10 : Int) (r11 : Int) (h : Hp) : P31x1 S r0 r1 r9 r10 r11 h = stepAt (regK env orc16 (nt31)) (finK env Try.f31.results.toList) (collect B31 A31 []) 1 S (AL.v r0 (AL.v r1 (AL.v r9 (AL.i r10 (AL.i r11 AL.n))))) h := by kernel_rfl
theorem q31x0 (S : Sg) (r0 : Value) (r1 : Value) (h : Hp) : P31x0 S r0 r1 h = stepAt (regK env orc16 (nt31)) (finK env Try.f31.results.toList) (collect B31 A31 []) 0 S (AL.v r0 (AL.v r1 AL.n)) h := by kernel_rfl
theorem t31 (S : Sg) : Tab (fun l vs h => stepAt (regK env orc16 nt31) (finK env Try.f31.results.toList) (collect B31 A31 []) l S vs h) (T31 S) := by
  unfold T31
  refine Tab.cons 0 (fun vs0 h q e0 => ?_) ?_
  · obtain ⟨r0, vs1, rfl, e1⟩ := uV_some e0
    obtain ⟨r1, vs2, rfl, e2⟩ := uV_some e1
    obtain ⟨rfl, ee⟩ := uN_some e2
    exact (q31x0 S r0 r1 h).symm.trans ee
  refine Tab.cons 1 (fun vs0 h q e0 => ?_) ?_
  · obtain ⟨r0, vs1, rfl, e1⟩ := uV_some e0
    obtain ⟨r1, vs2, rfl, e2⟩ := uV_some e1
    obtain ⟨r9, vs3, rfl, e3⟩ := uV_some e2
    obtain ⟨r10, vs4, rfl, e4⟩ := uI_some e3
    obtain ⟨r11, vs5, rfl, e5⟩ := uI_some e4
    obtain ⟨rfl, ee⟩ := uN_some e5
    exact (q31x1 S r0 r1 r9 r10 r11 h).symm.trans ee
  refine Tab.cons 2 (fun vs0 h q e0 => ?_) ?_
  · 
    obtain ⟨rfl, ee⟩ := uN_some e0
    exact (q31x2 S  h).symm.trans ee
  exact Tab.nil
theorem r31 : ∀ args h v h', F31 args h = some (v, h') → Runs (C16) (.call 31 args.toArray h) (.ret v h') := by
  intro args h v h' e
  exact fun_sound (C := C16) (fn := Try.f31) (body := B31) (np := 2) (A := A31) (T := T31) (kinds := [Kd.v, Kd.v]) (by kernel_rfl) (by kernel_rfl) (by kernel_rfl) (by kernel_rfl) (regK_ok env_ok) (by kernel_rfl) (fun S => t31 S) e
noncomputable def orc17 := orcQ 31 F31 orc16
noncomputable def C17 : Cfg := cfg orc17
theorem ok17 : C17.Ok := orcQ_ok (C := C16) ok16 r31
noncomputable def B34 : Code := (Try.f34.body).getD .skip
def A34 : Ann := (Ann.node (some (0, [(0, Kd.v), (1, Kd.v)])) bl (bn (bn bl (bn (Ann.node (some (1, [(0, Kd.v), (1, Kd.v), (9, Kd.v), (10, Kd.i .i64), (11, Kd.i .i64)])) (bn bl (bn (bn bl bl) (bn (bn (bn bl (bn bl (bn bl (bn (bn bl bl) bl)))) bl) bl))) bl) bl)) (Ann.node (some (2, [])) bl bl)))
noncomputable def P34x2 (S : Sg) (h : Hp) : CRes :=
  some (Value.tuple (List.toArray [(ki 0), (ki 0)]), h)
noncomputable def P34x1 (S : Sg) (r0 : Value) (r1 : Value) (r9 : Value) (r10 : Int) (r11 : Int) (h : Hp) : CRes :=
  boolZ (ltZ r11 r10) fun b0 =>
  ifB b0
  (idxSK 2 r9 r11 fun v1 =>
  loadNK 2 h v1 fun v2 =>
  allocK h 57 [(ki 0), (ki 0)] fun a3 h3 =>
  storeNK 2 h3 a3 v2 fun h4 =>
  optK (sliceV env h4 24 r0 none (some (Value.int .i64 r11)) none) fun v5 =>
  loadNK 2 h4 a3 fun v6 =>
  pairK (callF orc17 r1 [v5, v6] h4) fun v7 h7 =>
  intK .i64 v7 fun i8 =>
  boolN (eqZ i8 (Int.ofNat 0)) fun b9 =>
  ifB b9
  (some (Value.tuple (List.toArray [(Value.int .i64 r11), (Value.int .i64 i8)]), h7))
  (wrap64 (Int.add r11 (Int.ofNat 1)) fun i10 =>
  S 1 (AL.v r0 (AL.v r1 (AL.v r9 (AL.i r10 (AL.i i10 AL.n))))) h7))
  (S 2 AL.n h)
noncomputable def P34x0 (S : Sg) (r0 : Value) (r1 : Value) (h : Hp) : CRes :=
  lenSK r0 fun i0 =>
  S 1 (AL.v r0 (AL.v r1 (AL.v r0 (AL.i i0 (AL.i (Int.ofNat 0) AL.n))))) h
noncomputable def T34 (S : Sg) : Sg := tabC 0 (uV fun r0 => uV fun r1 => uN fun h => P34x0 S r0 r1 h) (tabC 1 (uV fun r0 => uV fun r1 => uV fun r9 => uI fun r10 => uI fun r11 => uN fun h => P34x1 S r0 r1 r9 r10 r11 h) (tabC 2 (uN fun h => P34x2 S  h) (tabN)))
noncomputable def F34 (args : List Value) (h : Hp) : CRes := packVals [Kd.v, Kd.v] args fun al => rec' T34 1000000 0 al h
def nt34 : Nat := 2 + (27 - 2)
theorem q34x2 (S : Sg) (h : Hp) : P34x2 S  h = stepAt (regK env orc17 (nt34)) (finK env Try.f34.results.toList) (collect B34 A34 []) 2 S AL.n h := by kernel_rfl
theorem q34x1 (S : Sg) (r0 : Value) (r1 : Value) (r9 : Value) (r10 : Int) (r11 : Int) (h : Hp) : P34x1 S r0 r1 r9 r10 r11 h = stepAt (regK env orc17 (nt34)) (finK env Try.f34.results.toList) (collect B34 A34 []) 1 S (AL.v r0 (AL.v r1 (AL.v r9 (AL.i r10 (AL.i r11 AL.n))))) h := by kernel_rfl
theorem q34x0 (S : Sg) (r0 : Value) (r1 : Value) (h : Hp) : P34x0 S r0 r1 h = stepAt (regK env orc17 (nt34)) (finK env Try.f34.results.toList) (collect B34 A34 []) 0 S (AL.v r0 (AL.v r1 AL.n)) h := by kernel_rfl
theorem t34 (S : Sg) : Tab (fun l vs h => stepAt (regK env orc17 nt34) (finK env Try.f34.results.toList) (collect B34 A34 []) l S vs h) (T34 S) := by
  unfold T34
  refine Tab.cons 0 (fun vs0 h q e0 => ?_) ?_
  · obtain ⟨r0, vs1, rfl, e1⟩ := uV_some e0
    obtain ⟨r1, vs2, rfl, e2⟩ := uV_some e1
    obtain ⟨rfl, ee⟩ := uN_some e2
    exact (q34x0 S r0 r1 h).symm.trans ee
  refine Tab.cons 1 (fun vs0 h q e0 => ?_) ?_
  · obtain ⟨r0, vs1, rfl, e1⟩ := uV_some e0
    obtain ⟨r1, vs2, rfl, e2⟩ := uV_some e1
    obtain ⟨r9, vs3, rfl, e3⟩ := uV_some e2
    obtain ⟨r10, vs4, rfl, e4⟩ := uI_some e3
    obtain ⟨r11, vs5, rfl, e5⟩ := uI_some e4
    obtain ⟨rfl, ee⟩ := uN_some e5
    exact (q34x1 S r0 r1 r9 r10 r11 h).symm.trans ee
  refine Tab.cons 2 (fun vs0 h q e0 => ?_) ?_
  · 
    obtain ⟨rfl, ee⟩ := uN_some e0
    exact (q34x2 S  h).symm.trans ee
  exact Tab.nil
theorem r34 : ∀ args h v h', F34 args h = some (v, h') → Runs (C17) (.call 34 args.toArray h) (.ret v h') := by
  intro args h v h' e
  exact fun_sound (C := C17) (fn := Try.f34) (body := B34) (np := 2) (A := A34) (T := T34) (kinds := [Kd.v, Kd.v]) (by kernel_rfl) (by kernel_rfl) (by kernel_rfl) (by kernel_rfl) (regK_ok env_ok) (by kernel_rfl) (fun S => t34 S) e
noncomputable def orc18 := orcQ 34 F34 orc17
noncomputable def C18 : Cfg := cfg orc18
theorem ok18 : C18.Ok := orcQ_ok (C := C17) ok17 r34
noncomputable def B8 : Code := (Try.f8.body).getD .skip
def A8 : Ann := (Ann.node (some (0, [(0, Kd.v)])) bl (bn (bn bl (bn (bn bl bl) bl)) (bn bl (bn (bn bl (bn (bn bl bl) bl)) (bn (bn bl (bn (bn bl bl) bl)) (bn bl (bn (bn bl (bn (bn bl bl) bl)) (bn (bn bl (bn (bn bl bl) bl)) (bn (bn bl (bn (bn bl bl) bl)) (bn bl (bn (bn bl (bn (bn bl bl) bl)) (bn bl bl))))))))))))
noncomputable def P8x0 (S : Sg) (r0 : Value) (h : Hp) : CRes :=
  allocK h 26 (Array.toList (Value.cells r0)) fun a0 h0 =>
  ptrAddK 0 a0 fun v1 =>
  load1K h0 v1 fun v2 =>
  lenSK v2 fun i3 =>
  boolZ (ltZ (Int.ofNat 5) i3) fun b4 =>
  ifB b4
  (some (Value.tuple (List.toArray [(ki 1), (ki 0), (ki 3)]), h0))
  (ptrAddK 0 a0 fun v5 =>
  load1K h0 v5 fun v6 =>
  pairK (callQ F29 [v6, (Value.func (.func 30) #[] #[])] h0) fun v7 h7 =>
  extK v7 0 fun v8 =>
  intK .i64 v8 fun i9 =>
  extK v7 1 fun v10 =>
  intK .i64 v10 fun i11 =>
  boolN (eqZ i11 (Int.ofNat 0)) fun b12 =>
  ifB b12
  (some (Value.tuple (List.toArray [(ki 1), (Value.int .i64 i9), (Value.int .i64 i11)]), h7))
  (ptrAddK 1 a0 fun v13 =>
  load1K h7 v13 fun v14 =>
  lenSK v14 fun i15 =>
  boolZ (ltZ (Int.ofNat 3) i15) fun b16 =>
  ifB b16
  (some (Value.tuple (List.toArray [(ki 2), (ki 0), (ki 3)]), h7))
  (ptrAddK 1 a0 fun v17 =>
  load1K h7 v17 fun v18 =>
  pairK (callQ F31 [v18, (Value.func (.func 32) #[] #[])] h7) fun v19 h19 =>
  extK v19 0 fun v20 =>
  intK .i64 v20 fun i21 =>
  extK v19 1 fun v22 =>
  intK .i64 v22 fun i23 =>
  boolN (eqZ i23 (Int.ofNat 0)) fun b24 =>
  ifB b24
  (some (Value.tuple (List.toArray [(ki 2), (Value.int .i64 i21), (Value.int .i64 i23)]), h19))
  (ptrAddK 2 a0 fun v25 =>
  load1K h19 v25 fun v26 =>
  intK .i64 v26 fun i27 =>
  pairK (buildSliceV env h19 34 1 (List.toArray [(0, (Value.int .i64 i27))])) fun v28 h28 =>
  pairK (optK (F33 [(ki 0), (ki 10000), v28] h28) fun v => some (v, h28)) fun v29 h29 =>
  boolK v29 fun b30 =>
  boolN b30 fun b31 =>
  ifB b31
  (some (Value.tuple (List.toArray [(ki 3), (ki 0), (ki 7)]), h29))
  (ptrAddK 3 a0 fun v32 =>
  load1K h29 v32 fun v33 =>
  lenSK v33 fun i34 =>
  boolZ (ltZ (Int.ofNat 3) i34) fun b35 =>
  ifB b35
  (some (Value.tuple (List.toArray [(ki 4), (ki 0), (ki 3)]), h29))
  (ptrAddK 3 a0 fun v36 =>
  load1K h29 v36 fun v37 =>
  pairK (callQ F34 [v37, (Value.func (.func 35) #[] #[])] h29) fun v38 h38 =>
  extK v38 0 fun v39 =>
  intK .i64 v39 fun i40 =>
  extK v38 1 fun v41 =>
  intK .i64 v41 fun i42 =>
  boolN (eqZ i42 (Int.ofNat 0)) fun b43 =>
  ifB b43
  (some (Value.tuple (List.toArray [(ki 4), (Value.int .i64 i40), (Value.int .i64 i42)]), h38))
  (some (Value.tuple (List.toArray [(ki 0), (ki 0), (ki 0)]), h38))))))))
noncomputable def T8 (S : Sg) : Sg := tabC 0 (uV fun r0 => uN fun h => P8x0 S r0 h) (tabN)
noncomputable def F8 (args : List Value) (h : Hp) : CRes := packVals [Kd.v] args fun al => rec' T8 1000000 0 al h
def nt8 : Nat := 1 + (52 - 1)
theorem q8x0 (S : Sg) (r0 : Value) (h : Hp) : P8x0 S r0 h = stepAt (regK env orc18 (nt8)) (finK env Try.f8.results.toList) (collect B8 A8 []) 0 S (AL.v r0 AL.n) h := by kernel_rfl
theorem t8 (S : Sg) : Tab (fun l vs h => stepAt (regK env orc18 nt8) (finK env Try.f8.results.toList) (collect B8 A8 []) l S vs h) (T8 S) := by
  unfold T8
  refine Tab.cons 0 (fun vs0 h q e0 => ?_) ?_
  · obtain ⟨r0, vs1, rfl, e1⟩ := uV_some e0
    obtain ⟨rfl, ee⟩ := uN_some e1
    exact (q8x0 S r0 h).symm.trans ee
  exact Tab.nil
theorem r8 : ∀ args h v h', F8 args h = some (v, h') → Runs (C18) (.call 8 args.toArray h) (.ret v h') := by
  intro args h v h' e
  exact fun_sound (C := C18) (fn := Try.f8) (body := B8) (np := 1) (A := A8) (T := T8) (kinds := [Kd.v]) (by kernel_rfl) (by kernel_rfl) (by kernel_rfl) (by kernel_rfl) (regK_ok env_ok) (by kernel_rfl) (fun S => t8 S) e
noncomputable def orc19 := orcQ 8 F8 orc18
noncomputable def C19 : Cfg := cfg orc19
theorem ok19 : C19.Ok := orcQ_ok (C := C18) ok18 r8
noncomputable def B96 : Code := (Try.f96.body).getD .skip
noncomputable def A96 : G.Ann (List KI) := (G.Ann.node (some (0, [KI.reg 0 (Kd.v), KI.reg 1 (Kd.v), KI.reg 2 (Kd.i .i64)])) al (an al al))
noncomputable def P96x0 (h : Hp) (S : Nat → PAL → Option Value) (r0 : Value) (r1 : Value) (r2 : Int) : Option Value :=
  forceL (Array.toList (Value.cells r0)) fun c0 =>
  forceL (Array.toList (Value.cells r1)) fun c1 =>
  some (Value.bool true)
noncomputable def T96 (h : Hp) (S : Nat → PAL → Option Value) : Nat → PAL → Option Value := tabPC 0 (wV fun r0 => wV fun r1 => wI fun r2 => wN (P96x0 h S r0 r1 r2)) (tabPN)
noncomputable def F96 (args : List Value) (h : Hp) : Option Value := plainO (packArgs [Kd.v, Kd.v, Kd.i .i64] args fun al => G.rec' (T96 h) 1000000 0 al)
def nt96 : Nat := 3 + (7 - 3)
theorem q96x0 (h : Hp) (S : Nat → PAL → Option Value) (r0 : Value) (r1 : Value) (r2 : Int) : P96x0 h S r0 r1 r2 = G.stepAt packP unpackP evXV (regP env pf5 nt96 h) (finP env Try.f96.results.toList) (G.collect B96 A96 []) 0 S (PAL.v r0 (PAL.v r1 (PAL.i r2 PAL.n))) := by kernel_rfl
theorem t96 (h : Hp) (S : Nat → PAL → Option Value) : TabP (fun l al => G.stepAt packP unpackP evXV (regP env pf5 nt96 h) (finP env Try.f96.results.toList) (G.collect B96 A96 []) l S al) (T96 h S) := by
  unfold T96
  refine TabP.cons 0 (fun vs0 q e0 => ?_) ?_
  · obtain ⟨r0, vs1, rfl, e1⟩ := wV_some e0
    obtain ⟨r1, vs2, rfl, e2⟩ := wV_some e1
    obtain ⟨r2, vs3, rfl, e3⟩ := wI_some e2
    obtain ⟨rfl, ee⟩ := wN_some e3
    exact (q96x0 h S r0 r1 r2).symm.trans ee
  exact TabP.nil
theorem r96 : PSound Try.prog 96 F96 := fun_soundP (C := C0) ok0 (pf := pf5) pfok5 (fn := Try.f96) (body := B96) (kinds := [Kd.v, Kd.v, Kd.i .i64]) (A := A96) (T := T96) (by kernel_rfl) (by kernel_rfl) (by kernel_rfl) (by kernel_rfl) (fun h S => t96 h S)
noncomputable def pf6 : PF := pfC 96 F96 pf5
theorem pfok6 : PfSound Try.prog pf6 := pfC_ok r96 pfok5
noncomputable def orc20 := orcP 96 F96 orc19
noncomputable def C20 : Cfg := cfg orc20
theorem ok20 : C20.Ok := orcP_ok (C := C19) ok19 r96
noncomputable def B97 : Code := (Try.f97.body).getD .skip
noncomputable def A97 : G.Ann (List KI) := (G.Ann.node (some (0, [KI.reg 0 (Kd.v), KI.reg 1 (Kd.v), KI.reg 2 (Kd.i .i64)])) al (an al al))
noncomputable def P97x0 (h : Hp) (S : Nat → PAL → Option Value) (r0 : Value) (r1 : Value) (r2 : Int) : Option Value :=
  forceL (Array.toList (Value.cells r0)) fun c0 =>
  forceL (Array.toList (Value.cells r1)) fun c1 =>
  optK (buildV env 104 (List.toArray [])) fun v2 =>
  aggK v2 fun l3 => ifB (Nat.beq (lenR l3) 2) (segR 0 l3 [(ki 0), (ki 0)] fun c3 =>
  dropR c3 0 fun d4 => takeR d4 2 fun l4 => some (Value.agg (Array.mk l4))) none
noncomputable def T97 (h : Hp) (S : Nat → PAL → Option Value) : Nat → PAL → Option Value := tabPC 0 (wV fun r0 => wV fun r1 => wI fun r2 => wN (P97x0 h S r0 r1 r2)) (tabPN)
noncomputable def F97 (args : List Value) (h : Hp) : Option Value := plainO (packArgs [Kd.v, Kd.v, Kd.i .i64] args fun al => G.rec' (T97 h) 1000000 0 al)
def nt97 : Nat := 3 + (8 - 3)
theorem q97x0 (h : Hp) (S : Nat → PAL → Option Value) (r0 : Value) (r1 : Value) (r2 : Int) : P97x0 h S r0 r1 r2 = G.stepAt packP unpackP evXV (regP env pf6 nt97 h) (finP env Try.f97.results.toList) (G.collect B97 A97 []) 0 S (PAL.v r0 (PAL.v r1 (PAL.i r2 PAL.n))) := by kernel_rfl
theorem t97 (h : Hp) (S : Nat → PAL → Option Value) : TabP (fun l al => G.stepAt packP unpackP evXV (regP env pf6 nt97 h) (finP env Try.f97.results.toList) (G.collect B97 A97 []) l S al) (T97 h S) := by
  unfold T97
  refine TabP.cons 0 (fun vs0 q e0 => ?_) ?_
  · obtain ⟨r0, vs1, rfl, e1⟩ := wV_some e0
    obtain ⟨r1, vs2, rfl, e2⟩ := wV_some e1
    obtain ⟨r2, vs3, rfl, e3⟩ := wI_some e2
    obtain ⟨rfl, ee⟩ := wN_some e3
    exact (q97x0 h S r0 r1 r2).symm.trans ee
  exact TabP.nil
theorem r97 : PSound Try.prog 97 F97 := fun_soundP (C := C0) ok0 (pf := pf6) pfok6 (fn := Try.f97) (body := B97) (kinds := [Kd.v, Kd.v, Kd.i .i64]) (A := A97) (T := T97) (by kernel_rfl) (by kernel_rfl) (by kernel_rfl) (by kernel_rfl) (fun h S => t97 h S)
noncomputable def pf7 : PF := pfC 97 F97 pf6
theorem pfok7 : PfSound Try.prog pf7 := pfC_ok r97 pfok6
noncomputable def orc21 := orcP 97 F97 orc20
noncomputable def C21 : Cfg := cfg orc21
theorem ok21 : C21.Ok := orcP_ok (C := C20) ok20 r97
noncomputable def B98 : Code := (Try.f98.body).getD .skip
noncomputable def A98 : G.Ann (List KI) := (G.Ann.node (some (0, [KI.reg 0 (Kd.v), KI.reg 1 (Kd.v), KI.reg 2 (Kd.i .i64)])) al (an al al))
noncomputable def P98x0 (h : Hp) (S : Nat → PAL → Option Value) (r0 : Value) (r1 : Value) (r2 : Int) : Option Value :=
  forceL (Array.toList (Value.cells r0)) fun c0 =>
  forceL (Array.toList (Value.cells r1)) fun c1 =>
  nthR c0 7 fun v2 =>
  intK .i64 v2 fun i3 =>
  nthR c1 1 fun v4 =>
  intK .i64 v4 fun i5 =>
  minZ i3 i5 fun i6 =>
  boolN (ltZ i6 r2) fun b7 =>
  some (Value.bool b7)
noncomputable def T98 (h : Hp) (S : Nat → PAL → Option Value) : Nat → PAL → Option Value := tabPC 0 (wV fun r0 => wV fun r1 => wI fun r2 => wN (P98x0 h S r0 r1 r2)) (tabPN)
noncomputable def F98 (args : List Value) (h : Hp) : Option Value := plainO (packArgs [Kd.v, Kd.v, Kd.i .i64] args fun al => G.rec' (T98 h) 1000000 0 al)
def nt98 : Nat := 3 + (14 - 3)
theorem q98x0 (h : Hp) (S : Nat → PAL → Option Value) (r0 : Value) (r1 : Value) (r2 : Int) : P98x0 h S r0 r1 r2 = G.stepAt packP unpackP evXV (regP env pf7 nt98 h) (finP env Try.f98.results.toList) (G.collect B98 A98 []) 0 S (PAL.v r0 (PAL.v r1 (PAL.i r2 PAL.n))) := by kernel_rfl
theorem t98 (h : Hp) (S : Nat → PAL → Option Value) : TabP (fun l al => G.stepAt packP unpackP evXV (regP env pf7 nt98 h) (finP env Try.f98.results.toList) (G.collect B98 A98 []) l S al) (T98 h S) := by
  unfold T98
  refine TabP.cons 0 (fun vs0 q e0 => ?_) ?_
  · obtain ⟨r0, vs1, rfl, e1⟩ := wV_some e0
    obtain ⟨r1, vs2, rfl, e2⟩ := wV_some e1
    obtain ⟨r2, vs3, rfl, e3⟩ := wI_some e2
    obtain ⟨rfl, ee⟩ := wN_some e3
    exact (q98x0 h S r0 r1 r2).symm.trans ee
  exact TabP.nil
theorem r98 : PSound Try.prog 98 F98 := fun_soundP (C := C0) ok0 (pf := pf7) pfok7 (fn := Try.f98) (body := B98) (kinds := [Kd.v, Kd.v, Kd.i .i64]) (A := A98) (T := T98) (by kernel_rfl) (by kernel_rfl) (by kernel_rfl) (by kernel_rfl) (fun h S => t98 h S)
noncomputable def pf8 : PF := pfC 98 F98 pf7
theorem pfok8 : PfSound Try.prog pf8 := pfC_ok r98 pfok7
noncomputable def orc22 := orcP 98 F98 orc21
noncomputable def C22 : Cfg := cfg orc22
theorem ok22 : C22.Ok := orcP_ok (C := C21) ok21 r98
noncomputable def B42 : Code := (Try.f42.body).getD .skip
noncomputable def A42 : G.Ann (List KI) := (G.Ann.node (some (0, [KI.reg 0 (Kd.v), KI.reg 1 (Kd.i .i64)])) al (an al (an al al)))
noncomputable def P42x0 (h : Hp) (S : Nat → PAL → Option Value) (r0 : Value) (r1 : Int) : Option Value :=
  forceL (Array.toList (Value.cells r0)) fun c0 =>
  nthR c0 6 fun v1 =>
  intK .i64 v1 fun i2 =>
  wrap64 (Int.add i2 r1) fun i3 =>
  slowI .i64 (binW env .quo 3 (Value.int .i64 i3) (ki 30)) fun i4 =>
  wrap64 (Int.add i4 (Int.ofNat 1)) fun i5 =>
  nthR c0 3 fun v6 =>
  intK .i64 v6 fun i7 =>
  nthR c0 4 fun v8 =>
  intK .i64 v8 fun i9 =>
  wrap64 (Int.mul i5 i9) fun i10 =>
  wrap64 (Int.add i7 i10) fun i11 =>
  some (Value.int .i64 i11)
noncomputable def T42 (h : Hp) (S : Nat → PAL → Option Value) : Nat → PAL → Option Value := tabPC 0 (wV fun r0 => wI fun r1 => wN (P42x0 h S r0 r1)) (tabPN)
noncomputable def F42 (args : List Value) (h : Hp) : Option Value := plainO (packArgs [Kd.v, Kd.i .i64] args fun al => G.rec' (T42 h) 1000000 0 al)
def nt42 : Nat := 2 + (19 - 2)
theorem q42x0 (h : Hp) (S : Nat → PAL → Option Value) (r0 : Value) (r1 : Int) : P42x0 h S r0 r1 = G.stepAt packP unpackP evXV (regP env pf8 nt42 h) (finP env Try.f42.results.toList) (G.collect B42 A42 []) 0 S (PAL.v r0 (PAL.i r1 PAL.n)) := by kernel_rfl
theorem t42 (h : Hp) (S : Nat → PAL → Option Value) : TabP (fun l al => G.stepAt packP unpackP evXV (regP env pf8 nt42 h) (finP env Try.f42.results.toList) (G.collect B42 A42 []) l S al) (T42 h S) := by
  unfold T42
  refine TabP.cons 0 (fun vs0 q e0 => ?_) ?_
  · obtain ⟨r0, vs1, rfl, e1⟩ := wV_some e0
    obtain ⟨r1, vs2, rfl, e2⟩ := wI_some e1
    obtain ⟨rfl, ee⟩ := wN_some e2
    exact (q42x0 h S r0 r1).symm.trans ee
  exact TabP.nil
theorem r42 : PSound Try.prog 42 F42 := fun_soundP (C := C0) ok0 (pf := pf8) pfok8 (fn := Try.f42) (body := B42) (kinds := [Kd.v, Kd.i .i64]) (A := A42) (T := T42) (by kernel_rfl) (by kernel_rfl) (by kernel_rfl) (by kernel_rfl) (fun h S => t42 h S)
noncomputable def pf9 : PF := pfC 42 F42 pf8
theorem pfok9 : PfSound Try.prog pf9 := pfC_ok r42 pfok8
noncomputable def orc23 := orcP 42 F42 orc22
noncomputable def C23 : Cfg := cfg orc23
theorem ok23 : C23.Ok := orcP_ok (C := C22) ok22 r42
noncomputable def B99 : Code := (Try.f99.body).getD .skip
noncomputable def A99 : G.Ann (List KI) := (G.Ann.node (some (0, [KI.reg 0 (Kd.v), KI.reg 1 (Kd.v), KI.reg 2 (Kd.i .i64)])) al (an al al))
noncomputable def P99x0 (h : Hp) (S : Nat → PAL → Option Value) (r0 : Value) (r1 : Value) (r2 : Int) : Option Value :=
  forceL (Array.toList (Value.cells r0)) fun c0 =>
  forceL (Array.toList (Value.cells r1)) fun c1 =>
  dropR c0 0 fun d2 => takeR d2 8 fun l2 =>
  optK (F42 [(Value.agg (Array.mk l2)), (Value.int .i64 r2)] h) fun v3 =>
  intK .i64 v3 fun i4 =>
  optK (buildV env 104 (List.toArray [(0, (Value.int .i64 r2)), (1, (Value.int .i64 i4))])) fun v5 =>
  aggK v5 fun l6 => ifB (Nat.beq (lenR l6) 2) (segR 0 l6 [(ki 0), (ki 0)] fun c6 =>
  dropR c6 0 fun d7 => takeR d7 2 fun l7 => some (Value.agg (Array.mk l7))) none
noncomputable def T99 (h : Hp) (S : Nat → PAL → Option Value) : Nat → PAL → Option Value := tabPC 0 (wV fun r0 => wV fun r1 => wI fun r2 => wN (P99x0 h S r0 r1 r2)) (tabPN)
noncomputable def F99 (args : List Value) (h : Hp) : Option Value := plainO (packArgs [Kd.v, Kd.v, Kd.i .i64] args fun al => G.rec' (T99 h) 1000000 0 al)
def nt99 : Nat := 3 + (12 - 3)
theorem q99x0 (h : Hp) (S : Nat → PAL → Option Value) (r0 : Value) (r1 : Value) (r2 : Int) : P99x0 h S r0 r1 r2 = G.stepAt packP unpackP evXV (regP env pf9 nt99 h) (finP env Try.f99.results.toList) (G.collect B99 A99 []) 0 S (PAL.v r0 (PAL.v r1 (PAL.i r2 PAL.n))) := by kernel_rfl
theorem t99 (h : Hp) (S : Nat → PAL → Option Value) : TabP (fun l al => G.stepAt packP unpackP evXV (regP env pf9 nt99 h) (finP env Try.f99.results.toList) (G.collect B99 A99 []) l S al) (T99 h S) := by
  unfold T99
  refine TabP.cons 0 (fun vs0 q e0 => ?_) ?_
  · obtain ⟨r0, vs1, rfl, e1⟩ := wV_some e0
    obtain ⟨r1, vs2, rfl, e2⟩ := wV_some e1
    obtain ⟨r2, vs3, rfl, e3⟩ := wI_some e2
    obtain ⟨rfl, ee⟩ := wN_some e3
    exact (q99x0 h S r0 r1 r2).symm.trans ee
  exact TabP.nil
theorem r99 : PSound Try.prog 99 F99 := fun_soundP (C := C0) ok0 (pf := pf9) pfok9 (fn := Try.f99) (body := B99) (kinds := [Kd.v, Kd.v, Kd.i .i64]) (A := A99) (T := T99) (by kernel_rfl) (by kernel_rfl) (by kernel_rfl) (by kernel_rfl) (fun h S => t99 h S)
noncomputable def pf10 : PF := pfC 99 F99 pf9
theorem pfok10 : PfSound Try.prog pf10 := pfC_ok r99 pfok9
noncomputable def orc24 := orcP 99 F99 orc23
noncomputable def C24 : Cfg := cfg orc24
theorem ok24 : C24.Ok := orcP_ok (C := C23) ok23 r99
noncomputable def B100 : Code := (Try.f100.body).getD .skip
noncomputable def A100 : G.Ann (List KI) := (G.Ann.node (some (0, [KI.reg 0 (Kd.v), KI.reg 1 (Kd.v), KI.reg 2 (Kd.i .i64)])) al (an al al))
noncomputable def P100x0 (h : Hp) (S : Nat → PAL → Option Value) (r0 : Value) (r1 : Value) (r2 : Int) : Option Value :=
  forceL (Array.toList (Value.cells r0)) fun c0 =>
  forceL (Array.toList (Value.cells r1)) fun c1 =>
  nthR c1 2 fun v2 =>
  intK .i64 v2 fun i3 =>
  nthR c0 7 fun v4 =>
  intK .i64 v4 fun i5 =>
  boolN (ltZ i5 i3) fun b6 =>
  some (Value.bool b6)
noncomputable def T100 (h : Hp) (S : Nat → PAL → Option Value) : Nat → PAL → Option Value := tabPC 0 (wV fun r0 => wV fun r1 => wI fun r2 => wN (P100x0 h S r0 r1 r2)) (tabPN)
noncomputable def F100 (args : List Value) (h : Hp) : Option Value := plainO (packArgs [Kd.v, Kd.v, Kd.i .i64] args fun al => G.rec' (T100 h) 1000000 0 al)
def nt100 : Nat := 3 + (12 - 3)
theorem q100x0 (h : Hp) (S : Nat → PAL → Option Value) (r0 : Value) (r1 : Value) (r2 : Int) : P100x0 h S r0 r1 r2 = G.stepAt packP unpackP evXV (regP env pf10 nt100 h) (finP env Try.f100.results.toList) (G.collect B100 A100 []) 0 S (PAL.v r0 (PAL.v r1 (PAL.i r2 PAL.n))) := by kernel_rfl
theorem t100 (h : Hp) (S : Nat → PAL → Option Value) : TabP (fun l al => G.stepAt packP unpackP evXV (regP env pf10 nt100 h) (finP env Try.f100.results.toList) (G.collect B100 A100 []) l S al) (T100 h S) := by
  unfold T100
  refine TabP.cons 0 (fun vs0 q e0 => ?_) ?_
  · obtain ⟨r0, vs1, rfl, e1⟩ := wV_some e0
    obtain ⟨r1, vs2, rfl, e2⟩ := wV_some e1
    obtain ⟨r2, vs3, rfl, e3⟩ := wI_some e2
    obtain ⟨rfl, ee⟩ := wN_some e3
    exact (q100x0 h S r0 r1 r2).symm.trans ee
  exact TabP.nil
theorem r100 : PSound Try.prog 100 F100 := fun_soundP (C := C0) ok0 (pf := pf10) pfok10 (fn := Try.f100) (body := B100) (kinds := [Kd.v, Kd.v, Kd.i .i64]) (A := A100) (T := T100) (by kernel_rfl) (by kernel_rfl) (by kernel_rfl) (by kernel_rfl) (fun h S => t100 h S)
noncomputable def pf11 : PF := pfC 100 F100 pf10
theorem pfok11 : PfSound Try.prog pf11 := pfC_ok r100 pfok10
noncomputable def orc25 := orcP 100 F100 orc24
noncomputable def C25 : Cfg := cfg orc25
theorem ok25 : C25.Ok := orcP_ok (C := C24) ok24 r100
noncomputable def B45 : Code := (Try.f45.body).getD .skip
noncomputable def A45 : G.Ann (List KI) := (G.Ann.node (some (0, [KI.reg 0 (Kd.v), KI.reg 1 (Kd.v)])) al (an al al))
noncomputable def P45x0 (h : Hp) (S : Nat → PAL → Option Value) (r0 : Value) (r1 : Value) : Option Value :=
  forceL (Array.toList (Value.cells r0)) fun c0 =>
  forceL (Array.toList (Value.cells r1)) fun c1 =>
  nthR c0 5 fun v2 =>
  intK .i64 v2 fun i3 =>
  nthR c1 2 fun v4 =>
  intK .i64 v4 fun i5 =>
  nthR c1 1 fun v6 =>
  intK .i64 v6 fun i7 =>
  wrap64 (Int.sub i5 i7) fun i8 =>
  wrap64 (Int.add i8 (Int.ofNat 1)) fun i9 =>
  wrap64 (Int.mul i3 i9) fun i10 =>
  some (Value.int .i64 i10)
noncomputable def T45 (h : Hp) (S : Nat → PAL → Option Value) : Nat → PAL → Option Value := tabPC 0 (wV fun r0 => wV fun r1 => wN (P45x0 h S r0 r1)) (tabPN)
noncomputable def F45 (args : List Value) (h : Hp) : Option Value := plainO (packArgs [Kd.v, Kd.v] args fun al => G.rec' (T45 h) 1000000 0 al)
def nt45 : Nat := 2 + (14 - 2)
theorem q45x0 (h : Hp) (S : Nat → PAL → Option Value) (r0 : Value) (r1 : Value) : P45x0 h S r0 r1 = G.stepAt packP unpackP evXV (regP env pf11 nt45 h) (finP env Try.f45.results.toList) (G.collect B45 A45 []) 0 S (PAL.v r0 (PAL.v r1 PAL.n)) := by kernel_rfl
theorem t45 (h : Hp) (S : Nat → PAL → Option Value) : TabP (fun l al => G.stepAt packP unpackP evXV (regP env pf11 nt45 h) (finP env Try.f45.results.toList) (G.collect B45 A45 []) l S al) (T45 h S) := by
  unfold T45
  refine TabP.cons 0 (fun vs0 q e0 => ?_) ?_
  · obtain ⟨r0, vs1, rfl, e1⟩ := wV_some e0
    obtain ⟨r1, vs2, rfl, e2⟩ := wV_some e1
    obtain ⟨rfl, ee⟩ := wN_some e2
    exact (q45x0 h S r0 r1).symm.trans ee
  exact TabP.nil
theorem r45 : PSound Try.prog 45 F45 := fun_soundP (C := C0) ok0 (pf := pf11) pfok11 (fn := Try.f45) (body := B45) (kinds := [Kd.v, Kd.v]) (A := A45) (T := T45) (by kernel_rfl) (by kernel_rfl) (by kernel_rfl) (by kernel_rfl) (fun h S => t45 h S)
noncomputable def pf12 : PF := pfC 45 F45 pf11
theorem pfok12 : PfSound Try.prog pf12 := pfC_ok r45 pfok11
noncomputable def orc26 := orcP 45 F45 orc25
noncomputable def C26 : Cfg := cfg orc26
theorem ok26 : C26.Ok := orcP_ok (C := C25) ok25 r45
noncomputable def B101 : Code := (Try.f101.body).getD .skip
noncomputable def A101 : G.Ann (List KI) := (G.Ann.node (some (0, [KI.reg 0 (Kd.v), KI.reg 1 (Kd.v), KI.reg 2 (Kd.i .i64)])) al (an al al))
noncomputable def P101x0 (h : Hp) (S : Nat → PAL → Option Value) (r0 : Value) (r1 : Value) (r2 : Int) : Option Value :=
  forceL (Array.toList (Value.cells r0)) fun c0 =>
  forceL (Array.toList (Value.cells r1)) fun c1 =>
  nthR c1 1 fun v2 =>
  intK .i64 v2 fun i3 =>
  dropR c0 0 fun d4 => takeR d4 8 fun l4 =>
  dropR c1 0 fun d5 => takeR d5 4 fun l5 =>
  optK (F45 [(Value.agg (Array.mk l4)), (Value.agg (Array.mk l5))] h) fun v6 =>
  intK .i64 v6 fun i7 =>
  optK (buildV env 104 (List.toArray [(0, (Value.int .i64 i3)), (1, (Value.int .i64 i7))])) fun v8 =>
  aggK v8 fun l9 => ifB (Nat.beq (lenR l9) 2) (segR 0 l9 [(ki 0), (ki 0)] fun c9 =>
  dropR c9 0 fun d10 => takeR d10 2 fun l10 => some (Value.agg (Array.mk l10))) none
noncomputable def T101 (h : Hp) (S : Nat → PAL → Option Value) : Nat → PAL → Option Value := tabPC 0 (wV fun r0 => wV fun r1 => wI fun r2 => wN (P101x0 h S r0 r1 r2)) (tabPN)
noncomputable def F101 (args : List Value) (h : Hp) : Option Value := plainO (packArgs [Kd.v, Kd.v, Kd.i .i64] args fun al => G.rec' (T101 h) 1000000 0 al)
def nt101 : Nat := 3 + (13 - 3)
theorem q101x0 (h : Hp) (S : Nat → PAL → Option Value) (r0 : Value) (r1 : Value) (r2 : Int) : P101x0 h S r0 r1 r2 = G.stepAt packP unpackP evXV (regP env pf12 nt101 h) (finP env Try.f101.results.toList) (G.collect B101 A101 []) 0 S (PAL.v r0 (PAL.v r1 (PAL.i r2 PAL.n))) := by kernel_rfl
theorem t101 (h : Hp) (S : Nat → PAL → Option Value) : TabP (fun l al => G.stepAt packP unpackP evXV (regP env pf12 nt101 h) (finP env Try.f101.results.toList) (G.collect B101 A101 []) l S al) (T101 h S) := by
  unfold T101
  refine TabP.cons 0 (fun vs0 q e0 => ?_) ?_
  · obtain ⟨r0, vs1, rfl, e1⟩ := wV_some e0
    obtain ⟨r1, vs2, rfl, e2⟩ := wV_some e1
    obtain ⟨r2, vs3, rfl, e3⟩ := wI_some e2
    obtain ⟨rfl, ee⟩ := wN_some e3
    exact (q101x0 h S r0 r1 r2).symm.trans ee
  exact TabP.nil
theorem r101 : PSound Try.prog 101 F101 := fun_soundP (C := C0) ok0 (pf := pf12) pfok12 (fn := Try.f101) (body := B101) (kinds := [Kd.v, Kd.v, Kd.i .i64]) (A := A101) (T := T101) (by kernel_rfl) (by kernel_rfl) (by kernel_rfl) (by kernel_rfl) (fun h S => t101 h S)
noncomputable def pf13 : PF := pfC 101 F101 pf12
theorem pfok13 : PfSound Try.prog pf13 := pfC_ok r101 pfok12
noncomputable def orc27 := orcP 101 F101 orc26
noncomputable def C27 : Cfg := cfg orc27
theorem ok27 : C27.Ok := orcP_ok (C := C26) ok26 r101
noncomputable def B73 : Code := (Try.f73.body).getD .skip
noncomputable def A73 : G.Ann (List KI) := (G.Ann.node (some (0, [])) al (an al al))
noncomputable def P73x0 (h : Hp) (S : Nat → PAL → Option Value) : Option Value :=
  optK (buildV env 82 (List.toArray [(2, (Value.func (.func 96) #[] #[])), (3, (Value.func (.func 97) #[] #[]))])) fun v0 =>
  optK (buildV env 82 (List.toArray [(0, (Value.bool true)), (1, (ki 364)), (2, (Value.func (.func 98) #[] #[])), (3, (Value.func (.func 99) #[] #[]))])) fun v1 =>
  optK (buildV env 82 (List.toArray [(0, (Value.bool true)), (2, (Value.func (.func 100) #[] #[])), (3, (Value.func (.func 101) #[] #[]))])) fun v2 =>
  optK (buildV env 83 (List.toArray [(0, v0), (1, v1), (2, v2)])) fun v3 =>
  aggK v3 fun l4 => ifB (Nat.beq (lenR l4) 12) (segR 0 l4 [(Value.bool false), (ki 0), Value.nilFunc, Value.nilFunc, (Value.bool false), (ki 0), Value.nilFunc, Value.nilFunc, (Value.bool false), (ki 0), Value.nilFunc, Value.nilFunc] fun c4 =>
  dropR c4 0 fun d5 => takeR d5 12 fun l5 => some (Value.agg (Array.mk l5))) none
noncomputable def T73 (h : Hp) (S : Nat → PAL → Option Value) : Nat → PAL → Option Value := tabPC 0 (wN (P73x0 h S)) (tabPN)
noncomputable def F73 (args : List Value) (h : Hp) : Option Value := plainO (packArgs [] args fun al => G.rec' (T73 h) 1000000 0 al)
def nt73 : Nat := 0 + (5 - 0)
theorem q73x0 (h : Hp) (S : Nat → PAL → Option Value) : P73x0 h S = G.stepAt packP unpackP evXV (regP env pf13 nt73 h) (finP env Try.f73.results.toList) (G.collect B73 A73 []) 0 S PAL.n := by kernel_rfl
theorem t73 (h : Hp) (S : Nat → PAL → Option Value) : TabP (fun l al => G.stepAt packP unpackP evXV (regP env pf13 nt73 h) (finP env Try.f73.results.toList) (G.collect B73 A73 []) l S al) (T73 h S) := by
  unfold T73
  refine TabP.cons 0 (fun vs0 q e0 => ?_) ?_
  · 
    obtain ⟨rfl, ee⟩ := wN_some e0
    exact (q73x0 h S).symm.trans ee
  exact TabP.nil
theorem r73 : PSound Try.prog 73 F73 := fun_soundP (C := C0) ok0 (pf := pf13) pfok13 (fn := Try.f73) (body := B73) (kinds := []) (A := A73) (T := T73) (by kernel_rfl) (by kernel_rfl) (by kernel_rfl) (by kernel_rfl) (fun h S => t73 h S)
noncomputable def pf14 : PF := pfC 73 F73 pf13
theorem pfok14 : PfSound Try.prog pf14 := pfC_ok r73 pfok13
noncomputable def orc28 := orcP 73 F73 orc27
noncomputable def C28 : Cfg := cfg orc28
theorem ok28 : C28.Ok := orcP_ok (C := C27) ok27 r73
noncomputable def B40 : Code := (Try.f40.body).getD .skip
def A40 : Ann := (Ann.node (some (0, [(0, Kd.v)])) bl (bn (bn bl (bn bl (bn (bn bl bl) bl))) (bn bl bl)))
noncomputable def P40x0 (S : Sg) (r0 : Value) (h : Hp) : CRes :=
  allocK h 26 (Array.toList (Value.cells r0)) fun a0 h0 =>
  allocK h0 85 [(Value.slice none 0 0), (Value.slice none 0 0), (ki 0), (Value.slice none 0 0), (Value.bool false), (ki 0), Value.nilFunc, Value.nilFunc, (Value.bool false), (ki 0), Value.nilFunc, Value.nilFunc, (Value.bool false), (ki 0), Value.nilFunc, Value.nilFunc] fun a1 h1 =>
  loadNK 4 h1 a0 fun v2 =>
  pairK (callQ F8 [v2] h1) fun v3 h3 =>
  extK v3 0 fun v4 =>
  intK .i64 v4 fun i5 =>
  extK v3 1 fun v6 =>
  intK .i64 v6 fun i7 =>
  extK v3 2 fun v8 =>
  intK .i64 v8 fun i9 =>
  boolN (eqZ i9 (Int.ofNat 0)) fun b10 =>
  ifB b10
  (optK (buildV env 85 (List.toArray [])) fun v11 =>
  storeNK 16 h3 a1 v11 fun h12 =>
  loadNK 16 h12 a1 fun v13 => some (Value.tuple (List.toArray [v13, (Value.int .i64 i9)]), h12))
  (loadNK 4 h3 a0 fun v14 =>
  pairK (pairK (optK (F73 [] (Hp.mk (Hp.next h3) (Hp.next h3) (Hp.objs h3))) fun v => some (v, (Hp.mk (Hp.next h3) (Hp.next h3) (Hp.objs h3)))) fun v _ => ifB (plainK v) (some (v, h3)) none) fun v15 h15 =>
  optK (buildV env 85 (List.toArray [(0, v14), (1, v15)])) fun v16 =>
  storeNK 16 h15 a1 v16 fun h17 =>
  loadNK 16 h17 a1 fun v18 => some (Value.tuple (List.toArray [v18, (ki 0)]), h17))
noncomputable def T40 (S : Sg) : Sg := tabC 0 (uV fun r0 => uN fun h => P40x0 S r0 h) (tabN)
noncomputable def F40 (args : List Value) (h : Hp) : CRes := packVals [Kd.v] args fun al => rec' T40 1000000 0 al h
def nt40 : Nat := 1 + (20 - 1)
theorem q40x0 (S : Sg) (r0 : Value) (h : Hp) : P40x0 S r0 h = stepAt (regK env orc28 (nt40)) (finK env Try.f40.results.toList) (collect B40 A40 []) 0 S (AL.v r0 AL.n) h := by kernel_rfl
theorem t40 (S : Sg) : Tab (fun l vs h => stepAt (regK env orc28 nt40) (finK env Try.f40.results.toList) (collect B40 A40 []) l S vs h) (T40 S) := by
  unfold T40
  refine Tab.cons 0 (fun vs0 h q e0 => ?_) ?_
  · obtain ⟨r0, vs1, rfl, e1⟩ := uV_some e0
    obtain ⟨rfl, ee⟩ := uN_some e1
    exact (q40x0 S r0 h).symm.trans ee
  exact Tab.nil
theorem r40 : ∀ args h v h', F40 args h = some (v, h') → Runs (C28) (.call 40 args.toArray h) (.ret v h') := by
  intro args h v h' e
  exact fun_sound (C := C28) (fn := Try.f40) (body := B40) (np := 1) (A := A40) (T := T40) (kinds := [Kd.v]) (by kernel_rfl) (by kernel_rfl) (by kernel_rfl) (by kernel_rfl) (regK_ok env_ok) (by kernel_rfl) (fun S => t40 S) e
noncomputable def orc29 := orcQ 40 F40 orc28
noncomputable def C29 : Cfg := cfg orc29
theorem ok29 : C29.Ok := orcQ_ok (C := C28) ok28 r40
noncomputable def B41 : Code := (Try.f41.body).getD .skip
noncomputable def A41 : G.Ann (List KI) := (G.Ann.node (some (0, [KI.reg 0 (Kd.i .i64), KI.reg 1 (Kd.v)])) al (an al al))
noncomputable def P41x0 (h : Hp) (S : Nat → PAL → Option Value) (r0 : Int) (r1 : Value) : Option Value :=
  wrap64 (Int.sub r0 (Int.ofNat 1)) fun i0 =>
  optK (F33 [(ki 0), (Value.int .i64 i0), r1] h) fun v1 =>
  boolK v1 fun b2 =>
  some (Value.bool b2)
noncomputable def T41 (h : Hp) (S : Nat → PAL → Option Value) : Nat → PAL → Option Value := tabPC 0 (wI fun r0 => wV fun r1 => wN (P41x0 h S r0 r1)) (tabPN)
noncomputable def F41 (args : List Value) (h : Hp) : Option Value := plainO (packArgs [Kd.i .i64, Kd.v] args fun al => G.rec' (T41 h) 1000000 0 al)
def nt41 : Nat := 2 + (9 - 2)
theorem q41x0 (h : Hp) (S : Nat → PAL → Option Value) (r0 : Int) (r1 : Value) : P41x0 h S r0 r1 = G.stepAt packP unpackP evXV (regP env pf14 nt41 h) (finP env Try.f41.results.toList) (G.collect B41 A41 []) 0 S (PAL.i r0 (PAL.v r1 PAL.n)) := by kernel_rfl
theorem t41 (h : Hp) (S : Nat → PAL → Option Value) : TabP (fun l al => G.stepAt packP unpackP evXV (regP env pf14 nt41 h) (finP env Try.f41.results.toList) (G.collect B41 A41 []) l S al) (T41 h S) := by
  unfold T41
  refine TabP.cons 0 (fun vs0 q e0 => ?_) ?_
  · obtain ⟨r0, vs1, rfl, e1⟩ := wI_some e0
    obtain ⟨r1, vs2, rfl, e2⟩ := wV_some e1
    obtain ⟨rfl, ee⟩ := wN_some e2
    exact (q41x0 h S r0 r1).symm.trans ee
  exact TabP.nil
theorem r41 : PSound Try.prog 41 F41 := fun_soundP (C := C0) ok0 (pf := pf14) pfok14 (fn := Try.f41) (body := B41) (kinds := [Kd.i .i64, Kd.v]) (A := A41) (T := T41) (by kernel_rfl) (by kernel_rfl) (by kernel_rfl) (by kernel_rfl) (fun h S => t41 h S)
noncomputable def pf15 : PF := pfC 41 F41 pf14
theorem pfok15 : PfSound Try.prog pf15 := pfC_ok r41 pfok14
noncomputable def orc30 := orcP 41 F41 orc29
noncomputable def C30 : Cfg := cfg orc30
theorem ok30 : C30.Ok := orcP_ok (C := C29) ok29 r41
noncomputable def B10 : Code := (Try.f10.body).getD .skip
def A10 : Ann := (Ann.node (some (0, [(0, Kd.v), (1, Kd.i .i64), (2, Kd.i .i64)])) bl (bn bl (bn (bn (bn bl (bn (bn bl bl) (bn bl (bn (bn bl bl) (bn bl (bn (bn bl bl) (bn bl (bn (bn bl bl) (bn bl (bn (bn bl bl) bl)))))))))) bl) (bn bl bl))))
noncomputable def P10x0 (S : Sg) (r0 : Value) (r1 : Int) (r2 : Int) (h : Hp) : CRes :=
  allocK h 26 (Array.toList (Value.cells r0)) fun a0 h0 =>
  loadNK 4 h0 a0 fun v1 =>
  pairK (callQ F40 [v1] h0) fun v2 h2 =>
  extK v2 0 fun v3 =>
  extK v2 1 fun v4 =>
  intK .i64 v4 fun i5 =>
  allocK h2 85 [(Value.slice none 0 0), (Value.slice none 0 0), (ki 0), (Value.slice none 0 0), (Value.bool false), (ki 0), Value.nilFunc, Value.nilFunc, (Value.bool false), (ki 0), Value.nilFunc, Value.nilFunc, (Value.bool false), (ki 0), Value.nilFunc, Value.nilFunc] fun a6 h6 =>
  storeNK 16 h6 a6 v3 fun h7 =>
  boolN (eqZ i5 (Int.ofNat 0)) fun b8 =>
  ifB b8
  (some (Value.tuple (List.toArray [(ki 0), (Value.int .i64 i5)]), h7))
  (ptrAddK 0 a6 fun v9 =>
  ptrAddK 0 v9 fun v10 =>
  load1K h7 v10 fun v11 =>
  lenSK v11 fun i12 =>
  pairK (buildSliceV env h7 34 1 (List.toArray [(0, (Value.int .i64 r1))])) fun v13 h13 =>
  pairK (optK (F41 [(Value.int .i64 i12), v13] h13) fun v => some (v, h13)) fun v14 h14 =>
  boolK v14 fun b15 =>
  boolN b15 fun b16 =>
  ifB b16
  (some (Value.tuple (List.toArray [(ki 0), (ki 4)]), h14))
  (ptrAddK 0 a6 fun v17 =>
  ptrAddK 0 v17 fun v18 =>
  load1K h14 v18 fun v19 =>
  idxSK 8 v19 r1 fun v20 =>
  ptrAddK 2 v20 fun v21 =>
  load1K h14 v21 fun v22 =>
  boolK v22 fun b23 =>
  boolN b23 fun b24 =>
  ifB b24
  (some (Value.tuple (List.toArray [(ki 0), (ki 2)]), h14))
  (pairK (buildSliceV env h14 34 1 (List.toArray [(0, (Value.int .i64 r2))])) fun v25 h25 =>
  pairK (optK (F33 [(ki 0), (ki 364), v25] h25) fun v => some (v, h25)) fun v26 h26 =>
  boolK v26 fun b27 =>
  boolN b27 fun b28 =>
  ifB b28
  (some (Value.tuple (List.toArray [(ki 0), (ki 7)]), h26))
  (ptrAddK 0 a6 fun v29 =>
  ptrAddK 0 v29 fun v30 =>
  load1K h26 v30 fun v31 =>
  idxSK 8 v31 r1 fun v32 =>
  ptrAddK 7 v32 fun v33 =>
  load1K h26 v33 fun v34 =>
  intK .i64 v34 fun i35 =>
  boolZ (ltZ i35 r2) fun b36 =>
  ifB b36
  (some (Value.tuple (List.toArray [(ki 0), (ki 9)]), h26))
  (ptrAddK 0 a6 fun v37 =>
  ptrAddK 0 v37 fun v38 =>
  load1K h26 v38 fun v39 =>
  idxSK 8 v39 r1 fun v40 =>
  loadNK 8 h26 v40 fun v41 =>
  pairK (optK (F42 [v41, (Value.int .i64 r2)] h26) fun v => some (v, h26)) fun v42 h42 =>
  intK .i64 v42 fun i43 =>
  some (Value.tuple (List.toArray [(Value.int .i64 i43), (ki 0)]), h42))))))
noncomputable def T10 (S : Sg) : Sg := tabC 0 (uV fun r0 => uI fun r1 => uI fun r2 => uN fun h => P10x0 S r0 r1 r2 h) (tabN)
noncomputable def F10 (args : List Value) (h : Hp) : CRes := packVals [Kd.v, Kd.i .i64, Kd.i .i64] args fun al => rec' T10 1000000 0 al h
def nt10 : Nat := 3 + (60 - 3)
theorem q10x0 (S : Sg) (r0 : Value) (r1 : Int) (r2 : Int) (h : Hp) : P10x0 S r0 r1 r2 h = stepAt (regK env orc30 (nt10)) (finK env Try.f10.results.toList) (collect B10 A10 []) 0 S (AL.v r0 (AL.i r1 (AL.i r2 AL.n))) h := by kernel_rfl
theorem t10 (S : Sg) : Tab (fun l vs h => stepAt (regK env orc30 nt10) (finK env Try.f10.results.toList) (collect B10 A10 []) l S vs h) (T10 S) := by
  unfold T10
  refine Tab.cons 0 (fun vs0 h q e0 => ?_) ?_
  · obtain ⟨r0, vs1, rfl, e1⟩ := uV_some e0
    obtain ⟨r1, vs2, rfl, e2⟩ := uI_some e1
    obtain ⟨r2, vs3, rfl, e3⟩ := uI_some e2
    obtain ⟨rfl, ee⟩ := uN_some e3
    exact (q10x0 S r0 r1 r2 h).symm.trans ee
  exact Tab.nil
theorem r10 : ∀ args h v h', F10 args h = some (v, h') → Runs (C30) (.call 10 args.toArray h) (.ret v h') := by
  intro args h v h' e
  exact fun_sound (C := C30) (fn := Try.f10) (body := B10) (np := 3) (A := A10) (T := T10) (kinds := [Kd.v, Kd.i .i64, Kd.i .i64]) (by kernel_rfl) (by kernel_rfl) (by kernel_rfl) (by kernel_rfl) (regK_ok env_ok) (by kernel_rfl) (fun S => t10 S) e
noncomputable def orc31 := orcQ 10 F10 orc30
noncomputable def C31 : Cfg := cfg orc31
theorem ok31 : C31.Ok := orcQ_ok (C := C30) ok30 r10
noncomputable def B12 : Code := (Try.f12.body).getD .skip
def A12 : Ann := (Ann.node (some (0, [(0, Kd.v), (1, Kd.i .i64), (2, Kd.i .i64)])) bl (bn bl (bn (bn (bn bl (bn (bn bl bl) (bn (bn bl (bn bl bl)) (Ann.node (some (1, [(1, Kd.i .i64), (2, Kd.i .i64), (8, Kd.v), (19, Kd.b)])) (bn bl bl) (bn bl (bn (bn bl bl) (bn bl (bn (bn bl bl) bl)))))))) bl) (Ann.node (some (2, [(1, Kd.i .i64), (2, Kd.i .i64), (8, Kd.v)])) bl bl))))
noncomputable def P12x2 (S : Sg) (r1 : Int) (r2 : Int) (r8 : Value) (h : Hp) : CRes :=
  ptrAddK 0 r8 fun v0 =>
  ptrAddK 0 v0 fun v1 =>
  load1K h v1 fun v2 =>
  idxSK 8 v2 r1 fun v3 =>
  loadNK 8 h v3 fun v4 =>
  ptrAddK 0 r8 fun v5 =>
  ptrAddK 1 v5 fun v6 =>
  load1K h v6 fun v7 =>
  idxSK 4 v7 r2 fun v8 =>
  loadNK 4 h v8 fun v9 =>
  pairK (optK (F45 [v4, v9] h) fun v => some (v, h)) fun v10 h10 =>
  intK .i64 v10 fun i11 =>
  some (Value.tuple (List.toArray [(Value.int .i64 i11), (ki 0)]), h10)
noncomputable def P12x1 (S : Sg) (r1 : Int) (r2 : Int) (r8 : Value) (r19 : Bool) (h : Hp) : CRes :=
  ifB r19
  (some (Value.tuple (List.toArray [(ki 0), (ki 4)]), h))
  (ptrAddK 0 r8 fun v0 =>
  ptrAddK 0 v0 fun v1 =>
  load1K h v1 fun v2 =>
  idxSK 8 v2 r1 fun v3 =>
  ptrAddK 2 v3 fun v4 =>
  load1K h v4 fun v5 =>
  boolK v5 fun b6 =>
  boolN b6 fun b7 =>
  ifB b7
  (some (Value.tuple (List.toArray [(ki 0), (ki 2)]), h))
  (ptrAddK 0 r8 fun v8 =>
  ptrAddK 1 v8 fun v9 =>
  load1K h v9 fun v10 =>
  idxSK 4 v10 r2 fun v11 =>
  ptrAddK 2 v11 fun v12 =>
  load1K h v12 fun v13 =>
  intK .i64 v13 fun i14 =>
  ptrAddK 0 r8 fun v15 =>
  ptrAddK 0 v15 fun v16 =>
  load1K h v16 fun v17 =>
  idxSK 8 v17 r1 fun v18 =>
  ptrAddK 7 v18 fun v19 =>
  load1K h v19 fun v20 =>
  intK .i64 v20 fun i21 =>
  boolZ (ltZ i21 i14) fun b22 =>
  ifB b22
  (some (Value.tuple (List.toArray [(ki 0), (ki 9)]), h))
  (S 2 (AL.i r1 (AL.i r2 (AL.v r8 AL.n))) h)))
noncomputable def P12x0 (S : Sg) (r0 : Value) (r1 : Int) (r2 : Int) (h : Hp) : CRes :=
  allocK h 26 (Array.toList (Value.cells r0)) fun a0 h0 =>
  loadNK 4 h0 a0 fun v1 =>
  pairK (callQ F40 [v1] h0) fun v2 h2 =>
  extK v2 0 fun v3 =>
  extK v2 1 fun v4 =>
  intK .i64 v4 fun i5 =>
  allocK h2 85 [(Value.slice none 0 0), (Value.slice none 0 0), (ki 0), (Value.slice none 0 0), (Value.bool false), (ki 0), Value.nilFunc, Value.nilFunc, (Value.bool false), (ki 0), Value.nilFunc, Value.nilFunc, (Value.bool false), (ki 0), Value.nilFunc, Value.nilFunc] fun a6 h6 =>
  storeNK 16 h6 a6 v3 fun h7 =>
  boolN (eqZ i5 (Int.ofNat 0)) fun b8 =>
  ifB b8
  (some (Value.tuple (List.toArray [(ki 0), (Value.int .i64 i5)]), h7))
  (ptrAddK 0 a6 fun v9 =>
  ptrAddK 0 v9 fun v10 =>
  load1K h7 v10 fun v11 =>
  lenSK v11 fun i12 =>
  pairK (buildSliceV env h7 34 1 (List.toArray [(0, (Value.int .i64 r1))])) fun v13 h13 =>
  pairK (optK (F41 [(Value.int .i64 i12), v13] h13) fun v => some (v, h13)) fun v14 h14 =>
  boolK v14 fun b15 =>
  boolN b15 fun b16 =>
  ifB b16
  (S 1 (AL.i r1 (AL.i r2 (AL.v a6 (AL.b b16 AL.n)))) h14)
  (ptrAddK 0 a6 fun v17 =>
  ptrAddK 1 v17 fun v18 =>
  load1K h14 v18 fun v19 =>
  lenSK v19 fun i20 =>
  pairK (buildSliceV env h14 34 1 (List.toArray [(0, (Value.int .i64 r2))])) fun v21 h21 =>
  pairK (optK (F41 [(Value.int .i64 i20), v21] h21) fun v => some (v, h21)) fun v22 h22 =>
  boolK v22 fun b23 =>
  boolN b23 fun b24 =>
  S 1 (AL.i r1 (AL.i r2 (AL.v a6 (AL.b b24 AL.n)))) h22))
noncomputable def T12 (S : Sg) : Sg := tabC 0 (uV fun r0 => uI fun r1 => uI fun r2 => uN fun h => P12x0 S r0 r1 r2 h) (tabC 1 (uI fun r1 => uI fun r2 => uV fun r8 => uB fun r19 => uN fun h => P12x1 S r1 r2 r8 r19 h) (tabC 2 (uI fun r1 => uI fun r2 => uV fun r8 => uN fun h => P12x2 S r1 r2 r8 h) (tabN)))
noncomputable def F12 (args : List Value) (h : Hp) : CRes := packVals [Kd.v, Kd.i .i64, Kd.i .i64] args fun al => rec' T12 1000000 0 al h
def nt12 : Nat := 3 + (74 - 3)
theorem q12x2 (S : Sg) (r1 : Int) (r2 : Int) (r8 : Value) (h : Hp) : P12x2 S r1 r2 r8 h = stepAt (regK env orc31 (nt12)) (finK env Try.f12.results.toList) (collect B12 A12 []) 2 S (AL.i r1 (AL.i r2 (AL.v r8 AL.n))) h := by kernel_rfl
theorem q12x1 (S : Sg) (r1 : Int) (r2 : Int) (r8 : Value) (r19 : Bool) (h : Hp) : P12x1 S r1 r2 r8 r19 h = stepAt (regK env orc31 (nt12)) (finK env Try.f12.results.toList) (collect B12 A12 []) 1 S (AL.i r1 (AL.i r2 (AL.v r8 (AL.b r19 AL.n)))) h := by kernel_rfl
theorem q12x0 (S : Sg) (r0 : Value) (r1 : Int) (r2 : Int) (h : Hp) : P12x0 S r0 r1 r2 h = stepAt (regK env orc31 (nt12)) (finK env Try.f12.results.toList) (collect B12 A12 []) 0 S (AL.v r0 (AL.i r1 (AL.i r2 AL.n))) h := by kernel_rfl
theorem t12 (S : Sg) : Tab (fun l vs h => stepAt (regK env orc31 nt12) (finK env Try.f12.results.toList) (collect B12 A12 []) l S vs h) (T12 S) := by
  unfold T12
  refine Tab.cons 0 (fun vs0 h q e0 => ?_) ?_
  · obtain ⟨r0, vs1, rfl, e1⟩ := uV_some e0
    obtain ⟨r1, vs2, rfl, e2⟩ := uI_some e1
    obtain ⟨r2, vs3, rfl, e3⟩ := uI_some e2
    obtain ⟨rfl, ee⟩ := uN_some e3
    exact (q12x0 S r0 r1 r2 h).symm.trans ee
  refine Tab.cons 1 (fun vs0 h q e0 => ?_) ?_
  · obtain ⟨r1, vs1, rfl, e1⟩ := uI_some e0
    obtain ⟨r2, vs2, rfl, e2⟩ := uI_some e1
    obtain ⟨r8, vs3, rfl, e3⟩ := uV_some e2
    obtain ⟨r19, vs4, rfl, e4⟩ := uB_some e3
    obtain ⟨rfl, ee⟩ := uN_some e4
    exact (q12x1 S r1 r2 r8 r19 h).symm.trans ee
  refine Tab.cons 2 (fun vs0 h q e0 => ?_) ?_
  · obtain ⟨r1, vs1, rfl, e1⟩ := uI_some e0
    obtain ⟨r2, vs2, rfl, e2⟩ := uI_some e1
    obtain ⟨r8, vs3, rfl, e3⟩ := uV_some e2
    obtain ⟨rfl, ee⟩ := uN_some e3
    exact (q12x2 S r1 r2 r8 h).symm.trans ee
  exact Tab.nil
theorem r12 : ∀ args h v h', F12 args h = some (v, h') → Runs (C31) (.call 12 args.toArray h) (.ret v h') := by
  intro args h v h' e
  exact fun_sound (C := C31) (fn := Try.f12) (body := B12) (np := 3) (A := A12) (T := T12) (kinds := [Kd.v, Kd.i .i64, Kd.i .i64]) (by kernel_rfl) (by kernel_rfl) (by kernel_rfl) (by kernel_rfl) (regK_ok env_ok) (by kernel_rfl) (fun S => t12 S) e
noncomputable def orc32 := orcQ 12 F12 orc31
noncomputable def C32 : Cfg := cfg orc32
theorem ok32 : C32.Ok := orcQ_ok (C := C31) ok31 r12
noncomputable def B103 : Code := (Try.f103.body).getD .skip
noncomputable def A103 : G.Ann (List KI) := (G.Ann.node (some (0, [KI.reg 0 (Kd.v), KI.reg 1 (Kd.v)])) al (an al al))
noncomputable def P103x0 (h : Hp) (S : Nat → PAL → Option Value) (r0 : Value) (r1 : Value) : Option Value :=
  forceL (Array.toList (Value.cells r0)) fun c0 =>
  nthR c0 0 fun v1 =>
  intK .i64 v1 fun i2 =>
  load1K h r1 fun v3 =>
  intK .i64 v3 fun i4 =>
  boolZ (eqZ i2 i4) fun b5 =>
  some (Value.bool b5)
noncomputable def T103 (h : Hp) (S : Nat → PAL → Option Value) : Nat → PAL → Option Value := tabPC 0 (wV fun r0 => wV fun r1 => wN (P103x0 h S r0 r1)) (tabPN)
noncomputable def F103 (args : List Value) (h : Hp) : Option Value := plainO (packArgs [Kd.v, Kd.v] args fun al => G.rec' (T103 h) 1000000 0 al)
def nt103 : Nat := 2 + (8 - 2)
theorem q103x0 (h : Hp) (S : Nat → PAL → Option Value) (r0 : Value) (r1 : Value) : P103x0 h S r0 r1 = G.stepAt packP unpackP evXV (regP env pf15 nt103 h) (finP env Try.f103.results.toList) (G.collect B103 A103 []) 0 S (PAL.v r0 (PAL.v r1 PAL.n)) := by kernel_rfl
theorem t103 (h : Hp) (S : Nat → PAL → Option Value) : TabP (fun l al => G.stepAt packP unpackP evXV (regP env pf15 nt103 h) (finP env Try.f103.results.toList) (G.collect B103 A103 []) l S al) (T103 h S) := by
  unfold T103
  refine TabP.cons 0 (fun vs0 q e0 => ?_) ?_
  · obtain ⟨r0, vs1, rfl, e1⟩ := wV_some e0
    obtain ⟨r1, vs2, rfl, e2⟩ := wV_some e1
    obtain ⟨rfl, ee⟩ := wN_some e2
    exact (q103x0 h S r0 r1).symm.trans ee
  exact TabP.nil
theorem r103 : PSound Try.prog 103 F103 := fun_soundP (C := C0) ok0 (pf := pf15) pfok15 (fn := Try.f103) (body := B103) (kinds := [Kd.v, Kd.v]) (A := A103) (T := T103) (by kernel_rfl) (by kernel_rfl) (by kernel_rfl) (by kernel_rfl) (fun h S => t103 h S)
noncomputable def pf16 : PF := pfC 103 F103 pf15
theorem pfok16 : PfSound Try.prog pf16 := pfC_ok r103 pfok15
noncomputable def orc33 := orcP 103 F103 orc32
noncomputable def C33 : Cfg := cfg orc33
theorem ok33 : C33.Ok := orcP_ok (C := C32) ok32 r103
noncomputable def B109 : Code := (Try.f109.body).getD .skip
def A109 : Ann := (Ann.node (some (0, [(0, Kd.v), (1, Kd.v)])) bl (bn (bn bl (bn (Ann.node (some (1, [(0, Kd.v), (1, Kd.v), (7, Kd.i .i64), (8, Kd.i .i64)])) (bn bl (bn (bn bl bl) (bn (bn (bn bl (bn bl (bn (bn bl bl) bl))) bl) bl))) bl) bl)) (Ann.node (some (2, [])) bl bl)))
noncomputable def P109x2 (S : Sg) (h : Hp) : CRes :=
  some ((Value.int .i64 (Int.negSucc 0)), h)
noncomputable def P109x1 (S : Sg) (r0 : Value) (r1 : Value) (r7 : Int) (r8 : Int) (h : Hp) : CRes :=
  boolZ (ltZ r8 r7) fun b0 =>
  ifB b0
  (idxSK 2 r0 r8 fun v1 =>
  loadNK 2 h v1 fun v2 =>
  pairK (callF orc33 r1 [v2] h) fun v3 h3 =>
  boolK v3 fun b4 =>
  ifB b4
  (some ((Value.int .i64 r8), h3))
  (wrap64 (Int.add r8 (Int.ofNat 1)) fun i5 =>
  S 1 (AL.v r0 (AL.v r1 (AL.i r7 (AL.i i5 AL.n)))) h3))
  (S 2 AL.n h)
noncomputable def P109x0 (S : Sg) (r0 : Value) (r1 : Value) (h : Hp) : CRes :=
  lenSK r0 fun i0 =>
  S 1 (AL.v r0 (AL.v r1 (AL.i i0 (AL.i (Int.ofNat 0) AL.n)))) h
noncomputable def T109 (S : Sg) : Sg := tabC 0 (uV fun r0 => uV fun r1 => uN fun h => P109x0 S r0 r1 h) (tabC 1 (uV fun r0 => uV fun r1 => uI fun r7 => uI fun r8 => uN fun h => P109x1 S r0 r1 r7 r8 h) (tabC 2 (uN fun h => P109x2 S  h) (tabN)))
noncomputable def F109 (args : List Value) (h : Hp) : CRes := packVals [Kd.v, Kd.v] args fun al => rec' T109 1000000 0 al h
def nt109 : Nat := 2 + (19 - 2)
theorem q109x2 (S : Sg) (h : Hp) : P109x2 S  h = stepAt (regK env orc33 (nt109)) (finK env Try.f109.results.toList) (collect B109 A109 []) 2 S AL.n h := by kernel_rfl
theorem q109x1 (S : Sg) (r0 : Value) (r1 : Value) (r7 : Int) (r8 : Int) (h : Hp) : P109x1 S r0 r1 r7 r8 h = stepAt (regK env orc33 (nt109)) (finK env Try.f109.results.toList) (collect B109 A109 []) 1 S (AL.v r0 (AL.v r1 (AL.i r7 (AL.i r8 AL.n)))) h := by kernel_rfl
theorem q109x0 (S : Sg) (r0 : Value) (r1 : Value) (h : Hp) : P109x0 S r0 r1 h = stepAt (regK env orc33 (nt109)) (finK env Try.f109.results.toList) (collect B109 A109 []) 0 S (AL.v r0 (AL.v r1 AL.n)) h := by kernel_rfl
theorem t109 (S : Sg) : Tab (fun l vs h => stepAt (regK env orc33 nt109) (finK env Try.f109.results.toList) (collect B109 A109 []) l S vs h) (T109 S) := by
  unfold T109
  refine Tab.cons 0 (fun vs0 h q e0 => ?_) ?_
  · obtain ⟨r0, vs1, rfl, e1⟩ := uV_some e0
    obtain ⟨r1, vs2, rfl, e2⟩ := uV_some e1
    obtain ⟨rfl, ee⟩ := uN_some e2
    exact (q109x0 S r0 r1 h).symm.trans ee
  refine Tab.cons 1 (fun vs0 h q e0 => ?_) ?_
  · obtain ⟨r0, vs1, rfl, e1⟩ := uV_some e0
    obtain ⟨r1, vs2, rfl, e2⟩ := uV_some e1
    obtain ⟨r7, vs3, rfl, e3⟩ := uI_some e2
    obtain ⟨r8, vs4, rfl, e4⟩ := uI_some e3
    obtain ⟨rfl, ee⟩ := uN_some e4
    exact (q109x1 S r0 r1 r7 r8 h).symm.trans ee
  refine Tab.cons 2 (fun vs0 h q e0 => ?_) ?_
  · 
    obtain ⟨rfl, ee⟩ := uN_some e0
    exact (q109x2 S  h).symm.trans ee
  exact Tab.nil
theorem r109 : ∀ args h v h', F109 args h = some (v, h') → Runs (C33) (.call 109 args.toArray h) (.ret v h') := by
  intro args h v h' e
  exact fun_sound (C := C33) (fn := Try.f109) (body := B109) (np := 2) (A := A109) (T := T109) (kinds := [Kd.v, Kd.v]) (by kernel_rfl) (by kernel_rfl) (by kernel_rfl) (by kernel_rfl) (regK_ok env_ok) (by kernel_rfl) (fun S => t109 S) e
noncomputable def orc34 := orcQ 109 F109 orc33
noncomputable def C34 : Cfg := cfg orc34
theorem ok34 : C34.Ok := orcQ_ok (C := C33) ok33 r109
noncomputable def B102 : Code := (Try.f102.body).getD .skip
def A102 : Ann := (Ann.node (some (0, [(0, Kd.v), (1, Kd.v)])) bl (bn bl bl))
noncomputable def P102x0 (S : Sg) (r0 : Value) (r1 : Value) (h : Hp) : CRes :=
  pairK (callQ F109 [r0, r1] h) fun v0 h0 =>
  intK .i64 v0 fun i1 =>
  boolN (ltZ i1 (Int.ofNat 0)) fun b2 =>
  some ((Value.bool b2), h0)
noncomputable def T102 (S : Sg) : Sg := tabC 0 (uV fun r0 => uV fun r1 => uN fun h => P102x0 S r0 r1 h) (tabN)
noncomputable def F102 (args : List Value) (h : Hp) : CRes := packVals [Kd.v, Kd.v] args fun al => rec' T102 1000000 0 al h
def nt102 : Nat := 2 + (9 - 2)
theorem q102x0 (S : Sg) (r0 : Value) (r1 : Value) (h : Hp) : P102x0 S r0 r1 h = stepAt (regK env orc34 (nt102)) (finK env Try.f102.results.toList) (collect B102 A102 []) 0 S (AL.v r0 (AL.v r1 AL.n)) h := by kernel_rfl
theorem t102 (S : Sg) : Tab (fun l vs h => stepAt (regK env orc34 nt102) (finK env Try.f102.results.toList) (collect B102 A102 []) l S vs h) (T102 S) := by
  unfold T102
  refine Tab.cons 0 (fun vs0 h q e0 => ?_) ?_
  · obtain ⟨r0, vs1, rfl, e1⟩ := uV_some e0
    obtain ⟨r1, vs2, rfl, e2⟩ := uV_some e1
    obtain ⟨rfl, ee⟩ := uN_some e2
    exact (q102x0 S r0 r1 h).symm.trans ee
  exact Tab.nil
theorem r102 : ∀ args h v h', F102 args h = some (v, h') → Runs (C34) (.call 102 args.toArray h) (.ret v h') := by
  intro args h v h' e
  exact fun_sound (C := C34) (fn := Try.f102) (body := B102) (np := 2) (A := A102) (T := T102) (kinds := [Kd.v, Kd.v]) (by kernel_rfl) (by kernel_rfl) (by kernel_rfl) (by kernel_rfl) (regK_ok env_ok) (by kernel_rfl) (fun S => t102 S) e
noncomputable def orc35 := orcQ 102 F102 orc34
noncomputable def C35 : Cfg := cfg orc35
theorem ok35 : C35.Ok := orcQ_ok (C := C34) ok34 r102
noncomputable def B74 : Code := (Try.f74.body).getD .skip
def A74 : Ann := (Ann.node (some (0, [(0, Kd.v), (1, Kd.i .i64)])) bl (bn bl bl))
noncomputable def P74x0 (S : Sg) (r0 : Value) (r1 : Int) (h : Hp) : CRes :=
  allocK h 85 (Array.toList (Value.cells r0)) fun a0 h0 =>
  allocK h0 3 [(Value.int .i64 r1)] fun a1 h1 =>
  load1K h1 a1 fun v2 =>
  intK .i64 v2 fun i3 =>
  boolZ (eqZ i3 (Int.ofNat 0)) fun b4 =>
  ifB b4
  (some ((Value.bool true), h1))
  (ptrAddK 0 a0 fun v5 =>
  ptrAddK 3 v5 fun v6 =>
  load1K h1 v6 fun v7 =>
  pairK (callQ F102 [v7, (Value.func (.func 103) (List.toArray []) (List.toArray [a1]))] h1) fun v8 h8 =>
  boolK v8 fun b9 =>
  some ((Value.bool b9), h8))
noncomputable def T74 (S : Sg) : Sg := tabC 0 (uV fun r0 => uI fun r1 => uN fun h => P74x0 S r0 r1 h) (tabN)
noncomputable def F74 (args : List Value) (h : Hp) : CRes := packVals [Kd.v, Kd.i .i64] args fun al => rec' T74 1000000 0 al h
def nt74 : Nat := 2 + (14 - 2)
theorem q74x0 (S : Sg) (r0 : Value) (r1 : Int) (h : Hp) : P74x0 S r0 r1 h = stepAt (regK env orc35 (nt74)) (finK env Try.f74.results.toList) (collect B74 A74 []) 0 S (AL.v r0 (AL.i r1 AL.n)) h := by kernel_rfl
theorem t74 (S : Sg) : Tab (fun l vs h => stepAt (regK env orc35 nt74) (finK env Try.f74.results.toList) (collect B74 A74 []) l S vs h) (T74 S) := by
  unfold T74
  refine Tab.cons 0 (fun vs0 h q e0 => ?_) ?_
  · obtain ⟨r0, vs1, rfl, e1⟩ := uV_some e0
    obtain ⟨r1, vs2, rfl, e2⟩ := uI_some e1
    obtain ⟨rfl, ee⟩ := uN_some e2
    exact (q74x0 S r0 r1 h).symm.trans ee
  exact Tab.nil
theorem r74 : ∀ args h v h', F74 args h = some (v, h') → Runs (C35) (.call 74 args.toArray h) (.ret v h') := by
  intro args h v h' e
  exact fun_sound (C := C35) (fn := Try.f74) (body := B74) (np := 2) (A := A74) (T := T74) (kinds := [Kd.v, Kd.i .i64]) (by kernel_rfl) (by kernel_rfl) (by kernel_rfl) (by kernel_rfl) (regK_ok env_ok) (by kernel_rfl) (fun S => t74 S) e
noncomputable def orc36 := orcQ 74 F74 orc35
noncomputable def C36 : Cfg := cfg orc36
theorem ok36 : C36.Ok := orcQ_ok (C := C35) ok35 r74
noncomputable def B48 : Code := (Try.f48.body).getD .skip
noncomputable def A48 : G.Ann (List KI) := (G.Ann.node (some (0, [])) al (an al al))
noncomputable def P48x0 (h : Hp) (S : Nat → PAL → Option Value) : Option Value :=
  optK (buildV env 48 (List.toArray [(0, (Value.int .i64 (Int.negSucc 0)))])) fun v0 =>
  aggK v0 fun l1 => ifB (Nat.beq (lenR l1) 3) (segR 0 l1 [(ki 0), (ki 0), (ki 0)] fun c1 =>
  dropR c1 0 fun d2 => takeR d2 3 fun l2 => some (Value.agg (Array.mk l2))) none
noncomputable def T48 (h : Hp) (S : Nat → PAL → Option Value) : Nat → PAL → Option Value := tabPC 0 (wN (P48x0 h S)) (tabPN)
noncomputable def F48 (args : List Value) (h : Hp) : Option Value := plainO (packArgs [] args fun al => G.rec' (T48 h) 1000000 0 al)
def nt48 : Nat := 0 + (2 - 0)
theorem q48x0 (h : Hp) (S : Nat → PAL → Option Value) : P48x0 h S = G.stepAt packP unpackP evXV (regP env pf16 nt48 h) (finP env Try.f48.results.toList) (G.collect B48 A48 []) 0 S PAL.n := by kernel_rfl
theorem t48 (h : Hp) (S : Nat → PAL → Option Value) : TabP (fun l al => G.stepAt packP unpackP evXV (regP env pf16 nt48 h) (finP env Try.f48.results.toList) (G.collect B48 A48 []) l S al) (T48 h S) := by
  unfold T48
  refine TabP.cons 0 (fun vs0 q e0 => ?_) ?_
  · 
    obtain ⟨rfl, ee⟩ := wN_some e0
    exact (q48x0 h S).symm.trans ee
  exact TabP.nil
theorem r48 : PSound Try.prog 48 F48 := fun_soundP (C := C0) ok0 (pf := pf16) pfok16 (fn := Try.f48) (body := B48) (kinds := []) (A := A48) (T := T48) (by kernel_rfl) (by kernel_rfl) (by kernel_rfl) (by kernel_rfl) (fun h S => t48 h S)
noncomputable def pf17 : PF := pfC 48 F48 pf16
theorem pfok17 : PfSound Try.prog pf17 := pfC_ok r48 pfok16
noncomputable def orc37 := orcP 48 F48 orc36
noncomputable def C37 : Cfg := cfg orc37
theorem ok37 : C37.Ok := orcP_ok (C := C36) ok36 r48
noncomputable def B75 : Code := (Try.f75.body).getD .skip
def A75 : Ann := (Ann.node (some (0, [(0, Kd.v), (1, Kd.i .i64), (2, Kd.v)])) bl (bn (bn bl (bn (bn bl bl) bl)) (bn (bn bl (bn (bn bl bl) bl)) (Ann.node (some (3, [(1, Kd.i .i64), (3, Kd.v), (5, Kd.v)])) bl (bn (bn (bn (bn bl (bn bl bl)) (Ann.node (some (1, [(5, Kd.v), (7, Kd.v), (8, Kd.v), (9, Kd.v), (41, Kd.b)])) (bn bl bl) (bn (bn bl (bn bl bl)) (bn (bn bl bl) bl)))) bl) (Ann.node (some (2, [])) bl bl))))))
noncomputable def P75x2 (S : Sg) (h : Hp) : CRes :=
  some ((ki 0), h)
noncomputable def P75x1 (S : Sg) (r5 : Value) (r7 : Value) (r8 : Value) (r9 : Value) (r41 : Bool) (h : Hp) : CRes :=
  ifB r41
  (some ((ki 2), h))
  (ptrAddK 3 r9 fun v0 =>
  load1K h v0 fun v1 =>
  intK .i64 v1 fun i2 =>
  ptrAddK 1 r8 fun v3 =>
  load1K h v3 fun v4 =>
  intK .i64 v4 fun i5 =>
  slowI .i64 (binW env .andNot 3 (Value.int .i64 i2) (Value.int .i64 i5)) fun i6 =>
  boolN (eqZ i6 (Int.ofNat 0)) fun b7 =>
  ifB b7
  (ifB b7
  (some ((ki 9), h))
  (S 2 AL.n h))
  (ptrAddK 2 r7 fun v8 =>
  load1K h v8 fun v9 =>
  loadNK 8 h r8 fun v10 =>
  loadNK 4 h r9 fun v11 =>
  ptrAddK 2 r5 fun v12 =>
  load1K h v12 fun v13 =>
  intK .i64 v13 fun i14 =>
  pairK (callF orc37 v9 [v10, v11, (Value.int .i64 i14)] h) fun v15 h15 =>
  boolK v15 fun b16 =>
  boolN b16 fun b17 =>
  ifB b17
  (some ((ki 9), h15))
  (S 2 AL.n h15)))
noncomputable def P75x3 (S : Sg) (r1 : Int) (r3 : Value) (r5 : Value) (h : Hp) : CRes :=
  ptrAddK 1 r5 fun v0 =>
  leftK v0 (Hp.next h) (Hp.mk (Hp.next h) (Hp.next h) T.nil) fun w1 n1 =>
  load1K (Hp.mk n1 n1 (addAll w1 (Hp.objs h))) v0 fun v2 =>
  intK .i64 v2 fun i3 =>
  ptrAddK 4 r3 fun v4 =>
  leftK v4 n1 (Hp.mk n1 n1 T.nil) fun w5 n5 =>
  idxAK 3 4 v4 i3 fun v6 =>
  leftK v6 n5 (Hp.mk n5 n5 T.nil) fun w7 n7 =>
  loadNK 4 (Hp.mk n7 n7 (addAll w7 (addAll w5 (addAll w1 (Hp.objs h))))) v6 fun v8 =>
  leftK v8 n7 (Hp.mk n7 n7 (addAll w7 (addAll w5 (addAll w1 (Hp.objs h))))) fun w9 n9 =>
  ptrAddK 0 r3 fun v10 =>
  leftK v10 n9 (Hp.mk n9 n9 T.nil) fun w11 n11 =>
  ptrAddK 0 v10 fun v12 =>
  leftK v12 n11 (Hp.mk n11 n11 T.nil) fun w13 n13 =>
  load1K (Hp.mk n13 n13 (addAll w13 (addAll w11 (Hp.objs h)))) v12 fun v14 =>
  leftK v14 n13 (Hp.mk n13 n13 (addAll w13 (addAll w11 (Hp.objs h)))) fun w15 n15 =>
  ptrAddK 0 r5 fun v16 =>
  leftK v16 n15 (Hp.mk n15 n15 T.nil) fun w17 n17 =>
  load1K (Hp.mk n17 n17 (addAll w17 (Hp.objs h))) v16 fun v18 =>
  intK .i64 v18 fun i19 =>
  idxSK 8 v14 i19 fun v20 =>
  leftK v20 n17 (Hp.mk n17 n17 T.nil) fun w21 n21 =>
  loadNK 8 (Hp.mk n21 n21 (addAll w21 (addAll w17 (addAll w15 (addAll w13 (addAll w11 (Hp.objs h))))))) v20 fun v22 =>
  leftK v22 n21 (Hp.mk n21 n21 (addAll w21 (addAll w17 (addAll w15 (addAll w13 (addAll w11 (Hp.objs h))))))) fun w23 n23 =>
  ptrAddK 0 r3 fun v24 =>
  leftK v24 n23 (Hp.mk n23 n23 T.nil) fun w25 n25 =>
  ptrAddK 1 v24 fun v26 =>
  leftK v26 n25 (Hp.mk n25 n25 T.nil) fun w27 n27 =>
  load1K (Hp.mk n27 n27 (addAll w27 (addAll w25 (Hp.objs h)))) v26 fun v28 =>
  leftK v28 n27 (Hp.mk n27 n27 (addAll w27 (addAll w25 (Hp.objs h)))) fun w29 n29 =>
  idxSK 4 v28 r1 fun v30 =>
  leftK v30 n29 (Hp.mk n29 n29 T.nil) fun w31 n31 =>
  loadNK 4 (Hp.mk n31 n31 (addAll w31 (addAll w29 (addAll w27 (addAll w25 (Hp.objs h)))))) v30 fun v32 =>
  leftK v32 n31 (Hp.mk n31 n31 (addAll w31 (addAll w29 (addAll w27 (addAll w25 (Hp.objs h)))))) fun w33 n33 =>
  allocK (Hp.mk n33 n33 T.nil) 82 [(Value.bool false), (ki 0), Value.nilFunc, Value.nilFunc] fun a34 h34 =>
  leftK a34 n33 h34 fun w35 n35 =>
  allocK (Hp.mk n35 n35 T.nil) 54 [(Value.string (ByteArray.mk #[])), (ki 0), (Value.bool false), (ki 0), (ki 0), (ki 0), (ki 0), (ki 0)] fun a36 h36 =>
  leftK a36 n35 h36 fun w37 n37 =>
  allocK (Hp.mk n37 n37 T.nil) 63 [(Value.string (ByteArray.mk #[])), (ki 0), (ki 0), (ki 0)] fun a38 h38 =>
  leftK a38 n37 h38 fun w39 n39 =>
  storeQ env 82 a34 v8 n39 (Hp.next h) (addAll w39 (addAll w37 (addAll w35 (addAll w9 (addAll w7 (addAll w5 (addAll w1 (Hp.objs h)))))))) (fun b => (hasBlk w1 b || (hasBlk [] b || (hasBlk w5 b || (hasBlk w7 b || (hasBlk w9 b || (hasBlk w35 b || (hasBlk w37 b || (hasBlk w39 b || false))))))))) fun w40 =>
  storeQ env 54 a36 v22 n39 (Hp.next h) (addAll w40 (addAll w39 (addAll w37 (addAll w35 (addAll w23 (addAll w21 (addAll w17 (addAll w15 (addAll w13 (addAll w11 (addAll w9 (addAll w7 (addAll w5 (addAll w1 (Hp.objs h))))))))))))))) (fun b => (hasBlk w1 b || (hasBlk [] b || (hasBlk w5 b || (hasBlk w7 b || (hasBlk w9 b || (hasBlk w11 b || (hasBlk w13 b || (hasBlk w15 b || (hasBlk w17 b || (hasBlk [] b || (hasBlk w21 b || (hasBlk w23 b || (hasBlk w35 b || (hasBlk w37 b || (hasBlk w39 b || (hasBlk w40 b || false))))))))))))))))) fun w41 =>
  storeNK 4 (Hp.mk n39 (Hp.ro h) (addAll w41 (addAll w40 (addAll w39 (addAll w37 (addAll w35 (addAll w33 (addAll w31 (addAll w29 (addAll w27 (addAll w25 (addAll w23 (addAll w21 (addAll w17 (addAll w15 (addAll w13 (addAll w11 (addAll w9 (addAll w7 (addAll w5 (addAll w1 (Hp.objs h)))))))))))))))))))))) a38 v32 fun h42 =>
  ptrAddK 0 a34 fun v43 =>
  load1K h42 v43 fun v44 =>
  boolK v44 fun b45 =>
  ptrAddK 2 a36 fun v46 =>
  load1K h42 v46 fun v47 =>
  boolK v47 fun b48 =>
  optK (binV env .neq 4 (Operand.tmp 43) (Operand.tmp 45) (Value.bool b45) (Value.bool b48)) fun v49 =>
  boolK v49 fun b50 =>
  ifB b50
  (S 1 (AL.v r5 (AL.v a34 (AL.v a36 (AL.v a38 (AL.b b50 AL.n))))) h42)
  (ptrAddK 1 a34 fun v51 =>
  load1K h42 v51 fun v52 =>
  intK .i64 v52 fun i53 =>
  ptrAddK 2 r5 fun v54 =>
  load1K h42 v54 fun v55 =>
  intK .i64 v55 fun i56 =>
  pairK (buildSliceV env h42 34 1 (List.toArray [(0, (Value.int .i64 i56))])) fun v57 h57 =>
  pairK (optK (F33 [(ki 0), (Value.int .i64 i53), v57] h57) fun v => some (v, h57)) fun v58 h58 =>
  boolK v58 fun b59 =>
  boolN b59 fun b60 =>
  S 1 (AL.v r5 (AL.v a34 (AL.v a36 (AL.v a38 (AL.b b60 AL.n))))) h58)
noncomputable def P75x0 (S : Sg) (r0 : Value) (r1 : Int) (r2 : Value) (h : Hp) : CRes :=
  allocK h 85 (Array.toList (Value.cells r0)) fun a0 h0 =>
  allocK h0 48 (Array.toList (Value.cells r2)) fun a1 h1 =>
  loadNK 3 h1 a1 fun v2 =>
  pairK (pairK (optK (F48 [] (Hp.mk (Hp.next h1) (Hp.next h1) (Hp.objs h1))) fun v => some (v, (Hp.mk (Hp.next h1) (Hp.next h1) (Hp.objs h1)))) fun v _ => ifB (plainK v) (some (v, h1)) none) fun v3 h3 =>
  optK (binV env .eql 48 (Operand.tmp 10) (Operand.tmp 11) v2 v3) fun v4 =>
  boolK v4 fun b5 =>
  ifB b5
  (some ((ki 0), h3))
  (ptrAddK 0 a1 fun v6 =>
  load1K h3 v6 fun v7 =>
  intK .i64 v7 fun i8 =>
  boolZ (eqZ i8 (Int.negSucc 0)) fun b9 =>
  ifB b9
  (some ((ki 2), h3))
  (ptrAddK 1 a1 fun v10 =>
  load1K h3 v10 fun v11 =>
  intK .i64 v11 fun i12 =>
  pairK (buildSliceV env h3 34 1 (List.toArray [(0, (Value.int .i64 i12))])) fun v13 h13 =>
  pairK (optK (F41 [(ki 3), v13] h13) fun v => some (v, h13)) fun v14 h14 =>
  boolK v14 fun b15 =>
  boolN b15 fun b16 =>
  ifB b16
  (some ((ki 2), h14))
  (S 3 (AL.i r1 (AL.v a0 (AL.v a1 AL.n))) h14)))
noncomputable def T75 (S : Sg) : Sg := tabC 0 (uV fun r0 => uI fun r1 => uV fun r2 => uN fun h => P75x0 S r0 r1 r2 h) (tabC 3 (uI fun r1 => uV fun r3 => uV fun r5 => uN fun h => P75x3 S r1 r3 r5 h) (tabC 1 (uV fun r5 => uV fun r7 => uV fun r8 => uV fun r9 => uB fun r41 => uN fun h => P75x1 S r5 r7 r8 r9 r41 h) (tabC 2 (uN fun h => P75x2 S  h) (tabN))))
noncomputable def F75 (args : List Value) (h : Hp) : CRes := packVals [Kd.v, Kd.i .i64, Kd.v] args fun al => rec' T75 1000000 0 al h
def nt75 : Nat := 3 + (69 - 3)
theorem q75x2 (S : Sg) (h : Hp) : P75x2 S  h = stepAt (regK env orc37 (nt75)) (finK env Try.f75.results.toList) (collect B75 A75 []) 2 S AL.n h := by kernel_rfl
theorem q75x1 (S : Sg) (r5 : Value) (r7 : Value) (r8 : Value) (r9 : Value) (r41 : Bool) (h : Hp) : P75x1 S r5 r7 r8 r9 r41 h = stepAt (regK env orc37 (nt75)) (finK env Try.f75.results.toList) (collect B75 A75 []) 1 S (AL.v r5 (AL.v r7 (AL.v r8 (AL.v r9 (AL.b r41 AL.n))))) h := by kernel_rfl
theorem q75x3 (S : Sg) (r1 : Int) (r3 : Value) (r5 : Value) (h : Hp) : P75x3 S r1 r3 r5 h = stepAt (regK env orc37 (nt75)) (finK env Try.f75.results.toList) (collect B75 A75 []) 3 S (AL.i r1 (AL.v r3 (AL.v r5 AL.n))) h := by kernel_rfl
theorem q75x0 (S : Sg) (r0 : Value) (r1 : Int) (r2 : Value) (h : Hp) : P75x0 S r0 r1 r2 h = stepAt (regK env orc37 (nt75)) (finK env Try.f75.results.toList) (collect B75 A75 []) 0 S (AL.v r0 (AL.i r1 (AL.v r2 AL.n))) h := by kernel_rfl
theorem t75 (S : Sg) : Tab (fun l vs h => stepAt (regK env orc37 nt75) (finK env Try.f75.results.toList) (collect B75 A75 []) l S vs h) (T75 S) := by
  unfold T75
  refine Tab.cons 0 (fun vs0 h q e0 => ?_) ?_
  · obtain ⟨r0, vs1, rfl, e1⟩ := uV_some e0
    obtain ⟨r1, vs2, rfl, e2⟩ := uI_some e1
    obtain ⟨r2, vs3, rfl, e3⟩ := uV_some e2
    obtain ⟨rfl, ee⟩ := uN_some e3
    exact (q75x0 S r0 r1 r2 h).symm.trans ee
  refine Tab.cons 3 (fun vs0 h q e0 => ?_) ?_
  · obtain ⟨r1, vs1, rfl, e1⟩ := uI_some e0
    obtain ⟨r3, vs2, rfl, e2⟩ := uV_some e1
    obtain ⟨r5, vs3, rfl, e3⟩ := uV_some e2
    obtain ⟨rfl, ee⟩ := uN_some e3
    exact (q75x3 S r1 r3 r5 h).symm.trans ee
  refine Tab.cons 1 (fun vs0 h q e0 => ?_) ?_
  · obtain ⟨r5, vs1, rfl, e1⟩ := uV_some e0
    obtain ⟨r7, vs2, rfl, e2⟩ := uV_some e1
    obtain ⟨r8, vs3, rfl, e3⟩ := uV_some e2
    obtain ⟨r9, vs4, rfl, e4⟩ := uV_some e3
    obtain ⟨r41, vs5, rfl, e5⟩ := uB_some e4
    obtain ⟨rfl, ee⟩ := uN_some e5
    exact (q75x1 S r5 r7 r8 r9 r41 h).symm.trans ee
  refine Tab.cons 2 (fun vs0 h q e0 => ?_) ?_
  · 
    obtain ⟨rfl, ee⟩ := uN_some e0
    exact (q75x2 S  h).symm.trans ee
  exact Tab.nil
theorem r75 : ∀ args h v h', F75 args h = some (v, h') → Runs (C37) (.call 75 args.toArray h) (.ret v h') := by
  intro args h v h' e
  exact fun_sound (C := C37) (fn := Try.f75) (body := B75) (np := 3) (A := A75) (T := T75) (kinds := [Kd.v, Kd.i .i64, Kd.v]) (by kernel_rfl) (by kernel_rfl) (by kernel_rfl) (by kernel_rfl) (regK_ok env_ok) (by kernel_rfl) (fun S => t75 S) e
noncomputable def orc38 := orcQ 75 F75 orc37
noncomputable def C38 : Cfg := cfg orc38
theorem ok38 : C38.Ok := orcQ_ok (C := C37) ok37 r75
noncomputable def B47 : Code := (Try.f47.body).getD .skip
def A47 : Ann := (Ann.node (some (0, [(0, Kd.v), (1, Kd.i .i64)])) bl (bn bl (bn (bn bl (bn (Ann.node (some (1, [(1, Kd.i .i64), (2, Kd.v), (5, Kd.v), (14, Kd.i .i64), (15, Kd.i .i64)])) (bn bl (bn (bn bl bl) (bn (bn (bn bl (bn bl (bn (Ann.node (some (2, [(1, Kd.i .i64), (2, Kd.v), (5, Kd.v), (6, Kd.i .i64), (14, Kd.i .i64), (15, Kd.i .i64), (19, Kd.v), (20, Kd.i .i64)])) (bn bl (bn (bn bl bl) (bn (bn (bn bl (bn bl (bn (Ann.node (some (3, [(1, Kd.i .i64), (2, Kd.v), (5, Kd.v), (6, Kd.i .i64), (7, Kd.i .i64), (14, Kd.i .i64), (15, Kd.i .i64), (19, Kd.v), (20, Kd.i .i64), (26, Kd.i .i64), (27, Kd.i .i64)])) (bn bl (bn (bn bl bl) (bn (bn (bn bl (bn bl (bn bl (bn bl bl)))) bl) bl))) bl) bl))) bl) (Ann.node (some (4, [(1, Kd.i .i64), (2, Kd.v), (5, Kd.v), (6, Kd.i .i64), (14, Kd.i .i64), (15, Kd.i .i64), (19, Kd.v), (20, Kd.i .i64)])) bl bl)))) bl) bl))) bl) (Ann.node (some (5, [(1, Kd.i .i64), (2, Kd.v), (5, Kd.v), (14, Kd.i .i64), (15, Kd.i .i64)])) bl bl)))) bl) bl)) (Ann.node (some (6, [(5, Kd.v)])) bl bl))))
noncomputable def P47x6 (S : Sg) (r5 : Value) (h : Hp) : CRes :=
  pairK (optK (F48 [] h) fun v => some (v, h)) fun v0 h0 =>
  pairK (buildSliceV env h0 42 1 (List.toArray [(0, v0)])) fun v1 h1 =>
  pairK (appendV env h1 #[42, 42] (List.toArray [r5, v1])) fun v2 h2 =>
  some (v2, h2)
noncomputable def P47x5 (S : Sg) (r1 : Int) (r2 : Value) (r5 : Value) (r14 : Int) (r15 : Int) (h : Hp) : CRes :=
  wrap64 (Int.add r15 (Int.ofNat 1)) fun i0 =>
  S 1 (AL.i r1 (AL.v r2 (AL.v r5 (AL.i r14 (AL.i i0 AL.n))))) h
noncomputable def P47x4 (S : Sg) (r1 : Int) (r2 : Value) (r5 : Value) (r6 : Int) (r14 : Int) (r15 : Int) (r19 : Value) (r20 : Int) (h : Hp) : CRes :=
  wrap64 (Int.add r20 (Int.ofNat 1)) fun i0 =>
  S 2 (AL.i r1 (AL.v r2 (AL.v r5 (AL.i r6 (AL.i r14 (AL.i r15 (AL.v r19 (AL.i i0 AL.n)))))))) h
noncomputable def P47x3 (S : Sg) (r1 : Int) (r2 : Value) (r5 : Value) (r6 : Int) (r7 : Int) (r14 : Int) (r15 : Int) (r19 : Value) (r20 : Int) (r26 : Int) (r27 : Int) (h : Hp) : CRes :=
  boolZ (ltZ r27 r26) fun b0 =>
  ifB b0
  (optK (buildV env 48 (List.toArray [(0, (Value.int .i64 r6)), (1, (Value.int .i64 r7)), (2, (Value.int .i64 r27))])) fun v1 =>
  allocK h 48 [(ki 0), (ki 0), (ki 0)] fun a2 h2 =>
  storeNK 3 h2 a2 v1 fun h3 =>
  loadNK 16 h3 r2 fun v4 =>
  pairK (callQ F74 [v4, (Value.int .i64 r27)] h3) fun v5 h5 =>
  boolK v5 fun b6 =>
  ifB b6
  (loadNK 16 h5 r2 fun v7 =>
  loadNK 3 h5 a2 fun v8 =>
  pairK (callQ F75 [v7, (Value.int .i64 r1), v8] h5) fun v9 h9 =>
  intK .i64 v9 fun i10 =>
  boolZ (eqZ i10 (Int.ofNat 0)) fun b11 =>
  ifB b11
  (loadNK 3 h9 a2 fun v12 =>
  pairK (buildSliceV env h9 42 1 (List.toArray [(0, v12)])) fun v13 h13 =>
  pairK (appendV env h13 #[42, 42] (List.toArray [r5, v13])) fun v14 h14 =>
  wrap64 (Int.add r27 (Int.ofNat 1)) fun i15 =>
  S 3 (AL.i r1 (AL.v r2 (AL.v v14 (AL.i r6 (AL.i r7 (AL.i r14 (AL.i r15 (AL.v r19 (AL.i r20 (AL.i r26 (AL.i i15 AL.n))))))))))) h14)
  (wrap64 (Int.add r27 (Int.ofNat 1)) fun i16 =>
  S 3 (AL.i r1 (AL.v r2 (AL.v r5 (AL.i r6 (AL.i r7 (AL.i r14 (AL.i r15 (AL.v r19 (AL.i r20 (AL.i r26 (AL.i i16 AL.n))))))))))) h9))
  (wrap64 (Int.add r27 (Int.ofNat 1)) fun i17 =>
  S 3 (AL.i r1 (AL.v r2 (AL.v r5 (AL.i r6 (AL.i r7 (AL.i r14 (AL.i r15 (AL.v r19 (AL.i r20 (AL.i r26 (AL.i i17 AL.n))))))))))) h5))
  (S 4 (AL.i r1 (AL.v r2 (AL.v r5 (AL.i r6 (AL.i r14 (AL.i r15 (AL.v r19 (AL.i r20 AL.n)))))))) h)
noncomputable def P47x2 (S : Sg) (r1 : Int) (r2 : Value) (r5 : Value) (r6 : Int) (r14 : Int) (r15 : Int) (r19 : Value) (r20 : Int) (h : Hp) : CRes :=
  boolZ (ltZ r20 (Int.ofNat 3)) fun b0 =>
  ifB b0
  (optK (indexV env 83 r19 (Value.int .i64 r20)) fun v1 =>
  allocK h 82 [(Value.bool false), (ki 0), Value.nilFunc, Value.nilFunc] fun a2 h2 =>
  storeNK 4 h2 a2 v1 fun h3 =>
  ptrAddK 1 a2 fun v4 =>
  load1K h3 v4 fun v5 =>
  intK .i64 v5 fun i6 =>
  wrap64 (Int.add i6 (Int.ofNat 1)) fun i7 =>
  S 3 (AL.i r1 (AL.v r2 (AL.v r5 (AL.i r6 (AL.i r20 (AL.i r14 (AL.i r15 (AL.v r19 (AL.i r20 (AL.i i7 (AL.i (Int.ofNat 0) AL.n))))))))))) h3)
  (S 5 (AL.i r1 (AL.v r2 (AL.v r5 (AL.i r14 (AL.i r15 AL.n))))) h)
noncomputable def P47x1 (S : Sg) (r1 : Int) (r2 : Value) (r5 : Value) (r14 : Int) (r15 : Int) (h : Hp) : CRes :=
  boolZ (ltZ r15 r14) fun b0 =>
  ifB b0
  (ptrAddK 4 r2 fun v1 =>
  loadNK 12 h v1 fun v2 =>
  S 2 (AL.i r1 (AL.v r2 (AL.v r5 (AL.i r15 (AL.i r14 (AL.i r15 (AL.v v2 (AL.i (Int.ofNat 0) AL.n)))))))) h)
  (S 6 (AL.v r5 AL.n) h)
noncomputable def P47x0 (S : Sg) (r0 : Value) (r1 : Int) (h : Hp) : CRes :=
  allocK h 85 (Array.toList (Value.cells r0)) fun a0 h0 =>
  ptrAddK 0 a0 fun v1 =>
  ptrAddK 0 v1 fun v2 =>
  load1K h0 v2 fun v3 =>
  lenSK v3 fun i4 =>
  S 1 (AL.i r1 (AL.v a0 (AL.v (Value.slice none 0 0) (AL.i i4 (AL.i (Int.ofNat 0) AL.n))))) h0
noncomputable def T47 (S : Sg) : Sg := tabC 0 (uV fun r0 => uI fun r1 => uN fun h => P47x0 S r0 r1 h) (tabC 1 (uI fun r1 => uV fun r2 => uV fun r5 => uI fun r14 => uI fun r15 => uN fun h => P47x1 S r1 r2 r5 r14 r15 h) (tabC 2 (uI fun r1 => uV fun r2 => uV fun r5 => uI fun r6 => uI fun r14 => uI fun r15 => uV fun r19 => uI fun r20 => uN fun h => P47x2 S r1 r2 r5 r6 r14 r15 r19 r20 h) (tabC 3 (uI fun r1 => uV fun r2 => uV fun r5 => uI fun r6 => uI fun r7 => uI fun r14 => uI fun r15 => uV fun r19 => uI fun r20 => uI fun r26 => uI fun r27 => uN fun h => P47x3 S r1 r2 r5 r6 r7 r14 r15 r19 r20 r26 r27 h) (tabC 4 (uI fun r1 => uV fun r2 => uV fun r5 => uI fun r6 => uI fun r14 => uI fun r15 => uV fun r19 => uI fun r20 => uN fun h => P47x4 S r1 r2 r5 r6 r14 r15 r19 r20 h) (tabC 5 (uI fun r1 => uV fun r2 => uV fun r5 => uI fun r14 => uI fun r15 => uN fun h => P47x5 S r1 r2 r5 r14 r15 h) (tabC 6 (uV fun r5 => uN fun h => P47x6 S r5 h) (tabN)))))))
noncomputable def F47 (args : List Value) (h : Hp) : CRes := packVals [Kd.v, Kd.i .i64] args fun al => rec' T47 1000000 0 al h
def nt47 : Nat := 2 + (55 - 2)
theorem q47x6 (S : Sg) (r5 : Value) (h : Hp) : P47x6 S r5 h = stepAt (regK env orc38 (nt47)) (finK env Try.f47.results.toList) (collect B47 A47 []) 6 S (AL.v r5 AL.n) h := by kernel_rfl
theorem q47x5 (S : Sg) (r1 : Int) (r2 : Value) (r5 : Value) (r14 : Int) (r15 : Int) (h : Hp) : P47x5 S r1 r2 r5 r14 r15 h = stepAt (regK env orc38 (nt47)) (finK env Try.f47.results.toList) (collect B47 A47 []) 5 S (AL.i r1 (AL.v r2 (AL.v r5 (AL.i r14 (AL.i r15 AL.n))))) h := by kernel_rfl
theorem q47x4 (S : Sg) (r1 : Int) (r2 : Value) (r5 : Value) (r6 : Int) (r14 : Int) (r15 : Int) (r19 : Value) (r20 : Int) (h : Hp) : P47x4 S r1 r2 r5 r6 r14 r15 r19 r20 h = stepAt (regK env orc38 (nt47)) (finK env Try.f47.results.toList) (collect B47 A47 []) 4 S (AL.i r1 (AL.v r2 (AL.v r5 (AL.i r6 (AL.i r14 (AL.i r15 (AL.v r19 (AL.i r20 AL.n)))))))) h := by kernel_rfl
theorem q47x3 (S : Sg) (r1 : Int) (r2 : Value) (r5 : Value) (r6 : Int) (r7 : Int) (r14 : Int) (r15 : Int) (r19 : Value) (r20 : Int) (r26 : Int) (r27 : Int) (h : Hp) : P47x3 S r1 r2 r5 r6 r7 r14 r15 r19 r20 r26 r27 h = stepAt (regK env orc38 (nt47)) (finK env Try.f47.results.toList) (collect B47 A47 []) 3 S (AL.i r1 (AL.v r2 (AL.v r5 (AL.i r6 (AL.i r7 (AL.i r14 (AL.i r15 (AL.v r19 (AL.i r20 (AL.i r26 (AL.i r27 AL.n))))))))))) h := by kernel_rfl
theorem q47x2 (S : Sg) (r1 : Int) (r2 : Value) (r5 : Value) (r6 : Int) (r14 : Int) (r15 : Int) (r19 : Value) (r20 : Int) (h : Hp) : P47x2 S r1 r2 r5 r6 r14 r15 r19 r20 h = stepAt (regK env orc38 (nt47)) (finK env Try.f47.results.toList) (collect B47 A47 []) 2 S (AL.i r1 (AL.v r2 (AL.v r5 (AL.i r6 (AL.i r14 (AL.i r15 (AL.v r19 (AL.i r20 AL.n)))))))) h := by kernel_rfl
theorem q47x1 (S : Sg) (r1 : Int) (r2 : Value) (r5 : Value) (r14 : Int) (r15 : Int) (h : Hp) : P47x1 S r1 r2 r5 r14 r15 h = stepAt (regK env orc38 (nt47)) (finK env Try.f47.results.toList) (collect B47 A47 []) 1 S (AL.i r1 (AL.v r2 (AL.v r5 (AL.i r14 (AL.i r15 AL.n))))) h := by kernel_rfl
theorem q47x0 (S : Sg) (r0 : Value) (r1 : Int) (h : Hp) : P47x0 S r0 r1 h = stepAt (regK env orc38 (nt47)) (finK env Try.f47.results.toList) (collect B47 A47 []) 0 S (AL.v r0 (AL.i r1 AL.n)) h := by kernel_rfl
theorem t47 (S : Sg) : Tab (fun l vs h => stepAt (regK env orc38 nt47) (finK env Try.f47.results.toList) (collect B47 A47 []) l S vs h) (T47 S) := by
  unfold T47
  refine Tab.cons 0 (fun vs0 h q e0 => ?_) ?_
  · obtain ⟨r0, vs1, rfl, e1⟩ := uV_some e0
    obtain ⟨r1, vs2, rfl, e2⟩ := uI_some e1
    obtain ⟨rfl, ee⟩ := uN_some e2
    exact (q47x0 S r0 r1 h).symm.trans ee
  refine Tab.cons 1 (fun vs0 h q e0 => ?_) ?_
  · obtain ⟨r1, vs1, rfl, e1⟩ := uI_some e0
    obtain ⟨r2, vs2, rfl, e2⟩ := uV_some e1
    obtain ⟨r5, vs3, rfl, e3⟩ := uV_some e2
    obtain ⟨r14, vs4, rfl, e4⟩ := uI_some e3
    obtain ⟨r15, vs5, rfl, e5⟩ := uI_some e4
    obtain ⟨rfl, ee⟩ := uN_some e5
    exact (q47x1 S r1 r2 r5 r14 r15 h).symm.trans ee
  refine Tab.cons 2 (fun vs0 h q e0 => ?_) ?_
  · obtain ⟨r1, vs1, rfl, e1⟩ := uI_some e0
    obtain ⟨r2, vs2, rfl, e2⟩ := uV_some e1
    obtain ⟨r5, vs3, rfl, e3⟩ := uV_some e2
    obtain ⟨r6, vs4, rfl, e4⟩ := uI_some e3
    obtain ⟨r14, vs5, rfl, e5⟩ := uI_some e4
    obtain ⟨r15, vs6, rfl, e6⟩ := uI_some e5
    obtain ⟨r19, vs7, rfl, e7⟩ := uV_some e6
    obtain ⟨r20, vs8, rfl, e8⟩ := uI_some e7
    obtain ⟨rfl, ee⟩ := uN_some e8
    exact (q47x2 S r1 r2 r5 r6 r14 r15 r19 r20 h).symm.trans ee
  refine Tab.cons 3 (fun vs0 h q e0 => ?_) ?_
  · obtain ⟨r1, vs1, rfl, e1⟩ := uI_some e0
    obtain ⟨r2, vs2, rfl, e2⟩ := uV_some e1
    obtain ⟨r5, vs3, rfl, e3⟩ := uV_some e2
    obtain ⟨r6, vs4, rfl, e4⟩ := uI_some e3
    obtain ⟨r7, vs5, rfl, e5⟩ := uI_some e4
    obtain ⟨r14, vs6, rfl, e6⟩ := uI_some e5
    obtain ⟨r15, vs7, rfl, e7⟩ := uI_some e6
    obtain ⟨r19, vs8, rfl, e8⟩ := uV_some e7
    obtain ⟨r20, vs9, rfl, e9⟩ := uI_some e8
    obtain ⟨r26, vs10, rfl, e10⟩ := uI_some e9
    obtain ⟨r27, vs11, rfl, e11⟩ := uI_some e10
    obtain ⟨rfl, ee⟩ := uN_some e11
    exact (q47x3 S r1 r2 r5 r6 r7 r14 r15 r19 r20 r26 r27 h).symm.trans ee
  refine Tab.cons 4 (fun vs0 h q e0 => ?_) ?_
  · obtain ⟨r1, vs1, rfl, e1⟩ := uI_some e0
    obtain ⟨r2, vs2, rfl, e2⟩ := uV_some e1
    obtain ⟨r5, vs3, rfl, e3⟩ := uV_some e2
    obtain ⟨r6, vs4, rfl, e4⟩ := uI_some e3
    obtain ⟨r14, vs5, rfl, e5⟩ := uI_some e4
    obtain ⟨r15, vs6, rfl, e6⟩ := uI_some e5
    obtain ⟨r19, vs7, rfl, e7⟩ := uV_some e6
    obtain ⟨r20, vs8, rfl, e8⟩ := uI_some e7
    obtain ⟨rfl, ee⟩ := uN_some e8
    exact (q47x4 S r1 r2 r5 r6 r14 r15 r19 r20 h).symm.trans ee
  refine Tab.cons 5 (fun vs0 h q e0 => ?_) ?_
  · obtain ⟨r1, vs1, rfl, e1⟩ := uI_some e0
    obtain ⟨r2, vs2, rfl, e2⟩ := uV_some e1
    obtain ⟨r5, vs3, rfl, e3⟩ := uV_some e2
    obtain ⟨r14, vs4, rfl, e4⟩ := uI_some e3
    obtain ⟨r15, vs5, rfl, e5⟩ := uI_some e4
    obtain ⟨rfl, ee⟩ := uN_some e5
    exact (q47x5 S r1 r2 r5 r14 r15 h).symm.trans ee
  refine Tab.cons 6 (fun vs0 h q e0 => ?_) ?_
  · obtain ⟨r5, vs1, rfl, e1⟩ := uV_some e0
    obtain ⟨rfl, ee⟩ := uN_some e1
    exact (q47x6 S r5 h).symm.trans ee
  exact Tab.nil
theorem r47 : ∀ args h v h', F47 args h = some (v, h') → Runs (C38) (.call 47 args.toArray h) (.ret v h') := by
  intro args h v h' e
  exact fun_sound (C := C38) (fn := Try.f47) (body := B47) (np := 2) (A := A47) (T := T47) (kinds := [Kd.v, Kd.i .i64]) (by kernel_rfl) (by kernel_rfl) (by kernel_rfl) (by kernel_rfl) (regK_ok env_ok) (by kernel_rfl) (fun S => t47 S) e
noncomputable def orc39 := orcQ 47 F47 orc38
noncomputable def C39 : Cfg := cfg orc39
theorem ok39 : C39.Ok := orcQ_ok (C := C38) ok38 r47
noncomputable def B23 : Code := (Try.f23.body).getD .skip
noncomputable def A23 : G.Ann (List KI) := (G.Ann.node (some (0, [KI.reg 0 (Kd.i .i64), KI.reg 1 (Kd.i .i64), KI.reg 2 (Kd.i .i64)])) al (an al al))
noncomputable def P23x0 (h : Hp) (S : Nat → PAL → Option Value) (r0 : Int) (r1 : Int) (r2 : Int) : Option Value :=
  optK (buildV env 48 (List.toArray [(0, (Value.int .i64 r0)), (1, (Value.int .i64 r1)), (2, (Value.int .i64 r2))])) fun v0 =>
  aggK v0 fun l1 => ifB (Nat.beq (lenR l1) 3) (segR 0 l1 [(ki 0), (ki 0), (ki 0)] fun c1 =>
  dropR c1 0 fun d2 => takeR d2 3 fun l2 => some (Value.agg (Array.mk l2))) none
noncomputable def T23 (h : Hp) (S : Nat → PAL → Option Value) : Nat → PAL → Option Value := tabPC 0 (wI fun r0 => wI fun r1 => wI fun r2 => wN (P23x0 h S r0 r1 r2)) (tabPN)
noncomputable def F23 (args : List Value) (h : Hp) : Option Value := plainO (packArgs [Kd.i .i64, Kd.i .i64, Kd.i .i64] args fun al => G.rec' (T23 h) 1000000 0 al)
def nt23 : Nat := 3 + (11 - 3)
theorem q23x0 (h : Hp) (S : Nat → PAL → Option Value) (r0 : Int) (r1 : Int) (r2 : Int) : P23x0 h S r0 r1 r2 = G.stepAt packP unpackP evXV (regP env pf17 nt23 h) (finP env Try.f23.results.toList) (G.collect B23 A23 []) 0 S (PAL.i r0 (PAL.i r1 (PAL.i r2 PAL.n))) := by kernel_rfl
theorem t23 (h : Hp) (S : Nat → PAL → Option Value) : TabP (fun l al => G.stepAt packP unpackP evXV (regP env pf17 nt23 h) (finP env Try.f23.results.toList) (G.collect B23 A23 []) l S al) (T23 h S) := by
  unfold T23
  refine TabP.cons 0 (fun vs0 q e0 => ?_) ?_
  · obtain ⟨r0, vs1, rfl, e1⟩ := wI_some e0
    obtain ⟨r1, vs2, rfl, e2⟩ := wI_some e1
    obtain ⟨r2, vs3, rfl, e3⟩ := wI_some e2
    obtain ⟨rfl, ee⟩ := wN_some e3
    exact (q23x0 h S r0 r1 r2).symm.trans ee
  exact TabP.nil
theorem r23 : PSound Try.prog 23 F23 := fun_soundP (C := C0) ok0 (pf := pf17) pfok17 (fn := Try.f23) (body := B23) (kinds := [Kd.i .i64, Kd.i .i64, Kd.i .i64]) (A := A23) (T := T23) (by kernel_rfl) (by kernel_rfl) (by kernel_rfl) (by kernel_rfl) (fun h S => t23 h S)
noncomputable def pf18 : PF := pfC 23 F23 pf17
theorem pfok18 : PfSound Try.prog pf18 := pfC_ok r23 pfok17
noncomputable def orc40 := orcP 23 F23 orc39
noncomputable def C40 : Cfg := cfg orc40
theorem ok40 : C40.Ok := orcP_ok (C := C39) ok39 r23
noncomputable def B20 : Code := (Try.f20.body).getD .skip
def A20 : Ann := (Ann.node (some (0, [])) bl (bn bl bl))
noncomputable def P20x0 (S : Sg) (h : Hp) : CRes :=
  pairK (optK (F23 [(ki 0), (ki 1), (ki 0)] h) fun v => some (v, h)) fun v0 h0 =>
  pairK (optK (F23 [(ki 1), (ki 0), (ki 0)] h0) fun v => some (v, h0)) fun v1 h1 =>
  pairK (optK (F23 [(ki 2), (ki 2), (ki 0)] h1) fun v => some (v, h1)) fun v2 h2 =>
  pairK (buildSliceV env h2 42 3 (List.toArray [(0, v0), (1, v1), (2, v2)])) fun v3 h3 =>
  some (v3, h3)
noncomputable def T20 (S : Sg) : Sg := tabC 0 (uN fun h => P20x0 S  h) (tabN)
noncomputable def F20 (args : List Value) (h : Hp) : CRes := packVals [] args fun al => rec' T20 1000000 0 al h
def nt20 : Nat := 0 + (5 - 0)
theorem q20x0 (S : Sg) (h : Hp) : P20x0 S  h = stepAt (regK env orc40 (nt20)) (finK env Try.f20.results.toList) (collect B20 A20 []) 0 S AL.n h := by kernel_rfl
theorem t20 (S : Sg) : Tab (fun l vs h => stepAt (regK env orc40 nt20) (finK env Try.f20.results.toList) (collect B20 A20 []) l S vs h) (T20 S) := by
  unfold T20
  refine Tab.cons 0 (fun vs0 h q e0 => ?_) ?_
  · 
    obtain ⟨rfl, ee⟩ := uN_some e0
    exact (q20x0 S  h).symm.trans ee
  exact Tab.nil
theorem r20 : ∀ args h v h', F20 args h = some (v, h') → Runs (C40) (.call 20 args.toArray h) (.ret v h') := by
  intro args h v h' e
  exact fun_sound (C := C40) (fn := Try.f20) (body := B20) (np := 0) (A := A20) (T := T20) (kinds := []) (by kernel_rfl) (by kernel_rfl) (by kernel_rfl) (by kernel_rfl) (regK_ok env_ok) (by kernel_rfl) (fun S => t20 S) e
noncomputable def orc41 := orcQ 20 F20 orc40
noncomputable def C41 : Cfg := cfg orc41
theorem ok41 : C41.Ok := orcQ_ok (C := C40) ok40 r20
noncomputable def B108 : Code := (Try.f108.body).getD .skip
noncomputable def A108 : G.Ann (List KI) := (G.Ann.node (some (0, [KI.reg 0 (Kd.v), KI.reg 1 (Kd.v)])) al (an al al))
noncomputable def P108x0 (h : Hp) (S : Nat → PAL → Option Value) (r0 : Value) (r1 : Value) : Option Value :=
  forceL (Array.toList (Value.cells r0)) fun c0 =>
  nthR c0 0 fun v1 =>
  intK .i64 v1 fun i2 =>
  ptrAddK 0 r1 fun v3 =>
  load1K h v3 fun v4 =>
  intK .i64 v4 fun i5 =>
  boolZ (eqZ i2 i5) fun b6 =>
  some (Value.bool b6)
noncomputable def T108 (h : Hp) (S : Nat → PAL → Option Value) : Nat → PAL → Option Value := tabPC 0 (wV fun r0 => wV fun r1 => wN (P108x0 h S r0 r1)) (tabPN)
noncomputable def F108 (args : List Value) (h : Hp) : Option Value := plainO (packArgs [Kd.v, Kd.v] args fun al => G.rec' (T108 h) 1000000 0 al)
def nt108 : Nat := 2 + (9 - 2)
theorem q108x0 (h : Hp) (S : Nat → PAL → Option Value) (r0 : Value) (r1 : Value) : P108x0 h S r0 r1 = G.stepAt packP unpackP evXV (regP env pf18 nt108 h) (finP env Try.f108.results.toList) (G.collect B108 A108 []) 0 S (PAL.v r0 (PAL.v r1 PAL.n)) := by kernel_rfl
theorem t108 (h : Hp) (S : Nat → PAL → Option Value) : TabP (fun l al => G.stepAt packP unpackP evXV (regP env pf18 nt108 h) (finP env Try.f108.results.toList) (G.collect B108 A108 []) l S al) (T108 h S) := by
  unfold T108
  refine TabP.cons 0 (fun vs0 q e0 => ?_) ?_
  · obtain ⟨r0, vs1, rfl, e1⟩ := wV_some e0
    obtain ⟨r1, vs2, rfl, e2⟩ := wV_some e1
    obtain ⟨rfl, ee⟩ := wN_some e2
    exact (q108x0 h S r0 r1).symm.trans ee
  exact TabP.nil
theorem r108 : PSound Try.prog 108 F108 := fun_soundP (C := C0) ok0 (pf := pf18) pfok18 (fn := Try.f108) (body := B108) (kinds := [Kd.v, Kd.v]) (A := A108) (T := T108) (by kernel_rfl) (by kernel_rfl) (by kernel_rfl) (by kernel_rfl) (fun h S => t108 h S)
noncomputable def pf19 : PF := pfC 108 F108 pf18
theorem pfok19 : PfSound Try.prog pf19 := pfC_ok r108 pfok18
noncomputable def orc42 := orcP 108 F108 orc41
noncomputable def C42 : Cfg := cfg orc42
theorem ok42 : C42.Ok := orcP_ok (C := C41) ok41 r108
noncomputable def B110 : Code := (Try.f110.body).getD .skip
def A110 : Ann := (Ann.node (some (0, [(0, Kd.v), (1, Kd.v)])) bl (bn (bn bl (bn (Ann.node (some (1, [(0, Kd.v), (1, Kd.v), (7, Kd.i .i64), (8, Kd.i .i64)])) (bn bl (bn (bn bl bl) (bn (bn (bn bl (bn bl (bn (bn bl bl) bl))) bl) bl))) bl) bl)) (Ann.node (some (2, [])) bl bl)))
noncomputable def P110x2 (S : Sg) (h : Hp) : CRes :=
  some ((Value.int .i64 (Int.negSucc 0)), h)
noncomputable def P110x1 (S : Sg) (r0 : Value) (r1 : Value) (r7 : Int) (r8 : Int) (h : Hp) : CRes :=
  boolZ (ltZ r8 r7) fun b0 =>
  ifB b0
  (idxSK 3 r0 r8 fun v1 =>
  loadNK 3 h v1 fun v2 =>
  pairK (callF orc42 r1 [v2] h) fun v3 h3 =>
  boolK v3 fun b4 =>
  ifB b4
  (some ((Value.int .i64 r8), h3))
  (wrap64 (Int.add r8 (Int.ofNat 1)) fun i5 =>
  S 1 (AL.v r0 (AL.v r1 (AL.i r7 (AL.i i5 AL.n)))) h3))
  (S 2 AL.n h)
noncomputable def P110x0 (S : Sg) (r0 : Value) (r1 : Value) (h : Hp) : CRes :=
  lenSK r0 fun i0 =>
  S 1 (AL.v r0 (AL.v r1 (AL.i i0 (AL.i (Int.ofNat 0) AL.n)))) h
noncomputable def T110 (S : Sg) : Sg := tabC 0 (uV fun r0 => uV fun r1 => uN fun h => P110x0 S r0 r1 h) (tabC 1 (uV fun r0 => uV fun r1 => uI fun r7 => uI fun r8 => uN fun h => P110x1 S r0 r1 r7 r8 h) (tabC 2 (uN fun h => P110x2 S  h) (tabN)))
noncomputable def F110 (args : List Value) (h : Hp) : CRes := packVals [Kd.v, Kd.v] args fun al => rec' T110 1000000 0 al h
def nt110 : Nat := 2 + (19 - 2)
theorem q110x2 (S : Sg) (h : Hp) : P110x2 S  h = stepAt (regK env orc42 (nt110)) (finK env Try.f110.results.toList) (collect B110 A110 []) 2 S AL.n h := by kernel_rfl
theorem q110x1 (S : Sg) (r0 : Value) (r1 : Value) (r7 : Int) (r8 : Int) (h : Hp) : P110x1 S r0 r1 r7 r8 h = stepAt (regK env orc42 (nt110)) (finK env Try.f110.results.toList) (collect B110 A110 []) 1 S (AL.v r0 (AL.v r1 (AL.i r7 (AL.i r8 AL.n)))) h := by kernel_rfl
theorem q110x0 (S : Sg) (r0 : Value) (r1 : Value) (h : Hp) : P110x0 S r0 r1 h = stepAt (regK env orc42 (nt110)) (finK env Try.f110.results.toList) (collect B110 A110 []) 0 S (AL.v r0 (AL.v r1 AL.n)) h := by kernel_rfl
theorem t110 (S : Sg) : Tab (fun l vs h => stepAt (regK env orc42 nt110) (finK env Try.f110.results.toList) (collect B110 A110 []) l S vs h) (T110 S) := by
  unfold T110
  refine Tab.cons 0 (fun vs0 h q e0 => ?_) ?_
  · obtain ⟨r0, vs1, rfl, e1⟩ := uV_some e0
    obtain ⟨r1, vs2, rfl, e2⟩ := uV_some e1
    obtain ⟨rfl, ee⟩ := uN_some e2
    exact (q110x0 S r0 r1 h).symm.trans ee
  refine Tab.cons 1 (fun vs0 h q e0 => ?_) ?_
  · obtain ⟨r0, vs1, rfl, e1⟩ := uV_some e0
    obtain ⟨r1, vs2, rfl, e2⟩ := uV_some e1
    obtain ⟨r7, vs3, rfl, e3⟩ := uI_some e2
    obtain ⟨r8, vs4, rfl, e4⟩ := uI_some e3
    obtain ⟨rfl, ee⟩ := uN_some e4
    exact (q110x1 S r0 r1 r7 r8 h).symm.trans ee
  refine Tab.cons 2 (fun vs0 h q e0 => ?_) ?_
  · 
    obtain ⟨rfl, ee⟩ := uN_some e0
    exact (q110x2 S  h).symm.trans ee
  exact Tab.nil
theorem r110 : ∀ args h v h', F110 args h = some (v, h') → Runs (C42) (.call 110 args.toArray h) (.ret v h') := by
  intro args h v h' e
  exact fun_sound (C := C42) (fn := Try.f110) (body := B110) (np := 2) (A := A110) (T := T110) (kinds := [Kd.v, Kd.v]) (by kernel_rfl) (by kernel_rfl) (by kernel_rfl) (by kernel_rfl) (regK_ok env_ok) (by kernel_rfl) (fun S => t110 S) e
noncomputable def orc43 := orcQ 110 F110 orc42
noncomputable def C43 : Cfg := cfg orc43
theorem ok43 : C43.Ok := orcQ_ok (C := C42) ok42 r110
noncomputable def B104 : Code := (Try.f104.body).getD .skip
def A104 : Ann := (Ann.node (some (0, [(0, Kd.v), (1, Kd.v)])) bl (bn bl bl))
noncomputable def P104x0 (S : Sg) (r0 : Value) (r1 : Value) (h : Hp) : CRes :=
  pairK (callQ F110 [r0, r1] h) fun v0 h0 =>
  intK .i64 v0 fun i1 =>
  boolN (ltZ i1 (Int.ofNat 0)) fun b2 =>
  some ((Value.bool b2), h0)
noncomputable def T104 (S : Sg) : Sg := tabC 0 (uV fun r0 => uV fun r1 => uN fun h => P104x0 S r0 r1 h) (tabN)
noncomputable def F104 (args : List Value) (h : Hp) : CRes := packVals [Kd.v, Kd.v] args fun al => rec' T104 1000000 0 al h
def nt104 : Nat := 2 + (9 - 2)
theorem q104x0 (S : Sg) (r0 : Value) (r1 : Value) (h : Hp) : P104x0 S r0 r1 h = stepAt (regK env orc43 (nt104)) (finK env Try.f104.results.toList) (collect B104 A104 []) 0 S (AL.v r0 (AL.v r1 AL.n)) h := by kernel_rfl
theorem t104 (S : Sg) : Tab (fun l vs h => stepAt (regK env orc43 nt104) (finK env Try.f104.results.toList) (collect B104 A104 []) l S vs h) (T104 S) := by
  unfold T104
  refine Tab.cons 0 (fun vs0 h q e0 => ?_) ?_
  · obtain ⟨r0, vs1, rfl, e1⟩ := uV_some e0
    obtain ⟨r1, vs2, rfl, e2⟩ := uV_some e1
    obtain ⟨rfl, ee⟩ := uN_some e2
    exact (q104x0 S r0 r1 h).symm.trans ee
  exact Tab.nil
theorem r104 : ∀ args h v h', F104 args h = some (v, h') → Runs (C43) (.call 104 args.toArray h) (.ret v h') := by
  intro args h v h' e
  exact fun_sound (C := C43) (fn := Try.f104) (body := B104) (np := 2) (A := A104) (T := T104) (kinds := [Kd.v, Kd.v]) (by kernel_rfl) (by kernel_rfl) (by kernel_rfl) (by kernel_rfl) (regK_ok env_ok) (by kernel_rfl) (fun S => t104 S) e
noncomputable def orc44 := orcQ 104 F104 orc43
noncomputable def C44 : Cfg := cfg orc44
theorem ok44 : C44.Ok := orcQ_ok (C := C43) ok43 r104
noncomputable def B107 : Code := (Try.f107.body).getD .skip
def A107 : Ann := (Ann.node (some (0, [(0, Kd.v), (1, Kd.v), (2, Kd.v)])) bl (bn bl (bn (bn (bn bl (bn bl (bn bl (bn (bn bl bl) (bn bl (bn (bn bl bl) bl)))))) bl) (Ann.node (some (1, [(0, Kd.v), (2, Kd.v), (4, Kd.v)])) bl bl))))
noncomputable def P107x1 (S : Sg) (r0 : Value) (r2 : Value) (r4 : Value) (h : Hp) : CRes :=
  loadNK 16 h r2 fun v0 =>
  lenSK r0 fun i1 =>
  loadNK 3 h r4 fun v2 =>
  pairK (callQ F75 [v0, (Value.int .i64 i1), v2] h) fun v3 h3 =>
  intK .i64 v3 fun i4 =>
  some ((Value.int .i64 i4), h3)
noncomputable def P107x0 (S : Sg) (r0 : Value) (r1 : Value) (r2 : Value) (h : Hp) : CRes :=
  allocK h 48 (Array.toList (Value.cells r1)) fun a0 h0 =>
  ptrAddK 0 a0 fun v1 =>
  load1K h0 v1 fun v2 =>
  intK .i64 v2 fun i3 =>
  boolZ (eqZ i3 (Int.negSucc 0)) fun b4 =>
  ifB b4
  (S 1 (AL.v r0 (AL.v r2 (AL.v a0 AL.n))) h0)
  (ptrAddK 0 r2 fun v5 =>
  ptrAddK 0 v5 fun v6 =>
  load1K h0 v6 fun v7 =>
  lenSK v7 fun i8 =>
  ptrAddK 0 a0 fun v9 =>
  load1K h0 v9 fun v10 =>
  intK .i64 v10 fun i11 =>
  pairK (buildSliceV env h0 34 1 (List.toArray [(0, (Value.int .i64 i11))])) fun v12 h12 =>
  pairK (optK (F41 [(Value.int .i64 i8), v12] h12) fun v => some (v, h12)) fun v13 h13 =>
  boolK v13 fun b14 =>
  boolN b14 fun b15 =>
  ifB b15
  (some ((ki 4), h13))
  (pairK (callQ F104 [r0, (Value.func (.func 108) (List.toArray []) (List.toArray [a0]))] h13) fun v16 h16 =>
  boolK v16 fun b17 =>
  ifB b17
  (some ((ki 5), h16))
  (S 1 (AL.v r0 (AL.v r2 (AL.v a0 AL.n))) h16)))
noncomputable def T107 (S : Sg) : Sg := tabC 0 (uV fun r0 => uV fun r1 => uV fun r2 => uN fun h => P107x0 S r0 r1 r2 h) (tabC 1 (uV fun r0 => uV fun r2 => uV fun r4 => uN fun h => P107x1 S r0 r2 r4 h) (tabN))
noncomputable def F107 (args : List Value) (h : Hp) : CRes := packVals [Kd.v, Kd.v, Kd.v] args fun al => rec' T107 1000000 0 al h
def nt107 : Nat := 3 + (31 - 3)
theorem q107x1 (S : Sg) (r0 : Value) (r2 : Value) (r4 : Value) (h : Hp) : P107x1 S r0 r2 r4 h = stepAt (regK env orc44 (nt107)) (finK env Try.f107.results.toList) (collect B107 A107 []) 1 S (AL.v r0 (AL.v r2 (AL.v r4 AL.n))) h := by kernel_rfl
theorem q107x0 (S : Sg) (r0 : Value) (r1 : Value) (r2 : Value) (h : Hp) : P107x0 S r0 r1 r2 h = stepAt (regK env orc44 (nt107)) (finK env Try.f107.results.toList) (collect B107 A107 []) 0 S (AL.v r0 (AL.v r1 (AL.v r2 AL.n))) h := by kernel_rfl
theorem t107 (S : Sg) : Tab (fun l vs h => stepAt (regK env orc44 nt107) (finK env Try.f107.results.toList) (collect B107 A107 []) l S vs h) (T107 S) := by
  unfold T107
  refine Tab.cons 0 (fun vs0 h q e0 => ?_) ?_
  · obtain ⟨r0, vs1, rfl, e1⟩ := uV_some e0
    obtain ⟨r1, vs2, rfl, e2⟩ := uV_some e1
    obtain ⟨r2, vs3, rfl, e3⟩ := uV_some e2
    obtain ⟨rfl, ee⟩ := uN_some e3
    exact (q107x0 S r0 r1 r2 h).symm.trans ee
  refine Tab.cons 1 (fun vs0 h q e0 => ?_) ?_
  · obtain ⟨r0, vs1, rfl, e1⟩ := uV_some e0
    obtain ⟨r2, vs2, rfl, e2⟩ := uV_some e1
    obtain ⟨r4, vs3, rfl, e3⟩ := uV_some e2
    obtain ⟨rfl, ee⟩ := uN_some e3
    exact (q107x1 S r0 r2 r4 h).symm.trans ee
  exact Tab.nil
theorem r107 : ∀ args h v h', F107 args h = some (v, h') → Runs (C44) (.call 107 args.toArray h) (.ret v h') := by
  intro args h v h' e
  exact fun_sound (C := C44) (fn := Try.f107) (body := B107) (np := 3) (A := A107) (T := T107) (kinds := [Kd.v, Kd.v, Kd.v]) (by kernel_rfl) (by kernel_rfl) (by kernel_rfl) (by kernel_rfl) (regK_ok env_ok) (by kernel_rfl) (fun S => t107 S) e
noncomputable def orc45 := orcQ 107 F107 orc44
noncomputable def C45 : Cfg := cfg orc45
theorem ok45 : C45.Ok := orcQ_ok (C := C44) ok44 r107
noncomputable def B106 : Code := (Try.f106.body).getD .skip
def A106 : Ann := (Ann.node (some (0, [(0, Kd.v), (1, Kd.v)])) bl (bn (bn bl (bn (Ann.node (some (1, [(0, Kd.v), (1, Kd.v), (9, Kd.v), (10, Kd.i .i64), (11, Kd.i .i64)])) (bn bl (bn (bn bl bl) (bn (bn (bn bl (bn bl (bn bl (bn (bn bl bl) bl)))) bl) bl))) bl) bl)) (Ann.node (some (2, [])) bl bl)))
noncomputable def P106x2 (S : Sg) (h : Hp) : CRes :=
  some (Value.tuple (List.toArray [(ki 0), (ki 0)]), h)
noncomputable def P106x1 (S : Sg) (r0 : Value) (r1 : Value) (r9 : Value) (r10 : Int) (r11 : Int) (h : Hp) : CRes :=
  boolZ (ltZ r11 r10) fun b0 =>
  ifB b0
  (idxSK 3 r9 r11 fun v1 =>
  loadNK 3 h v1 fun v2 =>
  allocK h 48 [(ki 0), (ki 0), (ki 0)] fun a3 h3 =>
  storeNK 3 h3 a3 v2 fun h4 =>
  optK (sliceV env h4 42 r0 none (some (Value.int .i64 r11)) none) fun v5 =>
  loadNK 3 h4 a3 fun v6 =>
  pairK (callF orc45 r1 [v5, v6] h4) fun v7 h7 =>
  intK .i64 v7 fun i8 =>
  boolN (eqZ i8 (Int.ofNat 0)) fun b9 =>
  ifB b9
  (some (Value.tuple (List.toArray [(Value.int .i64 r11), (Value.int .i64 i8)]), h7))
  (wrap64 (Int.add r11 (Int.ofNat 1)) fun i10 =>
  S 1 (AL.v r0 (AL.v r1 (AL.v r9 (AL.i r10 (AL.i i10 AL.n))))) h7))
  (S 2 AL.n h)
noncomputable def P106x0 (S : Sg) (r0 : Value) (r1 : Value) (h : Hp) : CRes :=
  lenSK r0 fun i0 =>
  S 1 (AL.v r0 (AL.v r1 (AL.v r0 (AL.i i0 (AL.i (Int.ofNat 0) AL.n))))) h
noncomputable def T106 (S : Sg) : Sg := tabC 0 (uV fun r0 => uV fun r1 => uN fun h => P106x0 S r0 r1 h) (tabC 1 (uV fun r0 => uV fun r1 => uV fun r9 => uI fun r10 => uI fun r11 => uN fun h => P106x1 S r0 r1 r9 r10 r11 h) (tabC 2 (uN fun h => P106x2 S  h) (tabN)))
noncomputable def F106 (args : List Value) (h : Hp) : CRes := packVals [Kd.v, Kd.v] args fun al => rec' T106 1000000 0 al h
def nt106 : Nat := 2 + (27 - 2)
theorem q106x2 (S : Sg) (h : Hp) : P106x2 S  h = stepAt (regK env orc45 (nt106)) (finK env Try.f106.results.toList) (collect B106 A106 []) 2 S AL.n h := by kernel_rfl
theorem q106x1 (S : Sg) (r0 : Value) (r1 : Value) (r9 : Value) (r10 : Int) (r11 : Int) (h : Hp) : P106x1 S r0 r1 r9 r10 r11 h = stepAt (regK env orc45 (nt106)) (finK env Try.f106.results.toList) (collect B106 A106 []) 1 S (AL.v r0 (AL.v r1 (AL.v r9 (AL.i r10 (AL.i r11 AL.n))))) h := by kernel_rfl
theorem q106x0 (S : Sg) (r0 : Value) (r1 : Value) (h : Hp) : P106x0 S r0 r1 h = stepAt (regK env orc45 (nt106)) (finK env Try.f106.results.toList) (collect B106 A106 []) 0 S (AL.v r0 (AL.v r1 AL.n)) h := by kernel_rfl
theorem t106 (S : Sg) : Tab (fun l vs h => stepAt (regK env orc45 nt106) (finK env Try.f106.results.toList) (collect B106 A106 []) l S vs h) (T106 S) := by
  unfold T106
  refine Tab.cons 0 (fun vs0 h q e0 => ?_) ?_
  · obtain ⟨r0, vs1, rfl, e1⟩ := uV_some e0
    obtain ⟨r1, vs2, rfl, e2⟩ := uV_some e1
    obtain ⟨rfl, ee⟩ := uN_some e2
    exact (q106x0 S r0 r1 h).symm.trans ee
  refine Tab.cons 1 (fun vs0 h q e0 => ?_) ?_
  · obtain ⟨r0, vs1, rfl, e1⟩ := uV_some e0
    obtain ⟨r1, vs2, rfl, e2⟩ := uV_some e1
    obtain ⟨r9, vs3, rfl, e3⟩ := uV_some e2
    obtain ⟨r10, vs4, rfl, e4⟩ := uI_some e3
    obtain ⟨r11, vs5, rfl, e5⟩ := uI_some e4
    obtain ⟨rfl, ee⟩ := uN_some e5
    exact (q106x1 S r0 r1 r9 r10 r11 h).symm.trans ee
  refine Tab.cons 2 (fun vs0 h q e0 => ?_) ?_
  · 
    obtain ⟨rfl, ee⟩ := uN_some e0
    exact (q106x2 S  h).symm.trans ee
  exact Tab.nil
theorem r106 : ∀ args h v h', F106 args h = some (v, h') → Runs (C45) (.call 106 args.toArray h) (.ret v h') := by
  intro args h v h' e
  exact fun_sound (C := C45) (fn := Try.f106) (body := B106) (np := 2) (A := A106) (T := T106) (kinds := [Kd.v, Kd.v]) (by kernel_rfl) (by kernel_rfl) (by kernel_rfl) (by kernel_rfl) (regK_ok env_ok) (by kernel_rfl) (fun S => t106 S) e
noncomputable def orc46 := orcQ 106 F106 orc45
noncomputable def C46 : Cfg := cfg orc46
theorem ok46 : C46.Ok := orcQ_ok (C := C45) ok45 r106
noncomputable def B79 : Code := (Try.f79.body).getD .skip
def A79 : Ann := (Ann.node (some (0, [(0, Kd.v), (1, Kd.v)])) bl (bn (bn bl (bn (bn bl bl) bl)) (bn bl (bn bl bl))))
noncomputable def P79x0 (S : Sg) (r0 : Value) (r1 : Value) (h : Hp) : CRes :=
  allocK h 85 (Array.toList (Value.cells r0)) fun a0 h0 =>
  lenSK r1 fun i1 =>
  ptrAddK 0 a0 fun v2 =>
  ptrAddK 1 v2 fun v3 =>
  load1K h0 v3 fun v4 =>
  lenSK v4 fun i5 =>
  boolN (eqZ i1 i5) fun b6 =>
  ifB b6
  (some ((ki 3), h0))
  (pairK (callQ F106 [r1, (Value.func (.func 107) (List.toArray []) (List.toArray [a0]))] h0) fun v7 h7 =>
  extK v7 0 fun v8 =>
  intK .i64 v8 fun i9 =>
  extK v7 1 fun v10 =>
  intK .i64 v10 fun i11 =>
  some ((Value.int .i64 i11), h7))
noncomputable def T79 (S : Sg) : Sg := tabC 0 (uV fun r0 => uV fun r1 => uN fun h => P79x0 S r0 r1 h) (tabN)
noncomputable def F79 (args : List Value) (h : Hp) : CRes := packVals [Kd.v, Kd.v] args fun al => rec' T79 1000000 0 al h
def nt79 : Nat := 2 + (21 - 2)
theorem q79x0 (S : Sg) (r0 : Value) (r1 : Value) (h : Hp) : P79x0 S r0 r1 h = stepAt (regK env orc46 (nt79)) (finK env Try.f79.results.toList) (collect B79 A79 []) 0 S (AL.v r0 (AL.v r1 AL.n)) h := by kernel_rfl
theorem t79 (S : Sg) : Tab (fun l vs h => stepAt (regK env orc46 nt79) (finK env Try.f79.results.toList) (collect B79 A79 []) l S vs h) (T79 S) := by
  unfold T79
  refine Tab.cons 0 (fun vs0 h q e0 => ?_) ?_
  · obtain ⟨r0, vs1, rfl, e1⟩ := uV_some e0
    obtain ⟨r1, vs2, rfl, e2⟩ := uV_some e1
    obtain ⟨rfl, ee⟩ := uN_some e2
    exact (q79x0 S r0 r1 h).symm.trans ee
  exact Tab.nil
theorem r79 : ∀ args h v h', F79 args h = some (v, h') → Runs (C46) (.call 79 args.toArray h) (.ret v h') := by
  intro args h v h' e
  exact fun_sound (C := C46) (fn := Try.f79) (body := B79) (np := 2) (A := A79) (T := T79) (kinds := [Kd.v, Kd.v]) (by kernel_rfl) (by kernel_rfl) (by kernel_rfl) (by kernel_rfl) (regK_ok env_ok) (by kernel_rfl) (fun S => t79 S) e
noncomputable def orc47 := orcQ 79 F79 orc46
noncomputable def C47 : Cfg := cfg orc47
theorem ok47 : C47.Ok := orcQ_ok (C := C46) ok46 r79
noncomputable def B80 : Code := (Try.f80.body).getD .skip
def A80 : Ann := (Ann.node (some (0, [(0, Kd.v)])) bl (bn bl (bn (bn bl (bn (Ann.node (some (1, [(0, Kd.v), (2, Kd.v), (3, Kd.v), (5, Kd.i .i64)])) (bn bl (bn (bn bl bl) (bn (bn (bn bl bl) bl) bl))) bl) bl)) (Ann.node (some (2, [(0, Kd.v), (2, Kd.v), (3, Kd.v)])) bl (bn bl bl)))))
noncomputable def P80x2 (S : Sg) (r0 : Value) (r2 : Value) (r3 : Value) (h : Hp) : CRes :=
  optK (sliceV env h 99 r3 none none none) fun v0 =>
  pairK (copyV env h #[42, 42] (List.toArray [v0, r0])) fun v1 h1 =>
  loadNK 9 h1 r3 fun v2 =>
  storeNK 9 h1 r2 v2 fun h3 =>
  loadNK 9 h3 r2 fun v4 => some (v4, h3)
noncomputable def P80x1 (S : Sg) (r0 : Value) (r2 : Value) (r3 : Value) (r5 : Int) (h : Hp) : CRes :=
  boolZ (ltZ r5 (Int.ofNat 3)) fun b0 =>
  ifB b0
  (pairK (optK (F48 [] h) fun v => some (v, h)) fun v1 h1 =>
  idxAK 3 3 r3 r5 fun v2 =>
  storeNK 3 h1 v2 v1 fun h3 =>
  wrap64 (Int.add r5 (Int.ofNat 1)) fun i4 =>
  S 1 (AL.v r0 (AL.v r2 (AL.v r3 (AL.i i4 AL.n)))) h3)
  (S 2 (AL.v r0 (AL.v r2 (AL.v r3 AL.n))) h)
noncomputable def P80x0 (S : Sg) (r0 : Value) (h : Hp) : CRes :=
  allocK h 99 [(ki 0), (ki 0), (ki 0), (ki 0), (ki 0), (ki 0), (ki 0), (ki 0), (ki 0)] fun a0 h0 =>
  allocK h0 99 [(ki 0), (ki 0), (ki 0), (ki 0), (ki 0), (ki 0), (ki 0), (ki 0), (ki 0)] fun a1 h1 =>
  S 1 (AL.v r0 (AL.v a0 (AL.v a1 (AL.i (Int.ofNat 0) AL.n)))) h1
noncomputable def T80 (S : Sg) : Sg := tabC 0 (uV fun r0 => uN fun h => P80x0 S r0 h) (tabC 1 (uV fun r0 => uV fun r2 => uV fun r3 => uI fun r5 => uN fun h => P80x1 S r0 r2 r3 r5 h) (tabC 2 (uV fun r0 => uV fun r2 => uV fun r3 => uN fun h => P80x2 S r0 r2 r3 h) (tabN)))
noncomputable def F80 (args : List Value) (h : Hp) : CRes := packVals [Kd.v] args fun al => rec' T80 1000000 0 al h
def nt80 : Nat := 1 + (16 - 1)
theorem q80x2 (S : Sg) (r0 : Value) (r2 : Value) (r3 : Value) (h : Hp) : P80x2 S r0 r2 r3 h = stepAt (regK env orc47 (nt80)) (finK env Try.f80.results.toList) (collect B80 A80 []) 2 S (AL.v r0 (AL.v r2 (AL.v r3 AL.n))) h := by kernel_rfl
theorem q80x1 (S : Sg) (r0 : Value) (r2 : Value) (r3 : Value) (r5 : Int) (h : Hp) : P80x1 S r0 r2 r3 r5 h = stepAt (regK env orc47 (nt80)) (finK env Try.f80.results.toList) (collect B80 A80 []) 1 S (AL.v r0 (AL.v r2 (AL.v r3 (AL.i r5 AL.n)))) h := by kernel_rfl
theorem q80x0 (S : Sg) (r0 : Value) (h : Hp) : P80x0 S r0 h = stepAt (regK env orc47 (nt80)) (finK env Try.f80.results.toList) (collect B80 A80 []) 0 S (AL.v r0 AL.n) h := by kernel_rfl
theorem t80 (S : Sg) : Tab (fun l vs h => stepAt (regK env orc47 nt80) (finK env Try.f80.results.toList) (collect B80 A80 []) l S vs h) (T80 S) := by
  unfold T80
  refine Tab.cons 0 (fun vs0 h q e0 => ?_) ?_
  · obtain ⟨r0, vs1, rfl, e1⟩ := uV_some e0
    obtain ⟨rfl, ee⟩ := uN_some e1
    exact (q80x0 S r0 h).symm.trans ee
  refine Tab.cons 1 (fun vs0 h q e0 => ?_) ?_
  · obtain ⟨r0, vs1, rfl, e1⟩ := uV_some e0
    obtain ⟨r2, vs2, rfl, e2⟩ := uV_some e1
    obtain ⟨r3, vs3, rfl, e3⟩ := uV_some e2
    obtain ⟨r5, vs4, rfl, e4⟩ := uI_some e3
    obtain ⟨rfl, ee⟩ := uN_some e4
    exact (q80x1 S r0 r2 r3 r5 h).symm.trans ee
  refine Tab.cons 2 (fun vs0 h q e0 => ?_) ?_
  · obtain ⟨r0, vs1, rfl, e1⟩ := uV_some e0
    obtain ⟨r2, vs2, rfl, e2⟩ := uV_some e1
    obtain ⟨r3, vs3, rfl, e3⟩ := uV_some e2
    obtain ⟨rfl, ee⟩ := uN_some e3
    exact (q80x2 S r0 r2 r3 h).symm.trans ee
  exact Tab.nil
theorem r80 : ∀ args h v h', F80 args h = some (v, h') → Runs (C47) (.call 80 args.toArray h) (.ret v h') := by
  intro args h v h' e
  exact fun_sound (C := C47) (fn := Try.f80) (body := B80) (np := 1) (A := A80) (T := T80) (kinds := [Kd.v]) (by kernel_rfl) (by kernel_rfl) (by kernel_rfl) (by kernel_rfl) (regK_ok env_ok) (by kernel_rfl) (fun S => t80 S) e
noncomputable def orc48 := orcQ 80 F80 orc47
noncomputable def C48 : Cfg := cfg orc48
theorem ok48 : C48.Ok := orcQ_ok (C := C47) ok47 r80
noncomputable def B53 : Code := (Try.f53.body).getD .skip
def A53 : Ann := (Ann.node (some (0, [(0, Kd.v), (1, Kd.v)])) bl (bn bl (bn (bn bl (bn (bn bl bl) bl)) (bn (bn bl (bn bl (bn (bn bl bl) bl))) (bn bl bl)))))
noncomputable def P53x0 (S : Sg) (r0 : Value) (r1 : Value) (h : Hp) : CRes :=
  allocK h 26 (Array.toList (Value.cells r0)) fun a0 h0 =>
  allocK h0 85 [(Value.slice none 0 0), (Value.slice none 0 0), (ki 0), (Value.slice none 0 0), (Value.bool false), (ki 0), Value.nilFunc, Value.nilFunc, (Value.bool false), (ki 0), Value.nilFunc, Value.nilFunc, (Value.bool false), (ki 0), Value.nilFunc, Value.nilFunc] fun a1 h1 =>
  allocK h1 99 [(ki 0), (ki 0), (ki 0), (ki 0), (ki 0), (ki 0), (ki 0), (ki 0), (ki 0)] fun a2 h2 =>
  loadNK 4 h2 a0 fun v3 =>
  pairK (callQ F40 [v3] h2) fun v4 h4 =>
  extK v4 0 fun v5 =>
  extK v4 1 fun v6 =>
  intK .i64 v6 fun i7 =>
  allocK h4 85 [(Value.slice none 0 0), (Value.slice none 0 0), (ki 0), (Value.slice none 0 0), (Value.bool false), (ki 0), Value.nilFunc, Value.nilFunc, (Value.bool false), (ki 0), Value.nilFunc, Value.nilFunc, (Value.bool false), (ki 0), Value.nilFunc, Value.nilFunc] fun a8 h8 =>
  storeNK 16 h8 a8 v5 fun h9 =>
  boolN (eqZ i7 (Int.ofNat 0)) fun b10 =>
  ifB b10
  (optK (buildV env 85 (List.toArray [])) fun v11 =>
  optK (buildV env 99 (List.toArray [])) fun v12 =>
  storeNK 16 h9 a1 v11 fun h13 =>
  storeNK 9 h13 a2 v12 fun h14 =>
  loadNK 16 h14 a1 fun v15 => loadNK 9 h14 a2 fun v16 => some (Value.tuple (List.toArray [v15, v16, (Value.int .i64 i7)]), h14))
  (loadNK 16 h9 a8 fun v17 =>
  pairK (callQ F79 [v17, r1] h9) fun v18 h18 =>
  intK .i64 v18 fun i19 =>
  boolN (eqZ i19 (Int.ofNat 0)) fun b20 =>
  ifB b20
  (optK (buildV env 85 (List.toArray [])) fun v21 =>
  optK (buildV env 99 (List.toArray [])) fun v22 =>
  storeNK 16 h18 a1 v21 fun h23 =>
  storeNK 9 h23 a2 v22 fun h24 =>
  loadNK 16 h24 a1 fun v25 => loadNK 9 h24 a2 fun v26 => some (Value.tuple (List.toArray [v25, v26, (Value.int .i64 i19)]), h24))
  (loadNK 16 h18 a8 fun v27 =>
  pairK (pairK (callQ F80 [r1] (Hp.mk (Hp.next h18) (Hp.next h18) (Hp.objs h18))) fun v _ => ifB (plainK v) (some (v, h18)) none) fun v28 h28 =>
  storeNK 16 h28 a1 v27 fun h29 =>
  storeNK 9 h29 a2 v28 fun h30 =>
  loadNK 16 h30 a1 fun v31 => loadNK 9 h30 a2 fun v32 => some (Value.tuple (List.toArray [v31, v32, (ki 0)]), h30)))
noncomputable def T53 (S : Sg) : Sg := tabC 0 (uV fun r0 => uV fun r1 => uN fun h => P53x0 S r0 r1 h) (tabN)
noncomputable def F53 (args : List Value) (h : Hp) : CRes := packVals [Kd.v, Kd.v] args fun al => rec' T53 1000000 0 al h
def nt53 : Nat := 2 + (31 - 2)
theorem q53x0 (S : Sg) (r0 : Value) (r1 : Value) (h : Hp) : P53x0 S r0 r1 h = stepAt (regK env orc48 (nt53)) (finK env Try.f53.results.toList) (collect B53 A53 []) 0 S (AL.v r0 (AL.v r1 AL.n)) h := by kernel_rfl
theorem t53 (S : Sg) : Tab (fun l vs h => stepAt (regK env orc48 nt53) (finK env Try.f53.results.toList) (collect B53 A53 []) l S vs h) (T53 S) := by
  unfold T53
  refine Tab.cons 0 (fun vs0 h q e0 => ?_) ?_
  · obtain ⟨r0, vs1, rfl, e1⟩ := uV_some e0
    obtain ⟨r1, vs2, rfl, e2⟩ := uV_some e1
    obtain ⟨rfl, ee⟩ := uN_some e2
    exact (q53x0 S r0 r1 h).symm.trans ee
  exact Tab.nil
theorem r53 : ∀ args h v h', F53 args h = some (v, h') → Runs (C48) (.call 53 args.toArray h) (.ret v h') := by
  intro args h v h' e
  exact fun_sound (C := C48) (fn := Try.f53) (body := B53) (np := 2) (A := A53) (T := T53) (kinds := [Kd.v, Kd.v]) (by kernel_rfl) (by kernel_rfl) (by kernel_rfl) (by kernel_rfl) (regK_ok env_ok) (by kernel_rfl) (fun S => t53 S) e
noncomputable def orc49 := orcQ 53 F53 orc48
noncomputable def C49 : Cfg := cfg orc49
theorem ok49 : C49.Ok := orcQ_ok (C := C48) ok48 r53
noncomputable def B55 : Code := (Try.f55.body).getD .skip
def A55 : Ann := (Ann.node (some (0, [(0, Kd.v), (1, Kd.v)])) bl (bn bl (bn (bn bl (bn (Ann.node (some (1, [(2, Kd.v), (4, Kd.v), (5, Kd.v), (8, Kd.v), (9, Kd.i .i64)])) (bn bl (bn (bn bl bl) (bn (bn (bn bl (bn bl (bn bl bl))) bl) bl))) bl) bl)) (Ann.node (some (2, [(4, Kd.v), (5, Kd.v)])) bl bl))))
noncomputable def P55x2 (S : Sg) (r4 : Value) (r5 : Value) (h : Hp) : CRes :=
  loadNK 6 h r5 fun v0 =>
  storeNK 6 h r4 v0 fun h1 =>
  loadNK 6 h1 r4 fun v2 => some (v2, h1)
noncomputable def P55x1 (S : Sg) (r2 : Value) (r4 : Value) (r5 : Value) (r8 : Value) (r9 : Int) (h : Hp) : CRes :=
  boolZ (ltZ r9 (Int.ofNat 3)) fun b0 =>
  ifB b0
  (optK (indexV env 99 r8 (Value.int .i64 r9)) fun v1 =>
  allocK h 48 [(ki 0), (ki 0), (ki 0)] fun a2 h2 =>
  storeNK 3 h2 a2 v1 fun h3 =>
  loadNK 3 h3 a2 fun v4 =>
  pairK (pairK (optK (F48 [] (Hp.mk (Hp.next h3) (Hp.next h3) (Hp.objs h3))) fun v => some (v, (Hp.mk (Hp.next h3) (Hp.next h3) (Hp.objs h3)))) fun v _ => ifB (plainK v) (some (v, h3)) none) fun v5 h5 =>
  optK (binV env .neq 48 (Operand.tmp 13) (Operand.tmp 14) v4 v5) fun v6 =>
  boolK v6 fun b7 =>
  ifB b7
  (ptrAddK 1 a2 fun v8 =>
  load1K h5 v8 fun v9 =>
  intK .i64 v9 fun i10 =>
  ptrAddK 4 r2 fun v11 =>
  idxAK 3 4 v11 i10 fun v12 =>
  ptrAddK 3 v12 fun v13 =>
  load1K h5 v13 fun v14 =>
  ptrAddK 0 r2 fun v15 =>
  ptrAddK 0 v15 fun v16 =>
  load1K h5 v16 fun v17 =>
  ptrAddK 0 a2 fun v18 =>
  load1K h5 v18 fun v19 =>
  intK .i64 v19 fun i20 =>
  idxSK 8 v17 i20 fun v21 =>
  loadNK 8 h5 v21 fun v22 =>
  ptrAddK 0 r2 fun v23 =>
  ptrAddK 1 v23 fun v24 =>
  load1K h5 v24 fun v25 =>
  idxSK 4 v25 r9 fun v26 =>
  loadNK 4 h5 v26 fun v27 =>
  ptrAddK 2 a2 fun v28 =>
  load1K h5 v28 fun v29 =>
  intK .i64 v29 fun i30 =>
  pairK (callF orc49 v14 [v22, v27, (Value.int .i64 i30)] h5) fun v31 h31 =>
  idxAK 3 2 r5 r9 fun v32 =>
  storeNK 2 h31 v32 v31 fun h33 =>
  wrap64 (Int.add r9 (Int.ofNat 1)) fun i34 =>
  S 1 (AL.v r2 (AL.v r4 (AL.v r5 (AL.v r8 (AL.i i34 AL.n))))) h33)
  (wrap64 (Int.add r9 (Int.ofNat 1)) fun i35 =>
  S 1 (AL.v r2 (AL.v r4 (AL.v r5 (AL.v r8 (AL.i i35 AL.n))))) h5))
  (S 2 (AL.v r4 (AL.v r5 AL.n)) h)
noncomputable def P55x0 (S : Sg) (r0 : Value) (r1 : Value) (h : Hp) : CRes :=
  allocK h 85 (Array.toList (Value.cells r0)) fun a0 h0 =>
  allocK h0 99 (Array.toList (Value.cells r1)) fun a1 h1 =>
  allocK h1 106 [(ki 0), (ki 0), (ki 0), (ki 0), (ki 0), (ki 0)] fun a2 h2 =>
  allocK h2 106 [(ki 0), (ki 0), (ki 0), (ki 0), (ki 0), (ki 0)] fun a3 h3 =>
  loadNK 9 h3 a1 fun v4 =>
  S 1 (AL.v a0 (AL.v a2 (AL.v a3 (AL.v v4 (AL.i (Int.ofNat 0) AL.n))))) h3
noncomputable def T55 (S : Sg) : Sg := tabC 0 (uV fun r0 => uV fun r1 => uN fun h => P55x0 S r0 r1 h) (tabC 1 (uV fun r2 => uV fun r4 => uV fun r5 => uV fun r8 => uI fun r9 => uN fun h => P55x1 S r2 r4 r5 r8 r9 h) (tabC 2 (uV fun r4 => uV fun r5 => uN fun h => P55x2 S r4 r5 h) (tabN)))
noncomputable def F55 (args : List Value) (h : Hp) : CRes := packVals [Kd.v, Kd.v] args fun al => rec' T55 1000000 0 al h
def nt55 : Nat := 2 + (42 - 2)
theorem q55x2 (S : Sg) (r4 : Value) (r5 : Value) (h : Hp) : P55x2 S r4 r5 h = stepAt (regK env orc49 (nt55)) (finK env Try.f55.results.toList) (collect B55 A55 []) 2 S (AL.v r4 (AL.v r5 AL.n)) h := by kernel_rfl
theorem q55x1 (S : Sg) (r2 : Value) (r4 : Value) (r5 : Value) (r8 : Value) (r9 : Int) (h : Hp) : P55x1 S r2 r4 r5 r8 r9 h = stepAt (regK env orc49 (nt55)) (finK env Try.f55.results.toList) (collect B55 A55 []) 1 S (AL.v r2 (AL.v r4 (AL.v r5 (AL.v r8 (AL.i r9 AL.n))))) h := by kernel_rfl
theorem q55x0 (S : Sg) (r0 : Value) (r1 : Value) (h : Hp) : P55x0 S r0 r1 h = stepAt (regK env orc49 (nt55)) (finK env Try.f55.results.toList) (collect B55 A55 []) 0 S (AL.v r0 (AL.v r1 AL.n)) h := by kernel_rfl
theorem t55 (S : Sg) : Tab (fun l vs h => stepAt (regK env orc49 nt55) (finK env Try.f55.results.toList) (collect B55 A55 []) l S vs h) (T55 S) := by
  unfold T55
  refine Tab.cons 0 (fun vs0 h q e0 => ?_) ?_
  · obtain ⟨r0, vs1, rfl, e1⟩ := uV_some e0
    obtain ⟨r1, vs2, rfl, e2⟩ := uV_some e1
    obtain ⟨rfl, ee⟩ := uN_some e2
    exact (q55x0 S r0 r1 h).symm.trans ee
  refine Tab.cons 1 (fun vs0 h q e0 => ?_) ?_
  · obtain ⟨r2, vs1, rfl, e1⟩ := uV_some e0
    obtain ⟨r4, vs2, rfl, e2⟩ := uV_some e1
    obtain ⟨r5, vs3, rfl, e3⟩ := uV_some e2
    obtain ⟨r8, vs4, rfl, e4⟩ := uV_some e3
    obtain ⟨r9, vs5, rfl, e5⟩ := uI_some e4
    obtain ⟨rfl, ee⟩ := uN_some e5
    exact (q55x1 S r2 r4 r5 r8 r9 h).symm.trans ee
  refine Tab.cons 2 (fun vs0 h q e0 => ?_) ?_
  · obtain ⟨r4, vs1, rfl, e1⟩ := uV_some e0
    obtain ⟨r5, vs2, rfl, e2⟩ := uV_some e1
    obtain ⟨rfl, ee⟩ := uN_some e2
    exact (q55x2 S r4 r5 h).symm.trans ee
  exact Tab.nil
theorem r55 : ∀ args h v h', F55 args h = some (v, h') → Runs (C49) (.call 55 args.toArray h) (.ret v h') := by
  intro args h v h' e
  exact fun_sound (C := C49) (fn := Try.f55) (body := B55) (np := 2) (A := A55) (T := T55) (kinds := [Kd.v, Kd.v]) (by kernel_rfl) (by kernel_rfl) (by kernel_rfl) (by kernel_rfl) (regK_ok env_ok) (by kernel_rfl) (fun S => t55 S) e
noncomputable def orc50 := orcQ 55 F55 orc49
noncomputable def C50 : Cfg := cfg orc50
theorem ok50 : C50.Ok := orcQ_ok (C := C49) ok49 r55
noncomputable def B54 : Code := (Try.f54.body).getD .skip
noncomputable def A54 : G.Ann (List KI) := (G.Ann.node (some (0, [KI.reg 0 (Kd.v), KI.reg 1 (Kd.v), KI.reg 2 (Kd.i .i64)])) al (an al (an (an al (an (G.Ann.node (some (1, [KI.reg 2 (Kd.i .i64), KI.loc 4 4, KI.reg 7 (Kd.i .i64), KI.reg 17 (Kd.v), KI.reg 18 (Kd.i .i64), KI.reg 19 (Kd.i .i64), KI.list 4])) (an al (an (an al al) (an (an (an al (an al (an al al))) al) al))) al) al)) (G.Ann.node (some (4, [KI.reg 2 (Kd.i .i64), KI.loc 4 4, KI.reg 7 (Kd.i .i64), KI.list 4])) (an al (an (G.Ann.node (some (2, [KI.reg 2 (Kd.i .i64), KI.reg 7 (Kd.i .i64), KI.reg 32 (Kd.v), KI.reg 33 (Kd.i .i64)])) (an al (an (an al al) (an (an (an al (an al (an al al))) al) al))) al) al)) (G.Ann.node (some (3, [KI.reg 7 (Kd.i .i64)])) al al)))))
noncomputable def P54x3 (h : Hp) (S : Nat → PAL → Option Value) (r7 : Int) : Option Value :=
  some (Value.int .i64 r7)
noncomputable def P54x2 (h : Hp) (S : Nat → PAL → Option Value) (r2 : Int) (r7 : Int) (r32 : Value) (r33 : Int) : Option Value :=
  boolZ (ltZ r33 (Int.ofNat 3)) fun b0 =>
  ifB b0
  (optK (indexV env 106 r32 (Value.int .i64 r33)) fun v1 =>
  aggK v1 fun l2 => ifB (Nat.beq (lenR l2) 2) (segR 0 l2 [(ki 0), (ki 0)] fun c2 =>
  nthR c2 0 fun v3 =>
  intK .i64 v3 fun i4 =>
  boolN (ltZ r2 i4) fun b5 =>
  ifB b5
  (nthR c2 1 fun v6 =>
  intK .i64 v6 fun i7 =>
  wrap64 (Int.sub r7 i7) fun i8 =>
  wrap64 (Int.add r33 (Int.ofNat 1)) fun i9 =>
  S 2 (PAL.i r2 (PAL.i i8 (PAL.v r32 (PAL.i i9 PAL.n)))))
  (wrap64 (Int.add r33 (Int.ofNat 1)) fun i10 =>
  S 2 (PAL.i r2 (PAL.i r7 (PAL.v r32 (PAL.i i10 PAL.n)))))) none)
  (S 3 (PAL.i r7 PAL.n))
noncomputable def P54x4 (h : Hp) (S : Nat → PAL → Option Value) (r2 : Int) (r7 : Int) (c4 : List Value) : Option Value :=
  dropR c4 0 fun d0 => takeR d0 6 fun l0 =>
  S 2 (PAL.i r2 (PAL.i r7 (PAL.v (Value.agg (Array.mk l0)) (PAL.i (Int.ofNat 0) PAL.n))))
noncomputable def P54x1 (h : Hp) (S : Nat → PAL → Option Value) (r2 : Int) (r7 : Int) (r17 : Value) (r18 : Int) (r19 : Int) (c4 : List Value) : Option Value :=
  boolZ (ltZ r19 r18) fun b0 =>
  ifB b0
  (idxSK 2 r17 r19 fun v1 =>
  loadNK 2 h v1 fun v2 =>
  aggK v2 fun l3 => ifB (Nat.beq (lenR l3) 2) (segR 0 l3 [(ki 0), (ki 0)] fun c3 =>
  nthR c3 0 fun v4 =>
  intK .i64 v4 fun i5 =>
  boolN (ltZ r2 i5) fun b6 =>
  ifB b6
  (nthR c3 1 fun v7 =>
  intK .i64 v7 fun i8 =>
  wrap64 (Int.add r7 i8) fun i9 =>
  wrap64 (Int.add r19 (Int.ofNat 1)) fun i10 =>
  S 1 (PAL.i r2 (PAL.i i9 (PAL.v r17 (PAL.i r18 (PAL.i i10 (PAL.l c4 PAL.n)))))))
  (wrap64 (Int.add r19 (Int.ofNat 1)) fun i11 =>
  S 1 (PAL.i r2 (PAL.i r7 (PAL.v r17 (PAL.i r18 (PAL.i i11 (PAL.l c4 PAL.n)))))))) none)
  (S 4 (PAL.i r2 (PAL.i r7 (PAL.l c4 PAL.n))))
noncomputable def P54x0 (h : Hp) (S : Nat → PAL → Option Value) (r0 : Value) (r1 : Value) (r2 : Int) : Option Value :=
  forceL (Array.toList (Value.cells r0)) fun c0 =>
  forceL (Array.toList (Value.cells r1)) fun c1 =>
  nthR c0 2 fun v2 =>
  intK .i64 v2 fun i3 =>
  nthR c0 3 fun v4 =>
  lenSK v4 fun i5 =>
  S 1 (PAL.i r2 (PAL.i i3 (PAL.v v4 (PAL.i i5 (PAL.i (Int.ofNat 0) (PAL.l c1 PAL.n))))))
noncomputable def T54 (h : Hp) (S : Nat → PAL → Option Value) : Nat → PAL → Option Value := tabPC 0 (wV fun r0 => wV fun r1 => wI fun r2 => wN (P54x0 h S r0 r1 r2)) (tabPC 1 (wI fun r2 => wI fun r7 => wV fun r17 => wI fun r18 => wI fun r19 => wL fun c4 => wN (P54x1 h S r2 r7 r17 r18 r19 c4)) (tabPC 4 (wI fun r2 => wI fun r7 => wL fun c4 => wN (P54x4 h S r2 r7 c4)) (tabPC 2 (wI fun r2 => wI fun r7 => wV fun r32 => wI fun r33 => wN (P54x2 h S r2 r7 r32 r33)) (tabPC 3 (wI fun r7 => wN (P54x3 h S r7)) (tabPN)))))
noncomputable def F54 (args : List Value) (h : Hp) : Option Value := plainO (packArgs [Kd.v, Kd.v, Kd.i .i64] args fun al => G.rec' (T54 h) 1000000 0 al)
def nt54 : Nat := 3 + (46 - 3)
theorem q54x3 (h : Hp) (S : Nat → PAL → Option Value) (r7 : Int) : P54x3 h S r7 = G.stepAt packP unpackP evXV (regP env pf19 nt54 h) (finP env Try.f54.results.toList) (G.collect B54 A54 []) 3 S (PAL.i r7 PAL.n) := by kernel_rfl
theorem q54x2 (h : Hp) (S : Nat → PAL → Option Value) (r2 : Int) (r7 : Int) (r32 : Value) (r33 : Int) : P54x2 h S r2 r7 r32 r33 = G.stepAt packP unpackP evXV (regP env pf19 nt54 h) (finP env Try.f54.results.toList) (G.collect B54 A54 []) 2 S (PAL.i r2 (PAL.i r7 (PAL.v r32 (PAL.i r33 PAL.n)))) := by kernel_rfl
theorem q54x4 (h : Hp) (S : Nat → PAL → Option Value) (r2 : Int) (r7 : Int) (c4 : List Value) : P54x4 h S r2 r7 c4 = G.stepAt packP unpackP evXV (regP env pf19 nt54 h) (finP env Try.f54.results.toList) (G.collect B54 A54 []) 4 S (PAL.i r2 (PAL.i r7 (PAL.l c4 PAL.n))) := by kernel_rfl
theorem q54x1 (h : Hp) (S : Nat → PAL → Option Value) (r2 : Int) (r7 : Int) (r17 : Value) (r18 : Int) (r19 : Int) (c4 : List Value) : P54x1 h S r2 r7 r17 r18 r19 c4 = G.stepAt packP unpackP evXV (regP env pf19 nt54 h) (finP env Try.f54.results.toList) (G.collect B54 A54 []) 1 S (PAL.i r2 (PAL.i r7 (PAL.v r17 (PAL.i r18 (PAL.i r19 (PAL.l c4 PAL.n)))))) := by kernel_rfl
theorem q54x0 (h : Hp) (S : Nat → PAL → Option Value) (r0 : Value) (r1 : Value) (r2 : Int) : P54x0 h S r0 r1 r2 = G.stepAt packP unpackP evXV (regP env pf19 nt54 h) (finP env Try.f54.results.toList) (G.collect B54 A54 []) 0 S (PAL.v r0 (PAL.v r1 (PAL.i r2 PAL.n))) := by kernel_rfl
theorem t54 (h : Hp) (S : Nat → PAL → Option Value) : TabP (fun l al => G.stepAt packP unpackP evXV (regP env pf19 nt54 h) (finP env Try.f54.results.toList) (G.collect B54 A54 []) l S al) (T54 h S) := by
  unfold T54
  refine TabP.cons 0 (fun vs0 q e0 => ?_) ?_
  · obtain ⟨r0, vs1, rfl, e1⟩ := wV_some e0
    obtain ⟨r1, vs2, rfl, e2⟩ := wV_some e1
    obtain ⟨r2, vs3, rfl, e3⟩ := wI_some e2
    obtain ⟨rfl, ee⟩ := wN_some e3
    exact (q54x0 h S r0 r1 r2).symm.trans ee
  refine TabP.cons 1 (fun vs0 q e0 => ?_) ?_
  · obtain ⟨r2, vs1, rfl, e1⟩ := wI_some e0
    obtain ⟨r7, vs2, rfl, e2⟩ := wI_some e1
    obtain ⟨r17, vs3, rfl, e3⟩ := wV_some e2
    obtain ⟨r18, vs4, rfl, e4⟩ := wI_some e3
    obtain ⟨r19, vs5, rfl, e5⟩ := wI_some e4
    obtain ⟨c4, vs6, rfl, e6⟩ := wL_some e5
    obtain ⟨rfl, ee⟩ := wN_some e6
    exact (q54x1 h S r2 r7 r17 r18 r19 c4).symm.trans ee
  refine TabP.cons 4 (fun vs0 q e0 => ?_) ?_
  · obtain ⟨r2, vs1, rfl, e1⟩ := wI_some e0
    obtain ⟨r7, vs2, rfl, e2⟩ := wI_some e1
    obtain ⟨c4, vs3, rfl, e3⟩ := wL_some e2
    obtain ⟨rfl, ee⟩ := wN_some e3
    exact (q54x4 h S r2 r7 c4).symm.trans ee
  refine TabP.cons 2 (fun vs0 q e0 => ?_) ?_
  · obtain ⟨r2, vs1, rfl, e1⟩ := wI_some e0
    obtain ⟨r7, vs2, rfl, e2⟩ := wI_some e1
    obtain ⟨r32, vs3, rfl, e3⟩ := wV_some e2
    obtain ⟨r33, vs4, rfl, e4⟩ := wI_some e3
    obtain ⟨rfl, ee⟩ := wN_some e4
    exact (q54x2 h S r2 r7 r32 r33).symm.trans ee
  refine TabP.cons 3 (fun vs0 q e0 => ?_) ?_
  · obtain ⟨r7, vs1, rfl, e1⟩ := wI_some e0
    obtain ⟨rfl, ee⟩ := wN_some e1
    exact (q54x3 h S r7).symm.trans ee
  exact TabP.nil
theorem r54 : PSound Try.prog 54 F54 := fun_soundP (C := C0) ok0 (pf := pf19) pfok19 (fn := Try.f54) (body := B54) (kinds := [Kd.v, Kd.v, Kd.i .i64]) (A := A54) (T := T54) (by kernel_rfl) (by kernel_rfl) (by kernel_rfl) (by kernel_rfl) (fun h S => t54 h S)
noncomputable def pf20 : PF := pfC 54 F54 pf19
theorem pfok20 : PfSound Try.prog pf20 := pfC_ok r54 pfok19
noncomputable def orc51 := orcP 54 F54 orc50
noncomputable def C51 : Cfg := cfg orc51
theorem ok51 : C51.Ok := orcP_ok (C := C50) ok50 r54
noncomputable def B19 : Code := (Try.f19.body).getD .skip
def A19 : Ann := (Ann.node (some (0, [(0, Kd.v), (1, Kd.v), (2, Kd.i .i64)])) bl (bn bl (bn (bn bl (bn (bn bl bl) bl)) (bn (bn bl (bn (bn bl bl) bl)) (bn bl bl)))))
noncomputable def P19x0 (S : Sg) (r0 : Value) (r1 : Value) (r2 : Int) (h : Hp) : CRes :=
  allocK h 26 (Array.toList (Value.cells r0)) fun a0 h0 =>
  loadNK 4 h0 a0 fun v1 =>
  pairK (callQ F53 [v1, r1] h0) fun v2 h2 =>
  extK v2 0 fun v3 =>
  extK v2 1 fun v4 =>
  extK v2 2 fun v5 =>
  intK .i64 v5 fun i6 =>
  allocK h2 85 [(Value.slice none 0 0), (Value.slice none 0 0), (ki 0), (Value.slice none 0 0), (Value.bool false), (ki 0), Value.nilFunc, Value.nilFunc, (Value.bool false), (ki 0), Value.nilFunc, Value.nilFunc, (Value.bool false), (ki 0), Value.nilFunc, Value.nilFunc] fun a7 h7 =>
  allocK h7 99 [(ki 0), (ki 0), (ki 0), (ki 0), (ki 0), (ki 0), (ki 0), (ki 0), (ki 0)] fun a8 h8 =>
  storeNK 16 h8 a7 v3 fun h9 =>
  storeNK 9 h9 a8 v4 fun h10 =>
  boolN (eqZ i6 (Int.ofNat 0)) fun b11 =>
  ifB b11
  (some (Value.tuple (List.toArray [(ki 0), (Value.int .i64 i6)]), h10))
  (pairK (buildSliceV env h10 34 1 (List.toArray [(0, (Value.int .i64 r2))])) fun v12 h12 =>
  pairK (optK (F33 [(ki 0), (ki 364), v12] h12) fun v => some (v, h12)) fun v13 h13 =>
  boolK v13 fun b14 =>
  boolN b14 fun b15 =>
  ifB b15
  (some (Value.tuple (List.toArray [(ki 0), (ki 7)]), h13))
  (loadNK 16 h13 a7 fun v16 =>
  loadNK 16 h13 a7 fun v17 =>
  loadNK 9 h13 a8 fun v18 =>
  pairK (pairK (callQ F55 [v17, v18] (Hp.mk (Hp.next h13) (Hp.next h13) (Hp.objs h13))) fun v _ => ifB (plainK v) (some (v, h13)) none) fun v19 h19 =>
  pairK (optK (F54 [v16, v19, (Value.int .i64 r2)] h19) fun v => some (v, h19)) fun v20 h20 =>
  intK .i64 v20 fun i21 =>
  some (Value.tuple (List.toArray [(Value.int .i64 i21), (ki 0)]), h20)))
noncomputable def T19 (S : Sg) : Sg := tabC 0 (uV fun r0 => uV fun r1 => uI fun r2 => uN fun h => P19x0 S r0 r1 r2 h) (tabN)
noncomputable def F19 (args : List Value) (h : Hp) : CRes := packVals [Kd.v, Kd.v, Kd.i .i64] args fun al => rec' T19 1000000 0 al h
def nt19 : Nat := 3 + (31 - 3)
theorem q19x0 (S : Sg) (r0 : Value) (r1 : Value) (r2 : Int) (h : Hp) : P19x0 S r0 r1 r2 h = stepAt (regK env orc51 (nt19)) (finK env Try.f19.results.toList) (collect B19 A19 []) 0 S (AL.v r0 (AL.v r1 (AL.i r2 AL.n))) h := by kernel_rfl
theorem t19 (S : Sg) : Tab (fun l vs h => stepAt (regK env orc51 nt19) (finK env Try.f19.results.toList) (collect B19 A19 []) l S vs h) (T19 S) := by
  unfold T19
  refine Tab.cons 0 (fun vs0 h q e0 => ?_) ?_
  · obtain ⟨r0, vs1, rfl, e1⟩ := uV_some e0
    obtain ⟨r1, vs2, rfl, e2⟩ := uV_some e1
    obtain ⟨r2, vs3, rfl, e3⟩ := uI_some e2
    obtain ⟨rfl, ee⟩ := uN_some e3
    exact (q19x0 S r0 r1 r2 h).symm.trans ee
  exact Tab.nil
theorem r19 : ∀ args h v h', F19 args h = some (v, h') → Runs (C51) (.call 19 args.toArray h) (.ret v h') := by
  intro args h v h' e
  exact fun_sound (C := C51) (fn := Try.f19) (body := B19) (np := 3) (A := A19) (T := T19) (kinds := [Kd.v, Kd.v, Kd.i .i64]) (by kernel_rfl) (by kernel_rfl) (by kernel_rfl) (by kernel_rfl) (regK_ok env_ok) (by kernel_rfl) (fun S => t19 S) e
noncomputable def orc52 := orcQ 19 F19 orc51
noncomputable def C52 : Cfg := cfg orc52
theorem ok52 : C52.Ok := orcQ_ok (C := C51) ok51 r19
noncomputable def B88 : Code := (Try.f88.body).getD .skip
def A88 : Ann := (Ann.node (some (0, [(0, Kd.v), (1, Kd.v)])) bl (bn bl (bn bl (bn (bn bl (bn (Ann.node (some (1, [(2, Kd.v), (5, Kd.i .i64), (6, Kd.v), (12, Kd.v), (13, Kd.i .i64)])) (bn bl (bn (bn bl bl) (bn (bn (bn bl bl) bl) bl))) bl) bl)) (Ann.node (some (2, [(5, Kd.i .i64)])) bl bl)))))
noncomputable def P88x2 (S : Sg) (r5 : Int) (h : Hp) : CRes :=
  some ((Value.int .i64 r5), h)
noncomputable def P88x1 (S : Sg) (r2 : Value) (r5 : Int) (r6 : Value) (r12 : Value) (r13 : Int) (h : Hp) : CRes :=
  boolZ (ltZ r13 (Int.ofNat 3)) fun b0 =>
  ifB b0
  (optK (indexV env 106 r12 (Value.int .i64 r13)) fun v1 =>
  allocK h 104 [(ki 0), (ki 0)] fun a2 h2 =>
  storeNK 2 h2 a2 v1 fun h3 =>
  loadNK 16 h3 r2 fun v4 =>
  loadNK 6 h3 r6 fun v5 =>
  ptrAddK 0 a2 fun v6 =>
  load1K h3 v6 fun v7 =>
  intK .i64 v7 fun i8 =>
  pairK (optK (F54 [v4, v5, (Value.int .i64 i8)] h3) fun v => some (v, h3)) fun v9 h9 =>
  intK .i64 v9 fun i10 =>
  wrap64 (Int.sub 0 i10) fun i11 =>
  maxZ r5 i11 fun i12 =>
  wrap64 (Int.add r13 (Int.ofNat 1)) fun i13 =>
  S 1 (AL.v r2 (AL.i i12 (AL.v r6 (AL.v r12 (AL.i i13 AL.n))))) h9)
  (S 2 (AL.i r5 AL.n) h)
noncomputable def P88x0 (S : Sg) (r0 : Value) (r1 : Value) (h : Hp) : CRes :=
  allocK h 85 (Array.toList (Value.cells r0)) fun a0 h0 =>
  allocK h0 99 (Array.toList (Value.cells r1)) fun a1 h1 =>
  loadNK 16 h1 a0 fun v2 =>
  loadNK 9 h1 a1 fun v3 =>
  pairK (callQ F55 [v2, v3] h1) fun v4 h4 =>
  allocK h4 106 [(ki 0), (ki 0), (ki 0), (ki 0), (ki 0), (ki 0)] fun a5 h5 =>
  storeNK 6 h5 a5 v4 fun h6 =>
  loadNK 6 h6 a5 fun v7 =>
  S 1 (AL.v a0 (AL.i (Int.ofNat 0) (AL.v a5 (AL.v v7 (AL.i (Int.ofNat 0) AL.n))))) h6
noncomputable def T88 (S : Sg) : Sg := tabC 0 (uV fun r0 => uV fun r1 => uN fun h => P88x0 S r0 r1 h) (tabC 1 (uV fun r2 => uI fun r5 => uV fun r6 => uV fun r12 => uI fun r13 => uN fun h => P88x1 S r2 r5 r6 r12 r13 h) (tabC 2 (uI fun r5 => uN fun h => P88x2 S r5 h) (tabN)))
noncomputable def F88 (args : List Value) (h : Hp) : CRes := packVals [Kd.v, Kd.v] args fun al => rec' T88 1000000 0 al h
def nt88 : Nat := 2 + (26 - 2)
theorem q88x2 (S : Sg) (r5 : Int) (h : Hp) : P88x2 S r5 h = stepAt (regK env orc52 (nt88)) (finK env Try.f88.results.toList) (collect B88 A88 []) 2 S (AL.i r5 AL.n) h := by kernel_rfl
theorem q88x1 (S : Sg) (r2 : Value) (r5 : Int) (r6 : Value) (r12 : Value) (r13 : Int) (h : Hp) : P88x1 S r2 r5 r6 r12 r13 h = stepAt (regK env orc52 (nt88)) (finK env Try.f88.results.toList) (collect B88 A88 []) 1 S (AL.v r2 (AL.i r5 (AL.v r6 (AL.v r12 (AL.i r13 AL.n))))) h := by kernel_rfl
theorem q88x0 (S : Sg) (r0 : Value) (r1 : Value) (h : Hp) : P88x0 S r0 r1 h = stepAt (regK env orc52 (nt88)) (finK env Try.f88.results.toList) (collect B88 A88 []) 0 S (AL.v r0 (AL.v r1 AL.n)) h := by kernel_rfl
theorem t88 (S : Sg) : Tab (fun l vs h => stepAt (regK env orc52 nt88) (finK env Try.f88.results.toList) (collect B88 A88 []) l S vs h) (T88 S) := by
  unfold T88
  refine Tab.cons 0 (fun vs0 h q e0 => ?_) ?_
  · obtain ⟨r0, vs1, rfl, e1⟩ := uV_some e0
    obtain ⟨r1, vs2, rfl, e2⟩ := uV_some e1
    obtain ⟨rfl, ee⟩ := uN_some e2
    exact (q88x0 S r0 r1 h).symm.trans ee
  refine Tab.cons 1 (fun vs0 h q e0 => ?_) ?_
  · obtain ⟨r2, vs1, rfl, e1⟩ := uV_some e0
    obtain ⟨r5, vs2, rfl, e2⟩ := uI_some e1
    obtain ⟨r6, vs3, rfl, e3⟩ := uV_some e2
    obtain ⟨r12, vs4, rfl, e4⟩ := uV_some e3
    obtain ⟨r13, vs5, rfl, e5⟩ := uI_some e4
    obtain ⟨rfl, ee⟩ := uN_some e5
    exact (q88x1 S r2 r5 r6 r12 r13 h).symm.trans ee
  refine Tab.cons 2 (fun vs0 h q e0 => ?_) ?_
  · obtain ⟨r5, vs1, rfl, e1⟩ := uI_some e0
    obtain ⟨rfl, ee⟩ := uN_some e1
    exact (q88x2 S r5 h).symm.trans ee
  exact Tab.nil
theorem r88 : ∀ args h v h', F88 args h = some (v, h') → Runs (C52) (.call 88 args.toArray h) (.ret v h') := by
  intro args h v h' e
  exact fun_sound (C := C52) (fn := Try.f88) (body := B88) (np := 2) (A := A88) (T := T88) (kinds := [Kd.v, Kd.v]) (by kernel_rfl) (by kernel_rfl) (by kernel_rfl) (by kernel_rfl) (regK_ok env_ok) (by kernel_rfl) (fun S => t88 S) e
noncomputable def orc53 := orcQ 88 F88 orc52
noncomputable def C53 : Cfg := cfg orc53
theorem ok53 : C53.Ok := orcQ_ok (C := C52) ok52 r88
noncomputable def B59 : Code := (Try.f59.body).getD .skip
def A59 : Ann := (Ann.node (some (0, [(0, Kd.v), (1, Kd.v)])) bl (bn bl bl))
noncomputable def P59x0 (S : Sg) (r0 : Value) (r1 : Value) (h : Hp) : CRes :=
  allocK h 85 (Array.toList (Value.cells r0)) fun a0 h0 =>
  allocK h0 99 (Array.toList (Value.cells r1)) fun a1 h1 =>
  loadNK 16 h1 a0 fun v2 =>
  loadNK 9 h1 a1 fun v3 =>
  pairK (callQ F88 [v2, v3] h1) fun v4 h4 =>
  intK .i64 v4 fun i5 =>
  boolZ (eqZ i5 (Int.ofNat 0)) fun b6 =>
  some ((Value.bool b6), h4)
noncomputable def T59 (S : Sg) : Sg := tabC 0 (uV fun r0 => uV fun r1 => uN fun h => P59x0 S r0 r1 h) (tabN)
noncomputable def F59 (args : List Value) (h : Hp) : CRes := packVals [Kd.v, Kd.v] args fun al => rec' T59 1000000 0 al h
def nt59 : Nat := 2 + (9 - 2)
theorem q59x0 (S : Sg) (r0 : Value) (r1 : Value) (h : Hp) : P59x0 S r0 r1 h = stepAt (regK env orc53 (nt59)) (finK env Try.f59.results.toList) (collect B59 A59 []) 0 S (AL.v r0 (AL.v r1 AL.n)) h := by kernel_rfl
theorem t59 (S : Sg) : Tab (fun l vs h => stepAt (regK env orc53 nt59) (finK env Try.f59.results.toList) (collect B59 A59 []) l S vs h) (T59 S) := by
  unfold T59
  refine Tab.cons 0 (fun vs0 h q e0 => ?_) ?_
  · obtain ⟨r0, vs1, rfl, e1⟩ := uV_some e0
    obtain ⟨r1, vs2, rfl, e2⟩ := uV_some e1
    obtain ⟨rfl, ee⟩ := uN_some e2
    exact (q59x0 S r0 r1 h).symm.trans ee
  exact Tab.nil
theorem r59 : ∀ args h v h', F59 args h = some (v, h') → Runs (C53) (.call 59 args.toArray h) (.ret v h') := by
  intro args h v h' e
  exact fun_sound (C := C53) (fn := Try.f59) (body := B59) (np := 2) (A := A59) (T := T59) (kinds := [Kd.v, Kd.v]) (by kernel_rfl) (by kernel_rfl) (by kernel_rfl) (by kernel_rfl) (regK_ok env_ok) (by kernel_rfl) (fun S => t59 S) e
noncomputable def orc54 := orcQ 59 F59 orc53
noncomputable def C54 : Cfg := cfg orc54
theorem ok54 : C54.Ok := orcQ_ok (C := C53) ok53 r59
noncomputable def B58 : Code := (Try.f58.body).getD .skip
def A58 : Ann := (Ann.node (some (0, [(0, Kd.v), (1, Kd.v)])) bl (bn bl (bn (bn bl (bn (Ann.node (some (1, [(2, Kd.v), (3, Kd.v), (5, Kd.v), (10, Kd.i .i64), (11, Kd.i .i64)])) (bn bl (bn (bn bl bl) (bn (bn (bn bl bl) bl) bl))) bl) bl)) (Ann.node (some (2, [(2, Kd.v), (3, Kd.v), (5, Kd.v)])) bl bl))))
noncomputable def P58x2 (S : Sg) (r2 : Value) (r3 : Value) (r5 : Value) (h : Hp) : CRes :=
  some ((Value.func (.func 86) (List.toArray []) (List.toArray [r2, r5, r3])), h)
noncomputable def P58x1 (S : Sg) (r2 : Value) (r3 : Value) (r5 : Value) (r10 : Int) (r11 : Int) (h : Hp) : CRes :=
  boolZ (ltZ r11 r10) fun b0 =>
  ifB b0
  (loadNK 16 h r2 fun v1 =>
  pairK (callQ F47 [v1, (Value.int .i64 r11)] h) fun v2 h2 =>
  idxAK 3 1 r5 r11 fun v3 =>
  store1K h2 v3 v2 fun h4 =>
  wrap64 (Int.add r11 (Int.ofNat 1)) fun i5 =>
  S 1 (AL.v r2 (AL.v r3 (AL.v r5 (AL.i r10 (AL.i i5 AL.n))))) h4)
  (S 2 (AL.v r2 (AL.v r3 (AL.v r5 AL.n))) h)
noncomputable def P58x0 (S : Sg) (r0 : Value) (r1 : Value) (h : Hp) : CRes :=
  allocK h 85 (Array.toList (Value.cells r0)) fun a0 h0 =>
  allocK h0 116 (Array.toList (Value.cells r1)) fun a1 h1 =>
  allocK h1 147 [(Value.slice none 0 0), (Value.slice none 0 0), (Value.slice none 0 0)] fun a2 h2 =>
  ptrAddK 0 a0 fun v3 =>
  ptrAddK 1 v3 fun v4 =>
  load1K h2 v4 fun v5 =>
  lenSK v5 fun i6 =>
  S 1 (AL.v a0 (AL.v a1 (AL.v a2 (AL.i i6 (AL.i (Int.ofNat 0) AL.n))))) h2
noncomputable def T58 (S : Sg) : Sg := tabC 0 (uV fun r0 => uV fun r1 => uN fun h => P58x0 S r0 r1 h) (tabC 1 (uV fun r2 => uV fun r3 => uV fun r5 => uI fun r10 => uI fun r11 => uN fun h => P58x1 S r2 r3 r5 r10 r11 h) (tabC 2 (uV fun r2 => uV fun r3 => uV fun r5 => uN fun h => P58x2 S r2 r3 r5 h) (tabN)))
noncomputable def F58 (args : List Value) (h : Hp) : CRes := packVals [Kd.v, Kd.v] args fun al => rec' T58 1000000 0 al h
def nt58 : Nat := 2 + (21 - 2)
theorem q58x2 (S : Sg) (r2 : Value) (r3 : Value) (r5 : Value) (h : Hp) : P58x2 S r2 r3 r5 h = stepAt (regK env orc54 (nt58)) (finK env Try.f58.results.toList) (collect B58 A58 []) 2 S (AL.v r2 (AL.v r3 (AL.v r5 AL.n))) h := by kernel_rfl
theorem q58x1 (S : Sg) (r2 : Value) (r3 : Value) (r5 : Value) (r10 : Int) (r11 : Int) (h : Hp) : P58x1 S r2 r3 r5 r10 r11 h = stepAt (regK env orc54 (nt58)) (finK env Try.f58.results.toList) (collect B58 A58 []) 1 S (AL.v r2 (AL.v r3 (AL.v r5 (AL.i r10 (AL.i r11 AL.n))))) h := by kernel_rfl
theorem q58x0 (S : Sg) (r0 : Value) (r1 : Value) (h : Hp) : P58x0 S r0 r1 h = stepAt (regK env orc54 (nt58)) (finK env Try.f58.results.toList) (collect B58 A58 []) 0 S (AL.v r0 (AL.v r1 AL.n)) h := by kernel_rfl
theorem t58 (S : Sg) : Tab (fun l vs h => stepAt (regK env orc54 nt58) (finK env Try.f58.results.toList) (collect B58 A58 []) l S vs h) (T58 S) := by
  unfold T58
  refine Tab.cons 0 (fun vs0 h q e0 => ?_) ?_
  · obtain ⟨r0, vs1, rfl, e1⟩ := uV_some e0
    obtain ⟨r1, vs2, rfl, e2⟩ := uV_some e1
    obtain ⟨rfl, ee⟩ := uN_some e2
    exact (q58x0 S r0 r1 h).symm.trans ee
  refine Tab.cons 1 (fun vs0 h q e0 => ?_) ?_
  · obtain ⟨r2, vs1, rfl, e1⟩ := uV_some e0
    obtain ⟨r3, vs2, rfl, e2⟩ := uV_some e1
    obtain ⟨r5, vs3, rfl, e3⟩ := uV_some e2
    obtain ⟨r10, vs4, rfl, e4⟩ := uI_some e3
    obtain ⟨r11, vs5, rfl, e5⟩ := uI_some e4
    obtain ⟨rfl, ee⟩ := uN_some e5
    exact (q58x1 S r2 r3 r5 r10 r11 h).symm.trans ee
  refine Tab.cons 2 (fun vs0 h q e0 => ?_) ?_
  · obtain ⟨r2, vs1, rfl, e1⟩ := uV_some e0
    obtain ⟨r3, vs2, rfl, e2⟩ := uV_some e1
    obtain ⟨r5, vs3, rfl, e3⟩ := uV_some e2
    obtain ⟨rfl, ee⟩ := uN_some e3
    exact (q58x2 S r2 r3 r5 h).symm.trans ee
  exact Tab.nil
theorem r58 : ∀ args h v h', F58 args h = some (v, h') → Runs (C54) (.call 58 args.toArray h) (.ret v h') := by
  intro args h v h' e
  exact fun_sound (C := C54) (fn := Try.f58) (body := B58) (np := 2) (A := A58) (T := T58) (kinds := [Kd.v, Kd.v]) (by kernel_rfl) (by kernel_rfl) (by kernel_rfl) (by kernel_rfl) (regK_ok env_ok) (by kernel_rfl) (fun S => t58 S) e
noncomputable def orc55 := orcQ 58 F58 orc54
noncomputable def C55 : Cfg := cfg orc55
theorem ok55 : C55.Ok := orcQ_ok (C := C54) ok54 r58
noncomputable def B85 : Code := (Try.f85.body).getD .skip
noncomputable def A85 : G.Ann (List KI) := (G.Ann.node (some (0, [KI.reg 0 (Kd.v)])) al (an al (an (an al (an (G.Ann.node (some (1, [KI.loc 2 2, KI.loc 3 3, KI.reg 6 (Kd.v), KI.reg 7 (Kd.i .i64), KI.cells 2 [Kd.i .i64, Kd.i .i64, Kd.i .i64], KI.cells 3 [Kd.i .i64, Kd.i .i64, Kd.i .i64]])) (an al (an (an al al) (an (an (an al al) al) al))) al) al)) (G.Ann.node (some (2, [KI.loc 2 2, KI.loc 3 3, KI.cells 2 [Kd.i .i64, Kd.i .i64, Kd.i .i64], KI.cells 3 [Kd.i .i64, Kd.i .i64, Kd.i .i64]])) al al))))
noncomputable def P85x2 (h : Hp) (S : Nat → PAL → Option Value) (c2x0 : Int) (c2x1 : Int) (c2x2 : Int) (c3x0 : Int) (c3x1 : Int) (c3x2 : Int) : Option Value :=
  aggK (Value.agg (Array.mk [(Value.int .i64 c3x0), (Value.int .i64 c3x1), (Value.int .i64 c3x2)])) fun l0 => ifB (Nat.beq (lenR l0) 3) (segR 0 l0 [(Value.int .i64 c2x0), (Value.int .i64 c2x1), (Value.int .i64 c2x2)] fun c0 =>
  dropR c0 0 fun d1 => takeR d1 3 fun l1 => some (Value.agg (Array.mk l1))) none
noncomputable def P85x1 (h : Hp) (S : Nat → PAL → Option Value) (r6 : Value) (r7 : Int) (c2x0 : Int) (c2x1 : Int) (c2x2 : Int) (c3x0 : Int) (c3x1 : Int) (c3x2 : Int) : Option Value :=
  boolZ (ltZ r7 (Int.ofNat 3)) fun b0 =>
  ifB b0
  (optK (indexV env 99 r6 (Value.int .i64 r7)) fun v1 =>
  aggK v1 fun l2 => ifB (Nat.beq (lenR l2) 3) (segR 0 l2 [(ki 0), (ki 0), (ki 0)] fun c2 =>
  nthR c2 0 fun v3 =>
  intK .i64 v3 fun i4 =>
  onI r7 (fun n5 => ifB (Nat.ble (Nat.succ n5) 3) (forceN (Nat.add 0 (Nat.mul n5 1)) fun o5 =>
  setNthR [(Value.int .i64 c3x0), (Value.int .i64 c3x1), (Value.int .i64 c3x2)] o5 (Value.int .i64 i4) fun c6 =>
  wrap64 (Int.add r7 (Int.ofNat 1)) fun i7 =>
  unconsK c6 fun a8 c8 =>
  intK .i64 a8 fun i9 =>
  unconsK c8 fun a10 c10 =>
  intK .i64 a10 fun i11 =>
  unconsK c10 fun a12 c12 =>
  intK .i64 a12 fun i13 =>
  nilK c12 (S 1 (PAL.v r6 (PAL.i i7 (PAL.i c2x0 (PAL.i c2x1 (PAL.i c2x2 (PAL.i i9 (PAL.i i11 (PAL.i i13 PAL.n)))))))))) none) (fun _ => none)) none)
  (S 2 (PAL.i c2x0 (PAL.i c2x1 (PAL.i c2x2 (PAL.i c3x0 (PAL.i c3x1 (PAL.i c3x2 PAL.n)))))))
noncomputable def P85x0 (h : Hp) (S : Nat → PAL → Option Value) (r0 : Value) : Option Value :=
  forceL (Array.toList (Value.cells r0)) fun c0 =>
  dropR c0 0 fun d1 => takeR d1 9 fun l1 =>
  S 1 (PAL.v (Value.agg (Array.mk l1)) (PAL.i (Int.ofNat 0) (PAL.i (Int.ofNat 0) (PAL.i (Int.ofNat 0) (PAL.i (Int.ofNat 0) (PAL.i (Int.ofNat 0) (PAL.i (Int.ofNat 0) (PAL.i (Int.ofNat 0) PAL.n))))))))
noncomputable def T85 (h : Hp) (S : Nat → PAL → Option Value) : Nat → PAL → Option Value := tabPC 0 (wV fun r0 => wN (P85x0 h S r0)) (tabPC 1 (wV fun r6 => wI fun r7 => wI fun c2x0 => wI fun c2x1 => wI fun c2x2 => wI fun c3x0 => wI fun c3x1 => wI fun c3x2 => wN (P85x1 h S r6 r7 c2x0 c2x1 c2x2 c3x0 c3x1 c3x2)) (tabPC 2 (wI fun c2x0 => wI fun c2x1 => wI fun c2x2 => wI fun c3x0 => wI fun c3x1 => wI fun c3x2 => wN (P85x2 h S c2x0 c2x1 c2x2 c3x0 c3x1 c3x2)) (tabPN)))
noncomputable def F85 (args : List Value) (h : Hp) : Option Value := plainO (packArgs [Kd.v] args fun al => G.rec' (T85 h) 1000000 0 al)
def nt85 : Nat := 1 + (17 - 1)
theorem q85x2 (h : Hp) (S : Nat → PAL → Option Value) (c2x0 : Int) (c2x1 : Int) (c2x2 : Int) (c3x0 : Int) (c3x1 : Int) (c3x2 : Int) : P85x2 h S c2x0 c2x1 c2x2 c3x0 c3x1 c3x2 = G.stepAt packP unpackP evXV (regP env pf20 nt85 h) (finP env Try.f85.results.toList) (G.collect B85 A85 []) 2 S (PAL.i c2x0 (PAL.i c2x1 (PAL.i c2x2 (PAL.i c3x0 (PAL.i c3x1 (PAL.i c3x2 PAL.n)))))) := by kernel_rfl
theorem q85x1 (h : Hp) (S : Nat → PAL → Option Value) (r6 : Value) (r7 : Int) (c2x0 : Int) (c2x1 : Int) (c2x2 : Int) (c3x0 : Int) (c3x1 : Int) (c3x2 : Int) : P85x1 h S r6 r7 c2x0 c2x1 c2x2 c3x0 c3x1 c3x2 = G.stepAt packP unpackP evXV (regP env pf20 nt85 h) (finP env Try.f85.results.toList) (G.collect B85 A85 []) 1 S (PAL.v r6 (PAL.i r7 (PAL.i c2x0 (PAL.i c2x1 (PAL.i c2x2 (PAL.i c3x0 (PAL.i c3x1 (PAL.i c3x2 PAL.n)))))))) := by kernel_rfl
theorem q85x0 (h : Hp) (S : Nat → PAL → Option Value) (r0 : Value) : P85x0 h S r0 = G.stepAt packP unpackP evXV (regP env pf20 nt85 h) (finP env Try.f85.results.toList) (G.collect B85 A85 []) 0 S (PAL.v r0 PAL.n) := by kernel_rfl
theorem t85 (h : Hp) (S : Nat → PAL → Option Value) : TabP (fun l al => G.stepAt packP unpackP evXV (regP env pf20 nt85 h) (finP env Try.f85.results.toList) (G.collect B85 A85 []) l S al) (T85 h S) := by
  unfold T85
  refine TabP.cons 0 (fun vs0 q e0 => ?_) ?_
  · obtain ⟨r0, vs1, rfl, e1⟩ := wV_some e0
    obtain ⟨rfl, ee⟩ := wN_some e1
    exact (q85x0 h S r0).symm.trans ee
  refine TabP.cons 1 (fun vs0 q e0 => ?_) ?_
  · obtain ⟨r6, vs1, rfl, e1⟩ := wV_some e0
    obtain ⟨r7, vs2, rfl, e2⟩ := wI_some e1
    obtain ⟨c2x0, vs3, rfl, e3⟩ := wI_some e2
    obtain ⟨c2x1, vs4, rfl, e4⟩ := wI_some e3
    obtain ⟨c2x2, vs5, rfl, e5⟩ := wI_some e4
    obtain ⟨c3x0, vs6, rfl, e6⟩ := wI_some e5
    obtain ⟨c3x1, vs7, rfl, e7⟩ := wI_some e6
    obtain ⟨c3x2, vs8, rfl, e8⟩ := wI_some e7
    obtain ⟨rfl, ee⟩ := wN_some e8
    exact (q85x1 h S r6 r7 c2x0 c2x1 c2x2 c3x0 c3x1 c3x2).symm.trans ee
  refine TabP.cons 2 (fun vs0 q e0 => ?_) ?_
  · obtain ⟨c2x0, vs1, rfl, e1⟩ := wI_some e0
    obtain ⟨c2x1, vs2, rfl, e2⟩ := wI_some e1
    obtain ⟨c2x2, vs3, rfl, e3⟩ := wI_some e2
    obtain ⟨c3x0, vs4, rfl, e4⟩ := wI_some e3
    obtain ⟨c3x1, vs5, rfl, e5⟩ := wI_some e4
    obtain ⟨c3x2, vs6, rfl, e6⟩ := wI_some e5
    obtain ⟨rfl, ee⟩ := wN_some e6
    exact (q85x2 h S c2x0 c2x1 c2x2 c3x0 c3x1 c3x2).symm.trans ee
  exact TabP.nil
theorem r85 : PSound Try.prog 85 F85 := fun_soundP (C := C0) ok0 (pf := pf20) pfok20 (fn := Try.f85) (body := B85) (kinds := [Kd.v]) (A := A85) (T := T85) (by kernel_rfl) (by kernel_rfl) (by kernel_rfl) (by kernel_rfl) (fun h S => t85 h S)
noncomputable def pf21 : PF := pfC 85 F85 pf20
theorem pfok21 : PfSound Try.prog pf21 := pfC_ok r85 pfok20
noncomputable def orc56 := orcP 85 F85 orc55
noncomputable def C56 : Cfg := cfg orc56
theorem ok56 : C56.Ok := orcP_ok (C := C55) ok55 r85
noncomputable def B61 : Code := (Try.f61.body).getD .skip
noncomputable def A61 : G.Ann (List KI) := (G.Ann.node (some (0, [KI.reg 0 (Kd.v), KI.reg 1 (Kd.v)])) al (an al (an (an al (an (G.Ann.node (some (1, [KI.loc 3 3, KI.reg 5 (Kd.i .i64), KI.reg 10 (Kd.i .i64), KI.reg 11 (Kd.i .i64), KI.cells 3 [Kd.i .i64, Kd.i .i64, Kd.i .i64]])) (an al (an (an al al) (an (an (an al (an al (an al al))) al) al))) al) al)) (G.Ann.node (some (2, [KI.reg 5 (Kd.i .i64)])) al al))))
noncomputable def P61x2 (h : Hp) (S : Nat → PAL → Option Value) (r5 : Int) : Option Value :=
  some (Value.int .i64 r5)
noncomputable def P61x1 (h : Hp) (S : Nat → PAL → Option Value) (r5 : Int) (r10 : Int) (r11 : Int) (c3x0 : Int) (c3x1 : Int) (c3x2 : Int) : Option Value :=
  boolZ (ltZ r11 r10) fun b0 =>
  ifB b0
  (onI r11 (fun n1 => ifB (Nat.ble (Nat.succ n1) 3) (forceN (Nat.add 0 (Nat.mul n1 1)) fun o1 =>
  nthR [(Value.int .i64 c3x0), (Value.int .i64 c3x1), (Value.int .i64 c3x2)] o1 fun v2 =>
  intK .i64 v2 fun i3 =>
  boolZ (eqZ i3 (Int.negSucc 0)) fun b4 =>
  ifB b4
  (wrap64 (Int.add r5 (Int.ofNat 1)) fun i5 =>
  wrap64 (Int.add r11 (Int.ofNat 1)) fun i6 =>
  S 1 (PAL.i i5 (PAL.i r10 (PAL.i i6 (PAL.i c3x0 (PAL.i c3x1 (PAL.i c3x2 PAL.n)))))))
  (wrap64 (Int.add r11 (Int.ofNat 1)) fun i7 =>
  S 1 (PAL.i r5 (PAL.i r10 (PAL.i i7 (PAL.i c3x0 (PAL.i c3x1 (PAL.i c3x2 PAL.n)))))))) none) (fun _ => none))
  (S 2 (PAL.i r5 PAL.n))
noncomputable def P61x0 (h : Hp) (S : Nat → PAL → Option Value) (r0 : Value) (r1 : Value) : Option Value :=
  forceL (Array.toList (Value.cells r0)) fun c0 =>
  forceL (Array.toList (Value.cells r1)) fun c1 =>
  nthR c0 1 fun v2 =>
  lenSK v2 fun i3 =>
  unconsK c1 fun a4 c4 =>
  intK .i64 a4 fun i5 =>
  unconsK c4 fun a6 c6 =>
  intK .i64 a6 fun i7 =>
  unconsK c6 fun a8 c8 =>
  intK .i64 a8 fun i9 =>
  nilK c8 (S 1 (PAL.i (Int.ofNat 0) (PAL.i i3 (PAL.i (Int.ofNat 0) (PAL.i i5 (PAL.i i7 (PAL.i i9 PAL.n)))))))
noncomputable def T61 (h : Hp) (S : Nat → PAL → Option Value) : Nat → PAL → Option Value := tabPC 0 (wV fun r0 => wV fun r1 => wN (P61x0 h S r0 r1)) (tabPC 1 (wI fun r5 => wI fun r10 => wI fun r11 => wI fun c3x0 => wI fun c3x1 => wI fun c3x2 => wN (P61x1 h S r5 r10 r11 c3x0 c3x1 c3x2)) (tabPC 2 (wI fun r5 => wN (P61x2 h S r5)) (tabPN)))
noncomputable def F61 (args : List Value) (h : Hp) : Option Value := plainO (packArgs [Kd.v, Kd.v] args fun al => G.rec' (T61 h) 1000000 0 al)
def nt61 : Nat := 2 + (22 - 2)
theorem q61x2 (h : Hp) (S : Nat → PAL → Option Value) (r5 : Int) : P61x2 h S r5 = G.stepAt packP unpackP evXV (regP env pf21 nt61 h) (finP env Try.f61.results.toList) (G.collect B61 A61 []) 2 S (PAL.i r5 PAL.n) := by kernel_rfl
theorem q61x1 (h : Hp) (S : Nat → PAL → Option Value) (r5 : Int) (r10 : Int) (r11 : Int) (c3x0 : Int) (c3x1 : Int) (c3x2 : Int) : P61x1 h S r5 r10 r11 c3x0 c3x1 c3x2 = G.stepAt packP unpackP evXV (regP env pf21 nt61 h) (finP env Try.f61.results.toList) (G.collect B61 A61 []) 1 S (PAL.i r5 (PAL.i r10 (PAL.i r11 (PAL.i c3x0 (PAL.i c3x1 (PAL.i c3x2 PAL.n)))))) := by kernel_rfl
theorem q61x0 (h : Hp) (S : Nat → PAL → Option Value) (r0 : Value) (r1 : Value) : P61x0 h S r0 r1 = G.stepAt packP unpackP evXV (regP env pf21 nt61 h) (finP env Try.f61.results.toList) (G.collect B61 A61 []) 0 S (PAL.v r0 (PAL.v r1 PAL.n)) := by kernel_rfl
theorem t61 (h : Hp) (S : Nat → PAL → Option Value) : TabP (fun l al => G.stepAt packP unpackP evXV (regP env pf21 nt61 h) (finP env Try.f61.results.toList) (G.collect B61 A61 []) l S al) (T61 h S) := by
  unfold T61
  refine TabP.cons 0 (fun vs0 q e0 => ?_) ?_
  · obtain ⟨r0, vs1, rfl, e1⟩ := wV_some e0
    obtain ⟨r1, vs2, rfl, e2⟩ := wV_some e1
    obtain ⟨rfl, ee⟩ := wN_some e2
    exact (q61x0 h S r0 r1).symm.trans ee
  refine TabP.cons 1 (fun vs0 q e0 => ?_) ?_
  · obtain ⟨r5, vs1, rfl, e1⟩ := wI_some e0
    obtain ⟨r10, vs2, rfl, e2⟩ := wI_some e1
    obtain ⟨r11, vs3, rfl, e3⟩ := wI_some e2
    obtain ⟨c3x0, vs4, rfl, e4⟩ := wI_some e3
    obtain ⟨c3x1, vs5, rfl, e5⟩ := wI_some e4
    obtain ⟨c3x2, vs6, rfl, e6⟩ := wI_some e5
    obtain ⟨rfl, ee⟩ := wN_some e6
    exact (q61x1 h S r5 r10 r11 c3x0 c3x1 c3x2).symm.trans ee
  refine TabP.cons 2 (fun vs0 q e0 => ?_) ?_
  · obtain ⟨r5, vs1, rfl, e1⟩ := wI_some e0
    obtain ⟨rfl, ee⟩ := wN_some e1
    exact (q61x2 h S r5).symm.trans ee
  exact TabP.nil
theorem r61 : PSound Try.prog 61 F61 := fun_soundP (C := C0) ok0 (pf := pf21) pfok21 (fn := Try.f61) (body := B61) (kinds := [Kd.v, Kd.v]) (A := A61) (T := T61) (by kernel_rfl) (by kernel_rfl) (by kernel_rfl) (by kernel_rfl) (fun h S => t61 h S)
noncomputable def pf22 : PF := pfC 61 F61 pf21
theorem pfok22 : PfSound Try.prog pf22 := pfC_ok r61 pfok21
noncomputable def orc57 := orcP 61 F61 orc56
noncomputable def C57 : Cfg := cfg orc57
theorem ok57 : C57.Ok := orcP_ok (C := C56) ok56 r61
noncomputable def B60 : Code := (Try.f60.body).getD .skip
def A60 : Ann := (Ann.node (some (0, [(0, Kd.v), (1, Kd.v)])) bl (bn bl (bn (bn bl (bn (Ann.node (some (1, [(2, Kd.v), (3, Kd.v), (4, Kd.v), (5, Kd.i .i64), (10, Kd.v), (11, Kd.i .i64)])) (bn bl (bn (bn bl bl) (bn (bn (bn bl bl) bl) bl))) bl) bl)) (Ann.node (some (2, [(2, Kd.v), (3, Kd.v), (4, Kd.v), (5, Kd.i .i64)])) bl bl))))
noncomputable def P60x2 (S : Sg) (r2 : Value) (r3 : Value) (r4 : Value) (r5 : Int) (h : Hp) : CRes :=
  loadNK 16 h r2 fun v0 =>
  loadNK 9 h r3 fun v1 =>
  pairK (pairK (optK (F85 [v1] (Hp.mk (Hp.next h) (Hp.next h) (Hp.objs h))) fun v => some (v, (Hp.mk (Hp.next h) (Hp.next h) (Hp.objs h)))) fun v _ => ifB (plainK v) (some (v, h)) none) fun v2 h2 =>
  pairK (pairK (optK (F61 [v0, v2] (Hp.mk (Hp.next h2) (Hp.next h2) (Hp.objs h2))) fun v => some (v, (Hp.mk (Hp.next h2) (Hp.next h2) (Hp.objs h2)))) fun v _ => ifB (plainK v) (some (v, h2)) none) fun v3 h3 =>
  intK .i64 v3 fun i4 =>
  optK (buildV env 109 (List.toArray [(0, (Value.int .i64 i4)), (1, (Value.int .i64 r5))])) fun v5 =>
  storeNK 2 h3 r4 v5 fun h6 =>
  loadNK 2 h6 r4 fun v7 => some (v7, h6)
noncomputable def P60x1 (S : Sg) (r2 : Value) (r3 : Value) (r4 : Value) (r5 : Int) (r10 : Value) (r11 : Int) (h : Hp) : CRes :=
  boolZ (ltZ r11 (Int.ofNat 3)) fun b0 =>
  ifB b0
  (optK (indexV env 106 r10 (Value.int .i64 r11)) fun v1 =>
  allocK h 104 [(ki 0), (ki 0)] fun a2 h2 =>
  storeNK 2 h2 a2 v1 fun h3 =>
  ptrAddK 1 a2 fun v4 =>
  load1K h3 v4 fun v5 =>
  intK .i64 v5 fun i6 =>
  wrap64 (Int.add r5 i6) fun i7 =>
  wrap64 (Int.add r11 (Int.ofNat 1)) fun i8 =>
  S 1 (AL.v r2 (AL.v r3 (AL.v r4 (AL.i i7 (AL.v r10 (AL.i i8 AL.n)))))) h3)
  (S 2 (AL.v r2 (AL.v r3 (AL.v r4 (AL.i r5 AL.n)))) h)
noncomputable def P60x0 (S : Sg) (r0 : Value) (r1 : Value) (h : Hp) : CRes :=
  allocK h 85 (Array.toList (Value.cells r0)) fun a0 h0 =>
  allocK h0 99 (Array.toList (Value.cells r1)) fun a1 h1 =>
  allocK h1 109 [(ki 0), (ki 0)] fun a2 h2 =>
  loadNK 16 h2 a0 fun v3 =>
  loadNK 9 h2 a1 fun v4 =>
  pairK (callQ F55 [v3, v4] h2) fun v5 h5 =>
  S 1 (AL.v a0 (AL.v a1 (AL.v a2 (AL.i (Int.ofNat 0) (AL.v v5 (AL.i (Int.ofNat 0) AL.n)))))) h5
noncomputable def T60 (S : Sg) : Sg := tabC 0 (uV fun r0 => uV fun r1 => uN fun h => P60x0 S r0 r1 h) (tabC 1 (uV fun r2 => uV fun r3 => uV fun r4 => uI fun r5 => uV fun r10 => uI fun r11 => uN fun h => P60x1 S r2 r3 r4 r5 r10 r11 h) (tabC 2 (uV fun r2 => uV fun r3 => uV fun r4 => uI fun r5 => uN fun h => P60x2 S r2 r3 r4 r5 h) (tabN)))
noncomputable def F60 (args : List Value) (h : Hp) : CRes := packVals [Kd.v, Kd.v] args fun al => rec' T60 1000000 0 al h
def nt60 : Nat := 2 + (25 - 2)
theorem q60x2 (S : Sg) (r2 : Value) (r3 : Value) (r4 : Value) (r5 : Int) (h : Hp) : P60x2 S r2 r3 r4 r5 h = stepAt (regK env orc57 (nt60)) (finK env Try.f60.results.toList) (collect B60 A60 []) 2 S (AL.v r2 (AL.v r3 (AL.v r4 (AL.i r5 AL.n)))) h := by kernel_rfl
theorem q60x1 (S : Sg) (r2 : Value) (r3 : Value) (r4 : Value) (r5 : Int) (r10 : Value) (r11 : Int) (h : Hp) : P60x1 S r2 r3 r4 r5 r10 r11 h = stepAt (regK env orc57 (nt60)) (finK env Try.f60.results.toList) (collect B60 A60 []) 1 S (AL.v r2 (AL.v r3 (AL.v r4 (AL.i r5 (AL.v r10 (AL.i r11 AL.n)))))) h := by kernel_rfl
theorem q60x0 (S : Sg) (r0 : Value) (r1 : Value) (h : Hp) : P60x0 S r0 r1 h = stepAt (regK env orc57 (nt60)) (finK env Try.f60.results.toList) (collect B60 A60 []) 0 S (AL.v r0 (AL.v r1 AL.n)) h := by kernel_rfl
theorem t60 (S : Sg) : Tab (fun l vs h => stepAt (regK env orc57 nt60) (finK env Try.f60.results.toList) (collect B60 A60 []) l S vs h) (T60 S) := by
  unfold T60
  refine Tab.cons 0 (fun vs0 h q e0 => ?_) ?_
  · obtain ⟨r0, vs1, rfl, e1⟩ := uV_some e0
    obtain ⟨r1, vs2, rfl, e2⟩ := uV_some e1
    obtain ⟨rfl, ee⟩ := uN_some e2
    exact (q60x0 S r0 r1 h).symm.trans ee
  refine Tab.cons 1 (fun vs0 h q e0 => ?_) ?_
  · obtain ⟨r2, vs1, rfl, e1⟩ := uV_some e0
    obtain ⟨r3, vs2, rfl, e2⟩ := uV_some e1
    obtain ⟨r4, vs3, rfl, e3⟩ := uV_some e2
    obtain ⟨r5, vs4, rfl, e4⟩ := uI_some e3
    obtain ⟨r10, vs5, rfl, e5⟩ := uV_some e4
    obtain ⟨r11, vs6, rfl, e6⟩ := uI_some e5
    obtain ⟨rfl, ee⟩ := uN_some e6
    exact (q60x1 S r2 r3 r4 r5 r10 r11 h).symm.trans ee
  refine Tab.cons 2 (fun vs0 h q e0 => ?_) ?_
  · obtain ⟨r2, vs1, rfl, e1⟩ := uV_some e0
    obtain ⟨r3, vs2, rfl, e2⟩ := uV_some e1
    obtain ⟨r4, vs3, rfl, e3⟩ := uV_some e2
    obtain ⟨r5, vs4, rfl, e4⟩ := uI_some e3
    obtain ⟨rfl, ee⟩ := uN_some e4
    exact (q60x2 S r2 r3 r4 r5 h).symm.trans ee
  exact Tab.nil
theorem r60 : ∀ args h v h', F60 args h = some (v, h') → Runs (C57) (.call 60 args.toArray h) (.ret v h') := by
  intro args h v h' e
  exact fun_sound (C := C57) (fn := Try.f60) (body := B60) (np := 2) (A := A60) (T := T60) (kinds := [Kd.v, Kd.v]) (by kernel_rfl) (by kernel_rfl) (by kernel_rfl) (by kernel_rfl) (regK_ok env_ok) (by kernel_rfl) (fun S => t60 S) e
noncomputable def orc58 := orcQ 60 F60 orc57
noncomputable def C58 : Cfg := cfg orc58
theorem ok58 : C58.Ok := orcQ_ok (C := C57) ok57 r60
noncomputable def B90 : Code := (Try.f90.body).getD .skip
noncomputable def A90 : G.Ann (List KI) := (G.Ann.node (some (0, [KI.reg 0 (Kd.i .i64)])) al (an al al))
noncomputable def P90x0 (h : Hp) (S : Nat → PAL → Option Value) (r0 : Int) : Option Value :=
  boolN (eqZ r0 r0) fun b0 =>
  some (Value.bool b0)
noncomputable def T90 (h : Hp) (S : Nat → PAL → Option Value) : Nat → PAL → Option Value := tabPC 0 (wI fun r0 => wN (P90x0 h S r0)) (tabPN)
noncomputable def F90 (args : List Value) (h : Hp) : Option Value := plainO (packArgs [Kd.i .i64] args fun al => G.rec' (T90 h) 1000000 0 al)
def nt90 : Nat := 1 + (6 - 1)
theorem q90x0 (h : Hp) (S : Nat → PAL → Option Value) (r0 : Int) : P90x0 h S r0 = G.stepAt packP unpackP evXV (regP env pf22 nt90 h) (finP env Try.f90.results.toList) (G.collect B90 A90 []) 0 S (PAL.i r0 PAL.n) := by kernel_rfl
theorem t90 (h : Hp) (S : Nat → PAL → Option Value) : TabP (fun l al => G.stepAt packP unpackP evXV (regP env pf22 nt90 h) (finP env Try.f90.results.toList) (G.collect B90 A90 []) l S al) (T90 h S) := by
  unfold T90
  refine TabP.cons 0 (fun vs0 q e0 => ?_) ?_
  · obtain ⟨r0, vs1, rfl, e1⟩ := wI_some e0
    obtain ⟨rfl, ee⟩ := wN_some e1
    exact (q90x0 h S r0).symm.trans ee
  exact TabP.nil
theorem r90 : PSound Try.prog 90 F90 := fun_soundP (C := C0) ok0 (pf := pf22) pfok22 (fn := Try.f90) (body := B90) (kinds := [Kd.i .i64]) (A := A90) (T := T90) (by kernel_rfl) (by kernel_rfl) (by kernel_rfl) (by kernel_rfl) (fun h S => t90 h S)
noncomputable def pf23 : PF := pfC 90 F90 pf22
theorem pfok23 : PfSound Try.prog pf23 := pfC_ok r90 pfok22
noncomputable def orc59 := orcP 90 F90 orc58
noncomputable def C59 : Cfg := cfg orc59
theorem ok59 : C59.Ok := orcP_ok (C := C58) ok58 r90
noncomputable def B64 : Code := (Try.f64.body).getD .skip
noncomputable def A64 : G.Ann (List KI) := (G.Ann.node (some (0, [KI.reg 0 (Kd.i .i64), KI.reg 1 (Kd.i .i64)])) al (an al (an al (an (an al (an (an (an al (an (an al al) al)) (an al al)) al)) (an (an al (an (an al al) al)) (an (an al (an (an al al) al)) (an (an al (an (an al al) al)) (an al al))))))))
noncomputable def P64x0 (h : Hp) (S : Nat → PAL → Option Value) (r0 : Int) (r1 : Int) : Option Value :=
  optK (F90 [(Value.int .i64 r0)] h) fun v0 =>
  boolK v0 fun b1 =>
  optK (F90 [(Value.int .i64 r1)] h) fun v2 =>
  boolK v2 fun b3 =>
  ifB b1
  (ifB b3
  (some (ki 0))
  (some (Value.int .i64 (Int.negSucc 0))))
  (ifB b3
  (some (ki 1))
  (boolZ (ltZ r0 r1) fun b4 =>
  ifB b4
  (some (Value.int .i64 (Int.negSucc 0)))
  (boolZ (ltZ r1 r0) fun b5 =>
  ifB b5
  (some (ki 1))
  (some (ki 0)))))
noncomputable def T64 (h : Hp) (S : Nat → PAL → Option Value) : Nat → PAL → Option Value := tabPC 0 (wI fun r0 => wI fun r1 => wN (P64x0 h S r0 r1)) (tabPN)
noncomputable def F64 (args : List Value) (h : Hp) : Option Value := plainO (packArgs [Kd.i .i64, Kd.i .i64] args fun al => G.rec' (T64 h) 1000000 0 al)
def nt64 : Nat := 2 + (20 - 2)
theorem q64x0 (h : Hp) (S : Nat → PAL → Option Value) (r0 : Int) (r1 : Int) : P64x0 h S r0 r1 = G.stepAt packP unpackP evXV (regP env pf23 nt64 h) (finP env Try.f64.results.toList) (G.collect B64 A64 []) 0 S (PAL.i r0 (PAL.i r1 PAL.n)) := by kernel_rfl
theorem t64 (h : Hp) (S : Nat → PAL → Option Value) : TabP (fun l al => G.stepAt packP unpackP evXV (regP env pf23 nt64 h) (finP env Try.f64.results.toList) (G.collect B64 A64 []) l S al) (T64 h S) := by
  unfold T64
  refine TabP.cons 0 (fun vs0 q e0 => ?_) ?_
  · obtain ⟨r0, vs1, rfl, e1⟩ := wI_some e0
    obtain ⟨r1, vs2, rfl, e2⟩ := wI_some e1
    obtain ⟨rfl, ee⟩ := wN_some e2
    exact (q64x0 h S r0 r1).symm.trans ee
  exact TabP.nil
theorem r64 : PSound Try.prog 64 F64 := fun_soundP (C := C0) ok0 (pf := pf23) pfok23 (fn := Try.f64) (body := B64) (kinds := [Kd.i .i64, Kd.i .i64]) (A := A64) (T := T64) (by kernel_rfl) (by kernel_rfl) (by kernel_rfl) (by kernel_rfl) (fun h S => t64 h S)
noncomputable def pf24 : PF := pfC 64 F64 pf23
theorem pfok24 : PfSound Try.prog pf24 := pfC_ok r64 pfok23
noncomputable def orc60 := orcP 64 F64 orc59
noncomputable def C60 : Cfg := cfg orc60
theorem ok60 : C60.Ok := orcP_ok (C := C59) ok59 r64
noncomputable def B84 : Code := (Try.f84.body).getD .skip
noncomputable def A84 : G.Ann (List KI) := (G.Ann.node (some (0, [KI.reg 0 (Kd.v)])) al (an al (an (an al (an (G.Ann.node (some (1, [KI.reg 3 (Kd.i .i64), KI.reg 6 (Kd.v), KI.reg 7 (Kd.i .i64), KI.reg 8 (Kd.i .i64)])) (an al (an (an al al) (an (an (an al (an al (an (an al al) al))) al) al))) al) al)) (G.Ann.node (some (2, [KI.reg 3 (Kd.i .i64)])) al al))))
noncomputable def P84x2 (h : Hp) (S : Nat → PAL → Option Value) (r3 : Int) : Option Value :=
  some (Value.int .i64 r3)
noncomputable def P84x1 (h : Hp) (S : Nat → PAL → Option Value) (r3 : Int) (r6 : Value) (r7 : Int) (r8 : Int) : Option Value :=
  boolZ (ltZ r8 r7) fun b0 =>
  ifB b0
  (idxSK 1 r6 r8 fun v1 =>
  load1K h v1 fun v2 =>
  intK .i64 v2 fun i3 =>
  boolN (eqZ i3 r3) fun b4 =>
  ifB b4
  (some (Value.int .i64 i3))
  (wrap64 (Int.add r8 (Int.ofNat 1)) fun i5 =>
  S 1 (PAL.i r3 (PAL.v r6 (PAL.i r7 (PAL.i i5 PAL.n))))))
  (S 2 (PAL.i r3 PAL.n))
noncomputable def P84x0 (h : Hp) (S : Nat → PAL → Option Value) (r0 : Value) : Option Value :=
  lenSK r0 fun i0 =>
  S 1 (PAL.i (Int.ofNat 0) (PAL.v r0 (PAL.i i0 (PAL.i (Int.ofNat 0) PAL.n))))
noncomputable def T84 (h : Hp) (S : Nat → PAL → Option Value) : Nat → PAL → Option Value := tabPC 0 (wV fun r0 => wN (P84x0 h S r0)) (tabPC 1 (wI fun r3 => wV fun r6 => wI fun r7 => wI fun r8 => wN (P84x1 h S r3 r6 r7 r8)) (tabPC 2 (wI fun r3 => wN (P84x2 h S r3)) (tabPN)))
noncomputable def F84 (args : List Value) (h : Hp) : Option Value := plainO (packArgs [Kd.v] args fun al => G.rec' (T84 h) 1000000 0 al)
def nt84 : Nat := 1 + (18 - 1)
theorem q84x2 (h : Hp) (S : Nat → PAL → Option Value) (r3 : Int) : P84x2 h S r3 = G.stepAt packP unpackP evXV (regP env pf24 nt84 h) (finP env Try.f84.results.toList) (G.collect B84 A84 []) 2 S (PAL.i r3 PAL.n) := by kernel_rfl
theorem q84x1 (h : Hp) (S : Nat → PAL → Option Value) (r3 : Int) (r6 : Value) (r7 : Int) (r8 : Int) : P84x1 h S r3 r6 r7 r8 = G.stepAt packP unpackP evXV (regP env pf24 nt84 h) (finP env Try.f84.results.toList) (G.collect B84 A84 []) 1 S (PAL.i r3 (PAL.v r6 (PAL.i r7 (PAL.i r8 PAL.n)))) := by kernel_rfl
theorem q84x0 (h : Hp) (S : Nat → PAL → Option Value) (r0 : Value) : P84x0 h S r0 = G.stepAt packP unpackP evXV (regP env pf24 nt84 h) (finP env Try.f84.results.toList) (G.collect B84 A84 []) 0 S (PAL.v r0 PAL.n) := by kernel_rfl
theorem t84 (h : Hp) (S : Nat → PAL → Option Value) : TabP (fun l al => G.stepAt packP unpackP evXV (regP env pf24 nt84 h) (finP env Try.f84.results.toList) (G.collect B84 A84 []) l S al) (T84 h S) := by
  unfold T84
  refine TabP.cons 0 (fun vs0 q e0 => ?_) ?_
  · obtain ⟨r0, vs1, rfl, e1⟩ := wV_some e0
    obtain ⟨rfl, ee⟩ := wN_some e1
    exact (q84x0 h S r0).symm.trans ee
  refine TabP.cons 1 (fun vs0 q e0 => ?_) ?_
  · obtain ⟨r3, vs1, rfl, e1⟩ := wI_some e0
    obtain ⟨r6, vs2, rfl, e2⟩ := wV_some e1
    obtain ⟨r7, vs3, rfl, e3⟩ := wI_some e2
    obtain ⟨r8, vs4, rfl, e4⟩ := wI_some e3
    obtain ⟨rfl, ee⟩ := wN_some e4
    exact (q84x1 h S r3 r6 r7 r8).symm.trans ee
  refine TabP.cons 2 (fun vs0 q e0 => ?_) ?_
  · obtain ⟨r3, vs1, rfl, e1⟩ := wI_some e0
    obtain ⟨rfl, ee⟩ := wN_some e1
    exact (q84x2 h S r3).symm.trans ee
  exact TabP.nil
theorem r84 : PSound Try.prog 84 F84 := fun_soundP (C := C0) ok0 (pf := pf24) pfok24 (fn := Try.f84) (body := B84) (kinds := [Kd.v]) (A := A84) (T := T84) (by kernel_rfl) (by kernel_rfl) (by kernel_rfl) (by kernel_rfl) (fun h S => t84 h S)
noncomputable def pf25 : PF := pfC 84 F84 pf24
theorem pfok25 : PfSound Try.prog pf25 := pfC_ok r84 pfok24
noncomputable def orc61 := orcP 84 F84 orc60
noncomputable def C61 : Cfg := cfg orc61
theorem ok61 : C61.Ok := orcP_ok (C := C60) ok60 r84
noncomputable def B83 : Code := (Try.f83.body).getD .skip
def A83 : Ann := (Ann.node (some (0, [(0, Kd.v), (1, Kd.v)])) bl (bn bl bl))
noncomputable def P83x0 (S : Sg) (r0 : Value) (r1 : Value) (h : Hp) : CRes :=
  allocK h 109 (Array.toList (Value.cells r0)) fun a0 h0 =>
  allocK h0 109 (Array.toList (Value.cells r1)) fun a1 h1 =>
  ptrAddK 0 a0 fun v2 =>
  load1K h1 v2 fun v3 =>
  intK .i64 v3 fun i4 =>
  ptrAddK 0 a1 fun v5 =>
  load1K h1 v5 fun v6 =>
  intK .i64 v6 fun i7 =>
  pairK (pairK (optK (F64 [(Value.int .i64 i4), (Value.int .i64 i7)] (Hp.mk (Hp.next h1) (Hp.next h1) (Hp.objs h1))) fun v => some (v, (Hp.mk (Hp.next h1) (Hp.next h1) (Hp.objs h1)))) fun v _ => ifB (plainK v) (some (v, h1)) none) fun v8 h8 =>
  intK .i64 v8 fun i9 =>
  ptrAddK 1 a0 fun v10 =>
  load1K h8 v10 fun v11 =>
  intK .i64 v11 fun i12 =>
  ptrAddK 1 a1 fun v13 =>
  load1K h8 v13 fun v14 =>
  intK .i64 v14 fun i15 =>
  pairK (optK (F64 [(Value.int .i64 i12), (Value.int .i64 i15)] h8) fun v => some (v, h8)) fun v16 h16 =>
  intK .i64 v16 fun i17 =>
  pairK (buildSliceV env h16 34 2 (List.toArray [(0, (Value.int .i64 i9)), (1, (Value.int .i64 i17))])) fun v18 h18 =>
  pairK (optK (F84 [v18] h18) fun v => some (v, h18)) fun v19 h19 =>
  intK .i64 v19 fun i20 =>
  some ((Value.int .i64 i20), h19)
noncomputable def T83 (S : Sg) : Sg := tabC 0 (uV fun r0 => uV fun r1 => uN fun h => P83x0 S r0 r1 h) (tabN)
noncomputable def F83 (args : List Value) (h : Hp) : CRes := packVals [Kd.v, Kd.v] args fun al => rec' T83 1000000 0 al h
def nt83 : Nat := 2 + (17 - 2)
theorem q83x0 (S : Sg) (r0 : Value) (r1 : Value) (h : Hp) : P83x0 S r0 r1 h = stepAt (regK env orc61 (nt83)) (finK env Try.f83.results.toList) (collect B83 A83 []) 0 S (AL.v r0 (AL.v r1 AL.n)) h := by kernel_rfl
theorem t83 (S : Sg) : Tab (fun l vs h => stepAt (regK env orc61 nt83) (finK env Try.f83.results.toList) (collect B83 A83 []) l S vs h) (T83 S) := by
  unfold T83
  refine Tab.cons 0 (fun vs0 h q e0 => ?_) ?_
  · obtain ⟨r0, vs1, rfl, e1⟩ := uV_some e0
    obtain ⟨r1, vs2, rfl, e2⟩ := uV_some e1
    obtain ⟨rfl, ee⟩ := uN_some e2
    exact (q83x0 S r0 r1 h).symm.trans ee
  exact Tab.nil
theorem r83 : ∀ args h v h', F83 args h = some (v, h') → Runs (C61) (.call 83 args.toArray h) (.ret v h') := by
  intro args h v h' e
  exact fun_sound (C := C61) (fn := Try.f83) (body := B83) (np := 2) (A := A83) (T := T83) (kinds := [Kd.v, Kd.v]) (by kernel_rfl) (by kernel_rfl) (by kernel_rfl) (by kernel_rfl) (regK_ok env_ok) (by kernel_rfl) (fun S => t83 S) e
noncomputable def orc62 := orcQ 83 F83 orc61
noncomputable def C62 : Cfg := cfg orc62
theorem ok62 : C62.Ok := orcQ_ok (C := C61) ok61 r83
noncomputable def B16 : Code := (Try.f16.body).getD .skip
noncomputable def A16 : G.Ann (List KI) := (G.Ann.node (some (0, [KI.reg 0 (Kd.v), KI.reg 1 (Kd.v)])) al (an al (an (an al (an (G.Ann.node (some (1, [KI.reg 0 (Kd.v), KI.reg 1 (Kd.v), KI.reg 5 (Kd.b), KI.reg 6 (Kd.i .i64)])) (an (an al (an al al)) (G.Ann.node (some (2, [KI.reg 0 (Kd.v), KI.reg 1 (Kd.v), KI.reg 6 (Kd.i .i64)])) (an al al) al)) al) al)) (G.Ann.node (some (3, [KI.reg 5 (Kd.b)])) al al))))
noncomputable def P16x3 (h : Hp) (S : Nat → PAL → Option Value) (r5 : Bool) : Option Value :=
  some (Value.bool r5)
noncomputable def P16x2 (h : Hp) (S : Nat → PAL → Option Value) (r0 : Value) (r1 : Value) (r6 : Int) : Option Value :=
  idxSK 1 r0 r6 fun v0 =>
  load1K h v0 fun v1 =>
  intK .i64 v1 fun i2 =>
  idxSK 1 r1 r6 fun v3 =>
  load1K h v3 fun v4 =>
  intK .i64 v4 fun i5 =>
  boolZ (eqZ i2 i5) fun b6 =>
  wrap64 (Int.add r6 (Int.ofNat 1)) fun i7 =>
  S 1 (PAL.v r0 (PAL.v r1 (PAL.b b6 (PAL.i i7 PAL.n))))
noncomputable def P16x1 (h : Hp) (S : Nat → PAL → Option Value) (r0 : Value) (r1 : Value) (r5 : Bool) (r6 : Int) : Option Value :=
  ifB r5
  (lenSK r0 fun i0 =>
  boolZ (ltZ r6 i0) fun b1 =>
  ifB b1
  (S 2 (PAL.v r0 (PAL.v r1 (PAL.i r6 PAL.n))))
  (S 3 (PAL.b r5 PAL.n)))
  (S 3 (PAL.b r5 PAL.n))
noncomputable def P16x0 (h : Hp) (S : Nat → PAL → Option Value) (r0 : Value) (r1 : Value) : Option Value :=
  lenSK r0 fun i0 =>
  lenSK r1 fun i1 =>
  boolZ (eqZ i0 i1) fun b2 =>
  S 1 (PAL.v r0 (PAL.v r1 (PAL.b b2 (PAL.i (Int.ofNat 0) PAL.n))))
noncomputable def T16 (h : Hp) (S : Nat → PAL → Option Value) : Nat → PAL → Option Value := tabPC 0 (wV fun r0 => wV fun r1 => wN (P16x0 h S r0 r1)) (tabPC 1 (wV fun r0 => wV fun r1 => wB fun r5 => wI fun r6 => wN (P16x1 h S r0 r1 r5 r6)) (tabPC 2 (wV fun r0 => wV fun r1 => wI fun r6 => wN (P16x2 h S r0 r1 r6)) (tabPC 3 (wB fun r5 => wN (P16x3 h S r5)) (tabPN))))
noncomputable def F16 (args : List Value) (h : Hp) : Option Value := plainO (packArgs [Kd.v, Kd.v] args fun al => G.rec' (T16 h) 1000000 0 al)
def nt16 : Nat := 2 + (31 - 2)
theorem q16x3 (h : Hp) (S : Nat → PAL → Option Value) (r5 : Bool) : P16x3 h S r5 = G.stepAt packP unpackP evXV (regP env pf25 nt16 h) (finP env Try.f16.results.toList) (G.collect B16 A16 []) 3 S (PAL.b r5 PAL.n) := by kernel_rfl
theorem q16x2 (h : Hp) (S : Nat → PAL → Option Value) (r0 : Value) (r1 : Value) (r6 : Int) : P16x2 h S r0 r1 r6 = G.stepAt packP unpackP evXV (regP env pf25 nt16 h) (finP env Try.f16.results.toList) (G.collect B16 A16 []) 2 S (PAL.v r0 (PAL.v r1 (PAL.i r6 PAL.n))) := by kernel_rfl
theorem q16x1 (h : Hp) (S : Nat → PAL → Option Value) (r0 : Value) (r1 : Value) (r5 : Bool) (r6 : Int) : P16x1 h S r0 r1 r5 r6 = G.stepAt packP unpackP evXV (regP env pf25 nt16 h) (finP env Try.f16.results.toList) (G.collect B16 A16 []) 1 S (PAL.v r0 (PAL.v r1 (PAL.b r5 (PAL.i r6 PAL.n)))) := by kernel_rfl
theorem q16x0 (h : Hp) (S : Nat → PAL → Option Value) (r0 : Value) (r1 : Value) : P16x0 h S r0 r1 = G.stepAt packP unpackP evXV (regP env pf25 nt16 h) (finP env Try.f16.results.toList) (G.collect B16 A16 []) 0 S (PAL.v r0 (PAL.v r1 PAL.n)) := by kernel_rfl
theorem t16 (h : Hp) (S : Nat → PAL → Option Value) : TabP (fun l al => G.stepAt packP unpackP evXV (regP env pf25 nt16 h) (finP env Try.f16.results.toList) (G.collect B16 A16 []) l S al) (T16 h S) := by
  unfold T16
  refine TabP.cons 0 (fun vs0 q e0 => ?_) ?_
  · obtain ⟨r0, vs1, rfl, e1⟩ := wV_some e0
    obtain ⟨r1, vs2, rfl, e2⟩ := wV_some e1
    obtain ⟨rfl, ee⟩ := wN_some e2
    exact (q16x0 h S r0 r1).symm.trans ee
  refine TabP.cons 1 (fun vs0 q e0 => ?_) ?_
  · obtain ⟨r0, vs1, rfl, e1⟩ := wV_some e0
    obtain ⟨r1, vs2, rfl, e2⟩ := wV_some e1
    obtain ⟨r5, vs3, rfl, e3⟩ := wB_some e2
    obtain ⟨r6, vs4, rfl, e4⟩ := wI_some e3
    obtain ⟨rfl, ee⟩ := wN_some e4
    exact (q16x1 h S r0 r1 r5 r6).symm.trans ee
  refine TabP.cons 2 (fun vs0 q e0 => ?_) ?_
  · obtain ⟨r0, vs1, rfl, e1⟩ := wV_some e0
    obtain ⟨r1, vs2, rfl, e2⟩ := wV_some e1
    obtain ⟨r6, vs3, rfl, e3⟩ := wI_some e2
    obtain ⟨rfl, ee⟩ := wN_some e3
    exact (q16x2 h S r0 r1 r6).symm.trans ee
  refine TabP.cons 3 (fun vs0 q e0 => ?_) ?_
  · obtain ⟨r5, vs1, rfl, e1⟩ := wB_some e0
    obtain ⟨rfl, ee⟩ := wN_some e1
    exact (q16x3 h S r5).symm.trans ee
  exact TabP.nil
theorem r16 : PSound Try.prog 16 F16 := fun_soundP (C := C0) ok0 (pf := pf25) pfok25 (fn := Try.f16) (body := B16) (kinds := [Kd.v, Kd.v]) (A := A16) (T := T16) (by kernel_rfl) (by kernel_rfl) (by kernel_rfl) (by kernel_rfl) (fun h S => t16 h S)
noncomputable def pf26 : PF := pfC 16 F16 pf25
theorem pfok26 : PfSound Try.prog pf26 := pfC_ok r16 pfok25
noncomputable def orc63 := orcP 16 F16 orc62
noncomputable def C63 : Cfg := cfg orc63
theorem ok63 : C63.Ok := orcP_ok (C := C62) ok62 r16
noncomputable def B22 : Code := (Try.f22.body).getD .skip
noncomputable def A22 : G.Ann (List KI) := (G.Ann.node (some (0, [KI.reg 0 (Kd.v), KI.reg 1 (Kd.v)])) al (an (an al (an (an al al) al)) (an (an al (an (G.Ann.node (some (1, [KI.reg 0 (Kd.v), KI.reg 1 (Kd.v), KI.reg 5 (Kd.i .i64)])) (an (an al (an al al)) (an (an (an al (an (an al al) al)) al) al)) al) al)) (G.Ann.node (some (2, [])) al al))))
noncomputable def P22x2 (h : Hp) (S : Nat → PAL → Option Value) : Option Value :=
  some (Value.bool true)
noncomputable def P22x1 (h : Hp) (S : Nat → PAL → Option Value) (r0 : Value) (r1 : Value) (r5 : Int) : Option Value :=
  lenSK r0 fun i0 =>
  boolZ (ltZ r5 i0) fun b1 =>
  ifB b1
  (idxSK 3 r0 r5 fun v2 =>
  loadNK 3 h v2 fun v3 =>
  idxSK 3 r1 r5 fun v4 =>
  loadNK 3 h v4 fun v5 =>
  optK (binV env .neq 48 (Operand.tmp 20) (Operand.tmp 24) v3 v5) fun v6 =>
  boolK v6 fun b7 =>
  ifB b7
  (some (Value.bool false))
  (wrap64 (Int.add r5 (Int.ofNat 1)) fun i8 =>
  S 1 (PAL.v r0 (PAL.v r1 (PAL.i i8 PAL.n)))))
  (S 2 PAL.n)
noncomputable def P22x0 (h : Hp) (S : Nat → PAL → Option Value) (r0 : Value) (r1 : Value) : Option Value :=
  lenSK r0 fun i0 =>
  lenSK r1 fun i1 =>
  boolN (eqZ i0 i1) fun b2 =>
  ifB b2
  (some (Value.bool false))
  (S 1 (PAL.v r0 (PAL.v r1 (PAL.i (Int.ofNat 0) PAL.n))))
noncomputable def T22 (h : Hp) (S : Nat → PAL → Option Value) : Nat → PAL → Option Value := tabPC 0 (wV fun r0 => wV fun r1 => wN (P22x0 h S r0 r1)) (tabPC 1 (wV fun r0 => wV fun r1 => wI fun r5 => wN (P22x1 h S r0 r1 r5)) (tabPC 2 (wN (P22x2 h S)) (tabPN)))
noncomputable def F22 (args : List Value) (h : Hp) : Option Value := plainO (packArgs [Kd.v, Kd.v] args fun al => G.rec' (T22 h) 1000000 0 al)
def nt22 : Nat := 2 + (26 - 2)
theorem q22x2 (h : Hp) (S : Nat → PAL → Option Value) : P22x2 h S = G.stepAt packP unpackP evXV (regP env pf26 nt22 h) (finP env Try.f22.results.toList) (G.collect B22 A22 []) 2 S PAL.n := by kernel_rfl
theorem q22x1 (h : Hp) (S : Nat → PAL → Option Value) (r0 : Value) (r1 : Value) (r5 : Int) : P22x1 h S r0 r1 r5 = G.stepAt packP unpackP evXV (regP env pf26 nt22 h) (finP env Try.f22.results.toList) (G.collect B22 A22 []) 1 S (PAL.v r0 (PAL.v r1 (PAL.i r5 PAL.n))) := by kernel_rfl
theorem q22x0 (h : Hp) (S : Nat → PAL → Option Value) (r0 : Value) (r1 : Value) : P22x0 h S r0 r1 = G.stepAt packP unpackP evXV (regP env pf26 nt22 h) (finP env Try.f22.results.toList) (G.collect B22 A22 []) 0 S (PAL.v r0 (PAL.v r1 PAL.n)) := by kernel_rfl
theorem t22 (h : Hp) (S : Nat → PAL → Option Value) : TabP (fun l al => G.stepAt packP unpackP evXV (regP env pf26 nt22 h) (finP env Try.f22.results.toList) (G.collect B22 A22 []) l S al) (T22 h S) := by
  unfold T22
  refine TabP.cons 0 (fun vs0 q e0 => ?_) ?_
  · obtain ⟨r0, vs1, rfl, e1⟩ := wV_some e0
    obtain ⟨r1, vs2, rfl, e2⟩ := wV_some e1
    obtain ⟨rfl, ee⟩ := wN_some e2
    exact (q22x0 h S r0 r1).symm.trans ee
  refine TabP.cons 1 (fun vs0 q e0 => ?_) ?_
  · obtain ⟨r0, vs1, rfl, e1⟩ := wV_some e0
    obtain ⟨r1, vs2, rfl, e2⟩ := wV_some e1
    obtain ⟨r5, vs3, rfl, e3⟩ := wI_some e2
    obtain ⟨rfl, ee⟩ := wN_some e3
    exact (q22x1 h S r0 r1 r5).symm.trans ee
  refine TabP.cons 2 (fun vs0 q e0 => ?_) ?_
  · 
    obtain ⟨rfl, ee⟩ := wN_some e0
    exact (q22x2 h S).symm.trans ee
  exact TabP.nil
theorem r22 : PSound Try.prog 22 F22 := fun_soundP (C := C0) ok0 (pf := pf26) pfok26 (fn := Try.f22) (body := B22) (kinds := [Kd.v, Kd.v]) (A := A22) (T := T22) (by kernel_rfl) (by kernel_rfl) (by kernel_rfl) (by kernel_rfl) (fun h S => t22 h S)
noncomputable def pf27 : PF := pfC 22 F22 pf26
theorem pfok27 : PfSound Try.prog pf27 := pfC_ok r22 pfok26
noncomputable def orc64 := orcP 22 F22 orc63
noncomputable def C64 : Cfg := cfg orc64
theorem ok64 : C64.Ok := orcP_ok (C := C63) ok63 r22
noncomputable def B51 : Code := (Try.f51.body).getD .skip
def A51 : Ann := (Ann.node (some (0, [(0, Kd.v), (1, Kd.v)])) bl (bn bl (bn (bn bl (bn (bn bl bl) bl)) (bn bl (bn (bn bl (bn (Ann.node (some (1, [(6, Kd.v), (9, Kd.v), (24, Kd.i .i64)])) (bn bl (bn (bn bl bl) (bn (bn (bn bl (bn bl (bn (bn bl bl) bl))) bl) bl))) bl) bl)) (Ann.node (some (2, [])) bl bl))))))
noncomputable def P51x2 (S : Sg) (h : Hp) : CRes :=
  some (Value.tuple (List.toArray [(ki 0), (ki 4)]), h)
noncomputable def P51x1 (S : Sg) (r6 : Value) (r9 : Value) (r24 : Int) (h : Hp) : CRes :=
  boolZ (ltZ r24 (Int.ofNat 365)) fun b0 =>
  ifB b0
  (loadNK 16 h r6 fun v1 =>
  loadNK 6 h r9 fun v2 =>
  pairK (optK (F54 [v1, v2, (Value.int .i64 r24)] h) fun v => some (v, h)) fun v3 h3 =>
  intK .i64 v3 fun i4 =>
  boolZ (ltZ i4 (Int.ofNat 0)) fun b5 =>
  ifB b5
  (some (Value.tuple (List.toArray [(Value.int .i64 r24), (ki 0)]), h3))
  (wrap64 (Int.add r24 (Int.ofNat 1)) fun i6 =>
  S 1 (AL.v r6 (AL.v r9 (AL.i i6 AL.n))) h3))
  (S 2 AL.n h)
noncomputable def P51x0 (S : Sg) (r0 : Value) (r1 : Value) (h : Hp) : CRes :=
  allocK h 26 (Array.toList (Value.cells r0)) fun a0 h0 =>
  loadNK 4 h0 a0 fun v1 =>
  pairK (callQ F53 [v1, r1] h0) fun v2 h2 =>
  extK v2 0 fun v3 =>
  extK v2 1 fun v4 =>
  extK v2 2 fun v5 =>
  intK .i64 v5 fun i6 =>
  allocK h2 85 [(Value.slice none 0 0), (Value.slice none 0 0), (ki 0), (Value.slice none 0 0), (Value.bool false), (ki 0), Value.nilFunc, Value.nilFunc, (Value.bool false), (ki 0), Value.nilFunc, Value.nilFunc, (Value.bool false), (ki 0), Value.nilFunc, Value.nilFunc] fun a7 h7 =>
  allocK h7 99 [(ki 0), (ki 0), (ki 0), (ki 0), (ki 0), (ki 0), (ki 0), (ki 0), (ki 0)] fun a8 h8 =>
  storeNK 16 h8 a7 v3 fun h9 =>
  storeNK 9 h9 a8 v4 fun h10 =>
  boolN (eqZ i6 (Int.ofNat 0)) fun b11 =>
  ifB b11
  (some (Value.tuple (List.toArray [(ki 0), (Value.int .i64 i6)]), h10))
  (loadNK 16 h10 a7 fun v12 =>
  loadNK 9 h10 a8 fun v13 =>
  pairK (callQ F55 [v12, v13] h10) fun v14 h14 =>
  allocK h14 106 [(ki 0), (ki 0), (ki 0), (ki 0), (ki 0), (ki 0)] fun a15 h15 =>
  storeNK 6 h15 a15 v14 fun h16 =>
  S 1 (AL.v a7 (AL.v a15 (AL.i (Int.ofNat 0) AL.n))) h16)
noncomputable def T51 (S : Sg) : Sg := tabC 0 (uV fun r0 => uV fun r1 => uN fun h => P51x0 S r0 r1 h) (tabC 1 (uV fun r6 => uV fun r9 => uI fun r24 => uN fun h => P51x1 S r6 r9 r24 h) (tabC 2 (uN fun h => P51x2 S  h) (tabN)))
noncomputable def F51 (args : List Value) (h : Hp) : CRes := packVals [Kd.v, Kd.v] args fun al => rec' T51 1000000 0 al h
def nt51 : Nat := 2 + (34 - 2)
theorem q51x2 (S : Sg) (h : Hp) : P51x2 S  h = stepAt (regK env orc64 (nt51)) (finK env Try.f51.results.toList) (collect B51 A51 []) 2 S AL.n h := by kernel_rfl
theorem q51x1 (S : Sg) (r6 : Value) (r9 : Value) (r24 : Int) (h : Hp) : P51x1 S r6 r9 r24 h = stepAt (regK env orc64 (nt51)) (finK env Try.f51.results.toList) (collect B51 A51 []) 1 S (AL.v r6 (AL.v r9 (AL.i r24 AL.n))) h := by kernel_rfl
theorem q51x0 (S : Sg) (r0 : Value) (r1 : Value) (h : Hp) : P51x0 S r0 r1 h = stepAt (regK env orc64 (nt51)) (finK env Try.f51.results.toList) (collect B51 A51 []) 0 S (AL.v r0 (AL.v r1 AL.n)) h := by kernel_rfl
theorem t51 (S : Sg) : Tab (fun l vs h => stepAt (regK env orc64 nt51) (finK env Try.f51.results.toList) (collect B51 A51 []) l S vs h) (T51 S) := by
  unfold T51
  refine Tab.cons 0 (fun vs0 h q e0 => ?_) ?_
  · obtain ⟨r0, vs1, rfl, e1⟩ := uV_some e0
    obtain ⟨r1, vs2, rfl, e2⟩ := uV_some e1
    obtain ⟨rfl, ee⟩ := uN_some e2
    exact (q51x0 S r0 r1 h).symm.trans ee
  refine Tab.cons 1 (fun vs0 h q e0 => ?_) ?_
  · obtain ⟨r6, vs1, rfl, e1⟩ := uV_some e0
    obtain ⟨r9, vs2, rfl, e2⟩ := uV_some e1
    obtain ⟨r24, vs3, rfl, e3⟩ := uI_some e2
    obtain ⟨rfl, ee⟩ := uN_some e3
    exact (q51x1 S r6 r9 r24 h).symm.trans ee
  refine Tab.cons 2 (fun vs0 h q e0 => ?_) ?_
  · 
    obtain ⟨rfl, ee⟩ := uN_some e0
    exact (q51x2 S  h).symm.trans ee
  exact Tab.nil
theorem r51 : ∀ args h v h', F51 args h = some (v, h') → Runs (C64) (.call 51 args.toArray h) (.ret v h') := by
  intro args h v h' e
  exact fun_sound (C := C64) (fn := Try.f51) (body := B51) (np := 2) (A := A51) (T := T51) (kinds := [Kd.v, Kd.v]) (by kernel_rfl) (by kernel_rfl) (by kernel_rfl) (by kernel_rfl) (regK_ok env_ok) (by kernel_rfl) (fun S => t51 S) e
noncomputable def orc65 := orcQ 51 F51 orc64
noncomputable def C65 : Cfg := cfg orc65
theorem ok65 : C65.Ok := orcQ_ok (C := C64) ok64 r51
noncomputable def B63 : Code := (Try.f63.body).getD .skip
def A63 : Ann := (Ann.node (some (0, [(0, Kd.v), (1, Kd.i .i64)])) bl (bn bl (bn bl (bn bl bl))))
noncomputable def P63x0 (S : Sg) (r0 : Value) (r1 : Int) (h : Hp) : CRes :=
  allocK h 85 (Array.toList (Value.cells r0)) fun a0 h0 =>
  loadNK 16 h0 a0 fun v1 =>
  allocK h0 85 [(Value.slice none 0 0), (Value.slice none 0 0), (ki 0), (Value.slice none 0 0), (Value.bool false), (ki 0), Value.nilFunc, Value.nilFunc, (Value.bool false), (ki 0), Value.nilFunc, Value.nilFunc, (Value.bool false), (ki 0), Value.nilFunc, Value.nilFunc] fun a2 h2 =>
  storeNK 16 h2 a2 v1 fun h3 =>
  ptrAddK 0 a2 fun v4 =>
  ptrAddK 2 v4 fun v5 =>
  load1K h3 v5 fun v6 =>
  intK .i64 v6 fun i7 =>
  wrap64 (Int.add i7 r1) fun i8 =>
  ptrAddK 0 a2 fun v9 =>
  ptrAddK 2 v9 fun v10 =>
  store1K h3 v10 (Value.int .i64 i8) fun h11 =>
  some ((Value.func (.func 89) (List.toArray []) (List.toArray [a2, a0])), h11)
noncomputable def T63 (S : Sg) : Sg := tabC 0 (uV fun r0 => uI fun r1 => uN fun h => P63x0 S r0 r1 h) (tabN)
noncomputable def F63 (args : List Value) (h : Hp) : CRes := packVals [Kd.v, Kd.i .i64] args fun al => rec' T63 1000000 0 al h
def nt63 : Nat := 2 + (15 - 2)
theorem q63x0 (S : Sg) (r0 : Value) (r1 : Int) (h : Hp) : P63x0 S r0 r1 h = stepAt (regK env orc65 (nt63)) (finK env Try.f63.results.toList) (collect B63 A63 []) 0 S (AL.v r0 (AL.i r1 AL.n)) h := by kernel_rfl
theorem t63 (S : Sg) : Tab (fun l vs h => stepAt (regK env orc65 nt63) (finK env Try.f63.results.toList) (collect B63 A63 []) l S vs h) (T63 S) := by
  unfold T63
  refine Tab.cons 0 (fun vs0 h q e0 => ?_) ?_
  · obtain ⟨r0, vs1, rfl, e1⟩ := uV_some e0
    obtain ⟨r1, vs2, rfl, e2⟩ := uI_some e1
    obtain ⟨rfl, ee⟩ := uN_some e2
    exact (q63x0 S r0 r1 h).symm.trans ee
  exact Tab.nil
theorem r63 : ∀ args h v h', F63 args h = some (v, h') → Runs (C65) (.call 63 args.toArray h) (.ret v h') := by
  intro args h v h' e
  exact fun_sound (C := C65) (fn := Try.f63) (body := B63) (np := 2) (A := A63) (T := T63) (kinds := [Kd.v, Kd.i .i64]) (by kernel_rfl) (by kernel_rfl) (by kernel_rfl) (by kernel_rfl) (regK_ok env_ok) (by kernel_rfl) (fun S => t63 S) e
noncomputable def orc66 := orcQ 63 F63 orc65
noncomputable def C66 : Cfg := cfg orc66
theorem ok66 : C66.Ok := orcQ_ok (C := C65) ok65 r63
noncomputable def B105 : Code := (Try.f105.body).getD .skip
noncomputable def A105 : G.Ann (List KI) := (G.Ann.node (some (0, [KI.reg 0 (Kd.v), KI.reg 1 (Kd.v)])) al (an al al))
noncomputable def P105x0 (h : Hp) (S : Nat → PAL → Option Value) (r0 : Value) (r1 : Value) : Option Value :=
  forceL (Array.toList (Value.cells r0)) fun c0 =>
  nthR c0 0 fun v1 =>
  intK .i64 v1 fun i2 =>
  load1K h r1 fun v3 =>
  intK .i64 v3 fun i4 =>
  boolZ (eqZ i2 i4) fun b5 =>
  ifB b5
  (nthR c0 1 fun v6 =>
  intK .i64 v6 fun i7 =>
  boolZ (eqZ i7 (Int.ofNat 1)) fun b8 =>
  some (Value.bool b8))
  (some (Value.bool false))
noncomputable def T105 (h : Hp) (S : Nat → PAL → Option Value) : Nat → PAL → Option Value := tabPC 0 (wV fun r0 => wV fun r1 => wN (P105x0 h S r0 r1)) (tabPN)
noncomputable def F105 (args : List Value) (h : Hp) : Option Value := plainO (packArgs [Kd.v, Kd.v] args fun al => G.rec' (T105 h) 1000000 0 al)
def nt105 : Nat := 2 + (13 - 2)
theorem q105x0 (h : Hp) (S : Nat → PAL → Option Value) (r0 : Value) (r1 : Value) : P105x0 h S r0 r1 = G.stepAt packP unpackP evXV (regP env pf27 nt105 h) (finP env Try.f105.results.toList) (G.collect B105 A105 []) 0 S (PAL.v r0 (PAL.v r1 PAL.n)) := by kernel_rfl
theorem t105 (h : Hp) (S : Nat → PAL → Option Value) : TabP (fun l al => G.stepAt packP unpackP evXV (regP env pf27 nt105 h) (finP env Try.f105.results.toList) (G.collect B105 A105 []) l S al) (T105 h S) := by
  unfold T105
  refine TabP.cons 0 (fun vs0 q e0 => ?_) ?_
  · obtain ⟨r0, vs1, rfl, e1⟩ := wV_some e0
    obtain ⟨r1, vs2, rfl, e2⟩ := wV_some e1
    obtain ⟨rfl, ee⟩ := wN_some e2
    exact (q105x0 h S r0 r1).symm.trans ee
  exact TabP.nil
theorem r105 : PSound Try.prog 105 F105 := fun_soundP (C := C0) ok0 (pf := pf27) pfok27 (fn := Try.f105) (body := B105) (kinds := [Kd.v, Kd.v]) (A := A105) (T := T105) (by kernel_rfl) (by kernel_rfl) (by kernel_rfl) (by kernel_rfl) (fun h S => t105 h S)
noncomputable def pf28 : PF := pfC 105 F105 pf27
theorem pfok28 : PfSound Try.prog pf28 := pfC_ok r105 pfok27
noncomputable def orc67 := orcP 105 F105 orc66
noncomputable def C67 : Cfg := cfg orc67
theorem ok67 : C67.Ok := orcP_ok (C := C66) ok66 r105
noncomputable def B78 : Code := (Try.f78.body).getD .skip
def A78 : Ann := (Ann.node (some (0, [(0, Kd.v), (1, Kd.i .i64)])) bl (bn bl bl))
noncomputable def P78x0 (S : Sg) (r0 : Value) (r1 : Int) (h : Hp) : CRes :=
  allocK h 3 [(Value.int .i64 r1)] fun a0 h0 =>
  pairK (callQ F104 [r0, (Value.func (.func 105) (List.toArray []) (List.toArray [a0]))] h0) fun v1 h1 =>
  boolK v1 fun b2 =>
  some ((Value.bool b2), h1)
noncomputable def T78 (S : Sg) : Sg := tabC 0 (uV fun r0 => uI fun r1 => uN fun h => P78x0 S r0 r1 h) (tabN)
noncomputable def F78 (args : List Value) (h : Hp) : CRes := packVals [Kd.v, Kd.i .i64] args fun al => rec' T78 1000000 0 al h
def nt78 : Nat := 2 + (8 - 2)
theorem q78x0 (S : Sg) (r0 : Value) (r1 : Int) (h : Hp) : P78x0 S r0 r1 h = stepAt (regK env orc67 (nt78)) (finK env Try.f78.results.toList) (collect B78 A78 []) 0 S (AL.v r0 (AL.i r1 AL.n)) h := by kernel_rfl
theorem t78 (S : Sg) : Tab (fun l vs h => stepAt (regK env orc67 nt78) (finK env Try.f78.results.toList) (collect B78 A78 []) l S vs h) (T78 S) := by
  unfold T78
  refine Tab.cons 0 (fun vs0 h q e0 => ?_) ?_
  · obtain ⟨r0, vs1, rfl, e1⟩ := uV_some e0
    obtain ⟨r1, vs2, rfl, e2⟩ := uI_some e1
    obtain ⟨rfl, ee⟩ := uN_some e2
    exact (q78x0 S r0 r1 h).symm.trans ee
  exact Tab.nil
theorem r78 : ∀ args h v h', F78 args h = some (v, h') → Runs (C67) (.call 78 args.toArray h) (.ret v h') := by
  intro args h v h' e
  exact fun_sound (C := C67) (fn := Try.f78) (body := B78) (np := 2) (A := A78) (T := T78) (kinds := [Kd.v, Kd.i .i64]) (by kernel_rfl) (by kernel_rfl) (by kernel_rfl) (by kernel_rfl) (regK_ok env_ok) (by kernel_rfl) (fun S => t78 S) e
noncomputable def orc68 := orcQ 78 F78 orc67
noncomputable def C68 : Cfg := cfg orc68
theorem ok68 : C68.Ok := orcQ_ok (C := C67) ok67 r78
noncomputable def B52 : Code := (Try.f52.body).getD .skip
def A52 : Ann := (Ann.node (some (0, [(0, Kd.v), (1, Kd.v)])) bl (bn bl (bn (bn bl (bn (bn bl bl) bl)) (bn bl (bn (bn bl (bn (Ann.node (some (1, [(1, Kd.v), (9, Kd.v), (24, Kd.v), (25, Kd.i .i64), (26, Kd.i .i64)])) (bn bl (bn (bn bl bl) (bn (bn (bn bl (bn bl (Ann.node (some (2, [(1, Kd.v), (9, Kd.v), (10, Kd.i .i64), (24, Kd.v), (25, Kd.i .i64), (26, Kd.i .i64), (43, Kd.b)])) bl bl))) bl) (Ann.node (some (3, [(1, Kd.v), (9, Kd.v), (24, Kd.v), (25, Kd.i .i64), (26, Kd.i .i64)])) bl bl)))) bl) bl)) (Ann.node (some (4, [(9, Kd.v)])) bl bl))))))
noncomputable def P52x4 (S : Sg) (r9 : Value) (h : Hp) : CRes :=
  some (Value.tuple (List.toArray [r9, (ki 0)]), h)
noncomputable def P52x3 (S : Sg) (r1 : Value) (r9 : Value) (r24 : Value) (r25 : Int) (r26 : Int) (h : Hp) : CRes :=
  wrap64 (Int.add r26 (Int.ofNat 1)) fun i0 =>
  S 1 (AL.v r1 (AL.v r9 (AL.v r24 (AL.i r25 (AL.i i0 AL.n))))) h
noncomputable def P52x2 (S : Sg) (r1 : Value) (r9 : Value) (r10 : Int) (r24 : Value) (r25 : Int) (r26 : Int) (r43 : Bool) (h : Hp) : CRes :=
  ifB r43
  (pairK (buildSliceV env h 34 1 (List.toArray [(0, (Value.int .i64 r10))])) fun v0 h0 =>
  pairK (appendV env h0 #[34, 34] (List.toArray [r9, v0])) fun v1 h1 =>
  S 3 (AL.v r1 (AL.v v1 (AL.v r24 (AL.i r25 (AL.i r26 AL.n))))) h1)
  (S 3 (AL.v r1 (AL.v r9 (AL.v r24 (AL.i r25 (AL.i r26 AL.n))))) h)
noncomputable def P52x1 (S : Sg) (r1 : Value) (r9 : Value) (r24 : Value) (r25 : Int) (r26 : Int) (h : Hp) : CRes :=
  boolZ (ltZ r26 r25) fun b0 =>
  ifB b0
  (idxSK 8 r24 r26 fun v1 =>
  loadNK 8 h v1 fun v2 =>
  allocK h 54 [(Value.string (ByteArray.mk #[])), (ki 0), (Value.bool false), (ki 0), (ki 0), (ki 0), (ki 0), (ki 0)] fun a3 h3 =>
  storeNK 8 h3 a3 v2 fun h4 =>
  ptrAddK 2 a3 fun v5 =>
  load1K h4 v5 fun v6 =>
  boolK v6 fun b7 =>
  ifB b7
  (ptrAddK 7 a3 fun v8 =>
  load1K h4 v8 fun v9 =>
  intK .i64 v9 fun i10 =>
  boolZ (ltZ i10 (Int.ofNat 364)) fun b11 =>
  ifB b11
  (pairK (callQ F78 [r1, (Value.int .i64 r26)] h4) fun v12 h12 =>
  boolK v12 fun b13 =>
  boolN b13 fun b14 =>
  S 2 (AL.v r1 (AL.v r9 (AL.i r26 (AL.v r24 (AL.i r25 (AL.i r26 (AL.b b14 AL.n))))))) h12)
  (S 2 (AL.v r1 (AL.v r9 (AL.i r26 (AL.v r24 (AL.i r25 (AL.i r26 (AL.b false AL.n))))))) h4))
  (S 2 (AL.v r1 (AL.v r9 (AL.i r26 (AL.v r24 (AL.i r25 (AL.i r26 (AL.b false AL.n))))))) h4))
  (S 4 (AL.v r9 AL.n) h)
noncomputable def P52x0 (S : Sg) (r0 : Value) (r1 : Value) (h : Hp) : CRes :=
  allocK h 26 (Array.toList (Value.cells r0)) fun a0 h0 =>
  loadNK 4 h0 a0 fun v1 =>
  pairK (callQ F53 [v1, r1] h0) fun v2 h2 =>
  extK v2 0 fun v3 =>
  extK v2 1 fun v4 =>
  extK v2 2 fun v5 =>
  intK .i64 v5 fun i6 =>
  allocK h2 85 [(Value.slice none 0 0), (Value.slice none 0 0), (ki 0), (Value.slice none 0 0), (Value.bool false), (ki 0), Value.nilFunc, Value.nilFunc, (Value.bool false), (ki 0), Value.nilFunc, Value.nilFunc, (Value.bool false), (ki 0), Value.nilFunc, Value.nilFunc] fun a7 h7 =>
  allocK h7 99 [(ki 0), (ki 0), (ki 0), (ki 0), (ki 0), (ki 0), (ki 0), (ki 0), (ki 0)] fun a8 h8 =>
  storeNK 16 h8 a7 v3 fun h9 =>
  storeNK 9 h9 a8 v4 fun h10 =>
  boolN (eqZ i6 (Int.ofNat 0)) fun b11 =>
  ifB b11
  (some (Value.tuple (List.toArray [(Value.slice none 0 0), (Value.int .i64 i6)]), h10))
  (ptrAddK 0 a7 fun v12 =>
  ptrAddK 0 v12 fun v13 =>
  load1K h10 v13 fun v14 =>
  lenSK v14 fun i15 =>
  S 1 (AL.v r1 (AL.v (Value.slice none 0 0) (AL.v v14 (AL.i i15 (AL.i (Int.ofNat 0) AL.n))))) h10)
noncomputable def T52 (S : Sg) : Sg := tabC 0 (uV fun r0 => uV fun r1 => uN fun h => P52x0 S r0 r1 h) (tabC 1 (uV fun r1 => uV fun r9 => uV fun r24 => uI fun r25 => uI fun r26 => uN fun h => P52x1 S r1 r9 r24 r25 r26 h) (tabC 2 (uV fun r1 => uV fun r9 => uI fun r10 => uV fun r24 => uI fun r25 => uI fun r26 => uB fun r43 => uN fun h => P52x2 S r1 r9 r10 r24 r25 r26 r43 h) (tabC 3 (uV fun r1 => uV fun r9 => uV fun r24 => uI fun r25 => uI fun r26 => uN fun h => P52x3 S r1 r9 r24 r25 r26 h) (tabC 4 (uV fun r9 => uN fun h => P52x4 S r9 h) (tabN)))))
noncomputable def F52 (args : List Value) (h : Hp) : CRes := packVals [Kd.v, Kd.v] args fun al => rec' T52 1000000 0 al h
def nt52 : Nat := 2 + (50 - 2)
theorem q52x4 (S : Sg) (r9 : Value) (h : Hp) : P52x4 S r9 h = stepAt (regK env orc68 (nt52)) (finK env Try.f52.results.toList) (collect B52 A52 []) 4 S (AL.v r9 AL.n) h := by kernel_rfl
theorem q52x3 (S : Sg) (r1 : Value) (r9 : Value) (r24 : Value) (r25 : Int) (r26 : Int) (h : Hp) : P52x3 S r1 r9 r24 r25 r26 h = stepAt (regK env orc68 (nt52)) (finK env Try.f52.results.toList) (collect B52 A52 []) 3 S (AL.v r1 (AL.v r9 (AL.v r24 (AL.i r25 (AL.i r26 AL.n))))) h := by kernel_rfl
theorem q52x2 (S : Sg) (r1 : Value) (r9 : Value) (r10 : Int) (r24 : Value) (r25 : Int) (r26 : Int) (r43 : Bool) (h : Hp) : P52x2 S r1 r9 r10 r24 r25 r26 r43 h = stepAt (regK env orc68 (nt52)) (finK env Try.f52.results.toList) (collect B52 A52 []) 2 S (AL.v r1 (AL.v r9 (AL.i r10 (AL.v r24 (AL.i r25 (AL.i r26 (AL.b r43 AL.n))))))) h := by kernel_rfl
theorem q52x1 (S : Sg) (r1 : Value) (r9 : Value) (r24 : Value) (r25 : Int) (r26 : Int) (h : Hp) : P52x1 S r1 r9 r24 r25 r26 h = stepAt (regK env orc68 (nt52)) (finK env Try.f52.results.toList) (collect B52 A52 []) 1 S (AL.v r1 (AL.v r9 (AL.v r24 (AL.i r25 (AL.i r26 AL.n))))) h := by kernel_rfl
theorem q52x0 (S : Sg) (r0 : Value) (r1 : Value) (h : Hp) : P52x0 S r0 r1 h = stepAt (regK env orc68 (nt52)) (finK env Try.f52.results.toList) (collect B52 A52 []) 0 S (AL.v r0 (AL.v r1 AL.n)) h := by kernel_rfl
theorem t52 (S : Sg) : Tab (fun l vs h => stepAt (regK env orc68 nt52) (finK env Try.f52.results.toList) (collect B52 A52 []) l S vs h) (T52 S) := by
  unfold T52
  refine Tab.cons 0 (fun vs0 h q e0 => ?_) ?_
  · obtain ⟨r0, vs1, rfl, e1⟩ := uV_some e0
    obtain ⟨r1, vs2, rfl, e2⟩ := uV_some e1
    obtain ⟨rfl, ee⟩ := uN_some e2
    exact (q52x0 S r0 r1 h).symm.trans ee
  refine Tab.cons 1 (fun vs0 h q e0 => ?_) ?_
  · obtain ⟨r1, vs1, rfl, e1⟩ := uV_some e0
    obtain ⟨r9, vs2, rfl, e2⟩ := uV_some e1
    obtain ⟨r24, vs3, rfl, e3⟩ := uV_some e2
    obtain ⟨r25, vs4, rfl, e4⟩ := uI_some e3
    obtain ⟨r26, vs5, rfl, e5⟩ := uI_some e4
    obtain ⟨rfl, ee⟩ := uN_some e5
    exact (q52x1 S r1 r9 r24 r25 r26 h).symm.trans ee
  refine Tab.cons 2 (fun vs0 h q e0 => ?_) ?_
  · obtain ⟨r1, vs1, rfl, e1⟩ := uV_some e0
    obtain ⟨r9, vs2, rfl, e2⟩ := uV_some e1
    obtain ⟨r10, vs3, rfl, e3⟩ := uI_some e2
    obtain ⟨r24, vs4, rfl, e4⟩ := uV_some e3
    obtain ⟨r25, vs5, rfl, e5⟩ := uI_some e4
    obtain ⟨r26, vs6, rfl, e6⟩ := uI_some e5
    obtain ⟨r43, vs7, rfl, e7⟩ := uB_some e6
    obtain ⟨rfl, ee⟩ := uN_some e7
    exact (q52x2 S r1 r9 r10 r24 r25 r26 r43 h).symm.trans ee
  refine Tab.cons 3 (fun vs0 h q e0 => ?_) ?_
  · obtain ⟨r1, vs1, rfl, e1⟩ := uV_some e0
    obtain ⟨r9, vs2, rfl, e2⟩ := uV_some e1
    obtain ⟨r24, vs3, rfl, e3⟩ := uV_some e2
    obtain ⟨r25, vs4, rfl, e4⟩ := uI_some e3
    obtain ⟨r26, vs5, rfl, e5⟩ := uI_some e4
    obtain ⟨rfl, ee⟩ := uN_some e5
    exact (q52x3 S r1 r9 r24 r25 r26 h).symm.trans ee
  refine Tab.cons 4 (fun vs0 h q e0 => ?_) ?_
  · obtain ⟨r9, vs1, rfl, e1⟩ := uV_some e0
    obtain ⟨rfl, ee⟩ := uN_some e1
    exact (q52x4 S r9 h).symm.trans ee
  exact Tab.nil
theorem r52 : ∀ args h v h', F52 args h = some (v, h') → Runs (C68) (.call 52 args.toArray h) (.ret v h') := by
  intro args h v h' e
  exact fun_sound (C := C68) (fn := Try.f52) (body := B52) (np := 2) (A := A52) (T := T52) (kinds := [Kd.v, Kd.v]) (by kernel_rfl) (by kernel_rfl) (by kernel_rfl) (by kernel_rfl) (regK_ok env_ok) (by kernel_rfl) (fun S => t52 S) e
noncomputable def orc69 := orcQ 52 F52 orc68
noncomputable def C69 : Cfg := cfg orc69
theorem ok69 : C69.Ok := orcQ_ok (C := C68) ok68 r52
noncomputable abbrev orcE := orc69
theorem okE : (cfg orcE).Ok := ok69
end Go.Proofs.Ytaegcofpbihmhaa.K
