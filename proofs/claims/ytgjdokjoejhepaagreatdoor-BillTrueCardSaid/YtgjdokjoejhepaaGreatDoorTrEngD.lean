/-
  An evaluator of the code, proved sound.
-/
import Derived.Test.YtgjdokjoejhepaaGreatDoorTrEngC
set_option linter.unusedVariables false
/-
  Several kept answers of one function: the older ones are asked where the newer one has none.
-/
namespace Go.bP
noncomputable def EW (f : FuncId) (F : List Value → Hp → Option Value) (fJ : FuncId → Array Value → Hp → Option (Value × Hp)) : FuncId → Array Value → Hp → Option (Value × Hp) :=
 fun g args h => cond (Nat.beq f g) (Option.rec (motive := fun _ => Option (Value × Hp)) (fJ g args h) (fun v => some (v, h)) (F args.toList h)) (fJ g args h)
theorem mQ {C : cB} (hC : C.Ok) {f : FuncId} {F : List Value → Hp → Option Value} (hF : dS C.P.P f F) : cB.Ok { C with fJ := EW f F C.fJ } := by
 have hP := gZ hC hF
 refine ⟨hC.env, hC.fn, ?_, hC.mixed⟩
 intro g args h v h' e
 simp only [EW] at e
 cases hb : Nat.beq f g with
 | false => rw [hb] at e; exact hC.fJ g args h v h' e
 | true =>
  rw [hb] at e
  simp only [cond_true] at e
  cases hf : F args.toList h with
  | none => rw [hf] at e; exact hC.fJ g args h v h' e
  | some u =>
   rw [hf] at e
   refine hP.fJ g args h v h' ?_
   show pI f F C.fJ g args h = some (v, h')
   unfold pI
   rw [hb]
   simp only [cond_true, hf]
   exact e
end Go.bP
/-
  A loop over a map by its table, the table's rows shown true piece by piece.
-/
namespace Go.bP
noncomputable section
structure bP3 where
 id : Nat
 ops : Array Oper
 b2 : Code
 o0 : Oper
 it : Operand
 n : Nat
 low : List (Nat × aW)
 sts : List S
section
variable (C : cB) (self : Self) (rd : Option Nat) (nt : Nat) (tab : bHM) (c : Code) (s : S)
end
end
end Go.bP
/-
  '==' of two arrays of integers.
-/
namespace Go.bP
section
variable {E : Env} (hE : E.Ok)
include hE in
theorem aFS {el : TypeId} (hu : iC E el = some (.int .i64)) {d : Nat} {xs ys : List Int} : ∀ (m i : Nat), i + m = xs.length → i + m = ys.length →
  pM E.P (do
   let s ← forIn (List.range' i m) ((none : Option Bool), ()) fun i _ => do
    let a ← part el (Array.mk (xs.map (Value.int .i64))) (i * 1)
    let c ← part el (Array.mk (ys.map (Value.int .i64))) (i * 1)
    let e ← Op.equalIn (d + 1) el a c
    if (!e) = true then pure (ForInStep.done (some false, ())) else pure (ForInStep.yield (none, ()))
   match s.fst with
   | some r => pure r
   | none => pure true : Sem Bool) = some (decide (xs.drop i = ys.drop i))
 | 0, i, hx, hy => by
  rw [List.drop_of_length_le (show xs.length ≤ i by omega), List.drop_of_length_le (show ys.length ≤ i by omega)]
  rfl
 | m + 1, i, hx, hy => by
  have hi : i < xs.length := by omega
  have hj : i < ys.length := by omega
  have gx : (Array.mk (xs.map (Value.int .i64)))[i * 1]? = some (.int .i64 xs[i]) := by rw [Nat.mul_one, List.getElem?_toArray, List.getElem?_map, List.getElem?_eq_getElem hi]; rfl
  have gy : (Array.mk (ys.map (Value.int .i64)))[i * 1]? = some (.int .i64 ys[i]) := by rw [Nat.mul_one, List.getElem?_toArray, List.getElem?_map, List.getElem?_eq_getElem hj]; rfl
  rw [List.range'_succ, List.forIn_cons]
  simp only [bind_assoc]
  rw [dB, FU hE hu gx]
  simp only [Option.bind_some]
  rw [dB, FU hE hu gy]
  simp only [Option.bind_some]
  rw [dB, S9 hE hu]
  simp only [Option.bind_some]
  rw [List.drop_eq_getElem_cons hi, List.drop_eq_getElem_cons hj]
  cases hab : (xs[i] == ys[i]) with
  | false =>
   have : xs[i] ≠ ys[i] := by simpa using hab
   rw [decide_eq_false (fun h => this (List.cons.inj h).1)]
   simp only [Bool.not_false, if_true, pure_bind]
   rfl
  | true =>
   have : xs[i] = ys[i] := by simpa using hab
   simp only [Bool.not_true, Bool.false_eq_true, if_false, pure_bind]
   rw [aFS hu m (i + 1) (by omega) (by omega), this]
   congr 1
   exact decide_eq_decide.2 ⟨fun h => by rw [h], fun h => (List.cons.inj h).2⟩
include hE in
theorem aL4 {t el : TypeId} {n : Nat} (hu : iC E t = some (.array n el)) (he : iC E el = some (.int .i64)) (hz : pM E.P (sizeOf el) = some 1) (hg : E.P.eqGuardType E.P.depth t = false) (hq : (E.ty.get t).bind (fun i => i.eqs) = none)
  (xo yo : Operand) {xs ys : List Int} (hx : xs.length = n) (hy : ys.length = n) : nG E .eql t xo yo (.agg (Array.mk (xs.map (Value.int .i64)))) (.agg (Array.mk (ys.map (Value.int .i64)))) = some (.bool (decide (xs = ys))) := by
 have pl : ∀ l : List Int, plain (.agg (Array.mk (l.map (Value.int .i64)))) = true := fun l => by
  show (l.map (Value.int .i64)).all (iG 5) = true
  rw [List.all_map, List.all_eq_true]
  intro x _
  rfl
 have h1 : xM E .eql t (.agg (Array.mk (xs.map (Value.int .i64)))) (.agg (Array.mk (ys.map (Value.int .i64)))) = none := by
  unfold xM
  simp only [hq, Option.bind_none]
 have h2 : pM E.P (Op.equal t (.agg (Array.mk (xs.map (Value.int .i64)))) (.agg (Array.mk (ys.map (Value.int .i64))))) = some (decide (xs = ys)) := by
  show pM E.P (Op.equalIn (9998 + 1 + 1) t _ _) = _
  unfold Op.equalIn
  rw [dB, CG hE hu]
  simp only [Option.bind_some]
  rw [dB, hz]
  simp only [Option.bind_some]
  have := aFS hE he (d := 9998) (xs := xs) (ys := ys) n 0 (by omega) (by omega)
  rw [List.drop_zero, List.drop_zero] at this
  refine Eq.trans ?_ this
  simp only [Std.Legacy.Range.forIn_eq_forIn_range']
  rw [show (Std.Legacy.Range.size { stop := n, step_pos := Nat.zero_lt_one }) = n by simp [Std.Legacy.Range.size]]
  congr 1
  congr 1
  funext f
  obtain ⟨f1, u⟩ := f
  cases f1 <;> rfl
 have h3 : pM E.P (eqGuard .eql t xo yo (.agg (Array.mk (xs.map (Value.int .i64)))) (.agg (Array.mk (ys.map (Value.int .i64))))) = some () := by
  unfold eqGuard
  simp only [Bool.not_true, Bool.false_eq_true, if_false]
  rw [dB]
  simp only [program, pM, Option.bind_some]
  rw [dB]
  simp only [pM, Option.bind_some, hg]
  rfl
 have h4 : CJ .eql (.agg (Array.mk (xs.map (Value.int .i64)))) (.agg (Array.mk (ys.map (Value.int .i64)))) = none := rfl
 unfold nG
 rw [h4]
 simp only
 unfold kX
 rw [h1]
 simp only
 unfold uK
 rw [pl, pl]
 simp only [Bool.and_self]
 rw [dB, h3]
 simp only [Option.bind_some, binOp]
 rw [dB, h2]
 rfl
end
end Go.bP
/-
  The evaluator with a second rule for regions that draw their order: by the sets of what was done.
-/
namespace Go.bP
noncomputable section
def QB (C : cB) (self : Self) (j : Job) : Option R := match dQ C self j with
 | some r => some r
 | none => match j with
  | .code (.region _ ops true) rd nt s => ok? (kJ ops) (aDA C self rd nt ops s)
  | _ => none
def vN (C : cB) : Nat → Self := fun n => Nat.rec (fun _ => none) (fun _ self => QB C self) n
end
theorem aEO {C : cB} (hC : C.Ok) {self : Self} (hs : Sound C self) : Sound C (dQ C self) :=
 ⟨(fun c rd nt s r e => LZ hC hs (LB hC hs) (IG hC hs) c rd nt s r e), (fun _ _ _ _ e => QC hC hs e), (fun _ _ _ _ _ e => L6 (self := self) hC e)⟩
theorem aAS {C : cB} (hC : C.Ok) {self : Self} (hs : Sound C self) : Sound C (QB C self) := by
 have h1 := aEO hC hs
 refine ⟨fun c rd nt s r e => ?_, fun f args h r e => ?_, fun f args u h r e => ?_⟩
 ·unfold QB at e
  split at e
  ·rename_i r' h; cases e; exact h1.code _ _ _ _ _ h
  ·split at e
   ·rename_i id ops rd' nt' s' hj
    cases hj
    obtain ⟨s', rfl, k⟩ := WO (id := id) hC hs e
    exact ⟨_, _, rfl, k⟩
   ·cases e
 ·unfold QB at e
  split at e
  ·rename_i r' h; cases e; exact h1.call _ _ _ _ h
  ·cases e
 ·unfold QB at e
  split at e
  ·rename_i r' h; cases e; exact h1.dcall _ _ _ _ _ h
  ·cases e
theorem dU {C : cB} (hC : C.Ok) : ∀ n, Sound C (vN C n)
 | 0 => ⟨(fun _ _ _ _ _ e => (by cases e)), (fun _ _ _ _ e => (by cases e)), (fun _ _ _ _ _ e => (by cases e))⟩
 | n + 1 => aAS hC (dU hC n)
theorem XW {C : cB} {self : Self} (hs : Sound C self) {f : FuncId} {v : Value} {h2 : Hp} (hv : plain v = true) (e : self (.call f #[] h00) = some (.ret v h2)) : dS C.P.P f (N9 v) := by
 intro args h u hu
 unfold N9 at hu
 split at hu
 ·cases hu
  obtain ⟨g1, g2⟩ := hs.call f #[] h00 _ e
  refine ⟨hv, g1, fun base ρ hh w args' m H hs hl => ?_⟩
  refine (g2 0 (fun _ => none) w args' m (a2S w) ?_).mono ?_
  ·exact ⟨hl.1, fun i x x' hx => (by cases hx)⟩
  ·rintro en w' ⟨v', ρ', rfl, hst, hvr⟩
   obtain rfl := fU hvr hv
   refine ⟨rfl, fun b o hb => hst.keep b o hb ?_, hst.size, hst.os, hst.tape, hst.output⟩
   rintro ⟨i, o, im, hi, _⟩
   rw [show h00.get i = none from T.get_nil i] at hi; cases hi
 ·cases hu
theorem aAT {C : cB} {self : Self} (hs : Sound C self) {f : FuncId} {b : Bool} (e : isV (self (.call f #[] h00)) b = true) : dS C.P.P f (N9 (.bool b)) := by
 obtain ⟨h, e⟩ := aRS e
 exact XW hs rfl e
end Go.bP
/-
  Long loops cut at their heads: what a loop answers from a told state is kept; the evaluator takes it there.
-/
namespace Go.bP
noncomputable section
abbrev iV (n : Nat) : Value := .int .i64 (.ofNat n)
abbrev sV (b o n c : Nat) : Value := .slice (some ⟨b, o, none⟩) n c
abbrev gV (l : List Value) : Value := .agg ⟨l⟩
abbrev nB {α : Type} (l : List Nat) (r : List (Nat × Option α)) : List (Nat × Option α) := List.append (l.map fun i => (i, none)) r
abbrev cA {α : Type} (l r : List (Nat × Option α)) : List (Nat × Option α) := List.append l r
end
end Go.bP
/-
  Ranges over functions, told: what yield does is handed on as a function; a round is told by itself.
-/
namespace Go.bP
section
variable {C : cB} {self : Self} {rd : Option Nat} {nt : Nat} {ops : Array Oper}
theorem aGL {o : Oper} {s s' : S} (e : jC C self rd nt ops o s = some (.code .normal s')) :
  ∃ add, s'.df = add ++ s.df ∧ ∀ D, jC C self rd nt ops o { s with df := D } = some (.code .normal { s' with df := add ++ D }) := by
 unfold jC at e
 unfold jC
 dsimp only
 split at e
 ·replace e := aB e; obtain ⟨tm, lX, e⟩ := e
  cases e
  exact ⟨[], rfl, fun D => by simp only [lX, Option.bind_some, List.nil_append]⟩
 ·replace e := aB e; obtain ⟨r, hr, e⟩ := e
  cases r with
  | val v h =>
   replace e := aB e; obtain ⟨tm, lX, e⟩ := e
   cases e
   exact ⟨[], rfl, fun D => by simp only [hr, lX, Option.bind_some, List.nil_append]⟩
  | pan v => cases e
  | dfr d =>
   dsimp only at e
   cases rd with
   | none =>
    dsimp only at e
    replace e := aB e; obtain ⟨tm, lX, e⟩ := e
    cases e
    exact ⟨[d], rfl, fun D => by simp only [hr, lX, Option.bind_some, List.singleton_append]⟩
   | some l => cases e
  | call fn args =>
   dsimp only at e
   replace e := aB e; obtain ⟨r2, hr2, e⟩ := e
   cases r2 with
   | ret v h =>
    dsimp only at e
    replace e := aB e; obtain ⟨tm, lX, e⟩ := e
    cases e
    exact ⟨[], rfl, fun D => by simp only [hr, hr2, lX, Option.bind_some, List.nil_append]⟩
   | pan v h => cases e
   | code _ _ => cases e
   | mode _ _ => cases e
theorem aGM : ∀ (l : List Oper) {s s' : S}, opsV C self rd nt ops l s = some (.code .normal s') →
  ∃ add, s'.df = add ++ s.df ∧ ∀ D, opsV C self rd nt ops l { s with df := D } = some (.code .normal { s' with df := add ++ D })
 | [], s, s', e => by cases e; exact ⟨[], rfl, fun D => rfl⟩
 | o :: rest, s, s', e => by
  unfold opsV at e
  replace e := aB e; obtain ⟨r, hr, e⟩ := e
  split at e
  ·rename_i s1
   obtain ⟨a1, h1, k1⟩ := aGL hr
   obtain ⟨a2, h2, k2⟩ := aGM rest e
   refine ⟨a2 ++ a1, by rw [h2, h1, List.append_assoc], fun D => ?_⟩
   unfold opsV
   rw [k1 D]
   simp only [Option.bind_some]
   rw [k2 (a1 ++ D), List.append_assoc]
  ·rename_i x s1 hx
   cases e
   exact absurd rfl hx
  ·cases e
theorem aAY {ms : List Nat} {ls : List Left} : ∀ (rest ks : List Nat) {s s' : S}, tailV C self rd nt ops ms ls rest ks s = some (.code .normal s') →
  ∃ add, s'.df = add ++ s.df ∧ ∀ D, tailV C self rd nt ops ms ls rest ks { s with df := D } = some (.code .normal { s' with df := add ++ D })
 | rest, [], s, s', e => by
  unfold tailV at e
  replace e := aB e; obtain ⟨tm, lX, e⟩ := e
  replace e := aB e; obtain ⟨aJ, hob, e⟩ := e
  cases e
  exact ⟨[], rfl, fun D => by unfold tailV; simp only [lX, hob, Option.bind_some, List.nil_append]⟩
 | rest, k :: ks, s, s', e => by
  unfold tailV at e
  replace e := aB e; obtain ⟨o, ho, e⟩ := e
  replace e := aB e; obtain ⟨tm, lX, e⟩ := e
  replace e := aB e; obtain ⟨aJ, hob, e⟩ := e
  replace e := aB e; obtain ⟨r, hr, e⟩ := e
  split at e
  ·rename_i s1
   obtain ⟨a1, h1, k1⟩ := aGL hr
   obtain ⟨a2, h2, k2⟩ := aAY _ ks e
   refine ⟨a2 ++ a1, by rw [h2, h1, List.append_assoc], fun D => ?_⟩
   unfold tailV
   rw [ho]
   simp only [Option.bind_some, lX, hob]
   have := k1 D
   simp only at this
   rw [this]
   simp only [Option.bind_some]
   rw [k2 (a1 ++ D), List.append_assoc]
  ·split at e
   ·cases e
   ·cases e
  ·cases e
theorem aN2 {s s' : S} (e : pR C self rd nt ops s = some (.code .normal s')) :
  ∃ add, s'.df = add ++ s.df ∧ ∀ D, pR C self rd nt ops { s with df := D } = some (.code .normal { s' with df := add ++ D }) := by
 unfold pR at e
 replace e := aQ e; obtain ⟨hok, e⟩ := e
 replace e := aB e; obtain ⟨⟨ls, n⟩, hq, e⟩ := e
 obtain ⟨add, h1, h2⟩ := aAY _ _ e
 refine ⟨add, h1, fun D => ?_⟩
 have hq' : ∀ (is : List Nat) (ls0 : List Left) (n0 : Nat), jG C self nt ops (masks ops.toList []) { s with df := D } is ls0 n0 = jG C self nt ops (masks ops.toList []) s is ls0 n0 := by
  intro is
  induction is with
  | nil => intro ls0 n0; rfl
  | cons i is ih => intro ls0 n0; unfold jG; congr 1; funext x; exact ih _ _
 unfold pR
 simp only [hok, okT, hq', hq, Option.bind_some]
 exact h2 D
theorem aKN {id : Nat} {d : Bool} {tm tm' : T Value} {h h' : Hp} (e : gG C (.code (.region id ops d) rd nt (st tm h)) (.code .normal (st tm' h'))) (D : List Deferred) :
  gG C (.code (.region id ops d) rd nt ⟨tm, D, h⟩) (.code .normal ⟨tm', D, h'⟩) := by
 obtain ⟨n, e⟩ := e
 cases n with
 | zero => cases e
 | succ n =>
  refine .bF ⟨n, ?_⟩
  replace e : eO C (run C n) (.region id ops d) rd nt (st tm h) = some (.code .normal (st tm' h')) := e
  show eO C (run C n) (.region id ops d) rd nt ⟨tm, D, h⟩ = _
  cases d with
  | false =>
   obtain ⟨add, h1, h2⟩ := aGM ops.toList (show opsV C (run C n) rd nt ops ops.toList (st tm h) = _ from e)
   have : add = [] := by simpa [st] using h1
   subst this
   exact h2 D
  | true =>
   obtain ⟨add, h1, h2⟩ := aN2 (show pR C (run C n) rd nt ops (st tm h) = _ from e)
   have : add = [] := by simpa [st] using h1
   subst this
   exact h2 D
end
end Go.bP
/-
  The steps of code that ranges over functions.
-/
namespace Go.bP.Y
open Go.bP
noncomputable section
structure Z where
 tm : Option (T Value)
 ds : List Nat
abbrev KZ := iT → Z → Hp → aT
abbrev qW := Nat → AL → Z → Hp → aT
abbrev YF := Nat → List Value → Hp → aT
abbrev FY := FuncId → YF → List Value → Hp → aT
abbrev RG := Nat → Nat → AL → Z → List Value → Hp → aT
def Z.put (z : Z) (d : Nat) (v : Value) : Z := ⟨Option.rec (motive := fun _ => Option (T Value)) none (fun t => some (t.put d (some v))) z.tm, z.ds⟩
def Z.lose (z : Z) : Z := ⟨none, z.ds⟩
def Z.mark (z : Z) (mk : List Nat) : Z := ⟨z.tm, mk ++ z.ds⟩
def dfs (ds : List Nat) : List Deferred := ds.map fun d => { target := .collected d, args := #[] }
def ZT (z : Z) (tm : T Value) : Prop := ∀ t, z.tm = some t → tm = t
def BP (tm : T Value) (z : Z) (h : Hp) : S := { tm, df := dfs z.ds, h }
theorem ZT.put {z : Z} {tm : T Value} (H : ZT z tm) (d : Nat) (v : Value) : ZT (z.put d v) (tm.put d (some v)) := by
 intro t e
 obtain ⟨zt, zd⟩ := z
 cases zt with
 | none => cases e
 | some t0 =>
  have := H t0 rfl
  subst this
  exact Option.some.inj e
theorem ZT.lose {z : Z} {tm : T Value} : ZT z.lose tm := fun _ e => (by cases e)
inductive Frame where
 | seq (b : Code) (A : aC)
 | block (id : Nat)
 | loop (b : Code) (A : aC)
 | gate (b : Code) (A : aC)
structure vX where
 l : Nat
 keep : List (Nat × Kd)
 code : Code
 DU : aC
 fs : List Frame
def jump (σ : qW) (l : Nat) (keep : List (Nat × Kd)) : KZ := fun r z h => zH keep r fun al => σ l al z h
def nY (σ : qW) : Option (Nat × List (Nat × Kd)) → KZ
 | some (l, keep) => jump σ l keep
 | none => fun _ _ _ => none
structure LX where
 tm : T Value
 nt : Nat
 ps : Array Tmp
 a : Code
 b : Code
 d : Nat
def LX.obj (X : LX) (s : LoopState) (p : Option Code) : aW := .loop s p X.tm X.nt X.ps X.a X.b X.d
def J5 (p : Prop) (x : aT) : aT := @ite _ p (Classical.propDecidable p) x none
theorem aAZ {p : Prop} {x : aT} {q : Value × Hp} (e : J5 p x = some q) : p ∧ x = some q := by
 unfold J5 at e
 by_cases hp : p
 ·rw [if_pos hp] at e; exact ⟨hp, e⟩
 ·rw [if_neg hp] at e; cases e
theorem aES {p : Prop} (hp : p) (x : aT) : J5 p x = x := by unfold J5; exact if_pos hp
def exV : Ex → Option Value
 | .normal => some (.bool true)
 | .ret => some (.bool false)
 | .exit i => some (.int .i64 (Int.ofNat i))
 | .panic _ => none
def II (l : Nat) (h : Hp) (k : Hp → aT) : aT := fH <|
 match h.get l with
 | some (.loop .ready p tm nt ps a b d) => dI (Nat.ble h.ro l) (k (h.upd l (.loop .busy p tm nt ps a b d))) none
 | _ => none
def roundEnd (l : Nat) (ex : Value) (h : Hp) : aT := fH <|
 match h.get l with
 | some (.loop _ _ tm nt ps a b d) => dI (Nat.ble h.ro l) (match ex with
  | .bool true => some (.bool true, h.upd l (.loop .ready none tm nt ps a b d))
  | .bool false => some (.bool false, h.upd l (.loop .done (some .ret) tm nt ps a b d))
  | .int _ (.ofNat i) => some (.bool false, h.upd l (.loop .done (some (.exit i)) tm nt ps a b d))
  | _ => none) none
 | _ => none
def YL (l : Nat) (X : LX) (rb : List Value → Hp → aT) (Y : YF) : YF := fun l' args h =>
 dI (Nat.beq l' l) (J5 (h.get l = some (X.obj .ready none)) (aY (rb args h) fun ex h2 => roundEnd l ex h2)) (Y l' args h)
def aET (rd : Option Nat) (h : Hp) (k : Nat → List Nat → Hp → aT) : aT := fH <|
 match rd with
 | none => k h.next [h.next] (h.add (.sK true))
 | some l0 => match h.get l0 with
  | some (.loop _ _ _ _ _ _ _ d) => k d [] h
  | _ => none
def aBA (l : Nat) (h : Hp) (k : Ex → Hp → aT) : aT := fH <|
 match h.get l with
 | some (.loop s p tm nt ps a b d) => dI (XV s && Nat.ble h.ro l) (match p with
  | none => k .normal (h.upd l (.loop .exhausted p tm nt ps a b d))
  | some .ret => k .ret (h.upd l (.loop .exhausted p tm nt ps a b d))
  | some (.exit i) => k (.exit i) (h.upd l (.loop .exhausted p tm nt ps a b d))
  | _ => none) none
 | _ => none
def exK (e : Ex) (n r : aT) (x : Nat → aT) : aT := fH <| match e with
 | .normal => n
 | .ret => r
 | .exit i => x i
 | .panic _ => none
def aSU (i : Nat) : List Nat → (Nat → aT) → aT
 | [], _ => none
 | id :: ids, f => dI (Nat.beq i id) (f id) (aSU i ids f)
theorem UQ {i : Nat} {f : Nat → aT} {q : Value × Hp} : ∀ {ids : List Nat}, aSU i ids f = some q → f i = some q
 | [], e => by cases e
 | id :: ids, e => by
  unfold aSU at e
  cases hb : Nat.beq i id with
  | true => rw [hb] at e; obtain rfl := Nat.eq_of_beq_eq_true hb; exact e
  | false => rw [hb] at e; exact UQ e
def aYL (g : Value) (k : FuncId → List Value → List Value → aT) : aT := fH <| match g with
 | .func (.func f) first cap => k f first.toList cap.toList
 | _ => none
def aVD {α : Type} (x : Option α) (k : α → aT) : aT := dD x k
def aKO (fy : FY) (Y : YF) (rd : Option Nat) (X : Nat → LX) (g : Value) (h : Hp) (rb : Nat → List Value → Hp → aT) (k : Ex → List Nat → Hp → aT) : aT :=
 aYL g fun f first cap => aET rd h fun d mk h1 =>
  aY (fy f (YL h1.next (X d) (rb h1.next) Y) (first ++ [.func (.yield h1.next) #[] #[]] ++ cap) (h1.add ((X d).obj .ready none))) fun _ h3 =>
  aBA h1.next h3 fun e h4 => k e mk h4
def rR : Code → List Nat
 | .exit i => [i]
 | .seq a b => rR a ++ rR b
 | .cond _ a b => rR a ++ rR b
 | .block id b => (rR b).filter fun i => !Nat.beq i id
 | .loop b => rR b
 | .scope b => rR b
 | .rangeFunc _ _ _ b => rR b
 | _ => []
def aVE : List Nat → List Nat
 | [] => []
 | i :: l => i :: (aVE l).filter fun j => !Nat.beq j i
section
variable (E : Env) (fJ : FuncId → Array Value → Hp → Option (Value × Hp)) (nt : Nat) (Y : YF)
def IJ (g : Value) (l : List Value) (h : Hp) : aT := fH <|
 match g with
 | .func (.func f) first cap => fJ f ((first ++ l.toArray) ++ cap) h
 | .func (.yield n) first _ => Y n (first.toList ++ l) h
 | _ => none
def opY (o : Oper) (r : iT) (h : Hp) (k : KT) : aT :=
 match o.op with
 | .call c => match c.callee with
  | .value (.tmp f) => uU (sS r (.tmp f)) fun g => match evL r c.args.toList with
   | some l => aY (IJ fJ Y g l h) fun v h => mY E o.type v fun v => GJ nt o.dst r k v h
   | none => none
  | _ => opS E fJ nt o r h k
 | _ => opS E fJ nt o r h k
def RX (d : Option Tmp) (z : Z) (r : iT) (k : Z → aT) : aT := fH <|
 match d with
 | none => k z
 | some d => match r with
  | (d', v) :: _ => match Nat.beq d' d with | true => k (z.put d v) | false => none
  | [] => none
def FD (ops : Array Oper) : List Oper → KZ → KZ
 | [], k => k
 | o :: rest, k => fun r z h =>
  match o.guard with
  | none => opY E fJ nt Y o r h fun r h => RX o.dst z r fun z => FD ops rest k r z h
  | some (j, want) => match (ops[j]?).bind (·.dst) with
   | none => none
   | some d => match r.at d with
    | none => none
    | some gv => onG gv
      (match want with
      | true => opY E fJ nt Y o ((d, .bool true) :: r) h fun r h => RX o.dst z r fun z => FD ops rest k r z h
      | false => GJ nt o.dst ((d, .bool true) :: r) (fun r h => RX o.dst z r fun z => FD ops rest k r z h) undef h)
      (match want with
      | false => opY E fJ nt Y o ((d, .bool false) :: r) h fun r h => RX o.dst z r fun z => FD ops rest k r z h
      | true => GJ nt o.dst ((d, .bool false) :: r) (fun r h => RX o.dst z r fun z => FD ops rest k r z h) undef h)
      (GJ nt o.dst r (fun r h => RX o.dst z r fun z => FD ops rest k r z h) undef h)
def aN3 (l : List Oper) (ops : Array Oper) (d : Bool) (k : KZ) : KZ :=
 match d with
 | false => FD E fJ nt Y ops l k
 | true => fun r z h => cO E fJ nt l ops true (fun r h => k r z.lose h) r h
end
section
variable (σ : qW) (ρ : RG) (fy : FY) (Y : YF) (rd : Option Nat) (nt : Nat) (regs : List Oper → Array Oper → Bool → KZ → KZ) (fin : KZ)
def rH : Code → aC → KZ → (Nat → KZ) → KZ
 | .skip, _, kn, _ => kn
 | .label _, _, kn, _ => kn
 | .region _ ops d, _, kn, _ => regs ops.toList ops d kn
 | .seq a b, A, kn, ke =>
  let kb := match A.r.cut with | some (l, keep) => jump σ l keep | none => rH b A.r kn ke
  match A.l.cut with | some (l, keep) => jump σ l keep | none => rH a A.l kb ke
 | .cond c x y, A, kn, ke => fun r z h =>
  match sS r c with
  | some v => onB v ((match A.l.cut with | some (l, keep) => jump σ l keep | none => rH x A.l kn ke) r z h)
    ((match A.r.cut with | some (l, keep) => jump σ l keep | none => rH y A.r kn ke) r z h)
  | none => none
 | .block id b, A, kn, ke => match A.l.cut with | some (l, keep) => jump σ l keep | none => rH b A.l kn (fun i => match Nat.beq i id with | true => kn | false => ke i)
 | .loop b, A, _, ke => match A.l.cut with | some (l, keep) => jump σ l keep | none => rH b A.l (nY σ A.cut) ke
 | .scope b, A, kn, ke => match A.l.cut with | some (l, keep) => jump σ l keep | none => rH b A.l kn ke
 | .exit id, _, _, ke => ke id
 | .ret, _, _, _ => fin
 | .rangeFunc f ps a b, A, kn, ke => fun r z h =>
  uU (sS r f) fun g => aVD z.tm fun tm =>
  match A.l.cut with
  | some (j, keep) => zH keep r fun al =>
    aKO fy Y rd (fun d => ⟨tm, nt, ps, a, b, d⟩) g h (fun l args h => ρ j l al z args h) fun e mk h4 =>
     exK e (kn r (z.mark mk) h4) (fin r (z.mark mk) h4) fun i => aSU i (aVE (rR b)) fun i => ke i r (z.mark mk) h4
  | none => none
 | _, _, _, _ => fun _ _ _ => none
variable (gate : Hp → (Hp → aT) → aT) (zP : KZ) (ex0 : Nat → KZ)
def vI : List Frame → KZ
 | [] => zP
 | .seq _ A :: _ => nY σ A.cut
 | .block _ :: fs => vI fs
 | .loop _ A :: _ => nY σ A.cut
 | .gate _ A :: _ => fun r z h => gate h fun h => nY σ A.cut r z h
def wQ : List Frame → Nat → KZ
 | [], i => ex0 i
 | .block id :: fs, i => match Nat.beq i id with | true => vI σ gate zP fs | false => wQ fs i
 | .seq _ _ :: fs, i => wQ fs i
 | .loop _ _ :: fs, i => wQ fs i
 | .gate _ _ :: _, _ => fun _ _ _ => none
end
def collect : Code → aC → List Frame → List vX
 | c, A, fs =>
  (match A.cut with | some (l, keep) => [{ l, keep, code := c, DU := A, fs }] | none => []) ++
  match c with
  | .seq a b => collect a A.l (.seq b A.r :: fs) ++ collect b A.r fs
  | .cond _ x y => collect x A.l fs ++ collect y A.r fs
  | .block id b => collect b A.l (.block id :: fs)
  | .loop b => collect b A.l (.loop b A :: fs)
  | .scope b => collect b A.l fs
  | _ => []
def entry (l : Nat) : List vX → Option vX
 | [] => none
 | e :: es => cond (Nat.beq e.l l) (some e) (entry l es)
section
variable (C : cB) (rd : Option Nat) (nt : Nat) (gl : Nat) (Fin : Ex → S → Value × Hp → Prop)
def nS : List Frame → Ex → S → Value × Hp → Prop
 | [], e, s, q => Fin e s q
 | .seq b _ :: fs, .normal, s, q => ∃ e s', gG C (.code b rd nt s) (.code e s') ∧ nS fs e s' q
 | .seq _ _ :: fs, e, s, q => nS fs e s q
 | .block id :: fs, .exit i, s, q => match Nat.beq i id with | true => nS fs .normal s q | false => nS fs (.exit i) s q
 | .block _ :: fs, e, s, q => nS fs e s q
 | .loop b _ :: fs, .normal, s, q => ∃ e s', gG C (.code (.loop b) rd nt s) (.code e s') ∧ nS fs e s' q
 | .loop _ _ :: fs, e, s, q => nS fs e s q
 | .gate b _ :: fs, .normal, s, q => ∃ p zN nt1 ps1 a1 b1 d1, s.h.get gl = some (.loop .ready p zN nt1 ps1 a1 b1 d1) ∧ Nat.ble s.h.ro gl = true ∧
   ∃ e s', gG C (.code b rd nt { s with h := s.h.upd gl (.loop .busy p zN nt1 ps1 a1 b1 d1) }) (.code e s') ∧ nS fs e s' q
 | .gate _ _ :: _, _, _, _ => False
def M (c : Code) (fs : List Frame) (r : iT) (z : Z) (h : Hp) (q : Value × Hp) : Prop :=
 ∀ tm, RR r tm → ZT z tm → ∃ e s', gG C (.code c rd nt (BP tm z h)) (.code e s') ∧ nS C rd nt gl Fin fs e s' q
def KN (kn : KZ) (fs : List Frame) : Prop := ∀ r z h q, kn r z h = some q → ∀ tm, RR r tm → ZT z tm → nS C rd nt gl Fin fs .normal (BP tm z h) q
def KE (ke : Nat → KZ) (fs : List Frame) : Prop := ∀ i r z h q, ke i r z h = some q → ∀ tm, RR r tm → ZT z tm → nS C rd nt gl Fin fs (.exit i) (BP tm z h) q
def SL (σ : qW) (l : Nat) (keep : List (Nat × Kd)) (c : Code) (fs : List Frame) : Prop := ∀ al vs z h q, σ l al z h = some q → AL.vals (keep.map (·.2)) al = some vs → M C rd nt gl Fin c fs ((keep.map (·.1)).zip vs) z h q
def J6 (regs : List Oper → Array Oper → Bool → KZ → KZ) : Prop :=
 ∀ id ops d kn r z h q, regs ops.toList ops d kn r z h = some q → ∀ tm, RR r tm → ZT z tm → ∃ tm' h' r' z', gG C (.code (.region id ops d) rd nt (BP tm z h)) (.code .normal (BP tm' z' h')) ∧ RR r' tm' ∧ ZT z' tm' ∧ kn r' z' h' = some q
def UR (Y : YF) : Prop := ∀ l args h v h', Y l args h = some (v, h') → ∃ n, BB (run C n) l args.toArray h = some (.ret v h')
def RY (fy : FY) : Prop := ∀ f Y args h v h', UR C Y → fy f Y args h = some (v, h') → (∀ a h, C.fJ f a h = none) ∧ C.quiet f = false ∧ gG C (.call f args.toArray h) (.ret v h')
def UT (ρ : RG) (j : Nat) (keep : List (Nat × Kd)) (ps : Array Tmp) (a b : Code) : Prop :=
 ∀ l al vs z args h ex h2, ρ j l al z args h = some (ex, h2) → AL.vals (keep.map (·.2)) al = some vs → ∀ tm, RR ((keep.map (·.1)).zip vs) tm → z.tm = some tm →
  ∃ zN s1 p tmx ntx psx ax bx d e s2, args.length = ps.size ∧ oQ nt (ps.zip args.toArray).toList tm = some zN ∧
   gG C (.code a (some l) nt { tm := zN, df := [], h }) (.code .normal s1) ∧ s1.h.get l = some (.loop .ready p tmx ntx psx ax bx d) ∧ Nat.ble s1.h.ro l = true ∧
   gG C (.code b (some l) nt { s1 with h := s1.h.upd l (.loop .busy p tmx ntx psx ax bx d) }) (.code e s2) ∧ exV e = some ex ∧ s2.h = h2
end
section
variable {C : cB} {rd : Option Nat} {nt gl : Nat} {Fin : Ex → S → Value × Hp → Prop}
variable {σ : qW} {ρ : RG} {fy : FY} {Y : YF} {regs : List Oper → Array Oper → Bool → KZ → KZ} {fin : KZ}
def eU (C : cB) (rd : Option Nat) (nt gl : Nat) (Fin : Ex → S → Value × Hp → Prop) (σ : qW) (ρ : RG) : Code → aC → List Frame → Prop
 | .seq a b, A, fs =>
  (match A.l.cut with | some (l, keep) => SL C rd nt gl Fin σ l keep a (.seq b A.r :: fs) | none => eU C rd nt gl Fin σ ρ a A.l (.seq b A.r :: fs)) ∧
  (match A.r.cut with | some (l, keep) => SL C rd nt gl Fin σ l keep b fs | none => eU C rd nt gl Fin σ ρ b A.r fs)
 | .cond _ x y, A, fs =>
  (match A.l.cut with | some (l, keep) => SL C rd nt gl Fin σ l keep x fs | none => eU C rd nt gl Fin σ ρ x A.l fs) ∧
  (match A.r.cut with | some (l, keep) => SL C rd nt gl Fin σ l keep y fs | none => eU C rd nt gl Fin σ ρ y A.r fs)
 | .block id b, A, fs => match A.l.cut with | some (l, keep) => SL C rd nt gl Fin σ l keep b (.block id :: fs) | none => eU C rd nt gl Fin σ ρ b A.l (.block id :: fs)
 | .loop b, A, fs =>
  (match A.cut with | some (l, keep) => SL C rd nt gl Fin σ l keep (.loop b) fs | none => True) ∧
  (match A.l.cut with | some (l, keep) => SL C rd nt gl Fin σ l keep b (.loop b A :: fs) | none => eU C rd nt gl Fin σ ρ b A.l (.loop b A :: fs))
 | .scope b, A, fs => match A.l.cut with | some (l, keep) => SL C rd nt gl Fin σ l keep b fs | none => eU C rd nt gl Fin σ ρ b A.l fs
 | .rangeFunc _ ps a b, A, _ => match A.l.cut with | some (j, keep) => UT C nt ρ j keep ps a b | none => True
 | _, _, _ => True
def FC (C : cB) (rd : Option Nat) (nt gl : Nat) (Fin : Ex → S → Value × Hp → Prop) (σ : qW) : List Frame → Prop
 | [] => True
 | .seq b A :: fs => (match A.cut with | some (l, keep) => SL C rd nt gl Fin σ l keep b fs | none => True) ∧ FC C rd nt gl Fin σ fs
 | .block _ :: fs => FC C rd nt gl Fin σ fs
 | .loop b A :: fs => (match A.cut with | some (l, keep) => SL C rd nt gl Fin σ l keep (.loop b) fs | none => True) ∧ FC C rd nt gl Fin σ fs
 | .gate b A :: fs => (match A.cut with | some (l, keep) => SL C rd nt gl Fin σ l keep b fs | none => True) ∧ FC C rd nt gl Fin σ fs
theorem SL.jump {l : Nat} {keep : List (Nat × Kd)} {c : Code} {fs : List Frame} (H : SL C rd nt gl Fin σ l keep c fs) {r : iT} {z : Z} {h : Hp} {q : Value × Hp} (e : jump σ l keep r z h = some q) : M C rd nt gl Fin c fs r z h q := by
 intro tm ht hz
 obtain ⟨al, vs, h1, h2, h3⟩ := ht.pack (show zH keep r (fun al => σ l al z h) = some q from e)
 exact H al vs z h q h3 h1 tm h2 hz
theorem M.seq {a b : Code} {A : aC} {fs : List Frame} {r : iT} {z : Z} {h : Hp} {q : Value × Hp} (H : M C rd nt gl Fin a (.seq b A :: fs) r z h q) : M C rd nt gl Fin (.seq a b) fs r z h q := by
 intro tm ht hz
 obtain ⟨e, s1, h1, h2⟩ := H tm ht hz
 cases e with
 | normal =>
  obtain ⟨e, s2, h3, h4⟩ := h2
  obtain ⟨n, k1, k2⟩ := h1.two h3
  exact ⟨e, s2, .bF ⟨n, by simp only [dQ, eO, k1, k2, Option.bind_some]⟩, h4⟩
 | exit i => obtain ⟨n, k1⟩ := h1; exact ⟨_, s1, .bF ⟨n, by simp only [dQ, eO, k1, Option.bind_some]⟩, h2⟩
 | ret => obtain ⟨n, k1⟩ := h1; exact ⟨_, s1, .bF ⟨n, by simp only [dQ, eO, k1, Option.bind_some]⟩, h2⟩
 | panic v => obtain ⟨n, k1⟩ := h1; exact ⟨_, s1, .bF ⟨n, by simp only [dQ, eO, k1, Option.bind_some]⟩, h2⟩
theorem M.loop {b : Code} {A : aC} {fs : List Frame} {r : iT} {z : Z} {h : Hp} {q : Value × Hp} (H : M C rd nt gl Fin b (.loop b A :: fs) r z h q) : M C rd nt gl Fin (.loop b) fs r z h q := by
 intro tm ht hz
 obtain ⟨e, s1, h1, h2⟩ := H tm ht hz
 cases e with
 | normal =>
  obtain ⟨e, s2, h3, h4⟩ := h2
  obtain ⟨n, k1, k2⟩ := h1.two h3
  exact ⟨e, s2, .bF ⟨n, by simp only [dQ, eO, k1, k2, Option.bind_some]⟩, h4⟩
 | exit i => obtain ⟨n, k1⟩ := h1; exact ⟨_, s1, .bF ⟨n, by simp only [dQ, eO, k1, Option.bind_some]⟩, h2⟩
 | ret => obtain ⟨n, k1⟩ := h1; exact ⟨_, s1, .bF ⟨n, by simp only [dQ, eO, k1, Option.bind_some]⟩, h2⟩
 | panic v => obtain ⟨n, k1⟩ := h1; exact ⟨_, s1, .bF ⟨n, by simp only [dQ, eO, k1, Option.bind_some]⟩, h2⟩
theorem M.block {id : Nat} {b : Code} {fs : List Frame} {r : iT} {z : Z} {h : Hp} {q : Value × Hp} (H : M C rd nt gl Fin b (.block id :: fs) r z h q) : M C rd nt gl Fin (.block id b) fs r z h q := by
 intro tm ht hz
 obtain ⟨e, s1, h1, h2⟩ := H tm ht hz
 obtain ⟨n, k1⟩ := h1
 cases e with
 | normal => exact ⟨_, s1, .bF ⟨n, by simp only [dQ, eO, k1, Option.bind_some]⟩, h2⟩
 | exit i =>
  simp only [nS] at h2
  cases hb : Nat.beq i id with
  | true => rw [hb] at h2; exact ⟨.normal, s1, .bF ⟨n, by simp only [dQ, eO, k1, Option.bind_some, hb]⟩, h2⟩
  | false => rw [hb] at h2; exact ⟨.exit i, s1, .bF ⟨n, by simp only [dQ, eO, k1, Option.bind_some, hb]⟩, h2⟩
 | ret => exact ⟨_, s1, .bF ⟨n, by simp only [dQ, eO, k1, Option.bind_some]⟩, h2⟩
 | panic v => exact ⟨_, s1, .bF ⟨n, by simp only [dQ, eO, k1, Option.bind_some]⟩, h2⟩
theorem M.scope {b : Code} {fs : List Frame} {r : iT} {z : Z} {h : Hp} {q : Value × Hp} (H : M C rd nt gl Fin b fs r z h q) : M C rd nt gl Fin (.scope b) fs r z h q := by
 intro tm ht hz
 obtain ⟨e, s1, h1, h2⟩ := H tm ht hz
 obtain ⟨n, k1⟩ := h1
 exact ⟨e, s1, .bF ⟨n, by simp only [dQ, eO, k1, Option.bind_some]⟩, h2⟩
def aN5 : List Frame → Prop
 | [] => True
 | .gate _ _ :: _ => False
 | _ :: fs => aN5 fs
theorem nS.ret {s : S} {q : Value × Hp} : ∀ (fs : List Frame), aN5 fs → Fin .ret s q → nS C rd nt gl Fin fs .ret s q
 | [], _, H => H
 | .seq _ _ :: fs, g, H => nS.ret fs g H
 | .block _ :: fs, g, H => nS.ret fs g H
 | .loop _ _ :: fs, g, H => nS.ret fs g H
 | .gate _ _ :: _, g, _ => g.elim
end
end
end Go.bP.Y
/-
  What is told of code that ranges over functions is so.
-/
namespace Go.bP.Y
open Go.bP
noncomputable section
theorem aKP {g : Value} {k : FuncId → List Value → List Value → aT} {q : Value × Hp} (e : aYL g k = some q) : ∃ f a b, g = .func (.func f) a b ∧ k f a.toList b.toList = some q := by
 unfold aYL fH at e
 dsimp only at e
 split at e
 ·exact ⟨_, _, _, rfl, e⟩
 ·cases e
theorem aBB {rd : Option Nat} {h : Hp} {k : Nat → List Nat → Hp → aT} {q : Value × Hp} (e : aET rd h k = some q) : ∃ d mk h1, QA rd h = some (d, h1, dfs mk) ∧ k d mk h1 = some q := by
 unfold aET fH at e
 dsimp only at e
 split at e
 ·exact ⟨_, _, _, rfl, e⟩
 ·split at e
  ·rename_i hg
   exact ⟨_, [], _, by unfold QA; dsimp only; rw [hg]; rfl, e⟩
  ·cases e
def aN6 : Option Code → Option Ex
 | none => some .normal
 | some .ret => some .ret
 | some (.exit i) => some (.exit i)
 | _ => none
theorem fP {ρ : Type} {b : Bool} {x : Option ρ} {q : ρ} (e : dI b x none = some q) : b = true ∧ x = some q := by
 cases b with
 | true => exact ⟨rfl, e⟩
 | false => cases e
theorem aKQ {l : Nat} {h : Hp} {k : Ex → Hp → aT} {q : Value × Hp} (e : aBA l h k = some q) :
  ∃ s p tm nt ps a b d ex, h.get l = some (.loop s p tm nt ps a b d) ∧ (XV s && Nat.ble h.ro l) = true ∧ aN6 p = some ex ∧ k ex (h.upd l (.loop .exhausted p tm nt ps a b d)) = some q := by
 unfold aBA fH at e
 dsimp only at e
 split at e
 ·rename_i s p tm nt ps a b d hg
  obtain ⟨hb, e⟩ := fP e
  split at e
  ·exact ⟨_, _, _, _, _, _, _, _, _, hg, hb, rfl, e⟩
  ·exact ⟨_, _, _, _, _, _, _, _, _, hg, hb, rfl, e⟩
  ·exact ⟨_, _, _, _, _, _, _, _, _, hg, hb, rfl, e⟩
  ·cases e
 ·cases e
theorem aN7 {e : Ex} {n r : aT} {x : Nat → aT} {q : Value × Hp} (h : exK e n r x = some q) : (e = .normal ∧ n = some q) ∨ (e = .ret ∧ r = some q) ∨ ∃ i, e = .exit i ∧ x i = some q := by
 unfold exK fH at h
 dsimp only at h
 split at h
 ·exact .inl ⟨rfl, h⟩
 ·exact .inr (.inl ⟨rfl, h⟩)
 ·exact .inr (.inr ⟨_, rfl, h⟩)
 ·cases h
theorem aEU {l : Nat} {h : Hp} {k : Hp → aT} {q : Value × Hp} (e : II l h k = some q) :
  ∃ p tm nt ps a b d, h.get l = some (.loop .ready p tm nt ps a b d) ∧ Nat.ble h.ro l = true ∧ k (h.upd l (.loop .busy p tm nt ps a b d)) = some q := by
 unfold II fH at e
 dsimp only at e
 split at e
 ·rename_i p tm nt ps a b d hg
  obtain ⟨hb, e⟩ := fP e
  exact ⟨_, _, _, _, _, _, _, hg, hb, e⟩
 ·cases e
section
variable {C : cB} {nt : Nat}
theorem a4G {ρ : RG} {j : Nat} {keep : List (Nat × Kd)} {ps : Array Tmp} {a b : Code} (H : UT C nt ρ j keep ps a b) {Y : YF} (hY : UR C Y) {l : Nat} {al : AL} {vs : List Value} {z : Z} {tm : T Value} {d : Nat}
  (hv : AL.vals (keep.map (·.2)) al = some vs) (hr : RR ((keep.map (·.1)).zip vs) tm) (hz : z.tm = some tm) : UR C (YL l ⟨tm, nt, ps, a, b, d⟩ (fun args h => ρ j l al z args h) Y) := by
 intro l' args h v h' e
 unfold YL at e
 cases hb : Nat.beq l' l with
 | false => rw [hb] at e; exact hY l' args h v h' e
 | true =>
  rw [hb] at e
  obtain rfl := Nat.eq_of_beq_eq_true hb
  obtain ⟨hget, e⟩ := aAZ e
  obtain ⟨ex, h2, hrb, e⟩ := jB e
  obtain ⟨zN, s1, p, tmx, ntx, psx, ax, bx, dx, en, s2, k1, k2, k3, k4, k5, k6, k7, k8⟩ := H l' al vs z args h ex h2 hrb hv tm hr hz
  obtain ⟨n, r1, r2⟩ := k3.two k6
  refine ⟨n, ?_⟩
  subst k8
  have hsz : Nat.beq args.toArray.size ps.size = true := by simp [k1]
  unfold roundEnd fH at e
  dsimp only at e
  split at e
  ·rename_i st0 p0 tm0 nt0 ps0 a0 b0 d0 hg2
   obtain ⟨hro, e⟩ := fP e
   unfold BB
   rw [hget]
   simp only [LX.obj, hsz, okT, k2, Option.bind_some, r1, k4, k5, r2, hg2, hro]
   cases en with
   | normal => cases k7; dsimp only at e ⊢; cases e; rfl
   | ret => cases k7; dsimp only at e ⊢; cases e; rfl
   | exit i => cases k7; dsimp only at e ⊢; cases e; rfl
   | panic w => cases k7
  ·cases e
end
section
variable {C : cB} {rd : Option Nat} {nt gl : Nat} {Fin : Ex → S → Value × Hp → Prop}
variable {σ : qW} {ρ : RG} {fy : FY} {Y : YF} {regs : List Oper → Array Oper → Bool → KZ → KZ}
def KR (C : cB) (rd : Option Nat) (nt gl : Nat) (Fin : Ex → S → Value × Hp → Prop) (fin : KZ) (fs : List Frame) : Prop := ∀ r z h q, fin r z h = some q → ∀ tm, RR r tm → ZT z tm → nS C rd nt gl Fin fs .ret (BP tm z h) q
theorem aKR (hY : UR C Y) (hfy : RY C fy) {f : Operand} {ps : Array Tmp} {a b : Code} {j : Nat} {keep : List (Nat × Kd)} (H : UT C nt ρ j keep ps a b) {g : Value} {z : Z} {tm : T Value} {h : Hp} (hg : iL tm f = some g)
  {al : AL} {vs : List Value} (hv : AL.vals (keep.map (·.2)) al = some vs) (hr : RR ((keep.map (·.1)).zip vs) tm) (hz : z.tm = some tm) {k : Ex → List Nat → Hp → aT} {q : Value × Hp}
  (e : aKO fy Y rd (fun d => ⟨tm, nt, ps, a, b, d⟩) g h (fun l args h => ρ j l al z args h) k = some q) :
  ∃ ex mk h4, gG C (.code (.rangeFunc f ps a b) rd nt (BP tm z h)) (.code ex (BP tm (z.mark mk) h4)) ∧ k ex mk h4 = some q := by
 unfold aKO at e
 obtain ⟨gf, fa, ca, rfl, e1⟩ := aKP e
 obtain ⟨d, mk, h1, hent, e2⟩ := aBB e1
 obtain ⟨u, h3, hcall, e3⟩ := jB e2
 obtain ⟨s0, p0, tm0, nt0, ps0, a0, b0, d0, ex, hg3, hb, hp, e4⟩ := aKQ e3
 obtain ⟨ho, hq, n, hrun⟩ := hfy _ _ _ _ _ _ (a4G (d := d) H hY hv hr hz) hcall
 refine ⟨ex, mk, _, .bF ⟨n, ?_⟩, e4⟩
 have hcv : lS C (run C n) (.func gf) (fa ++ #[Value.func (Fn.yield h1.next) #[] #[]] ++ ca) (h1.add (.loop .ready none tm nt ps a b d)) = some (.ret u h3) := by
  have : (fa ++ #[Value.func (Fn.yield h1.next) #[] #[]] ++ ca) = (fa.toList ++ [Value.func (Fn.yield h1.next) #[] #[]] ++ ca.toList).toArray := by
   apply Array.ext'; simp
  rw [this]
  simp only [lS, ho, hq]
  exact hrun
 unfold aN6 at hp
 split at hp
 ·cases hp; simp only [dQ, eO, yJ, BP, hg, Option.bind_some, hent, hcv, hg3, hb, okT, Z.mark, dfs, List.map_append]
 ·cases hp; simp only [dQ, eO, yJ, BP, hg, Option.bind_some, hent, hcv, hg3, hb, okT, Z.mark, dfs, List.map_append]
 ·cases hp; simp only [dQ, eO, yJ, BP, hg, Option.bind_some, hent, hcv, hg3, hb, okT, Z.mark, dfs, List.map_append]
 ·cases hp
theorem aBC {fin : KZ} (MB : J6 C rd nt regs) (hY : UR C Y) (hfy : RY C fy) :
  ∀ (c : Code) (A : aC) (fs : List Frame) (kn : KZ) (ke : Nat → KZ), KN C rd nt gl Fin kn fs → KE C rd nt gl Fin ke fs → KR C rd nt gl Fin fin fs → eU C rd nt gl Fin σ ρ c A fs →
   ∀ r z h q, rH σ ρ fy Y rd nt regs fin c A kn ke r z h = some q → M C rd nt gl Fin c fs r z h q := by
 intro c
 induction c with
 | skip => intro A fs kn ke hn he hr hc r z h q e tm ht hz; exact ⟨.normal, _, .bF ⟨0, rfl⟩, hn r z h q e tm ht hz⟩
 | label l => intro A fs kn ke hn he hr hc r z h q e tm ht hz; exact ⟨.normal, _, .bF ⟨0, rfl⟩, hn r z h q e tm ht hz⟩
 | region id ops d =>
  intro A fs kn ke hn he hr hc r z h q e tm ht hz
  obtain ⟨tm', h', r', z', h1, h2, h3, h4⟩ := MB id ops d kn r z h q e tm ht hz
  exact ⟨.normal, _, h1, hn r' z' h' q h4 tm' h2 h3⟩
 | seq a b iha ihb =>
  intro A fs kn ke hn he hr hc r z h q e
  obtain ⟨ca, cb⟩ := hc
  simp only [rH] at e
  have hb : KN C rd nt gl Fin (match A.r.cut with | some (l, keep) => Go.bP.Y.jump σ l keep | none => rH σ ρ fy Y rd nt regs fin b A.r kn ke) (.seq b A.r :: fs) := by
   intro r z h q e tm ht hz
   cases hcut : A.r.cut with
   | some x => obtain ⟨l, keep⟩ := x; rw [hcut] at e cb; exact SL.jump cb e tm ht hz
   | none => rw [hcut] at e cb; exact ihb A.r fs kn ke hn he hr cb r z h q e tm ht hz
  have he' : KE C rd nt gl Fin ke (.seq b A.r :: fs) := fun i r z h q e tm ht hz => he i r z h q e tm ht hz
  have hr' : KR C rd nt gl Fin fin (.seq b A.r :: fs) := fun r z h q e tm ht hz => hr r z h q e tm ht hz
  apply M.seq (A := A.r)
  cases hcut : A.l.cut with
  | some x => obtain ⟨l, keep⟩ := x; rw [hcut] at e ca; exact SL.jump ca e
  | none => rw [hcut] at e ca; exact iha A.l _ _ ke hb he' hr' ca r z h q e
 | cond c x y OV OW =>
  intro A fs kn ke hn he hr hc r z h q e
  obtain ⟨cx, cy⟩ := hc
  simp only [rH] at e
  split at e
  ·rename_i v hv
   rcases wR e with ⟨rfl, e⟩ | ⟨rfl, e⟩
   ·intro tm ht hz
    have hM : M C rd nt gl Fin x fs r z h q := by
     cases hcut : A.l.cut with
     | some w => obtain ⟨l, keep⟩ := w; rw [hcut] at e cx; exact SL.jump cx e
     | none => rw [hcut] at e cx; exact OV A.l fs kn ke hn he hr cx r z h q e
    obtain ⟨ee, s1, ⟨n, h1⟩, h2⟩ := hM tm ht hz
    exact ⟨ee, s1, .bF ⟨n, by simp only [dQ, eO, nK, BP, dO ht hv, Option.bind_some] at h1 ⊢; exact h1⟩, h2⟩
   ·intro tm ht hz
    have hM : M C rd nt gl Fin y fs r z h q := by
     cases hcut : A.r.cut with
     | some w => obtain ⟨l, keep⟩ := w; rw [hcut] at e cy; exact SL.jump cy e
     | none => rw [hcut] at e cy; exact OW A.r fs kn ke hn he hr cy r z h q e
    obtain ⟨ee, s1, ⟨n, h1⟩, h2⟩ := hM tm ht hz
    exact ⟨ee, s1, .bF ⟨n, by simp only [dQ, eO, nK, BP, dO ht hv, Option.bind_some] at h1 ⊢; exact h1⟩, h2⟩
  ·cases e
 | block id b ih =>
  intro A fs kn ke hn he hr hc r z h q e
  simp only [rH] at e
  apply M.block
  unfold eU at hc
  have hr' : KR C rd nt gl Fin fin (.block id :: fs) := fun r z h q e tm ht hz => hr r z h q e tm ht hz
  cases hcut : A.l.cut with
  | some x => obtain ⟨l, keep⟩ := x; rw [hcut] at e hc; exact SL.jump hc e
  | none =>
   rw [hcut] at e hc
   refine ih A.l (.block id :: fs) kn _ (fun r z h q e tm ht hz => hn r z h q e tm ht hz) ?_ hr' hc r z h q e
   intro i r z h q e tm ht hz
   replace e : (match Nat.beq i id with | true => kn | false => ke i) r z h = some q := e
   simp only [nS]
   cases hb : Nat.beq i id with
   | true => rw [hb] at e; exact hn r z h q e tm ht hz
   | false => rw [hb] at e; exact he i r z h q e tm ht hz
 | loop b ih =>
  intro A fs kn ke hn he hr hc r z h q e
  obtain ⟨c1, c2⟩ := hc
  simp only [rH] at e
  apply M.loop (A := A)
  have hj : KN C rd nt gl Fin (nY σ A.cut) (.loop b A :: fs) := by
   intro r z h q e tm ht hz
   cases hcut : A.cut with
   | some x => obtain ⟨l, keep⟩ := x; rw [hcut] at e c1; exact SL.jump c1 e tm ht hz
   | none => rw [hcut] at e; cases e
  have hr' : KR C rd nt gl Fin fin (.loop b A :: fs) := fun r z h q e tm ht hz => hr r z h q e tm ht hz
  cases hcut : A.l.cut with
  | some x => obtain ⟨l, keep⟩ := x; rw [hcut] at e c2; exact SL.jump c2 e
  | none => rw [hcut] at e c2; exact ih A.l _ _ ke hj (fun i r z h q e tm ht hz => he i r z h q e tm ht hz) hr' c2 r z h q e
 | rangeFunc f ps a b _ _ =>
  intro A fs kn ke hn he hr hc r z h q e tm ht hz
  simp only [rH] at e
  obtain ⟨g, hg, e⟩ := bX e
  obtain ⟨tm0, lX, e⟩ := fI e
  obtain rfl := hz tm0 lX
  unfold eU at hc
  cases hcut : A.l.cut with
  | none => rw [hcut] at e; cases e
  | some x =>
   obtain ⟨j, keep⟩ := x
   rw [hcut] at e hc
   obtain ⟨al, vs, hv, hrr, e⟩ := ht.pack e
   obtain ⟨ex, mk, h4, hrun, e⟩ := aKR (rd := rd) hY hfy hc (dO ht hg) hv hrr lX e
   have hz2 : ZT (z.mark mk) tm := fun t e => hz t e
   refine ⟨ex, _, hrun, ?_⟩
   rcases aN7 e with ⟨rfl, e⟩ | ⟨rfl, e⟩ | ⟨i, rfl, e⟩
   ·exact hn _ _ _ _ e tm ht hz2
   ·exact hr _ _ _ _ e tm ht hz2
   ·exact he i _ _ _ _ (UQ e) tm ht hz2
 | exit id => intro A fs kn ke hn he hr hc r z h q e tm ht hz; exact ⟨.exit id, _, .bF ⟨0, rfl⟩, he id r z h q e tm ht hz⟩
 | scope b ih =>
  intro A fs kn ke hn he hr hc r z h q e
  simp only [rH] at e
  unfold eU at hc
  apply M.scope
  cases hcut : A.l.cut with
  | some x => obtain ⟨l, keep⟩ := x; rw [hcut] at e hc; exact SL.jump hc e
  | none => rw [hcut] at e hc; exact ih A.l fs kn ke hn he hr hc r z h q e
 | goto l => intro A fs kn ke hn he hr hc r z h q e; cases e
 | ret => intro A fs kn ke hn he hr hc r z h q e tm ht hz; exact ⟨.ret, _, .bF ⟨0, rfl⟩, hr r z h q e tm ht hz⟩
 | refuse w => intro A fs kn ke hn he hr hc r z h q e; cases e
end
section
variable {C : cB} {rd : Option Nat} {nt gl : Nat} {Fin : Ex → S → Value × Hp → Prop}
variable {σ : qW} {ρ : RG} {zP : KZ} {ex0 : Nat → KZ}
theorem AZ (h0 : KN C rd nt gl Fin zP []) : ∀ fs, FC C rd nt gl Fin σ fs → KN C rd nt gl Fin (vI σ (II gl) zP fs) fs
 | [], _ => h0
 | .seq b A :: fs, hc => by
  intro r z h q e tm ht hz
  have c1 := hc.1
  unfold vI at e
  cases hcut : A.cut with
  | some x => obtain ⟨l, keep⟩ := x; rw [hcut] at e c1; exact SL.jump c1 e tm ht hz
  | none => rw [hcut] at e; cases e
 | .block _ :: fs, hc => fun r z h q e tm ht hz => AZ h0 fs hc r z h q e tm ht hz
 | .loop b A :: fs, hc => by
  intro r z h q e tm ht hz
  have c1 := hc.1
  unfold vI at e
  cases hcut : A.cut with
  | some x => obtain ⟨l, keep⟩ := x; rw [hcut] at e c1; exact SL.jump c1 e tm ht hz
  | none => rw [hcut] at e; cases e
 | .gate b A :: fs, hc => by
  intro r z h q e tm ht hz
  have c1 := hc.1
  unfold vI at e
  obtain ⟨p, tmx, ntx, psx, ax, bx, dx, g1, g2, e⟩ := aEU e
  cases hcut : A.cut with
  | some x =>
   obtain ⟨l, keep⟩ := x; rw [hcut] at e c1
   exact ⟨p, tmx, ntx, psx, ax, bx, dx, g1, g2, SL.jump c1 e tm ht hz⟩
  | none => rw [hcut] at e; cases e
theorem uW (h0 : KN C rd nt gl Fin zP []) (hx : KE C rd nt gl Fin ex0 []) : ∀ fs, FC C rd nt gl Fin σ fs → KE C rd nt gl Fin (wQ σ (II gl) zP ex0 fs) fs
 | [], _ => hx
 | .seq b A :: fs, hc => fun i r z h q e tm ht hz => uW h0 hx fs hc.2 i r z h q e tm ht hz
 | .block id :: fs, hc => by
  intro i r z h q e tm ht hz
  simp only [wQ] at e
  simp only [nS]
  cases hb : Nat.beq i id with
  | true => rw [hb] at e; exact AZ h0 fs hc r z h q e tm ht hz
  | false => rw [hb] at e; exact uW h0 hx fs hc i r z h q e tm ht hz
 | .loop b A :: fs, hc => fun i r z h q e tm ht hz => uW h0 hx fs hc.2 i r z h q e tm ht hz
 | .gate b A :: fs, hc => fun i r z h q e => (by cases e)
def zC (C : cB) (rd : Option Nat) (nt gl : Nat) (Fin : Ex → S → Value × Hp → Prop) (σ : qW) (L : List vX) : Prop := ∀ e ∈ L, SL C rd nt gl Fin σ e.l e.keep e.code e.fs
structure FE where
 j : Nat
 keep : List (Nat × Kd)
 ps : Array Tmp
 a : Code
 b : Code
def pQ : Code → aC → List FE
 | .seq a b, A => pQ a A.l ++ pQ b A.r
 | .cond _ x y, A => pQ x A.l ++ pQ y A.r
 | .block _ b, A => pQ b A.l
 | .loop b, A => pQ b A.l
 | .scope b, A => pQ b A.l
 | .rangeFunc _ ps a b, A => match A.l.cut with | some (j, keep) => [⟨j, keep, ps, a, b⟩] | none => []
 | _, _ => []
def FF (C : cB) (nt : Nat) (ρ : RG) (l : List FE) : Prop := ∀ x ∈ l, UT C nt ρ x.j x.keep x.ps x.a x.b
theorem fA {c : Code} {A : aC} {fs : List Frame} {l : Nat} {keep : List (Nat × Kd)} (h : A.cut = some (l, keep)) : { l, keep, code := c, DU := A, fs } ∈ collect c A fs := by
 unfold collect; rw [h]; exact List.mem_append_left _ (List.mem_singleton.2 rfl)
theorem aN8 : ∀ (c : Code) (A : aC) (fs : List Frame), ∀ e ∈ collect c A fs, ∀ x ∈ pQ e.code e.DU, x ∈ pQ c A := by
 have self : ∀ {c : Code} {A : aC} {fs : List Frame} {rest : List vX} {e : vX}, e ∈ (match A.cut with | some (l, keep) => [({ l, keep, code := c, DU := A, fs } : vX)] | none => []) ++ rest → (e ∈ rest → ∀ x ∈ pQ e.code e.DU, x ∈ pQ c A) → ∀ x ∈ pQ e.code e.DU, x ∈ pQ c A := by
  intro c A fs rest e he hr
  rcases List.mem_append.1 he with h1 | h1
  ·cases hcut : A.cut with
   | some x => obtain ⟨l, keep⟩ := x; rw [hcut] at h1; obtain rfl := List.mem_singleton.1 h1; exact fun x hx => hx
   | none => rw [hcut] at h1; cases h1
  ·exact hr h1
 intro c
 induction c with
 | seq a b iha ihb =>
  intro A fs e he
  unfold collect at he
  refine self he fun he x hx => ?_
  rcases List.mem_append.1 he with h1 | h1
  ·exact List.mem_append_left _ (iha _ _ e h1 x hx)
  ·exact List.mem_append_right _ (ihb _ _ e h1 x hx)
 | cond c x y OV OW =>
  intro A fs e he
  unfold collect at he
  refine self he fun he x hx => ?_
  rcases List.mem_append.1 he with h1 | h1
  ·exact List.mem_append_left _ (OV _ _ e h1 x hx)
  ·exact List.mem_append_right _ (OW _ _ e h1 x hx)
 | block id b ih => intro A fs e he; unfold collect at he; exact self he fun he x hx => ih _ _ e he x hx
 | loop b ih => intro A fs e he; unfold collect at he; exact self he fun he x hx => ih _ _ e he x hx
 | scope b ih => intro A fs e he; unfold collect at he; exact self he fun he x hx => ih _ _ e he x hx
 | _ => intro A fs e he; unfold collect at he; exact self he fun he => (by cases he)
theorem qN {L : List vX} (H : zC C rd nt gl Fin σ L) : ∀ (c : Code) (A : aC) (fs : List Frame), FF C nt ρ (pQ c A) → (∀ e ∈ collect c A fs, e ∈ L) → eU C rd nt gl Fin σ ρ c A fs := by
 have cut : ∀ {c : Code} {A : aC} {fs : List Frame}, (∀ e ∈ collect c A fs, e ∈ L) → eU C rd nt gl Fin σ ρ c A fs → (match A.cut with | some (l, keep) => SL C rd nt gl Fin σ l keep c fs | none => eU C rd nt gl Fin σ ρ c A fs) := by
  intro c A fs h1 h2
  cases hcut : A.cut with
  | some x => obtain ⟨l, keep⟩ := x; exact H _ (h1 _ (fA hcut))
  | none => exact h2
 intro c
 induction c with
 | seq a b iha ihb =>
  intro A fs hg h
  have ha : ∀ e ∈ collect a A.l (.seq b A.r :: fs), e ∈ L := fun e he => h e (by unfold collect; exact List.mem_append_right _ (List.mem_append_left _ he))
  have hb : ∀ e ∈ collect b A.r fs, e ∈ L := fun e he => h e (by unfold collect; exact List.mem_append_right _ (List.mem_append_right _ he))
  exact ⟨cut ha (iha _ _ (fun x hx => hg x (List.mem_append_left _ hx)) ha), cut hb (ihb _ _ (fun x hx => hg x (List.mem_append_right _ hx)) hb)⟩
 | cond c x y OV OW =>
  intro A fs hg h
  have ha : ∀ e ∈ collect x A.l fs, e ∈ L := fun e he => h e (by unfold collect; exact List.mem_append_right _ (List.mem_append_left _ he))
  have hb : ∀ e ∈ collect y A.r fs, e ∈ L := fun e he => h e (by unfold collect; exact List.mem_append_right _ (List.mem_append_right _ he))
  exact ⟨cut ha (OV _ _ (fun x hx => hg x (List.mem_append_left _ hx)) ha), cut hb (OW _ _ (fun x hx => hg x (List.mem_append_right _ hx)) hb)⟩
 | block id b ih =>
  intro A fs hg h
  have ha : ∀ e ∈ collect b A.l (.block id :: fs), e ∈ L := fun e he => h e (by unfold collect; exact List.mem_append_right _ he)
  exact cut ha (ih _ _ hg ha)
 | loop b ih =>
  intro A fs hg h
  have ha : ∀ e ∈ collect b A.l (.loop b A :: fs), e ∈ L := fun e he => h e (by unfold collect; exact List.mem_append_right _ he)
  refine ⟨?_, cut ha (ih _ _ hg ha)⟩
  cases hcut : A.cut with
  | some x => obtain ⟨l, keep⟩ := x; exact H _ (h _ (fA hcut))
  | none => trivial
 | scope b ih =>
  intro A fs hg h
  have ha : ∀ e ∈ collect b A.l fs, e ∈ L := fun e he => h e (by unfold collect; exact List.mem_append_right _ he)
  exact cut ha (ih _ _ hg ha)
 | rangeFunc f ps a b _ _ =>
  intro A fs hg h
  unfold eU
  cases hcut : A.l.cut with
  | some x =>
   obtain ⟨j, keep⟩ := x
   exact hg ⟨j, keep, ps, a, b⟩ (by unfold pQ; rw [hcut]; exact List.mem_singleton.2 rfl)
  | none => trivial
 | _ => intros; trivial
theorem wS {L : List vX} (H : zC C rd nt gl Fin σ L) : ∀ (c : Code) (A : aC) (fs : List Frame), (∀ e ∈ collect c A fs, e ∈ L) → FC C rd nt gl Fin σ fs → ∀ e ∈ collect c A fs, FC C rd nt gl Fin σ e.fs ∧ ∀ x ∈ collect e.code e.DU e.fs, x ∈ L := by
 have ZW : ∀ {c : Code} {A : aC} {fs : List Frame}, (∀ e ∈ collect c A fs, e ∈ L) → (match A.cut with | some (l, keep) => SL C rd nt gl Fin σ l keep c fs | none => True) := by
  intro c A fs h1
  cases hcut : A.cut with
  | some x => obtain ⟨l, keep⟩ := x; exact H _ (h1 _ (fA hcut))
  | none => trivial
 have self : ∀ {c : Code} {A : aC} {fs : List Frame} {rest : List vX} {e : vX}, (∀ e ∈ collect c A fs, e ∈ L) → FC C rd nt gl Fin σ fs →
   e ∈ (match A.cut with | some (l, keep) => [({ l, keep, code := c, DU := A, fs } : vX)] | none => []) ++ rest → (e ∈ rest → FC C rd nt gl Fin σ e.fs ∧ ∀ x ∈ collect e.code e.DU e.fs, x ∈ L) →
   FC C rd nt gl Fin σ e.fs ∧ ∀ x ∈ collect e.code e.DU e.fs, x ∈ L := by
  intro c A fs rest e h hf he hr
  rcases List.mem_append.1 he with h1 | h1
  ·cases hcut : A.cut with
   | some x =>
    obtain ⟨l, keep⟩ := x; rw [hcut] at h1
    obtain rfl := List.mem_singleton.1 h1
    exact ⟨hf, h⟩
   | none => rw [hcut] at h1; cases h1
  ·exact hr h1
 intro c
 induction c with
 | seq a b iha ihb =>
  intro A fs h hf e he
  have ha : ∀ e ∈ collect a A.l (.seq b A.r :: fs), e ∈ L := fun e he => h e (by unfold collect; exact List.mem_append_right _ (List.mem_append_left _ he))
  have hb : ∀ e ∈ collect b A.r fs, e ∈ L := fun e he => h e (by unfold collect; exact List.mem_append_right _ (List.mem_append_right _ he))
  unfold collect at he
  refine self h hf he fun he => ?_
  rcases List.mem_append.1 he with h1 | h1
  ·exact iha _ _ ha ⟨ZW hb, hf⟩ e h1
  ·exact ihb _ _ hb hf e h1
 | cond c x y OV OW =>
  intro A fs h hf e he
  have ha : ∀ e ∈ collect x A.l fs, e ∈ L := fun e he => h e (by unfold collect; exact List.mem_append_right _ (List.mem_append_left _ he))
  have hb : ∀ e ∈ collect y A.r fs, e ∈ L := fun e he => h e (by unfold collect; exact List.mem_append_right _ (List.mem_append_right _ he))
  unfold collect at he
  refine self h hf he fun he => ?_
  rcases List.mem_append.1 he with h1 | h1
  ·exact OV _ _ ha hf e h1
  ·exact OW _ _ hb hf e h1
 | block id b ih =>
  intro A fs h hf e he
  have ha : ∀ e ∈ collect b A.l (.block id :: fs), e ∈ L := fun e he => h e (by unfold collect; exact List.mem_append_right _ he)
  unfold collect at he
  exact self h hf he fun he => ih _ _ ha hf e he
 | loop b ih =>
  intro A fs h hf e he
  have ha : ∀ e ∈ collect b A.l (.loop b A :: fs), e ∈ L := fun e he => h e (by unfold collect; exact List.mem_append_right _ he)
  have hs : (match A.cut with | some (l, keep) => SL C rd nt gl Fin σ l keep (.loop b) fs | none => True) := ZW h
  unfold collect at he
  exact self h hf he fun he => ih _ _ ha ⟨hs, hf⟩ e he
 | scope b ih =>
  intro A fs h hf e he
  have ha : ∀ e ∈ collect b A.l fs, e ∈ L := fun e he => h e (by unfold collect; exact List.mem_append_right _ he)
  unfold collect at he
  exact self h hf he fun he => ih _ _ ha hf e he
 | _ => intro A fs h hf e he; unfold collect at he; exact self h hf he (fun h => (by cases h))
theorem kF {e : vX} : ∀ {L : List vX}, distinct (L.map (·.l)) = true → e ∈ L → entry e.l L = some e
 | x :: L, hd, h => by
  simp only [List.map_cons, distinct, Bool.and_eq_true, List.all_eq_true] at hd
  unfold entry
  cases h with
  | head => rw [show Nat.beq e.l e.l = true from by rw [beq_eq]; simp]; rfl
  | tail _ h =>
   have := hd.1 e.l (List.mem_map.2 ⟨e, h, rfl⟩)
   have hb : Nat.beq x.l e.l = false := by
    rw [beq_eq] at this ⊢
    simp at this ⊢
    exact fun k => this k.symm
   rw [hb]
   exact kF hd.2 h
end
def aN9 (fin : KZ) : List Frame → KZ
 | [] => fin
 | .gate _ _ :: _ => fun _ _ _ => none
 | _ :: fs => aN9 fin fs
theorem IK {C : cB} {rd : Option Nat} {nt gl : Nat} {Fin : Ex → S → Value × Hp → Prop} {fin : KZ} (h0 : KR C rd nt gl Fin fin []) : ∀ fs, KR C rd nt gl Fin (aN9 fin fs) fs
 | [] => h0
 | .gate _ _ :: _ => fun r z h q e => (by cases e)
 | .seq _ _ :: fs => fun r z h q e tm ht hz => IK h0 fs r z h q e tm ht hz
 | .block _ :: fs => fun r z h q e tm ht hz => IK h0 fs r z h q e tm ht hz
 | .loop _ _ :: fs => fun r z h q e tm ht hz => IK h0 fs r z h q e tm ht hz
def aG (ρ : RG) (fy : FY) (Y : YF) (rd : Option Nat) (nt gl : Nat) (regs : List Oper → Array Oper → Bool → KZ → KZ) (zP fin : KZ) (ex0 : Nat → KZ) (L : List vX) (l : Nat) (σ : qW) (al : AL) (z : Z) (h : Hp) : aT :=
 match entry l L with
 | some e => match rQ e.keep al with
  | some r => rH σ ρ fy Y rd nt regs (aN9 fin e.fs) e.code e.DU (vI σ (II gl) zP e.fs) (wQ σ (II gl) zP ex0 e.fs) r z h
  | none => none
 | none => none
def nO (T : qW → qW) (n : Nat) : qW := Nat.rec (fun _ _ _ _ => none) (fun _ s => T s) n
section
variable {C : cB} {rd : Option Nat} {nt gl : Nat} {Fin : Ex → S → Value × Hp → Prop} {ρ : RG} {fy : FY} {Y : YF} {regs : List Oper → Array Oper → Bool → KZ → KZ} {zP fin : KZ} {ex0 : Nat → KZ}
theorem mO (MB : J6 C rd nt regs) (hY : UR C Y) (hfy : RY C fy) (h0 : KN C rd nt gl Fin zP []) (hr : KR C rd nt gl Fin fin []) (hx : KE C rd nt gl Fin ex0 [])
  (roots : List (Code × aC × List Frame)) (L : List vX) (hL : ∀ c A fs, (c, A, fs) ∈ roots → ∀ e ∈ collect c A fs, e ∈ L) (hL2 : ∀ e ∈ L, ∃ c A fs, (c, A, fs) ∈ roots ∧ e ∈ collect c A fs)
  (hF : ∀ σ, zC C rd nt gl Fin σ L → ∀ c A fs, (c, A, fs) ∈ roots → FC C rd nt gl Fin σ fs)
  (hG : ∀ c A fs, (c, A, fs) ∈ roots → FF C nt ρ (pQ c A))
  (hd : distinct (L.map (·.l)) = true) (T : qW → qW) (hT : ∀ σ l vs z h q, T σ l vs z h = some q → aG ρ fy Y rd nt gl regs zP fin ex0 L l σ vs z h = some q) :
  ∀ n, zC C rd nt gl Fin (nO T n) L
 | 0 => fun _ _ _ _ _ _ _ e _ => (by cases e)
 | n + 1 => by
  have ih := mO MB hY hfy h0 hr hx roots L hL hL2 hF hG hd T hT n
  intro e he al vs z h q hq hv
  have := hT _ _ _ _ _ _ (show T (nO T n) e.l al z h = some q from hq)
  unfold aG at this
  rw [kF hd he] at this
  simp only [pK hv] at this
  obtain ⟨c, A, fs, hm, hc⟩ := hL2 e he
  obtain ⟨f1, f2⟩ := wS ih c A fs (hL c A fs hm) (hF _ ih c A fs hm) e hc
  exact aBC MB hY hfy e.code e.DU e.fs _ _ (AZ h0 e.fs f1) (uW h0 hx e.fs f1) (IK hr e.fs)
   (qN ih e.code e.DU e.fs (fun x hx => hG c A fs hm x (aN8 c A fs e hc x hx)) f2) _ z h q this
end
end
end Go.bP.Y
/-
  Operations that may yield; functions and rounds that are told so; answers that are taken from them.
-/
namespace Go.bP.Y
open Go.bP
noncomputable section
section
variable {C : cB} {nt : Nat} {Y : YF}
theorem aYP (hE : C.P.Ok) (hY : UR C Y) {o : Oper} {h : Hp} {k : KT} {q : Value × Hp} {tm : T Value} {r : iT} (ht : RR r tm) (e : opY C.P C.fJ nt Y o r h k = some q) :
  ∃ v h' tm' r', (iP C.P (iL tm) o h = some (.val v h') ∨ ∃ fn args, iP C.P (iL tm) o h = some (.call fn args) ∧ ∃ n, lS C (run C n) fn args h = some (.ret v h')) ∧
   gT nt tm o.dst v = some tm' ∧ RR r' tm' ∧ k r' h' = some q := by
 have old : opS C.P C.fJ nt o r h k = some q → ∃ v h' tm' r', (iP C.P (iL tm) o h = some (.val v h') ∨ ∃ fn args, iP C.P (iL tm) o h = some (.call fn args) ∧ ∃ n, lS C (run C n) fn args h = some (.ret v h')) ∧
   gT nt tm o.dst v = some tm' ∧ RR r' tm' ∧ k r' h' = some q := by
  intro e
  obtain ⟨v, h', tm', r', ho, h1, h2, h3⟩ := WZ hE ht e
  refine ⟨v, h', tm', r', ?_, h1, h2, h3⟩
  rcases ho with ho | ⟨f, args, ho, hc⟩
  ·exact .inl ho
  ·exact .inr ⟨.func f, args, ho, 0, by simp only [lS, hc]⟩
 unfold opY at e
 split at e
 ·rename_i c ho
  split at e
  ·rename_i f hc
   obtain ⟨g, hg, e1⟩ := bX e
   split at e1
   ·rename_i l hl
    obtain ⟨v, h', hp, e2⟩ := jB e1
    obtain ⟨tm', r', k1, k2, k3⟩ := GK ht (iA e2)
    refine ⟨v, h', tm', r', .inr ?_, k1, k2, k3⟩
    unfold IJ fH at hp
    dsimp only at hp
    split at hp
    ·rename_i f' fa ca
     refine ⟨.func f', fa ++ l.toArray ++ ca, ?_, 0, by simp only [lS, hp]⟩
     simp only [iP, ho, lM, hc, qD, mJ, dO ht hg, BJ ht hl, Option.bind_some]
    ·rename_i n fa ca
     obtain ⟨m, hm⟩ := hY _ _ _ _ _ hp
     refine ⟨.yield n, fa ++ l.toArray, ?_, m, ?_⟩
     ·simp only [iP, ho, lM, hc, qD, mJ, dO ht hg, BJ ht hl, Option.bind_some]
     ·have : (fa.toList ++ l).toArray = fa ++ l.toArray := by apply Array.ext'; simp
      rw [this] at hm
      exact hm
    ·cases hp
   ·cases e1
  ·exact old e
 ·exact old e
theorem UU {d : Option Tmp} {z : Z} {r : iT} {k : Z → aT} {q : Value × Hp} {tm tm' : T Value} {v : Value} (hz : ZT z tm) (hp : gT nt tm d v = some tm') (hr : RR r tm') (e : RX d z r k = some q) : ∃ z', ZT z' tm' ∧ z'.ds = z.ds ∧ k z' = some q := by
 unfold RX fH at e
 dsimp only at e
 split at e
 ·cases hp; exact ⟨z, hz, rfl, e⟩
 ·rename_i d
  split at e
  ·rename_i d' v' r'
   split at e
   ·rename_i hb
    obtain rfl := Nat.eq_of_beq_eq_true hb
    replace hp := aQ hp
    obtain ⟨_, hp⟩ := hp
    cases hp
    have : (tm.put d' (some v)).get d' = some v' := hr d' v' (by unfold iT.at; rw [hb]; rfl)
    rw [T.get_put, if_pos rfl] at this
    cases this
    exact ⟨_, hz.put d' v, rfl, e⟩
   ·cases e
  ·cases e
theorem aGN (hE : C.P.Ok) (hY : UR C Y) {rd : Option Nat} {ops : Array Oper} : ∀ (l : List Oper) {r : iT} {z : Z} {h : Hp} {k : KZ} {q : Value × Hp} {tm : T Value}, RR r tm → ZT z tm → FD C.P C.fJ nt Y ops l k r z h = some q →
  ∃ n tm' h' r' z', opsV C (run C n) rd nt ops l (BP tm z h) = some (.code .normal (BP tm' z' h')) ∧ RR r' tm' ∧ ZT z' tm' ∧ k r' z' h' = some q
 | [], r, z, h, k, q, tm, ht, hz, e => ⟨0, tm, h, r, z, rfl, ht, hz, e⟩
 | o :: rest, r, z, h, k, q, tm, ht, hz, e => by
  have fin : (∃ n tm' h' r' z', jC C (run C n) rd nt ops o (BP tm z h) = some (.code .normal (BP tm' z' h')) ∧ RR r' tm' ∧ ZT z' tm' ∧ FD C.P C.fJ nt Y ops rest k r' z' h' = some q) →
    ∃ n tm' h' r' z', opsV C (run C n) rd nt ops (o :: rest) (BP tm z h) = some (.code .normal (BP tm' z' h')) ∧ RR r' tm' ∧ ZT z' tm' ∧ k r' z' h' = some q := by
   rintro ⟨n, tm', h', r', z', h1, h2, h3, h4⟩
   obtain ⟨m, nP, h2', r2, z2, g1, g2, g3, g4⟩ := aGN hE hY (rd := rd) rest h2 h3 h4
   refine ⟨max n m, nP, h2', r2, z2, ?_, g2, g3, g4⟩
   unfold opsV
   rw [XL (G8 C (Nat.le_max_left n m)) C rd nt ops o _ _ h1]
   exact XM (G8 C (Nat.le_max_right n m)) C rd nt ops rest _ _ g1
  have yes : ∀ {r' : iT}, RR r' tm → bR ops tm o = true → (opY C.P C.fJ nt Y o r' h fun r h => RX o.dst z r fun z => FD C.P C.fJ nt Y ops rest k r z h) = some q →
    ∃ n tm' h' r' z', jC C (run C n) rd nt ops o (BP tm z h) = some (.code .normal (BP tm' z' h')) ∧ RR r' tm' ∧ ZT z' tm' ∧ FD C.P C.fJ nt Y ops rest k r' z' h' = some q := by
   intro r' hr hw hf
   obtain ⟨v, h', tm', r2, ho, h1, h2, h3⟩ := aYP hE hY hr hf
   obtain ⟨z', k1, k2, k3⟩ := UU hz h1 h2 h3
   have hst : BP tm' z' h' = { tm := tm', df := dfs z.ds, h := h' } := by unfold BP; rw [k2]
   rcases ho with ho | ⟨fn, args, ho, n, hc⟩
   ·refine ⟨0, tm', h', r2, z', ?_, h2, k1, k3⟩
    unfold jC
    rw [show bR ops (BP tm z h).tm o = true from hw, hst]
    simp only [BP, ho, Option.bind_some, h1]
   ·refine ⟨n, tm', h', r2, z', ?_, h2, k1, k3⟩
    unfold jC
    rw [show bR ops (BP tm z h).tm o = true from hw, hst]
    simp only [BP, ho, Option.bind_some, hc, h1]
  have not : ∀ {r' : iT}, RR r' tm → bR ops tm o = false → GJ nt o.dst r' (fun r h => RX o.dst z r fun z => FD C.P C.fJ nt Y ops rest k r z h) undef h = some q →
    ∃ n tm' h' r' z', jC C (run C n) rd nt ops o (BP tm z h) = some (.code .normal (BP tm' z' h')) ∧ RR r' tm' ∧ ZT z' tm' ∧ FD C.P C.fJ nt Y ops rest k r' z' h' = some q := by
   intro r' hr hw hf
   obtain ⟨tm', r2, h1, h2, h3⟩ := GK hr hf
   obtain ⟨z', k1, k2, k3⟩ := UU hz h1 h2 h3
   refine ⟨0, tm', h, r2, z', ?_, h2, k1, k3⟩
   unfold jC
   rw [show bR ops (BP tm z h).tm o = false from hw]
   simp only [BP, h1, Option.bind_some, k2]
  unfold FD at e
  split at e
  ·rename_i hg
   exact fin (yes ht (by simp only [bR, hg]) e)
  ·rename_i j want hg
   split at e
   ·cases e
   ·rename_i d hd
    split at e
    ·cases e
    ·rename_i gv hgv
     have hget := ht d gv hgv
     have hw : bR ops tm o = aMU gv want := by
      simp only [bR, hg, hd, Option.bind_some, hget]
      cases gv <;> rfl
     have ht' := ht.same hget
     rcases OU e with ⟨rfl, e⟩ | ⟨rfl, e⟩ | ⟨hn, e⟩
     ·cases want with
      | true => exact fin (yes ht' (by rw [hw]; rfl) e)
      | false => exact fin (not ht' (by rw [hw]; rfl) e)
     ·cases want with
      | false => exact fin (yes ht' (by rw [hw]; rfl) e)
      | true => exact fin (not ht' (by rw [hw]; rfl) e)
     ·exact fin (not ht (by rw [hw]; cases gv <;> first | rfl | exact absurd rfl (hn _)) e)
theorem aGO (hE : C.P.Ok) (hY : UR C Y) {rd : Option Nat} : J6 C rd nt (aN3 C.P C.fJ nt Y) := by
 intro id ops d kn r z h q e tm ht hz
 cases d with
 | false =>
  obtain ⟨n, tm', h', r', z', h1, h2, h3, h4⟩ := aGN (rd := rd) hE hY ops.toList ht hz (show FD C.P C.fJ nt Y ops ops.toList kn r z h = some q from e)
  exact ⟨tm', h', r', z', .bF ⟨n, h1⟩, h2, h3, h4⟩
 | true =>
  obtain ⟨tm', h', r', h1, h2, h3⟩ := dZ hE (rd := rd) id ops true _ r h q (show cO C.P C.fJ nt ops.toList ops true (fun r h => kn r z.lose h) r h = some q from e) tm ht
  exact ⟨tm', h', r', z.lose, aKN h1 _, h2, ZT.lose, h3⟩
end
def IL (E : Env) (fJ : FuncId → Array Value → Hp → Option (Value × Hp)) (nt : Nat) (Y : YF) (l : List Oper) (ops : Array Oper) (d : Bool) (k : KZ) : KZ := aN3 E fJ nt Y l ops d fun r z h => k r z.lose h
theorem aBD {C : cB} {nt : Nat} {Y : YF} (hE : C.P.Ok) (hY : UR C Y) {rd : Option Nat} : J6 C rd nt (IL C.P C.fJ nt Y) := by
 intro id ops d kn r z h q e tm ht hz
 obtain ⟨tm', h', r', z', h1, h2, h3, h4⟩ := aGO (rd := rd) hE hY id ops d (fun r z h => kn r z.lose h) r z h q e tm ht hz
 exact ⟨tm', h', r', z'.lose, h1, h2, ZT.lose, h4⟩
def vD : List Nat → Hp → Option Hp
 | [], h => some h
 | d :: ds, h => match h.get d with
  | some (.sK true) => dI (Nat.ble h.ro d) (vD ds (h.upd d (.sK false))) none
  | _ => none
def vP (E : Env) (rs : List ResultVar) : KZ := fun r z h => aVD (vD z.ds h) fun h => aMV E r h rs fun vs => some (sU vs, h)
def a4H (E : Env) (rs : List ResultVar) (e : Ex) (s : S) (q : Value × Hp) : Prop :=
 (e = .normal ∨ e = .ret) ∧ ∃ ds h1 vs, s.df = dfs ds ∧ vD ds s.h = some h1 ∧ iM E s.tm h1 rs = some vs ∧ q = (sU vs, h1)
theorem UW {C : cB} {self : Self} {fn : Func} {tm : T Value} {vs : List Value} : ∀ (ds : List Nat) {h h1 : Hp}, vD ds h = some h1 → iM C.P tm h1 fn.results.toList = some vs →
  jK C self fn tm (dfs ds) .returning h = some (.ret (sU vs) h1)
 | [], h, h1, e, hv => by cases e; simp only [dfs, List.map_nil, jK, hv, Option.bind_some]
 | d :: ds, h, h1, e, hv => by
  unfold vD at e
  split at e
  ·rename_i hg
   obtain ⟨hb, e⟩ := fP e
   have ih := UW (C := C) (self := self) ds e hv
   unfold jK
   simp only [dfs, List.map_cons, hg, hb, okT] at ih ⊢
   exact ih
  ·cases e
def EC : Nat → KZ := fun _ _ _ _ => none
theorem QN {C : cB} {f : FuncId} {fn : Func} {body : Code} {np : Nat} {A : aC} {T : qW → qW} {ρ : RG} {fy : FY} {Y : YF} {regs : List Oper → Array Oper → Bool → KZ → KZ}
  (MB : J6 C none (np + (fn.ntmps - np)) regs) (hY : UR C Y) (hfy : RY C fy) (hf : C.fn f = some fn) (hb : fn.body = some body) {kinds : List Kd} (hk : kinds.length = np) (hcut : A.cut = some (0, (List.range' 0 np).zip kinds))
  (hG : FF C (np + (fn.ntmps - np)) ρ (pQ body A)) (hd : distinct ((collect body A []).map (·.l)) = true)
  (hT : ∀ σ l vs z h q, T σ l vs z h = some q → aG ρ fy Y none (np + (fn.ntmps - np)) 0 regs (vP C.P fn.results.toList) (vP C.P fn.results.toList) EC (collect body A []) l σ vs z h = some q)
  {n : Nat} {args : List Value} {h h' : Hp} {v : Value} (e : bV kinds args (fun al => nO T n 0 al ⟨some (jQ args 0 .nil), []⟩ h) = some (v, h')) : gG C (.call f args.toArray h) (.ret v h') := by
 have zP : ∀ r z h q, vP C.P fn.results.toList r z h = some q → ∀ tm, RR r tm → ∀ e, (e = .normal ∨ e = .ret) → a4H C.P fn.results.toList e (BP tm z h) q := by
  intro r z h q e tm ht ex hx
  obtain ⟨h1, hdl, e⟩ := fI e
  obtain ⟨vs, k1, k2⟩ := NF ht _ e
  cases k2
  exact ⟨hx, z.ds, h1, vs, rfl, hdl, k1, rfl⟩
 have all := mO (C := C) (rd := none) (gl := 0) (Fin := a4H C.P fn.results.toList) (zP := vP C.P fn.results.toList) (fin := vP C.P fn.results.toList) (ex0 := EC) MB hY hfy
  (fun r z h q e tm ht _ => zP r z h q e tm ht .normal (.inl rfl)) (fun r z h q e tm ht _ => zP r z h q e tm ht .ret (.inr rfl)) (fun i r z h q e => (by cases e))
  [(body, A, [])] (collect body A []) (fun c A' fs hm e he => by obtain ⟨rfl, rfl, rfl⟩ : c = body ∧ A' = A ∧ fs = [] := (by simpa using hm); exact he)
  (fun e he => ⟨body, A, [], List.mem_singleton.2 rfl, he⟩) (fun σ _ c A' fs hm => by obtain ⟨rfl, rfl, rfl⟩ : c = body ∧ A' = A ∧ fs = [] := (by simpa using hm); exact trivial)
  (fun c A' fs hm => by obtain ⟨rfl, rfl, rfl⟩ : c = body ∧ A' = A ∧ fs = [] := (by simpa using hm); exact hG) hd T hT n
 obtain ⟨al, hal, e⟩ := qM e
 have hlen : args.length = np := by rw [← hk]; exact AL.qL hal
 have z1 : ((List.range' 0 np).zip kinds).map (·.2) = kinds := List.map_snd_zip (by simp [hk])
 have z2 : ((List.range' 0 np).zip kinds).map (·.1) = List.range' 0 np := List.map_fst_zip (by simp [hk])
 have h0 := all _ (fA hcut) al args _ h (v, h') e (by show AL.vals (((List.range' 0 np).zip kinds).map (·.2)) al = some args; rw [z1]; exact hal)
 obtain ⟨ex, s', ⟨m, h1⟩, h2⟩ := h0 (jQ args 0 .nil) (by
  show RR ((((List.range' 0 np).zip kinds).map (·.1)).zip args) _
  rw [z2]
  subst hlen; exact aF3 args) (fun t et => Option.some.inj et)
 obtain ⟨hx, ds, hh, vs, g1, g2, g3, g4⟩ := h2
 cases g4
 have hl := UW (C := C) (self := run C m) (fn := fn) ds g2 g3
 refine .bF ⟨m, ?_⟩
 have hst : (S.mk (jQ args 0 .nil) [] h) = BP (jQ args 0 .nil) ⟨some (jQ args 0 .nil), []⟩ h := rfl
 simp only [dQ, hf, hb, Option.bind_some, List.size_toArray, hlen, hst, h1]
 rcases hx with rfl | rfl
 ·rw [← g1] at hl; exact hl
 ·rw [← g1] at hl; exact hl
def FH : List (Tmp × Kd) → List Value → AL → Z → (AL → Z → aT) → aT
 | [], [], al, z, k => k al z
 | (p, .i kd) :: ps, v :: vs, al, z, k => bI kd v fun x => FH ps vs (.i x al) (z.put p (.int kd x)) k
 | (p, .b) :: ps, v :: vs, al, z, k => bW v fun x => FH ps vs (.b x al) (z.put p (.bool x)) k
 | (p, .v) :: ps, v :: vs, al, z, k => FH ps vs (.v v al) (z.put p v) k
 | _, _, _, _, _ => none
theorem UX {nt : Nat} : ∀ {ps : List (Tmp × Kd)} {args : List Value} {keep : List (Nat × Kd)} {al : AL} {vs : List Value} {z : Z} {tm : T Value} {k : AL → Z → aT} {q : Value × Hp}, FH ps args al z k = some q → (∀ p ∈ ps, Nat.blt p.1 nt = true) →
  AL.vals (keep.map (·.2)) al = some vs → RR ((keep.map (·.1)).zip vs) tm → z.tm = some tm →
  ∃ al' vs' zN z', args.length = ps.length ∧ oQ nt ((ps.map (·.1)).zip args) tm = some zN ∧ AL.vals ((ps.reverse ++ keep).map (·.2)) al' = some vs' ∧ RR (((ps.reverse ++ keep).map (·.1)).zip vs') zN ∧ z'.tm = some zN ∧ z'.ds = z.ds ∧ k al' z' = some q
 | [], [], keep, al, vs, z, tm, k, q, e, hp, hv, hr, hz => ⟨al, vs, tm, z, rfl, rfl, hv, hr, hz, rfl, e⟩
 | [], _ :: _, keep, al, vs, z, tm, k, q, e, hp, hv, hr, hz => by cases e
 | (p, .i kd) :: ps, [], keep, al, vs, z, tm, k, q, e, hp, hv, hr, hz => by cases e
 | (p, .b) :: ps, [], keep, al, vs, z, tm, k, q, e, hp, hv, hr, hz => by cases e
 | (p, .v) :: ps, [], keep, al, vs, z, tm, k, q, e, hp, hv, hr, hz => by cases e
 | (p, kk) :: ps, v :: args, keep, al, vs, z, tm, k, q, e, hp, hv, hr, hz => by
  have hpn : Nat.blt p nt = true := hp (p, kk) (.head _)
  have next : ∀ {al1 : AL}, AL.vals (((p, kk) :: keep).map (·.2)) al1 = some (v :: vs) → FH ps args al1 (z.put p v) k = some q →
    ∃ al' vs' zN z', (v :: args).length = ((p, kk) :: ps).length ∧ oQ nt ((((p, kk) :: ps).map (·.1)).zip (v :: args)) tm = some zN ∧ AL.vals ((((p, kk) :: ps).reverse ++ keep).map (·.2)) al' = some vs' ∧
     RR (((((p, kk) :: ps).reverse ++ keep).map (·.1)).zip vs') zN ∧ z'.tm = some zN ∧ z'.ds = z.ds ∧ k al' z' = some q := by
   intro al1 h1 h2
   obtain ⟨al', vs', zN, z', g1, g2, g3, g4, g5, g6, g7⟩ := UX (nt := nt) (keep := (p, kk) :: keep) (tm := tm.put p (some v)) h2 (fun x hx => hp x (.tail _ hx)) h1 (by
    show RR ((p, v) :: ((keep.map (·.1)).zip vs)) _
    exact hr.put p v) (by unfold Z.put; rw [hz])
   refine ⟨al', vs', zN, z', by simp [g1], ?_, by simpa using g3, by simpa using g4, g5, g6, g7⟩
   simp only [List.map_cons, List.zip_cons_cons, oQ, hpn, okT, g2]
  cases kk with
  | i kd =>
   obtain ⟨x, rfl, e2⟩ := bG (show bI kd v _ = some q from e)
   exact next (al1 := .i x al) (by simp only [List.map_cons, AL.vals, hv, Option.map_some]) e2
  | b =>
   obtain ⟨x, rfl, e2⟩ := kN (show bW v _ = some q from e)
   exact next (al1 := .b x al) (by simp only [List.map_cons, AL.vals, hv, Option.map_some]) e2
  | v => exact next (al1 := .v v al) (by simp only [List.map_cons, AL.vals, hv, Option.map_some]) e
def aOA : KZ := fun _ _ h => some (.bool true, h)
def aOB : KZ := fun _ _ h => some (.bool false, h)
def aOC : Nat → KZ := fun i _ _ h => some (.int .i64 (Int.ofNat i), h)
def bHN (e : Ex) (s : S) (q : Value × Hp) : Prop := exV e = some q.1 ∧ s.h = q.2
theorem aBE {C : cB} {nt : Nat} {a b : Code} {Aa Ab : aC} {T : Nat → qW → qW} {ρ' ρ : RG} {j : Nat} {fy : FY} {Y : YF} {ps : Array Tmp} {keep : List (Nat × Kd)} {kinds : List Kd} {n : Nat} {regs : List Oper → Array Oper → Bool → KZ → KZ}
  (MB : ∀ rd, J6 C rd nt regs) (hY : UR C Y) (hfy : RY C fy) (hk : kinds.length = ps.size) (hps : ∀ p ∈ ps.toList.zip kinds, Nat.blt p.1 nt = true) (hcut : Aa.cut = some (0, (ps.toList.zip kinds).reverse ++ keep))
  (hG : FF C nt ρ' (pQ a Aa ++ pQ b Ab)) (hd : distinct ((collect a Aa [.gate b Ab] ++ collect b Ab []).map (·.l)) = true)
  (hT : ∀ gl σ l vs z h q, T gl σ l vs z h = some q → aG ρ' fy Y (some gl) nt gl regs aOA aOB aOC (collect a Aa [.gate b Ab] ++ collect b Ab []) l σ vs z h = some q)
  (hρ : ∀ l al z args h, ρ j l al z args h = FH (ps.toList.zip kinds) args al ⟨z.tm, []⟩ fun al z => nO (T l) n 0 al z h) :
  UT C nt ρ j keep ps a b := by
 intro l al vs z args h ex h2 e hv tm hr hz
 rw [hρ] at e
 have all := mO (C := C) (rd := some l) (gl := l) (Fin := bHN) (zP := aOA) (fin := aOB) (ex0 := aOC) (MB (some l)) hY hfy
  (fun r z h q e tm ht _ => by cases e; exact ⟨rfl, rfl⟩) (fun r z h q e tm ht _ => by cases e; exact ⟨rfl, rfl⟩) (fun i r z h q e tm ht _ => by cases e; exact ⟨rfl, rfl⟩)
  [(a, Aa, [.gate b Ab]), (b, Ab, [])] (collect a Aa [.gate b Ab] ++ collect b Ab []) (fun c A' fs hm e he => by
   rcases List.mem_cons.1 hm with hm | hm
   ·cases hm; exact List.mem_append_left _ he
   ·cases List.mem_singleton.1 hm; exact List.mem_append_right _ he)
  (fun e he => by
   rcases List.mem_append.1 he with he | he
   ·exact ⟨a, Aa, _, .head _, he⟩
   ·exact ⟨b, Ab, _, .tail _ (.head _), he⟩) (fun σ H c A' fs hm => by
   rcases List.mem_cons.1 hm with hm | hm
   ·cases hm
    refine ⟨?_, trivial⟩
    cases hc : Ab.cut with
    | none => trivial
    | some x => obtain ⟨l1, k1⟩ := x; exact H _ (List.mem_append_right _ (fA hc))
   ·cases List.mem_singleton.1 hm; trivial)
  (fun c A' fs hm => by
   rcases List.mem_cons.1 hm with hm | hm
   ·cases hm; exact fun x hx => hG x (List.mem_append_left _ hx)
   ·cases List.mem_singleton.1 hm; exact fun x hx => hG x (List.mem_append_right _ hx)) hd (T l) (hT l) n
 obtain ⟨al', vs', zN, z', g1, g2, g3, g4, g5, g6, g7⟩ := UX (nt := nt) (z := ⟨z.tm, []⟩) e hps hv hr hz
 have h0 := all _ (List.mem_append_left _ (fA hcut)) al' vs' z' h (ex, h2) g7 g3
 obtain ⟨e1, s1, r1, u1⟩ := h0 zN g4 (fun t et => by rw [g5] at et; exact Option.some.inj et)
 have hlen : (ps.toList.zip kinds).length = ps.size := by simp [hk]
 have hz1 : (ps.toList.zip kinds).map (·.1) = ps.toList := List.map_fst_zip (by simp [hk])
 have hst : BP zN z' h = { tm := zN, df := [], h } := by unfold BP; rw [g6]; rfl
 rw [hst] at r1
 cases e1 with
 | normal =>
  obtain ⟨p, tmx, ntx, psx, ax, bx, dx, q1, q2, e2, s2, q3, q4⟩ := u1
  refine ⟨zN, s1, p, tmx, ntx, psx, ax, bx, dx, e2, s2, by rw [g1, hlen], ?_, r1, q1, q2, q3, q4.1, q4.2⟩
  rw [hz1] at g2
  simpa using g2
 | ret => exact u1.elim
 | exit i => exact u1.elim
 | panic v => exact u1.elim
def uI (f : Int → AL → Z → Hp → aT) (al : AL) (z : Z) (h : Hp) : aT := AL.rec (motive := fun _ => aT) none (fun x r _ => f x r z h) (fun _ _ _ => none) (fun _ _ _ => none) al
def uB (f : Bool → AL → Z → Hp → aT) (al : AL) (z : Z) (h : Hp) : aT := AL.rec (motive := fun _ => aT) none (fun _ _ _ => none) (fun x r _ => f x r z h) (fun _ _ _ => none) al
def uV (f : Value → AL → Z → Hp → aT) (al : AL) (z : Z) (h : Hp) : aT := AL.rec (motive := fun _ => aT) none (fun _ _ _ => none) (fun _ _ _ => none) (fun x r _ => f x r z h) al
def uN (f : Z → Hp → aT) (al : AL) (z : Z) (h : Hp) : aT := AL.rec (motive := fun _ => aT) (f z h) (fun _ _ _ => none) (fun _ _ _ => none) (fun _ _ _ => none) al
theorem bH {f : Int → AL → Z → Hp → aT} {al : AL} {z : Z} {h : Hp} {q : Value × Hp} (e : uI f al z h = some q) : ∃ a l, al = .i a l ∧ f a l z h = some q := by
 cases al <;> first | (cases e; done) | exact ⟨_, _, rfl, e⟩
theorem aGJ {f : Bool → AL → Z → Hp → aT} {al : AL} {z : Z} {h : Hp} {q : Value × Hp} (e : uB f al z h = some q) : ∃ a l, al = .b a l ∧ f a l z h = some q := by
 cases al <;> first | (cases e; done) | exact ⟨_, _, rfl, e⟩
theorem aH {f : Value → AL → Z → Hp → aT} {al : AL} {z : Z} {h : Hp} {q : Value × Hp} (e : uV f al z h = some q) : ∃ a l, al = .v a l ∧ f a l z h = some q := by
 cases al <;> first | (cases e; done) | exact ⟨_, _, rfl, e⟩
theorem bB {f : Z → Hp → aT} {al : AL} {z : Z} {h : Hp} {q : Value × Hp} (e : uN f al z h = some q) : al = .n ∧ f z h = some q := by
 cases al <;> first | (cases e; done) | exact ⟨rfl, e⟩
def kU : qW := fun _ _ _ _ => none
def eF (i : Nat) (X : AL → Z → Hp → aT) (t : qW) : qW := fun l vs z h => dI (Nat.beq l i) (X vs z h) (t l vs z h)
def eZ (Y : qW) (t : qW) : Prop := ∀ l vs z h q, t l vs z h = some q → Y l vs z h = some q
theorem eZ.nil {Y : qW} : eZ Y kU := fun _ _ _ _ _ e => (by cases e)
theorem eZ.cons {Y : qW} (i : Nat) {X : AL → Z → Hp → aT} {t : qW} (h1 : ∀ vs z h q, X vs z h = some q → Y i vs z h = some q) (h2 : eZ Y t) : eZ Y (eF i X t) := by
 intro l vs z h q e
 unfold eF at e
 cases hb : Nat.beq l i with
 | true => rw [hb] at e; obtain rfl := Nat.eq_of_beq_eq_true hb; exact h1 vs z h q e
 | false => rw [hb] at e; exact h2 l vs z h q e
def rgN : RG := fun _ _ _ _ _ _ => none
def rgC (j : Nat) (F : Nat → AL → Z → List Value → Hp → aT) (ρ : RG) : RG := fun j' l al z args h => dI (Nat.beq j' j) (F l al z args h) (ρ j' l al z args h)
def fyN : FY := fun _ _ _ _ => none
def fyC (f : FuncId) (F : YF → List Value → Hp → aT) (r : FY) : FY := fun g Y args h => dI (Nat.beq g f) (F Y args h) (r g Y args h)
def yN : YF := fun _ _ _ => none
theorem a4I (C : cB) : UR C yN := fun _ _ _ _ _ e => (by cases e)
theorem aYQ (C : cB) : RY C fyN := fun _ _ _ _ _ _ _ e => (by cases e)
theorem aYR {C : cB} {f : FuncId} {F : YF → List Value → Hp → aT} {r : FY} (h1 : ∀ a h, C.fJ f a h = none) (h2 : C.quiet f = false) (h3 : ∀ Y, UR C Y → ∀ args h v h', F Y args h = some (v, h') → gG C (.call f args.toArray h) (.ret v h')) (h4 : RY C r) : RY C (fyC f F r) := by
 intro g Y args h v h' hY e
 unfold fyC at e
 cases hb : Nat.beq g f with
 | true => rw [hb] at e; obtain rfl := Nat.eq_of_beq_eq_true hb; exact ⟨h1, h2, h3 Y hY args h v h' e⟩
 | false => rw [hb] at e; exact h4 g Y args h v h' hY e
def hide (ys : List Nat) (fJ : FuncId → Array Value → Hp → Option (Value × Hp)) : FuncId → Array Value → Hp → Option (Value × Hp) := fun f a h => cond (ys.any fun y => Nat.beq y f) none (fJ f a h)
def a4J (C : cB) (ys : List Nat) : cB := { C with fJ := hide ys C.fJ, quiet := fun _ => false }
theorem aSV {C : cB} (h : C.Ok) (ys : List Nat) : (a4J C ys).Ok := ⟨h.env, h.fn, (fun f a h' v h2 e => by
 have e' : hide ys C.fJ f a h' = some (v, h2) := e
 unfold hide at e'
 cases hb : (ys.any fun y => Nat.beq y f) with
 | true => rw [hb] at e'; cases e'
 | false => rw [hb] at e'; exact h.fJ f a h' v h2 e'), h.mixed⟩
theorem aOD {C C' : cB} (hC : C.Ok) (hC' : C'.Ok) (hP : C'.P = C.P) {f : FuncId} {F : List Value → Hp → aT} (hF : ∀ args h v h', F args h = some (v, h') → gG C' (.call f args.toArray h) (.ret v h')) :
  cB.Ok { C with fJ := kM f F C.fJ } := by
 have h1 := (eB hC' hF).fJ
 refine ⟨hC.env, hC.fn, ?_, hC.mixed⟩
 intro g args h v h' e
 simp only [kM] at e
 cases hb : Nat.beq f g with
 | false => rw [hb] at e; exact hC.fJ g args h v h' e
 | true =>
  obtain rfl := Nat.eq_of_beq_eq_true hb
  have := h1 f args h v h' (by show kM f F C'.fJ f args h = _; unfold kM; rw [hb]; rw [hb] at e; exact e)
  rw [show ({ C' with fJ := kM f F C'.fJ } : cB).P = C.P from hP] at this
  exact this
end
end Go.bP.Y
/-
  Ranges over functions: what the words of a told text answer where blocks are known.
-/
namespace Go.bP.Y
open Go.bP
theorem aYS {l : Nat} {X : LX} {rb : List Value → Hp → aT} {Y : YF} {args : List Value} {h : Hp} (hg : h.get l = some (X.obj .ready none)) : YL l X rb Y l args h = aY (rb args h) fun ex h2 => roundEnd l ex h2 := by
 unfold YL
 rw [Nat.beq_refl]
 show J5 _ _ = _
 rw [aES hg]
theorem tZ {a b : Nat} (h : a ≤ b) : Nat.ble a b = true := by rw [Nat.ble_eq]; exact h
theorem aOE {l : Nat} {h : Hp} {p : Option Code} {tm : T Value} {nt : Nat} {ps : Array Tmp} {a b : Code} {d : Nat} (hg : h.get l = some (.loop .ready p tm nt ps a b d)) (hr : h.ro ≤ l) (k : Hp → aT) :
  II l h k = k (h.upd l (.loop .busy p tm nt ps a b d)) := by
 unfold II fH
 dsimp only
 rw [hg]
 dsimp only
 rw [tZ hr]
theorem RZ {l : Nat} {h : Hp} {s : LoopState} {p : Option Code} {tm : T Value} {nt : Nat} {ps : Array Tmp} {a b : Code} {d : Nat} (hg : h.get l = some (.loop s p tm nt ps a b d)) (hr : h.ro ≤ l) :
  roundEnd l (.bool true) h = some (.bool true, h.upd l (.loop .ready none tm nt ps a b d)) := by
 unfold roundEnd fH
 dsimp only
 rw [hg]
 dsimp only
 rw [tZ hr]
theorem QO {l : Nat} {h : Hp} {s : LoopState} {p : Option Code} {tm : T Value} {nt : Nat} {ps : Array Tmp} {a b : Code} {d : Nat} (hg : h.get l = some (.loop s p tm nt ps a b d)) (hr : h.ro ≤ l) :
  roundEnd l (.bool false) h = some (.bool false, h.upd l (.loop .done (some .ret) tm nt ps a b d)) := by
 unfold roundEnd fH
 dsimp only
 rw [hg]
 dsimp only
 rw [tZ hr]
theorem aEV {l : Nat} {h : Hp} {tm : T Value} {nt : Nat} {ps : Array Tmp} {a b : Code} {d : Nat} (hg : h.get l = some (.loop .ready none tm nt ps a b d)) (hr : h.ro ≤ l) (k : Ex → Hp → aT) :
  aBA l h k = k .normal (h.upd l (.loop .exhausted none tm nt ps a b d)) := by
 unfold aBA fH
 dsimp only
 rw [hg]
 dsimp only
 rw [tZ hr]
 rfl
theorem aOF {l : Nat} {h : Hp} {tm : T Value} {nt : Nat} {ps : Array Tmp} {a b : Code} {d : Nat} (hg : h.get l = some (.loop .done (some .ret) tm nt ps a b d)) (hr : h.ro ≤ l) (k : Ex → Hp → aT) :
  aBA l h k = k .ret (h.upd l (.loop .exhausted (some .ret) tm nt ps a b d)) := by
 unfold aBA fH
 dsimp only
 rw [hg]
 dsimp only
 rw [tZ hr]
 rfl
theorem UY {d : Nat} {h : Hp} (hg : h.get d = some (.sK true)) (hr : h.ro ≤ d) : vD [d] h = some (h.upd d (.sK false)) := by
 unfold vD
 rw [hg]
 dsimp only
 rw [tZ hr]
 rfl
theorem aEW (n r : aT) (x : Nat → aT) : exK .normal n r x = n := rfl
theorem aSW (n r : aT) (x : Nat → aT) : exK .ret n r x = r := rfl
theorem aOG {fy : FY} {Y : YF} {X : Nat → LX} {f : FuncId} {a b : Array Value} {h : Hp} {rb : Nat → List Value → Hp → aT} {k : Ex → List Nat → Hp → aT} :
  aKO fy Y none X (.func (.func f) a b) h rb k = aY (fy f (YL (h.next + 1) (X h.next) (rb (h.next + 1)) Y) (a.toList ++ [.func (.yield (h.next + 1)) #[] #[]] ++ b.toList) ((h.add (.sK true)).add ((X h.next).obj .ready none))) fun _ h3 =>
   aBA (h.next + 1) h3 fun e h4 => k e [h.next] h4 := rfl
theorem aBF (fJ : FuncId → Array Value → Hp → Option (Value × Hp)) (Y : YF) (n : Nat) (l : List Value) (h : Hp) : IJ fJ Y (.func (.yield n) #[] #[]) l h = Y n l h := rfl
theorem QR {ρ : Type} (len n b o i : Nat) (hi : i < len) (k : Value → Option ρ) : GU len n (.pointer (some ⟨b, o, none⟩)) (i : Int) k = k (.pointer (some ⟨b, o + i * n, none⟩)) := by
 show dI (Nat.ble (Nat.succ i) len) (gN (Nat.add o (Nat.mul i n)) fun o => k (.pointer (some ⟨b, o, none⟩))) none = _
 rw [tZ (by omega), bU]; rfl
end Go.bP.Y
