/-
  An evaluator of the code, proved sound.
-/
import Derived.Test.YtpjflnjlmjnmjaaGreatDoorEngC
set_option linter.unusedVariables false
/-
  A region that draws its order, with some operations that change the heap, one behind the other in all orders: by the sets of what was done.
-/
namespace Go.Eng
noncomputable section
structure Big1 where
  k : Nat
  tm : T Value
  v : Value
  h1 : Hp
def bigV (C : Cfg) (self : Self) (o : Oper) (tm : T Value) (h : Hp) : Option (Value × Hp) := (opV C.P (evTm tm) o h).bind fun r => match r with
  | .val v h' => some (v, h')
  | .call fn args => (callV C self fn args h).bind fun r => match r with | .ret v h' => some (v, h') | _ => none
  | _ => none
theorem bigV_op1 {C : Cfg} {self : Self} {rd : Option Nat} {nt : Nat} {ops : Array Oper} {o : Oper} {tm tm' : T Value} {h h' : Hp} {v : Value} (df : List Deferred) (hw : wantedV ops tm o = true) (e : bigV C self o tm h = some (v, h')) (hp : putTm nt tm o.dst v = some tm') :
    op1V C self rd nt ops o { tm, df, h } = some (.code .normal { tm := tm', df, h := h' }) := by
  unfold bigV at e
  obtain ⟨r, hr, e⟩ := bind_some' e
  unfold op1V
  rw [show wantedV ops ({ tm, df, h } : S).tm o = true from hw]
  simp only [hr, Option.bind_some]
  split at e
  · cases e
    simp only [hp, Option.bind_some]
  · obtain ⟨r2, hr2, e⟩ := bind_some' e
    simp only [hr2, Option.bind_some]
    split at e
    · cases e
      simp only [hp, Option.bind_some]
    · cases e
  · cases e
theorem bigV_congr {C : Cfg} {self : Self} {o : Oper} {tm tm2 : T Value} {h : Hp} (H : ∀ x ∈ o.op.operands, evTm tm x = evTm tm2 x) : bigV C self o tm h = bigV C self o tm2 h := by
  unfold bigV
  rw [opV_congr H]
def hpB : Hp → List Big1 → Nat → Hp
  | h0, [], _ => h0
  | h0, b :: l, mask => match Nat.testBit mask b.k with | true => hpB b.h1 l mask | false => h0
def nextB : List Big1 → Nat → Nat → Option Big1
  | [], _, _ => none
  | b :: l, mask, i => match Nat.testBit mask b.k with
    | true => nextB l mask i
    | false => match Nat.beq b.k i && l.all (fun c => !(Nat.testBit mask c.k) && !(Nat.beq c.k i)) with
      | true => some b
      | false => none
def isBigK (l : List Big1) (i : Nat) : Bool := l.any fun b => Nat.beq b.k i
def BigsOk (C : Cfg) (self : Self) (ops : Array Oper) : Hp → List Big1 → Prop
  | _, [] => True
  | h0, b :: l => (∃ o, ops[b.k]? = some o ∧ bigV C self o b.tm h0 = some (b.v, b.h1)) ∧ BigsOk C self ops b.h1 l
theorem bit_or (mask i j : Nat) : Nat.testBit (mask ||| 2 ^ i) j = (Nat.testBit mask j || decide (i = j)) := by
  rw [Nat.testBit_or, Nat.testBit_two_pow]
theorem hpB_later {mask i : Nat} : ∀ (l : List Big1) (h : Hp), l.all (fun c => !(Nat.testBit mask c.k) && !(Nat.beq c.k i)) = true → hpB h l (mask ||| 2 ^ i) = h
  | [], h, _ => rfl
  | b :: l, h, ha => by
    have h1 := List.all_eq_true.1 ha b (.head _)
    simp only [Bool.and_eq_true, Bool.not_eq_true'] at h1
    have hb : Nat.testBit (mask ||| 2 ^ i) b.k = false := by
      rw [bit_or, h1.1, Bool.false_or, decide_eq_false_iff_not]
      intro e
      rw [e, Nat.beq_refl] at h1
      exact absurd h1.2 (by simp)
    unfold hpB
    rw [hb]
theorem hpB_other {mask i : Nat} : ∀ (l : List Big1) (h : Hp), isBigK l i = false → hpB h l (mask ||| 2 ^ i) = hpB h l mask
  | [], h, _ => rfl
  | b :: l, h, ha => by
    unfold isBigK at ha
    rw [List.any_cons, Bool.or_eq_false_iff] at ha
    have hb : Nat.testBit (mask ||| 2 ^ i) b.k = Nat.testBit mask b.k := by
      rw [bit_or, decide_eq_false_iff_not.2, Bool.or_false]
      intro e
      rw [e, Nat.beq_refl] at ha
      cases ha.1
    unfold hpB
    rw [hb]
    split
    · exact hpB_other l _ ha.2
    · rfl
theorem next_ok {C : Cfg} {self : Self} {ops : Array Oper} {mask i : Nat} {b : Big1} : ∀ {l : List Big1} {h : Hp}, BigsOk C self ops h l → nextB l mask i = some b →
    ∃ o, ops[i]? = some o ∧ bigV C self o b.tm (hpB h l mask) = some (b.v, b.h1) ∧ hpB h l (mask ||| 2 ^ i) = b.h1
  | [], _, _, e => by cases e
  | c :: l, h, hb, e => by
    unfold nextB at e
    split at e
    · rename_i ht
      obtain ⟨o, h1, h2, h3⟩ := next_ok hb.2 e
      refine ⟨o, h1, ?_, ?_⟩
      · unfold hpB; rw [ht]; exact h2
      · unfold hpB
        rw [show Nat.testBit (mask ||| 2 ^ i) c.k = true by rw [bit_or, ht, Bool.true_or]]
        exact h3
    · rename_i ht
      split at e
      · rename_i hc
        cases e
        obtain ⟨hk, hl⟩ := a2 hc
        have hk := nb hk
        subst hk
        obtain ⟨o, h1, h2⟩ := hb.1
        refine ⟨o, h1, ?_, ?_⟩
        · unfold hpB; rw [ht]; exact h2
        · unfold hpB
          rw [show Nat.testBit (mask ||| 2 ^ b.k) b.k = true by rw [bit_or]; simp]
          exact hpB_later l _ hl
      · cases e
def evEq (a b : Option Value) : Bool := match a, b with
  | some u, some v => vEq 6 u v
  | _, _ => false
theorem evEq_eq {a b : Option Value} (h : evEq a b = true) : a = b := by
  unfold evEq at h
  split at h
  · rw [vEq_eq _ _ _ h]
  · cases h
section
variable (C : Cfg) (self : Self) (rd : Option Nat) (nt : Nat) (ops : Array Oper) (h0 : Hp) (bs : List Big1)
def opC2 (mask : Nat) (tm : T Value) (i : Nat) : Option (T Value) := (ops[i]?).bind fun o =>
  match isBigK bs i with
  | true => (nextB bs mask i).bind fun b => ok? (wantedV ops tm o && o.op.operands.toList.all (fun x => evEq (evTm tm x) (evTm b.tm x))) (putTm nt tm o.dst b.v)
  | false => match wantedV ops tm o with
    | false => putTm nt tm o.dst undef
    | true => ok? (stillOp o.op) <| (opV C.P (evTm tm) o (hpB h0 bs mask)).bind fun r => match r with
      | .val v _ => putTm nt tm o.dst v
      | _ => none
def nextLev21 (mask : Nat) (tm : T Value) : List Nat → List (Nat × T Value) → List (Nat × T Value)
  | [], out => out
  | i :: is, out => match readyM ops mask i with
    | false => nextLev21 mask tm is out
    | true => match findM (mask ||| 2 ^ i) out with
      | some _ => nextLev21 mask tm is out
      | none => match opC2 C nt ops h0 bs mask tm i with
        | some tm' => nextLev21 mask tm is ((mask ||| 2 ^ i, tm') :: out)
        | none => nextLev21 mask tm is out
def nextLev2 : List (Nat × T Value) → List (Nat × T Value) → List (Nat × T Value)
  | [], out => out
  | (m, t) :: l, out => nextLev2 l (nextLev21 C nt ops h0 bs m t (List.range ops.size) out)
def levOk2 (lev out : List (Nat × T Value)) : Bool := lev.all fun x => (List.range ops.size).all fun i => match readyM ops x.1 i with
  | false => true
  | true => match opC2 C nt ops h0 bs x.1 x.2 i, findM (x.1 ||| 2 ^ i) out with
    | some tm', some t => sameTm nt tm' t && T.keysLow nt t
    | _, _ => false
def confGo2 : Nat → List (Nat × T Value) → Option (Nat × T Value)
  | 0, lev => match lev with | [x] => some x | _ => none
  | n + 1, lev => let out := nextLev2 C nt ops h0 bs lev []
    ok? (levOk2 C nt ops h0 bs lev out) (confGo2 n out)
def bigsV : List Oper → Nat → S → Option (List Big1)
  | [], _, _ => some []
  | o :: l, i, s => match wantedV ops s.tm o && !(stillOp o.op) with
    | true => (bigV C self o s.tm s.h).bind fun x => (putTm nt s.tm o.dst x.1).bind fun tm => (bigsV l (i + 1) { s with tm, h := x.2 }).bind fun r => some (⟨i, s.tm, x.1, x.2⟩ :: r)
    | false => (op1V C self rd nt ops o s).bind fun r => match r with
      | .code .normal s1 => bigsV l (i + 1) { s with tm := s1.tm }
      | _ => none
def confV2 (s : S) : Option R :=
  (bigsV C self rd nt ops ops.toList 0 s).bind fun bs => (confGo2 C nt ops s.h bs ops.size [(0, s.tm)]).bind fun x => some (.code .normal { s with tm := x.2, h := hpB s.h bs x.1 })
end
theorem bigsV_ok {C : Cfg} {self : Self} {rd : Option Nat} {nt : Nat} {ops : Array Oper} : ∀ (l : List Oper) (i : Nat) (s : S) (bs : List Big1), (∀ j o, l[j]? = some o → ops[i + j]? = some o) → bigsV C self rd nt ops l i s = some bs → BigsOk C self ops s.h bs
  | [], i, s, bs, _, e => by cases e; trivial
  | o :: l, i, s, bs, hl, e => by
    unfold bigsV at e
    have hl' : ∀ j o, l[j]? = some o → ops[i + 1 + j]? = some o := fun j o' h => by
      have := hl (j + 1) o' (by simpa using h)
      rwa [show i + (j + 1) = i + 1 + j by omega] at this
    split at e
    · obtain ⟨x, hx, e⟩ := bind_some' e
      obtain ⟨tm, _, e⟩ := bind_some' e
      obtain ⟨r, hr, e⟩ := bind_some' e
      cases e
      exact ⟨⟨o, hl 0 o rfl, hx⟩, bigsV_ok l (i + 1) _ r hl' hr⟩
    · obtain ⟨r, _, e⟩ := bind_some' e
      split at e
      · have := bigsV_ok l (i + 1) _ bs hl' e
        exact this
      · cases e
theorem levOk2_get {C : Cfg} {nt : Nat} {ops : Array Oper} {h0 : Hp} {bs : List Big1} {lev out : List (Nat × T Value)} (h : levOk2 C nt ops h0 bs lev out = true) {m : Nat} {t : T Value} (hm : (m, t) ∈ lev) {i : Nat} (hi : i < ops.size) (hr : readyM ops m i = true) :
    ∃ tm' t', opC2 C nt ops h0 bs m t i = some tm' ∧ (m ||| 2 ^ i, t') ∈ out ∧ sameTm nt tm' t' = true ∧ T.keysLow nt t' = true := by
  have := List.all_eq_true.1 (List.all_eq_true.1 h _ hm) i (List.mem_range.2 hi)
  rw [hr] at this
  simp only at this
  split at this
  · rename_i tm' t' h1 h2
    obtain ⟨g1, g2⟩ := a2 this
    exact ⟨tm', t', h1, findM_mem h2, g1, g2⟩
  · cases this
section
variable {C : Cfg} (hC : C.Ok) {self : Self} (hs : Sound C self)
theorem opC2_op1 {rd : Option Nat} {nt : Nat} {ops : Array Oper} {h0 : Hp} {bs : List Big1} (hst : BigsOk C self ops h0 bs) {mask : Nat} {tm tm' : T Value} {i : Nat} {o : Oper} (ho : ops[i]? = some o) (e : opC2 C nt ops h0 bs mask tm i = some tm') (df : List Deferred) :
    op1V C self rd nt ops o { tm, df, h := hpB h0 bs mask } = some (.code .normal { tm := tm', df, h := hpB h0 bs (mask ||| 2 ^ i) }) := by
  unfold opC2 at e
  rw [ho] at e
  simp only [Option.bind_some] at e
  split at e
  · obtain ⟨b, hb, e⟩ := bind_some' e
    obtain ⟨e1, e⟩ := ok?_some e
    obtain ⟨c1, c2⟩ := a2 e1
    obtain ⟨o', h1, h2, h3⟩ := next_ok hst hb
    rw [ho] at h1
    cases h1
    rw [h3]
    refine bigV_op1 df c1 ?_ e
    rw [bigV_congr (tm2 := b.tm) (fun x hx => evEq_eq (List.all_eq_true.1 c2 x (by simpa using hx)))]
    exact h2
  · rename_i hx
    rw [hpB_other _ _ hx]
    split at e
    · rename_i hw
      unfold op1V
      rw [show wantedV ops ({ tm, df, h := hpB h0 bs mask } : S).tm o = false from hw]
      simp only [e, Option.bind_some]
    · rename_i hw
      obtain ⟨c1, e⟩ := ok?_some e
      obtain ⟨r, hr, e⟩ := bind_some' e
      split at e
      · rename_i v h'
        have := calm_heap c1 hr
        subst this
        unfold op1V
        rw [show wantedV ops ({ tm, df, h := hpB h0 bs mask } : S).tm o = true from hw]
        simp only [hr, Option.bind_some, e]
      · cases e
include hC hs in
theorem conf2_any {rd rr : Option Nat} {nt m : Nat} {ops : Array Oper} {h0 : Hp} {bs : List Big1} {s : S} {fin : Nat × T Value} (hedge : edgesB ops = true) (hst : BigsOk C self ops h0 bs) {base : Nat} {ρ0 : Ren} {w0 : World} (H0 : HRel base ρ0 s.h w0) (hr : RdRel ρ0 rd rr) :
    ∀ (fuel : Nat) (lev : List (Nat × T Value)) (listed : Array Bool) (mask : Nat) (tm : T Value) (ρ : Ren) (a : Act) (w : World), confGo2 C nt ops h0 bs fuel lev = some fin → (mask, tm) ∈ lev → listed.size = ops.size → (∀ i, i < ops.size → lst listed i = Nat.testBit mask i) → left ops listed = fuel →
      Step base ρ0 s.h w0 ρ (hpB h0 bs mask) w → TmRel ρ nt tm a.tmps → DfRel ρ s.df a.defers →
      wpAnyIn (fenceOf rr) m C.P.P .any ops (QCode base ρ0 nt s w0 .normal { s with tm := fin.2, h := hpB h0 bs fin.1 }) fuel listed a w := by
  intro fuel
  induction fuel with
  | zero =>
    intro lev listed mask tm ρ a w hgo hm hsz hl hf stp ht hd
    have hL : ∀ i, i < ops.size → lst listed i = true := by
      intro i hi
      cases hh : lst listed i with
      | true => rfl
      | false =>
        have : i ∈ (List.range ops.size).filter fun i => !lst listed i := List.mem_filter.2 ⟨by simpa using hi, by rw [hh]; rfl⟩
        have := List.length_pos_of_mem this
        unfold left at hf
        omega
    have hready : Region.ready .any ops listed = [] := by
      rw [List.eq_nil_iff_forall_not_mem]
      intro i hi
      obtain ⟨o, ho, h1, _⟩ := (ready_iff hsz).1 hi
      rw [hL i (Array.getElem?_eq_some_iff.1 ho).1] at h1; cases h1
    unfold confGo2 at hgo
    split at hgo
    · cases hgo
      simp only [List.mem_singleton] at hm
      subst hm
      exact ⟨hready, ρ, trivial, stp, ht, hd⟩
    · cases hgo
  | succ fuel ih =>
    intro lev listed mask tm ρ a w hgo hm hsz hl hf stp ht hd
    unfold confGo2 at hgo
    obtain ⟨hlev, hgo⟩ := ok?_some hgo
    refine ⟨fun hready => ?_, fun i hi => ?_⟩
    · exfalso
      have hL := ready_nil hedge hsz hready
      have : left ops listed = 0 := by
        unfold left
        rw [List.length_eq_zero_iff, List.filter_eq_nil_iff]
        intro x hx h
        rw [hL x (by simpa using hx)] at h; cases h
      omega
    · obtain ⟨o, ho, hLi, hre⟩ := (ready_iff hsz).1 hi
      have hio : i < ops.size := (Array.getElem?_eq_some_iff.1 ho).1
      have hmi : Nat.testBit mask i = false := by rw [← hl i hio]; exact hLi
      have hrd : readyM ops mask i = true := by
        unfold readyM
        rw [ho]
        simp only [hmi, Bool.not_false, Bool.true_and, List.all_eq_true, Bool.or_eq_true, Bool.not_eq_true']
        intro e he
        cases hb : Region.binds .any e with
        | false => exact .inl rfl
        | true =>
          have := hre e (by simpa using he) hb
          refine .inr ?_
          have hlt : e.on < ops.size := by
            apply Classical.byContradiction
            intro hge
            have : lst listed e.on = false := by
              unfold lst
              rw [Array.getD_eq_getD_getElem?, Array.getElem?_eq_none (by omega)]; rfl
            have h9 := hre e (by simpa using he) hb
            rw [this] at h9; cases h9
          rw [← hl _ hlt]; exact this
      obtain ⟨tm', t', h1, h2, h3, h4⟩ := levOk2_get hlev hm hio hrd
      have hset : ∀ j, lst (listed.setIfInBounds i true) j = (lst listed j || j == i) := fun j => lst_set (by omega)
      have hop := opC2_op1 (self := self) (rd := rd) hst ho h1 s.df
      refine op1_sound hC hs ho hop stp.rel ht hd (hr.mono stp.ext) ?_ (fun v v' ρ' a' w' hv => by cases hv)
      intro _ ρ' a' w' hst' ht' hd'
      refine ih _ _ (mask ||| 2 ^ i) t' ρ' a' w' hgo h2 (by rw [Array.size_setIfInBounds]; exact hsz) ?_ ?_ (stp.trans H0 hst') (sameTm_rel h3 h4 ht') hd'
      · intro j hj
        rw [hset, Nat.testBit_or, hl j hj]
        by_cases e : j = i
        · subst e; rw [Nat.testBit_two_pow_self]; simp
        · rw [Nat.testBit_two_pow_of_ne (Ne.symm e)]; simp [e]
      · have := left_set (ops := ops) hset hLi hio
        omega
include hC hs in
theorem confV2_sound {rd : Option Nat} {nt id : Nat} {ops : Array Oper} {s : S} {r : R} (he : (ok? (edgesB ops) (confV2 C self rd nt ops s)) = some r) : ∃ s', r = .code .normal s' ∧ ∀ base ρ w a rr m, HRel base ρ s.h w → TmRel ρ nt s.tm a.tmps → DfRel ρ s.df a.defers → RdRel ρ rd rr →
    (Code.region id ops true).wpIn (fenceOf rr) m C.P.P (QCode base ρ nt s w .normal s') a w := by
  obtain ⟨hedge, he⟩ := ok?_some he
  unfold confV2 at he
  obtain ⟨bs, hst, he⟩ := bind_some' he
  obtain ⟨fin, hgo, he⟩ := bind_some' he
  cases he
  refine ⟨_, rfl, fun base ρ w a rr m H ht hd hr => wpIn_mono (wpIn_region_any (Q := QCode base ρ nt s { w with drawn := w.drawn + 1 } .normal { s with tm := fin.2, h := hpB s.h bs fin.1 }) hC.mixed ?_) (fun ex a w h => h.after H (Step.draw H _))⟩
  have H0 : HRel base ρ s.h { w with drawn := w.drawn + 1 } := H.heap_eq rfl
  have hl0 : ∀ i, lst (Array.replicate ops.size false) i = false := by
    intro i
    unfold lst
    rw [Array.getD_eq_getD_getElem?, Array.getElem?_replicate]
    split <;> rfl
  have hok : BigsOk C self ops s.h bs := bigsV_ok ops.toList 0 s bs (fun j o h => by rw [Nat.zero_add]; simpa using h) hst
  have hm0 : ∀ l, hpB s.h l 0 = s.h := by
    intro l
    cases l with
    | nil => rfl
    | cons b l => unfold hpB; rw [Nat.zero_testBit]
  refine conf2_any hC hs hedge hok H0 hr ops.size _ (Array.replicate ops.size false) 0 s.tm ρ a _ hgo (.head _) (by simp) (fun i _ => by rw [hl0, Nat.zero_testBit]) ?_ (by rw [hm0]; exact Step.refl H0) ht hd
  unfold left
  rw [show (List.range ops.size).filter (fun i => !lst (Array.replicate ops.size false) i) = List.range ops.size from List.filter_eq_self.2 (fun i _ => by rw [hl0]; rfl)]
  simp
end
end
end Go.Eng
/-
  The evaluator that goes through all orders, with tables for loops over maps and the rule for drawn regions; its answers kept.
-/
namespace Go.Eng
noncomputable section
abbrev Lp := Code → Option Nat → Nat → S → Option (List R)
def LpOk (P : Program) (lp : Lp) : Prop := ∀ c rd nt s rs, lp c rd nt s = some rs → ∀ base ρ w a rr m, HRel base ρ s.h w → TmRel ρ nt s.tm a.tmps → DfRel ρ s.df a.defers → RdRel ρ rd rr →
  c.wpIn (fenceOf rr) m P (QCodeN base ρ nt s w rs) a w
def stepL (C : Cfg) (self : Self) (nd : FuncId → Bool) (lp : Lp) (sn : SelfN) : SelfN
  | .code c rd nt s => match lp c rd nt s with
    | some rs => some rs
    | none => codeN C self nd sn c rd nt s
  | j => stepN C self nd sn j
def runL (C : Cfg) (self : Self) (nd : FuncId → Bool) (lp : Lp) : Nat → SelfN := fun n => Nat.rec (fun _ => none) (fun _ sn => stepL C self nd lp sn) n
theorem runL_sound {C : Cfg} (hC : C.Ok) {self : Self} (hs : Sound C self) (nd : FuncId → Bool) {lp : Lp} (hl : LpOk C.P.P lp) : ∀ n, SoundN C (runL C self nd lp n)
  | 0 => ⟨(fun _ _ _ _ _ e => (by cases e)), (fun _ _ _ _ e => (by cases e))⟩
  | n + 1 =>
    have ih := runL_sound hC hs nd hl n
    ⟨(fun c rd nt s rs e => by
      have e' : stepL C self nd lp (runL C self nd lp n) (.code c rd nt s) = some rs := e
      simp only [stepL] at e'
      cases h : lp c rd nt s with
      | some rs' => rw [h] at e'; cases e'; exact hl c rd nt s _ h
      | none => rw [h] at e'; exact codeN_sound hC hs ih c rd nt s rs e'),
    (fun _ _ _ _ e => callN_sound (nd := nd) hC hs ih e)⟩
def objEq (a b : AObj) : Bool := match a with
  | .cells c t s => (match b with | .cells d u r => listEq (vEq 6) c d && (Nat.beq t u && optNatEq s r) | _ => false)
  | .map es => (match b with | .map es' => listEq (fun x y => vEq 6 x.1 y.1 && vEq 6 x.2 y.2) es es' | _ => false)
  | .defs x => (match b with | .defs y => boolEq x y | _ => false)
  | _ => false
theorem objEq_eq (a b : AObj) (e : objEq a b = true) : a = b := by
  unfold objEq at e
  split at e
  · split at e
    · obtain ⟨e1, e⟩ := a2 e
      obtain ⟨e2, e3⟩ := a2 e
      rw [listEq_eq (vEq_eq 6) e1, nb e2, optNatEq_eq e3]
    · cases e
  · split at e
    · rw [listEq_eq (fun x y h => Prod.ext (vEq_eq 6 _ _ (a2 h).1) (vEq_eq 6 _ _ (a2 h).2)) e]
    · cases e
  · split at e
    · rw [boolEq_eq _ _ e]
    · cases e
  · cases e
def hasAllV (hs : List (Nat × AObj)) (h : Hp) : Bool := List.rec true (fun x _ ih => match h.get x.1 with | some o => ifB (objEq x.2 o) ih false | none => false) hs
theorem hasAllV_eq {h : Hp} : ∀ {hs : List (Nat × AObj)}, hasAllV hs h = true → ∀ i o, (i, o) ∈ hs → h.get i = some o
  | [], _, i, o, hm => by cases hm
  | (j, u) :: hs, e, i, o, hm => by
    have e' : (match h.get j with | some o => ifB (objEq u o) (hasAllV hs h) false | none => false) = true := e
    split at e'
    · rename_i p hp
      rw [ifB_if'] at e'
      obtain ⟨e1, e2⟩ := a2 e'
      rcases List.mem_cons.1 hm with h | h
      · cases h; rw [hp, objEq_eq _ _ e1]
      · exact hasAllV_eq e2 i o h
    · cases e'
def CallOk (P : Program) (f : FuncId) (args0 : List Value) (N : Nat) (hs : List (Nat × AObj)) (Q : Value → Hp → Prop) : Prop := Enters P f ∧ ∀ base ρ w args' m, HRel base ρ (hpAt N hs) w → LRel ρ args0 args'.toList →
  CallsIn Fence.wide m P f args' w (fun en w' => ∃ v h, Q v h ∧ QCall base ρ (hpAt N hs) w (.ret v h) en w')
def isRet (v : Value) (N' : Nat) (news : List (Nat × AObj)) (r : R) : Bool := match r with
  | .ret u h => vEq 6 u v && (Nat.ble h.next N' && hasAllV news h)
  | _ => false
def QRet (v : Value) (N' : Nat) (news : List (Nat × AObj)) (u : Value) (h : Hp) : Prop := u = v ∧ h.next ≤ N' ∧ ∀ i o, (i, o) ∈ news → h.get i = some o
theorem isRet_ok {v : Value} {N' : Nat} {news : List (Nat × AObj)} {r : R} (e : isRet v N' news r = true) : ∃ h, r = .ret v h ∧ QRet v N' news v h := by
  unfold isRet at e
  split at e
  · rename_i u h
    obtain ⟨e1, e⟩ := a2 e
    obtain ⟨e2, e3⟩ := a2 e
    have := vEq_eq 6 _ _ e1
    subst this
    exact ⟨h, rfl, rfl, Nat.le_of_ble_eq_true e2, hasAllV_eq e3⟩
  · cases e
def retR (x : Option R) (v : Value) (N' : Nat) (news : List (Nat × AObj)) : Bool := match x with | some r => isRet v N' news r | none => false
def retL (x : Option (List R)) (v : Value) (N' : Nat) (news : List (Nat × AObj)) : Bool := match x with | some rs => rs.all (isRet v N' news) | none => false
theorem callOk_run {C : Cfg} {self : Self} (hs' : Sound C self) {f : FuncId} {N N' : Nat} {args0 : List Value} {hs news : List (Nat × AObj)} {v : Value} (e : retR (self (.call f args0.toArray (hpAt N hs))) v N' news = true) : CallOk C.P.P f args0 N hs (QRet v N' news) := by
  unfold retR at e
  split at e
  · rename_i r hr
    obtain ⟨h, rfl, hq⟩ := isRet_ok e
    obtain ⟨g1, g2⟩ := hs'.call f args0.toArray _ _ hr
    exact ⟨g1, fun base ρ w args' m H hl => (g2 base ρ w args' m H (by simpa using hl)).mono fun en w' q => ⟨v, h, hq, q⟩⟩
  · cases e
theorem callOk_runL {C : Cfg} {sn : SelfN} (hn : SoundN C sn) {f : FuncId} {N N' : Nat} {args0 : List Value} {hs news : List (Nat × AObj)} {v : Value} (e : retL (sn (.call f args0.toArray (hpAt N hs))) v N' news = true) : CallOk C.P.P f args0 N hs (QRet v N' news) := by
  unfold retL at e
  split at e
  · rename_i rs hr
    obtain ⟨g1, g2⟩ := hn.call f args0.toArray _ _ hr
    refine ⟨g1, fun base ρ w args' m H hl => (g2 base ρ w args' m H (by simpa using hl)).mono ?_⟩
    rintro en w' ⟨r, hm, q⟩
    obtain ⟨h, rfl, hq⟩ := isRet_ok (List.all_eq_true.1 e r hm)
    exact ⟨v, h, hq, q⟩
  · cases e
def orcL (f : FuncId) (args0 : List Value) (hs : List (Nat × AObj)) (N : Nat) (v : Value) (news : List (Nat × AObj)) (N' : Nat) (orc : FuncId → Array Value → Hp → Option (Value × Hp)) : FuncId → Array Value → Hp → Option (Value × Hp) :=
  fun g args h => cond (Nat.beq f g) (ifB (listEq (vEq 6) args0 args.toList) (ifB (Nat.beq h.next N) (ifB (hasAllV hs h) (some (v, ⟨N', h.ro, addAll news h.objs⟩)) none) none) none) none |> fun r => match r with | some x => some x | none => orc g args h
theorem orcL_ok {C : Cfg} (hC : C.Ok) {f : FuncId} {N N' : Nat} {args0 : List Value} {hs news : List (Nat × AObj)} {v : Value} (hlow : hs.all (fun x => Nat.blt x.1 N) = true) (hnew : news.all (fun x => Nat.ble N x.1) = true) (hNN : Nat.ble N N' = true)
    (e : CallOk C.P.P f args0 N hs (QRet v N' news)) : Cfg.Ok { C with orc := orcL f args0 hs N v news N' C.orc } := by
  refine ⟨hC.env, hC.fn, ?_, hC.mixed⟩
  intro g args h u h' eo
  simp only [orcL] at eo
  split at eo
  case h_2 => exact hC.orc g args h u h' eo
  rename_i x hx
  cases eo
  cases hb : Nat.beq f g with
  | false => rw [hb] at hx; cases hx
  | true =>
  rw [hb] at hx
  obtain rfl := Nat.eq_of_beq_eq_true hb
  simp only [cond_true] at hx
  obtain ⟨k1, hx1⟩ := ifB_some hx
  obtain ⟨k2, hx2⟩ := ifB_some hx1
  obtain ⟨k3, hx3⟩ := ifB_some hx2
  cases hx3
  have hargs := listEq_eq (vEq_eq 6) k1
  have hN := Nat.eq_of_beq_eq_true k2
  obtain ⟨g1, g2⟩ := e
  refine ⟨g1, fun base ρ w args' m H hl => ?_⟩
  have low : ∀ i o, (i, o) ∈ hs → i < N := by
    intro i o hm
    have := (List.all_eq_true.1 hlow) _ hm
    rw [Nat.blt_eq] at this; exact this
  have HR : HRel N ρ (hpAt N hs) w := by
    refine ⟨?_, ?_, ?_, Nat.le_refl _, Nat.le_refl _⟩
    · intro i o hi
      have hm := hpAt_mem hi
      obtain ⟨im, O, r1, r2, r3⟩ := H.obj i _ (hasAllV_eq k3 i _ hm)
      have hi' := low i o hm
      exact ⟨im, O, r1, r2, r3.mono (Ext.refl ρ) (fun hb => by omega)⟩
    · intro i j im jm o p hi _ _ _ _ hb
      have := low i o (hpAt_mem hi)
      omega
    · intro i im hi
      have := H.dom i im hi
      exact ⟨by show i < N; omega, this.2⟩
  have hl' : LRel ρ args0 args'.toList := by
    rw [← hargs] at hl; simpa using hl
  refine (g2 N ρ w args' m HR hl').mono ?_
  rintro en w' ⟨v1, hf, ⟨rfl, hnx, hall⟩, v', ρ', rfl, st, hvr⟩
  have noWr : ∀ b, ¬ Wr ρ (hpAt N hs) b := by
    rintro b ⟨i, o, im, hi, hro, _⟩
    have := low i o (hpAt_mem hi)
    have hro' : N ≤ i := hro
    omega
  have hNN : N ≤ N' := Nat.le_of_ble_eq_true hNN
  have roN : h.ro ≤ N := by have := H.roNext; omega
  have getCase : ∀ i o, (addAll news h.objs).get i = some o → (N ≤ i ∧ hf.get i = some o) ∨ (i < N ∧ h.get i = some o) := by
    intro i o hi
    by_cases hiN : i < N
    · rw [addAll_low news h.objs i hnew hiN] at hi
      exact .inr ⟨hiN, hi⟩
    · rcases addAll_mem news h.objs i o hi with hm | hm
      · exact .inl ⟨by omega, hall i o hm⟩
      · have := H.lt (i := i) (o := o) hm
        omega
  have oldρ : ∀ i im, N ≤ i → ρ i = some im → False := by
    intro i im hi hr
    have := (H.dom i im hr).1
    omega
  have rel : HRel base ρ' ⟨N', h.ro, addAll news h.objs⟩ w' := by
    refine ⟨?_, ?_, ?_, H.baseRo, by show h.ro ≤ N'; omega⟩
    · intro i o hi
      rcases getCase i o hi with ⟨h1, h2⟩ | ⟨h1, h2⟩
      · obtain ⟨im, O, r1, r2, r3⟩ := st.rel.obj i o h2
        exact ⟨im, O, r1, r2, r3.mono (Ext.refl ρ') (fun _ => h1)⟩
      · obtain ⟨im, O, r1, r2, r3⟩ := H.obj i o h2
        exact ⟨im, O, st.ext _ _ r1, st.keep _ _ r2 (noWr _), r3.mono st.ext (fun hb => hb)⟩
    · intro i j im jm o p hi hj ri rj hij hb
      rcases getCase i o hi with ⟨a1, a2⟩ | ⟨a1, a2⟩
      · rcases getCase j p hj with ⟨b1, b2⟩ | ⟨b1, b2⟩
        · exact st.rel.inj i j im jm o p a2 b2 ri rj hij a1
        · have hjm : jm.blk < w.heap.size := by
            obtain ⟨im2, O, r1, r2, r3⟩ := H.obj j p b2
            have := st.ext _ _ r1
            rw [rj] at this; cases this
            exact (H.dom _ _ r1).2
          rcases st.news i im ri with h1 | ⟨_, h1 | h1⟩
          · exact (oldρ i im a1 h1).elim
          · omega
          · exact (noWr _ h1).elim
      · rcases getCase j p hj with ⟨b1, b2⟩ | ⟨b1, b2⟩
        · have him : im.blk < w.heap.size := by
            obtain ⟨im2, O, r1, r2, r3⟩ := H.obj i o a2
            have := st.ext _ _ r1
            rw [ri] at this; cases this
            exact (H.dom _ _ r1).2
          rcases st.news j jm rj with h1 | ⟨_, h1 | h1⟩
          · exact (oldρ j jm b1 h1).elim
          · omega
          · exact (noWr _ h1).elim
        · obtain ⟨im2, O, r1, r2, r3⟩ := H.obj i o a2
          obtain ⟨jm2, O2, s1, s2, s3⟩ := H.obj j p b2
          have t1 := st.ext _ _ r1
          rw [ri] at t1; cases t1
          have t2 := st.ext _ _ s1
          rw [rj] at t2; cases t2
          exact H.inj i j im jm o p a2 b2 r1 s1 hij hb
    · intro i im hi
      have := st.rel.dom i im hi
      exact ⟨by show i < N'; omega, this.2⟩
  refine ⟨v', ρ', rfl, ?_, hvr⟩
  refine ⟨st.ext, rel, fun b o hb _ => st.keep b o hb (noWr _), ?_, ?_, st.size, rfl, by show h.next ≤ N'; omega, st.os, st.tape, st.output⟩
  · intro i im hi
    rcases st.news i im hi with h1 | ⟨h1, h2 | h2⟩
    · exact .inl h1
    · have h1' : N ≤ i := h1
      exact .inr ⟨by omega, .inl h2⟩
    · exact (noWr _ h2).elim
  · intro i o hi hg
    rcases getCase i o hg with ⟨h1, h2⟩ | ⟨h1, h2⟩
    · omega
    · exact ⟨o, h2⟩
def memoL (args0 : List Value) (hs : List (Nat × AObj)) (v : Value) : List Value → Hp → Option Value := fun args h =>
  ifB (listEq (vEq 6) args0 args) (ifB (hasAllV hs h) (some v) none) none
def lowV (N : Nat) (v : Value) : Bool := simV N [] 6 v v
def lowO (N : Nat) (x : Nat × AObj) : Bool := Nat.blt x.1 N && simO N [] x.2 x.2
theorem memoL_sound {P : Program} {f : FuncId} {N N' : Nat} {args0 : List Value} {hs news : List (Nat × AObj)} {v : Value} (hp : plain v = true) (ha : args0.all (lowV N) = true) (ho : hs.all (lowO N) = true)
    (e : CallOk P f args0 N hs (QRet v N' news)) : PSound P f (memoL args0 hs v) := by
  obtain ⟨g1, g2⟩ := e
  intro args h u hu
  unfold memoL at hu
  obtain ⟨k1, hu⟩ := ifB_some hu
  obtain ⟨k2, hu⟩ := ifB_some hu
  cases hu
  have hargs := listEq_eq (vEq_eq 6) k1
  subst hargs
  refine ⟨hp, g1, fun base ρ h2 w args' m H hsub hl => ?_⟩
  have low : ∀ i o, (i, o) ∈ hs → i < N ∧ simO N [] o o = true := by
    intro i o hm
    have := List.all_eq_true.1 ho _ hm
    obtain ⟨q1, q2⟩ := a2 this
    rw [Nat.blt_eq] at q1
    exact ⟨q1, q2⟩
  have HR : HRel N (renP ρ N []) (hpAt N hs) w := by
    refine ⟨?_, ?_, ?_, Nat.le_refl _, Nat.le_refl _⟩
    · intro i o hi
      have hm := hpAt_mem hi
      obtain ⟨hin, hc⟩ := low i o hm
      obtain ⟨im, O, r1, r2, r3⟩ := H.obj i _ (hsub i _ (hasAllV_eq k2 i _ hm))
      refine ⟨im, O, ?_, r2, simO_rel (fun hb => by omega) hc r3⟩
      unfold renP
      rw [if_pos hin]; exact r1
    · intro i j im jm o p hi _ _ _ _ hb
      have := (low i o (hpAt_mem hi)).1
      omega
    · intro i im hi
      unfold renP at hi
      split at hi
      · exact ⟨‹_›, (H.dom i im hi).2⟩
      · simp at hi
  have hl' : LRel (renP ρ N []) args0 args'.toList := ⟨hl.1, fun i x x' hx hx' => simV_rel 6 (List.all_eq_true.1 ha x (List.mem_of_getElem? hx)) (hl.2 i x x' hx hx')⟩
  refine (g2 N _ w args' m HR hl').mono ?_
  rintro en w' ⟨v1, h1, ⟨rfl, _, _⟩, v', ρ', rfl, hst, hvr⟩
  obtain rfl := plain_rel hvr hp
  refine ⟨rfl, fun b o hb => hst.keep b o hb ?_, hst.size, hst.os, hst.tape, hst.output⟩
  rintro ⟨i, o, im, hi, hro, _⟩
  have := (low i o (hpAt_mem hi)).1
  have hro' : N ≤ i := hro
  omega
end
end Go.Eng
/-
  As EngMemoL, drawn regions by EngConf2's rule.
-/
namespace Go.Eng
noncomputable section
def lpC2 (C : Cfg) (self : Self) : Lp := fun c rd nt s => match c with
  | .region _ ops true => match self (.code c rd nt s) with
    | some r => some [r]
    | none => (ok? (edgesB ops) (confV2 C self rd nt ops s)).bind fun r => some [r]
  | _ => none
theorem lpC2_ok {C : Cfg} (hC : C.Ok) {self : Self} (hs : Sound C self) : LpOk C.P.P (lpC2 C self) := by
  intro c rd nt s rs e base ρ w a rr m H ht hd hr
  unfold lpC2 at e
  split at e
  · rename_i id ops
    split at e
    · rename_i r h
      cases e
      obtain ⟨ex, s', rfl, k⟩ := hs.code _ _ _ _ _ h
      exact wpIn_mono (k base ρ w a rr m H ht hd hr) (fun ex a w h => ⟨_, _, .head _, h⟩)
    · obtain ⟨r, h, e⟩ := bind_some' e
      cases e
      obtain ⟨s', rfl, k⟩ := confV2_sound (id := id) hC hs h
      exact wpIn_mono (k base ρ w a rr m H ht hd hr) (fun ex a w h => ⟨_, _, .head _, h⟩)
  · cases e
end
end Go.Eng
/-
  Several kept answers of one function: the older ones are asked where the newer one has none.
-/
namespace Go.Eng
noncomputable def orcM (f : FuncId) (F : List Value → Hp → Option Value) (orc : FuncId → Array Value → Hp → Option (Value × Hp)) : FuncId → Array Value → Hp → Option (Value × Hp) :=
  fun g args h => cond (Nat.beq f g) (Option.rec (motive := fun _ => Option (Value × Hp)) (orc g args h) (fun v => some (v, h)) (F args.toList h)) (orc g args h)
theorem orcM_ok {C : Cfg} (hC : C.Ok) {f : FuncId} {F : List Value → Hp → Option Value} (hF : PSound C.P.P f F) : Cfg.Ok { C with orc := orcM f F C.orc } := by
  have hP := orcP_ok hC hF
  refine ⟨hC.env, hC.fn, ?_, hC.mixed⟩
  intro g args h v h' e
  simp only [orcM] at e
  cases hb : Nat.beq f g with
  | false => rw [hb] at e; exact hC.orc g args h v h' e
  | true =>
    rw [hb] at e
    simp only [cond_true] at e
    cases hf : F args.toList h with
    | none => rw [hf] at e; exact hC.orc g args h v h' e
    | some u =>
      rw [hf] at e
      refine hP.orc g args h v h' ?_
      show orcP f F C.orc g args h = some (v, h')
      unfold orcP
      rw [hb]
      simp only [cond_true, hf]
      exact e
end Go.Eng
/-
  A loop over a map by its table, the table's rows shown true piece by piece.
-/
namespace Go.Eng
noncomputable section
structure TCtx where
  id : Nat
  ops : Array Oper
  b2 : Code
  o0 : Oper
  it : Operand
  n : Nat
  low : List (Nat × AObj)
  sts : List S
section
variable (C : Cfg) (self : Self) (rd : Option Nat) (nt : Nat) (tab : LTab) (c : Code) (s : S)
end
end
end Go.Eng
