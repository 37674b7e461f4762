/-
  An evaluator of the code, proved sound.
-/
import Derived.Test.YtdpicdnpiihaaaaBoEngB
import Derived.Below
import Derived.ChangeSame
import Derived.IntWalk
import Derived.DataReads
import Derived.ChangeOld
import Derived.HandedShaped
set_option linter.unusedVariables false
/-
  Regions that draw and are calm: in order.
-/
namespace Go.bK
noncomputable section
def qG (o : Oper) : Bool := match o.op with | .call { callee := .value (.func _), .. } => true | _ => false
def aG1 (o : Oper) : Bool := match o.guard with
 | some _ => false
 | none => match o.op with | .buildSlice .. => true | _ => false
def aG2 (ops : Array Oper) : Bool :=
 let ms := masks ops.toList []
 lV ops && oV ops ms && (List.range (fD ops ms ops.size)).all fun i => match ops[i]? with | some o => qV o || qG o | none => false
def aG3 (ops : Array Oper) : Bool :=
 let ms := masks ops.toList []
 match fD ops ms ops.size with
 | 0 => false
 | u + 1 => lV ops && oV ops ms && ((List.range u).all fun i => match ops[i]? with | some o => qV o || qG o | none => false) &&
   (match ops[u]? with | some o => aG1 o | none => false) && waits ms (u + 1) u && Nat.blt (u + 1) ops.size
def Q4 (ops : Array Oper) : Bool := aG2 ops || aG3 ops
def fU (ops : Array Oper) : Nat := fD ops (masks ops.toList []) ops.size
def zV (C' C : dO) : Prop := ∀ f args h v h', C'.iJ f args h = some (v, h') → h' = h ∧ ((plain v = true ∧ ∃ h2, C.iJ f args ⟨h.next, h.next, h.aC⟩ = some (v, h2)) ∨ C.iJ f args ⟨h.next, h.next, h.aC⟩ = some (v, ⟨h.next, h.next, h.aC⟩))
def MC (iJ : FuncId → Array Value → Hp → Option (Value × Hp)) : FuncId → Array Value → Hp → Option (Value × Hp) :=
 fun f args h => aN (iJ f args ⟨h.next, h.next, h.aC⟩) fun v _ => bY (kT v) (some (v, h)) none
theorem Z6 (C : dO) : zV { C with iJ := MC C.iJ } C := by
 intro f args h v h' e
 replace e : aN (C.iJ f args ⟨h.next, h.next, h.aC⟩) (fun v _ => bY (kT v) (some (v, h)) none) = some (v, h') := e
 obtain ⟨u, h2, he, e⟩ := jB e
 cases hp : kT u with
 | false => rw [hp] at e; cases e
 | true =>
 rw [hp] at e
 cases e
 rw [nP] at hp
 exact ⟨rfl, .inl ⟨hp, h2, he⟩⟩
theorem gT {ops : Array Oper} (h : oV ops (masks ops.toList []) = true) {i j : Nat} {oi oj : Oper} {x : Tmp} (hi : ops[i]? = some oi) (hj : ops[j]? = some oj) (hx : oj.dst = some x) :
  (i = j ∨ oi.dst ≠ some x) ∧ (waits (masks ops.toList []) i j = true ∨ waits (masks ops.toList []) j i = true ∨ x ∉ readsOf ops oi) := by
 unfold oV at h
 rw [List.all_eq_true] at h
 have h1 := h i (by simpa using (Array.getElem?_eq_some_iff.1 hi).1)
 rw [hi] at h1
 simp only [List.all_eq_true] at h1
 have h2 := h1 j (by simpa using (Array.getElem?_eq_some_iff.1 hj).1)
 rw [hj] at h2
 simp only [hx, Bool.and_eq_true, Bool.or_eq_true, bne_iff_ne, ne_eq, Bool.not_eq_true', List.contains_eq_mem, decide_eq_false_iff_not] at h2
 obtain ⟨h3, h4⟩ := h2
 refine ⟨h3.imp (fun h => Nat.eq_of_beq_eq_true h) id, ?_⟩
 rcases h4 with (h4 | h4) | h4
 ·exact .inl h4
 ·exact .inr (.inl h4)
 ·exact .inr (.inr h4)
theorem tX {ops : Array Oper} {o : Oper} {tm pU : T Value} (h : ∀ x ∈ readsOf ops o, pU.get x = tm.get x) : ∀ x ∈ o.op.operands, jC pU x = jC tm x := by
 intro x hx
 cases x with
 | tmp t =>
  have : t ∈ readsOf ops o := by
   unfold readsOf
   apply List.mem_append_left
   rw [List.mem_filterMap]
   exact ⟨.tmp t, by simpa using hx, rfl⟩
  simp only [jC, h t this]
 | const v => rfl
 | global g => rfl
 | func f => rfl
theorem yB {ops : Array Oper} {o : Oper} {tm pU : T Value} (h : ∀ x ∈ readsOf ops o, pU.get x = tm.get x) : cB ops pU o = cB ops tm o := by
 unfold cB
 cases hg : o.guard with
 | none => rfl
 | some g =>
  obtain ⟨j, want⟩ := g
  cases hd : (ops[j]?).bind (·.dst) with
  | none => simp only [hd, Option.bind_none]
  | some d =>
   have : d ∈ readsOf ops o := by
    unfold readsOf
    apply List.mem_append_right
    rw [hg]; simp [hd]
   simp only [hd, Option.bind_some, h d this]
theorem gF {nt : Nat} {d : Option Tmp} {v : Value} {tm tm' : T Value} (e : gY nt tm d v = some tm') {x : Nat} (hx : d ≠ some x) : tm'.get x = tm.get x := by
 unfold gY at e
 split at e
 ·cases e; rfl
 ·rename_i d
  replace e := aO e; obtain ⟨_, e⟩ := e
  cases e
  rw [T.get_put, if_neg (fun h => hx (by rw [h]))]
theorem jD {nt : Nat} {v : Value} {tm tm' : T Value} {x : Nat} (e : gY nt tm (some x) v = some tm') : tm'.get x = some v ∧ x < nt := by
 simp only [gY] at e
 replace e := aO e; obtain ⟨h, e⟩ := e
 cases e
 rw [T.get_put, if_pos rfl]
 refine ⟨rfl, ?_⟩
 rw [Nat.blt_eq] at h; exact h
theorem yC {nt : Nat} {d : Option Tmp} {v : Value} {tm : T Value} (h : ∀ x, d = some x → x < nt) : ∃ tm', gY nt tm d v = some tm' := by
 cases d with
 | none => exact ⟨tm, rfl⟩
 | some x =>
  have := h x rfl
  exact ⟨tm.put x (some v), by simp only [gY]; rw [show Nat.blt x nt = true from by rw [Nat.blt_eq]; exact this]; rfl⟩
theorem ET {C : dO} {self : Self} {rd : Option Nat} {nt : Nat} {ops : Array Oper} {o : Oper} {s s1 : S} (e : jJ C self rd nt ops o s = some (.code .normal s1)) :
  ∃ v, gY nt s.tm o.dst v = some s1.tm ∧ ∀ pU, (∀ x ∈ readsOf ops o, pU.get x = s.tm.get x) → ∀ MV, gY nt pU o.dst v = some MV → jJ C self rd nt ops o { s with tm := pU } = some (.code .normal { s1 with tm := MV }) := by
 unfold jJ at e
 split at e
 ·rename_i hw
  replace e := aA e; obtain ⟨tm, h1, e⟩ := e
  cases e
  refine ⟨undef, h1, fun pU hr MV h3 => ?_⟩
  unfold jJ
  rw [show cB ops ({ s with tm := pU } : S).tm o = false from by rw [← hw]; exact yB hr]
  simp only [h3, Option.bind_some]
 ·rename_i hw
  replace e := aA e; obtain ⟨r, hr, e⟩ := e
  have hw2 : ∀ pU : T Value, (∀ x ∈ readsOf ops o, pU.get x = s.tm.get x) → cB ops ({ s with tm := pU } : S).tm o = true := fun pU h => by rw [← hw]; exact yB h
  have ho2 : ∀ pU : T Value, (∀ x ∈ readsOf ops o, pU.get x = s.tm.get x) → iT C.P (jC ({ s with tm := pU } : S).tm) o ({ s with tm := pU } : S).h = some r := fun pU h => by
   rw [← hr]; exact CF (tX h)
  split at e
  ·replace e := aA e; obtain ⟨tm, h1, e⟩ := e
   cases e
   refine ⟨_, h1, fun pU hh MV h3 => ?_⟩
   unfold jJ
   rw [hw2 pU hh]
   simp only [ho2 pU hh, Option.bind_some, h3]
  ·cases e
  ·split at e
   ·replace e := aA e; obtain ⟨tm, h1, e⟩ := e
    cases e
    refine ⟨_, h1, fun pU hh MV h3 => ?_⟩
    unfold jJ
    rw [hw2 pU hh]
    simp only [ho2 pU hh, Option.bind_some, h3]
   ·cases e
  ·replace e := aA e; obtain ⟨r2, hr2, e⟩ := e
   split at e
   ·replace e := aA e; obtain ⟨tm, h1, e⟩ := e
    cases e
    refine ⟨_, h1, fun pU hh MV h3 => ?_⟩
    unfold jJ
    rw [hw2 pU hh]
    simp only [ho2 pU hh, Option.bind_some, hr2, h3]
   ·cases e
   ·cases e
section
variable {C : dO} {self : Self} {rd : Option Nat} {nt : Nat} {ops : Array Oper} {s : S} {ls : List Left}
theorem pV : ∀ (js : List Nat) (t : T dG), (∀ j ∈ js, ∃ l, ls[j]? = some l ∧ l.own = []) → fV ls js t = some t
 | [], t, _ => rfl
 | j :: js, t, hj => by
  unfold fV
  obtain ⟨l, h1, h2⟩ := hj j (by simp)
  rw [h1]
  simp only [Option.bind_some]
  rw [h2]
  exact pV js t fun k hk => hj k (by simp [hk])
theorem kU (h1 : ∀ j, j < ls.length → ∃ o, ops[j]? = some o) (h2 : ∀ j, j < ls.length → ∀ x, bG ops j = some x → x < nt) : ∀ (js : List Nat) (tm : T Value), (∀ j ∈ js, j < ls.length) → ∃ tm', sM nt ops ls js tm = some tm'
 | [], tm, _ => ⟨tm, rfl⟩
 | j :: js, tm, hj => by
  have hlt := hj j (by simp)
  obtain ⟨o, ho⟩ := h1 j hlt
  unfold sM
  rw [ho, List.getElem?_eq_getElem hlt]
  simp only [Option.bind_some]
  obtain ⟨vD, e1⟩ := yC (nt := nt) (d := o.dst) (v := ls[j].v) (tm := tm) (fun x hx => h2 j hlt x (by unfold bG; rw [ho]; exact hx))
  rw [e1]
  exact kU h1 h2 js vD fun k hk => hj k (by simp [hk])
theorem Z7 {C' : dO} {sf : Self} (hP : C'.P = C.P) (hto : zV C' C) (hsf : ∀ j, sf j = none) {ms : List Nat} {i : Nat} {o : Oper} {cur LK : T Value} {s1 : S} (ho : ops[i]? = some o) (hc : (qV o || qG o) = true)
  (hq : sM nt ops ls (waitsFor ms i) s.tm = some LK) (hr : ∀ x ∈ readsOf ops o, LK.get x = cur.get x) (iG : fV ls (waitsFor ms i) s.h.aC = some s.h.aC)
  (e : jJ C' sf rd nt ops o { s with tm := cur } = some (.code .normal s1)) :
  ∃ v, gY nt cur o.dst v = some s1.tm ∧ s1.h = s.h ∧ s1.df = s.df ∧ j6 C self nt ops ms s ls s.h.next i = some ({ v, own := [] }, s.h.next) := by
 unfold jJ at e
 rw [hP] at e
 have hw := yB hr
 have hst : ∀ t x y, o.op ≠ .store t x y := by
  intro t x y h
  simp [qV, qG, h] at hc
 split at e
 ·rename_i hw2
  replace e := aA e; obtain ⟨tm, h1, e⟩ := e
  cases e
  refine ⟨undef, h1, rfl, rfl, ?_⟩
  unfold j6
  rw [ho]
  simp only [Option.bind_some, hq]
  rw [hw, show cB ops cur o = false from hw2]
 ·rename_i hw2
  replace e := aA e; obtain ⟨r, hr1, e⟩ := e
  cases hcalm : qV o with
  | true =>
   obtain ⟨v, rfl, hv⟩ := WT hcalm hr1
   simp only at e
   replace e := aA e; obtain ⟨tm, h1, e⟩ := e
   cases e
   refine ⟨v, h1, rfl, rfl, ?_⟩
   unfold j6
   rw [ho]
   simp only [Option.bind_some, hq]
   rw [hw, show cB ops cur o = true from hw2]
   simp only
   ·have key : ∀ aC, (kI o = true ∨ aC = s.h.aC) → ((iT C.P (jC LK) o { next := s.h.next, ro := s.h.next, aC }).bind fun r =>
      (match r with
       | .val v h => some (v, h)
       | .call fn args => (mR C self fn args { next := s.h.next, ro := s.h.next, aC }).bind fun r => match r with | .ret v h => some (v, h) | _ => none
       | _ => none).bind fun (v, h) =>
      match plain v with
      | true => some (({ v, own := [] } : Left), s.h.next)
      | false => ok? (Nat.ble s.h.next h.next) (some ({ v, own := fQ h s.h.next (h.next - s.h.next) }, h.next))) = some ({ v, own := [] }, s.h.next) := by
     intro aC h3
     rw [CF (P := C.P) (h := { next := s.h.next, ro := s.h.next, aC }) (tX hr), hv { next := s.h.next, ro := s.h.next, aC } h3]
     simp only [Option.bind_some]
     split
     ·rfl
     ·rw [show Nat.ble s.h.next s.h.next = true from by rw [Nat.ble_eq]; exact Nat.le_refl _, Nat.sub_self]
      rfl
    cases hi : kI o with
    | true => exact key _ (.inl hi)
    | false => simp only [iG, Option.bind_some]; exact key _ (.inr rfl)
  | false =>
   rw [hcalm, Bool.false_or] at hc
   have hin : kI o = false := by
    unfold qG at hc
    split at hc
    ·rename_i heq; simp [kI, heq]
    ·cases hc
   obtain ⟨f, args, rfl, hv⟩ : ∃ f args, r = .call (.func f) args ∧ ∀ H : Hp, iT C.P (jC cur) o H = some (.call (.func f) args) := by
    unfold qG at hc
    split at hc
    ·rename_i f ags lC heq
     simp only [iT, heq, mO, rA, nN, jC, Option.bind_some] at hr1
     replace hr1 := aA hr1; obtain ⟨⟨fn, a, cap⟩, h1, hr1⟩ := hr1
     replace h1 := aA h1; obtain ⟨l, h2, h1⟩ := h1
     cases h1
     simp only at hr1
     cases hr1
     exact ⟨_, _, rfl, fun H => by simp only [iT, heq, mO, rA, nN, jC, Option.bind_some, h2]⟩
    ·cases hc
   simp only at e
   replace e := aA e; obtain ⟨r2, hr2, e⟩ := e
   have hcall : ∃ v h3, C'.iJ f args s.h = some (v, h3) ∧ r2 = .ret v h3 := by
    simp only [mR] at hr2
    split at hr2
    ·rename_i v h3 aS9; cases hr2; exact ⟨v, h3, aS9, rfl⟩
    ·split at hr2
     ·rw [hsf] at hr2; cases hr2
     ·rw [hsf] at hr2; cases hr2
   obtain ⟨v, h3, aS9, rfl⟩ := hcall
   obtain ⟨rfl, hcase⟩ := hto f args s.h v h3 aS9
   simp only at e
   replace e := aA e; obtain ⟨tm, h1, e⟩ := e
   cases e
   refine ⟨v, h1, rfl, rfl, ?_⟩
   unfold j6
   rw [ho]
   simp only [Option.bind_some, hq]
   rw [hw, show cB ops cur o = true from hw2]
   simp only
   rw [hin]
   simp only [iG, Option.bind_some]
   rw [CF (P := C.P) (h := { next := s.h.next, ro := s.h.next, aC := s.h.aC }) (tX hr), hv]
   simp only [Option.bind_some, mR]
   rcases hcase with ⟨hp, h2, h4⟩ | h4
   ·rw [h4]
    simp only [Option.bind_some, hp]
   ·rw [h4]
    simp only [Option.bind_some]
    split
    ·rfl
    ·rw [show Nat.ble s.h.next s.h.next = true from by rw [Nat.ble_eq]; exact Nat.le_refl _, Nat.sub_self]
     rfl
structure aEY (nt : Nat) (ops : Array Oper) (s : S) (i : Nat) (ls : List Left) (cur : T Value) : Prop where
 len : ls.length = i
 own : ∀ l ∈ ls, l.own = []
 WN : ∀ j, j < i → ∀ x, bG ops j = some x → x < nt ∧ ∃ l, ls[j]? = some l ∧ cur.get x = some l.v
 out : ∀ x, (∀ j, j < i → bG ops j ≠ some x) → cur.get x = s.tm.get x
theorem zW {C' : dO} {sf : Self} (hP : C'.P = C.P) (hto : zV C' C) (hsf : ∀ j, sf j = none) {t : Nat} (zT : lV ops = true) (hap : oV ops (masks ops.toList []) = true) (ht : t ≤ ops.size) (hcalm : ∀ i, i < t → ∃ o, ops[i]? = some o ∧ (qV o || qG o) = true) {s2 : S} :
  ∀ (m i : Nat) (ls : List Left) (cur : T Value), i + m = t → aEY nt ops s i ls cur → opsV C' sf rd nt ops ((ops.toList.take t).drop i) { s with tm := cur } = some (.code .normal s2) →
   ∃ ls' cur', jH C self nt ops (masks ops.toList []) s (List.range' i m) ls s.h.next = some (ls', s.h.next) ∧ aEY nt ops s t ls' cur' ∧ s2 = { s with tm := cur' }
 | 0, i, ls, cur, him, I, e => by
  rw [List.drop_of_length_le (by simp; omega)] at e
  cases e
  exact ⟨ls, cur, rfl, by simpa using him ▸ I, rfl⟩
 | m + 1, i, ls, cur, him, I, e => by
  obtain ⟨o, ho, hc⟩ := hcalm i (by omega)
  have hlt := (Array.getElem?_eq_some_iff.1 ho).1
  have hdrop : (ops.toList.take t).drop i = o :: (ops.toList.take t).drop (i + 1) := by
   rw [List.drop_eq_getElem_cons (by simp; omega)]
   congr 1
   rw [List.getElem_take]
   exact (Array.getElem?_eq_some_iff.1 ho).2
  rw [hdrop] at e
  unfold opsV at e
  replace e := aA e; obtain ⟨r, hr, e⟩ := e
  have hops : ∀ j, j < ls.length → ∃ o, ops[j]? = some o := fun j hj => by
   obtain ⟨o, h, _⟩ := hcalm j (by have := I.len; omega)
   exact ⟨o, h⟩
  have hw : ∀ j ∈ waitsFor (masks ops.toList []) i, j < ls.length := fun j hj => by have := gM hj; have := I.len; omega
  obtain ⟨LK, hq⟩ := kU (nt := nt) hops (fun j hj x hx => (I.WN j (by have := I.len; omega) x hx).1) _ s.tm hw
  have hreads : ∀ x ∈ readsOf ops o, LK.get x = cur.get x := by
   intro x hx
   by_cases hex : ∃ j, j < i ∧ bG ops j = some x
   ·obtain ⟨j, hj, hd⟩ := hex
    obtain ⟨_, l, hl, tY⟩ := I.WN j hj x hd
    obtain ⟨oj, hoj⟩ := hops j (by have := I.len; omega)
    have wQ : oj.dst = some x := by unfold bG at hd; rw [hoj] at hd; exact hd
    have hwt : waits (masks ops.toList []) i j = true := by
     rcases (gT hap ho hoj wQ).2 with h | h | h
     ·exact h
     ·have := kL zT h; omega
     ·exact absurd hx h
    have hmem : j ∈ waitsFor (masks ops.toList []) i := by unfold waitsFor; rw [List.mem_filter]; exact ⟨by simpa using hj, hwt⟩
    have rH : ∀ k ∈ waitsFor (masks ops.toList []) i, bG ops k = some x → k = j := by
     intro k hk hkd
     have hki := gM hk
     obtain ⟨ok, hok⟩ := hops k (by have := I.len; omega)
     have hkx : ok.dst = some x := by unfold bG at hkd; rw [hok] at hkd; exact hkd
     rcases (gT hap hok hoj wQ).1 with h | h
     ·exact h
     ·exact absurd hkx h
    obtain ⟨l', hl', hg, _⟩ := mU _ hq j hmem hd rH
    rw [hl] at hl'; cases hl'
    rw [hg, tY]
   ·have hno : ∀ j, j < i → bG ops j ≠ some x := fun j hj h => hex ⟨j, hj, h⟩
    rw [jK _ hq x (fun j hj => hno j (gM hj)), I.out x hno]
  have iG := pV (ls := ls) _ s.h.aC (fun j hj => ⟨ls[j]'(hw j hj), List.getElem?_eq_getElem (hw j hj), I.own _ (List.getElem_mem (hw j hj))⟩)
  cases r with
  | code ex s1 =>
   cases ex with
   | normal =>
    obtain ⟨v, hp, hh, hdf, hquiet⟩ := Z7 (C := C) (self := self) hP hto hsf ho hc hq hreads iG hr
    have I' : aEY nt ops s (i + 1) (ls ++ [{ v, own := [] }]) s1.tm := by
     refine ⟨by simp [I.len], ?_, ?_, ?_⟩
     ·intro l hl
      rcases List.mem_append.1 hl with h | h
      ·exact I.own l h
      ·simp at h; rw [h]
     ·intro j hj x hx
      by_cases hji : j = i
      ·subst hji
       have wQ : o.dst = some x := by unfold bG at hx; rw [ho] at hx; exact hx
       rw [wQ] at hp
       obtain ⟨g1, g2⟩ := jD hp
       refine ⟨g2, { v, own := [] }, ?_, g1⟩
       rw [← I.len]; simp
      ·have hj' : j < i := by omega
       obtain ⟨g1, l, g2, g3⟩ := I.WN j hj' x hx
       refine ⟨g1, l, ?_, ?_⟩
       ·rw [List.getElem?_append_left (by have := I.len; omega)]; exact g2
       ·obtain ⟨oj, hoj⟩ := hops j (by have := I.len; omega)
        have wQ : oj.dst = some x := by unfold bG at hx; rw [hoj] at hx; exact hx
        have : o.dst ≠ some x := by
         rcases (gT hap ho hoj wQ).1 with h | h
         ·omega
         ·exact h
        rw [gF hp this]; exact g3
     ·intro x hx
      have : o.dst ≠ some x := fun h => hx i (by omega) (by unfold bG; rw [ho]; exact h)
      rw [gF hp this]
      exact I.out x fun j hj => hx j (by omega)
    have hs1 : s1 = { s with tm := s1.tm } := by
     obtain ⟨a, b, c⟩ := s1
     simp only at hh hdf
     subst hh; subst hdf; rfl
    simp only at e
    rw [hs1] at e
    obtain ⟨ls', cur', k1, k2, k3⟩ := zW hP hto hsf zT hap ht hcalm m (i + 1) _ _ (by omega) I' e
    refine ⟨ls', cur', ?_, k2, k3⟩
    rw [List.range'_succ]
    unfold jH
    rw [hquiet]
    exact k1
   | _ => simp at e
  | _ => simp at e
theorem IU {t : Nat} (zT : lV ops = true) (hap : oV ops (masks ops.toList []) = true) (hls : ls.length = t) (hops : ∀ j, j < ops.size → ∃ o, ops[j]? = some o) (htn : t ≤ ops.size)
  (hnt : ∀ j, j < t → ∀ x, bG ops j = some x → x < nt) {s' : S} :
  ∀ (m k : Nat) (rest : List Nat) (df : List Deferred) (h hT : Hp) (cur Q5 : T Value), k + m = ops.size → t ≤ k → (∀ j ∈ rest, j < t) →
   (m = 0 → hT = h) → (m ≠ 0 → fV ls (rest.filter (waits (masks ops.toList []) k)) hT.aC = some h.aC ∧ hT.next = h.next ∧ hT.ro = h.ro) → (∀ j ∈ rest, (m = 0 ∨ waits (masks ops.toList []) k j = false) → ∃ l, ls[j]? = some l ∧ l.own = []) →
   (∀ x, (∀ j ∈ rest, bG ops j ≠ some x) → Q5.get x = cur.get x) → (∀ j ∈ rest, ∀ x, bG ops j = some x → ∃ l, ls[j]? = some l ∧ cur.get x = some l.v) →
   opsV C self rd nt ops (ops.toList.drop k) { tm := cur, df, h } = some (.code .normal s') →
   ∃ tm, tailV C self rd nt ops (masks ops.toList []) ls rest (List.range' k m) { tm := Q5, df, h := hT } = some (.code .normal { s' with tm }) ∧ ∀ x, tm.get x = s'.tm.get x
 | 0, k, rest, df, h, hT, cur, Q5, hkm, htk, hrest, hT0, hT1, hown, ha, hb, e => by
  obtain rfl := hT0 rfl
  have hk : k = ops.size := by omega
  subst hk
  rw [List.drop_of_length_le (by simp)] at e
  cases e
  obtain ⟨tm, h1⟩ := kU (ls := ls) (nt := nt) (ops := ops) (fun j hj => hops j (by omega)) (fun j hj x hx => hnt j (by omega) x hx) rest Q5 (fun j hj => by rw [hls]; exact hrest j hj)
  refine ⟨tm, ?_, fun x => ?_⟩
  ·show tailV C self rd nt ops _ ls rest [] _ = _
   unfold tailV
   rw [h1]
   simp only [Option.bind_some]
   rw [pV rest hT.aC (fun j hj => hown j hj (.inl rfl))]
   rfl
  ·by_cases hex : ∃ j, j ∈ rest ∧ bG ops j = some x
   ·obtain ⟨j, hj, hd⟩ := hex
    obtain ⟨l, hl, tY⟩ := hb j hj x hd
    obtain ⟨oj, hoj⟩ := hops j (by have := hrest j hj; omega)
    have wQ : oj.dst = some x := by unfold bG at hd; rw [hoj] at hd; exact hd
    have rH : ∀ k ∈ rest, bG ops k = some x → k = j := by
     intro k hk hkd
     obtain ⟨ok, hok⟩ := hops k (by have := hrest k hk; omega)
     have hkx : ok.dst = some x := by unfold bG at hkd; rw [hok] at hkd; exact hkd
     rcases (gT hap hok hoj wQ).1 with h | h
     ·exact h
     ·exact absurd hkx h
    obtain ⟨l', hl', hg, _⟩ := mU _ h1 j hj hd rH
    rw [hl] at hl'; cases hl'
    rw [hg]; exact tY.symm
   ·have hno : ∀ j ∈ rest, bG ops j ≠ some x := fun j hj h => hex ⟨j, hj, h⟩
    rw [jK _ h1 x hno]; exact ha x hno
 | m + 1, k, rest, df, h, hT, cur, Q5, hkm, htk, hrest, hT0, hT1, hown, ha, hb, e => by
  obtain ⟨iG, hnx, hro⟩ := hT1 (by omega)
  have hlt : k < ops.size := by omega
  obtain ⟨o, ho⟩ := hops k hlt
  have hdrop : ops.toList.drop k = o :: ops.toList.drop (k + 1) := by
   rw [List.drop_eq_getElem_cons (by simpa using hlt)]
   congr 1
   exact (Array.getElem?_eq_some_iff.1 ho).2
  rw [hdrop] at e
  unfold opsV at e
  replace e := aA e; obtain ⟨r, hr, e⟩ := e
  cases r with
  | code ex s1 =>
   cases ex with
   | normal =>
    simp only at e
    have Z8 : ∀ j ∈ rest.filter (waits (masks ops.toList []) k), j < ls.length := fun j hj => by rw [hls]; exact hrest j (List.mem_filter.1 hj).1
    obtain ⟨WO, h1⟩ := kU (ls := ls) (nt := nt) (ops := ops) (fun j hj => hops j (by omega)) (fun j hj x hx => hnt j (by omega) x hx) _ Q5 Z8
    have qH : ∀ {j : Nat} {oj : Oper} {x : Nat}, ops[j]? = some oj → bG ops j = some x → oj.dst = some x := fun hoj hd => by unfold bG at hd; rw [hoj] at hd; exact hd
    have agree : ∀ x, (∀ j ∈ rest.filter (fun j => !(waits (masks ops.toList []) k j)), bG ops j ≠ some x) → WO.get x = cur.get x := by
     intro x hx
     by_cases hex : ∃ j, j ∈ rest ∧ bG ops j = some x
     ·obtain ⟨j, hj, hd⟩ := hex
      obtain ⟨l, hl, tY⟩ := hb j hj x hd
      have hw : waits (masks ops.toList []) k j = true := by
       cases hww : waits (masks ops.toList []) k j with
       | true => rfl
       | false => exact absurd hd (hx j (List.mem_filter.2 ⟨hj, by rw [hww]; rfl⟩))
      obtain ⟨oj, hoj⟩ := hops j (by have := hrest j hj; omega)
      have rH : ∀ i ∈ rest.filter (waits (masks ops.toList []) k), bG ops i = some x → i = j := by
       intro i hi hid
       obtain ⟨oi, hoi⟩ := hops i (by have := hrest i (List.mem_filter.1 hi).1; omega)
       rcases (gT hap hoi hoj (qH hoj hd)).1 with h | h
       ·exact h
       ·exact absurd (qH hoi hid) h
      obtain ⟨l', hl', hg, _⟩ := mU _ h1 j (List.mem_filter.2 ⟨hj, hw⟩) hd rH
      rw [hl] at hl'; cases hl'
      rw [hg]; exact tY.symm
     ·have hno : ∀ j ∈ rest, bG ops j ≠ some x := fun j hj h => hex ⟨j, hj, h⟩
      rw [jK _ h1 x (fun j hj => hno j (List.mem_filter.1 hj).1)]; exact ha x hno
    obtain ⟨v, hp, hrun⟩ := ET hr
    have hreads : ∀ x ∈ readsOf ops o, WO.get x = cur.get x := by
     intro x hx
     apply agree
     intro j hj hd
     obtain ⟨hj1, hj2⟩ := List.mem_filter.1 hj
     obtain ⟨oj, hoj⟩ := hops j (by have := hrest j hj1; omega)
     rcases (gT hap ho hoj (qH hoj hd)).2 with h | h | h
     ·rw [h] at hj2; cases hj2
     ·have := kL zT h; have := hrest j hj1; omega
     ·exact h hx
    obtain ⟨MV, hp3⟩ : ∃ MV, gY nt WO o.dst v = some MV := yC fun x hx => by
     have hp' := hp
     rw [hx] at hp'
     exact (jD hp').2
    have hrun' := hrun WO hreads MV hp3
    have hs1 : s1 = { tm := s1.tm, df := s1.df, h := s1.h } := rfl
    have WU : ∀ j ∈ rest.filter (fun j => !(waits (masks ops.toList []) k j)), ∃ l, ls[j]? = some l ∧ l.own = [] := by
     intro j hj
     obtain ⟨hj1, hj2⟩ := List.mem_filter.1 hj
     exact hown j hj1 (.inr (by simpa using hj2))
    obtain ⟨tm, k1, k2⟩ := IU zT hap hls hops htn hnt m (k + 1) (rest.filter (fun j => !(waits (masks ops.toList []) k j))) s1.df s1.h s1.h s1.tm MV (by omega) (by omega)
     (fun j hj => hrest j (List.mem_filter.1 hj).1) (fun _ => rfl) (fun _ => ⟨pV _ _ (fun j hj => WU j (List.mem_filter.1 hj).1), rfl, rfl⟩) (fun j hj _ => WU j hj)
     (by
      intro x hx
      by_cases hd : o.dst = some x
      ·rw [hd] at hp hp3
       rw [(jD hp).1, (jD hp3).1]
      ·rw [gF hp hd, gF hp3 hd]; exact agree x hx)
     (by
      intro j hj x hd
      obtain ⟨hj1, _⟩ := List.mem_filter.1 hj
      obtain ⟨l, hl, tY⟩ := hb j hj1 x hd
      obtain ⟨oj, hoj⟩ := hops j (by have := hrest j hj1; omega)
      have : o.dst ≠ some x := by
       rcases (gT hap ho hoj (qH hoj hd)).1 with h | h
       ·have := hrest j hj1; omega
       ·exact h
      exact ⟨l, hl, by rw [gF hp this]; exact tY⟩)
     e
    refine ⟨tm, ?_, k2⟩
    rw [List.range'_succ]
    unfold tailV
    rw [ho]
    simp only [Option.bind_some, h1]
    rw [iG]
    simp only [Option.bind_some]
    rw [show ({ tm := WO, df := df, h := { next := hT.next, ro := hT.ro, aC := h.aC } } : S) = { tm := WO, df := df, h := h } from by rw [hnx, hro]]
    rw [hrun']
    exact k1
   | _ => simp at e
  | _ => simp at e
theorem WV {C' : dO} {sf : Self} (hP : C'.P = C.P) (hto : zV C' C) (hsf : ∀ j, sf j = none) {s1 s' : S} (hc : aG2 ops = true) (e1 : opsV C' sf rd nt ops (ops.toList.take (fU ops)) s = some (.code .normal s1))
  (e : opsV C self rd nt ops (ops.toList.drop (fU ops)) s1 = some (.code .normal s')) : ∃ tm, pW C self rd nt ops s = some (.code .normal { s' with tm }) ∧ ∀ x, tm.get x = s'.tm.get x := by
 unfold aG2 at hc
 unfold fU at e e1
 simp only [Bool.and_eq_true, List.all_eq_true] at hc
 obtain ⟨⟨zT, hap⟩, hcalm⟩ := hc
 have htn := rJ (ops := ops) (ms := masks ops.toList []) ops.size
 have Z9 : ∀ i, i < fD ops (masks ops.toList []) ops.size → ∃ o, ops[i]? = some o ∧ (qV o || qG o) = true := by
  intro i hi
  have := hcalm i (by simpa using hi)
  cases ho : ops[i]? with
  | none => rw [ho] at this; cases this
  | some o => rw [ho] at this; exact ⟨o, rfl, this⟩
 have hops : ∀ j, j < ops.size → ∃ o, ops[j]? = some o := fun j hj => ⟨ops[j], Array.getElem?_eq_getElem hj⟩
 have I0 : aEY nt ops s 0 [] s.tm := ⟨rfl, (fun l hl => (by cases hl)), fun j hj => by omega, fun x _ => rfl⟩
 obtain ⟨ls, cur, h1, I, rfl⟩ := zW (C := C) (self := self) (rd := rd) hP hto hsf zT hap htn Z9 (fD ops (masks ops.toList []) ops.size) 0 [] s.tm (by omega) I0 (by simpa using e1)
 have own : ∀ j, j < fD ops (masks ops.toList []) ops.size → ∃ l, ls[j]? = some l ∧ l.own = [] := fun j hj => ⟨ls[j]'(by rw [I.len]; exact hj), List.getElem?_eq_getElem (by rw [I.len]; exact hj), I.own _ (List.getElem_mem _)⟩
 obtain ⟨tm, h3, h4⟩ := IU (ls := ls) (C := C) (self := self) (rd := rd) (nt := nt) zT hap I.len hops htn (fun j hj x hx => (I.WN j hj x hx).1)
  (ops.size - fD ops (masks ops.toList []) ops.size) (fD ops (masks ops.toList []) ops.size) (List.range (fD ops (masks ops.toList []) ops.size)) s.df s.h s.h cur s.tm (by omega) (Nat.le_refl _) (fun j hj => by simpa using hj)
  (fun _ => rfl) (fun _ => ⟨pV _ _ (fun j hj => own j (by simpa using (List.mem_filter.1 hj).1)), rfl, rfl⟩) (fun j hj _ => own j (by simpa using hj))
  (fun x hx => (I.out x fun j hj => hx j (by simpa using hj)).symm) (fun j hj x hx => (I.WN j (by simpa using hj) x hx).2) e
 refine ⟨tm, ?_, h4⟩
 unfold pW
 simp only [zT, hap, Bool.and_self, WS]
 rw [show List.range (fD ops (masks ops.toList []) ops.size) = List.range' 0 (fD ops (masks ops.toList []) ops.size) from List.range_eq_range' ..] at h3 ⊢
 rw [h1]
 exact h3
theorem zX : ∀ (l l2 : List Oper) {s s' : S}, opsV C self rd nt ops (l ++ l2) s = some (.code .normal s') → ∃ s1, opsV C self rd nt ops l s = some (.code .normal s1) ∧ opsV C self rd nt ops l2 s1 = some (.code .normal s')
 | [], l2, s, s', e => ⟨s, rfl, e⟩
 | o :: l, l2, s, s', e => by
  rw [List.cons_append] at e
  unfold opsV at e
  replace e := aA e; obtain ⟨r, hr, e⟩ := e
  split at e
  ·rename_i s1
   obtain ⟨s2, h1, h2⟩ := zX l l2 e
   exact ⟨s2, by unfold opsV; rw [hr]; exact h1, h2⟩
  ·rename_i ex _ hne; cases e; exact (hne rfl).elim
  ·cases e
theorem zY {ms : List Nat} : ∀ (l1 l2 : List Nat) (ls : List Left) (n : Nat), jH C self nt ops ms s (l1 ++ l2) ls n = (jH C self nt ops ms s l1 ls n).bind fun r => jH C self nt ops ms s l2 r.1 r.2
 | [], _, _, _ => rfl
 | i :: l1, l2, ls, n => by
  rw [List.cons_append]
  simp only [jH]
  cases hq : j6 C self nt ops ms s ls n i with
  | none => rfl
  | some r => simp only [Option.bind_some]; exact zY l1 l2 _ _
theorem D6 : ∀ (l1 l2 : List Nat) (t : T dG), fV ls (l1 ++ l2) t = (fV ls l1 t).bind (fV ls l2)
 | [], _, _ => rfl
 | j :: l1, l2, t => by
  rw [List.cons_append]
  unfold fV
  cases ls[j]? with
  | none => rfl
  | some l => simp only [Option.bind_some]; exact D6 l1 l2 _
theorem LM {P : Env} {h h1 : Hp} {t : TypeId} {len : Nat} {parts : Array (Nat × Value)} {v : Value} (e : bA P h t len parts = some (v, h1)) :
  ∃ obj, v = .slice (some ⟨h.next, 0, none⟩) len len ∧ h1 = h.add obj ∧ ∀ H : Hp, H.next = h.next → bA P H t len parts = some (v, H.add obj) := by
 unfold bA at e
 replace e := aA e; obtain ⟨d, hd, e⟩ := e
 split at e
 ·rename_i elem
  replace e := aA e; obtain ⟨n, hn, e⟩ := e
  replace e := aO e; obtain ⟨hb, e⟩ := e
  replace e := aA e; obtain ⟨z0, hz, e⟩ := e
  replace e := aA e; obtain ⟨cs, hcs, e⟩ := e
  cases e
  refine ⟨_, rfl, rfl, fun H hH => ?_⟩
  unfold bA
  simp only [hd, Option.bind_some, hn, hb, WS, hz]
  rw [hcs, hH]
  rfl
 ·cases e
theorem aEZ {i : Nat} {o : Oper} {cur : T Value} (zT : lV ops = true) (hap : oV ops (masks ops.toList []) = true) (ho : ops[i]? = some o) (hops : ∀ j, j < i → ∃ o, ops[j]? = some o) (I : aEY nt ops s i ls cur) :
  ∃ LK, sM nt ops ls (waitsFor (masks ops.toList []) i) s.tm = some LK ∧ ∀ x ∈ readsOf ops o, LK.get x = cur.get x := by
 have hw : ∀ j ∈ waitsFor (masks ops.toList []) i, j < ls.length := fun j hj => by have := gM hj; have := I.len; omega
 obtain ⟨LK, hq⟩ := kU (nt := nt) (ls := ls) (ops := ops) (fun j hj => hops j (by have := I.len; omega)) (fun j hj x hx => (I.WN j (by have := I.len; omega) x hx).1) _ s.tm hw
 refine ⟨LK, hq, ?_⟩
 intro x hx
 by_cases hex : ∃ j, j < i ∧ bG ops j = some x
 ·obtain ⟨j, hj, hd⟩ := hex
  obtain ⟨_, l, hl, tY⟩ := I.WN j hj x hd
  obtain ⟨oj, hoj⟩ := hops j hj
  have wQ : oj.dst = some x := by unfold bG at hd; rw [hoj] at hd; exact hd
  have hwt : waits (masks ops.toList []) i j = true := by
   rcases (gT hap ho hoj wQ).2 with h | h | h
   ·exact h
   ·have := kL zT h; omega
   ·exact absurd hx h
  have hmem : j ∈ waitsFor (masks ops.toList []) i := by unfold waitsFor; rw [List.mem_filter]; exact ⟨by simpa using hj, hwt⟩
  have rH : ∀ k ∈ waitsFor (masks ops.toList []) i, bG ops k = some x → k = j := by
   intro k hk hkd
   have hki := gM hk
   obtain ⟨ok, hok⟩ := hops k hki
   have hkx : ok.dst = some x := by unfold bG at hkd; rw [hok] at hkd; exact hkd
   rcases (gT hap hok hoj wQ).1 with h | h
   ·exact h
   ·exact absurd hkx h
  obtain ⟨l', hl', hg, _⟩ := mU _ hq j hmem hd rH
  rw [hl] at hl'; cases hl'
  rw [hg, tY]
 ·have hno : ∀ j, j < i → bG ops j ≠ some x := fun j hj h => hex ⟨j, hj, h⟩
  rw [jK _ hq x (fun j hj => hno j (gM hj)), I.out x hno]
theorem aE0 {C' : dO} {sf : Self} (hP : C'.P = C.P) (hto : zV C' C) (hsf : ∀ j, sf j = none) {s1 s' : S} (hc : aG3 ops = true) (e1 : opsV C' sf rd nt ops (ops.toList.take (fU ops)) s = some (.code .normal s1))
  (e : opsV C self rd nt ops (ops.toList.drop (fU ops)) s1 = some (.code .normal s')) : ∃ tm, pW C self rd nt ops s = some (.code .normal { s' with tm }) ∧ ∀ x, tm.get x = s'.tm.get x := by
 unfold aG3 at hc
 unfold fU at e e1
 cases hu : fD ops (masks ops.toList []) ops.size with
 | zero => simp only [hu] at hc; cases hc
 | succ u =>
 rw [hu] at e e1
 simp only [hu, Bool.and_eq_true, List.all_eq_true] at hc
 obtain ⟨⟨⟨⟨⟨zT, hap⟩, hcalm⟩, QG⟩, aQ9⟩, hlt⟩ := hc
 have hlt : u + 1 < ops.size := by rw [Nat.blt_eq] at hlt; exact hlt
 have Z9 : ∀ i, i < u → ∃ o, ops[i]? = some o ∧ (qV o || qG o) = true := by
  intro i hi
  have := hcalm i (by simpa using hi)
  cases ho : ops[i]? with
  | none => rw [ho] at this; cases this
  | some o => rw [ho] at this; exact ⟨o, rfl, this⟩
 have hops : ∀ j, j < ops.size → ∃ o, ops[j]? = some o := fun j hj => ⟨ops[j], Array.getElem?_eq_getElem hj⟩
 obtain ⟨o, ho⟩ := hops u (by omega)
 rw [ho] at QG
 simp only at QG
 have htake : ops.toList.take (u + 1) = ops.toList.take u ++ [o] := by
  rw [List.take_add_one]
  have : ops.toList[u]? = some o := by rw [Array.getElem?_toList]; exact ho
  rw [this]; rfl
 rw [htake] at e1
 obtain ⟨s0, h0, h1⟩ := zX _ _ e1
 have I0 : aEY nt ops s 0 [] s.tm := ⟨rfl, (fun l hl => (by cases hl)), fun j hj => by omega, fun x _ => rfl⟩
 obtain ⟨ls, cur, hq, I, rfl⟩ := zW (C := C) (self := self) (rd := rd) (t := u) hP hto hsf zT hap (by omega) Z9 u 0 [] s.tm (by omega) I0 (by simpa using h0)
 obtain ⟨LK, hq1, hreads⟩ := aEZ zT hap ho (fun j hj => hops j (by omega)) I
 unfold opsV at h1
 replace h1 := aA h1; obtain ⟨r, hr, h1⟩ := h1
 have hguard : o.guard = none := by
  unfold aG1 at QG
  cases hg : o.guard with
  | none => rfl
  | some g => rw [hg] at QG; cases QG
 have hop : ∃ t len parts, o.op = .buildSlice t len parts := by
  unfold aG1 at QG
  rw [hguard] at QG
  simp only at QG
  split at QG
  ·rename_i t len parts heq; exact ⟨t, len, parts, heq⟩
  ·cases QG
 obtain ⟨t, len, parts, hop⟩ := hop
 have hin : kI o = true := by simp [kI, hop]
 have hwant : ∀ tm : T Value, cB ops tm o = true := fun tm => by simp only [cB, hguard]
 unfold jJ at hr
 rw [show cB ops ({ s with tm := cur } : S).tm o = true from hwant _, hP] at hr
 simp only at hr
 replace hr := aA hr; obtain ⟨rr, hrr, hr⟩ := hr
 simp only [iT, hop, nO] at hrr
 replace hrr := aA hrr; obtain ⟨ps, hps, hrr⟩ := hrr
 unfold nD at hrr
 replace hrr := aA hrr; obtain ⟨⟨v, h2⟩, hbs, hrr⟩ := hrr
 cases hrr
 obtain ⟨obj, rfl, rfl, hany⟩ := LM hbs
 simp only at hr
 replace hr := aA hr; obtain ⟨vD, hput, hr⟩ := hr
 cases hr
 simp only at h1
 cases h1
 have a9E : nM (jC LK) parts.toList = some ps := by
  rw [← hps]
  refine qZ fun x hx => ?_
  have := tX hreads x (by rw [hop]; simp only [Op.operands]; simpa using hx)
  exact this
 have hquiet : j6 C self nt ops (masks ops.toList []) s ls s.h.next u = some ({ v := .slice (some ⟨s.h.next, 0, none⟩) len len, own := [(s.h.next, obj)] }, s.h.next + 1) := by
  unfold j6
  rw [ho]
  simp only [Option.bind_some, hq1]
  rw [hwant]
  simp only [hop, hin]
  simp only [iT, hop, nO, a9E, Option.bind_some, nD]
  rw [hany { next := s.h.next, ro := s.h.next, aC := T.nil } rfl]
  simp only [Option.bind_some]
  have hpl : plain (.slice (some ⟨s.h.next, 0, none⟩) len len) = false := rfl
  rw [hpl]
  simp only [Hp.add]
  rw [show Nat.ble s.h.next (s.h.next + 1) = true from by rw [Nat.ble_eq]; omega, show s.h.next + 1 - s.h.next = 1 by omega]
  simp only [WS, fQ, Hp.get, T.get_put, if_true]
 have hall : jH C self nt ops (masks ops.toList []) s (List.range (u + 1)) [] s.h.next = some (ls ++ [{ v := .slice (some ⟨s.h.next, 0, none⟩) len len, own := [(s.h.next, obj)] }], s.h.next + 1) := by
  rw [List.range_succ, zY, List.range_eq_range', hq]
  simp only [Option.bind_some]
  unfold jH
  rw [hquiet]
  rfl
 have hlen : (ls ++ [({ v := .slice (some ⟨s.h.next, 0, none⟩) len len, own := [(s.h.next, obj)] } : Left)]).length = u + 1 := by simp [I.len]
 have hlow : ∀ j, j < u → ∃ l, (ls ++ [({ v := .slice (some ⟨s.h.next, 0, none⟩) len len, own := [(s.h.next, obj)] } : Left)])[j]? = some l ∧ l.own = [] := fun j hj =>
  ⟨ls[j]'(by rw [I.len]; exact hj), by rw [List.getElem?_append_left (by rw [I.len]; exact hj), List.getElem?_eq_getElem], I.own _ (List.getElem_mem _)⟩
 have htop : (ls ++ [({ v := .slice (some ⟨s.h.next, 0, none⟩) len len, own := [(s.h.next, obj)] } : Left)])[u]? = some { v := .slice (some ⟨s.h.next, 0, none⟩) len len, own := [(s.h.next, obj)] } := by
  rw [List.getElem?_append_right (by rw [I.len]; exact Nat.le_refl _), I.len, Nat.sub_self]; rfl
 have wQ : ∀ {j : Nat} {oj : Oper} {x : Nat}, ops[j]? = some oj → bG ops j = some x → oj.dst = some x := fun hoj hd => by unfold bG at hd; rw [hoj] at hd; exact hd
 obtain ⟨tm, h3, h4⟩ := IU (ls := ls ++ [{ v := .slice (some ⟨s.h.next, 0, none⟩) len len, own := [(s.h.next, obj)] }]) (t := u + 1) (C := C) (self := self) (rd := rd) (nt := nt) zT hap hlen hops (by omega)
  (by
   intro j hj x hx
   by_cases hju : j = u
   ·subst hju
    have := wQ ho hx
    rw [this] at hput
    exact (jD hput).2
   ·exact (I.WN j (by omega) x hx).1)
  (ops.size - (u + 1)) (u + 1) (List.range (u + 1)) s.df (s.h.add obj) { s.h with next := s.h.next + 1 } vD s.tm (by omega) (Nat.le_refl _) (fun j hj => by simpa using hj)
  (fun hm => by omega)
  (fun _ => ⟨by
   rw [List.range_succ, List.filter_append, D6, pV _ _ (fun j hj => hlow j (by simpa using (List.mem_filter.1 hj).1))]
   simp only [Option.bind_some]
   rw [List.filter_cons_of_pos (by simpa using aQ9)]
   simp only [List.filter_nil]
   unfold fV
   rw [htop]
   simp only [Option.bind_some]
   rfl, rfl, rfl⟩)
  (by
   intro j hj hm
   have hju : j ≠ u := by
    rintro rfl
    rcases hm with hm | hm
    ·omega
    ·rw [aQ9] at hm; cases hm
   have : j < u + 1 := by simpa using hj
   exact hlow j (by omega))
  (by
   intro x hx
   have hox : o.dst ≠ some x := fun h => hx u (by simp) (by unfold bG; rw [ho]; exact h)
   rw [gF hput hox]
   exact (I.out x fun j hj => hx j (by simp; omega)).symm)
  (by
   intro j hj x hx
   by_cases hju : j = u
   ·subst hju
    have := wQ ho hx
    rw [this] at hput
    exact ⟨_, htop, (jD hput).1⟩
   ·have hj' : j < u := by have : j < u + 1 := (by simpa using hj); omega
    obtain ⟨_, l, g2, g3⟩ := I.WN j hj' x hx
    refine ⟨l, by rw [List.getElem?_append_left (by rw [I.len]; exact hj')]; exact g2, ?_⟩
    obtain ⟨oj, hoj⟩ := hops j (by omega)
    have hox : o.dst ≠ some x := by
     rcases (gT hap ho hoj (wQ hoj hx)).1 with h | h
     ·omega
     ·exact h
    rw [gF hput hox]; exact g3)
  e
 refine ⟨tm, ?_, h4⟩
 unfold pW
 simp only [zT, hap, Bool.and_self, WS, hu]
 rw [hall]
 exact h3
theorem MW {C' : dO} {sf : Self} (hP : C'.P = C.P) (hto : zV C' C) (hsf : ∀ j, sf j = none) {s1 s' : S} (hc : Q4 ops = true) (e1 : opsV C' sf rd nt ops (ops.toList.take (fU ops)) s = some (.code .normal s1))
  (e : opsV C self rd nt ops (ops.toList.drop (fU ops)) s1 = some (.code .normal s')) : ∃ tm, pW C self rd nt ops s = some (.code .normal { s' with tm }) ∧ ∀ x, tm.get x = s'.tm.get x := by
 unfold Q4 at hc
 rw [Bool.or_eq_true] at hc
 rcases hc with hc | hc
 ·exact WV hP hto hsf hc e1 e
 ·exact aE0 hP hto hsf hc e1 e
end
end
end Go.bK
/-
  The same machine over whatever state.
-/
namespace Go.bK.G
open Go.bK
noncomputable section
inductive eT (Kp : Type) where
 | nil
 | node (cut : Option (Nat × Kp)) (a b : eT Kp)
def eT.cut {Kp : Type} : eT Kp → Option (Nat × Kp) | .nil => none | .node c _ _ => c
def eT.l {Kp : Type} : eT Kp → eT Kp | .nil => .nil | .node _ a _ => a
def eT.r {Kp : Type} : eT Kp → eT Kp | .nil => .nil | .node _ _ b => b
inductive Frame (Kp : Type) where
 | seq (b : Code) (A : eT Kp)
 | block (id : Nat)
 | loop (b : Code) (A : eT Kp)
structure wR (Kp : Type) where
 l : Nat
 keep : Kp
 code : Code
 DV : eT Kp
 fs : List (Frame Kp)
section
variable {St Q AL Kp : Type} (pack : Kp → St → (AL → Option Q) → Option Q) (σ : Nat → AL → Option Q)
def jump (l : Nat) (keep : Kp) : St → Option Q := fun x => pack keep x fun al => σ l al
def o8 : Option (Nat × Kp) → St → Option Q
 | some (l, keep) => jump pack σ l keep
 | none => fun _ => none
end
section
variable {St Q AL Kp : Type} (pack : Kp → St → (AL → Option Q) → Option Q) (ev : St → Operand → Option Value) (σ : Nat → AL → Option Q) (qQ : List Oper → Array Oper → Bool → (St → Option Q) → (St → Option Q)) (fin : (St → Option Q))
def kC   : Code → eT Kp → (St → Option Q) → (Nat → (St → Option Q)) → (St → Option Q)
 | .skip, _, kn, _ => kn
 | .label _, _, kn, _ => kn
 | .region _ ops d, _, kn, _ => qQ ops.toList ops d kn
 | .seq a b, A, kn, ke =>
  let kb := match A.r.cut with | some (l, keep) => jump pack σ l keep | none => kC b A.r kn ke
  match A.l.cut with | some (l, keep) => jump pack σ l keep | none => kC a A.l kb ke
 | .cond c x y, A, kn, ke => fun st =>
  match ev st c with
  | some v => onB v ((match A.l.cut with | some (l, keep) => jump pack σ l keep | none => kC x A.l kn ke) st)
    ((match A.r.cut with | some (l, keep) => jump pack σ l keep | none => kC y A.r kn ke) st)
  | none => none
 | .block id b, A, kn, ke => match A.l.cut with | some (l, keep) => jump pack σ l keep | none => kC b A.l kn (fun i => match Nat.beq i id with | true => kn | false => ke i)
 | .loop b, A, _, ke => match A.l.cut with | some (l, keep) => jump pack σ l keep | none => kC b A.l (o8 pack σ A.cut) ke
 | .scope b, A, kn, ke => match A.l.cut with | some (l, keep) => jump pack σ l keep | none => kC b A.l kn ke
 | .exit id, _, _, ke => ke id
 | .ret, _, _, _ => fin
 | _, _, _, _ => fun _ => none
def wE : List (Frame Kp) → (St → Option Q)
 | [] => fin
 | .seq _ A :: _ => o8 pack σ A.cut
 | .block _ :: fs => wE fs
 | .loop _ A :: _ => o8 pack σ A.cut
def xC : List (Frame Kp) → Nat → (St → Option Q)
 | [], _ => fun _ => none
 | .block id :: fs, i => match Nat.beq i id with | true => wE pack σ fin fs | false => xC fs i
 | .seq _ _ :: fs, i => xC fs i
 | .loop _ _ :: fs, i => xC fs i
end
def collect {Kp : Type} : Code → eT Kp → List (Frame Kp) → List (wR Kp)
 | c, A, fs =>
  (match A.cut with | some (l, keep) => [{ l, keep, code := c, DV := A, fs }] | none => []) ++
  match c with
  | .seq a b => collect a A.l (.seq b A.r :: fs) ++ collect b A.r fs
  | .cond _ x y => collect x A.l fs ++ collect y A.r fs
  | .block id b => collect b A.l (.block id :: fs)
  | .loop b => collect b A.l (.loop b A :: fs)
  | .scope b => collect b A.l fs
  | _ => []
def entry {Kp : Type} (l : Nat) : List (wR Kp) → Option (wR Kp)
 | [] => none
 | e :: es => cond (Nat.beq e.l l) (some e) (entry l es)
def distinct : List Nat → Bool
 | [] => true
 | l :: ls => ls.all (fun m => !Nat.beq m l) && distinct ls
section
variable {St Q AL Kp : Type} (unpack : Kp → AL → Option St) (Rel : St → S → Prop) (C : dO) (rd : Option Nat) (nt : Nat) (Fin : S → Q → Prop)
def oP : List (Frame Kp) → Ex → S → Q → Prop
 | [], .normal, s, q => Fin s q
 | [], .ret, s, q => Fin s q
 | [], _, _, _ => False
 | .seq b _ :: fs, .normal, s, q => ∃ e s', eF C (.code b rd nt s) (.code e s') ∧ oP fs e s' q
 | .seq _ _ :: fs, e, s, q => oP fs e s q
 | .block id :: fs, .exit i, s, q => match Nat.beq i id with | true => oP fs .normal s q | false => oP fs (.exit i) s q
 | .block _ :: fs, e, s, q => oP fs e s q
 | .loop b _ :: fs, .normal, s, q => ∃ e s', eF C (.code (.loop b) rd nt s) (.code e s') ∧ oP fs e s' q
 | .loop _ _ :: fs, e, s, q => oP fs e s q
def M (c : Code) (fs : List (Frame Kp)) (x : St) (q : Q) : Prop :=
 ∀ s, Rel x s → ∃ e s', eF C (.code c rd nt s) (.code e s') ∧ oP C rd nt Fin fs e s' q
def KN (kn : (St → Option Q)) (fs : List (Frame Kp)) : Prop := ∀ x q, kn x = some q → ∀ s, Rel x s → oP C rd nt Fin fs .normal s q
def KE (ke : Nat → (St → Option Q)) (fs : List (Frame Kp)) : Prop := ∀ i x q, ke i x = some q → ∀ s, Rel x s → oP C rd nt Fin fs (.exit i) s q
def SL (σ : Nat → AL → Option Q) (l : Nat) (keep : Kp) (c : Code) (fs : List (Frame Kp)) : Prop := ∀ al x q, σ l al = some q → unpack keep al = some x → M Rel C rd nt Fin c fs x q
def GJ (qQ : List Oper → Array Oper → Bool → (St → Option Q) → (St → Option Q)) : Prop :=
 ∀ id ops d kn x q, qQ ops.toList ops d kn x = some q → ∀ s, Rel x s → ∃ s' x', eF C (.code (.region id ops d) rd nt s) (.code .normal s') ∧ Rel x' s' ∧ kn x' = some q
variable {unpack Rel C rd nt Fin}
variable {pack : Kp → St → (AL → Option Q) → Option Q} {ev : St → Operand → Option Value}
def JB (pack : Kp → St → (AL → Option Q) → Option Q) (unpack : Kp → AL → Option St) (Rel : St → S → Prop) : Prop := ∀ keep x k q, pack keep x k = some q → ∀ s, Rel x s → ∃ al x', unpack keep al = some x' ∧ Rel x' s ∧ k al = some q
def aTE (ev : St → Operand → Option Value) (Rel : St → S → Prop) : Prop := ∀ x o v, ev x o = some v → ∀ s, Rel x s → jC s.tm o = some v
variable {σ : Nat → AL → Option Q} {qQ : List Oper → Array Oper → Bool → (St → Option Q) → (St → Option Q)} {fin : (St → Option Q)}
def eP (unpack : Kp → AL → Option St) (Rel : St → S → Prop) (C : dO) (rd : Option Nat) (nt : Nat) (Fin : S → Q → Prop) (σ : Nat → AL → Option Q) : Code → eT Kp → List (Frame Kp) → Prop
 | .seq a b, A, fs =>
  (match A.l.cut with | some (l, keep) => SL unpack Rel C rd nt Fin σ l keep a (.seq b A.r :: fs) | none => eP unpack Rel C rd nt Fin σ a A.l (.seq b A.r :: fs)) ∧
  (match A.r.cut with | some (l, keep) => SL unpack Rel C rd nt Fin σ l keep b fs | none => eP unpack Rel C rd nt Fin σ b A.r fs)
 | .cond _ x y, A, fs =>
  (match A.l.cut with | some (l, keep) => SL unpack Rel C rd nt Fin σ l keep x fs | none => eP unpack Rel C rd nt Fin σ x A.l fs) ∧
  (match A.r.cut with | some (l, keep) => SL unpack Rel C rd nt Fin σ l keep y fs | none => eP unpack Rel C rd nt Fin σ y A.r fs)
 | .block id b, A, fs => match A.l.cut with | some (l, keep) => SL unpack Rel C rd nt Fin σ l keep b (.block id :: fs) | none => eP unpack Rel C rd nt Fin σ b A.l (.block id :: fs)
 | .loop b, A, fs =>
  (match A.cut with | some (l, keep) => SL unpack Rel C rd nt Fin σ l keep (.loop b) fs | none => True) ∧
  (match A.l.cut with | some (l, keep) => SL unpack Rel C rd nt Fin σ l keep b (.loop b A :: fs) | none => eP unpack Rel C rd nt Fin σ b A.l (.loop b A :: fs))
 | .scope b, A, fs => match A.l.cut with | some (l, keep) => SL unpack Rel C rd nt Fin σ l keep b fs | none => eP unpack Rel C rd nt Fin σ b A.l fs
 | _, _, _ => True
def FC (unpack : Kp → AL → Option St) (Rel : St → S → Prop) (C : dO) (rd : Option Nat) (nt : Nat) (Fin : S → Q → Prop) (σ : Nat → AL → Option Q) : List (Frame Kp) → Prop
 | [] => True
 | .seq b A :: fs => (match A.cut with | some (l, keep) => SL unpack Rel C rd nt Fin σ l keep b fs | none => True) ∧ FC unpack Rel C rd nt Fin σ fs
 | .block _ :: fs => FC unpack Rel C rd nt Fin σ fs
 | .loop b A :: fs => (match A.cut with | some (l, keep) => SL unpack Rel C rd nt Fin σ l keep (.loop b) fs | none => True) ∧ FC unpack Rel C rd nt Fin σ fs
theorem SL.jump (mW : JB pack unpack Rel) {l : Nat} {keep : Kp} {c : Code} {fs : List (Frame Kp)} (H : SL unpack Rel C rd nt Fin σ l keep c fs) {x : St} {q : Q} (e : jump pack σ l keep x = some q) : M Rel C rd nt Fin c fs x q := by
 intro s hs
 obtain ⟨al, x', h1, h2, h3⟩ := mW keep x _ q e s hs
 exact H al x' q h3 h1 s h2
theorem M.seq {a b : Code} {A : eT Kp} {fs : List (Frame Kp)} {x : St} {q : Q} (H : M Rel C rd nt Fin a (.seq b A :: fs) x q) : M Rel C rd nt Fin (.seq a b) fs x q := by
 intro s hs
 obtain ⟨e, s1, h1, h2⟩ := H s hs
 cases e with
 | normal =>
  obtain ⟨e, s2, h3, h4⟩ := h2
  obtain ⟨n, k1, k2⟩ := h1.two h3
  exact ⟨e, s2, .aX ⟨n, by simp only [dW, eG, k1, k2, Option.bind_some]⟩, h4⟩
 | exit i => obtain ⟨n, k1⟩ := h1; exact ⟨_, s1, .aX ⟨n, by simp only [dW, eG, k1, Option.bind_some]⟩, h2⟩
 | ret => obtain ⟨n, k1⟩ := h1; exact ⟨_, s1, .aX ⟨n, by simp only [dW, eG, k1, Option.bind_some]⟩, h2⟩
 | panic v => obtain ⟨n, k1⟩ := h1; exact ⟨_, s1, .aX ⟨n, by simp only [dW, eG, k1, Option.bind_some]⟩, h2⟩
theorem M.loop {b : Code} {A : eT Kp} {fs : List (Frame Kp)} {x : St} {q : Q} (H : M Rel C rd nt Fin b (.loop b A :: fs) x q) : M Rel C rd nt Fin (.loop b) fs x q := by
 intro s hs
 obtain ⟨e, s1, h1, h2⟩ := H s hs
 cases e with
 | normal =>
  obtain ⟨e, s2, h3, h4⟩ := h2
  obtain ⟨n, k1, k2⟩ := h1.two h3
  exact ⟨e, s2, .aX ⟨n, by simp only [dW, eG, k1, k2, Option.bind_some]⟩, h4⟩
 | exit i => obtain ⟨n, k1⟩ := h1; exact ⟨_, s1, .aX ⟨n, by simp only [dW, eG, k1, Option.bind_some]⟩, h2⟩
 | ret => obtain ⟨n, k1⟩ := h1; exact ⟨_, s1, .aX ⟨n, by simp only [dW, eG, k1, Option.bind_some]⟩, h2⟩
 | panic v => obtain ⟨n, k1⟩ := h1; exact ⟨_, s1, .aX ⟨n, by simp only [dW, eG, k1, Option.bind_some]⟩, h2⟩
theorem M.block {id : Nat} {b : Code} {fs : List (Frame Kp)} {x : St} {q : Q} (H : M Rel C rd nt Fin b (.block id :: fs) x q) : M Rel C rd nt Fin (.block id b) fs x q := by
 intro s hs
 obtain ⟨e, s1, h1, h2⟩ := H s hs
 obtain ⟨n, k1⟩ := h1
 cases e with
 | normal => exact ⟨_, s1, .aX ⟨n, by simp only [dW, eG, k1, Option.bind_some]⟩, h2⟩
 | exit i =>
  simp only [oP] at h2
  cases hb : Nat.beq i id with
  | true => rw [hb] at h2; exact ⟨.normal, s1, .aX ⟨n, by simp only [dW, eG, k1, Option.bind_some, hb]⟩, h2⟩
  | false => rw [hb] at h2; exact ⟨.exit i, s1, .aX ⟨n, by simp only [dW, eG, k1, Option.bind_some, hb]⟩, h2⟩
 | ret => exact ⟨_, s1, .aX ⟨n, by simp only [dW, eG, k1, Option.bind_some]⟩, h2⟩
 | panic v => exact ⟨_, s1, .aX ⟨n, by simp only [dW, eG, k1, Option.bind_some]⟩, h2⟩
theorem M.scope {b : Code} {fs : List (Frame Kp)} {x : St} {q : Q} (H : M Rel C rd nt Fin b fs x q) : M Rel C rd nt Fin (.scope b) fs x q := by
 intro s hs
 obtain ⟨e, s1, h1, h2⟩ := H s hs
 obtain ⟨n, k1⟩ := h1
 exact ⟨e, s1, .aX ⟨n, by simp only [dW, eG, k1, Option.bind_some]⟩, h2⟩
theorem M.skip {fs : List (Frame Kp)} {x : St} {q : Q} {kn : (St → Option Q)} (H : KN Rel C rd nt Fin kn fs) (e : kn x = some q) : M Rel C rd nt Fin .skip fs x q :=
 fun s hs => ⟨.normal, _, .aX ⟨0, rfl⟩, H x q e s hs⟩
theorem oP.ret {s : S} {q : Q} : ∀ (fs : List (Frame Kp)), Fin s q → oP C rd nt Fin fs .ret s q
 | [], H => H
 | .seq _ _ :: fs, H => oP.ret fs H
 | .block _ :: fs, H => oP.ret fs H
 | .loop _ _ :: fs, H => oP.ret fs H
theorem AX (mW : JB pack unpack Rel) (hev : aTE ev Rel) (hops : GJ Rel C rd nt qQ) (hfin : ∀ x q, fin x = some q → ∀ s, Rel x s → Fin s q) :
  ∀ (c : Code) (A : eT Kp) (fs : List (Frame Kp)) (kn : (St → Option Q)) (ke : Nat → (St → Option Q)), KN Rel C rd nt Fin kn fs → KE Rel C rd nt Fin ke fs → eP unpack Rel C rd nt Fin σ c A fs →
   ∀ x q, kC pack ev σ qQ fin c A kn ke x = some q → M Rel C rd nt Fin c fs x q := by
 intro c
 induction c with
 | skip => intro A fs kn ke hn he hc x q e; exact M.skip hn e
 | label l => intro A fs kn ke hn he hc x q e s hs; exact ⟨.normal, _, .aX ⟨0, rfl⟩, hn x q e s hs⟩
 | region id ops d =>
  intro A fs kn ke hn he hc x q e s hs
  obtain ⟨s', x', h1, h2, h3⟩ := hops id ops d kn x q e s hs
  exact ⟨.normal, _, h1, hn x' q h3 s' h2⟩
 | seq a b iha ihb =>
  intro A fs kn ke hn he hc x q e
  obtain ⟨ca, cb⟩ := hc
  simp only [kC] at e
  have hb : KN Rel C rd nt Fin (match A.r.cut with | some (l, keep) => G.jump pack σ l keep | none => kC pack ev σ qQ fin b A.r kn ke) (.seq b A.r :: fs) := by
   intro x q e s hs
   cases hcut : A.r.cut with
   | some x => obtain ⟨l, keep⟩ := x; rw [hcut] at e cb; exact SL.jump mW cb e s hs
   | none => rw [hcut] at e cb; exact ihb A.r fs kn ke hn he cb x q e s hs
  have he' : KE Rel C rd nt Fin ke (.seq b A.r :: fs) := fun i x q e s hs => he i x q e s hs
  apply M.seq (A := A.r)
  cases hcut : A.l.cut with
  | some x => obtain ⟨l, keep⟩ := x; rw [hcut] at e ca; exact SL.jump mW ca e
  | none => rw [hcut] at e ca; exact iha A.l _ _ ke hb he' ca x q e
 | cond c t y NI NJ =>
  intro A fs kn ke hn he hc x q e
  obtain ⟨cx, cy⟩ := hc
  simp only [kC] at e
  split at e
  ·rename_i v hv
   rcases xD e with ⟨rfl, e⟩ | ⟨rfl, e⟩
   ·intro s hs
    have hM : M Rel C rd nt Fin t fs x q := by
     cases hcut : A.l.cut with
     | some z => obtain ⟨l, keep⟩ := z; rw [hcut] at e cx; exact SL.jump mW cx e
     | none => rw [hcut] at e cx; exact NI A.l fs kn ke hn he cx x q e
    obtain ⟨ee, s1, ⟨n, h1⟩, h2⟩ := hM s hs
    exact ⟨ee, s1, .aX ⟨n, by simp only [dW, eG, oL, hev _ _ _ hv _ hs, Option.bind_some]; exact h1⟩, h2⟩
   ·intro s hs
    have hM : M Rel C rd nt Fin y fs x q := by
     cases hcut : A.r.cut with
     | some z => obtain ⟨l, keep⟩ := z; rw [hcut] at e cy; exact SL.jump mW cy e
     | none => rw [hcut] at e cy; exact NJ A.r fs kn ke hn he cy x q e
    obtain ⟨ee, s1, ⟨n, h1⟩, h2⟩ := hM s hs
    exact ⟨ee, s1, .aX ⟨n, by simp only [dW, eG, oL, hev _ _ _ hv _ hs, Option.bind_some]; exact h1⟩, h2⟩
  ·cases e
 | block id b ih =>
  intro A fs kn ke hn he hc x q e
  simp only [kC] at e
  apply M.block
  unfold eP at hc
  cases hcut : A.l.cut with
  | some x => obtain ⟨l, keep⟩ := x; rw [hcut] at e hc; exact SL.jump mW hc e
  | none =>
   rw [hcut] at e hc
   refine ih A.l (.block id :: fs) kn _ (fun x q e s hs => hn x q e s hs) ?_ hc x q e
   intro i x q e s hs
   replace e : (match Nat.beq i id with | true => kn | false => ke i) x = some q := e
   simp only [oP]
   cases hb : Nat.beq i id with
   | true => rw [hb] at e; exact hn x q e s hs
   | false => rw [hb] at e; exact he i x q e s hs
 | loop b ih =>
  intro A fs kn ke hn he hc x q e
  obtain ⟨c1, c2⟩ := hc
  simp only [kC] at e
  apply M.loop (A := A)
  have hj : KN Rel C rd nt Fin (o8 pack σ A.cut) (.loop b A :: fs) := by
   intro x q e s hs
   cases hcut : A.cut with
   | some x => obtain ⟨l, keep⟩ := x; rw [hcut] at e c1; exact SL.jump mW c1 e s hs
   | none => rw [hcut] at e; cases e
  cases hcut : A.l.cut with
  | some x => obtain ⟨l, keep⟩ := x; rw [hcut] at e c2; exact SL.jump mW c2 e
  | none => rw [hcut] at e c2; exact ih A.l _ _ ke hj (fun i x q e s hs => he i x q e s hs) c2 x q e
 | rangeFunc f ps a b _ _ => intro A fs kn ke hn he hc x q e; cases e
 | exit id => intro A fs kn ke hn he hc x q e s hs; exact ⟨.exit id, _, .aX ⟨0, rfl⟩, he id x q e s hs⟩
 | scope b ih =>
  intro A fs kn ke hn he hc x q e
  simp only [kC] at e
  unfold eP at hc
  apply M.scope
  cases hcut : A.l.cut with
  | some x => obtain ⟨l, keep⟩ := x; rw [hcut] at e hc; exact SL.jump mW hc e
  | none => rw [hcut] at e hc; exact ih A.l fs kn ke hn he hc x q e
 | goto l => intro A fs kn ke hn he hc x q e; cases e
 | ret => intro A fs kn ke hn he hc x q e s hs; exact ⟨.ret, _, .aX ⟨0, rfl⟩, oP.ret fs (hfin x q e s hs)⟩
 | refuse w => intro A fs kn ke hn he hc x q e; cases e
theorem AY (mW : JB pack unpack Rel) (hfin : ∀ x q, fin x = some q → ∀ s, Rel x s → Fin s q) : ∀ fs, FC unpack Rel C rd nt Fin σ fs → KN Rel C rd nt Fin (wE pack σ fin fs) fs
 | [], _ => fun x q e s hs => hfin x q e s hs
 | .seq b A :: fs, hc => by
  intro x q e s hs
  have c1 := hc.1
  unfold wE at e
  cases hcut : A.cut with
  | some x => obtain ⟨l, keep⟩ := x; rw [hcut] at e c1; exact SL.jump mW c1 e s hs
  | none => rw [hcut] at e; cases e
 | .block _ :: fs, hc => fun x q e s hs => AY mW hfin fs hc x q e s hs
 | .loop b A :: fs, hc => by
  intro x q e s hs
  have c1 := hc.1
  unfold wE at e
  cases hcut : A.cut with
  | some x => obtain ⟨l, keep⟩ := x; rw [hcut] at e c1; exact SL.jump mW c1 e s hs
  | none => rw [hcut] at e; cases e
theorem vP (mW : JB pack unpack Rel) (hfin : ∀ x q, fin x = some q → ∀ s, Rel x s → Fin s q) : ∀ fs, FC unpack Rel C rd nt Fin σ fs → KE Rel C rd nt Fin (xC pack σ fin fs) fs
 | [], _ => fun i x q e s hs => by cases e
 | .seq b A :: fs, hc => fun i x q e s hs => vP mW hfin fs hc.2 i x q e s hs
 | .block id :: fs, hc => by
  intro i x q e s hs
  simp only [xC] at e
  simp only [oP]
  cases hb : Nat.beq i id with
  | true => rw [hb] at e; exact AY mW hfin fs hc x q e s hs
  | false => rw [hb] at e; exact vP mW hfin fs hc i x q e s hs
 | .loop b A :: fs, hc => fun i x q e s hs => vP mW hfin fs hc.2 i x q e s hs
def zD (unpack : Kp → AL → Option St) (Rel : St → S → Prop) (C : dO) (rd : Option Nat) (nt : Nat) (Fin : S → Q → Prop) (σ : Nat → AL → Option Q) (L : List (wR Kp)) : Prop := ∀ e ∈ L, SL unpack Rel C rd nt Fin σ e.l e.keep e.code e.fs
theorem eY {c : Code} {A : eT Kp} {fs : List (Frame Kp)} {l : Nat} {keep : Kp} (h : A.cut = some (l, keep)) : { l, keep, code := c, DV := A, fs } ∈ collect c A fs := by
 unfold collect; rw [h]; exact List.mem_append_left _ (List.mem_singleton.2 rfl)
theorem rR {L : List (wR Kp)} (H : zD unpack Rel C rd nt Fin σ L) : ∀ (c : Code) (A : eT Kp) (fs : List (Frame Kp)), (∀ e ∈ collect c A fs, e ∈ L) → eP unpack Rel C rd nt Fin σ c A fs := by
 have cut : ∀ {c : Code} {A : eT Kp} {fs : List (Frame Kp)}, (∀ e ∈ collect c A fs, e ∈ L) → eP unpack Rel C rd nt Fin σ c A fs → (match A.cut with | some (l, keep) => SL unpack Rel C rd nt Fin σ l keep c fs | none => eP unpack Rel C rd nt Fin σ c A fs) := by
  intro c A fs h1 h2
  cases hcut : A.cut with
  | some x => obtain ⟨l, keep⟩ := x; exact H _ (h1 _ (eY hcut))
  | none => exact h2
 intro c
 induction c with
 | seq a b iha ihb =>
  intro A fs h
  have ha : ∀ e ∈ collect a A.l (.seq b A.r :: fs), e ∈ L := fun e he => h e (by unfold collect; exact List.mem_append_right _ (List.mem_append_left _ he))
  have hb : ∀ e ∈ collect b A.r fs, e ∈ L := fun e he => h e (by unfold collect; exact List.mem_append_right _ (List.mem_append_right _ he))
  exact ⟨cut ha (iha _ _ ha), cut hb (ihb _ _ hb)⟩
 | cond c x y NI NJ =>
  intro A fs h
  have ha : ∀ e ∈ collect x A.l fs, e ∈ L := fun e he => h e (by unfold collect; exact List.mem_append_right _ (List.mem_append_left _ he))
  have hb : ∀ e ∈ collect y A.r fs, e ∈ L := fun e he => h e (by unfold collect; exact List.mem_append_right _ (List.mem_append_right _ he))
  exact ⟨cut ha (NI _ _ ha), cut hb (NJ _ _ hb)⟩
 | block id b ih =>
  intro A fs h
  have ha : ∀ e ∈ collect b A.l (.block id :: fs), e ∈ L := fun e he => h e (by unfold collect; exact List.mem_append_right _ he)
  exact cut ha (ih _ _ ha)
 | loop b ih =>
  intro A fs h
  have ha : ∀ e ∈ collect b A.l (.loop b A :: fs), e ∈ L := fun e he => h e (by unfold collect; exact List.mem_append_right _ he)
  refine ⟨?_, cut ha (ih _ _ ha)⟩
  cases hcut : A.cut with
  | some x => obtain ⟨l, keep⟩ := x; exact H _ (h _ (eY hcut))
  | none => trivial
 | scope b ih =>
  intro A fs h
  have ha : ∀ e ∈ collect b A.l fs, e ∈ L := fun e he => h e (by unfold collect; exact List.mem_append_right _ he)
  exact cut ha (ih _ _ ha)
 | _ => intros; trivial
theorem xE {L : List (wR Kp)} (H : zD unpack Rel C rd nt Fin σ L) : ∀ (c : Code) (A : eT Kp) (fs : List (Frame Kp)), (∀ e ∈ collect c A fs, e ∈ L) → FC unpack Rel C rd nt Fin σ fs → ∀ e ∈ collect c A fs, FC unpack Rel C rd nt Fin σ e.fs ∧ ∀ x ∈ collect e.code e.DV e.fs, x ∈ L := by
 have XI : ∀ {c : Code} {A : eT Kp} {fs : List (Frame Kp)}, (∀ e ∈ collect c A fs, e ∈ L) → (match A.cut with | some (l, keep) => SL unpack Rel C rd nt Fin σ l keep c fs | none => True) := by
  intro c A fs h1
  cases hcut : A.cut with
  | some x => obtain ⟨l, keep⟩ := x; exact H _ (h1 _ (eY hcut))
  | none => trivial
 have self : ∀ {c : Code} {A : eT Kp} {fs : List (Frame Kp)} {rest : List (wR Kp)} {e : wR Kp}, (∀ e ∈ collect c A fs, e ∈ L) → FC unpack Rel C rd nt Fin σ fs →
   e ∈ (match A.cut with | some (l, keep) => [({ l, keep, code := c, DV := A, fs } : wR Kp)] | none => []) ++ rest → (e ∈ rest → FC unpack Rel C rd nt Fin σ e.fs ∧ ∀ x ∈ collect e.code e.DV e.fs, x ∈ L) →
   FC unpack Rel C rd nt Fin σ e.fs ∧ ∀ x ∈ collect e.code e.DV e.fs, x ∈ L := by
  intro c A fs rest e h hf he hr
  rcases List.mem_append.1 he with h1 | h1
  ·cases hcut : A.cut with
   | some x =>
    obtain ⟨l, keep⟩ := x; rw [hcut] at h1
    obtain rfl := List.mem_singleton.1 h1
    exact ⟨hf, h⟩
   | none => rw [hcut] at h1; cases h1
  ·exact hr h1
 intro c
 induction c with
 | seq a b iha ihb =>
  intro A fs h hf e he
  have ha : ∀ e ∈ collect a A.l (.seq b A.r :: fs), e ∈ L := fun e he => h e (by unfold collect; exact List.mem_append_right _ (List.mem_append_left _ he))
  have hb : ∀ e ∈ collect b A.r fs, e ∈ L := fun e he => h e (by unfold collect; exact List.mem_append_right _ (List.mem_append_right _ he))
  unfold collect at he
  refine self h hf he fun he => ?_
  rcases List.mem_append.1 he with h1 | h1
  ·exact iha _ _ ha ⟨XI hb, hf⟩ e h1
  ·exact ihb _ _ hb hf e h1
 | cond c x y NI NJ =>
  intro A fs h hf e he
  have ha : ∀ e ∈ collect x A.l fs, e ∈ L := fun e he => h e (by unfold collect; exact List.mem_append_right _ (List.mem_append_left _ he))
  have hb : ∀ e ∈ collect y A.r fs, e ∈ L := fun e he => h e (by unfold collect; exact List.mem_append_right _ (List.mem_append_right _ he))
  unfold collect at he
  refine self h hf he fun he => ?_
  rcases List.mem_append.1 he with h1 | h1
  ·exact NI _ _ ha hf e h1
  ·exact NJ _ _ hb hf e h1
 | block id b ih =>
  intro A fs h hf e he
  have ha : ∀ e ∈ collect b A.l (.block id :: fs), e ∈ L := fun e he => h e (by unfold collect; exact List.mem_append_right _ he)
  unfold collect at he
  exact self h hf he fun he => ih _ _ ha hf e he
 | loop b ih =>
  intro A fs h hf e he
  have ha : ∀ e ∈ collect b A.l (.loop b A :: fs), e ∈ L := fun e he => h e (by unfold collect; exact List.mem_append_right _ he)
  have hs : (match A.cut with | some (l, keep) => SL unpack Rel C rd nt Fin σ l keep (.loop b) fs | none => True) := XI h
  unfold collect at he
  exact self h hf he fun he => ih _ _ ha ⟨hs, hf⟩ e he
 | scope b ih =>
  intro A fs h hf e he
  have ha : ∀ e ∈ collect b A.l fs, e ∈ L := fun e he => h e (by unfold collect; exact List.mem_append_right _ he)
  unfold collect at he
  exact self h hf he fun he => ih _ _ ha hf e he
 | _ => intro A fs h hf e he; unfold collect at he; exact self h hf he (fun h => (by cases h))
theorem kN {e : wR Kp} : ∀ {L : List (wR Kp)}, distinct (L.map (·.l)) = true → e ∈ L → entry e.l L = some e
 | x :: L, hd, h => by
  simp only [List.map_cons, distinct, Bool.and_eq_true, List.all_eq_true] at hd
  unfold entry
  cases h with
  | head => rw [show Nat.beq e.l e.l = true from by rw [beq_eq]; simp]; rfl
  | tail _ h =>
   have := hd.1 e.l (List.mem_map.2 ⟨e, h, rfl⟩)
   have hb : Nat.beq x.l e.l = false := by
    rw [beq_eq] at this ⊢
    simp at this ⊢
    exact fun k => this k.symm
   rw [hb]
   exact kN hd.2 h
end
def aY {St Q AL Kp : Type} (pack : Kp → St → (AL → Option Q) → Option Q) (unpack : Kp → AL → Option St) (ev : St → Operand → Option Value) (qQ : List Oper → Array Oper → Bool → (St → Option Q) → (St → Option Q)) (fin : St → Option Q) (L : List (wR Kp)) (l : Nat) (σ : Nat → AL → Option Q) (al : AL) : Option Q :=
 match entry l L with
 | some e => match unpack e.keep al with
  | some x => kC pack ev σ qQ fin e.code e.DV (wE pack σ fin e.fs) (xC pack σ fin e.fs) x
  | none => none
 | none => none
def aK {Q AL : Type} (T : (Nat → AL → Option Q) → (Nat → AL → Option Q)) (n : Nat) : Nat → AL → Option Q := Nat.rec (fun _ _ => none) (fun _ s => T s) n
section
variable {St Q AL Kp : Type} {unpack : Kp → AL → Option St} {Rel : St → S → Prop} {C : dO} {rd : Option Nat} {nt : Nat} {Fin : S → Q → Prop} {pack : Kp → St → (AL → Option Q) → Option Q} {ev : St → Operand → Option Value} {qQ : List Oper → Array Oper → Bool → (St → Option Q) → (St → Option Q)} {fin : St → Option Q}
theorem nQ (mW : JB pack unpack Rel) (hev : aTE ev Rel) (hops : GJ Rel C rd nt qQ) (hfin : ∀ x q, fin x = some q → ∀ s, Rel x s → Fin s q) (body : Code) (A : eT Kp)
  (hd : distinct ((collect body A []).map (·.l)) = true) (T : (Nat → AL → Option Q) → (Nat → AL → Option Q)) (hT : ∀ σ l al q, T σ l al = some q → aY pack unpack ev qQ fin (collect body A []) l σ al = some q) :
  ∀ n, zD unpack Rel C rd nt Fin (aK T n) (collect body A [])
 | 0 => fun _ _ _ _ _ e _ => (by cases e)
 | n + 1 => by
  have ih := nQ mW hev hops hfin body A hd T hT n
  intro e he al x q hq hv
  have := hT _ _ _ _ (show T (aK T n) e.l al = some q from hq)
  unfold aY at this
  rw [kN hd he] at this
  simp only [hv] at this
  obtain ⟨f1, f2⟩ := xE ih body A [] (fun _ h => h) trivial e he
  exact AX mW hev hops hfin e.code e.DV e.fs _ _ (AY mW hfin e.fs f1) (vP mW hfin e.fs f1) (rR ih e.code e.DV e.fs f2) x q this
end
end
end Go.bK.G
/-
  Functions that write nothing and hand back a plain value, told with their own variables beside the heap.
-/
namespace Go.bK
noncomputable section
inductive RV where
 | val (v : Value)
 | loc (id off : Nat)
 | bad
structure FQ where
 r : List (Nat × RV)
 l : List (Nat × List Value)
def zG {α : Type} (n : Nat) : List (Nat × α) → Option α
 | [] => none
 | (k, v) :: l => cond (Nat.beq k n) (some v) (zG n l)
theorem dP {α : Type} (n k : Nat) (v : α) (l : List (Nat × α)) : zG n ((k, v) :: l) = if k = n then some v else zG n l := by
 show cond (Nat.beq k n) (some v) (zG n l) = _
 rw [beq_eq]; by_cases h : k = n <;> simp [h]
inductive aD where
 | n
 | i (x : Int) (r : aD)
 | b (x : Bool) (r : aD)
 | v (x : Value) (r : aD)
 | l (x : List Value) (r : aD)
inductive KI where
 | reg (r : Nat) (k : Kd)
 | loc (r id : Nat)
 | cells (id : Nat) (ks : List Kd)
 | list (id : Nat)
def lZ {ρ : Type} (c : List Value) (f : Value → List Value → Option ρ) : Option ρ := fJ (List.rec (motive := fun _ => Option ρ) none (fun a c _ => f a c) c)
theorem yU {ρ : Type} {c : List Value} {f : Value → List Value → Option ρ} {q : ρ} (e : lZ c f = some q) : ∃ a c', c = a :: c' ∧ f a c' = some q := by
 cases c with
 | nil => cases e
 | cons a c => exact ⟨a, c, rfl, e⟩
def aID {ρ : Type} (c : List Value) (f : Option ρ) : Option ρ := fJ (List.rec (motive := fun _ => Option ρ) f (fun _ _ _ => none) c)
theorem aFQ {ρ : Type} {c : List Value} {f : Option ρ} {q : ρ} (e : aID c f = some q) : c = [] ∧ f = some q := by
 cases c with
 | nil => exact ⟨rfl, e⟩
 | cons a c => cases e
def X4 {ρ : Type} : List Kd → List Value → ((aD → aD) → Option ρ) → Option ρ
 | [], c, k => aID c (k id)
 | .i kd :: ks, c, k => lZ c fun a c => aS kd a fun x => X4 ks c fun g => k fun al => .i x (g al)
 | .b :: ks, c, k => lZ c fun a c => dM a fun x => X4 ks c fun g => k fun al => .b x (g al)
 | .v :: ks, c, k => lZ c fun a c => X4 ks c fun g => k fun al => .v a (g al)
def vU : List Kd → aD → Option (List Value × aD)
 | [], al => some ([], al)
 | .i kd :: ks, .i x al => match vU ks al with | some (c, al) => some (.int kd x :: c, al) | none => none
 | .b :: ks, .b x al => match vU ks al with | some (c, al) => some (.bool x :: c, al) | none => none
 | .v :: ks, .v x al => match vU ks al with | some (c, al) => some (x :: c, al) | none => none
 | _, _ => none
theorem yV {ρ : Type} {q : ρ} : ∀ {ks : List Kd} {c : List Value} {k : (aD → aD) → Option ρ}, X4 ks c k = some q → ∃ g, k g = some q ∧ ∀ al, vU ks (g al) = some (c, al)
 | [], c, k, e => by
  obtain ⟨rfl, e2⟩ := aFQ e
  exact ⟨id, e2, fun al => rfl⟩
 | .i kd :: ks, c, k, e => by
  obtain ⟨a, c', rfl, e2⟩ := yU e
  obtain ⟨x, rfl, e3⟩ := aZ e2
  obtain ⟨g, h1, h2⟩ := yV e3
  exact ⟨_, h1, fun al => by simp only [vU, h2]⟩
 | .b :: ks, c, k, e => by
  obtain ⟨a, c', rfl, e2⟩ := yU e
  obtain ⟨x, rfl, e3⟩ := kV e2
  obtain ⟨g, h1, h2⟩ := yV e3
  exact ⟨_, h1, fun al => by simp only [vU, h2]⟩
 | .v :: ks, c, k, e => by
  obtain ⟨a, c', rfl, e2⟩ := yU e
  obtain ⟨g, h1, h2⟩ := yV e2
  exact ⟨_, h1, fun al => by simp only [vU, h2]⟩
def aIE (x : Option RV) (id : Nat) : Bool := match x with | some (.loc i o) => Nat.beq i id && Nat.beq o 0 | _ => false
def iF {ρ : Type} : List KI → FQ → (aD → Option ρ) → Option ρ
 | [], _, k => k .n
 | .reg r kd :: ks, x, k => match zG r x.r with
  | some (.val v) => match kd with
   | .i kd => aS kd v fun a => iF ks x fun al => k (.i a al)
   | .b => dM v fun a => iF ks x fun al => k (.b a al)
   | .v => iF ks x fun al => k (.v v al)
  | _ => none
 | .loc r id :: ks, x, k => match aIE (zG r x.r) id with | true => iF ks x k | false => none
 | .cells id kds :: ks, x, k => match zG id x.l with
  | some c => X4 kds c fun g => iF ks x fun al => k (g al)
  | none => none
 | .list id :: ks, x, k => match zG id x.l with
  | some c => iF ks x fun al => k (.l c al)
  | none => none
def dB : List KI → aD → Option FQ
 | [], .n => some ⟨[], []⟩
 | .reg r (.i kd) :: ks, .i a al => match dB ks al with | some x => some ⟨(r, .val (.int kd a)) :: x.r, x.l⟩ | none => none
 | .reg r .b :: ks, .b a al => match dB ks al with | some x => some ⟨(r, .val (.bool a)) :: x.r, x.l⟩ | none => none
 | .reg r .v :: ks, .v a al => match dB ks al with | some x => some ⟨(r, .val a) :: x.r, x.l⟩ | none => none
 | .loc r id :: ks, al => match dB ks al with | some x => some ⟨(r, .loc id 0) :: x.r, x.l⟩ | none => none
 | .cells id kds :: ks, al => match vU kds al with
  | some (c, al) => match dB ks al with | some x => some ⟨x.r, (id, c) :: x.l⟩ | none => none
  | none => none
 | .list id :: ks, .l c al => match dB ks al with | some x => some ⟨x.r, (id, c) :: x.l⟩ | none => none
 | _, _ => none
structure uT (h : Hp) (n0 : Nat) (β : Nat → Nat) (x : FQ) (s : S) : Prop where
 sub : ∀ i o, h.get i = some o → s.h.get i = some o
 old : ∀ i o, h.get i = some o → i < n0
 low : n0 ≤ s.h.next
 ro : s.h.ro ≤ n0
 loc : ∀ id c, zG id x.l = some c → n0 ≤ β id ∧ β id < s.h.next ∧ ∃ t, s.h.get (β id) = some (.cells c t none)
 inj : ∀ id id' c c', zG id x.l = some c → zG id' x.l = some c' → β id = β id' → id = id'
 reg : ∀ n v, zG n x.r = some (.val v) → s.tm.get n = some v
 ptr : ∀ n id off, zG n x.r = some (.loc id off) → s.tm.get n = some (.pointer (some ⟨β id, off, none⟩))
 df : s.df = []
def RP (h : Hp) (n0 : Nat) (x : FQ) (s : S) : Prop := ∃ β, uT h n0 β x s
theorem aIF {x : Option RV} {id : Nat} (h : aIE x id = true) : x = some (.loc id 0) := by
 unfold aIE at h
 split at h
 ·simp only [Bool.and_eq_true] at h
  rw [Nat.eq_of_beq_eq_true h.1, Nat.eq_of_beq_eq_true h.2]
 ·cases h
theorem pI {ρ : Type} {q : ρ} : ∀ {ks : List KI} {x : FQ} {k : aD → Option ρ}, iF ks x k = some q → ∃ al x', dB ks al = some x' ∧ k al = some q ∧ (∀ n v, zG n x'.r = some v → zG n x.r = some v) ∧ (∀ n c, zG n x'.l = some c → zG n x.l = some c)
 | [], x, k, e => ⟨.n, ⟨[], []⟩, rfl, e, (fun n v h => by cases h), (fun n c h => by cases h)⟩
 | .reg r kd :: ks, x, k, e => by
  unfold iF at e
  split at e
  ·rename_i v hv
   have go : ∀ {al : aD} {x' : FQ}, (∀ n v, zG n x'.r = some v → zG n x.r = some v) → ∀ n u, zG n ((r, RV.val v) :: x'.r) = some u → zG n x.r = some u := by
    intro al x' h n u hu
    rw [dP] at hu
    split at hu
    ·rename_i hn; subst hn; cases hu; exact hv
    ·exact h n u hu
   split at e
   ·obtain ⟨a, rfl, e2⟩ := aZ e
    obtain ⟨al, x', h1, h2, h3, h4⟩ := pI e2
    exact ⟨_, ⟨_, x'.l⟩, by simp only [dB, h1], h2, go (al := al) h3, h4⟩
   ·obtain ⟨a, rfl, e2⟩ := kV e
    obtain ⟨al, x', h1, h2, h3, h4⟩ := pI e2
    exact ⟨_, ⟨_, x'.l⟩, by simp only [dB, h1], h2, go (al := al) h3, h4⟩
   ·obtain ⟨al, x', h1, h2, h3, h4⟩ := pI (ks := ks) e
    exact ⟨_, ⟨_, x'.l⟩, by simp only [dB, h1], h2, go (al := al) h3, h4⟩
  ·cases e
 | .loc r id :: ks, x, k, e => by
  unfold iF at e
  split at e
  ·rename_i hl
   have hv := aIF hl
   obtain ⟨al, x', h1, h2, h3, h4⟩ := pI (ks := ks) e
   refine ⟨al, ⟨(r, .loc id 0) :: x'.r, x'.l⟩, by simp only [dB, h1], h2, ?_, h4⟩
   intro n u hu
   rw [dP] at hu
   split at hu
   ·rename_i hn; subst hn; cases hu; exact hv
   ·exact h3 n u hu
  ·cases e
 | .cells id kds :: ks, x, k, e => by
  unfold iF at e
  split at e
  ·rename_i c hc
   obtain ⟨g, e2, hg⟩ := yV e
   obtain ⟨al, x', h1, h2, h3, h4⟩ := pI e2
   refine ⟨g al, ⟨x'.r, (id, c) :: x'.l⟩, by simp only [dB, hg, h1], h2, h3, ?_⟩
   intro n u hu
   rw [dP] at hu
   split at hu
   ·rename_i hn; subst hn; cases hu; exact hc
   ·exact h4 n u hu
  ·cases e
 | .list id :: ks, x, k, e => by
  unfold iF at e
  split at e
  ·rename_i c hc
   obtain ⟨al, x', h1, h2, h3, h4⟩ := pI (ks := ks) e
   refine ⟨.l c al, ⟨x'.r, (id, c) :: x'.l⟩, by simp only [dB, h1], h2, h3, ?_⟩
   intro n u hu
   rw [dP] at hu
   split at hu
   ·rename_i hn; subst hn; cases hu; exact hc
   ·exact h4 n u hu
  ·cases e
theorem RP.pack {h : Hp} {n0 : Nat} : G.JB (Q := Value) iF dB (RP h n0) := by
 intro keep x k q e s hs
 obtain ⟨β, H⟩ := hs
 obtain ⟨al, x', h1, h2, h3, h4⟩ := pI e
 exact ⟨al, x', h1, ⟨β, H.sub, H.old, H.low, H.ro, fun id c hc => H.loc id c (h4 id c hc), fun id id' c c' hc hc' => H.inj id id' c c' (h4 id c hc) (h4 id' c' hc'), fun n v hv => H.reg n v (h3 n _ hv), fun n id off hv => H.ptr n id off (h3 n _ hv), H.df⟩, h2⟩
def X5 (x : FQ) : Operand → Option RV
 | .tmp t => zG t x.r
 | .const v => match plain v with | true => some (.val v) | false => none
 | .global _ => none
 | .func f => some (.val (.func (.func f) #[] #[]))
def oM (x : FQ) (o : Operand) : Option Value := match X5 x o with | some (.val v) => some v | _ => none
theorem aDC {h : Hp} {n0 : Nat} : G.aTE oM (RP h n0) := by
 intro x o v e s hs
 obtain ⟨β, H⟩ := hs
 unfold oM at e
 split at e
 ·rename_i w hw
  cases e
  cases o with
  | tmp t => simp only [X5] at hw; simp only [jC, H.reg t v hw, Option.getD_some]
  | const c =>
   simp only [X5] at hw
   split at hw
   ·rename_i hp; cases hw; simp only [jC, hp]; rfl
   ·cases hw
  | global g => cases hw
  | func f => cases hw; rfl
 ·cases e
theorem HV {h : Hp} {n0 : Nat} {β : Nat → Nat} {x : FQ} {s : S} (H : uT h n0 β x s) {o : Operand} {id off : Nat} (e : X5 x o = some (.loc id off)) : jC s.tm o = some (.pointer (some ⟨β id, off, none⟩)) := by
 cases o with
 | tmp t => simp only [X5] at e; simp only [jC, H.ptr t id off e, Option.getD_some]
 | const c => simp only [X5] at e; split at e <;> cases e
 | global g => cases e
 | func f => cases e
theorem iM {h : Hp} {n0 : Nat} {β : Nat → Nat} {x : FQ} {s : S} (H : uT h n0 β x s) {o : Operand} {v : Value} (e : X5 x o = some (.val v)) : jC s.tm o = some v :=
 aDC x o v (by unfold oM; rw [e]) s ⟨β, H⟩
end
end Go.bK
/-
  Operations of such functions.
-/
namespace Go.bK
noncomputable section
abbrev KP := FQ → Option Value
def wG (x : FQ) (o : Operand) (f : Value → Option Value) : Option Value := fJ <| match X5 x o with | some (.val v) => f v | _ => none
theorem gJ {x : FQ} {o : Operand} {f : Value → Option Value} {q : Value} (e : wG x o f = some q) : ∃ v, X5 x o = some (.val v) ∧ f v = some q := by
 unfold wG fJ at e
 dsimp only at e
 split at e
 ·exact ⟨_, ‹_›, e⟩
 ·cases e
def SI (x : FQ) : List Operand → (List Value → Option Value) → Option Value
 | [], f => f []
 | o :: os, f => wG x o fun v => SI x os fun l => f (v :: l)
theorem uU {x : FQ} {q : Value} : ∀ {os : List Operand} {f : List Value → Option Value}, SI x os f = some q → ∃ l, f l = some q ∧ l.length = os.length ∧ ∀ {h : Hp} {n0 : Nat} {β : Nat → Nat} {s : S}, uT h n0 β x s → kS (jC s.tm) os = some l
 | [], f, e => ⟨[], e, rfl, fun _ => rfl⟩
 | o :: os, f, e => by
  obtain ⟨v, hv, e2⟩ := gJ e
  obtain ⟨l, h1, h2, h3⟩ := uU e2
  exact ⟨v :: l, h1, by simp [h2], fun H => by simp only [kS, iM H hv, h3 H, Option.bind_some]⟩
def aBE (x : FQ) : List (Nat × Operand) → (List (Nat × Value) → Option Value) → Option Value
 | [], f => f []
 | (i, o) :: os, f => wG x o fun v => aBE x os fun l => f ((i, v) :: l)
theorem KU {x : FQ} {q : Value} : ∀ {os : List (Nat × Operand)} {f : List (Nat × Value) → Option Value}, aBE x os f = some q → ∃ l, f l = some q ∧ ∀ {h : Hp} {n0 : Nat} {β : Nat → Nat} {s : S}, uT h n0 β x s → nM (jC s.tm) os = some l
 | [], f, e => ⟨[], e, fun _ => rfl⟩
 | (i, o) :: os, f, e => by
  obtain ⟨v, hv, e2⟩ := gJ e
  obtain ⟨l, h1, h3⟩ := KU e2
  exact ⟨(i, v) :: l, h1, fun H => by simp only [nM, iM H hv, h3 H, Option.bind_some]⟩
def zH (d : Nat) : List (Nat × RV) → List (Nat × RV)
 | [] => []
 | (n, .loc id off) :: l => match Nat.beq id d with | true => (n, .bad) :: zH d l | false => (n, .loc id off) :: zH d l
 | (n, u) :: l => (n, u) :: zH d l
theorem xK {d n : Nat} {v : Value} : ∀ {l : List (Nat × RV)}, zG n (zH d l) = some (.val v) → zG n l = some (.val v)
 | [], h => by cases h
 | (k, .val w) :: l, h => by
  rw [zH, dP] at h
  rw [dP]
  split at h
  ·rename_i hk; rw [if_pos hk]; exact h
  ·rename_i hk; rw [if_neg hk]; exact xK h
  ·intro _ _ hh; cases hh
 | (k, .bad) :: l, h => by
  rw [zH, dP] at h
  rw [dP]
  split at h
  ·cases h
  ·rename_i hk; rw [if_neg hk]; exact xK h
  ·intro _ _ hh; cases hh
 | (k, .loc id off) :: l, h => by
  rw [zH] at h
  rw [dP]
  cases hb : Nat.beq id d with
  | true =>
   rw [hb] at h
   simp only [dP] at h
   split at h
   ·cases h
   ·rename_i hk; rw [if_neg hk]; exact xK h
  | false =>
   rw [hb] at h
   simp only [dP] at h
   split at h
   ·cases h
   ·rename_i hk; rw [if_neg hk]; exact xK h
theorem xL {d n id off : Nat} : ∀ {l : List (Nat × RV)}, zG n (zH d l) = some (.loc id off) → zG n l = some (.loc id off) ∧ id ≠ d
 | [], h => by cases h
 | (k, .val w) :: l, h => by
  rw [zH, dP] at h
  rw [dP]
  split at h
  ·cases h
  ·rename_i hk; rw [if_neg hk]; exact xL h
  ·intro _ _ hh; cases hh
 | (k, .bad) :: l, h => by
  rw [zH, dP] at h
  rw [dP]
  split at h
  ·cases h
  ·rename_i hk; rw [if_neg hk]; exact xL h
  ·intro _ _ hh; cases hh
 | (k, .loc id' off') :: l, h => by
  rw [zH] at h
  rw [dP]
  cases hb : Nat.beq id' d with
  | true =>
   rw [hb] at h
   simp only [dP] at h
   split at h
   ·cases h
   ·rename_i hk; rw [if_neg hk]; exact xL h
  | false =>
   rw [hb] at h
   simp only [dP] at h
   split at h
   ·rename_i hk
    rw [if_pos hk]
    cases h
    exact ⟨rfl, fun e => by subst e; rw [beq_eq] at hb; simp at hb⟩
   ·rename_i hk; rw [if_neg hk]; exact xL h
def aO6 {ρ : Type} (v : Value) (f : List Value → Option ρ) : Option ρ := fJ (JA v none (fun _ => none) (fun _ _ => none) (fun _ => none) (fun _ _ _ => none) (fun cs => f cs.toList) (fun _ => none) (fun _ => none))
section
variable (E : Env) (pf : FuncId → List Value → Hp → Option Value) (nt : Nat) (h : Hp)
def zN (d : Option Tmp) (u : RV) (x : FQ) (k : KP) : Option Value :=
 fJ <| match d with
 | none => k x
 | some d => match Nat.blt d nt with | true => k ⟨(d, u) :: x.r, x.l⟩ | false => none
def aO7 (d : Option Tmp) (c : List Value) (x : FQ) (k : KP) : Option Value :=
 fJ <| match d with
 | none => none
 | some d => match Nat.blt d nt with | true => k ⟨(d, .loc d 0) :: zH d x.r, (d, c) :: x.l⟩ | false => none
def aBF (id : Nat) (c : List Value) (x : FQ) : FQ := ⟨x.r, (id, c) :: x.l⟩
def opP (o : Oper) (x : FQ) (k : KP) : Option Value :=
 let val := fun v => zN nt o.dst (.val v) x k
 match o.op with
 | .move y => match X5 x y with | some u => zN nt o.dst u x k | none => none
 | .assign y => match X5 x y with | some u => zN nt o.dst u x k | none => none
 | .pick c a b => wG x c fun vc => wG x a fun va => wG x b fun vb => onB vc (val va) (val vb)
 | .alloc e => match nE E e with | some z => aO7 nt o.dst z.cells.toList x k | none => none
 | .box e y => wG x y fun v => o9 v.cells.toList fun c => aO7 nt o.dst c x k
 | .build t ps => aBE x ps.toList fun l => bS (jQ E t l.toArray) val
 | .load t a => match X5 x a with
  | some (.loc id off) => (match zG id x.l with
   | some c => match IV E t with
    | some true => match gU E t with | some n => zF c off fun c => xH c n fun l => val (.agg (Array.mk l)) | none => none
    | some false => A7 c off fun v => oF E t v val
    | none => none
   | none => none)
  | some (.val va) => XH E h t va fun v => oF E t v val
  | _ => none
 | .store t a y => match X5 x a with
  | some (.loc id off) => wG x y fun vy => (match zG id x.l with
   | some c => match IV E t, gU E t with
    | some false, some 1 => bY (XM vy) (CU c off vy fun c => zN nt o.dst (.val undef) (aBF id c x) k) none
    | some true, some n => aO6 vy fun cs => bY (Nat.beq (QK cs) n) (U6 off cs c fun c => zN nt o.dst (.val undef) (aBF id c x) k) none
    | _, _ => none
   | none => none)
  | _ => none
 | .binOp op t a b _ => wG x a fun va => wG x b fun vb => aOZ E op t a b va vb val
 | .unOp op t a => wG x a fun va => unK E op t va val
 | .convert s d a => wG x a fun va => match gI E s, gI E d with
  | some (.int ks), some (.int kd) => aS ks va fun a => GR kd a fun c => val (.int kd c)
  | _, _ => none
 | .fieldAddr st y f => match X5 x y with
  | some (.loc id off) => (match gI E st with
   | some (.struct fields) => match fields[f]? with
    | some fd => match gU E fd.type with
     | some n => match Nat.blt 0 n with | true => zN nt o.dst (.loc id (Nat.add off fd.offset)) x k | false => none
     | none => none
    | none => none
   | _ => none)
  | some (.val v) => aO0 E st v f val
  | _ => none
 | .field s y f => wG x y fun v => VL E s v f val
 | .indexAddr t y ix => match X5 x y with
  | some (.loc id off) => wG x ix fun vi => FF vi fun _ i => (match gI E t with
   | some (.array len el) => match gU E el with
    | some n => U2 i (fun i => bY (Nat.ble (Nat.succ i) len) (gZ (Nat.add off (Nat.mul i n)) fun o' => zN nt o.dst (.loc id o') x k) none) (fun _ => none)
    | none => none
   | _ => none)
  | some (.val v) => wG x ix fun vi => FF vi fun kd i => aO1 E t v kd i val
  | _ => none
 | .index t y ix => wG x y fun v => wG x ix fun i => bS (jU E t v i) fun v => oF E o.type v val
 | .lookup t y ix c => wG x y fun v => wG x ix fun i => bS (kK E h t v i c) fun v => oF E o.type v val
 | .extract t i => wG x t fun v => fF v i fun v => oF E o.type v val
 | .call c => match c.callee with
  | .value (.func f) => SI x c.args.toList fun l => bS (pf f l h) fun v => oF E o.type v val
  | .builtin b => match b with
   | .len => SI x c.args.toList fun l => uS E h .len c.argTypes l fun v _ => val v
   | .min => SI x c.args.toList fun l => uS E h .min c.argTypes l fun v _ => val v
   | .max => SI x c.args.toList fun l => uS E h .max c.argTypes l fun v _ => val v
   | _ => none
  | _ => none
 | _ => none
end
end
end Go.bK
/-
  Operations of such functions are told rightly.
-/
namespace Go.bK
noncomputable section
theorem SK (b o n : Nat) : Addr.add ⟨b, o, none⟩ n = ⟨b, o + n, none⟩ := addr_add rfl n
def Sub (h h2 : Hp) : Prop := ∀ i o, h.get i = some o → h2.get i = some o
theorem aFR {E : Env} {h h2 : Hp} (hs : Sub h h2) {t : TypeId} {v x : Value} (e : oI E h t v = some x) : oI E h2 t v = some x := by
 have hc : ∀ (a : Addr) (n : Nat) (l : List Value), gD h a n = some l → gD h2 a n = some l := by
  intro a n l e
  unfold gD at e ⊢
  split at e
  ·cases e
  ·split at e
   ·rename_i hg; rw [hs _ _ hg]; exact e
   ·cases e
 unfold oI at e ⊢
 obtain ⟨a, h1, e⟩ := aA e
 rw [h1]; simp only [Option.bind_some] at e ⊢
 obtain ⟨g, h2', e⟩ := aA e
 rw [h2']; simp only [Option.bind_some] at e ⊢
 cases g with
 | true =>
  simp only at e ⊢
  obtain ⟨n, h3, e⟩ := aA e
  rw [h3]; simp only [Option.bind_some] at e ⊢
  obtain ⟨l, h4, e⟩ := aA e
  rw [hc _ _ _ h4]; exact e
 | false =>
  simp only at e ⊢
  split at e
  ·rename_i h4; rw [hc _ _ _ h4]; exact e
  ·cases e
theorem SN {h h2 : Hp} (hs : Sub h h2) {m : Value} {es : List (Value × Value)} (e : mapOf h m = some es) : mapOf h2 m = some es := by
 unfold mapOf at e ⊢
 split at e
 ·exact e
 ·split at e
  ·rename_i hg; rw [hs _ _ hg]; exact e
  ·cases e
 ·cases e
theorem X6 {E : Env} {h h2 : Hp} (hs : Sub h h2) {t : TypeId} {m y x : Value} {c : Bool} (e : kK E h t m y c = some x) : kK E h2 t m y c = some x := by
 unfold kK at e ⊢
 obtain ⟨hp, e⟩ := aO e
 rw [hp]
 obtain ⟨d, hd, e⟩ := aA e
 simp only [aHN, hd, Option.bind_some] at e ⊢
 split at e
 ·obtain ⟨es, h1, e⟩ := aA e
  rw [SN hs h1]; exact e
 ·cases e
theorem aIG {E : Env} {h h2 : Hp} (hs : Sub h h2) {lC : Array TypeId} {l : Array Value} {x : Value} (e : fM E h lC l = some x) : fM E h2 lC l = some x := by
 unfold fM at e ⊢
 obtain ⟨t, h1, e⟩ := aA e
 rw [h1]; simp only [Option.bind_some] at e ⊢
 obtain ⟨v, h3, e⟩ := aA e
 rw [h3]; simp only [Option.bind_some] at e ⊢
 obtain ⟨d, h4, e⟩ := aA e
 rw [h4]; simp only [Option.bind_some] at e ⊢
 split at e
 ·exact e
 ·exact e
 ·exact e
 ·obtain ⟨es, h5, e⟩ := aA e
  simp only [SN hs h5, Option.bind_some]; exact e
 ·cases e
section
variable {h : Hp} {n0 : Nat} {β : Nat → Nat} {x : FQ} {s : S}
def aX1 (β : Nat → Nat) (u : RV) (w : Value) : Prop := match u with | .val v => w = v | .loc id off => w = .pointer (some ⟨β id, off, none⟩) | .bad => True
theorem uT.put (H : uT h n0 β x s) (d : Nat) {u : RV} {w : Value} (hu : aX1 β u w) : uT h n0 β ⟨(d, u) :: x.r, x.l⟩ { s with tm := s.tm.put d (some w) } := by
 refine ⟨H.sub, H.old, H.low, H.ro, H.loc, H.inj, ?_, ?_, H.df⟩
 ·intro n v hv
  rw [dP] at hv
  show (s.tm.put d (some w)).get n = _
  rw [T.get_put]
  split at hv
  ·rename_i hd; subst hd; cases hv; rw [if_pos rfl]; exact congrArg some hu
  ·rename_i hd; rw [if_neg (fun e => hd e.symm)]; exact H.reg n v hv
 ·intro n id off hv
  rw [dP] at hv
  show (s.tm.put d (some w)).get n = _
  rw [T.get_put]
  split at hv
  ·rename_i hd; subst hd; cases hv; rw [if_pos rfl]; exact congrArg some hu
  ·rename_i hd; rw [if_neg (fun e => hd e.symm)]; exact H.ptr n id off hv
theorem tN {nt : Nat} {d : Option Tmp} {u : RV} {k : KP} {q w : Value} (e : zN nt d u x k = some q) (H : uT h n0 β x s) (hu : aX1 β u w) :
  ∃ tm' x', gY nt s.tm d w = some tm' ∧ uT h n0 β x' { s with tm := tm' } ∧ k x' = some q := by
 unfold zN fJ at e
 dsimp only at e
 split at e
 ·exact ⟨s.tm, x, rfl, H, e⟩
 ·rename_i d
  split at e
  ·rename_i hb
   exact ⟨_, _, by simp only [gY, hb]; rfl, H.put d hu, e⟩
  ·cases e
theorem uT.heap (H : uT h n0 β x s) {h' : Hp} {id : Nat} {c c' : List Value} {t : TypeId} (hc : zG id x.l = some c) (hg : s.h.get (β id) = some (.cells c t none)) (hh : h' = s.h.upd (β id) (.cells c' t none)) :
  uT h n0 β (aBF id c' x) { s with h := h' } := by
 subst hh
 obtain ⟨l1, l2, _⟩ := H.loc id c hc
 have hget : ∀ i, (s.h.upd (β id) (.cells c' t none)).get i = if i = β id then some (.cells c' t none) else s.h.get i := fun i => T.get_put _ _ _ _
 refine ⟨?_, H.old, H.low, H.ro, ?_, ?_, H.reg, H.ptr, H.df⟩
 ·intro i o hi
  show (s.h.upd (β id) (.cells c' t none)).get i = some o
  rw [hget, if_neg (by have := H.old i o hi; omega)]
  exact H.sub i o hi
 ·intro id' c'' hl
  unfold aBF at hl
  rw [dP] at hl
  split at hl
  ·rename_i he; subst he; cases hl
   exact ⟨l1, l2, t, by show (s.h.upd (β id) _).get _ = _; rw [hget, if_pos rfl]⟩
  ·rename_i he
   obtain ⟨m1, m2, t', m3⟩ := H.loc id' c'' hl
   refine ⟨m1, m2, t', ?_⟩
   show (s.h.upd (β id) _).get _ = _
   rw [hget, if_neg (fun e => he (H.inj id id' c c'' hc hl e.symm))]
   exact m3
 ·have low : ∀ a c, zG a (aBF id c' x).l = some c → ∃ c, zG a x.l = some c := by
   intro a d hd
   unfold aBF at hd
   rw [dP] at hd
   split at hd
   ·rename_i he; subst he; exact ⟨c, hc⟩
   ·exact ⟨d, hd⟩
  intro a b ca cb ha hb
  obtain ⟨ca', ha'⟩ := low a ca ha
  obtain ⟨cb', hb'⟩ := low b cb hb
  exact H.inj a b ca' cb' ha' hb'
theorem SQ {nt : Nat} {d : Option Tmp} {c : List Value} {k : KP} {q : Value} {t : TypeId} (e : aO7 nt d c x k = some q) (H : uT h n0 β x s) :
  ∃ tm' x', gY nt s.tm d (ptr s.h.next 0) = some tm' ∧ RP h n0 x' { s with tm := tm', h := iW s.h t c none } ∧ k x' = some q := by
 unfold aO7 fJ at e
 dsimp only at e
 split at e
 ·cases e
 ·rename_i d
  split at e
  ·rename_i hb
   refine ⟨_, _, by simp only [gY, hb]; rfl, ⟨fun i => if i = d then s.h.next else β i, ?_⟩, e⟩
   have hget : ∀ i, (iW s.h t c none).get i = if i = s.h.next then some (.cells c t none) else s.h.get i := fun i => T.get_put _ _ _ _
   have hnx : (iW s.h t c none).next = s.h.next + 1 := rfl
   refine ⟨?_, H.old, ?_, H.ro, ?_, ?_, ?_, ?_, H.df⟩
   ·intro i o hi
    show (iW s.h t c none).get i = some o
    rw [hget, if_neg (by have := H.old i o hi; have := H.low; omega)]
    exact H.sub i o hi
   ·show n0 ≤ (iW s.h t c none).next
    rw [hnx]; have := H.low; omega
   ·intro id c' hl
    rw [dP] at hl
    show n0 ≤ (if id = d then s.h.next else β id) ∧ (if id = d then s.h.next else β id) < (iW s.h t c none).next ∧ ∃ t', (iW s.h t c none).get (if id = d then s.h.next else β id) = some (.cells c' t' none)
    rw [hnx]
    split at hl
    ·rename_i he; subst he; cases hl
     rw [if_pos rfl]
     exact ⟨H.low, by omega, t, by rw [hget, if_pos rfl]⟩
    ·rename_i he
     obtain ⟨m1, m2, t', m3⟩ := H.loc id c' hl
     rw [if_neg (fun e => he e.symm)]
     exact ⟨m1, by omega, t', by rw [hget, if_neg (by omega)]; exact m3⟩
   ·intro a b ca cb ha hb' hab
    rw [dP] at ha hb'
    split at ha
    ·rename_i he; subst he
     rw [if_pos rfl] at hab
     split at hb'
     ·assumption
     ·rename_i he2
      rw [if_neg (fun e => he2 e.symm)] at hab
      have := (H.loc b cb hb').2.1
      omega
    ·rename_i he
     rw [if_neg (fun e => he e.symm)] at hab
     have h1 := (H.loc a ca ha).2.1
     split at hb'
     ·rename_i he2; subst he2
      rw [if_pos rfl] at hab
      omega
     ·rename_i he2
      rw [if_neg (fun e => he2 e.symm)] at hab
      exact H.inj a b ca cb ha hb' hab
   ·intro n v hv
    show (s.tm.put d (some (ptr s.h.next 0))).get n = _
    rw [dP] at hv
    rw [T.get_put]
    split at hv
    ·cases hv
    ·rename_i hd; rw [if_neg (fun e => hd e.symm)]; exact H.reg n v (xK hv)
   ·intro n id off hv
    show (s.tm.put d (some (ptr s.h.next 0))).get n = some (.pointer (some ⟨if id = d then s.h.next else β id, off, none⟩))
    rw [dP] at hv
    rw [T.get_put]
    split at hv
    ·rename_i hd; subst hd; cases hv; rw [if_pos rfl, if_pos rfl]; rfl
    ·rename_i hd
     obtain ⟨k1, k2⟩ := xL hv
     rw [if_neg (fun e => hd e.symm), if_neg k2]; exact H.ptr n id off k1
  ·cases e
end
def aO8 (C : dO) (pf : FuncId → List Value → Hp → Option Value) (h : Hp) : Prop := ∀ f l v, pf f l h = some v → ∀ h2, Sub h h2 → C.iJ f l.toArray h2 = some (v, h2)
section
variable {C : dO} {pf : FuncId → List Value → Hp → Option Value} {rd : Option Nat} {nt : Nat} {h : Hp} {n0 : Nat} {β : Nat → Nat} {x : FQ} {s : S} {o : Oper} {k : KP} {q : Value}
def Done (C : dO) (rd : Option Nat) (nt : Nat) (h : Hp) (n0 : Nat) (o : Oper) (s : S) (k : KP) (q : Value) : Prop :=
 ∃ v s' x', ((iT C.P (jC s.tm) o s.h = some (.val v s'.h)) ∨ ∃ f args, iT C.P (jC s.tm) o s.h = some (.call (.func f) args) ∧ C.iJ f args s.h = some (v, s'.h)) ∧ gY nt s.tm o.dst v = some s'.tm ∧ s'.df = s.df ∧ RP h n0 x' s' ∧ k x' = some q
theorem Done.run (H : Done C rd nt h n0 o s k q) (self : Self) {ops : Array Oper} (hw : cB ops s.tm o = true) : ∃ s' x', jJ C self rd nt ops o s = some (.code .normal s') ∧ RP h n0 x' s' ∧ k x' = some q := by
 obtain ⟨v, s', x', ho, hp, hdf, hr, hk⟩ := H
 refine ⟨s', x', ?_, hr, hk⟩
 obtain ⟨tm', df', h'⟩ := s'
 simp only at hdf hp ho
 subst hdf
 unfold jJ
 rw [hw]
 rcases ho with ho | ⟨f, args, ho, hc⟩
 ·simp only [ho, Option.bind_some, hp]
 ·simp only [ho, Option.bind_some, mR, hc, hp]
theorem jN {v : Value} (e : zN nt o.dst (.val v) x k = some q) (H : uT h n0 β x s) (ho : iT C.P (jC s.tm) o s.h = some (.val v s.h)) : Done C rd nt h n0 o s k q := by
 obtain ⟨tm', x', h1, h2, h3⟩ := tN (w := v) e H rfl
 exact ⟨v, { s with tm := tm' }, x', .inl ho, h1, rfl, ⟨β, h2⟩, h3⟩
theorem OE {id off : Nat} (e : zN nt o.dst (.loc id off) x k = some q) (H : uT h n0 β x s) (ho : iT C.P (jC s.tm) o s.h = some (.val (.pointer (some ⟨β id, off, none⟩)) s.h)) : Done C rd nt h n0 o s k q := by
 obtain ⟨tm', x', h1, h2, h3⟩ := tN (w := .pointer (some ⟨β id, off, none⟩)) e H rfl
 exact ⟨_, { s with tm := tm' }, x', .inl ho, h1, rfl, ⟨β, h2⟩, h3⟩
theorem X7 {u : RV} {y : Operand} (e : zN nt o.dst u x k = some q) (H : uT h n0 β x s) (hu : X5 x y = some u) (ho : ∀ v, jC s.tm y = some v → iT C.P (jC s.tm) o s.h = some (.val v s.h)) : Done C rd nt h n0 o s k q := by
 cases u with
 | val v => exact jN e H (ho v (iM H hu))
 | loc id off => exact OE e H (ho _ (HV H hu))
 | bad =>
  cases y with
  | tmp t =>
   obtain ⟨tm', x', h1, h2, h3⟩ := tN (w := (s.tm.get t).getD undef) e H trivial
   exact ⟨_, { s with tm := tm' }, x', .inl (ho _ rfl), h1, rfl, ⟨β, h2⟩, h3⟩
  | const c => simp only [X5] at hu; split at hu <;> cases hu
  | global g => cases hu
  | func f => cases hu
theorem aBG (hE : C.P.Ok) (hpf : aO8 C pf h) (e : opP C.P pf nt h o x k = some q) (H : uT h n0 β x s) : Done C rd nt h n0 o s k q := by
 have hsub : Sub h s.h := H.sub
 unfold opP at e
 simp only at e
 split at e
 ·rename_i y ho
  split at e
  ·rename_i u hu; exact X7 e H hu fun v hv => by simp only [iT, ho, xW, bN, hv, Option.bind_some]
  ·cases e
 ·rename_i y ho
  split at e
  ·rename_i u hu; exact X7 e H hu fun v hv => by simp only [iT, ho, xW, bN, hv, Option.bind_some]
  ·cases e
 ·rename_i c a b ho
  obtain ⟨vc, hc, e⟩ := gJ e
  obtain ⟨va, ha, e⟩ := gJ e
  obtain ⟨vb, hb, e⟩ := gJ e
  have hc' := iM H hc
  have ha' := iM H ha
  have hb' := iM H hb
  rcases xD e with ⟨rfl, e⟩ | ⟨rfl, e⟩
  ·exact jN e H (by simp only [iT, ho, wC, Z5, hc', ha', hb', Option.bind_some])
  ·exact jN e H (by simp only [iT, ho, wC, Z5, hc', ha', hb', Option.bind_some])
 ·rename_i el ho
  split at e
  ·rename_i z hz
   obtain ⟨tm', x', h1, h2, h3⟩ := SQ (t := el) e H
   exact ⟨_, { tm := tm', df := s.df, h := iW s.h el z.cells.toList none }, x', .inl (by simp only [iT, ho, MF, hz, Option.bind_some]), h1, rfl, h2, h3⟩
  ·cases e
 ·rename_i el y ho
  obtain ⟨v, hv, e⟩ := gJ e
  rw [j5] at e
  obtain ⟨tm', x', h1, h2, h3⟩ := SQ (t := el) e H
  exact ⟨_, { tm := tm', df := s.df, h := iW s.h el v.cells.toList none }, x', .inl (by simp only [iT, ho, WR, oG, iM H hv, Option.bind_some]), h1, rfl, h2, h3⟩
 ·rename_i t ps ho
  obtain ⟨l, e, hl⟩ := KU e
  obtain ⟨v, hv, e⟩ := fG e
  exact jN e H (by simp only [iT, ho, FX, hl H, bN, hv, Option.bind_some])
 ·rename_i t a ho
  split at e
  ·rename_i id off ha
   split at e
   ·rename_i c hc
    obtain ⟨_, _, ty, hg⟩ := H.loc id c hc
    have hp := HV H ha
    split at e
    ·rename_i hagg
     split at e
     ·rename_i n hn
      rw [xG] at e
      obtain ⟨hl, e⟩ := uM _ _ _ e
      refine jN e H ?_
      have : oI C.P s.h t (.pointer (some ⟨β id, off, none⟩)) = some (.agg (Array.mk ((c.drop off).take n))) := by
       simp only [oI, addrOf, Option.bind_some, hagg, hn, gD, hg]
       rw [show Nat.beq ((c.drop off).take n).length n = true from by rw [beq_eq, hl]; simp]
       rfl
      simp only [iT, ho, xX, oG, hp, Option.bind_some, bN, this]
     ·cases e
    ·rename_i hagg
     rw [yO] at e
     obtain ⟨v, hv, e⟩ := aA e
     refine jN (gP e) H ?_
     have : oI C.P s.h t (.pointer (some ⟨β id, off, none⟩)) = some v := by
      refine N8 hagg ?_
      unfold Hp.get at hg
      simp only [jT, hg, hv]
     simp only [iT, ho, xX, oG, hp, Option.bind_some, bN, this]
    ·cases e
   ·cases e
  ·rename_i va ha
   obtain ⟨v, hv, e⟩ := EX e
   exact jN (gP e) H (by simp only [iT, ho, xX, oG, iM H ha, Option.bind_some, bN, aFR hsub hv])
  ·cases e
 ·rename_i t a y ho
  split at e
  ·rename_i id off ha
   obtain ⟨vy, hy, e⟩ := gJ e
   have hp := HV H ha
   have hy' := iM H hy
   split at e
   ·rename_i c hc
    obtain ⟨l1, l2, ty, hg⟩ := H.loc id c hc
    have hro : Nat.ble s.h.ro (β id) = true := by rw [Nat.ble_eq]; have := H.ro; omega
    have fin : ∀ {c' : List Value} {n : Nat}, gU C.P t = some n → Nat.beq vy.cells.size n = true → off + vy.cells.toList.length ≤ c.length → vy.cells.toList.all oneCell = true → c' = c.take off ++ vy.cells.toList ++ c.drop (off + vy.cells.toList.length) →
      zN nt o.dst (.val undef) (aBF id c' x) k = some q → Done C rd nt h n0 o s k q := by
     intro c' n hn hsz hle hall hc' e
     have H2 := H.heap (c' := c') hc hg rfl
     obtain ⟨tm', x', h1, h2, h3⟩ := tN (w := undef) e H2 rfl
     refine ⟨undef, { tm := tm', df := s.df, h := s.h.upd (β id) (.cells c' ty none) }, x', .inl ?_, h1, rfl, ⟨β, h2⟩, h3⟩
     have hle' : Nat.ble (off + vy.cells.toList.length) c.length = true := by rw [Nat.ble_eq]; exact hle
     simp only [iT, ho, CJ, CK, hp, hy', Option.bind_some, yE, oD, addrOf, hn, hsz, aHN, putCells, hro, hg, hle', hall, Bool.and_self, hc']
    split at e
    ·rename_i hagg hn
     obtain ⟨h1, e⟩ := iD e
     rw [yP] at e
     obtain ⟨c', h2, e⟩ := aA e
     rw [GQ] at h1
     obtain ⟨g1, g2⟩ := JH _ _ _ h2
     have hcl := cells_one h1
     exact fin hn (by rw [hcl]; rfl) (by rw [hcl]; exact g1) (by rw [hcl]; simp [h1]) (by rw [hcl]; exact g2) e
    ·rename_i n hagg hn
     cases vy <;> first | (cases e; done) | skip
     rename_i cs
     obtain ⟨h1, e⟩ := iD (show bY (Nat.beq (QK cs.toList) n) _ none = some q from e)
     rw [MI] at h1
     obtain ⟨g1, g2, g3⟩ := JC _ _ _ _ e
     exact fin hn (by simpa [Value.cells] using h1) g1 g2 rfl g3
    ·cases e
   ·cases e
  ·cases e
 ·rename_i op t a b yt ho
  obtain ⟨va, ha, e⟩ := gJ e
  obtain ⟨vb, hb, e⟩ := gJ e
  obtain ⟨v, hv, e⟩ := SF e
  exact jN e H (by simp only [iT, ho, MU, CK, iM H ha, iM H hb, bN, hv, Option.bind_some])
 ·rename_i op t a ho
  obtain ⟨va, ha, e⟩ := gJ e
  obtain ⟨v, hv, e⟩ := X0 e
  refine jN e H ?_
  have := hv
  unfold unV at this
  simp only [iT, ho, Z4, oG, iM H ha, Option.bind_some]
  revert this
  cases plain va with
  | false => intro h; cases h
  | true => intro h; simp only [ok?] at h ⊢; simp only [bN]; rw [h]; rfl
 ·rename_i st d a ho
  obtain ⟨va, ha, e⟩ := gJ e
  split at e
  ·rename_i k1 k2 hs hd
   obtain ⟨n, rfl, e2⟩ := aZ e
   rw [A9] at e2
   refine jN e2 H ?_
   simp only [iT, ho, tF, oG, iM H ha, Option.bind_some, xA, hs, hd]
   have h1 : pQ C.P.P (convert st d (.int k1 n)) = some (.int k2 (k2.wrap n)) := by
    unfold convert
    rw [dD, G9 hE hs]
    simp only [Option.bind_some]
    rw [dD, G9 hE hd]
    rfl
   rw [h1]
   rfl
  ·cases e
 ·rename_i st y f ho
  split at e
  ·rename_i id off hy
   split at e
   ·rename_i fields hu
    split at e
    ·rename_i fd hf
     split at e
     ·rename_i n hn
      split at e
      ·rename_i hb
       refine OE e H ?_
       simp only [iT, ho, lK, oG, HV H hy, Option.bind_some, bN, oW, hu, hf, addrOf, hn, hb, aHN, SK, Nat.add_eq]
      ·cases e
     ·cases e
    ·cases e
   ·cases e
  ·rename_i v hy
   obtain ⟨v', hv', e⟩ := SG e
   exact jN e H (by simp only [iT, ho, lK, oG, iM H hy, bN, hv', Option.bind_some])
  ·cases e
 ·rename_i st y f ho
  obtain ⟨v, hy, e⟩ := gJ e
  obtain ⟨v', hv', e⟩ := KQ e
  exact jN e H (by simp only [iT, ho, xZ, oG, iM H hy, bN, hv', Option.bind_some])
 ·rename_i t y ix ho
  split at e
  ·rename_i id off hy
   obtain ⟨vi, hi, e⟩ := gJ e
   obtain ⟨kd, i, rfl, e⟩ := rV e
   split at e
   ·rename_i len el hu
    split at e
    ·rename_i n hn
     cases i with
     | negSucc i => cases e
     | ofNat i =>
      obtain ⟨hb, e⟩ := iD (show bY (Nat.ble (Nat.succ i) len) _ none = some q from e)
      rw [dJ] at e
      refine OE e H ?_
      have hb' : Nat.blt i len = true := hb
      simp only [iT, ho, lN, CK, HV H hy, iM H hi, Option.bind_some, bN, nG, wY, hu, addrOf, hb', aHN, hn, SK, Nat.add_eq, Nat.mul_eq]
    ·cases e
   ·cases e
  ·rename_i v hy
   obtain ⟨vi, hi, e⟩ := gJ e
   obtain ⟨kd, i, rfl, e⟩ := rV e
   obtain ⟨v', hv', e⟩ := SH (kd := kd) e
   exact jN e H (by simp only [iT, ho, lN, CK, iM H hy, iM H hi, bN, hv', Option.bind_some])
  ·cases e
 ·rename_i t y ix ho
  obtain ⟨v, hy, e⟩ := gJ e
  obtain ⟨vi, hi, e⟩ := gJ e
  obtain ⟨v', hv', e⟩ := fG e
  exact jN (gP e) H (by simp only [iT, ho, yA, CK, iM H hy, iM H hi, bN, hv', Option.bind_some])
 ·rename_i t y ix c ho
  obtain ⟨v, hy, e⟩ := gJ e
  obtain ⟨vi, hi, e⟩ := gJ e
  obtain ⟨v', hv', e⟩ := fG e
  exact jN (gP e) H (by simp only [iT, ho, tV, CK, iM H hy, iM H hi, bN, X6 hsub hv', Option.bind_some])
 ·rename_i t i ho
  obtain ⟨v, hy, e⟩ := gJ e
  obtain ⟨v', hv', e⟩ := RN e
  refine jN (gP e) H ?_
  unfold aFC at hv'
  split at hv'
  ·rw [N7] at hv'
   simp only [iT, ho, qU, oG, iM H hy, Option.bind_some, bN]
   rw [show _[i]? = some v' from by rw [← hv']; simp]; rfl
  ·cases hv'
 ·rename_i c ho
  split at e
  ·rename_i f hc
   obtain ⟨l, e, _, hl⟩ := uU e
   obtain ⟨v, hv, e⟩ := fG e
   obtain ⟨tm', x', h1, h2, h3⟩ := tN (w := v) (gP e) H rfl
   refine ⟨v, { s with tm := tm' }, x', .inr ⟨f, l.toArray, ?_, hpf f l v hv s.h hsub⟩, h1, rfl, ⟨β, h2⟩, h3⟩
   simp only [iT, ho, mO, hc, rA, nN, jC, hl H, Option.bind_some]
   simp
  ·rename_i b hc
   have bi : ∀ {b : Builtin} {l : List Value}, c.callee = .builtin b → (∀ v h', iC C.P h o.type b c.argTypes l = some (.val v h') → h' = h ∧ iC C.P s.h o.type b c.argTypes l = some (.val v s.h)) → kS (jC s.tm) c.args.toList = some l →
     uS C.P h b c.argTypes l (fun v _ => zN nt o.dst (.val v) x k) = some q → Done C rd nt h n0 o s k q := by
    intro b l hcb hh hl e
    obtain ⟨v, h', h1, h2⟩ := KS (ty := o.type) e
    obtain ⟨_, h3⟩ := hh v h' h1
    exact jN h2 H (by simp only [iT, ho, mO, hcb, hl, Option.bind_some, h3])
   split at e
   ·obtain ⟨l, e, _, hl⟩ := uU e
    refine bi hc (fun v h' h1 => ?_) (hl H) e
    obtain ⟨u, hu, h2⟩ := iX (show bN h (fM C.P h c.argTypes l.toArray) = some (.val v h') from h1)
    cases h2
    exact ⟨rfl, by show bN s.h (fM C.P s.h c.argTypes l.toArray) = _; rw [aIG hsub hu]; rfl⟩
   ·obtain ⟨l, e, _, hl⟩ := uU e
    refine bi hc (fun v h' h1 => ?_) (hl H) e
    obtain ⟨hp, h1⟩ := aO (show ok? (l.all plain) (bN h _) = some (.val v h') from h1)
    obtain ⟨u, hu, h2⟩ := iX h1
    cases h2
    exact ⟨rfl, by show ok? (l.all plain) (bN s.h _) = _; rw [hp, hu]; rfl⟩
   ·obtain ⟨l, e, _, hl⟩ := uU e
    refine bi hc (fun v h' h1 => ?_) (hl H) e
    obtain ⟨hp, h1⟩ := aO (show ok? (l.all plain) (bN h _) = some (.val v h') from h1)
    obtain ⟨u, hu, h2⟩ := iX h1
    cases h2
    exact ⟨rfl, by show ok? (l.all plain) (bN s.h _) = _; rw [hp, hu]; rfl⟩
   ·cases e
  ·cases e
 ·cases e
end
end
end Go.bK
/-
  Regions and whole functions of that sort.
-/
namespace Go.bK
noncomputable section
section
variable (E : Env) (pf : FuncId → List Value → Hp → Option Value) (nt : Nat) (h : Hp)
def JK (ops : Array Oper) : List Oper → KP → KP
 | [], k => k
 | o :: rest, k => fun x =>
  match o.guard with
  | none => opP E pf nt h o x (JK ops rest k)
  | some (j, want) => match (ops[j]?).bind (·.dst) with
   | none => none
   | some d => match zG d x.r with
    | some (.val gv) => onG gv
      (match want with
      | true => opP E pf nt h o ⟨(d, .val (.bool true)) :: x.r, x.l⟩ (JK ops rest k)
      | false => zN nt o.dst (.val undef) ⟨(d, .val (.bool true)) :: x.r, x.l⟩ (JK ops rest k))
      (match want with
      | false => opP E pf nt h o ⟨(d, .val (.bool false)) :: x.r, x.l⟩ (JK ops rest k)
      | true => zN nt o.dst (.val undef) ⟨(d, .val (.bool false)) :: x.r, x.l⟩ (JK ops rest k))
      (zN nt o.dst (.val undef) x (JK ops rest k))
    | _ => none
def pJ (l : List Oper) (ops : Array Oper) (d : Bool) (k : KP) : KP :=
 match d with
 | false => JK E pf nt h ops l k
 | true => match Q4 ops with
  | true => JK E pf nt h ops l k
  | false => fun _ => none
end
section
variable {C : dO} {pf : FuncId → List Value → Hp → Option Value} {rd : Option Nat} {nt : Nat} {h : Hp} {n0 : Nat}
theorem uT.same {β : Nat → Nat} {x : FQ} {s : S} (H : uT h n0 β x s) {d : Nat} {v : Value} (hv : zG d x.r = some (.val v)) : uT h n0 β ⟨(d, .val v) :: x.r, x.l⟩ s := by
 refine ⟨H.sub, H.old, H.low, H.ro, H.loc, H.inj, ?_, ?_, H.df⟩
 ·intro n u hu
  rw [dP] at hu
  split at hu
  ·rename_i hd; subst hd; cases hu; exact H.reg _ _ hv
  ·exact H.reg n u hu
 ·intro n id off hu
  rw [dP] at hu
  split at hu
  ·cases hu
  ·exact H.ptr n id off hu
theorem VM (hE : C.P.Ok) (hpf : aO8 C pf h) {ops : Array Oper} (self : Self) : ∀ (l : List Oper) {x : FQ} {k : KP} {q : Value} {s : S}, RP h n0 x s → JK C.P pf nt h ops l k x = some q →
  ∃ s' x', opsV C self rd nt ops l s = some (.code .normal s') ∧ RP h n0 x' s' ∧ k x' = some q
 | [], x, k, q, s, hs, e => ⟨s, x, rfl, hs, e⟩
 | o :: rest, x, k, q, s, hs, e => by
  obtain ⟨β, H⟩ := hs
  have fin : (∃ s' x', jJ C self rd nt ops o s = some (.code .normal s') ∧ RP h n0 x' s' ∧ JK C.P pf nt h ops rest k x' = some q) →
    ∃ s' x', opsV C self rd nt ops (o :: rest) s = some (.code .normal s') ∧ RP h n0 x' s' ∧ k x' = some q := by
   rintro ⟨s', x', h1, h2, h3⟩
   obtain ⟨s2, x2, g1, g2, g3⟩ := VM hE hpf self rest h2 h3
   exact ⟨s2, x2, by unfold opsV; rw [h1]; exact g1, g2, g3⟩
  have not : ∀ {x' : FQ}, uT h n0 β x' s → cB ops s.tm o = false → zN nt o.dst (.val undef) x' (JK C.P pf nt h ops rest k) = some q →
    ∃ s' x', jJ C self rd nt ops o s = some (.code .normal s') ∧ RP h n0 x' s' ∧ JK C.P pf nt h ops rest k x' = some q := by
   intro x' hr hw hf
   obtain ⟨tm', x2, h1, h2, h3⟩ := tN (w := undef) hf hr rfl
   refine ⟨{ s with tm := tm' }, x2, ?_, ⟨β, h2⟩, h3⟩
   unfold jJ
   rw [hw]
   simp only [h1, Option.bind_some]
  unfold JK at e
  split at e
  ·rename_i hg
   exact fin ((aBG hE hpf e H).run self (by simp only [cB, hg]))
  ·rename_i j want hg
   split at e
   ·cases e
   ·rename_i d hd
    split at e
    ·rename_i gv hgv
     have hget := H.reg d gv hgv
     have hw : cB ops s.tm o = aHG gv want := by
      simp only [cB, hg, hd, Option.bind_some, hget]
      cases gv <;> rfl
     have H' := H.same hgv
     rcases NH e with ⟨rfl, e⟩ | ⟨rfl, e⟩ | ⟨hn, e⟩
     ·cases want with
      | true => exact fin ((aBG hE hpf e H').run self (by rw [hw]; rfl))
      | false => exact fin (not H' (by rw [hw]; rfl) e)
     ·cases want with
      | false => exact fin ((aBG hE hpf e H').run self (by rw [hw]; rfl))
      | true => exact fin (not H' (by rw [hw]; rfl) e)
     ·exact fin (not H (by rw [hw]; cases gv <;> first | rfl | exact absurd rfl (hn _)) e)
    ·cases e
theorem RP.tm {x : FQ} {s : S} (H : RP h n0 x s) {tm : T Value} (he : ∀ n, tm.get n = s.tm.get n) : RP h n0 x { s with tm := tm } := by
 obtain ⟨β, H⟩ := H
 exact ⟨β, H.sub, H.old, H.low, H.ro, H.loc, H.inj, fun n v hv => by rw [he]; exact H.reg n v hv, fun n id off hv => by rw [he]; exact H.ptr n id off hv, H.df⟩
theorem aO9 (hE : C.P.Ok) (hpf : aO8 C pf h) (hto : zV C C) : G.GJ (RP h n0) C rd nt (pJ C.P pf nt h) := by
 intro id ops d kn x q e s hs
 unfold pJ at e
 cases d with
 | false =>
  obtain ⟨s', x', h1, h2, h3⟩ := VM (rd := rd) hE hpf (run C 0) ops.toList hs e
  exact ⟨s', x', .aX ⟨0, h1⟩, h2, h3⟩
 | true =>
  simp only at e
  cases hc : Q4 ops with
  | true =>
   rw [hc] at e
   obtain ⟨s', x', h1, h2, h3⟩ := VM (rd := rd) hE hpf (run C 0) ops.toList hs e
   rw [← List.take_append_drop (fU ops) ops.toList] at h1
   obtain ⟨s1, h01, h1⟩ := zX _ _ h1
   obtain ⟨pU, h4, h5⟩ := MW (self := run C 0) rfl hto (fun _ => rfl) hc h01 h1
   exact ⟨_, x', .aX ⟨0, h4⟩, h2.tm h5, h3⟩
  | false => rw [hc] at e; cases e
end
def aBH (E : Env) (x : FQ) : List ResultVar → (List Value → Option Value) → Option Value
 | [], k => k []
 | .tmp t :: l, k => match zG t x.r with
  | some (.val v) => aBH E x l fun vs => k (v :: vs)
  | _ => none
 | .cell a t :: l, k => match zG a x.r with
  | some (.loc id off) => (match zG id x.l with
   | some c => match IV E t with
    | some true => match gU E t with | some n => zF c off fun c => xH c n fun w => aBH E x l fun vs => k (.agg (Array.mk w) :: vs) | none => none
    | some false => A7 c off fun v => aBH E x l fun vs => k (v :: vs)
    | none => none
   | none => none)
  | _ => none
def qE (E : Env) (rs : List ResultVar) : KP := fun x => aBH E x rs fun vs => some (uH vs)
def a9U (E : Env) (rs : List ResultVar) (s : S) (q : Value) : Prop := s.df = [] ∧ ∃ vs, iL E s.tm s.h rs = some vs ∧ q = uH vs
theorem MK {E : Env} {h : Hp} {n0 : Nat} {β : Nat → Nat} {x : FQ} {s : S} (H : uT h n0 β x s) {q : Value} : ∀ (l : List ResultVar) {k : List Value → Option Value}, aBH E x l k = some q → ∃ vs, iL E s.tm s.h l = some vs ∧ k vs = some q
 | [], k, e => ⟨[], rfl, e⟩
 | .tmp t :: l, k, e => by
  unfold aBH at e
  split at e
  ·rename_i v hv
   obtain ⟨vs, h1, h2⟩ := MK H l e
   exact ⟨v :: vs, by simp only [iL, h1, H.reg t v hv, Option.bind_some, Option.getD_some], h2⟩
  ·cases e
 | .cell a t :: l, k, e => by
  unfold aBH at e
  split at e
  ·rename_i id off ha
   split at e
   ·rename_i c hc
    obtain ⟨_, _, ty, hg⟩ := H.loc id c hc
    have hp := H.ptr a id off ha
    split at e
    ·rename_i hagg
     split at e
     ·rename_i n hn
      rw [xG] at e
      obtain ⟨hl, e⟩ := uM _ _ _ e
      obtain ⟨vs, h1, h2⟩ := MK H l e
      have : oI E s.h t (.pointer (some ⟨β id, off, none⟩)) = some (.agg (Array.mk ((c.drop off).take n))) := by
       simp only [oI, addrOf, Option.bind_some, hagg, hn, gD, hg]
       rw [show Nat.beq ((c.drop off).take n).length n = true from by rw [beq_eq, hl]; simp]
       rfl
      exact ⟨_ :: vs, by simp only [iL, h1, hp, Option.getD_some, this, Option.bind_some], h2⟩
     ·cases e
    ·rename_i hagg
     rw [yO] at e
     obtain ⟨v, hv, e⟩ := aA e
     obtain ⟨vs, h1, h2⟩ := MK H l e
     have : oI E s.h t (.pointer (some ⟨β id, off, none⟩)) = some v := by
      refine N8 hagg ?_
      unfold Hp.get at hg
      simp only [jT, hg, hv]
     exact ⟨v :: vs, by simp only [iL, h1, hp, Option.getD_some, this, Option.bind_some], h2⟩
    ·cases e
   ·cases e
  ·cases e
def Same (w w' : World) : Prop := (∀ (b : Nat) (o : Obj), w.heap[b]? = some o → w'.heap[b]? = some o) ∧ w.heap.size ≤ w'.heap.size ∧ w'.os = w.os ∧ w'.tape = w.tape ∧ w'.output = w.output
theorem Same.step {base : Nat} {ρ : Ren} {h : Hp} {w w' : World} (H : dQ base ρ h w) (s : Same w w') : Step base ρ h w ρ h w' := by
 obtain ⟨hk, hsz, h1, h2, h3⟩ := s
 refine ⟨Ext.refl ρ, ⟨?_, H.inj, fun i im hi => ⟨(H.dom i im hi).1, Nat.lt_of_lt_of_le (H.dom i im hi).2 hsz⟩, H.jR, H.lX⟩, fun b o hb _ => hk b o hb, fun _ _ e => .inl e, fun _ o _ e => ⟨o, e⟩, hsz, rfl, Nat.le_refl _, h1, h2, h3⟩
 intro i o hi
 obtain ⟨im, O, k1, k2, k3⟩ := H.obj i o hi
 exact ⟨im, O, k1, hk _ _ k2, k3⟩
def fZ (P : Program) (f : FuncId) (F : List Value → Hp → Option Value) : Prop :=
 ∀ args h v, F args h = some v → plain v = true ∧ Enters P f ∧ ∀ base ρ h2 w (args' : Array Value) m, dQ base ρ h2 w → Sub h h2 → eB ρ args args'.toList →
  CallsIn Fence.wide m P f args' w (fun e w' => e = .returned v ∧ Same w w')
abbrev PF := FuncId → List Value → Hp → Option Value
def eO (P : Program) (pf : PF) : Prop := ∀ f, fZ P f (pf f)
def pfN : PF := fun _ _ _ => none
def FH (f : FuncId) (F : List Value → Hp → Option Value) (pf : PF) : PF := fun g l h => cond (Nat.beq f g) (F l h) (pf g l h)
theorem aTU (P : Program) : eO P pfN := fun _ _ _ _ e => (by cases e)
theorem iN {P : Program} {f : FuncId} {F : List Value → Hp → Option Value} {pf : PF} (h1 : fZ P f F) (h2 : eO P pf) : eO P (FH f F pf) := by
 intro g args h v e
 unfold FH at e
 cases hb : Nat.beq f g with
 | true => rw [hb] at e; obtain rfl := Nat.eq_of_beq_eq_true hb; exact h1 args h v e
 | false => rw [hb] at e; exact h2 g args h v e
open Classical in
def vE (C : dO) (pf : PF) (h : Hp) : dO := { C with iJ := fun g args h2 => match pf g args.toList h with | some v => if Sub h h2 then some (v, h2) else none | none => none }
theorem aPA {C : dO} {pf : PF} {h : Hp} : zV (vE C pf h) (vE C pf h) := by
 intro f args h2 v h' e
 simp only [vE] at e
 split at e
 ·rename_i u hu
  split at e
  ·rename_i hs
   cases e
   refine ⟨rfl, .inr ?_⟩
   simp only [vE, hu]
   rw [if_pos (show Sub h ⟨h2.next, h2.next, h2.aC⟩ from hs)]
  ·cases e
 ·cases e
theorem aPB {C : dO} (hC : C.Ok) {pf : PF} (hpf : eO C.P.P pf) (h : Hp) : (vE C pf h).Ok := by
 refine ⟨hC.env, hC.fn, ?_, hC.mixed⟩
 intro g args h2 v h' e
 simp only [vE] at e
 split at e
 ·rename_i u hu
  split at e
  ·rename_i hs
   cases e
   obtain ⟨p1, p2, p3⟩ := hpf g args.toList h v hu
   refine ⟨p2, fun base ρ w args' m H hl => ?_⟩
   refine (p3 base ρ h2 w args' m H hs hl).mono ?_
   rintro en w' ⟨rfl, hsame⟩
   exact ⟨v, ρ, rfl, hsame.step H, fH ρ p1⟩
  ·cases e
 ·cases e
theorem aPC {C : dO} {pf : PF} {h : Hp} : aO8 (vE C pf h) pf h := by
 intro f l v e h2 hs
 simp only [vE, e]
 rw [if_pos hs]
def dV : List Kd → List Value → (aD → Option Value) → Option Value
 | [], [], k => k .n
 | .i kd :: ks, v :: vs, k => aS kd v fun x => dV ks vs fun al => k (.i x al)
 | .b :: ks, v :: vs, k => dM v fun x => dV ks vs fun al => k (.b x al)
 | .v :: ks, v :: vs, k => dV ks vs fun al => k (.v v al)
 | _, _, _ => none
def JL : Nat → List Kd → List KI
 | _, [] => []
 | i, k :: ks => .reg i k :: JL (i + 1) ks
theorem rD {q : Value} : ∀ {ks : List Kd} {vs : List Value} {k : aD → Option Value} (i : Nat), dV ks vs k = some q → ∃ al x, dB (JL i ks) al = some x ∧ k al = some q ∧ x.l = [] ∧ vs.length = ks.length ∧
   (∀ n id off, zG n x.r ≠ some (.loc id off)) ∧ ∀ n v, zG n x.r = some (.val v) → i ≤ n ∧ vs[n - i]? = some v
 | [], [], k, i, e => ⟨.n, ⟨[], []⟩, rfl, e, rfl, rfl, (fun n id off h => by cases h), (fun n v h => by cases h)⟩
 | .i kd :: ks, v :: vs, k, i, e => by
  obtain ⟨a, rfl, e2⟩ := aZ e
  obtain ⟨al, x, h1, h2, h3, h4, h5, h6⟩ := rD (i + 1) e2
  refine ⟨_, ⟨(i, .val (.int kd a)) :: x.r, x.l⟩, by simp only [JL, dB, h1], h2, h3, by simp [h4], ?_, ?_⟩
  ·intro n id off h
   rw [dP] at h
   split at h
   ·cases h
   ·exact h5 n id off h
  ·intro n v h
   rw [dP] at h
   split at h
   ·rename_i hn; subst hn; cases h; simp
   ·obtain ⟨g1, g2⟩ := h6 n v h
    refine ⟨by omega, ?_⟩
    obtain ⟨m, hm⟩ : ∃ m, n - i = m + 1 := ⟨n - i - 1, by omega⟩
    have : n - (i + 1) = m := by omega
    rw [hm]; rw [this] at g2; simpa using g2
 | .b :: ks, v :: vs, k, i, e => by
  obtain ⟨a, rfl, e2⟩ := kV e
  obtain ⟨al, x, h1, h2, h3, h4, h5, h6⟩ := rD (i + 1) e2
  refine ⟨_, ⟨(i, .val (.bool a)) :: x.r, x.l⟩, by simp only [JL, dB, h1], h2, h3, by simp [h4], ?_, ?_⟩
  ·intro n id off h
   rw [dP] at h
   split at h
   ·cases h
   ·exact h5 n id off h
  ·intro n v h
   rw [dP] at h
   split at h
   ·rename_i hn; subst hn; cases h; simp
   ·obtain ⟨g1, g2⟩ := h6 n v h
    refine ⟨by omega, ?_⟩
    obtain ⟨m, hm⟩ : ∃ m, n - i = m + 1 := ⟨n - i - 1, by omega⟩
    have : n - (i + 1) = m := by omega
    rw [hm]; rw [this] at g2; simpa using g2
 | .v :: ks, u :: vs, k, i, e => by
  obtain ⟨al, x, h1, h2, h3, h4, h5, h6⟩ := rD (ks := ks) (i + 1) e
  refine ⟨_, ⟨(i, .val u) :: x.r, x.l⟩, by simp only [JL, dB, h1], h2, h3, by simp [h4], ?_, ?_⟩
  ·intro n id off h
   rw [dP] at h
   split at h
   ·cases h
   ·exact h5 n id off h
  ·intro n v h
   rw [dP] at h
   split at h
   ·rename_i hn; subst hn; cases h; simp
   ·obtain ⟨g1, g2⟩ := h6 n v h
    refine ⟨by omega, ?_⟩
    obtain ⟨m, hm⟩ : ∃ m, n - i = m + 1 := ⟨n - i - 1, by omega⟩
    have : n - (i + 1) = m := by omega
    rw [hm]; rw [this] at g2; simpa using g2
 | [], _ :: _, k, i, e => by cases e
 | .i _ :: _, [], k, i, e => by cases e
 | .b :: _, [], k, i, e => by cases e
 | .v :: _, [], k, i, e => by cases e
def plainO (x : Option Value) : Option Value := bS x fun v => bY (kT v) (some v) none
theorem dI {C : dO} (hC : C.Ok) {pf : PF} (hpf : eO C.P.P pf) {f : FuncId} {fn : Func} {body : Code} {kinds : List Kd} {A : G.eT (List KI)} {T : Hp → (Nat → aD → Option Value) → (Nat → aD → Option Value)}
  (hf : C.fn f = some fn) (hb : fn.body = some body) (hcut : A.cut = some (0, JL 0 kinds)) (hd : G.distinct ((G.collect body A []).map (·.l)) = true)
  (hT : ∀ h σ l al q, T h σ l al = some q → G.aY iF dB oM (pJ C.P pf (kinds.length + (fn.ntmps - kinds.length)) h) (qE C.P fn.results.toList) (G.collect body A []) l σ al = some q)
  {n : Nat} : fZ C.P.P f (fun args h => plainO (dV kinds args fun al => G.aK (T h) n 0 al)) := by
 intro args h v e
 obtain ⟨u, hu, e⟩ := fG e
 obtain ⟨hp, e⟩ := iD e
 cases e
 rw [nP] at hp
 obtain ⟨al, x, h1, h2, h3, h4, h5, h6⟩ := rD 0 hu
 have hCp := aPB hC hpf h
 have key : ∀ h2 : Hp, (∀ i o, h2.get i = some o → i < h2.next) → Sub h h2 → ∃ h3, eF (vE C pf h) (.call f args.toArray { h2 with ro := h2.next }) (.ret v h3) := by
  intro hh hwf hs
  have all := G.nQ (unpack := dB) (Rel := RP h hh.next) (C := vE C pf h) (rd := none) (Fin := a9U C.P fn.results.toList) RP.pack aDC (aO9 (C := vE C pf h) hC.env aPC aPA) (fin := qE C.P fn.results.toList)
   (by
    intro x q e s hs
    obtain ⟨β, H⟩ := hs
    obtain ⟨vs, g1, g2⟩ := MK H _ e
    cases g2
    exact ⟨H.df, vs, g1, rfl⟩) body A hd (T h) (hT h) n
  have h0 := all _ (G.eY hcut) al x v h2 h1
  have hr : RP h hh.next x { tm := jE args 0 .nil, df := [], h := { hh with ro := hh.next } } := by
   refine ⟨fun _ => 0, ?_, ?_, Nat.le_refl _, Nat.le_refl _, ?_, ?_, ?_, ?_, rfl⟩
   ·exact fun i o hi => hs i o hi
   ·exact fun i o hi => hwf i o (hs i o hi)
   ·intro id c hc; rw [h3] at hc; cases hc
   ·intro a b ca cb ha; rw [h3] at ha; cases ha
   ·intro m w hw
    obtain ⟨_, g2⟩ := h6 m w hw
    show (jE args 0 .nil).get m = _
    rw [I9]
    simp only [Nat.not_lt_zero, if_false, g2]
   ·intro m id off hw; exact absurd hw (h5 m id off)
  obtain ⟨ex, s', ⟨k, hk⟩, hun⟩ := h0 _ hr
  have hcall : dW (vE C pf h) (run (vE C pf h) k) (.call f args.toArray { hh with ro := hh.next }) = (match R.code ex s' with
   | .code .normal s => jL (vE C pf h) (run (vE C pf h) k) fn s.tm s.df .returning s.h
   | .code .ret s => jL (vE C pf h) (run (vE C pf h) k) fn s.tm s.df .returning s.h
   | .code (.panic v) s => jL (vE C pf h) (run (vE C pf h) k) fn s.tm s.df (.panicking v false) s.h
   | _ => none) := by
   simp only [dW]
   rw [show (vE C pf h).fn f = some fn from hf]
   simp only [hb, Option.bind_some, List.size_toArray, h4]
   rw [hk]
   rfl
  refine ⟨s'.h, .aX ⟨k, ?_⟩⟩
  rw [hcall]
  cases ex with
  | normal =>
   obtain ⟨g1, vs, g2, g3⟩ := hun
   rw [g3]
   simp only [g1, jL]
   rw [show (vE C pf h).P = C.P from rfl, g2]
   rfl
  | ret =>
   obtain ⟨g1, vs, g2, g3⟩ := hun
   rw [g3]
   simp only [g1, jL]
   rw [show (vE C pf h).P = C.P from rfl, g2]
   rfl
  | exit i => exact absurd hun (by simp [G.oP])
  | panic w => exact absurd hun (by simp [G.oP])
 have ent : Enters C.P.P f := (hC.fn f fn hf).2
 refine ⟨hp, ent, ?_⟩
 intro base ρ hh w args' m H hs hl
 obtain ⟨h3, k, hr⟩ := key hh (fun i o hi => H.lt hi) hs
 obtain ⟨_, g2⟩ := (tT hCp k).call f args.toArray _ _ hr
 refine (g2 base ρ w args' m H.quiet (by simpa using hl)).mono ?_
 rintro en w' ⟨v', ρ', rfl, hst, hv⟩
 obtain rfl := iQ hv hp
 exact ⟨rfl, fun b o hb => hst.keep b o hb (Wr.quiet H), hst.size, hst.os, hst.tape, hst.output⟩
def pK (f : FuncId) (F : List Value → Hp → Option Value) (iJ : FuncId → Array Value → Hp → Option (Value × Hp)) : FuncId → Array Value → Hp → Option (Value × Hp) :=
 fun g args h => cond (Nat.beq f g) (bS (F args.toList h) fun v => some (v, h)) (iJ g args h)
theorem fT {C : dO} (hC : C.Ok) {f : FuncId} {F : List Value → Hp → Option Value} (hF : fZ C.P.P f F) : dO.Ok { C with iJ := pK f F C.iJ } := by
 refine ⟨hC.env, hC.fn, ?_, hC.mixed⟩
 intro g args h v h' e
 simp only [pK] at e
 cases hb : Nat.beq f g with
 | false => rw [hb] at e; exact hC.iJ g args h v h' e
 | true =>
  rw [hb] at e
  obtain rfl := Nat.eq_of_beq_eq_true hb
  obtain ⟨u, hu, e⟩ := fG (show bS (F args.toList h) _ = some (v, h') from e)
  cases e
  obtain ⟨p1, p2, p3⟩ := hF _ _ _ hu
  refine ⟨p2, fun base ρ w args' m H hl => ?_⟩
  refine (p3 base ρ h w args' m H (fun i o hi => hi) hl).mono ?_
  rintro en w' ⟨rfl, hsame⟩
  exact ⟨v, ρ, rfl, hsame.step H, fH ρ p1⟩
end
end Go.bK
/-
  Regions that draw, told as they are drawn: what stands before the tail is done beside what it waits for alone.
-/
namespace Go.bK
noncomputable section
def vM (os : List (List (Nat × dG))) : List Nat → T dG → T dG
 | [], t => t
 | j :: js, t => vM os js (aP ((os[j]?).getD []) t)
def iH (v : Value) (n : Nat) (h : Hp) (k : List (Nat × dG) → Nat → aF) : aF :=
 bY (kT v) (k [] n) (bY (Nat.ble n h.next) (k (fQ h n (Nat.sub h.next n)) h.next) none)
def uE (o : Oper) : Bool := match o.op with | .store .. => false | _ => true
def GH (o : Oper) : Bool := match o.op with | .store .. => o.guard.isNone && o.dst.isNone | _ => false
def EA (ops : Array Oper) : Bool :=
 lV ops && oV ops (masks ops.toList []) && (List.range (fU ops)).all fun i => match ops[i]? with | some o => (uE o && o.dst.isSome) || GH o | none => false
def iA (l : List (Nat × dG)) (b : Nat) : Bool := l.any fun x => Nat.beq x.1 b
def aRE (ops : Array Oper) (ms : List Nat) (w : Nat) : List Nat :=
 (List.range w).filter fun d => waits ms w d && (List.range ops.size).all fun k => Nat.beq k w || !(waits ms k d) || waits ms k w || waits ms w k
def aAL (os : List (List (Nat × dG))) (cs : List Nat) (b : Nat) : Bool := cs.any fun d => iA ((os[d]?).getD []) b
theorem aE7 {ops : Array Oper} {ms : List Nat} {ls : List Left} {w b : Nat} (h : aAL (ls.map (·.own)) (aRE ops ms w) b = true) : vK ops ms ls w b = true := by
 unfold aAL at h
 rw [List.any_eq_true] at h
 obtain ⟨d, hd, hb⟩ := h
 obtain ⟨h1, h2⟩ := List.mem_filter.1 hd
 unfold vK
 rw [List.any_eq_true]
 refine ⟨d, h1, ?_⟩
 rw [Bool.and_eq_true] at h2
 rw [Bool.and_eq_true, Bool.and_eq_true]
 refine ⟨⟨?_, h2.1⟩, h2.2⟩
 rw [List.getElem?_map] at hb
 cases hl : ls[d]? with
 | none => rw [hl] at hb; cases hb
 | some l => rw [hl] at hb; exact hb
def EW (E : Env) (t : TypeId) (vx vy : Value) (n nx : Nat) (aC : T dG) (chk : Nat → Bool) (k : List (Nat × dG) → aF) : aF :=
 match addrOf vx with
 | none => none
 | some a => bY (chk a.block) (bS (oD E ⟨n, nx, aC⟩ t vx vy) fun h => bY (Nat.beq h.next n) (bS (h.get a.block) fun b => k [(a.block, b)]) none) none
section
variable (E : Env) (iJ : FuncId → Array Value → Hp → Option (Value × Hp)) (nt : Nat) (ms : List Nat) (ops : Array Oper)
def sP (nx : Nat) (hO : T dG) (k : iI → List (List (Nat × dG)) → Nat → aF) : List Nat → List (List (Nat × dG)) → Nat → iI → aF
 | [], os, n, r => k r os n
 | i :: is, os, n, r =>
  match ops[i]? with
  | none => none
  | some o => match o.op with
    | .store t x y => (match o.guard, o.dst with
   | none, none => vN (uF r x) fun vx => vN (uF r y) fun vy => EW E t vx vy n nx (vM os (waitsFor ms i) hO) (fun b => aAL os (aRE ops ms i) b) fun own => sP nx hO k is (os ++ [own]) n r
   | _, _ => none)
    | _ => match o.dst with
   | none => none
   | some d => zM E iJ nt ops [o] (fun r' h' => match r'.at d with
     | none => none
     | some v => match qV o with
      | true => sP nx hO k is (os ++ [[]]) n r'
      | false => iH v n h' fun own n' => sP nx hO k is (os ++ [own]) n' r') r ⟨n, n, match kI o with | true => T.nil | false => vM os (waitsFor ms i) hO⟩
def XE (os : List (List (Nat × dG))) (k : KT) : List Nat → List Nat → KT
 | rest, [] => fun r h => k r ⟨h.next, h.ro, vM os rest h.aC⟩
 | rest, j :: ks => fun r h =>
  match ops[j]? with
  | none => none
  | some o => zM E iJ nt ops [o] (XE os k (rest.filter (fun x => !(waits ms j x))) ks) r ⟨h.next, h.ro, vM os (rest.filter (waits ms j)) h.aC⟩
def aC3 (k : KT) : KT := fun r h =>
 sP E iJ nt (masks ops.toList []) ops h.next h.aC (fun r os n => XE E iJ nt (masks ops.toList []) ops os k (List.range (fU ops)) (List.range' (fU ops) (ops.size - fU ops)) r ⟨n, h.ro, h.aC⟩)
  (List.range (fU ops)) [] h.next r
end
section
variable {C : dO} {self : Self} {rd : Option Nat} {nt : Nat} {ops : Array Oper} {s : S} {ls : List Left}
theorem uG : ∀ (js : List Nat) (t : T dG), (∀ j ∈ js, j < ls.length) → fV ls js t = some (vM (ls.map (·.own)) js t)
 | [], t, _ => rfl
 | j :: js, t, hj => by
  unfold fV vM
  have hlt := hj j (by simp)
  rw [List.getElem?_map, List.getElem?_eq_getElem hlt]
  simp only [Option.bind_some, Option.map_some, Option.getD_some]
  exact uG js _ fun k hk => hj k (by simp [hk])
structure aAM (nt : Nat) (ops : Array Oper) (s : S) (i : Nat) (ls : List Left) (cur : T Value) : Prop where
 len : ls.length = i
 WN : ∀ j, j < i → ∀ x, bG ops j = some x → x < nt ∧ ∃ l, ls[j]? = some l ∧ cur.get x = some l.v
 out : ∀ x, (∀ j, j < i → bG ops j ≠ some x) → cur.get x = s.tm.get x
theorem aAN {i : Nat} {o : Oper} {cur : T Value} (zT : lV ops = true) (hap : oV ops (masks ops.toList []) = true) (ho : ops[i]? = some o) (hops : ∀ j, j < i → ∃ o, ops[j]? = some o) (I : aAM nt ops s i ls cur) :
  ∃ LK, sM nt ops ls (waitsFor (masks ops.toList []) i) s.tm = some LK ∧ ∀ x ∈ readsOf ops o, LK.get x = cur.get x := by
 have hw : ∀ j ∈ waitsFor (masks ops.toList []) i, j < ls.length := fun j hj => by have := gM hj; have := I.len; omega
 obtain ⟨LK, hq⟩ := kU (nt := nt) (ls := ls) (ops := ops) (fun j hj => hops j (by have := I.len; omega)) (fun j hj x hx => (I.WN j (by have := I.len; omega) x hx).1) _ s.tm hw
 refine ⟨LK, hq, ?_⟩
 intro x hx
 by_cases hex : ∃ j, j < i ∧ bG ops j = some x
 ·obtain ⟨j, hj, hd⟩ := hex
  obtain ⟨_, l, hl, tY⟩ := I.WN j hj x hd
  obtain ⟨oj, hoj⟩ := hops j hj
  have wQ : oj.dst = some x := by unfold bG at hd; rw [hoj] at hd; exact hd
  have hwt : waits (masks ops.toList []) i j = true := by
   rcases (gT hap ho hoj wQ).2 with h | h | h
   ·exact h
   ·have := kL zT h; omega
   ·exact absurd hx h
  have hmem : j ∈ waitsFor (masks ops.toList []) i := by unfold waitsFor; rw [List.mem_filter]; exact ⟨by simpa using hj, hwt⟩
  have rH : ∀ k ∈ waitsFor (masks ops.toList []) i, bG ops k = some x → k = j := by
   intro k hk hkd
   have hki := gM hk
   obtain ⟨ok, hok⟩ := hops k hki
   have hkx : ok.dst = some x := by unfold bG at hkd; rw [hok] at hkd; exact hkd
   rcases (gT hap hok hoj wQ).1 with h | h
   ·exact h
   ·exact absurd hkx h
  obtain ⟨l', hl', hg, _⟩ := mU _ hq j hmem hd rH
  rw [hl] at hl'; cases hl'
  rw [hg, tY]
 ·have hno : ∀ j, j < i → bG ops j ≠ some x := fun j hj h => hex ⟨j, hj, h⟩
  rw [jK _ hq x (fun j hj => hno j (gM hj)), I.out x hno]
def leftV (v : Value) (n : Nat) (h : Hp) : Option (Left × Nat) :=
 match plain v with
 | true => some ({ v, own := [] }, n)
 | false => ok? (Nat.ble n h.next) (some ({ v, own := fQ h n (h.next - n) }, h.next))
theorem aE8 {ms : List Nat} {n i : Nat} {o : Oper} {cur LK vD : T Value} {h1 : Hp} {d : Nat} {aC : T dG} (ho : ops[i]? = some o) (hns : uE o = true) (hd : o.dst = some d)
  (hq : sM nt ops ls (waitsFor ms i) s.tm = some LK) (hr : ∀ x ∈ readsOf ops o, LK.get x = cur.get x)
  (iG : (kI o = true ∧ aC = T.nil) ∨ (kI o = false ∧ fV ls (waitsFor ms i) s.h.aC = some aC))
  (e : jJ C self rd nt ops o (st cur ⟨n, n, aC⟩) = some (.code .normal (st vD h1))) :
  ∃ v, gY nt cur (some d) v = some vD ∧ j6 C self nt ops ms s ls n i = leftV v n h1 := by
 unfold jJ at e
 have hw := yB hr
 have hst : ∀ t x y, o.op ≠ .store t x y := by
  intro t x y h
  simp [uE, h] at hns
 split at e
 ·rename_i hw2
  replace e := aA e; obtain ⟨tm, h2, e⟩ := e
  rw [hd] at h2
  cases e
  refine ⟨undef, h2, ?_⟩
  unfold j6
  rw [ho]
  simp only [Option.bind_some, hq]
  rw [hw, show cB ops cur o = false from hw2]
  rfl
 ·rename_i hw2
  replace e := aA e; obtain ⟨r, hr1, e⟩ := e
  have hr2 : iT C.P (jC LK) o { next := n, ro := n, aC } = some r := by rw [← hr1]; exact CF (tX hr)
  have a9K : ∀ (v : Value) (h2 : Hp), r = .val v h2 → j6 C self nt ops ms s ls n i = leftV v n h2 := by
   rintro v h2 rfl
   unfold j6
   rw [ho]
   simp only [Option.bind_some, hq]
   rw [hw, show cB ops cur o = true from hw2]
   simp only
   rcases iG with ⟨hi, rfl⟩ | ⟨hi, iG⟩
   ·simp only [hi, Option.bind_some, hr2]; rfl
   ·simp only [hi, iG, Option.bind_some, hr2]; rfl
  have a9L : ∀ (v : Value) (h2 : Hp) (fn : Fn) (args : Array Value), r = .call fn args → mR C self fn args { next := n, ro := n, aC := aC } = some (.ret v h2) → j6 C self nt ops ms s ls n i = leftV v n h2 := by
   rintro v h2 fn args rfl hcall
   unfold j6
   rw [ho]
   simp only [Option.bind_some, hq]
   rw [hw, show cB ops cur o = true from hw2]
   simp only
   rcases iG with ⟨hi, rfl⟩ | ⟨hi, iG⟩
   ·simp only [hi, Option.bind_some, hr2, hcall]; rfl
   ·simp only [hi, iG, Option.bind_some, hr2, hcall]; rfl
  cases r with
  | val v0 h0 =>
   simp only at e
   replace e := aA e; obtain ⟨tm, h2, e⟩ := e
   rw [hd] at h2
   cases e
   exact ⟨v0, h2, a9K v0 h1 rfl⟩
  | pan v => cases e
  | dfr d0 =>
   simp only at e
   split at e
   ·replace e := aA e; obtain ⟨tm, h2, e⟩ := e
    have := congrArg (fun r : Option R => match r with | some (.code _ s) => s.df | _ => []) e
    simp [st] at this
   ·cases e
  | call fn args =>
   simp only at e
   replace e := aA e; obtain ⟨r2, hr3, e⟩ := e
   cases r2 with
   | ret v0 h0 =>
    simp only at e
    replace e := aA e; obtain ⟨tm, h2, e⟩ := e
    rw [hd] at h2
    cases e
    exact ⟨v0, h2, a9L v0 h1 fn args rfl hr3⟩
   | _ => cases e
theorem aE9 {o : Oper} (hc : qV o = true) {s s1 : S} (e : jJ C self rd nt ops o s = some (.code .normal s1)) : s1.h = s.h := by
 unfold jJ at e
 split at e
 ·replace e := aA e; obtain ⟨tm, _, e⟩ := e
  cases e; rfl
 ·replace e := aA e; obtain ⟨r, hr, e⟩ := e
  obtain ⟨v, rfl, _⟩ := WT hc hr
  simp only at e
  replace e := aA e; obtain ⟨tm, _, e⟩ := e
  cases e; rfl
theorem aAO (v : Value) (n : Nat) {h : Hp} (hn : h.next = n) : leftV v n h = some ({ v, own := [] }, n) := by
 unfold leftV
 cases plain v with
 | true => rfl
 | false =>
  show ok? (Nat.ble n h.next) _ = _
  rw [show Nat.ble n h.next = true from by rw [Nat.ble_eq]; omega, hn, show n - n = 0 by omega]
  rfl
theorem GI {o : Oper} {s s1 : S} (e : opsV C self rd nt ops [o] s = some (.code .normal s1)) : jJ C self rd nt ops o s = some (.code .normal s1) := by
 unfold opsV at e
 replace e := aA e; obtain ⟨r, hr, e⟩ := e
 split at e
 ·rw [hr]; exact e
 ·rename_i ex _ hne; cases e; exact (hne rfl).elim
 ·cases e
theorem vO (hE : C.P.Ok) {t : Nat} (zT : lV ops = true) (hap : oV ops (masks ops.toList []) = true) (ht : t ≤ ops.size) (hop : ∀ i, i < t → ∃ o, ops[i]? = some o ∧ ((uE o = true ∧ ∃ d, o.dst = some d) ∨ GH o = true)) {k : iI → List (List (Nat × dG)) → Nat → aF} {q : Value × Hp} :
  ∀ (m i : Nat) (ls : List Left) (cur : T Value) (r : iI) (n : Nat), i + m = t → aAM nt ops s i ls cur → RR r cur →
   sP C.P C.iJ nt (masks ops.toList []) ops s.h.next s.h.aC k (List.range' i m) (ls.map (·.own)) n r = some q →
   ∃ ls' cur' r' n', jH C self nt ops (masks ops.toList []) s (List.range' i m) ls n = some (ls', n') ∧ aAM nt ops s t ls' cur' ∧ RR r' cur' ∧ k r' (ls'.map (·.own)) n' = some q
 | 0, i, ls, cur, r, n, him, I, hRR, e => ⟨ls, cur, r, n, rfl, by simpa using him ▸ I, hRR, e⟩
 | m + 1, i, ls, cur, r, n, him, I, hRR, e => by
  obtain ⟨o, ho, hcase⟩ := hop i (by omega)
  have hops : ∀ j, j < i → ∃ o, ops[j]? = some o := fun j hj => by
   obtain ⟨o, h, _⟩ := hop j (by omega)
   exact ⟨o, h⟩
  obtain ⟨LK, hq, hreads⟩ := aAN zT hap ho hops I
  rw [List.range'_succ] at e ⊢
  rcases hcase with ⟨hns, d, hd⟩ | NG
  case inr =>
   unfold GH at NG
   split at NG
   case h_2 => cases NG
   rename_i t0 x y aOL
   simp only [Bool.and_eq_true, Option.isNone_iff_eq_none] at NG
   obtain ⟨hg, hdn⟩ := NG
   unfold sP at e
   simp only [ho, aOL, hg, hdn] at e
   obtain ⟨vx, hvx, e⟩ := cO e
   obtain ⟨vy, hvy, e⟩ := cO e
   unfold EW at e
   split at e
   ·cases e
   rename_i a ha
   obtain ⟨hown, e⟩ := iD (show bY _ _ none = some q from e)
   obtain ⟨h2, hst, e⟩ := fG e
   obtain ⟨hnx, e⟩ := iD (show bY _ _ none = some q from e)
   obtain ⟨b, hb, e⟩ := fG e
   have hx := dR hRR hvx
   have hy := dR hRR hvy
   have hx' : jC LK x = some vx := by rw [← hx]; exact tX hreads x (by rw [aOL]; simp [Op.operands])
   have hy' : jC LK y = some vy := by rw [← hy]; exact tX hreads y (by rw [aOL]; simp [Op.operands])
   have iG := uG (ls := ls) (waitsFor (masks ops.toList []) i) s.h.aC (fun j hj => by have := gM hj; have := I.len; omega)
   have hquiet : j6 C self nt ops (masks ops.toList []) s ls n i = some ({ v := undef, own := [(a.block, b)] }, n) := by
    unfold j6
    rw [ho]
    simp only [Option.bind_some, hq]
    rw [show cB ops LK o = true from by simp only [cB, hg]]
    simp only [aOL, iG, Option.bind_some, hx', ha, aE7 hown, WS, hy', hst, hnx, hb, Option.map_some]
   have hmap : ls.map (·.own) ++ [[(a.block, b)]] = (ls ++ [({ v := undef, own := [(a.block, b)] } : Left)]).map (·.own) := by simp
   simp only at e
   rw [hmap] at e
   have hno : bG ops i = none := by unfold bG; rw [ho]; exact hdn
   have I' : aAM nt ops s (i + 1) (ls ++ [({ v := undef, own := [(a.block, b)] } : Left)]) cur := by
    refine ⟨by simp [I.len], ?_, ?_⟩
    ·intro j hj x hx
     have hji : j ≠ i := by rintro rfl; rw [hno] at hx; cases hx
     obtain ⟨g1, l, g2, g3⟩ := I.WN j (by omega) x hx
     exact ⟨g1, l, by rw [List.getElem?_append_left (by have := I.len; omega)]; exact g2, g3⟩
    ·intro x hx
     exact I.out x fun j hj => hx j (by omega)
   obtain ⟨ls', cur', r', n2, k1, k2, k3, k4⟩ := vO hE zT hap ht hop m (i + 1) _ _ _ _ (by omega) I' hRR e
   refine ⟨ls', cur', r', n2, ?_, k2, k3, k4⟩
   unfold jH
   rw [hquiet]
   exact k1
  unfold sP at e
  have hcut : ∀ (F : TypeId → Operand → Operand → aF) (G : aF), (match o.op with | .store t x y => F t x y | _ => G) = G := by
   intro F G
   split
   ·rename_i h; simp [uE, h] at hns
   ·rfl
  simp only [ho] at e
  rw [hcut] at e
  simp only [hd] at e
  obtain ⟨vD, h1, r1, he1, hr1, hk⟩ := yM hE (rd := none) self [o] hRR e
  have iG : ∀ aC, aC = (match kI o with | true => T.nil | false => vM (ls.map (·.own)) (waitsFor (masks ops.toList []) i) s.h.aC) → (kI o = true ∧ aC = T.nil) ∨ (kI o = false ∧ fV ls (waitsFor (masks ops.toList []) i) s.h.aC = some aC) := by
   rintro aC rfl
   cases kI o with
   | true => exact .inl ⟨rfl, rfl⟩
   | false => exact .inr ⟨rfl, uG _ _ (fun j hj => by have := gM hj; have := I.len; omega)⟩
  obtain ⟨v, hput, hquiet⟩ := aE8 (s := s) ho hns hd hq hreads (iG _ rfl) (GI he1)
  obtain ⟨hget, a9M⟩ := jD hput
  split at hk
  ·cases hk
  ·rename_i v2 hv2
   have hvv : v2 = v := by
    have := hr1 d v2 hv2
    rw [hget] at this
    exact (Option.some.inj this).symm
   subst hvv
   obtain ⟨own, n', hl, hk⟩ : ∃ own n', leftV v2 n h1 = some ({ v := v2, own }, n') ∧ sP C.P C.iJ nt (masks ops.toList []) ops s.h.next s.h.aC k (List.range' (i + 1) m) (ls.map (·.own) ++ [own]) n' r1 = some q := by
    cases hcalm : qV o with
    | true =>
     rw [hcalm] at hk
     have hh := aE9 hcalm (GI he1)
     exact ⟨[], n, aAO _ _ (show h1.next = n from congrArg Hp.next hh), hk⟩
    | false =>
    rw [hcalm] at hk
    simp only at hk
    unfold iH at hk
    rw [nP] at hk
    unfold leftV
    cases hp : plain v2 with
    | true => rw [hp] at hk; exact ⟨[], n, rfl, hk⟩
    | false =>
     rw [hp] at hk
     obtain ⟨hb, hk⟩ := iD (show bY _ _ none = some q from hk)
     exact ⟨_, _, by rw [hb]; rfl, hk⟩
   rw [hl] at hquiet
   have hmap : ls.map (·.own) ++ [own] = (ls ++ [({ v := v2, own } : Left)]).map (·.own) := by simp
   rw [hmap] at hk
   have I' : aAM nt ops s (i + 1) (ls ++ [({ v := v2, own } : Left)]) vD := by
    refine ⟨by simp [I.len], ?_, ?_⟩
    ·intro j hj x hx
     by_cases hji : j = i
     ·subst hji
      have wQ : o.dst = some x := by unfold bG at hx; rw [ho] at hx; exact hx
      rw [hd] at wQ
      cases wQ
      refine ⟨a9M, { v := v2, own }, ?_, hget⟩
      rw [← I.len]; simp
     ·have hj' : j < i := by omega
      obtain ⟨g1, l, g2, g3⟩ := I.WN j hj' x hx
      refine ⟨g1, l, ?_, ?_⟩
      ·rw [List.getElem?_append_left (by have := I.len; omega)]; exact g2
      ·obtain ⟨oj, hoj⟩ := hops j hj'
       have wQ : oj.dst = some x := by unfold bG at hx; rw [hoj] at hx; exact hx
       have : o.dst ≠ some x := by
        rcases (gT hap ho hoj wQ).1 with h | h
        ·omega
        ·exact h
       rw [hd] at this
       rw [gF hput this]; exact g3
    ·intro x hx
     have : o.dst ≠ some x := fun h => hx i (by omega) (by unfold bG; rw [ho]; exact h)
     rw [hd] at this
     rw [gF hput this]
     exact I.out x fun j hj => hx j (by omega)
   obtain ⟨ls', cur', r', n2, k1, k2, k3, k4⟩ := vO hE zT hap ht hop m (i + 1) _ _ _ _ (by omega) I' hr1 hk
   refine ⟨ls', cur', r', n2, ?_, k2, k3, k4⟩
   unfold jH
   rw [hquiet]
   exact k1
theorem RL (hE : C.P.Ok) {t : Nat} (zT : lV ops = true) (hap : oV ops (masks ops.toList []) = true) (hls : ls.length = t) (hops : ∀ j, j < ops.size → ∃ o, ops[j]? = some o) (htn : t ≤ ops.size)
  (hnt : ∀ j, j < t → ∀ x, bG ops j = some x → x < nt) {kk : KT} {q : Value × Hp} :
  ∀ (m k : Nat) (rest : List Nat) (h : Hp) (cur Q5 : T Value) (r : iI), k + m = ops.size → t ≤ k → (∀ j ∈ rest, j < t) →
   (∀ x, (∀ j ∈ rest, bG ops j ≠ some x) → Q5.get x = cur.get x) → (∀ j ∈ rest, ∀ x, bG ops j = some x → ∃ l, ls[j]? = some l ∧ cur.get x = some l.v) → RR r cur →
   XE C.P C.iJ nt (masks ops.toList []) ops (ls.map (·.own)) kk rest (List.range' k m) r h = some q →
   ∃ tm h' r', tailV C self rd nt ops (masks ops.toList []) ls rest (List.range' k m) (st Q5 h) = some (.code .normal (st tm h')) ∧ RR r' tm ∧ kk r' h' = some q
 | 0, k, rest, h, cur, Q5, r, hkm, htk, hrest, ha, hb, hRR, e => by
  rw [List.range'_zero] at e
  unfold XE at e
  obtain ⟨tm, h1⟩ := kU (ls := ls) (nt := nt) (ops := ops) (fun j hj => hops j (by omega)) (fun j hj x hx => hnt j (by omega) x hx) rest Q5 (fun j hj => by rw [hls]; exact hrest j hj)
  refine ⟨tm, ⟨h.next, h.ro, vM (ls.map (·.own)) rest h.aC⟩, r, ?_, ?_, e⟩
  ·show tailV C self rd nt ops _ ls rest [] _ = _
   unfold tailV
   simp only [st]
   rw [h1]
   simp only [Option.bind_some]
   rw [uG rest h.aC (fun j hj => by rw [hls]; exact hrest j hj)]
   rfl
  ·intro x v hv
   have XF := hRR x v hv
   by_cases hex : ∃ j, j ∈ rest ∧ bG ops j = some x
   ·obtain ⟨j, hj, hd⟩ := hex
    obtain ⟨l, hl, tY⟩ := hb j hj x hd
    obtain ⟨oj, hoj⟩ := hops j (by have := hrest j hj; omega)
    have wQ : oj.dst = some x := by unfold bG at hd; rw [hoj] at hd; exact hd
    have rH : ∀ k ∈ rest, bG ops k = some x → k = j := by
     intro k hk hkd
     obtain ⟨ok, hok⟩ := hops k (by have := hrest k hk; omega)
     have hkx : ok.dst = some x := by unfold bG at hkd; rw [hok] at hkd; exact hkd
     rcases (gT hap hok hoj wQ).1 with h | h
     ·exact h
     ·exact absurd hkx h
    obtain ⟨l', hl', hg, _⟩ := mU _ h1 j hj hd rH
    rw [hl] at hl'; cases hl'
    rw [hg, ← tY]; exact XF
   ·have hno : ∀ j ∈ rest, bG ops j ≠ some x := fun j hj h => hex ⟨j, hj, h⟩
    rw [jK _ h1 x hno, ha x hno]; exact XF
 | m + 1, k, rest, h, cur, Q5, r, hkm, htk, hrest, ha, hb, hRR, e => by
  have hlt : k < ops.size := by omega
  obtain ⟨o, ho⟩ := hops k hlt
  rw [List.range'_succ] at e ⊢
  unfold XE at e
  simp only [ho] at e
  obtain ⟨vD, h1', r1, he1, hr1, hk⟩ := yM hE (rd := rd) self [o] hRR e
  have hr := GI he1
  have Z8 : ∀ j ∈ rest.filter (waits (masks ops.toList []) k), j < ls.length := fun j hj => by rw [hls]; exact hrest j (List.mem_filter.1 hj).1
  obtain ⟨WO, h1⟩ := kU (ls := ls) (nt := nt) (ops := ops) (fun j hj => hops j (by omega)) (fun j hj x hx => hnt j (by omega) x hx) _ Q5 Z8
  have qH : ∀ {j : Nat} {oj : Oper} {x : Nat}, ops[j]? = some oj → bG ops j = some x → oj.dst = some x := fun hoj hd => by unfold bG at hd; rw [hoj] at hd; exact hd
  have agree : ∀ x, (∀ j ∈ rest.filter (fun j => !(waits (masks ops.toList []) k j)), bG ops j ≠ some x) → WO.get x = cur.get x := by
   intro x hx
   by_cases hex : ∃ j, j ∈ rest ∧ bG ops j = some x
   ·obtain ⟨j, hj, hd⟩ := hex
    obtain ⟨l, hl, tY⟩ := hb j hj x hd
    have hw : waits (masks ops.toList []) k j = true := by
     cases hww : waits (masks ops.toList []) k j with
     | true => rfl
     | false => exact absurd hd (hx j (List.mem_filter.2 ⟨hj, by rw [hww]; rfl⟩))
    obtain ⟨oj, hoj⟩ := hops j (by have := hrest j hj; omega)
    have rH : ∀ i ∈ rest.filter (waits (masks ops.toList []) k), bG ops i = some x → i = j := by
     intro i hi hid
     obtain ⟨oi, hoi⟩ := hops i (by have := hrest i (List.mem_filter.1 hi).1; omega)
     rcases (gT hap hoi hoj (qH hoj hd)).1 with h | h
     ·exact h
     ·exact absurd (qH hoi hid) h
    obtain ⟨l', hl', hg, _⟩ := mU _ h1 j (List.mem_filter.2 ⟨hj, hw⟩) hd rH
    rw [hl] at hl'; cases hl'
    rw [hg]; exact tY.symm
   ·have hno : ∀ j ∈ rest, bG ops j ≠ some x := fun j hj h => hex ⟨j, hj, h⟩
    rw [jK _ h1 x (fun j hj => hno j (List.mem_filter.1 hj).1)]; exact ha x hno
  obtain ⟨v, hp, hrun⟩ := ET hr
  have hreads : ∀ x ∈ readsOf ops o, WO.get x = cur.get x := by
   intro x hx
   apply agree
   intro j hj hd
   obtain ⟨hj1, hj2⟩ := List.mem_filter.1 hj
   obtain ⟨oj, hoj⟩ := hops j (by have := hrest j hj1; omega)
   rcases (gT hap ho hoj (qH hoj hd)).2 with h | h | h
   ·rw [h] at hj2; cases hj2
   ·have := kL zT h; have := hrest j hj1; omega
   ·exact h hx
  have hp' : gY nt cur o.dst v = some vD := hp
  obtain ⟨MV, hp3⟩ : ∃ MV, gY nt WO o.dst v = some MV := yC fun x hx => by
   have aHE := hp'
   rw [hx] at aHE
   exact (jD aHE).2
  have hrun' := hrun WO hreads MV hp3
  obtain ⟨tm, h2', r', k1, k2, k3⟩ := RL hE zT hap hls hops htn hnt m (k + 1) (rest.filter (fun j => !(waits (masks ops.toList []) k j))) h1' vD MV r1 (by omega) (by omega)
   (fun j hj => hrest j (List.mem_filter.1 hj).1)
   (by
    intro x hx
    by_cases hd : o.dst = some x
    ·rw [hd] at hp' hp3
     rw [(jD hp').1, (jD hp3).1]
    ·rw [gF hp' hd, gF hp3 hd]; exact agree x hx)
   (by
    intro j hj x hd
    obtain ⟨hj1, _⟩ := List.mem_filter.1 hj
    obtain ⟨l, hl, tY⟩ := hb j hj1 x hd
    obtain ⟨oj, hoj⟩ := hops j (by have := hrest j hj1; omega)
    have : o.dst ≠ some x := by
     rcases (gT hap ho hoj (qH hoj hd)).1 with h | h
     ·have := hrest j hj1; omega
     ·exact h
    exact ⟨l, hl, by rw [gF hp' this]; exact tY⟩)
   hr1 hk
  refine ⟨tm, h2', r', ?_, k2, k3⟩
  unfold tailV
  rw [ho]
  simp only [Option.bind_some, st, h1]
  rw [uG _ h.aC Z8]
  simp only [Option.bind_some]
  have aHF : jJ C self rd nt ops o { tm := WO, df := [], h := { next := h.next, ro := h.ro, aC := vM (ls.map (·.own)) (rest.filter (waits (masks ops.toList []) k)) h.aC } } = some (.code .normal (st MV h1')) := hrun'
  rw [aHF]
  exact k1
theorem XG (hE : C.P.Ok) (self : Self) {k : KT} {r : iI} {h : Hp} {q : Value × Hp} {tm : T Value} (hc : EA ops = true) (ht : RR r tm) (e : aC3 C.P C.iJ nt ops k r h = some q) :
  ∃ tm' h' r', pW C self rd nt ops (st tm h) = some (.code .normal (st tm' h')) ∧ RR r' tm' ∧ k r' h' = some q := by
 unfold EA at hc
 simp only [Bool.and_eq_true, List.all_eq_true] at hc
 obtain ⟨⟨zT, hap⟩, hall⟩ := hc
 have htn : fU ops ≤ ops.size := rJ (ops := ops) (ms := masks ops.toList []) ops.size
 have hop : ∀ i, i < fU ops → ∃ o, ops[i]? = some o ∧ ((uE o = true ∧ ∃ d, o.dst = some d) ∨ GH o = true) := by
  intro i hi
  have := hall i (by simpa using hi)
  cases ho : ops[i]? with
  | none => rw [ho] at this; cases this
  | some o =>
   rw [ho] at this
   simp only [Bool.or_eq_true, Bool.and_eq_true] at this
   exact ⟨o, rfl, this.imp (fun h => ⟨h.1, Option.isSome_iff_exists.1 h.2⟩) id⟩
 have hops : ∀ j, j < ops.size → ∃ o, ops[j]? = some o := fun j hj => ⟨ops[j], Array.getElem?_eq_getElem hj⟩
 have I0 : aAM nt ops (st tm h) 0 [] tm := ⟨rfl, fun j hj => by omega, fun x _ => rfl⟩
 unfold aC3 at e
 rw [List.range_eq_range'] at e
 obtain ⟨ls, cur, r1, n, h1, I, hr1, hk⟩ := vO (s := st tm h) (self := self) hE zT hap htn hop (fU ops) 0 [] tm r h.next (by omega) I0 ht e
 obtain ⟨tm', h', r', h3, h4, h5⟩ := RL (ls := ls) (C := C) (self := self) (rd := rd) (nt := nt) hE zT hap I.len hops htn (fun j hj x hx => (I.WN j hj x hx).1)
  (ops.size - fU ops) (fU ops) (List.range' 0 (fU ops)) { h with next := n } cur tm r1 (by omega) (Nat.le_refl _) (fun j hj => by simpa using hj)
  (fun x hx => (I.out x fun j hj => hx j (by simpa using hj)).symm) (fun j hj x hx => (I.WN j (by simpa using hj) x hx).2) hr1 hk
 refine ⟨tm', h', r', ?_, h4, h5⟩
 unfold pW
 simp only [zT, hap, Bool.and_self, WS]
 rw [show fD ops (masks ops.toList []) ops.size = fU ops from rfl, List.range_eq_range']
 rw [show (st tm h).h.next = h.next from rfl, h1]
 exact h3
end
def jZ (E : Env) (iJ : FuncId → Array Value → Hp → Option (Value × Hp)) (nt : Nat) (l : List Oper) (ops : Array Oper) (d : Bool) (k : KT) : KT :=
 match d with
 | false => zM E iJ nt ops l k
 | true => match Q4 ops with
  | true => zM E (MC iJ) nt ops (l.take (fU ops)) (zM E iJ nt ops (l.drop (fU ops)) k)
  | false => match EA ops with
   | true => aC3 E iJ nt ops k
   | false => fun _ _ => none
theorem dH {C : dO} (hE : C.P.Ok) {rd : Option Nat} {nt : Nat} : GJ C rd nt (jZ C.P C.iJ nt) := by
 intro id ops d kn r h q e tm ht
 unfold jZ at e
 cases d with
 | false =>
  obtain ⟨tm', h', r', h1, h2, h3⟩ := yM (rd := rd) hE (run C 0) ops.toList ht e
  exact ⟨tm', h', r', .aX ⟨0, h1⟩, h2, h3⟩
 | true =>
  simp only at e
  cases hc : Q4 ops with
  | true =>
   rw [hc] at e
   obtain ⟨tm0, h0, r0, h01, h02, h03⟩ := yM (C := { C with iJ := MC C.iJ }) (rd := rd) hE (fun _ => none) (ops.toList.take (fU ops)) ht e
   obtain ⟨tm', h', r', h1, h2, h3⟩ := yM (rd := rd) hE (run C 0) (ops.toList.drop (fU ops)) h02 h03
   obtain ⟨pU, h4, h5⟩ := MW (C := C) (self := run C 0) (C' := { C with iJ := MC C.iJ }) rfl (Z6 C) (fun _ => rfl) hc h01 h1
   exact ⟨pU, h', r', .aX ⟨0, h4⟩, fun n v hn => by rw [h5]; exact h2 n v hn, h3⟩
  | false =>
   rw [hc] at e
   cases hd : EA ops with
   | true =>
    rw [hd] at e
    obtain ⟨pU, h', r', h1, h2, h3⟩ := XG hE (rd := rd) (run C 0) hd ht e
    exact ⟨pU, h', r', .aX ⟨0, h1⟩, h2, h3⟩
   | false => rw [hd] at e; cases e
end
end Go.bK
/-
  Tables of labels.
-/
namespace Go.bK
noncomputable def uI (f : Int → AL → Hp → aF) (al : AL) (h : Hp) : aF := AL.rec (motive := fun _ => aF) none (fun x r _ => f x r h) (fun _ _ _ => none) (fun _ _ _ => none) al
noncomputable def uB (f : Bool → AL → Hp → aF) (al : AL) (h : Hp) : aF := AL.rec (motive := fun _ => aF) none (fun _ _ _ => none) (fun x r _ => f x r h) (fun _ _ _ => none) al
noncomputable def uV (f : Value → AL → Hp → aF) (al : AL) (h : Hp) : aF := AL.rec (motive := fun _ => aF) none (fun _ _ _ => none) (fun _ _ _ => none) (fun x r _ => f x r h) al
noncomputable def uN (f : Hp → aF) (al : AL) (h : Hp) : aF := AL.rec (motive := fun _ => aF) (f h) (fun _ _ _ => none) (fun _ _ _ => none) (fun _ _ _ => none) al
theorem VR {f : Int → AL → Hp → aF} {al : AL} {h : Hp} {q : Value × Hp} (e : uI f al h = some q) : ∃ a l, al = .i a l ∧ f a l h = some q := by
 cases al <;> first | (cases e; done) | exact ⟨_, _, rfl, e⟩
theorem aDI {f : Bool → AL → Hp → aF} {al : AL} {h : Hp} {q : Value × Hp} (e : uB f al h = some q) : ∃ a l, al = .b a l ∧ f a l h = some q := by
 cases al <;> first | (cases e; done) | exact ⟨_, _, rfl, e⟩
theorem VS {f : Value → AL → Hp → aF} {al : AL} {h : Hp} {q : Value × Hp} (e : uV f al h = some q) : ∃ a l, al = .v a l ∧ f a l h = some q := by
 cases al <;> first | (cases e; done) | exact ⟨_, _, rfl, e⟩
theorem VT {f : Hp → aF} {al : AL} {h : Hp} {q : Value × Hp} (e : uN f al h = some q) : al = .n ∧ f h = some q := by
 cases al <;> first | (cases e; done) | exact ⟨rfl, e⟩
def jI : Sg := fun _ _ _ => none
noncomputable def cK (i : Nat) (X : AL → Hp → aF) (t : Sg) : Sg := fun l vs h => bY (Nat.beq l i) (X vs h) (t l vs h)
def iO (Y : Sg) (t : Sg) : Prop := ∀ l vs h q, t l vs h = some q → Y l vs h = some q
theorem iO.nil {Y : Sg} : iO Y jI := fun _ _ _ _ e => (by cases e)
theorem iO.cons {Y : Sg} (i : Nat) {X : AL → Hp → aF} {t : Sg} (h1 : ∀ vs h q, X vs h = some q → Y i vs h = some q) (h2 : iO Y t) : iO Y (cK i X t) := by
 intro l vs h q e
 unfold cK at e
 cases hb : Nat.beq l i with
 | true => rw [hb] at e; obtain rfl := Nat.eq_of_beq_eq_true hb; exact h1 vs h q e
 | false => rw [hb] at e; exact h2 l vs h q e
end Go.bK
/-
  Tables of labels, for functions with own variables.
-/
namespace Go.bK
noncomputable section
abbrev SgP := Nat → aD → Option Value
def wI (f : Int → aD → Option Value) (al : aD) : Option Value := aD.rec (motive := fun _ => Option Value) none (fun x r _ => f x r) (fun _ _ _ => none) (fun _ _ _ => none) (fun _ _ _ => none) al
def wB (f : Bool → aD → Option Value) (al : aD) : Option Value := aD.rec (motive := fun _ => Option Value) none (fun _ _ _ => none) (fun x r _ => f x r) (fun _ _ _ => none) (fun _ _ _ => none) al
def wV (f : Value → aD → Option Value) (al : aD) : Option Value := aD.rec (motive := fun _ => Option Value) none (fun _ _ _ => none) (fun _ _ _ => none) (fun x r _ => f x r) (fun _ _ _ => none) al
def wL (f : List Value → aD → Option Value) (al : aD) : Option Value := aD.rec (motive := fun _ => Option Value) none (fun _ _ _ => none) (fun _ _ _ => none) (fun _ _ _ => none) (fun x r _ => f x r) al
def wN (f : Option Value) (al : aD) : Option Value := aD.rec (motive := fun _ => Option Value) f (fun _ _ _ => none) (fun _ _ _ => none) (fun _ _ _ => none) (fun _ _ _ => none) al
theorem aPF {f : Int → aD → Option Value} {al : aD} {q : Value} (e : wI f al = some q) : ∃ a l, al = .i a l ∧ f a l = some q := by
 cases al <;> first | (cases e; done) | exact ⟨_, _, rfl, e⟩
theorem aPG {f : Bool → aD → Option Value} {al : aD} {q : Value} (e : wB f al = some q) : ∃ a l, al = .b a l ∧ f a l = some q := by
 cases al <;> first | (cases e; done) | exact ⟨_, _, rfl, e⟩
theorem aPH {f : Value → aD → Option Value} {al : aD} {q : Value} (e : wV f al = some q) : ∃ a l, al = .v a l ∧ f a l = some q := by
 cases al <;> first | (cases e; done) | exact ⟨_, _, rfl, e⟩
theorem aPI {f : List Value → aD → Option Value} {al : aD} {q : Value} (e : wL f al = some q) : ∃ a l, al = .l a l ∧ f a l = some q := by
 cases al <;> first | (cases e; done) | exact ⟨_, _, rfl, e⟩
theorem aPJ {f : Option Value} {al : aD} {q : Value} (e : wN f al = some q) : al = .n ∧ f = some q := by
 cases al <;> first | (cases e; done) | exact ⟨rfl, e⟩
def kP : SgP := fun _ _ => none
def dU (i : Nat) (X : aD → Option Value) (t : SgP) : SgP := fun l vs => bY (Nat.beq l i) (X vs) (t l vs)
def gW (Y : SgP) (t : SgP) : Prop := ∀ l vs q, t l vs = some q → Y l vs = some q
theorem gW.nil {Y : SgP} : gW Y kP := fun _ _ _ e => (by cases e)
theorem gW.cons {Y : SgP} (i : Nat) {X : aD → Option Value} {t : SgP} (h1 : ∀ vs q, X vs = some q → Y i vs = some q) (h2 : gW Y t) : gW Y (dU i X t) := by
 intro l vs q e
 unfold dU at e
 cases hb : Nat.beq l i with
 | true => rw [hb] at e; obtain rfl := Nat.eq_of_beq_eq_true hb; exact h1 vs q e
 | false => rw [hb] at e; exact h2 l vs q e
end
end Go.bK
/-
  Tables of labels: rows proved one by one.
-/
namespace Go.bK
abbrev An := eT.node none
abbrev Ao := eT.nil
abbrev Az := eT.node none eT.nil eT.nil
abbrev Am (l : Nat) (k : List (Nat × Kd)) := eT.node (some (l, k))
noncomputable abbrev Gn := G.eT.node (Kp := List KI) none
noncomputable abbrev Gz := G.eT.nil (Kp := List KI)
noncomputable abbrev Gm (l : Nat) (k : List KI) := G.eT.node (some (l, k))
noncomputable abbrev Gy := Gn Gz Gz
theorem jG {f : Int → AL → Hp → aF} {Y : AL → Hp → aF} (H : ∀ x al h q, f x al h = some q → Y (.i x al) h = some q) (al : AL) (h : Hp) (q : Value × Hp) (e : uI f al h = some q) : Y al h = some q := by
 obtain ⟨x, l, rfl, e⟩ := VR e; exact H x l h q e
theorem rwB {f : Bool → AL → Hp → aF} {Y : AL → Hp → aF} (H : ∀ x al h q, f x al h = some q → Y (.b x al) h = some q) (al : AL) (h : Hp) (q : Value × Hp) (e : uB f al h = some q) : Y al h = some q := by
 obtain ⟨x, l, rfl, e⟩ := aDI e; exact H x l h q e
theorem dN {f : Value → AL → Hp → aF} {Y : AL → Hp → aF} (H : ∀ x al h q, f x al h = some q → Y (.v x al) h = some q) (al : AL) (h : Hp) (q : Value × Hp) (e : uV f al h = some q) : Y al h = some q := by
 obtain ⟨x, l, rfl, e⟩ := VS e; exact H x l h q e
theorem iZ {f : Hp → aF} {Y : AL → Hp → aF} (H : ∀ h, f h = Y .n h) (al : AL) (h : Hp) (q : Value × Hp) (e : uN f al h = some q) : Y al h = some q := by
 obtain ⟨rfl, e⟩ := VT e; exact (H h).symm.trans e
theorem jX {f : Int → aD → Option Value} {Y : aD → Option Value} (H : ∀ x al q, f x al = some q → Y (.i x al) = some q) (al : aD) (q : Value) (e : wI f al = some q) : Y al = some q := by
 obtain ⟨x, l, rfl, e⟩ := aPF e; exact H x l q e
theorem rpB {f : Bool → aD → Option Value} {Y : aD → Option Value} (H : ∀ x al q, f x al = some q → Y (.b x al) = some q) (al : aD) (q : Value) (e : wB f al = some q) : Y al = some q := by
 obtain ⟨x, l, rfl, e⟩ := aPG e; exact H x l q e
theorem nA {f : Value → aD → Option Value} {Y : aD → Option Value} (H : ∀ x al q, f x al = some q → Y (.v x al) = some q) (al : aD) (q : Value) (e : wV f al = some q) : Y al = some q := by
 obtain ⟨x, l, rfl, e⟩ := aPH e; exact H x l q e
theorem rpL {f : List Value → aD → Option Value} {Y : aD → Option Value} (H : ∀ x al q, f x al = some q → Y (.l x al) = some q) (al : aD) (q : Value) (e : wL f al = some q) : Y al = some q := by
 obtain ⟨x, l, rfl, e⟩ := aPI e; exact H x l q e
theorem oO {f : Option Value} {Y : aD → Option Value} (H : f = Y .n) (al : aD) (q : Value) (e : wN f al = some q) : Y al = some q := by
 obtain ⟨rfl, e⟩ := aPJ e; exact H.symm.trans e
theorem dK {Y : Sg} {i : Nat} {X : AL → Hp → aF} {t : Sg} (h1 : ∀ vs h q, X vs h = some q → Y i vs h = some q) (h2 : iO Y t) : iO Y (cK i X t) := iO.cons i h1 h2
theorem dX {Y : SgP} {i : Nat} {X : aD → Option Value} {t : SgP} (h1 : ∀ vs q, X vs = some q → Y i vs = some q) (h2 : gW Y t) : gW Y (dU i X t) := gW.cons i h1 h2
end Go.bK
/-
  A told function whose stores are seen by its caller, as an answer of the evaluator.
-/
namespace Go.bK
end Go.bK
/-
  Tables as lists.
-/
namespace Go.bK
def aL {α : Type} : A α → List (Nat × α)
 | .nil => []
 | .cons k (some v) r => (k, v) :: aL r
 | .cons _ none r => aL r
def tL {α : Type} : T α → List (Nat × α)
 | .leaf es => aL es
 | .node _ l r => tL l ++ tL r
theorem aIH {α : Type} {n : Nat} {v : α} : ∀ {es : A α}, es.get n = some v → (n, v) ∈ aL es
 | .nil, h => by cases h
 | .cons k x r, h => by
  rw [A.zZ] at h
  cases hb : Nat.beq k n with
  | true =>
   have e := Nat.eq_of_beq_eq_true hb
   subst e
   rw [hb] at h
   cases x with
   | none => cases h
   | some x => cases h; exact .head _
  | false =>
   rw [hb] at h
   have := aIH (es := r) h
   cases x with
   | none => exact this
   | some x => exact .tail _ this
theorem OJ {α : Type} {n : Nat} {v : α} : ∀ {t : T α}, t.get n = some v → (n, v) ∈ tL t
 | .leaf es, h => aIH h
 | .node k l r, h => by
  rw [T.z8] at h
  unfold tL
  cases hb : Nat.ble k n with
  | true => rw [hb] at h; exact List.mem_append_right _ (OJ (t := r) h)
  | false => rw [hb] at h; exact List.mem_append_left _ (OJ (t := l) h)
theorem FJ {α β : Type} {f g : α → β} : ∀ {l : List α}, l.map f = l.map g → ∀ x ∈ l, f x = g x
 | [], _, _, h => by cases h
 | a :: l, e, x, h => by
  injection e with e1 e2
  cases h with
  | head => exact e1
  | tail _ h => exact FJ e2 x h
def aDF (fn : Func) : Bool := (fn.name == "runtime.NumGoroutine").not && fn.body.isSome
def fieldsOf (d : TypeDesc) : Array Field := match d with | .struct fs => fs | _ => #[]
def isStruct (d : TypeDesc) : Bool := match d with | .struct _ => true | _ => false
theorem YA {d : TypeDesc} (h : isStruct d = true) : d = .struct (fieldsOf d) := by cases d <;> first | rfl | cases h
end Go.bK
/-
  Functions without arguments, run from no memory: their answer holds in whatever memory. From such an answer to the statement's words.
-/
namespace Go.bK
def h00 : Hp := { next := 0, ro := 0, aC := .nil }
theorem aW9 (w : World) : dQ 0 (fun _ => none) h00 w := by
 refine ⟨?_, ?_, ?_, Nat.le_refl _, Nat.le_refl _⟩
 ·intro i o hi; rw [show h00.get i = none from T.get_nil i] at hi; cases hi
 ·intro i j im jm o p hi; rw [show h00.get i = none from T.get_nil i] at hi; cases hi
 ·intro i im hi; cases hi
def MX (v : Value) : List Value → Hp → Option Value := fun args _ => match args with | [] => some v | _ => none
theorem WW {C : dO} (hC : C.Ok) {f : FuncId} {n : Nat} {v : Value} {h2 : Hp} (hv : plain v = true) (e : run C n (.call f #[] h00) = some (.ret v h2)) : fZ C.P.P f (MX v) := by
 intro args h u hu
 unfold MX at hu
 split at hu
 ·cases hu
  obtain ⟨g1, g2⟩ := (tT hC n).call f #[] h00 _ e
  refine ⟨hv, g1, fun base ρ hh w args' m H hs hl => ?_⟩
  refine (g2 0 (fun _ => none) w args' m (aW9 w) ?_).mono ?_
  ·exact ⟨hl.1, fun i x x' hx => (by cases hx)⟩
  ·rintro en w' ⟨v', ρ', rfl, hst, hvr⟩
   obtain rfl := iQ hvr hv
   refine ⟨rfl, fun b o hb => hst.keep b o hb ?_, hst.size, hst.os, hst.tape, hst.output⟩
   rintro ⟨i, o, im, hi, _⟩
   rw [show h00.get i = none from T.get_nil i] at hi; cases hi
 ·cases hu
def isV (x : Option R) (b : Bool) : Bool := match x with | some (.ret (.bool c) _) => c == b | _ => false
theorem aOC {x : Option R} {b : Bool} (e : isV x b = true) : ∃ h, x = some (.ret (.bool b) h) := by
 unfold isV at e
 split at e
 ·rename_i c h; exact ⟨h, by rw [eq_of_beq e]⟩
 ·cases e
theorem aAA {C : dO} (hC : C.Ok) {f : FuncId} {n : Nat} {b : Bool} (e : isV (run C n (.call f #[] h00)) b = true) : fZ C.P.P f (MX (.bool b)) := by
 obtain ⟨h, e⟩ := aOC e
 exact WW hC rfl e
end Go.bK
/-
  Answers of a told function kept in a table: of one receiver whose last cell is left open, in a heap that holds some blocks.
-/
namespace Go.bK
noncomputable section
def VD {α : Type} (f : α → α → Bool) : List α → List α → Bool
 | [], [] => true
 | x :: l, y :: r => bY (f x y) (VD f l r) false
 | _, _ => false
def aTL (a b : Int) : Bool := match a, b with
 | .ofNat m, .ofNat n => Nat.beq m n
 | .negSucc m, .negSucc n => Nat.beq m n
 | _, _ => false
def a9O (a b : UInt8) : Bool := Nat.beq a.toNat b.toNat
def addrEq : Option Addr → Option Addr → Bool
 | none, none => true
 | some ⟨b, o, none⟩, some ⟨b', o', none⟩ => Nat.beq b b' && Nat.beq o o'
 | _, _ => false
def aRG (a b : Value) : Bool :=
 match a with
 | .int k m => (match b with | .int k' n => EB k k' && aTL m n | _ => false)
 | .bool m => (match b with | .bool n => m == n | _ => false)
 | .string m => (match b with | .string n => VD a9O m.data.toList n.data.toList | _ => false)
 | .slice x n c => (match b with | .slice y m d => addrEq x y && Nat.beq n m && Nat.beq c d | _ => false)
 | _ => false
def veq (a b : Value) : Bool :=
 match a with
 | .agg x => (match b with | .agg y => VD aRG x.toList y.toList | _ => false)
 | a => aRG a b
end
end Go.bK
/-
  Answers of the evaluator kept in a table: of arguments that name some blocks alone.
-/
namespace Go.bK
noncomputable section
def bHM (x : Option R) (v : Value) : Bool := match x with | some (.ret u _) => a9P u v | _ => false
where
 a9P (u v : Value) : Bool := match u with
  | .tuple x => (match v with | .tuple y => VD veq x.toList y.toList | _ => false)
  | u => veq u v
end
end Go.bK
/-
  A call whose answer names blocks of its own, kept: at one number of the next block; of the blocks that it lays those alone are kept that the answer names.
-/
namespace Go.bK
noncomputable section
end
end Go.bK
/-
  Told functions at values that are not known: what each word of their texts is.
-/
namespace Go.bK
section
variable {ρ : Type}
theorem aU (a b : Int) : lI a b = decide (a < b) := by
 cases a <;> cases b
 ·rename_i m n
  show Nat.ble (m + 1) n = _
  rw [Bool.eq_iff_iff, Nat.ble_eq, decide_eq_true_iff]; simp only [Int.ofNat_eq_natCast]; omega
 ·rename_i m n
  show false = _
  rw [eq_comm, decide_eq_false_iff_not]; simp only [Int.ofNat_eq_natCast]; omega
 ·rename_i m n
  show true = _
  rw [eq_comm, decide_eq_true_iff]; simp only [Int.ofNat_eq_natCast]; omega
 ·rename_i m n
  show Nat.ble (n + 1) m = _
  rw [Bool.eq_iff_iff, Nat.ble_eq, decide_eq_true_iff]; omega
theorem bI (a b : Int) : kF a b = decide (a = b) := by
 cases a <;> cases b
 ·rename_i m n
  show Nat.beq m n = _
  rw [beq_eq, Bool.eq_iff_iff, decide_eq_true_iff, decide_eq_true_iff]; simp only [Int.ofNat_eq_natCast]; omega
 ·show false = _
  rw [eq_comm, decide_eq_false_iff_not]; simp only [Int.ofNat_eq_natCast]; omega
 ·show false = _
  rw [eq_comm, decide_eq_false_iff_not]; simp only [Int.ofNat_eq_natCast]; omega
 ·rename_i m n
  show Nat.beq m n = _
  rw [beq_eq, Bool.eq_iff_iff, decide_eq_true_iff, decide_eq_true_iff]; omega
theorem aG {α : Type} (b : Bool) (t f : α) : bY b t f = if b then t else f := by cases b <;> rfl
theorem wrap64_in {n : Int} (f : Int → Option ρ) (h1 : -9223372036854775808 ≤ n) (h2 : n ≤ 9223372036854775807) : wrap64 n f = f n := by
 have e := A9 .i64 n f
 rw [show GR .i64 n f = wrap64 n f from rfl] at e
 rw [e]
 congr 1
 simp only [IntKind.wrap, IntKind.bits, IntKind.signed]
 simp
 omega
theorem aH (k : IntKind) (n : Int) (f : Int → Option ρ) : aS k (.int k n) f = f n := by cases k <;> rfl
theorem aW (b : Bool) (f : Bool → Option ρ) : dM (.bool b) f = f b := rfl
theorem K3 (a : Option Addr) (n c : Nat) (f : Int → Option ρ) : bW (.slice a n c) f = f n := rfl
theorem nV (s : ByteArray) (f : Int → Option ρ) : KJ (.string s) f = f s.size := by
 show gZ s.size (fun n => f (.ofNat n)) = _
 rw [dJ]; rfl
theorem HY (n b o len c i : Nat) (hi : i < len) (k : Value → Option ρ) : dS n (.slice (some ⟨b, o, none⟩) len c) (i : Int) k = k (.pointer (some ⟨b, o + i * n, none⟩)) := by
 show bY (Nat.ble (Nat.succ i) len) (gZ (Nat.add o (Nat.mul i n)) fun o => k (.pointer (some ⟨b, o, none⟩))) none = _
 rw [show Nat.ble (Nat.succ i) len = true from by rw [Nat.ble_eq]; omega, dJ]; rfl
theorem aFV {h : Hp} {b o : Nat} {c : List Value} {t : TypeId} {s : Option Nat} {v : Value} (hg : h.get b = some (.cells c t s)) (hv : c[o]? = some v) (k : Value → Option ρ) : aI h (.pointer (some ⟨b, o, none⟩)) k = k v := by
 show DX h b (fun c _ _ => A7 c o k) = _
 unfold DX
 rw [T.U3, show h.aC.get b = some (.cells c t s) from hg]
 show A7 c o k = _
 rw [yO]
 have : nth c o = some v := by
  clear hg
  induction c generalizing o with
  | nil => simp at hv
  | cons a l ih => cases o with
   | zero => simp at hv; subst hv; rfl
   | succ o => exact ih (by simpa using hv)
 rw [this]; rfl
theorem aJ {α β : Type} (x : α) (f : α → Option β) : bS (some x) f = f x := rfl
theorem aB {α β ρ : Type} (a : α) (b : β) (k : α → β → Option ρ) : aN (some (a, b)) k = k a b := rfl
end
end Go.bK
namespace Go.bK
section
variable {E : Env}
theorem aFW {P : Program} (k : IntKind) (n : Int) : pQ P (asIntOf (.int k n)) = some (k, n) := rfl
theorem wH (hE : E.Ok) {t : TypeId} (h : gI E t = some .string) {s : ByteArray} {i : Nat} {b : UInt8} (hb : s[i]? = some b) : jU E t (.string s) (.int .i64 (i : Int)) = some (.int .u8 b.toNat) := by
 have key : pQ E.P (Instr.index t (.string s) (.int .i64 (i : Int))) = some (.int .u8 b.toNat) := by
  unfold Instr.index
  rw [dD, aFW]
  simp only [Option.bind_some]
  rw [dD, G9 hE h]
  simp only [Option.bind_some]
  rw [if_pos (by omega), Int.toNat_natCast, hb]
  rfl
 unfold jU
 rw [h]
 simp only [Option.bind_some]
 rw [key]
 rfl
theorem BM (h : Hp) (o : dG) : (h.add o).get h.next = some o := by
 unfold Hp.get Hp.add
 simp only [T.get_put, if_true]
end
end Go.bK
/-
  Arguments: what is read of them lies in the evaluator's heap.
-/
namespace Go.bK
def D5 (P : Program) : List (Nat × TypeId) → Nat → Nat → Bool
 | [], o, e => Nat.beq o e
 | x :: l, o, e => Nat.beq x.1 o && D5 P l (o + P.cellsOf x.2) e
def CE (P : Program) (e : TypeId) (m : Nat) : List (Nat × TypeId) := (List.range m).map fun i => (i * P.cellsOf e, e)
def partsOf (fs : Array Field) : List (Nat × TypeId) := fs.toList.map fun f => (f.offset, f.type)
def tO (P : Program) : Nat → TypeId → Bool
 | 0, _ => false
 | n + 1, t => match P.underlying t with
  | some .bool => true
  | some (.int _) => true
  | some .string => true
  | some (.slice e) => Nat.blt 0 (P.cellsOf e) && tO P n e
  | some (.struct fs) => D5 P (partsOf fs) 0 (P.cellsOf t) && (partsOf fs).all fun x => tO P n x.2
  | some (.array m e) => D5 P (CE P e m) 0 (P.cellsOf t) && tO P n e
  | _ => false
def Arg (P : Program) (h : Hp) : Nat → TypeId → List Value → Prop
 | 0, _, _ => False
 | n + 1, t, cs => match P.underlying t with
  | some .bool => ∃ b, cs = [.bool b]
  | some (.int k) => ∃ i, cs = [.int k i] ∧ (Lit.int k i).wf = true
  | some .string => ∃ s : ByteArray, cs = [.string s] ∧ s.size ≤ maxLen
  | some (.slice e) => cs = [.slice none 0 0] ∨ ∃ b m c te, cs = [.slice (some ⟨b, 0, none⟩) m m] ∧ m ≤ maxLen ∧ h.get b = some (.cells c te (some (P.cellsOf e))) ∧ c.length = m * P.cellsOf e ∧
    ∀ i, i < m → Arg P h n e ((c.drop (i * P.cellsOf e)).take (P.cellsOf e))
  | some (.struct fs) => cs.length = P.cellsOf t ∧ ∀ x, x ∈ partsOf fs → Arg P h n x.2 ((cs.drop x.1).take (P.cellsOf x.2))
  | some (.array m e) => cs.length = P.cellsOf t ∧ ∀ i, i < m → Arg P h n e ((cs.drop (i * P.cellsOf e)).take (P.cellsOf e))
  | _ => False
theorem aCW {P : Program} : ∀ {l : List (Nat × TypeId)} {o e : Nat}, D5 P l o e = true → o ≤ e ∧ ∀ y ∈ l, o ≤ y.1
 | [], o, e, h => ⟨by rw [Nat.eq_of_beq_eq_true h]; exact Nat.le_refl _, fun y hy => by cases hy⟩
 | x :: l, o, e, h => by
  simp only [D5, Bool.and_eq_true] at h
  have h1 := Nat.eq_of_beq_eq_true h.1
  obtain ⟨h2, h3⟩ := aCW h.2
  refine ⟨by omega, fun y hy => ?_⟩
  rcases List.mem_cons.1 hy with rfl | hy
  ·omega
  ·have := h3 y hy; omega
theorem MR {P : Program} {e : TypeId} : ∀ (m j : Nat), D5 P ((List.range' j m).map fun i => (i * P.cellsOf e, e)) (j * P.cellsOf e) ((j + m) * P.cellsOf e) = true
 | 0, j => by simp [D5]
 | m + 1, j => by
  rw [List.range'_succ, List.map_cons]
  simp only [D5, Bool.and_eq_true]
  refine ⟨Nat.beq_refl _, ?_⟩
  have := MR (P := P) (e := e) m (j + 1)
  rw [show j * P.cellsOf e + P.cellsOf e = (j + 1) * P.cellsOf e by rw [Nat.add_mul, Nat.one_mul], show j + (m + 1) = j + 1 + m by omega]
  exact this
theorem tC {P : Program} {e : TypeId} {m : Nat} {x : Nat × TypeId} : x ∈ CE P e m ↔ ∃ i, i < m ∧ x = (i * P.cellsOf e, e) := by
 unfold CE
 simp only [List.mem_map, List.mem_range]
 exact ⟨fun ⟨i, h1, h2⟩ => ⟨i, h1, h2.symm⟩, fun ⟨i, h1, h2⟩ => ⟨i, h1, h2.symm⟩⟩
theorem Arg.sub {P : Program} {h h' : Hp} (hs : Sub h h') : ∀ {n : Nat} {t : TypeId} {cs : List Value}, Arg P h n t cs → Arg P h' n t cs
 | 0, _, _, a => a
 | n + 1, t, cs, a => by
  unfold Arg at a ⊢
  split
  ·rename_i hu; rw [hu] at a; exact a
  ·rename_i k hu; rw [hu] at a; exact a
  ·rename_i hu; rw [hu] at a; exact a
  ·rename_i e hu
   rw [hu] at a
   rcases a with a | ⟨b, m, c, te, a1, a2, a3, a4, a5⟩
   ·exact .inl a
   ·exact .inr ⟨b, m, c, te, a1, a2, hs _ _ a3, a4, fun i hi => (a5 i hi).sub hs⟩
  ·rename_i fs hu
   rw [hu] at a
   exact ⟨a.1, fun x hx => (a.2 x hx).sub hs⟩
  ·rename_i m e hu
   rw [hu] at a
   exact ⟨a.1, fun i hi => (a.2 i hi).sub hs⟩
  ·rename_i h1 h2 h3 h4 h5 h6
   split at a <;> first | exact absurd ‹_› (h1 ·) | skip
   all_goals first | exact a | (exfalso; simp_all)
structure EP (ρ : Ren) (h : Hp) (w : World) : Prop where
 obj : ∀ i o, h.get i = some o → ∃ im O, ρ i = some im ∧ w.heap[im.blk]? = some O ∧ sF ρ im False o O
 dom : ∀ i im, ρ i = some im → i < h.next ∧ im.blk < w.heap.size
theorem EP.nil (w : World) : EP (fun _ => none) h00 w :=
 ⟨fun i o hi => (by rw [show h00.get i = none from T.get_nil i] at hi; cases hi), fun i im hi => (by cases hi)⟩
theorem Sub.refl (h : Hp) : Sub h h := fun _ _ e => e
theorem Sub.trans {a b c : Hp} (h : Sub a b) (k : Sub b c) : Sub a c := fun i o e => k i o (h i o e)
theorem EP.add {ρ : Ren} {h : Hp} {w : World} (H : EP ρ h w) {o : dG} {O : Obj} {im : QE} (hO : w.heap[im.blk]? = some O) (hr : sF ρ im False o O) :
  EP (ρ.put h.next im) (h.add o) w ∧ Ext ρ (ρ.put h.next im) ∧ Sub h (h.add o) := by
 have hn : ρ h.next = none := by
  cases e : ρ h.next with
  | none => rfl
  | some jm => have := (H.dom _ _ e).1; omega
 have hx := Ren.UC (im := im) hn
 have hold : ∀ i o', h.get i = some o' → i ≠ h.next := by
  intro i o' hi e
  subst e
  obtain ⟨jm, _, h1, _⟩ := H.obj _ _ hi
  rw [hn] at h1; cases h1
 have hsub : Sub h (h.add o) := by
  intro i o' hi
  rw [Hp.bR, if_neg (hold i o' hi)]; exact hi
 refine ⟨⟨?_, ?_⟩, hx, hsub⟩
 ·intro i o' hi
  rw [Hp.bR] at hi
  by_cases e : i = h.next
  ·rw [if_pos e] at hi; cases hi
   exact ⟨im, O, by simp [Ren.put, e], hO, hr.mono hx id⟩
  ·rw [if_neg e] at hi
   obtain ⟨jm, Q, h1, h2, h3⟩ := H.obj i o' hi
   exact ⟨jm, Q, hx _ _ h1, h2, h3.mono hx id⟩
 ·intro i jm hi
  unfold Ren.put at hi
  by_cases e : i = h.next
  ·rw [if_pos e] at hi; cases hi
   exact ⟨by show i < h.next + 1; omega, (Array.getElem?_eq_some_iff.1 hO).1⟩
  ·rw [if_neg e] at hi
   have := H.dom i jm hi
   exact ⟨by show i < h.next + 1; omega, this.2⟩
def shut (h : Hp) : Hp := ⟨h.next, h.next, h.aC⟩
theorem EP.hrel {ρ : Ren} {h : Hp} {w : World} (H : EP ρ h w) : dQ h.next ρ (shut h) w := by
 have lt : ∀ i o, (shut h).get i = some o → i < h.next := by
  intro i o hi
  obtain ⟨im, _, h1, _⟩ := H.obj i o hi
  exact (H.dom i im h1).1
 refine ⟨?_, ?_, H.dom, Nat.le_refl _, Nat.le_refl _⟩
 ·intro i o hi
  obtain ⟨im, O, h1, h2, h3⟩ := H.obj i o hi
  exact ⟨im, O, h1, h2, h3.mono (Ext.refl ρ) (fun hh => by have := lt i o hi; omega)⟩
 ·intro i j im jm o p hi hj _ _ _ hb
  have := lt i o hi
  omega
section
variable {H : Type} {enc : TypeId × Value → H} {P : Program} {W : World}
abbrev rd (enc : TypeId × Value → H) (P : Program) (W : World) (k : Nat) (t : TypeId) (cs : List Value) : Option (DataW H × List MemPlace) := DataW.trod enc P W 0 (fun _ => true) true k t cs
theorem aEV {w : World} {a : Addr} {v : Value} (e : w.cell? a = some v) : a.spot = none ∧ ∃ C te fr, w.heap[a.block]? = some (.cells C te fr) ∧ C[a.off]? = some v := by
 unfold World.cell? at e
 split at e
 ·rename_i C te fr hg
  split at e
  ·cases e
  ·rename_i hs
   exact ⟨by simpa using hs, C, te, fr, hg, e⟩
 ·cases e
theorem wT {α β : Type} {f : α → Option β} : ∀ {l : List α} {r : List β}, l.mapM f = some r → ∀ x ∈ l, ∃ y, f x = some y
 | [], _, _, x, hx => by cases hx
 | a :: l, r, h, x, hx => by
  rw [List.mapM_cons] at h
  cases ha : f a with
  | none => simp [ha] at h
  | some y =>
   cases hl : l.mapM f with
   | none => simp [ha, hl] at h
   | some ys =>
    rcases List.mem_cons.1 hx with rfl | hx
    ·exact ⟨y, ha⟩
    ·exact wT hl x hx
theorem aGV {k : Nat} {t e : TypeId} {cs : List Value} {x : DataW H × List MemPlace} (hu : P.underlying t = some (.slice e)) (hr : rd enc P W (k + 1) t cs = some x) :
  cs = [.slice none 0 0] ∨ ∃ a len cap, cs = [.slice (some a) len cap] ∧ len ≤ cap ∧ cap ≤ maxLen ∧
   ∀ i, i < cap → ∃ y, (W.cells? 0 (a.add (i * P.cellsOf e)) (P.cellsOf e)).bind (rd enc P W k e) = some y := by
 unfold rd DataW.trod at hr
 rw [hu] at hr
 split at hr <;> first | (cases ‹some (TypeDesc.slice e) = _›; done) | skip
 ·exact .inl rfl
 ·rename_i e' a len cap he
  cases he
  refine .inr ⟨a, len, cap, rfl, ?_⟩
  simp only at hr
  split at hr
  ·rename_i hc
   refine ⟨hc.2.1, hc.2.2, ?_⟩
   simp only [if_true, Option.bind_eq_some_iff, Option.map_eq_some_iff] at hr
   obtain ⟨elems, h1, rest, h2, _⟩ := hr
   intro i hi
   by_cases hl : i < len
   ·exact wT h1 i (List.mem_range.2 hl)
   ·obtain ⟨y, hy⟩ := wT h2 (i - len) (List.mem_range.2 (by omega))
    rw [show len + (i - len) = i by omega] at hy
    exact ⟨y, hy⟩
  ·cases hr
 ·cases hr
theorem aEW {k : Nat} {t : TypeId} {fs : Array Field} {cs : List Value} {x : DataW H × List MemPlace} (hu : P.underlying t = some (.struct fs)) (hr : rd enc P W (k + 1) t cs = some x) :
  cs.length = P.cellsOf t ∧ ∀ f ∈ fs.toList, ∃ y, rd enc P W k f.type ((cs.drop f.offset).take (P.cellsOf f.type)) = some y := by
 unfold rd DataW.trod at hr
 rw [hu] at hr
 change ite _ _ _ = _ at hr
 split at hr
 ·rename_i hlen
  simp only [Option.map_eq_some_iff] at hr
  obtain ⟨xs, h1, _⟩ := hr
  exact ⟨hlen, wT h1⟩
 ·cases hr
theorem aGW {k : Nat} {t : TypeId} {m : Nat} {e : TypeId} {cs : List Value} {x : DataW H × List MemPlace} (hu : P.underlying t = some (.array m e)) (hr : rd enc P W (k + 1) t cs = some x) :
  cs.length = P.cellsOf t ∧ ∀ i, i < m → ∃ y, rd enc P W k e ((cs.drop (i * P.cellsOf e)).take (P.cellsOf e)) = some y := by
 unfold rd DataW.trod at hr
 rw [hu] at hr
 change ite _ _ _ = _ at hr
 split at hr
 ·rename_i hlen
  simp only [Option.map_eq_some_iff] at hr
  obtain ⟨xs, h1, _⟩ := hr
  exact ⟨hlen, fun i hi => wT h1 i (List.mem_range.2 hi)⟩
 ·cases hr
def WQ (W : World) (ρ : Ren) (h : Hp) (K : Ren → Hp → Prop) : Prop := ∃ ρ' h', EP ρ' h' W ∧ Ext ρ ρ' ∧ Sub h h' ∧ K ρ' h'
theorem xS {n : Nat} (IH : ∀ t cs ρ h, (∃ k x, rd enc P W k t cs = some x) → tO P n t = true → EP ρ h W → WQ W ρ h fun ρ' h' => ∃ J6, eB ρ' J6 cs ∧ Arg P h' n t J6) :
  ∀ (l : List (Nat × TypeId)) (o : Nat) (cs : List Value) (ρ : Ren) (h : Hp), D5 P l o (o + cs.length) = true → (∀ x ∈ l, tO P n x.2 = true) →
   (∀ x ∈ l, ∃ k y, rd enc P W k x.2 ((cs.drop (x.1 - o)).take (P.cellsOf x.2)) = some y) → EP ρ h W →
   WQ W ρ h fun ρ' h' => ∃ J6, eB ρ' J6 cs ∧ ∀ x ∈ l, Arg P h' n x.2 ((J6.drop (x.1 - o)).take (P.cellsOf x.2))
 | [], o, cs, ρ, h, ht, _, _, hp => by
  have h0 : cs.length = 0 := by have := Nat.eq_of_beq_eq_true ht; omega
  obtain rfl := List.length_eq_zero_iff.1 h0
  exact ⟨ρ, h, hp, Ext.refl ρ, Sub.refl h, [], .nil ρ, fun x hx => by cases hx⟩
 | x :: l, o, cs, ρ, h, ht, ha, hr, hp => by
  simp only [D5, Bool.and_eq_true] at ht
  have h1 := Nat.eq_of_beq_eq_true ht.1
  obtain ⟨hle, hge⟩ := aCW ht.2
  have hz : P.cellsOf x.2 ≤ cs.length := by omega
  have hl' : (cs.drop (P.cellsOf x.2)).length = cs.length - P.cellsOf x.2 := by simp
  have r0 := hr x (.head _)
  rw [h1, Nat.sub_self, List.drop_zero] at r0
  obtain ⟨zS, h1', hp1, e1, s1, ap, la, aa⟩ := IH x.2 _ ρ h r0 (ha x (.head _)) hp
  obtain ⟨vY, h2, hp2, e2, s2, J6, lb, ab⟩ := xS IH l (o + P.cellsOf x.2) (cs.drop (P.cellsOf x.2)) zS h1' (by rw [hl', show o + P.cellsOf x.2 + (cs.length - P.cellsOf x.2) = o + cs.length by omega]; exact ht.2)
   (fun y hy => ha y (.tail _ hy)) (fun y hy => by
    have := hge y hy
    rw [List.drop_drop, show P.cellsOf x.2 + (y.1 - (o + P.cellsOf x.2)) = y.1 - o by omega]
    exact hr y (.tail _ hy)) hp1
  have hlen : ap.length = P.cellsOf x.2 := by rw [la.1]; simp; omega
  refine ⟨vY, h2, hp2, e1.trans e2, s1.trans s2, ap ++ J6, ?_, ?_⟩
  ·have := (la.mono e2).append lb
   rwa [List.take_append_drop] at this
  ·intro y hy
   rcases List.mem_cons.1 hy with rfl | hy
   ·rw [h1, Nat.sub_self, List.drop_zero, ← hlen, List.take_left]
    exact aa.sub s2
   ·have := hge y hy
    rw [List.drop_append, List.drop_of_length_le (by omega), List.nil_append, hlen, show y.1 - o - P.cellsOf x.2 = y.1 - (o + P.cellsOf x.2) by omega]
    exact ab y hy
theorem aEX {a : Addr} {m z : Nat} (hz : 0 < z) (hm : 0 < m) (hr : ∀ i, i < m → ∃ cs, W.cells? 0 (a.add (i * z)) z = some cs) :
  a.spot = none ∧ ∃ C te fr, W.heap[a.block]? = some (.cells C te fr) ∧ a.off + m * z ≤ C.size ∧ ∀ i cs, i < m → W.cells? 0 (a.add (i * z)) z = some cs → cs = (C.toList.drop (a.off + i * z)).take z := by
 obtain ⟨cs0, h0⟩ := hr 0 hm
 rw [Nat.zero_mul] at h0
 obtain ⟨_, hl0, hc0⟩ := World.cells?_some h0
 have h00 := hc0 0 hz
 have add0 : ∀ b : Addr, b.add 0 = b := fun b => rfl
 rw [add0, add0, List.getElem?_eq_getElem (by omega)] at h00
 obtain ⟨hs, C, te, fr, hg, _⟩ := aEV h00
 have bHG : ∀ i, W.cell? (a.add i) = C[a.off + i]? := by
  intro i
  rw [gQ hs]
  simp [World.cell?, hg]
 have key : ∀ i cs, W.cells? 0 (a.add (i * z)) z = some cs → cs.length = z ∧ ∀ j, j < z → C[a.off + i * z + j]? = cs[j]? := by
  intro i cs h
  obtain ⟨_, g1, g2⟩ := World.cells?_some h
  refine ⟨g1, fun j hj => ?_⟩
  rw [← g2 j hj, gQ hs, gQ (by rfl)]
  simp [World.cell?, hg]
 refine ⟨hs, C, te, fr, hg, ?_, ?_⟩
 ·obtain ⟨cs, hcs⟩ := hr (m - 1) (by omega)
  obtain ⟨g1, g2⟩ := key _ _ hcs
  have := g2 (z - 1) (by omega)
  rw [List.getElem?_eq_getElem (by omega)] at this
  have := (Array.getElem?_eq_some_iff.1 this).1
  have hmz : m * z = (m - 1) * z + z := by rw [← Nat.succ_mul]; congr 1; omega
  omega
 ·intro i cs hi hcs
  obtain ⟨g1, g2⟩ := key _ _ hcs
  apply List.ext_getElem?
  intro j
  rw [List.getElem?_take, List.getElem?_drop]
  by_cases hj : j < z
  ·rw [if_pos hj, ← g2 j hj]; simp
  ·rw [if_neg hj, List.getElem?_eq_none_iff]; omega
theorem xU (hB : ∃ (b : Nat) (C : Array Value) (te : TypeId) (fr : Nat × Nat), W.heap[b]? = some (Obj.cells C te fr)) : ∀ (n : Nat) (t : TypeId) (cs : List Value) (ρ : Ren) (h : Hp), (∃ k x, rd enc P W k t cs = some x) → tO P n t = true → EP ρ h W →
  WQ W ρ h fun ρ' h' => ∃ J6, eB ρ' J6 cs ∧ Arg P h' n t J6
 | 0, _, _, _, _, _, ha, _ => by cases ha
 | n + 1, t, cs, ρ, h, ⟨k, x, hr⟩, ha, hp => by
  cases k with
  | zero => cases hr
  | succ k =>
  unfold tO at ha
  split at ha
  ·rename_i hu
   unfold rd DataW.trod at hr
   rw [hu] at hr
   split at hr <;> simp_all
   exact ⟨ρ, h, hp, Ext.refl ρ, Sub.refl h, _, eB.cons (.bool _) (.nil ρ), by unfold Arg; rw [hu]; exact ⟨_, rfl⟩⟩
  ·rename_i ki hu
   unfold rd DataW.trod at hr
   rw [hu] at hr
   split at hr <;> simp_all
   exact ⟨ρ, h, hp, Ext.refl ρ, Sub.refl h, _, eB.cons (.int _ _) (.nil ρ), by unfold Arg; rw [hu]; exact ⟨_, rfl, by simp_all⟩⟩
  ·rename_i hu
   unfold rd DataW.trod at hr
   rw [hu] at hr
   split at hr <;> simp_all
   exact ⟨ρ, h, hp, Ext.refl ρ, Sub.refl h, _, eB.cons (.string _) (.nil ρ), by unfold Arg; rw [hu]; exact ⟨_, rfl, by simp_all⟩⟩
  ·rename_i e hu
   simp only [Bool.and_eq_true] at ha
   have hz : 0 < P.cellsOf e := by have := ha.1; rw [Nat.blt_eq] at this; exact this
   rcases aGV hu hr with rfl | ⟨a, len, cap, rfl, hlc, hcm, hel⟩
   ·exact ⟨ρ, h, hp, Ext.refl ρ, Sub.refl h, [.slice none 0 0], eB.cons .oH (.nil ρ), by unfold Arg; rw [hu]; exact .inl rfl⟩
   by_cases hc : cap = 0
   ·subst hc
    obtain rfl : len = 0 := by omega
    obtain ⟨b, C, te, fr, hb⟩ := hB
    obtain ⟨hp', hx, hs⟩ := hp.add (o := dG.cells [] te (some (P.cellsOf e))) (im := ⟨b, 0, C.size, some (P.cellsOf e)⟩) hb
     (.cells [] te _ C fr rfl rfl (fun hh => by cases hh) (by simp) (fun k v hv => by simp at hv) (fun hh => hh.elim))
    refine ⟨_, _, hp', hx, hs, [.slice (some ⟨h.next, 0, none⟩) 0 0], eB.cons (.ghost _ _ ⟨b, 0, C.size, some (P.cellsOf e)⟩ (P.cellsOf e) rfl (by simp [Ren.put]) rfl) (.nil _), ?_⟩
    unfold Arg; rw [hu]
    exact .inr ⟨h.next, 0, [], te, rfl, Nat.zero_le _, by rw [Hp.bR, if_pos rfl], by simp, fun i hi => by omega⟩
   ·have hcp : 0 < cap := by omega
    obtain ⟨hs, C, te, fr, hg, hsz, hrow⟩ := aEX hz hcp (fun i hi => by
     obtain ⟨y, hy⟩ := hel i hi
     simp only [Option.bind_eq_some_iff] at hy
     obtain ⟨cs, h1, _⟩ := hy
     exact ⟨cs, h1⟩)
    have hll : len * P.cellsOf e ≤ cap * P.cellsOf e := Nat.mul_le_mul_right _ hlc
    have aQ8 : ((C.toList.drop a.off).take (len * P.cellsOf e)).length = len * P.cellsOf e := by simp; omega
    obtain ⟨ρ', h', hp', hx, hsub, J6, la, aa⟩ := xS (IH := fun t cs ρ h hr ha hp => xU hB n t cs ρ h hr ha hp) (CE P e len) 0 ((C.toList.drop a.off).take (len * P.cellsOf e)) ρ h
     (by rw [aQ8]; have := MR (P := P) (e := e) len 0; simp only [Nat.zero_add, Nat.zero_mul] at this ⊢; unfold CE; rw [List.range_eq_range']; exact this)
     (fun x hx => by obtain ⟨i, _, rfl⟩ := tC.1 hx; exact ha.2)
     (fun x hx => by
      obtain ⟨i, hi, rfl⟩ := tC.1 hx
      obtain ⟨y, hy⟩ := hel i (by omega)
      simp only [Option.bind_eq_some_iff] at hy
      obtain ⟨cs, h1, h2⟩ := hy
      refine ⟨k, y, ?_⟩
      have he := hrow i cs (by omega) h1
      have hi2 : i * P.cellsOf e + P.cellsOf e ≤ len * P.cellsOf e := by rw [← Nat.succ_mul]; exact Nat.mul_le_mul_right _ hi
      rw [Nat.sub_zero, List.drop_take, List.take_take, List.drop_drop, Nat.min_eq_left (show P.cellsOf e ≤ len * P.cellsOf e - i * P.cellsOf e by omega), show a.off + i * P.cellsOf e = a.off + i * P.cellsOf e from rfl, ← he]
      exact h2) hp
    have hal : J6.length = len * P.cellsOf e := by rw [la.1]; exact aQ8
    obtain ⟨hp2, hx2, hs2⟩ := hp'.add (o := dG.cells J6 te (some (P.cellsOf e))) (im := ⟨a.block, a.off, C.size, some (P.cellsOf e)⟩) hg
     (.cells J6 te _ C fr rfl rfl (fun hh => by cases hh) (by show a.off + J6.length ≤ C.size; omega) (fun k v hv => by
      obtain ⟨v', h1, h2⟩ := la.get hv
      refine ⟨v', ?_, h2⟩
      have hk := (List.getElem?_eq_some_iff.1 hv).1
      rw [List.getElem?_take, if_pos (by omega), List.getElem?_drop] at h1
      rw [Nat.add_comm]
      simpa using h1) (fun hh => hh.elim))
    refine ⟨_, _, hp2, hx.trans hx2, hsub.trans hs2, [.slice (some ⟨h'.next, 0, none⟩) len len], eB.cons (.slice _ _ _ _ _ ⟨rfl, hs, ⟨a.block, a.off, C.size, some (P.cellsOf e)⟩, by simp [Ren.put], rfl, .inr ⟨P.cellsOf e, rfl, .inr (by simp), hlc, hsz⟩⟩) (.nil _), ?_⟩
    unfold Arg; rw [hu]
    refine .inr ⟨h'.next, len, J6, te, rfl, by omega, by rw [Hp.bR, if_pos rfl], hal, fun i hi => ?_⟩
    exact (aa (i * P.cellsOf e, e) (tC.2 ⟨i, hi, rfl⟩)).sub hs2
  ·rename_i fs hu
   simp only [Bool.and_eq_true, List.all_eq_true] at ha
   obtain ⟨hlen, h1⟩ := aEW hu hr
   obtain ⟨ρ', h', hp', hx, hsub, J6, la, aa⟩ := xS (IH := fun t cs ρ h hr ha hp => xU hB n t cs ρ h hr ha hp) (partsOf fs) 0 cs ρ h
    (by rw [Nat.zero_add, hlen]; exact ha.1) ha.2 (fun x hx => by
     unfold partsOf at hx
     obtain ⟨f, hf, rfl⟩ := List.mem_map.1 hx
     obtain ⟨y, hy⟩ := h1 f hf
     exact ⟨k, y, hy⟩) hp
   refine ⟨ρ', h', hp', hx, hsub, J6, la, ?_⟩
   unfold Arg; rw [hu]
   exact ⟨by rw [la.1]; exact hlen, aa⟩
  ·rename_i m e hu
   simp only [Bool.and_eq_true] at ha
   obtain ⟨hlen, h1⟩ := aGW hu hr
   obtain ⟨ρ', h', hp', hx, hsub, J6, la, aa⟩ := xS (IH := fun t cs ρ h hr ha hp => xU hB n t cs ρ h hr ha hp) (CE P e m) 0 cs ρ h
    (by rw [Nat.zero_add, hlen]; exact ha.1) (fun x hx => by obtain ⟨i, _, rfl⟩ := tC.1 hx; exact ha.2) (fun x hx => by
     obtain ⟨i, hi, rfl⟩ := tC.1 hx
     obtain ⟨y, hy⟩ := h1 i hi
     exact ⟨k, y, hy⟩) hp
   refine ⟨ρ', h', hp', hx, hsub, J6, la, ?_⟩
   unfold Arg; rw [hu]
   exact ⟨by rw [la.1]; exact hlen, fun i hi => aa (i * P.cellsOf e, e) (tC.2 ⟨i, hi, rfl⟩)⟩
  ·cases ha
end
end Go.bK
/-
  Laws with arguments: from the evaluator's answer at whatever data to the statement's words.
-/
namespace Go.bK
section
variable {H : Type} {enc : TypeId × Value → H} {P : Program} {W : World}
theorem MS (hw : W.ShapedOpen P) : ∃ (b : Nat) (C : Array Value) (te : TypeId) (fr : Nat × Nat), W.heap[b]? = some (Obj.cells C te fr) := by
 obtain ⟨_, h2⟩ := hw
 have hsz : P.globals.size < (begin P (fun _ _ => 0) default).world.heap.size := by
  simp only [begin, Array.size_push, Array.size_mapIdx]; omega
 obtain ⟨o, o0, g1, g2, g3⟩ := h2 P.globals.size (Nat.le_refl _) hsz
 rw [Nat.sub_self] at g3
 have g4 : o = o0 := by simpa [World.looseAt] using g3
 subst g4
 refine ⟨P.globals.size, (Array.range P.types.size).map fun t => .int .u64 (Int.ofNat t), 0, (0, 0), ?_⟩
 rw [g1, ← g2]
 simp only [begin]
 rw [Array.getElem?_push_lt (by simp; omega)]
 simp [Array.getElem_push]
 rw [if_pos (by omega), if_pos (by omega)]
def EQ (P : Program) (h : Hp) (n : Nat) (t : TypeId) (v : Value) : Prop :=
 match P.underlying t with
 | some (.struct _) | some (.array _ _) => ∃ cs : List Value, v = .agg cs.toArray ∧ Arg P h n t cs
 | _ => Arg P h n t [v]
def tQ (P : Program) (h : Hp) (n : Nat) : List TypeId → List Value → Prop
 | [], [] => True
 | t :: ts, v :: vs => EQ P h n t v ∧ tQ P h n ts vs
 | _, _ => False
theorem EQ.sub {h h' : Hp} (hs : Sub h h') {n : Nat} {t : TypeId} {v : Value} (a : EQ P h n t v) : EQ P h' n t v := by
 unfold EQ at a ⊢
 split
 ·rename_i hu; rw [hu] at a; obtain ⟨cs, h1, h2⟩ := a; exact ⟨cs, h1, h2.sub hs⟩
 ·rename_i hu; rw [hu] at a; obtain ⟨cs, h1, h2⟩ := a; exact ⟨cs, h1, h2.sub hs⟩
 ·rename_i h1 h2
  split at a
  ·exact absurd ‹_› (h1 _)
  ·exact absurd ‹_› (h2 _ _)
  ·exact a.sub hs
theorem tQ.sub {h h' : Hp} (hs : Sub h h') {n : Nat} : ∀ {ts : List TypeId} {vs : List Value}, tQ P h n ts vs → tQ P h' n ts vs
 | [], [], _ => trivial
 | _ :: _, _ :: _, a => ⟨a.1.sub hs, a.2.sub hs⟩
 | [], _ :: _, a => a.elim
 | _ :: _, [], a => a.elim
theorem aGX {ρ : Ren} {x v : Value} (h : eB ρ [x] [v]) : bL ρ x v := h.2 0 _ _ rfl rfl
theorem aGY (hB : ∃ (b : Nat) (C : Array Value) (te : TypeId) (fr : Nat × Nat), W.heap[b]? = some (Obj.cells C te fr)) {n b0 : Nat} {t : TypeId} {v : Value} {ρ : Ren} {h : Hp} {d : DataW H} {ps : List MemPlace}
  (hok : Value.okWide P W .any b0 t v) (hr : DataW.Trod enc P W 0 (fun _ => true) true t v d ps) (ha : tO P n t = true) (hp : EP ρ h W) :
  WQ W ρ h fun ρ' h' => ∃ av, bL ρ' av v ∧ EQ P h' n t av := by
 obtain ⟨k, hr⟩ := hr
 obtain ⟨ρ', h', g1, g2, g3, J6, g4, g5⟩ := xU (enc := enc) hB n t v.cells.toList ρ h ⟨k, _, hr⟩ ha hp
 refine ⟨ρ', h', g1, g2, g3, ?_⟩
 unfold EQ
 unfold Value.okWide at hok
 split
 ·rename_i fs hu
  rw [hu] at hok
  obtain ⟨cs, rfl, _⟩ := hok
  exact ⟨.agg J6.toArray, .agg' (by simpa [Value.cells] using g4), J6, rfl, g5⟩
 ·rename_i m e hu
  rw [hu] at hok
  obtain ⟨cs, rfl, _⟩ := hok
  exact ⟨.agg J6.toArray, .agg' (by simpa [Value.cells] using g4), J6, rfl, g5⟩
 ·rename_i h1 h2
  have hok' : Cell.okWide P W .any b0 t v := by
   split at hok
   ·exact absurd ‹_› (h1 _)
   ·exact absurd ‹_› (h2 _ _)
   ·exact hok
  have hv : v.cells = #[v] := by
   cases v <;> first | rfl | (exfalso; unfold Cell.okWide Cell.ok at hok'; split at hok' <;> simp_all)
  rw [hv] at g4
  have hl := g4.1
  match J6, hl, g4, g5 with
  | [x], _, g4, g5 => exact ⟨x, aGX g4, g5⟩
theorem IR (hB : ∃ (b : Nat) (C : Array Value) (te : TypeId) (fr : Nat × Nat), W.heap[b]? = some (Obj.cells C te fr)) {n b0 : Nat} : ∀ {ts : List TypeId} {vs : List Value} {ρ : Ren} {h : Hp} {ds : List (DataW H)} {ps : List MemPlace},
  (∀ (j : Nat) t v, ts[j]? = some t → vs[j]? = some v → Value.okWide P W .any b0 t v) → DataW.TrodAll enc P W 0 (fun _ => true) true ts vs ds ps → ts.all (tO P n) = true → EP ρ h W →
  WQ W ρ h fun ρ' h' => ∃ LJ, eB ρ' LJ vs ∧ tQ P h' n ts LJ
 | [], [], ρ, h, [], _, _, _, _, hp => ⟨ρ, h, hp, Ext.refl ρ, Sub.refl h, [], .nil ρ, trivial⟩
 | t :: ts, v :: vs, ρ, h, d :: ds, ps, hok, hr, ha, hp => by
  obtain ⟨p, q, r1, r2, _⟩ := hr
  simp only [List.all_cons, Bool.and_eq_true] at ha
  obtain ⟨zS, h1, p1, e1, s1, av, v1, a1⟩ := aGY hB (hok 0 t v rfl rfl) r1 ha.1 hp
  obtain ⟨vY, h2, p2, e2, s2, LJ, l2, a2⟩ := IR hB (fun j t v h1 h2 => hok (j + 1) t v (by simpa using h1) (by simpa using h2)) r2 ha.2 p1
  exact ⟨vY, h2, p2, e1.trans e2, s1.trans s2, av :: LJ, .cons (v1.mono e2) l2, a1.sub s2, a2⟩
 | [], _ :: _, _, _, _, _, _, hr, _, _ => by simp [DataW.TrodAll] at hr
 | _ :: _, [], _, _, _, _, _, hr, _, _ => by simp [DataW.TrodAll] at hr
 | [], [], _, _, _ :: _, _, _, hr, _, _ => by simp [DataW.TrodAll] at hr
 | _ :: _, _ :: _, _, _, [], _, _, hr, _, _ => by simp [DataW.TrodAll] at hr
theorem aWF {C : dO} (hC : C.Ok) {f : FuncId} {n b0 : Nat} {ts : List TypeId} {args : Array Value} {ds : List (DataW H)} {ps : List MemPlace}
  (hrun : ∀ (h : Hp) (LJ : List Value), h.ro = h.next → tQ C.P.P h n ts LJ → ∃ h', eF C (.call f LJ.toArray h) (.ret (.bool true) h'))
  (hw : W.ShapedOpen C.P.P) (hok : ∀ (j : Nat) t v, ts[j]? = some t → args.toList[j]? = some v → Value.okWide C.P.P W .any b0 t v)
  (hr : DataW.TrodAll enc C.P.P W 0 (fun _ => true) true ts args.toList ds ps) (ha : ts.all (tO C.P.P n) = true) :
  Calls C.P.P f args W fun e W' => e = .returned (.bool true) ∧ Go.RowKit.Below W.heap.size W W' := by
 obtain ⟨ρ, h, hp, _, _, LJ, hl, haa⟩ := IR (MS hw) hok hr ha (EP.nil W)
 have hH := hp.hrel
 obtain ⟨h', N, hrun⟩ := hrun (shut h) LJ rfl (tQ.sub (h := h) (h' := shut h) (fun _ _ e => e) haa)
 obtain ⟨_, g2⟩ := (tT hC N).call f LJ.toArray (shut h) _ hrun
 refine callsIn_wide.1 ((g2 h.next ρ W args 0 hH hl).mono ?_)
 rintro e W' ⟨v', ρ', rfl, hst, hv⟩
 cases hv
 refine ⟨rfl, hst.os, hst.tape, hst.output, hst.size, fun k hk => ?_⟩
 rw [Array.getElem?_eq_getElem hk]
 refine hst.keep k _ (Array.getElem?_eq_getElem hk) ?_
 rintro ⟨i, o, im, hi, hro, hρ, _⟩
 have := (hH.dom i im hρ).1
 have h3 : (shut h).ro = (shut h).next := rfl
 omega
theorem mK {α β : Type} {f g : α → Option β} : ∀ {l : List α} {r : List β}, (∀ x ∈ l, ∀ y, f x = some y → g x = some y) → l.mapM f = some r → l.mapM g = some r
 | [], r, _, h => by simpa using h
 | a :: l, r, hfg, h => by
  rw [List.mapM_cons] at h ⊢
  cases ha : f a with
  | none => simp [ha] at h
  | some y =>
   cases hl : l.mapM f with
   | none => simp [ha, hl] at h
   | some ys =>
    simp [ha, hl] at h
    simp [hfg a (.head _) y ha, mK (fun x hx => hfg x (.tail _ hx)) hl, h]
theorem UD {W' : World} (hb : Go.RowKit.Below W.heap.size W W') {a : Addr} {n : Nat} {cs : List Value} (hn : 0 < n) (h : W.cells? 0 a n = some cs) : a.block < W.heap.size ∧ W'.cells? 0 a n = some cs := by
 have hlt := World.cells?_block h hn
 refine ⟨hlt, ?_⟩
 unfold World.cells? at h ⊢
 rw [if_pos (Nat.zero_le _)] at h ⊢
 refine mK (fun i _ y hy => ?_) h
 have hblk : (a.add i).block = a.block := by unfold Addr.add; split <;> rfl
 rw [hb.cell (by rw [hblk]; exact hlt)]; exact hy
theorem FT {W' : World} (hb : Go.RowKit.Below W.heap.size W W') : ∀ (n k : Nat) (t : TypeId) (cs : List Value) (x : DataW H × List MemPlace), tO P n t = true → rd enc P W k t cs = some x →
  DataW.trod enc P W' 0 (fun b => decide (b < W.heap.size)) true k t cs = some x
 | 0, _, _, _, _, ha, _ => by cases ha
 | n + 1, 0, _, _, _, _, hr => by cases hr
 | n + 1, k + 1, t, cs, x, ha, hr => by
  unfold tO at ha
  split at ha
  ·rename_i hu
   unfold rd DataW.trod at hr
   unfold DataW.trod
   rw [hu] at hr ⊢
   split at hr <;> simp_all
  ·rename_i ki hu
   unfold rd DataW.trod at hr
   unfold DataW.trod
   rw [hu] at hr ⊢
   split at hr <;> simp_all
  ·rename_i hu
   unfold rd DataW.trod at hr
   unfold DataW.trod
   rw [hu] at hr ⊢
   split at hr <;> simp_all
  ·rename_i e hu
   simp only [Bool.and_eq_true] at ha
   have hz : 0 < P.cellsOf e := by have := ha.1; rw [Nat.blt_eq] at this; exact this
   have key : ∀ (a : Addr) (i : Nat) (y : DataW H × List MemPlace), (W.cells? 0 (a.add (i * P.cellsOf e)) (P.cellsOf e)).bind (rd enc P W k e) = some y →
     a.block < W.heap.size ∧ (W'.cells? 0 (a.add (i * P.cellsOf e)) (P.cellsOf e)).bind (DataW.trod enc P W' 0 (fun b => decide (b < W.heap.size)) true k e) = some y := by
    intro a i y hy
    simp only [Option.bind_eq_some_iff] at hy ⊢
    obtain ⟨c, h1, h2⟩ := hy
    obtain ⟨g1, g2⟩ := UD hb hz h1
    have hblk : (a.add (i * P.cellsOf e)).block = a.block := by unfold Addr.add; split <;> rfl
    exact ⟨hblk ▸ g1, c, g2, FT hb n k e c y ha.2 h2⟩
   unfold rd DataW.trod at hr
   unfold DataW.trod
   rw [hu] at hr ⊢
   split at hr <;> first | (cases ‹some (TypeDesc.slice e) = _›; done) | skip
   ·exact hr
   ·rename_i e' a len cap he
    cases he
    simp only at hr ⊢
    split at hr
    ·rename_i hc
     rw [if_pos hc]
     simp only [if_true, Option.bind_eq_some_iff, Option.map_eq_some_iff] at hr ⊢
     obtain ⟨elems, h1, rest, h2, h3⟩ := hr
     refine ⟨elems, mK (fun i _ y hy => (key a i y hy).2) h1, rest, ?_, h3⟩
     by_cases h0 : cap - len = 0
     ·rw [h0] at h2 ⊢
      simp at h2
      subst h2
      split <;> simp
     ·obtain ⟨y, hy⟩ := wT h2 0 (List.mem_range.2 (by omega))
      rw [if_pos (by simpa using (key a _ y hy).1)]
      exact mK (fun i _ y hy => (key a _ y hy).2) h2
    ·cases hr
   ·cases hr
  ·rename_i fs hu
   simp only [Bool.and_eq_true, List.all_eq_true] at ha
   unfold rd DataW.trod at hr
   unfold DataW.trod
   rw [hu] at hr ⊢
   change ite _ _ _ = _ at hr
   change ite _ _ _ = _
   split at hr
   ·rename_i hlen
    rw [if_pos hlen]
    simp only [Option.map_eq_some_iff] at hr ⊢
    obtain ⟨xs, h1, h2⟩ := hr
    exact ⟨xs, mK (fun f hf y hy => FT hb n k f.type _ y (ha.2 (f.offset, f.type) (List.mem_map.2 ⟨f, hf, rfl⟩)) hy) h1, h2⟩
   ·cases hr
  ·rename_i m e hu
   simp only [Bool.and_eq_true] at ha
   unfold rd DataW.trod at hr
   unfold DataW.trod
   rw [hu] at hr ⊢
   change ite _ _ _ = _ at hr
   change ite _ _ _ = _
   split at hr
   ·rename_i hlen
    rw [if_pos hlen]
    simp only [Option.map_eq_some_iff] at hr ⊢
    obtain ⟨xs, h1, h2⟩ := hr
    exact ⟨xs, mK (fun i _ y hy => FT hb n k e _ y ha.2 hy) h1, h2⟩
   ·cases hr
  ·cases ha
theorem QZ {W' : World} (hb : Go.RowKit.Below W.heap.size W W') {n : Nat} : ∀ {ts : List TypeId} {vs : List Value} {ds : List (DataW H)} {ps : List MemPlace}, ts.all (tO P n) = true →
  DataW.TrodAll enc P W 0 (fun _ => true) true ts vs ds ps → DataW.TrodAll enc P W' 0 (fun b => decide (b < W.heap.size)) true ts vs ds ps
 | [], [], [], _, _, hr => hr
 | t :: ts, v :: vs, d :: ds, ps, ha, hr => by
  obtain ⟨p, q, ⟨k, r1⟩, r2, r3⟩ := hr
  simp only [List.all_cons, Bool.and_eq_true] at ha
  exact ⟨p, q, ⟨k, FT hb n k t _ _ ha.1 r1⟩, QZ hb ha.2 r2, r3⟩
 | [], _ :: _, _, _, _, hr => by simp [DataW.TrodAll] at hr
 | _ :: _, [], _, _, _, hr => by simp [DataW.TrodAll] at hr
 | [], [], _ :: _, _, _, hr => by simp [DataW.TrodAll] at hr
 | _ :: _, _ :: _, [], _, _, hr => by simp [DataW.TrodAll] at hr
end
end Go.bK
/-
  Ranges over maps of which nobody knows the order: all orders are gone through; what comes of a run is one of the answers.
-/
namespace Go.bK
noncomputable section
abbrev aC6 := Job → Option (List R)
section
variable (C : dO) (self : Self) (nd : FuncId → Bool) (sn : aC6)
end
def FB (base : Nat) (ρ : Ren) (nt : Nat) (s : S) (w : World) (rs : List R) : Exit → Act → World → Prop := fun ex a w' => ∃ e s', R.code e s' ∈ rs ∧ vJ base ρ nt s w e s' ex a w'
def aTN (base : Nat) (ρ : Ren) (h : Hp) (w : World) (rs : List R) : Ending → World → Prop := fun en w' => ∃ r ∈ rs, D9 base ρ h w r en w'
structure aHX (C : dO) (sn : aC6) : Prop where
 code : ∀ c rd nt s rs, sn (.code c rd nt s) = some rs → ∀ base ρ w a rr m, dQ base ρ s.h w → gB ρ nt s.tm a.tmps → lG ρ s.df a.defers → vI ρ rd rr → c.wpIn (iK rr) m C.P.P (FB base ρ nt s w rs) a w
 call : ∀ f args h rs, sn (.call f args h) = some rs → Enters C.P.P f ∧ ∀ base ρ w args' m, dQ base ρ h w → eB ρ args.toList args'.toList → CallsIn Fence.wide m C.P.P f args' w (aTN base ρ h w rs)
section
variable {C : dO} (hC : C.Ok) {self : Self} (hs : Sound C self) {nd : FuncId → Bool} {sn : aC6} (hn : aHX C sn)
theorem FB.sub {base : Nat} {ρ : Ren} {nt : Nat} {s : S} {w : World} {rs rs' : List R} (hs : ∀ x ∈ rs, x ∈ rs') {ex : Exit} {a : Act} {w' : World} (h : FB base ρ nt s w rs ex a w') : FB base ρ nt s w rs' ex a w' :=
 let ⟨e, s', hm, hq⟩ := h; ⟨e, s', hs _ hm, hq⟩
theorem FB.after {base : Nat} {ρ zS : Ren} {nt : Nat} {s s1 : S} {w w1 : World} {rs : List R} (H : dQ base ρ s.h w) (hst : Step base ρ s.h w zS s1.h w1) {ex : Exit} {a : Act} {w' : World} (h : FB base zS nt s1 w1 rs ex a w') : FB base ρ nt s w rs ex a w' :=
 let ⟨e, s', hm, hq⟩ := h; ⟨e, s', hm, hq.after H hst⟩
include hC hs hn in
include hC hs hn in
end
end
end Go.bK
/-
  Ranges over maps: code, calls; answers that hang on no order.
-/
namespace Go.bK
section
variable {C : dO} (hC : C.Ok) {self : Self} (hs : Sound C self) {nd : FuncId → Bool} {sn : aC6} (hn : aHX C sn)
include hC hs hn in
include hC hs hn in
omit hC hs hn in
include hC hs hn in
end
end Go.bK
namespace Go.bK
theorem Step.kept {base : Nat} {ρ ρ' : Ren} {h h2 : Hp} {w w' : World} (H : dQ base ρ h w) (s : Step base ρ { h with ro := h.next } w ρ' h2 w') {b : Nat} {o : dG} (hb : h.next ≤ b) (hg : h2.get b = some o) :
  Step base ρ h w ρ' { next := h2.next, ro := h.ro, aC := h.aC.put b (some o) } w' := by
 have hk : ∀ b o, w.heap[b]? = some o → w'.heap[b]? = some o := fun b o hb => s.keep b o hb (Wr.quiet H)
 have get : ∀ i, Hp.get { next := h2.next, ro := h.ro, aC := h.aC.put b (some o) } i = if i = b then some o else h.get i := fun i => T.get_put _ _ _ _
 have hnb : h.get b = none := by
  cases hh : h.get b with
  | none => rfl
  | some p => have := H.lt hh; omega
 have fresh : ∀ im, ρ' b = some im → w.heap.size ≤ im.blk := by
  intro im hi
  rcases s.news b im hi with h1 | ⟨_, h1 | h1⟩
  ·have := (H.dom b im h1).1; omega
  ·exact h1
  ·exact absurd h1 (Wr.quiet H)
 have hn : h.next ≤ h2.next := s.next
 refine ⟨s.ext, ⟨?_, ?_, s.rel.dom, H.jR, Nat.le_trans H.lX hn⟩, fun c q hc _ => hk c q hc, ?_, ?_, s.size, rfl, hn, s.os, s.tape, s.output⟩
 ·intro i q hi
  rw [get] at hi
  by_cases e : i = b
  ·rw [if_pos e] at hi
   cases hi
   subst e
   exact s.rel.obj _ _ hg
  ·rw [if_neg e] at hi
   obtain ⟨im, O, h1, h3, h4⟩ := H.obj i q hi
   exact ⟨im, O, s.ext _ _ h1, hk _ _ h3, h4.mono s.ext id⟩
 ·intro i j im jm p q hi hj h1 h3 hne hbi
  rw [get] at hi hj
  by_cases ei : i = b
  ·subst ei
   by_cases ej : j = i
   ·exact absurd ej.symm hne
   ·rw [if_neg ej] at hj
    obtain ⟨jm', _, g1, _⟩ := H.obj j q hj
    have := s.ext _ _ g1
    rw [h3] at this; cases this
    have := (H.dom j _ g1).2
    have := fresh im h1
    omega
  ·rw [if_neg ei] at hi
   obtain ⟨im', _, g1, _⟩ := H.obj i p hi
   have e1 := s.ext _ _ g1
   rw [h1] at e1; cases e1
   by_cases ej : j = b
   ·subst ej
    have := (H.dom i _ g1).2
    have := fresh jm h3
    omega
   ·rw [if_neg ej] at hj
    obtain ⟨jm', _, g2, _⟩ := H.obj j q hj
    have e2 := s.ext _ _ g2
    rw [h3] at e2; cases e2
    exact H.inj i j _ _ p q hi hj g1 g2 hne hbi
 ·intro i im hi
  rcases s.news i im hi with h1 | ⟨h1, h2 | h2⟩
  ·exact .inl h1
  ·exact .inr ⟨h1, .inl h2⟩
  ·exact absurd h2 (Wr.quiet H)
 ·intro i q hi hq
  rw [get, if_neg (by omega)] at hq
  exact ⟨q, hq⟩
noncomputable section
end
end Go.bK
/-
  Words of told texts at blocks that are known in part: rows of cells, new blocks, stores, strings compared.
-/
namespace Go.bK
section
variable {ρ : Type}
theorem oN {α β : Type} (f : α → Option β) : ∀ (l : List α) (n : Nat) (v : α), l[n]? = some v → A7 l n f = f v
 | [], n, v, h => by simp at h
 | a :: l, 0, v, h => by simp at h; subst h; rfl
 | a :: l, n + 1, v, h => oN f l n v (by simpa using h)
theorem KV (n b o : Nat) (k : Value → Option ρ) : aR n (.pointer (some ⟨b, o, none⟩)) k = k (.pointer (some ⟨b, o + n, none⟩)) := by
 show gZ (Nat.add o n) (fun o => k (.pointer (some ⟨b, o, none⟩))) = _
 rw [dJ]; rfl
theorem bH {l : List Value} {i : Nat} {v : Value} (h : l[i]? = some v) (k : Value → Option ρ) : fF (.tuple (Array.mk l)) i k = k v := oN k l i v h
theorem X8 {α : Type} : ∀ (n : Nat) (l : List α) (k : List α → Option ρ), n ≤ l.length → xH l n k = k (l.take n)
 | 0, l, k, _ => rfl
 | n + 1, [], k, h => by simp at h
 | n + 1, a :: l, k, h => by
  show xH l n (fun r => k (a :: r)) = _
  rw [X8 n l _ (by simpa using h)]; rfl
theorem ML {h : Hp} {b : Nat} {c : List Value} {t : TypeId} {s : Option Nat} (hg : h.get b = some (.cells c t s)) (f : List Value → TypeId → Option Nat → Option ρ) : DX h b f = f c t s := by
 unfold DX
 rw [T.U3, show h.aC.get b = some (.cells c t s) from hg]; rfl
theorem fP {h : Hp} {b o : Nat} {c : List Value} {t : TypeId} {s : Option Nat} {v : Value} (hg : h.get b = some (.cells c t s)) (hv : c[o]? = some v) (k : Value → Option ρ) : aI h (.pointer (some ⟨b, o, none⟩)) k = k v := by
 show DX h b (fun c _ _ => A7 c o k) = _
 rw [ML hg, oN k c o v hv]
theorem FI {h : Hp} {b o n : Nat} {c : List Value} {t : TypeId} {s : Option Nat} (hg : h.get b = some (.cells c t s)) (hn : o + n ≤ c.length) (k : Value → Option ρ) :
  aT n h (.pointer (some ⟨b, o, none⟩)) k = k (.agg (Array.mk ((c.drop o).take n))) := by
 show DX h b (fun c _ _ => zF c o fun c => xH c n fun l => k (.agg (Array.mk l))) = _
 rw [ML hg, xG, X8 _ _ _ (by simp; omega)]
theorem OG {α : Type} : ∀ (l : List α) (n : Nat) (x : α), n < l.length → yQ l n x = some (l.set n x)
 | [], n, x, h => by simp at h
 | a :: l, 0, x, h => rfl
 | a :: l, n + 1, x, h => by
  simp only [yQ, OG l n x (by simpa using h)]
  rfl
theorem qA {h : Hp} {b o : Nat} {c : List Value} {t : TypeId} {s : Option Nat} {x : Value} (hg : h.get b = some (.cells c t s)) (hro : h.ro ≤ b) (hx : oneCell x = true) (ho : o < c.length) (k : Hp → Option ρ) :
  jW h (.pointer (some ⟨b, o, none⟩)) x k = k (h.upd b (.cells (c.set o x) t s)) := by
 show bY (Nat.ble h.ro b) (bY (XM x) (DX h b fun c e s => CU c o x fun c => h.aC.XJ b (some (.cells c e s)) fun aC => k ⟨h.next, h.ro, aC⟩) none) none = _
 rw [show Nat.ble h.ro b = true from by rw [Nat.ble_eq]; exact hro, GQ, hx]
 show DX h b _ = _
 rw [ML hg, yP, OG _ _ _ ho]
 show h.aC.XJ b _ _ = _
 rw [T.GN]; rfl
theorem X9 : ∀ (xs c : List Value) (k : List Value → Option ρ), xs.length ≤ c.length → xs.all oneCell = true → NQ xs c k = k (xs ++ c.drop xs.length)
 | [], c, k, _, _ => by show o9 c k = _; rw [j5]; simp
 | x :: xs, [], k, h, _ => by simp at h
 | x :: xs, a :: c, k, h, h2 => by
  simp only [List.all_cons, Bool.and_eq_true] at h2
  show bY (XM x) (NQ xs c fun r => k (x :: r)) none = _
  rw [GQ, h2.1]
  show NQ xs c (fun r => k (x :: r)) = _
  rw [X9 xs c _ (by simpa using h) h2.2]; rfl
theorem aDD (xs : List Value) : ∀ (o : Nat) (c : List Value) (k : List Value → Option ρ), o + xs.length ≤ c.length → xs.all oneCell = true → U6 o xs c k = k (c.take o ++ xs ++ c.drop (o + xs.length))
 | 0, c, k, h, h2 => by
  show NQ xs c k = _
  rw [X9 xs c k (by omega) h2]; simp
 | o + 1, [], k, h, _ => by simp at h
 | o + 1, a :: c, k, h, h2 => by
  show U6 o xs c (fun r => k (a :: r)) = _
  rw [aDD xs o c _ (by simp at h; omega) h2, show o + 1 + xs.length = (o + xs.length) + 1 by omega]; simp
theorem qB {n : Nat} {h : Hp} {b o : Nat} {c l : List Value} {t : TypeId} {s : Option Nat} (hg : h.get b = some (.cells c t s)) (hro : h.ro ≤ b) (hl : l.length = n) (hx : l.all oneCell = true) (ho : o + n ≤ c.length) (k : Hp → Option ρ) :
  dY n h (.pointer (some ⟨b, o, none⟩)) (.agg (Array.mk l)) k = k (h.upd b (.cells (c.take o ++ l ++ c.drop (o + l.length)) t s)) := by
 show bY (Nat.ble h.ro b) (bY (Nat.beq (QK l) n) (DX h b fun c e s => U6 o l c fun c => h.aC.XJ b (some (.cells c e s)) fun aC => k ⟨h.next, h.ro, aC⟩) none) none = _
 rw [show Nat.ble h.ro b = true from by rw [Nat.ble_eq]; exact hro, MI, hl, show Nat.beq n n = true from Nat.beq_refl n]
 show DX h b _ = _
 rw [ML hg, aDD _ _ _ _ (by omega) hx]
 show h.aC.XJ b _ _ = _
 rw [T.GN]
 subst hl; rfl
theorem bO {α : Type} (h : Hp) (e : TypeId) (c : List Value) (k : Value → Hp → α) : bD h e c k = k (.pointer (some ⟨h.next, 0, none⟩)) (h.add (.cells c e none)) := JD h e c k
theorem aPD (a b : Int) (f : Int → Option ρ) : aFD a b f = f (max a b) := by
 unfold aFD; rw [aU, aG]
 by_cases hh : a < b
 ·rw [if_pos (by simpa using hh), show max a b = b by omega]
 ·rw [if_neg (by simpa using hh), show max a b = a by omega]
theorem bR (h : Hp) (o : dG) (i : Nat) : (h.add o).get i = if i = h.next then some o else h.get i := by
 unfold Hp.get Hp.add
 simp only [T.get_put]
theorem bU (h : Hp) (o : dG) (b i : Nat) : (h.upd b o).get i = if i = b then some o else h.get i := by
 unfold Hp.get Hp.upd
 simp only [T.get_put]
theorem mF (h : Hp) (o : dG) : (h.add o).next = h.next + 1 := rfl
theorem JM (h : Hp) (o : dG) : (h.add o).ro = h.ro := rfl
end
def Wf (h : Hp) : Prop := h.ro ≤ h.next ∧ ∀ i o, h.get i = some o → i < h.next
structure aV (h h' : Hp) : Prop where
 wf : Wf h'
 sub : Sub h h'
 next : h.next ≤ h'.next
 ro : h'.ro = h.ro
theorem aV.refl {h : Hp} (w : Wf h) : aV h h := ⟨w, fun _ _ e => e, Nat.le_refl _, rfl⟩
theorem aV.trans {a b c : Hp} (x : aV a b) (y : aV b c) : aV a c := ⟨y.wf, fun i o e => y.sub i o (x.sub i o e), Nat.le_trans x.next y.next, y.ro.trans x.ro⟩
theorem Wf.add {h : Hp} (w : Wf h) (o : dG) : Wf (h.add o) := by
 refine ⟨Nat.le_trans w.1 (Nat.le_succ _), fun i p e => ?_⟩
 rw [bR] at e
 show i < h.next + 1
 split at e
 ·omega
 ·have := w.2 i p e; omega
theorem aV.add {h : Hp} (w : Wf h) (o : dG) : aV h (h.add o) := ⟨w.add o, fun i p e => by
 rw [bR, if_neg (by have := w.2 i p e; omega)]; exact e, Nat.le_succ _, rfl⟩
theorem Wf.upd {h : Hp} (w : Wf h) {b : Nat} (hb : b < h.next) (o : dG) : Wf (h.upd b o) := by
 refine ⟨w.1, fun i p e => ?_⟩
 rw [bU] at e
 show i < h.next
 split at e
 ·omega
 ·exact w.2 i p e
theorem aV.upd {h h' : Hp} (w : Wf h) (g : aV h h') {b : Nat} (hb : h.next ≤ b) (hb2 : b < h'.next) (o : dG) : aV h (h'.upd b o) :=
 ⟨g.wf.upd hb2 o, fun i p e => by
  have := w.2 i p e
  rw [bU, if_neg (by omega)]; exact g.sub i p e, g.next, g.ro⟩
def At (h : Hp) (p : Value) (r : List Value) : Prop := ∃ b o c t s, p = .pointer (some ⟨b, o, none⟩) ∧ h.get b = some (.cells c t s) ∧ o + r.length ≤ c.length ∧ ∀ (k : Nat) (x : Value), r[k]? = some x → c[o + k]? = some x
def Rows (h : Hp) (z : Nat) (v : Value) (rs : List (List Value)) : Prop :=
 (∃ c, v = .slice none rs.length c ∧ rs = []) ∨ ∃ b o cap c t s, v = .slice (some ⟨b, o, none⟩) rs.length cap ∧ (rs ≠ [] → h.get b = some (.cells c t s)) ∧
  ∀ i r, rs[i]? = some r → r.length = z ∧ o + i * z + z ≤ c.length ∧ ∀ (k : Nat) (x : Value), r[k]? = some x → c[o + i * z + k]? = some x
section
variable {ρ : Type}
theorem At.sub {h h' : Hp} (hs : Sub h h') {p : Value} {r : List Value} (a : At h p r) : At h' p r := by
 obtain ⟨b, o, c, t, s, h1, h2, h3⟩ := a
 exact ⟨b, o, c, t, s, h1, hs _ _ h2, h3⟩
theorem Rows.sub {h h' : Hp} (hs : Sub h h') {z : Nat} {v : Value} {rs : List (List Value)} (a : Rows h z v rs) : Rows h' z v rs := by
 rcases a with a | ⟨b, o, cap, c, t, s, h1, h2, h3⟩
 ·exact .inl a
 ·exact .inr ⟨b, o, cap, c, t, s, h1, fun e => hs _ _ (h2 e), h3⟩
theorem Rows.len {h : Hp} {z : Nat} {v : Value} {rs : List (List Value)} (a : Rows h z v rs) (k : Int → Option ρ) : bW v k = k (rs.length : Int) := by
 rcases a with ⟨c, rfl, _⟩ | ⟨b, o, cap, c, t, s, rfl, _⟩ <;> rfl
theorem Rows.at {h : Hp} {z : Nat} {v : Value} {rs : List (List Value)} (a : Rows h z v rs) {i : Nat} {r : List Value} (hi : rs[i]? = some r) : ∃ p, (∀ (ρ : Type) (k : Value → Option ρ), dS z v (i : Int) k = k p) ∧ At h p r ∧ r.length = z := by
 have hlt := (List.getElem?_eq_some_iff.1 hi).1
 rcases a with ⟨c, rfl, rfl⟩ | ⟨b, o, cap, c, t, s, rfl, h2, h3⟩
 ·simp at hi
 ·obtain ⟨g1, g2, g3⟩ := h3 i r hi
  refine ⟨_, fun ρ k => HY z b o rs.length cap i hlt k, ⟨b, o + i * z, c, t, s, rfl, h2 (by rintro rfl; simp at hi), by omega, g3⟩, g1⟩
theorem At.jT {h : Hp} {p : Value} {r : List Value} (a : At h p r) {x : Value} (hx : r[0]? = some x) (k : Value → Option ρ) : aI h p k = k x := by
 obtain ⟨b, o, c, t, s, rfl, h2, h3, h4⟩ := a
 exact fP h2 (by simpa using h4 0 x hx) k
theorem At.vV {h : Hp} {p : Value} {r : List Value} (a : At h p r) (n : Nat) {x : Value} (hx : r[n]? = some x) (k : Value → Option ρ) : aR n p (fun q => aI h q k) = k x := by
 obtain ⟨b, o, c, t, s, rfl, h2, h3, h4⟩ := a
 rw [KV, fP h2 (h4 n x hx) k]
theorem At.eU {h : Hp} {p : Value} {r : List Value} (a : At h p r) {z : Nat} (hz : r.length = z) (k : Value → Option ρ) : aT z h p k = k (.agg (Array.mk r)) := by
 obtain ⟨b, o, c, t, s, rfl, h2, h3, h4⟩ := a
 rw [FI h2 (by omega) k]
 congr 3
 apply List.ext_getElem?
 intro j
 rw [List.getElem?_take, List.getElem?_drop]
 by_cases hj : j < z
 ·rw [if_pos hj]
  have := h4 j r[j] (List.getElem?_eq_getElem (by omega))
  rw [this, List.getElem?_eq_getElem (by omega)]
 ·rw [if_neg hj, eq_comm, List.getElem?_eq_none_iff]; omega
theorem At.part {h : Hp} {p : Value} {r : List Value} (a : At h p r) (n m : Nat) (hm : n + m ≤ r.length) : ∃ q, (∀ (ρ : Type) (k : Value → Option ρ), aR n p k = k q) ∧ At h q ((r.drop n).take m) := by
 obtain ⟨b, o, c, t, s, rfl, h2, h3, h4⟩ := a
 refine ⟨_, fun ρ k => KV n b o k, b, o + n, c, t, s, rfl, h2, by simp; omega, fun k x hx => ?_⟩
 rw [List.getElem?_take] at hx
 split at hx
 ·rw [List.getElem?_drop] at hx
  rw [show o + n + k = o + (n + k) by omega]; exact h4 _ _ hx
 ·cases hx
theorem At.new {h : Hp} {c : List Value} {e : TypeId} {s : Option Nat} : At (h.add (.cells c e s)) (.pointer (some ⟨h.next, 0, none⟩)) c :=
 ⟨h.next, 0, c, e, s, rfl, by rw [bR, if_pos rfl], by omega, fun k x hx => by simpa using hx⟩
end
end Go.bK
namespace Go.bK
section
variable {E : Env}
theorem OH (t : TypeId) (xo yo : Operand) (a b : ByteArray) : qP E .eql t xo yo (.string a) (.string b) = some (.bool (a.toList == b.toList)) := by
 show vG E .eql t xo yo (.string a) (.string b) = _
 unfold vG
 rfl
end
end Go.bK
/-
  What arguments show, type by type.
-/
namespace Go.bK
def vZ (P : Program) (t : TypeId) : Option (List (Nat × TypeId)) := match P.underlying t with | some (.struct fs) => some (partsOf fs) | _ => none
def Q0 (P : Program) (t : TypeId) : Option TypeId := match P.underlying t with | some (.slice e) => some e | _ => none
def aCX (P : Program) (t : TypeId) : Option IntKind := match P.underlying t with | some (.int k) => some k | _ => none
def aS8 (P : Program) (t : TypeId) : Bool := match P.underlying t with | some .string => true | _ => false
def boolT (P : Program) (t : TypeId) : Bool := match P.underlying t with | some .bool => true | _ => false
def aGZ (P : Program) (t : TypeId) : Option (Nat × TypeId) := match P.underlying t with | some (.array m e) => some (m, e) | _ => none
section
variable {P : Program} {h : Hp} {n : Nat} {t : TypeId} {cs : List Value}
theorem Arg.parts {l : List (Nat × TypeId)} (a : Arg P h (n + 1) t cs) (e : vZ P t = some l) : cs.length = P.cellsOf t ∧ ∀ x ∈ l, Arg P h n x.2 ((cs.drop x.1).take (P.cellsOf x.2)) := by
 unfold vZ at e
 split at e
 ·rename_i fs hu
  cases e
  unfold Arg at a
  rw [hu] at a
  exact a
 ·cases e
theorem Arg.elem {e : TypeId} (a : Arg P h (n + 1) t cs) (he : Q0 P t = some e) : cs = [.slice none 0 0] ∨ ∃ b m c te, cs = [.slice (some ⟨b, 0, none⟩) m m] ∧ m ≤ maxLen ∧ h.get b = some (.cells c te (some (P.cellsOf e))) ∧ c.length = m * P.cellsOf e ∧
    ∀ i, i < m → Arg P h n e ((c.drop (i * P.cellsOf e)).take (P.cellsOf e)) := by
 unfold Q0 at he
 split at he
 ·rename_i e' hu
  cases he
  unfold Arg at a
  rw [hu] at a
  exact a
 ·cases he
theorem Arg.int {k : IntKind} (a : Arg P h (n + 1) t cs) (e : aCX P t = some k) : ∃ i, cs = [.int k i] ∧ (Lit.int k i).wf = true := by
 unfold aCX at e
 split at e
 ·rename_i k' hu
  cases e
  unfold Arg at a
  rw [hu] at a
  exact a
 ·cases e
theorem Arg.str (a : Arg P h (n + 1) t cs) (e : aS8 P t = true) : ∃ s : ByteArray, cs = [.string s] ∧ s.size ≤ maxLen := by
 unfold aS8 at e
 split at e
 ·rename_i hu
  unfold Arg at a
  rw [hu] at a
  exact a
 ·cases e
theorem Arg.bool (a : Arg P h (n + 1) t cs) (e : boolT P t = true) : ∃ b, cs = [.bool b] := by
 unfold boolT at e
 split at e
 ·rename_i hu
  unfold Arg at a
  rw [hu] at a
  exact a
 ·cases e
def kR (h : Hp) (z : Nat) (v : Value) (rs : List (List Value)) : Prop := (v = .slice none 0 0 ∧ rs = []) ∨ ∃ b c t, v = .slice (some ⟨b, 0, none⟩) rs.length rs.length ∧ h.get b = some (.cells c t (some z)) ∧
 ∀ i r, rs[i]? = some r → r.length = z ∧ i * z + z ≤ c.length ∧ ∀ (k : Nat) (x : Value), r[k]? = some x → c[i * z + k]? = some x
theorem Arg.sl {e : TypeId} {z : Nat} (a : Arg P h (n + 1) t cs) (he : Q0 P t = some e) (hz : P.cellsOf e = z) : ∃ v rs, cs = [v] ∧ kR h z v rs ∧ ∀ r ∈ rs, Arg P h n e r := by
 subst hz
 rcases a.elem he with rfl | ⟨b, m, c, te, rfl, _, hg, hl, ha⟩
 ·exact ⟨_, [], rfl, .inl ⟨rfl, rfl⟩, fun r hr => by cases hr⟩
 ·refine ⟨_, (List.range m).map fun i => (c.drop (i * P.cellsOf e)).take (P.cellsOf e), rfl, .inr ⟨b, c, te, by simp, hg, ?_⟩, ?_⟩
  ·intro i r hr
   rw [List.getElem?_map] at hr
   cases hi : (List.range m)[i]? with
   | none => rw [hi] at hr; cases hr
   | some j =>
    rw [hi] at hr
    cases hr
    obtain ⟨hlt', hj⟩ := List.getElem?_eq_some_iff.1 hi
    have hlt : i < m := by simpa using hlt'
    have hj : j = i := by simpa using hj.symm
    subst hj
    have hle : j * P.cellsOf e + P.cellsOf e ≤ c.length := by
     rw [hl, ← Nat.succ_mul]
     exact Nat.mul_le_mul_right _ hlt
    refine ⟨by simp; omega, hle, fun k x hx => ?_⟩
    rw [List.getElem?_take] at hx
    split at hx
    ·rw [List.getElem?_drop] at hx; exact hx
    ·cases hx
  ·intro r hr
   obtain ⟨i, hi, rfl⟩ := List.mem_map.1 hr
   exact ha i (List.mem_range.1 hi)
theorem L9 {α : Type} (row : α → List Value) : ∀ (rs : List (List Value)), (∀ r ∈ rs, ∃ g, r = row g) → ∃ gs : List α, rs = gs.map row
 | [], _ => ⟨[], rfl⟩
 | r :: rs, h => by
  obtain ⟨g, rfl⟩ := h r (.head _)
  obtain ⟨gs, rfl⟩ := L9 row rs (fun r hr => h r (.tail _ hr))
  exact ⟨g :: gs, rfl⟩
end
section
variable {H : Type} {enc : TypeId × Value → H} {P : Program} {W : World}
theorem Z0 {C : dO} (hC : C.Ok) {f : FuncId} {n b0 : Nat} {ts : List TypeId} {args : Array Value} {ds : List (DataW H)} {ps : List MemPlace}
  (hrun : ∀ (h : Hp) (LJ : List Value), Wf h → h.ro = h.next → tQ C.P.P h n ts LJ → ∃ h', eF C (.call f LJ.toArray h) (.ret (.bool true) h'))
  (hw : W.ShapedOpen C.P.P) (hok : ∀ (j : Nat) t v, ts[j]? = some t → args.toList[j]? = some v → Value.okWide C.P.P W .any b0 t v)
  (hr : DataW.TrodAll enc C.P.P W 0 (fun _ => true) true ts args.toList ds ps) (ha : ts.all (tO C.P.P n) = true) :
  Calls C.P.P f args W fun e W' => e = .returned (.bool true) ∧ Go.RowKit.Below W.heap.size W W' := by
 obtain ⟨ρ, h, hp, _, _, LJ, hl, haa⟩ := IR (MS hw) hok hr ha (EP.nil W)
 have hH := hp.hrel
 obtain ⟨h', N, hrun⟩ := hrun (shut h) LJ ⟨Nat.le_refl _, fun i o hi => hH.lt hi⟩ rfl (tQ.sub (h := h) (h' := shut h) (fun _ _ e => e) haa)
 obtain ⟨_, g2⟩ := (tT hC N).call f LJ.toArray (shut h) _ hrun
 refine callsIn_wide.1 ((g2 h.next ρ W args 0 hH hl).mono ?_)
 rintro e W' ⟨v', ρ', rfl, hst, hv⟩
 cases hv
 refine ⟨rfl, hst.os, hst.tape, hst.output, hst.size, fun k hk => ?_⟩
 rw [Array.getElem?_eq_getElem hk]
 refine hst.keep k _ (Array.getElem?_eq_getElem hk) ?_
 rintro ⟨i, o, im, hi, hro, hρ, _⟩
 have := (hH.dom i im hρ).1
 have h3 : (shut h).ro = (shut h).next := rfl
 omega
end
section
variable {P : Program} {h : Hp} {n : Nat} {t : TypeId} {v : Value}
theorem EQ.agg (a : EQ P h n t v) (e : (vZ P t).isSome = true ∨ (aGZ P t).isSome = true) : ∃ cs : List Value, v = .agg cs.toArray ∧ Arg P h n t cs := by
 unfold EQ at a
 unfold vZ aGZ at e
 split at a
 ·exact a
 ·exact a
 ·rename_i h1 h2
  exfalso
  rcases e with e | e
  ·split at e
   ·exact h1 _ ‹_›
   ·cases e
  ·split at e
   ·exact h2 _ _ ‹_›
   ·cases e
theorem EQ.flat (a : EQ P h n t v) (e : vZ P t = none ∧ aGZ P t = none) : Arg P h n t [v] := by
 unfold EQ at a
 unfold vZ aGZ at e
 split at a
 ·rename_i hu; rw [hu] at e; simp at e
 ·rename_i hu; rw [hu] at e; simp at e
 ·exact a
end
end Go.bK
/-
  '==' of two arrays of integers.
-/
namespace Go.bK
section
variable {E : Env} (hE : E.Ok)
include hE in
theorem aCY {el : TypeId} (hu : gI E el = some (.int .i64)) {d : Nat} {xs ys : List Int} : ∀ (m i : Nat), i + m = xs.length → i + m = ys.length →
  pQ E.P (do
   let s ← forIn (List.range' i m) ((none : Option Bool), ()) fun i _ => do
    let a ← part el (Array.mk (xs.map (Value.int .i64))) (i * 1)
    let c ← part el (Array.mk (ys.map (Value.int .i64))) (i * 1)
    let e ← Op.equalIn (d + 1) el a c
    if (!e) = true then pure (ForInStep.done (some false, ())) else pure (ForInStep.yield (none, ()))
   match s.fst with
   | some r => pure r
   | none => pure true : Sem Bool) = some (decide (xs.drop i = ys.drop i))
 | 0, i, hx, hy => by
  rw [List.drop_of_length_le (show xs.length ≤ i by omega), List.drop_of_length_le (show ys.length ≤ i by omega)]
  rfl
 | m + 1, i, hx, hy => by
  have hi : i < xs.length := by omega
  have hj : i < ys.length := by omega
  have gx : (Array.mk (xs.map (Value.int .i64)))[i * 1]? = some (.int .i64 xs[i]) := by rw [Nat.mul_one, List.getElem?_toArray, List.getElem?_map, List.getElem?_eq_getElem hi]; rfl
  have gy : (Array.mk (ys.map (Value.int .i64)))[i * 1]? = some (.int .i64 ys[i]) := by rw [Nat.mul_one, List.getElem?_toArray, List.getElem?_map, List.getElem?_eq_getElem hj]; rfl
  rw [List.range'_succ, List.forIn_cons]
  simp only [bind_assoc]
  rw [dD, FU hE hu gx]
  simp only [Option.bind_some]
  rw [dD, FU hE hu gy]
  simp only [Option.bind_some]
  rw [dD, Q3 hE hu]
  simp only [Option.bind_some]
  rw [List.drop_eq_getElem_cons hi, List.drop_eq_getElem_cons hj]
  cases hab : (xs[i] == ys[i]) with
  | false =>
   have : xs[i] ≠ ys[i] := by simpa using hab
   rw [decide_eq_false (fun h => this (List.cons.inj h).1)]
   simp only [Bool.not_false, if_true, pure_bind]
   rfl
  | true =>
   have : xs[i] = ys[i] := by simpa using hab
   simp only [Bool.not_true, Bool.false_eq_true, if_false, pure_bind]
   rw [aCY hu m (i + 1) (by omega) (by omega), this]
   congr 1
   exact decide_eq_decide.2 ⟨fun h => by rw [h], fun h => (List.cons.inj h).2⟩
include hE in
theorem aG0 {t el : TypeId} {n : Nat} (hu : gI E t = some (.array n el)) (he : gI E el = some (.int .i64)) (hz : pQ E.P (sizeOf el) = some 1) (hg : E.P.eqGuardType E.P.depth t = false) (hq : (E.ty.get t).bind (fun i => i.eqs) = none)
  (xo yo : Operand) {xs ys : List Int} (hx : xs.length = n) (hy : ys.length = n) : qP E .eql t xo yo (.agg (Array.mk (xs.map (Value.int .i64)))) (.agg (Array.mk (ys.map (Value.int .i64)))) = some (.bool (decide (xs = ys))) := by
 have pl : ∀ l : List Int, plain (.agg (Array.mk (l.map (Value.int .i64)))) = true := fun l => by
  show (l.map (Value.int .i64)).all (fO 5) = true
  rw [List.all_map, List.all_eq_true]
  intro x _
  rfl
 have h1 : ER E .eql t (.agg (Array.mk (xs.map (Value.int .i64)))) (.agg (Array.mk (ys.map (Value.int .i64)))) = none := by
  unfold ER
  simp only [hq, Option.bind_none]
 have h2 : pQ E.P (Op.equal t (.agg (Array.mk (xs.map (Value.int .i64)))) (.agg (Array.mk (ys.map (Value.int .i64))))) = some (decide (xs = ys)) := by
  show pQ E.P (Op.equalIn (9998 + 1 + 1) t _ _) = _
  unfold Op.equalIn
  rw [dD, wU hE hu]
  simp only [Option.bind_some]
  rw [dD, hz]
  simp only [Option.bind_some]
  have := aCY hE he (d := 9998) (xs := xs) (ys := ys) n 0 (by omega) (by omega)
  rw [List.drop_zero, List.drop_zero] at this
  refine Eq.trans ?_ this
  simp only [Std.Legacy.Range.forIn_eq_forIn_range']
  rw [show (Std.Legacy.Range.size { stop := n, step_pos := Nat.zero_lt_one }) = n by simp [Std.Legacy.Range.size]]
  congr 1
  congr 1
  funext f
  obtain ⟨f1, u⟩ := f
  cases f1 <;> rfl
 have h3 : pQ E.P (eqGuard .eql t xo yo (.agg (Array.mk (xs.map (Value.int .i64)))) (.agg (Array.mk (ys.map (Value.int .i64))))) = some () := by
  unfold eqGuard
  simp only [Bool.not_true, Bool.false_eq_true, if_false]
  rw [dD]
  simp only [program, pQ, Option.bind_some]
  rw [dD]
  simp only [pQ, Option.bind_some, hg]
  rfl
 have h4 : FV .eql (.agg (Array.mk (xs.map (Value.int .i64)))) (.agg (Array.mk (ys.map (Value.int .i64)))) = none := rfl
 unfold qP
 rw [h4]
 simp only
 unfold mE
 rw [h1]
 simp only
 unfold vG
 rw [pl, pl]
 simp only [Bool.and_self]
 rw [dD, h3]
 simp only [Option.bind_some, binOp]
 rw [dD, h2]
 rfl
end
end Go.bK
/-
  Ranges over functions, told: what yield does is handed on as a function; a round is told by itself.
-/
namespace Go.bK
section
variable {C : dO} {self : Self} {rd : Option Nat} {nt : Nat} {ops : Array Oper}
theorem aDJ {o : Oper} {s s' : S} (e : jJ C self rd nt ops o s = some (.code .normal s')) :
  ∃ add, s'.df = add ++ s.df ∧ ∀ D, jJ C self rd nt ops o { s with df := D } = some (.code .normal { s' with df := add ++ D }) := by
 unfold jJ at e
 unfold jJ
 dsimp only
 split at e
 ·replace e := aA e; obtain ⟨tm, mP, e⟩ := e
  cases e
  exact ⟨[], rfl, fun D => by simp only [mP, Option.bind_some, List.nil_append]⟩
 ·replace e := aA e; obtain ⟨r, hr, e⟩ := e
  cases r with
  | val v h =>
   replace e := aA e; obtain ⟨tm, mP, e⟩ := e
   cases e
   exact ⟨[], rfl, fun D => by simp only [hr, mP, Option.bind_some, List.nil_append]⟩
  | pan v => cases e
  | dfr d =>
   dsimp only at e
   cases rd with
   | none =>
    dsimp only at e
    replace e := aA e; obtain ⟨tm, mP, e⟩ := e
    cases e
    exact ⟨[d], rfl, fun D => by simp only [hr, mP, Option.bind_some, List.singleton_append]⟩
   | some l => cases e
  | call fn args =>
   dsimp only at e
   replace e := aA e; obtain ⟨r2, hr2, e⟩ := e
   cases r2 with
   | ret v h =>
    dsimp only at e
    replace e := aA e; obtain ⟨tm, mP, e⟩ := e
    cases e
    exact ⟨[], rfl, fun D => by simp only [hr, hr2, mP, Option.bind_some, List.nil_append]⟩
   | pan v h => cases e
   | code _ _ => cases e
   | mode _ _ => cases e
theorem aDK : ∀ (l : List Oper) {s s' : S}, opsV C self rd nt ops l s = some (.code .normal s') →
  ∃ add, s'.df = add ++ s.df ∧ ∀ D, opsV C self rd nt ops l { s with df := D } = some (.code .normal { s' with df := add ++ D })
 | [], s, s', e => by cases e; exact ⟨[], rfl, fun D => rfl⟩
 | o :: rest, s, s', e => by
  unfold opsV at e
  replace e := aA e; obtain ⟨r, hr, e⟩ := e
  split at e
  ·rename_i s1
   obtain ⟨a1, h1, k1⟩ := aDJ hr
   obtain ⟨a2, h2, k2⟩ := aDK rest e
   refine ⟨a2 ++ a1, by rw [h2, h1, List.append_assoc], fun D => ?_⟩
   unfold opsV
   rw [k1 D]
   simp only [Option.bind_some]
   rw [k2 (a1 ++ D), List.append_assoc]
  ·rename_i x s1 hx
   cases e
   exact absurd rfl hx
  ·cases e
theorem YG {ms : List Nat} {ls : List Left} : ∀ (rest ks : List Nat) {s s' : S}, tailV C self rd nt ops ms ls rest ks s = some (.code .normal s') →
  ∃ add, s'.df = add ++ s.df ∧ ∀ D, tailV C self rd nt ops ms ls rest ks { s with df := D } = some (.code .normal { s' with df := add ++ D })
 | rest, [], s, s', e => by
  unfold tailV at e
  replace e := aA e; obtain ⟨tm, mP, e⟩ := e
  replace e := aA e; obtain ⟨aC, hob, e⟩ := e
  cases e
  exact ⟨[], rfl, fun D => by unfold tailV; simp only [mP, hob, Option.bind_some, List.nil_append]⟩
 | rest, k :: ks, s, s', e => by
  unfold tailV at e
  replace e := aA e; obtain ⟨o, ho, e⟩ := e
  replace e := aA e; obtain ⟨tm, mP, e⟩ := e
  replace e := aA e; obtain ⟨aC, hob, e⟩ := e
  replace e := aA e; obtain ⟨r, hr, e⟩ := e
  split at e
  ·rename_i s1
   obtain ⟨a1, h1, k1⟩ := aDJ hr
   obtain ⟨a2, h2, k2⟩ := YG _ ks e
   refine ⟨a2 ++ a1, by rw [h2, h1, List.append_assoc], fun D => ?_⟩
   unfold tailV
   rw [ho]
   simp only [Option.bind_some, mP, hob]
   have := k1 D
   simp only at this
   rw [this]
   simp only [Option.bind_some]
   rw [k2 (a1 ++ D), List.append_assoc]
  ·split at e
   ·cases e
   ·cases e
  ·cases e
theorem aIJ {s s' : S} (e : pW C self rd nt ops s = some (.code .normal s')) :
  ∃ add, s'.df = add ++ s.df ∧ ∀ D, pW C self rd nt ops { s with df := D } = some (.code .normal { s' with df := add ++ D }) := by
 unfold pW at e
 replace e := aO e; obtain ⟨hok, e⟩ := e
 replace e := aA e; obtain ⟨⟨ls, n⟩, hq, e⟩ := e
 obtain ⟨add, h1, h2⟩ := YG _ _ e
 refine ⟨add, h1, fun D => ?_⟩
 have hq' : ∀ (is : List Nat) (ls0 : List Left) (n0 : Nat), jH C self nt ops (masks ops.toList []) { s with df := D } is ls0 n0 = jH C self nt ops (masks ops.toList []) s is ls0 n0 := by
  intro is
  induction is with
  | nil => intro ls0 n0; rfl
  | cons i is ih => intro ls0 n0; unfold jH; congr 1; funext x; exact ih _ _
 unfold pW
 simp only [hok, WS, hq', hq, Option.bind_some]
 exact h2 D
theorem SS {id : Nat} {d : Bool} {tm tm' : T Value} {h h' : Hp} (e : eF C (.code (.region id ops d) rd nt (st tm h)) (.code .normal (st tm' h'))) (D : List Deferred) :
  eF C (.code (.region id ops d) rd nt ⟨tm, D, h⟩) (.code .normal ⟨tm', D, h'⟩) := by
 obtain ⟨n, e⟩ := e
 cases n with
 | zero => cases e
 | succ n =>
  refine .aX ⟨n, ?_⟩
  replace e : eG C (run C n) (.region id ops d) rd nt (st tm h) = some (.code .normal (st tm' h')) := e
  show eG C (run C n) (.region id ops d) rd nt ⟨tm, D, h⟩ = _
  cases d with
  | false =>
   obtain ⟨add, h1, h2⟩ := aDK ops.toList (show opsV C (run C n) rd nt ops ops.toList (st tm h) = _ from e)
   have : add = [] := by simpa [st] using h1
   subst this
   exact h2 D
  | true =>
   obtain ⟨add, h1, h2⟩ := aIJ (show pW C (run C n) rd nt ops (st tm h) = _ from e)
   have : add = [] := by simpa [st] using h1
   subst this
   exact h2 D
end
end Go.bK
/-
  The steps of code that ranges over functions.
-/
namespace Go.bK.Y
open Go.bK
noncomputable section
structure Z where
 tm : Option (T Value)
 ds : List Nat
abbrev KZ := iI → Z → Hp → aF
abbrev rY := Nat → AL → Z → Hp → aF
abbrev YF := Nat → List Value → Hp → aF
abbrev FY := FuncId → YF → List Value → Hp → aF
abbrev RG := Nat → Nat → AL → Z → List Value → Hp → aF
def Z.put (z : Z) (d : Nat) (v : Value) : Z := ⟨Option.rec (motive := fun _ => Option (T Value)) none (fun t => some (t.put d (some v))) z.tm, z.ds⟩
def Z.lose (z : Z) : Z := ⟨none, z.ds⟩
def Z.mark (z : Z) (mk : List Nat) : Z := ⟨z.tm, mk ++ z.ds⟩
def dfs (ds : List Nat) : List Deferred := ds.map fun d => { target := .collected d, args := #[] }
def ZT (z : Z) (tm : T Value) : Prop := ∀ t, z.tm = some t → tm = t
def BN (tm : T Value) (z : Z) (h : Hp) : S := { tm, df := dfs z.ds, h }
theorem ZT.put {z : Z} {tm : T Value} (H : ZT z tm) (d : Nat) (v : Value) : ZT (z.put d v) (tm.put d (some v)) := by
 intro t e
 obtain ⟨zt, zd⟩ := z
 cases zt with
 | none => cases e
 | some t0 =>
  have := H t0 rfl
  subst this
  exact Option.some.inj e
theorem ZT.lose {z : Z} {tm : T Value} : ZT z.lose tm := fun _ e => (by cases e)
inductive Frame where
 | seq (b : Code) (A : eT)
 | block (id : Nat)
 | loop (b : Code) (A : eT)
 | gate (b : Code) (A : eT)
structure wR where
 l : Nat
 keep : List (Nat × Kd)
 code : Code
 DV : eT
 fs : List Frame
def jump (σ : rY) (l : Nat) (keep : List (Nat × Kd)) : KZ := fun r z h => zJ keep r fun al => σ l al z h
def o8 (σ : rY) : Option (Nat × List (Nat × Kd)) → KZ
 | some (l, keep) => jump σ l keep
 | none => fun _ _ _ => none
structure LX where
 tm : T Value
 nt : Nat
 ps : Array Tmp
 a : Code
 b : Code
 d : Nat
def LX.obj (X : LX) (s : LoopState) (p : Option Code) : dG := .loop s p X.tm X.nt X.ps X.a X.b X.d
def JP (p : Prop) (x : aF) : aF := @ite _ p (Classical.propDecidable p) x none
theorem YH {p : Prop} {x : aF} {q : Value × Hp} (e : JP p x = some q) : p ∧ x = some q := by
 unfold JP at e
 by_cases hp : p
 ·rw [if_pos hp] at e; exact ⟨hp, e⟩
 ·rw [if_neg hp] at e; cases e
theorem aBN {p : Prop} (hp : p) (x : aF) : JP p x = x := by unfold JP; exact if_pos hp
def exV : Ex → Option Value
 | .normal => some (.bool true)
 | .ret => some (.bool false)
 | .exit i => some (.int .i64 (Int.ofNat i))
 | .panic _ => none
def EF (l : Nat) (h : Hp) (k : Hp → aF) : aF := fJ <|
 match h.get l with
 | some (.loop .ready p tm nt ps a b d) => bY (Nat.ble h.ro l) (k (h.upd l (.loop .busy p tm nt ps a b d))) none
 | _ => none
def roundEnd (l : Nat) (ex : Value) (h : Hp) : aF := fJ <|
 match h.get l with
 | some (.loop _ _ tm nt ps a b d) => bY (Nat.ble h.ro l) (match ex with
  | .bool true => some (.bool true, h.upd l (.loop .ready none tm nt ps a b d))
  | .bool false => some (.bool false, h.upd l (.loop .done (some .ret) tm nt ps a b d))
  | .int _ (.ofNat i) => some (.bool false, h.upd l (.loop .done (some (.exit i)) tm nt ps a b d))
  | _ => none) none
 | _ => none
def YL (l : Nat) (X : LX) (rb : List Value → Hp → aF) (Y : YF) : YF := fun l' args h =>
 bY (Nat.beq l' l) (JP (h.get l = some (X.obj .ready none)) (aN (rb args h) fun ex h2 => roundEnd l ex h2)) (Y l' args h)
def aBO (rd : Option Nat) (h : Hp) (k : Nat → List Nat → Hp → aF) : aF := fJ <|
 match rd with
 | none => k h.next [h.next] (h.add (.wW true))
 | some l0 => match h.get l0 with
  | some (.loop _ _ _ _ _ _ _ d) => k d [] h
  | _ => none
def aFX (l : Nat) (h : Hp) (k : Ex → Hp → aF) : aF := fJ <|
 match h.get l with
 | some (.loop s p tm nt ps a b d) => bY (VN s && Nat.ble h.ro l) (match p with
  | none => k .normal (h.upd l (.loop .exhausted p tm nt ps a b d))
  | some .ret => k .ret (h.upd l (.loop .exhausted p tm nt ps a b d))
  | some (.exit i) => k (.exit i) (h.upd l (.loop .exhausted p tm nt ps a b d))
  | _ => none) none
 | _ => none
def exK (e : Ex) (n r : aF) (x : Nat → aF) : aF := fJ <| match e with
 | .normal => n
 | .ret => r
 | .exit i => x i
 | .panic _ => none
def aPL (i : Nat) : List Nat → (Nat → aF) → aF
 | [], _ => none
 | id :: ids, f => bY (Nat.beq i id) (f id) (aPL i ids f)
theorem SV {i : Nat} {f : Nat → aF} {q : Value × Hp} : ∀ {ids : List Nat}, aPL i ids f = some q → f i = some q
 | [], e => by cases e
 | id :: ids, e => by
  unfold aPL at e
  cases hb : Nat.beq i id with
  | true => rw [hb] at e; obtain rfl := Nat.eq_of_beq_eq_true hb; exact e
  | false => rw [hb] at e; exact SV e
def aTX (g : Value) (k : FuncId → List Value → List Value → aF) : aF := fJ <| match g with
 | .func (.func f) first cap => k f first.toList cap.toList
 | _ => none
def aRK {α : Type} (x : Option α) (k : α → aF) : aF := bS x k
def aIK (fy : FY) (Y : YF) (rd : Option Nat) (X : Nat → LX) (g : Value) (h : Hp) (rb : Nat → List Value → Hp → aF) (k : Ex → List Nat → Hp → aF) : aF :=
 aTX g fun f first cap => aBO rd h fun d mk h1 =>
  aN (fy f (YL h1.next (X d) (rb h1.next) Y) (first ++ [.func (.yield h1.next) #[] #[]] ++ cap) (h1.add ((X d).obj .ready none))) fun _ h3 =>
  aFX h1.next h3 fun e h4 => k e mk h4
def sU : Code → List Nat
 | .exit i => [i]
 | .seq a b => sU a ++ sU b
 | .cond _ a b => sU a ++ sU b
 | .block id b => (sU b).filter fun i => !Nat.beq i id
 | .loop b => sU b
 | .scope b => sU b
 | .rangeFunc _ _ _ b => sU b
 | _ => []
def aRL : List Nat → List Nat
 | [] => []
 | i :: l => i :: (aRL l).filter fun j => !Nat.beq j i
section
variable (E : Env) (iJ : FuncId → Array Value → Hp → Option (Value × Hp)) (fy : FY) (nt : Nat) (Y : YF)
def orK (x y : aF) : aF := match x with | some q => some q | none => y
theorem aIL {x y : aF} {q : Value × Hp} (e : orK x y = some q) : x = some q ∨ y = some q := by
 cases x with
 | some p => exact .inl e
 | none => exact .inr e
def EG (g : Value) (l : List Value) (h : Hp) : aF := fJ <|
 match g with
 | .func (.func f) first cap => orK (iJ f ((first ++ l.toArray) ++ cap) h) (fy f Y (first.toList ++ l ++ cap.toList) h)
 | .func (.yield n) first _ => Y n (first.toList ++ l) h
 | _ => none
def opY (o : Oper) (r : iI) (h : Hp) (k : KT) : aF :=
 match o.op with
 | .call c => match c.callee with
  | .value (.tmp f) => vN (uF r (.tmp f)) fun g => match evL r c.args.toList with
   | some l => aN (EG iJ fy Y g l h) fun v h => oF E o.type v fun v => GK nt o.dst r k v h
   | none => none
  | _ => opS E iJ nt o r h k
 | _ => opS E iJ nt o r h k
def QN (d : Option Tmp) (z : Z) (r : iI) (k : Z → aF) : aF := fJ <|
 match d with
 | none => k z
 | some d => match r with
  | (d', v) :: _ => match Nat.beq d' d with | true => k (z.put d v) | false => none
  | [] => none
def FK (ops : Array Oper) : List Oper → KZ → KZ
 | [], k => k
 | o :: rest, k => fun r z h =>
  match o.guard with
  | none => opY E iJ fy nt Y o r h fun r h => QN o.dst z r fun z => FK ops rest k r z h
  | some (j, want) => match (ops[j]?).bind (·.dst) with
   | none => none
   | some d => match r.at d with
    | none => none
    | some gv => onG gv
      (match want with
      | true => opY E iJ fy nt Y o ((d, .bool true) :: r) h fun r h => QN o.dst z r fun z => FK ops rest k r z h
      | false => GK nt o.dst ((d, .bool true) :: r) (fun r h => QN o.dst z r fun z => FK ops rest k r z h) undef h)
      (match want with
      | false => opY E iJ fy nt Y o ((d, .bool false) :: r) h fun r h => QN o.dst z r fun z => FK ops rest k r z h
      | true => GK nt o.dst ((d, .bool false) :: r) (fun r h => QN o.dst z r fun z => FK ops rest k r z h) undef h)
      (GK nt o.dst r (fun r h => QN o.dst z r fun z => FK ops rest k r z h) undef h)
def aX6 (ops : Array Oper) : Bool := ops.toList.any fun o => match o.op with
 | .call c => (match c.callee with | .value (.tmp _) => o.guard.isNone | _ => false)
 | _ => false
def aTZ (ops : Array Oper) (o : Oper) (k : KT) : KT := fun r h =>
 match o.guard with
 | none => opY E iJ fy nt Y o r h k
 | some _ => zM E iJ nt ops [o] k r h
def YI (ms : List Nat) (ops : Array Oper) (os : List (List (Nat × dG))) (k : KT) : List Nat → List Nat → KT
 | rest, [] => fun r h => k r ⟨h.next, h.ro, vM os rest h.aC⟩
 | rest, j :: ks => fun r h =>
  match ops[j]? with
  | none => none
  | some o => aTZ E iJ fy nt Y ops o (YI ms ops os k (rest.filter (fun x => !(waits ms j x))) ks) r ⟨h.next, h.ro, vM os (rest.filter (waits ms j)) h.aC⟩
def aIM (ops : Array Oper) (k : KT) : KT := fun r h =>
 sP E iJ nt (masks ops.toList []) ops h.next h.aC (fun r os n => YI E iJ fy nt Y (masks ops.toList []) ops os k (List.range (fU ops)) (List.range' (fU ops) (ops.size - fU ops)) r ⟨n, h.ro, h.aC⟩)
  (List.range (fU ops)) [] h.next r
def aPM (l : List Oper) (ops : Array Oper) (d : Bool) (k : KZ) : KZ :=
 match d with
 | false => FK E iJ fy nt Y ops l k
 | true => match aX6 ops && EA ops with
  | true => fun r z h => aIM E iJ fy nt Y ops (fun r h => k r z.lose h) r h
  | false => fun r z h => jZ E iJ nt l ops true (fun r h => k r z.lose h) r h
end
section
variable (σ : rY) (ρ : RG) (fy : FY) (Y : YF) (rd : Option Nat) (nt : Nat) (regs : List Oper → Array Oper → Bool → KZ → KZ) (fin : KZ)
def sJ : Code → eT → KZ → (Nat → KZ) → KZ
 | .skip, _, kn, _ => kn
 | .label _, _, kn, _ => kn
 | .region _ ops d, _, kn, _ => regs ops.toList ops d kn
 | .seq a b, A, kn, ke =>
  let kb := match A.r.cut with | some (l, keep) => jump σ l keep | none => sJ b A.r kn ke
  match A.l.cut with | some (l, keep) => jump σ l keep | none => sJ a A.l kb ke
 | .cond c x y, A, kn, ke => fun r z h =>
  match uF r c with
  | some v => onB v ((match A.l.cut with | some (l, keep) => jump σ l keep | none => sJ x A.l kn ke) r z h)
    ((match A.r.cut with | some (l, keep) => jump σ l keep | none => sJ y A.r kn ke) r z h)
  | none => none
 | .block id b, A, kn, ke => match A.l.cut with | some (l, keep) => jump σ l keep | none => sJ b A.l kn (fun i => match Nat.beq i id with | true => kn | false => ke i)
 | .loop b, A, _, ke => match A.l.cut with | some (l, keep) => jump σ l keep | none => sJ b A.l (o8 σ A.cut) ke
 | .scope b, A, kn, ke => match A.l.cut with | some (l, keep) => jump σ l keep | none => sJ b A.l kn ke
 | .exit id, _, _, ke => ke id
 | .ret, _, _, _ => fin
 | .rangeFunc f ps a b, A, kn, ke => fun r z h =>
  vN (uF r f) fun g => aRK z.tm fun tm =>
  match A.l.cut with
  | some (j, keep) => zJ keep r fun al =>
    aIK fy Y rd (fun d => ⟨tm, nt, ps, a, b, d⟩) g h (fun l args h => ρ j l al z args h) fun e mk h4 =>
     exK e (kn r (z.mark mk) h4) (fin r (z.mark mk) h4) fun i => aPL i (aRL (sU b)) fun i => ke i r (z.mark mk) h4
  | none => none
 | _, _, _, _ => fun _ _ _ => none
variable (gate : Hp → (Hp → aF) → aF) (zO : KZ) (ex0 : Nat → KZ)
def wE : List Frame → KZ
 | [] => zO
 | .seq _ A :: _ => o8 σ A.cut
 | .block _ :: fs => wE fs
 | .loop _ A :: _ => o8 σ A.cut
 | .gate _ A :: _ => fun r z h => gate h fun h => o8 σ A.cut r z h
def xC : List Frame → Nat → KZ
 | [], i => ex0 i
 | .block id :: fs, i => match Nat.beq i id with | true => wE σ gate zO fs | false => xC fs i
 | .seq _ _ :: fs, i => xC fs i
 | .loop _ _ :: fs, i => xC fs i
 | .gate _ _ :: _, _ => fun _ _ _ => none
end
def collect : Code → eT → List Frame → List wR
 | c, A, fs =>
  (match A.cut with | some (l, keep) => [{ l, keep, code := c, DV := A, fs }] | none => []) ++
  match c with
  | .seq a b => collect a A.l (.seq b A.r :: fs) ++ collect b A.r fs
  | .cond _ x y => collect x A.l fs ++ collect y A.r fs
  | .block id b => collect b A.l (.block id :: fs)
  | .loop b => collect b A.l (.loop b A :: fs)
  | .scope b => collect b A.l fs
  | _ => []
def entry (l : Nat) : List wR → Option wR
 | [] => none
 | e :: es => cond (Nat.beq e.l l) (some e) (entry l es)
section
variable (C : dO) (rd : Option Nat) (nt : Nat) (gl : Nat) (Fin : Ex → S → Value × Hp → Prop)
def oP : List Frame → Ex → S → Value × Hp → Prop
 | [], e, s, q => Fin e s q
 | .seq b _ :: fs, .normal, s, q => ∃ e s', eF C (.code b rd nt s) (.code e s') ∧ oP fs e s' q
 | .seq _ _ :: fs, e, s, q => oP fs e s q
 | .block id :: fs, .exit i, s, q => match Nat.beq i id with | true => oP fs .normal s q | false => oP fs (.exit i) s q
 | .block _ :: fs, e, s, q => oP fs e s q
 | .loop b _ :: fs, .normal, s, q => ∃ e s', eF C (.code (.loop b) rd nt s) (.code e s') ∧ oP fs e s' q
 | .loop _ _ :: fs, e, s, q => oP fs e s q
 | .gate b _ :: fs, .normal, s, q => ∃ p vD nt1 ps1 a1 b1 d1, s.h.get gl = some (.loop .ready p vD nt1 ps1 a1 b1 d1) ∧ Nat.ble s.h.ro gl = true ∧
   ∃ e s', eF C (.code b rd nt { s with h := s.h.upd gl (.loop .busy p vD nt1 ps1 a1 b1 d1) }) (.code e s') ∧ oP fs e s' q
 | .gate _ _ :: _, _, _, _ => False
def M (c : Code) (fs : List Frame) (r : iI) (z : Z) (h : Hp) (q : Value × Hp) : Prop :=
 ∀ tm, RR r tm → ZT z tm → ∃ e s', eF C (.code c rd nt (BN tm z h)) (.code e s') ∧ oP C rd nt gl Fin fs e s' q
def KN (kn : KZ) (fs : List Frame) : Prop := ∀ r z h q, kn r z h = some q → ∀ tm, RR r tm → ZT z tm → oP C rd nt gl Fin fs .normal (BN tm z h) q
def KE (ke : Nat → KZ) (fs : List Frame) : Prop := ∀ i r z h q, ke i r z h = some q → ∀ tm, RR r tm → ZT z tm → oP C rd nt gl Fin fs (.exit i) (BN tm z h) q
def SL (σ : rY) (l : Nat) (keep : List (Nat × Kd)) (c : Code) (fs : List Frame) : Prop := ∀ al vs z h q, σ l al z h = some q → AL.vals (keep.map (·.2)) al = some vs → M C rd nt gl Fin c fs ((keep.map (·.1)).zip vs) z h q
def JQ (regs : List Oper → Array Oper → Bool → KZ → KZ) : Prop :=
 ∀ id ops d kn r z h q, regs ops.toList ops d kn r z h = some q → ∀ tm, RR r tm → ZT z tm → ∃ tm' h' r' z', eF C (.code (.region id ops d) rd nt (BN tm z h)) (.code .normal (BN tm' z' h')) ∧ RR r' tm' ∧ ZT z' tm' ∧ kn r' z' h' = some q
def JR (Y : YF) : Prop := ∀ l args h v h', Y l args h = some (v, h') → ∃ n, BB (run C n) l args.toArray h = some (.ret v h')
def zP (fy : FY) : Prop := ∀ f Y args h v h', JR C Y → fy f Y args h = some (v, h') → (∀ a h, C.iJ f a h = none) ∧ C.quiet f = false ∧ eF C (.call f args.toArray h) (.ret v h')
def SX (ρ : RG) (j : Nat) (keep : List (Nat × Kd)) (ps : Array Tmp) (a b : Code) : Prop :=
 ∀ l al vs z args h ex h2, ρ j l al z args h = some (ex, h2) → AL.vals (keep.map (·.2)) al = some vs → ∀ tm, RR ((keep.map (·.1)).zip vs) tm → z.tm = some tm →
  ∃ vD s1 p tmx ntx psx ax bx d e s2, args.length = ps.size ∧ qC nt (ps.zip args.toArray).toList tm = some vD ∧
   eF C (.code a (some l) nt { tm := vD, df := [], h }) (.code .normal s1) ∧ s1.h.get l = some (.loop .ready p tmx ntx psx ax bx d) ∧ Nat.ble s1.h.ro l = true ∧
   eF C (.code b (some l) nt { s1 with h := s1.h.upd l (.loop .busy p tmx ntx psx ax bx d) }) (.code e s2) ∧ exV e = some ex ∧ s2.h = h2
end
section
variable {C : dO} {rd : Option Nat} {nt gl : Nat} {Fin : Ex → S → Value × Hp → Prop}
variable {σ : rY} {ρ : RG} {fy : FY} {Y : YF} {regs : List Oper → Array Oper → Bool → KZ → KZ} {fin : KZ}
def eP (C : dO) (rd : Option Nat) (nt gl : Nat) (Fin : Ex → S → Value × Hp → Prop) (σ : rY) (ρ : RG) : Code → eT → List Frame → Prop
 | .seq a b, A, fs =>
  (match A.l.cut with | some (l, keep) => SL C rd nt gl Fin σ l keep a (.seq b A.r :: fs) | none => eP C rd nt gl Fin σ ρ a A.l (.seq b A.r :: fs)) ∧
  (match A.r.cut with | some (l, keep) => SL C rd nt gl Fin σ l keep b fs | none => eP C rd nt gl Fin σ ρ b A.r fs)
 | .cond _ x y, A, fs =>
  (match A.l.cut with | some (l, keep) => SL C rd nt gl Fin σ l keep x fs | none => eP C rd nt gl Fin σ ρ x A.l fs) ∧
  (match A.r.cut with | some (l, keep) => SL C rd nt gl Fin σ l keep y fs | none => eP C rd nt gl Fin σ ρ y A.r fs)
 | .block id b, A, fs => match A.l.cut with | some (l, keep) => SL C rd nt gl Fin σ l keep b (.block id :: fs) | none => eP C rd nt gl Fin σ ρ b A.l (.block id :: fs)
 | .loop b, A, fs =>
  (match A.cut with | some (l, keep) => SL C rd nt gl Fin σ l keep (.loop b) fs | none => True) ∧
  (match A.l.cut with | some (l, keep) => SL C rd nt gl Fin σ l keep b (.loop b A :: fs) | none => eP C rd nt gl Fin σ ρ b A.l (.loop b A :: fs))
 | .scope b, A, fs => match A.l.cut with | some (l, keep) => SL C rd nt gl Fin σ l keep b fs | none => eP C rd nt gl Fin σ ρ b A.l fs
 | .rangeFunc _ ps a b, A, _ => match A.l.cut with | some (j, keep) => SX C nt ρ j keep ps a b | none => True
 | _, _, _ => True
def FC (C : dO) (rd : Option Nat) (nt gl : Nat) (Fin : Ex → S → Value × Hp → Prop) (σ : rY) : List Frame → Prop
 | [] => True
 | .seq b A :: fs => (match A.cut with | some (l, keep) => SL C rd nt gl Fin σ l keep b fs | none => True) ∧ FC C rd nt gl Fin σ fs
 | .block _ :: fs => FC C rd nt gl Fin σ fs
 | .loop b A :: fs => (match A.cut with | some (l, keep) => SL C rd nt gl Fin σ l keep (.loop b) fs | none => True) ∧ FC C rd nt gl Fin σ fs
 | .gate b A :: fs => (match A.cut with | some (l, keep) => SL C rd nt gl Fin σ l keep b fs | none => True) ∧ FC C rd nt gl Fin σ fs
theorem SL.jump {l : Nat} {keep : List (Nat × Kd)} {c : Code} {fs : List Frame} (H : SL C rd nt gl Fin σ l keep c fs) {r : iI} {z : Z} {h : Hp} {q : Value × Hp} (e : jump σ l keep r z h = some q) : M C rd nt gl Fin c fs r z h q := by
 intro tm ht hz
 obtain ⟨al, vs, h1, h2, h3⟩ := ht.pack (show zJ keep r (fun al => σ l al z h) = some q from e)
 exact H al vs z h q h3 h1 tm h2 hz
theorem M.seq {a b : Code} {A : eT} {fs : List Frame} {r : iI} {z : Z} {h : Hp} {q : Value × Hp} (H : M C rd nt gl Fin a (.seq b A :: fs) r z h q) : M C rd nt gl Fin (.seq a b) fs r z h q := by
 intro tm ht hz
 obtain ⟨e, s1, h1, h2⟩ := H tm ht hz
 cases e with
 | normal =>
  obtain ⟨e, s2, h3, h4⟩ := h2
  obtain ⟨n, k1, k2⟩ := h1.two h3
  exact ⟨e, s2, .aX ⟨n, by simp only [dW, eG, k1, k2, Option.bind_some]⟩, h4⟩
 | exit i => obtain ⟨n, k1⟩ := h1; exact ⟨_, s1, .aX ⟨n, by simp only [dW, eG, k1, Option.bind_some]⟩, h2⟩
 | ret => obtain ⟨n, k1⟩ := h1; exact ⟨_, s1, .aX ⟨n, by simp only [dW, eG, k1, Option.bind_some]⟩, h2⟩
 | panic v => obtain ⟨n, k1⟩ := h1; exact ⟨_, s1, .aX ⟨n, by simp only [dW, eG, k1, Option.bind_some]⟩, h2⟩
theorem M.loop {b : Code} {A : eT} {fs : List Frame} {r : iI} {z : Z} {h : Hp} {q : Value × Hp} (H : M C rd nt gl Fin b (.loop b A :: fs) r z h q) : M C rd nt gl Fin (.loop b) fs r z h q := by
 intro tm ht hz
 obtain ⟨e, s1, h1, h2⟩ := H tm ht hz
 cases e with
 | normal =>
  obtain ⟨e, s2, h3, h4⟩ := h2
  obtain ⟨n, k1, k2⟩ := h1.two h3
  exact ⟨e, s2, .aX ⟨n, by simp only [dW, eG, k1, k2, Option.bind_some]⟩, h4⟩
 | exit i => obtain ⟨n, k1⟩ := h1; exact ⟨_, s1, .aX ⟨n, by simp only [dW, eG, k1, Option.bind_some]⟩, h2⟩
 | ret => obtain ⟨n, k1⟩ := h1; exact ⟨_, s1, .aX ⟨n, by simp only [dW, eG, k1, Option.bind_some]⟩, h2⟩
 | panic v => obtain ⟨n, k1⟩ := h1; exact ⟨_, s1, .aX ⟨n, by simp only [dW, eG, k1, Option.bind_some]⟩, h2⟩
theorem M.block {id : Nat} {b : Code} {fs : List Frame} {r : iI} {z : Z} {h : Hp} {q : Value × Hp} (H : M C rd nt gl Fin b (.block id :: fs) r z h q) : M C rd nt gl Fin (.block id b) fs r z h q := by
 intro tm ht hz
 obtain ⟨e, s1, h1, h2⟩ := H tm ht hz
 obtain ⟨n, k1⟩ := h1
 cases e with
 | normal => exact ⟨_, s1, .aX ⟨n, by simp only [dW, eG, k1, Option.bind_some]⟩, h2⟩
 | exit i =>
  simp only [oP] at h2
  cases hb : Nat.beq i id with
  | true => rw [hb] at h2; exact ⟨.normal, s1, .aX ⟨n, by simp only [dW, eG, k1, Option.bind_some, hb]⟩, h2⟩
  | false => rw [hb] at h2; exact ⟨.exit i, s1, .aX ⟨n, by simp only [dW, eG, k1, Option.bind_some, hb]⟩, h2⟩
 | ret => exact ⟨_, s1, .aX ⟨n, by simp only [dW, eG, k1, Option.bind_some]⟩, h2⟩
 | panic v => exact ⟨_, s1, .aX ⟨n, by simp only [dW, eG, k1, Option.bind_some]⟩, h2⟩
theorem M.scope {b : Code} {fs : List Frame} {r : iI} {z : Z} {h : Hp} {q : Value × Hp} (H : M C rd nt gl Fin b fs r z h q) : M C rd nt gl Fin (.scope b) fs r z h q := by
 intro tm ht hz
 obtain ⟨e, s1, h1, h2⟩ := H tm ht hz
 obtain ⟨n, k1⟩ := h1
 exact ⟨e, s1, .aX ⟨n, by simp only [dW, eG, k1, Option.bind_some]⟩, h2⟩
def aIO : List Frame → Prop
 | [] => True
 | .gate _ _ :: _ => False
 | _ :: fs => aIO fs
theorem oP.ret {s : S} {q : Value × Hp} : ∀ (fs : List Frame), aIO fs → Fin .ret s q → oP C rd nt gl Fin fs .ret s q
 | [], _, H => H
 | .seq _ _ :: fs, g, H => oP.ret fs g H
 | .block _ :: fs, g, H => oP.ret fs g H
 | .loop _ _ :: fs, g, H => oP.ret fs g H
 | .gate _ _ :: _, g, _ => g.elim
end
end
end Go.bK.Y
/-
  What is told of code that ranges over functions is so.
-/
namespace Go.bK.Y
open Go.bK
noncomputable section
theorem aFY {g : Value} {k : FuncId → List Value → List Value → aF} {q : Value × Hp} (e : aTX g k = some q) : ∃ f a b, g = .func (.func f) a b ∧ k f a.toList b.toList = some q := by
 unfold aTX fJ at e
 dsimp only at e
 split at e
 ·exact ⟨_, _, _, rfl, e⟩
 ·cases e
theorem YJ {rd : Option Nat} {h : Hp} {k : Nat → List Nat → Hp → aF} {q : Value × Hp} (e : aBO rd h k = some q) : ∃ d mk h1, OI rd h = some (d, h1, dfs mk) ∧ k d mk h1 = some q := by
 unfold aBO fJ at e
 dsimp only at e
 split at e
 ·exact ⟨_, _, _, rfl, e⟩
 ·split at e
  ·rename_i hg
   exact ⟨_, [], _, by unfold OI; dsimp only; rw [hg]; rfl, e⟩
  ·cases e
def aIP : Option Code → Option Ex
 | none => some .normal
 | some .ret => some .ret
 | some (.exit i) => some (.exit i)
 | _ => none
theorem iD {ρ : Type} {b : Bool} {x : Option ρ} {q : ρ} (e : bY b x none = some q) : b = true ∧ x = some q := by
 cases b with
 | true => exact ⟨rfl, e⟩
 | false => cases e
theorem aFZ {l : Nat} {h : Hp} {k : Ex → Hp → aF} {q : Value × Hp} (e : aFX l h k = some q) :
  ∃ s p tm nt ps a b d ex, h.get l = some (.loop s p tm nt ps a b d) ∧ (VN s && Nat.ble h.ro l) = true ∧ aIP p = some ex ∧ k ex (h.upd l (.loop .exhausted p tm nt ps a b d)) = some q := by
 unfold aFX fJ at e
 dsimp only at e
 split at e
 ·rename_i s p tm nt ps a b d hg
  obtain ⟨hb, e⟩ := iD e
  split at e
  ·exact ⟨_, _, _, _, _, _, _, _, _, hg, hb, rfl, e⟩
  ·exact ⟨_, _, _, _, _, _, _, _, _, hg, hb, rfl, e⟩
  ·exact ⟨_, _, _, _, _, _, _, _, _, hg, hb, rfl, e⟩
  ·cases e
 ·cases e
theorem aIQ {e : Ex} {n r : aF} {x : Nat → aF} {q : Value × Hp} (h : exK e n r x = some q) : (e = .normal ∧ n = some q) ∨ (e = .ret ∧ r = some q) ∨ ∃ i, e = .exit i ∧ x i = some q := by
 unfold exK fJ at h
 dsimp only at h
 split at h
 ·exact .inl ⟨rfl, h⟩
 ·exact .inr (.inl ⟨rfl, h⟩)
 ·exact .inr (.inr ⟨_, rfl, h⟩)
 ·cases h
theorem aBP {l : Nat} {h : Hp} {k : Hp → aF} {q : Value × Hp} (e : EF l h k = some q) :
  ∃ p tm nt ps a b d, h.get l = some (.loop .ready p tm nt ps a b d) ∧ Nat.ble h.ro l = true ∧ k (h.upd l (.loop .busy p tm nt ps a b d)) = some q := by
 unfold EF fJ at e
 dsimp only at e
 split at e
 ·rename_i p tm nt ps a b d hg
  obtain ⟨hb, e⟩ := iD e
  exact ⟨_, _, _, _, _, _, _, hg, hb, e⟩
 ·cases e
section
variable {C : dO} {nt : Nat}
theorem aX7 {ρ : RG} {j : Nat} {keep : List (Nat × Kd)} {ps : Array Tmp} {a b : Code} (H : SX C nt ρ j keep ps a b) {Y : YF} (hY : JR C Y) {l : Nat} {al : AL} {vs : List Value} {z : Z} {tm : T Value} {d : Nat}
  (hv : AL.vals (keep.map (·.2)) al = some vs) (hr : RR ((keep.map (·.1)).zip vs) tm) (hz : z.tm = some tm) : JR C (YL l ⟨tm, nt, ps, a, b, d⟩ (fun args h => ρ j l al z args h) Y) := by
 intro l' args h v h' e
 unfold YL at e
 cases hb : Nat.beq l' l with
 | false => rw [hb] at e; exact hY l' args h v h' e
 | true =>
  rw [hb] at e
  obtain rfl := Nat.eq_of_beq_eq_true hb
  obtain ⟨hget, e⟩ := YH e
  obtain ⟨ex, h2, hrb, e⟩ := jB e
  obtain ⟨vD, s1, p, tmx, ntx, psx, ax, bx, dx, en, s2, k1, k2, k3, k4, k5, k6, k7, k8⟩ := H l' al vs z args h ex h2 hrb hv tm hr hz
  obtain ⟨n, r1, r2⟩ := k3.two k6
  refine ⟨n, ?_⟩
  subst k8
  have hsz : Nat.beq args.toArray.size ps.size = true := by simp [k1]
  unfold roundEnd fJ at e
  dsimp only at e
  split at e
  ·rename_i st0 p0 tm0 nt0 ps0 a0 b0 d0 hg2
   obtain ⟨hro, e⟩ := iD e
   unfold BB
   rw [hget]
   simp only [LX.obj, hsz, WS, k2, Option.bind_some, r1, k4, k5, r2, hg2, hro]
   cases en with
   | normal => cases k7; dsimp only at e ⊢; cases e; rfl
   | ret => cases k7; dsimp only at e ⊢; cases e; rfl
   | exit i => cases k7; dsimp only at e ⊢; cases e; rfl
   | panic w => cases k7
  ·cases e
end
section
variable {C : dO} {rd : Option Nat} {nt gl : Nat} {Fin : Ex → S → Value × Hp → Prop}
variable {σ : rY} {ρ : RG} {fy : FY} {Y : YF} {regs : List Oper → Array Oper → Bool → KZ → KZ}
def KR (C : dO) (rd : Option Nat) (nt gl : Nat) (Fin : Ex → S → Value × Hp → Prop) (fin : KZ) (fs : List Frame) : Prop := ∀ r z h q, fin r z h = some q → ∀ tm, RR r tm → ZT z tm → oP C rd nt gl Fin fs .ret (BN tm z h) q
theorem aF0 (hY : JR C Y) (JS : zP C fy) {f : Operand} {ps : Array Tmp} {a b : Code} {j : Nat} {keep : List (Nat × Kd)} (H : SX C nt ρ j keep ps a b) {g : Value} {z : Z} {tm : T Value} {h : Hp} (hg : jC tm f = some g)
  {al : AL} {vs : List Value} (hv : AL.vals (keep.map (·.2)) al = some vs) (hr : RR ((keep.map (·.1)).zip vs) tm) (hz : z.tm = some tm) {k : Ex → List Nat → Hp → aF} {q : Value × Hp}
  (e : aIK fy Y rd (fun d => ⟨tm, nt, ps, a, b, d⟩) g h (fun l args h => ρ j l al z args h) k = some q) :
  ∃ ex mk h4, eF C (.code (.rangeFunc f ps a b) rd nt (BN tm z h)) (.code ex (BN tm (z.mark mk) h4)) ∧ k ex mk h4 = some q := by
 unfold aIK at e
 obtain ⟨gf, fa, ca, rfl, e1⟩ := aFY e
 obtain ⟨d, mk, h1, hent, e2⟩ := YJ e1
 obtain ⟨u, h3, hcall, e3⟩ := jB e2
 obtain ⟨s0, p0, tm0, nt0, ps0, a0, b0, d0, ex, hg3, hb, hp, e4⟩ := aFZ e3
 obtain ⟨ho, hq, n, hrun⟩ := JS _ _ _ _ _ _ (aX7 (d := d) H hY hv hr hz) hcall
 refine ⟨ex, mk, _, .aX ⟨n, ?_⟩, e4⟩
 have hcv : mR C (run C n) (.func gf) (fa ++ #[Value.func (Fn.yield h1.next) #[] #[]] ++ ca) (h1.add (.loop .ready none tm nt ps a b d)) = some (.ret u h3) := by
  have : (fa ++ #[Value.func (Fn.yield h1.next) #[] #[]] ++ ca) = (fa.toList ++ [Value.func (Fn.yield h1.next) #[] #[]] ++ ca.toList).toArray := by
   apply Array.ext'; simp
  rw [this]
  simp only [mR, ho, hq]
  exact hrun
 unfold aIP at hp
 split at hp
 ·cases hp; simp only [dW, eG, yT, BN, hg, Option.bind_some, hent, hcv, hg3, hb, WS, Z.mark, dfs, List.map_append]
 ·cases hp; simp only [dW, eG, yT, BN, hg, Option.bind_some, hent, hcv, hg3, hb, WS, Z.mark, dfs, List.map_append]
 ·cases hp; simp only [dW, eG, yT, BN, hg, Option.bind_some, hent, hcv, hg3, hb, WS, Z.mark, dfs, List.map_append]
 ·cases hp
theorem YK {fin : KZ} (K4 : JQ C rd nt regs) (hY : JR C Y) (JS : zP C fy) :
  ∀ (c : Code) (A : eT) (fs : List Frame) (kn : KZ) (ke : Nat → KZ), KN C rd nt gl Fin kn fs → KE C rd nt gl Fin ke fs → KR C rd nt gl Fin fin fs → eP C rd nt gl Fin σ ρ c A fs →
   ∀ r z h q, sJ σ ρ fy Y rd nt regs fin c A kn ke r z h = some q → M C rd nt gl Fin c fs r z h q := by
 intro c
 induction c with
 | skip => intro A fs kn ke hn he hr hc r z h q e tm ht hz; exact ⟨.normal, _, .aX ⟨0, rfl⟩, hn r z h q e tm ht hz⟩
 | label l => intro A fs kn ke hn he hr hc r z h q e tm ht hz; exact ⟨.normal, _, .aX ⟨0, rfl⟩, hn r z h q e tm ht hz⟩
 | region id ops d =>
  intro A fs kn ke hn he hr hc r z h q e tm ht hz
  obtain ⟨tm', h', r', z', h1, h2, h3, h4⟩ := K4 id ops d kn r z h q e tm ht hz
  exact ⟨.normal, _, h1, hn r' z' h' q h4 tm' h2 h3⟩
 | seq a b iha ihb =>
  intro A fs kn ke hn he hr hc r z h q e
  obtain ⟨ca, cb⟩ := hc
  simp only [sJ] at e
  have hb : KN C rd nt gl Fin (match A.r.cut with | some (l, keep) => Go.bK.Y.jump σ l keep | none => sJ σ ρ fy Y rd nt regs fin b A.r kn ke) (.seq b A.r :: fs) := by
   intro r z h q e tm ht hz
   cases hcut : A.r.cut with
   | some x => obtain ⟨l, keep⟩ := x; rw [hcut] at e cb; exact SL.jump cb e tm ht hz
   | none => rw [hcut] at e cb; exact ihb A.r fs kn ke hn he hr cb r z h q e tm ht hz
  have he' : KE C rd nt gl Fin ke (.seq b A.r :: fs) := fun i r z h q e tm ht hz => he i r z h q e tm ht hz
  have hr' : KR C rd nt gl Fin fin (.seq b A.r :: fs) := fun r z h q e tm ht hz => hr r z h q e tm ht hz
  apply M.seq (A := A.r)
  cases hcut : A.l.cut with
  | some x => obtain ⟨l, keep⟩ := x; rw [hcut] at e ca; exact SL.jump ca e
  | none => rw [hcut] at e ca; exact iha A.l _ _ ke hb he' hr' ca r z h q e
 | cond c x y NI NJ =>
  intro A fs kn ke hn he hr hc r z h q e
  obtain ⟨cx, cy⟩ := hc
  simp only [sJ] at e
  split at e
  ·rename_i v hv
   rcases xD e with ⟨rfl, e⟩ | ⟨rfl, e⟩
   ·intro tm ht hz
    have hM : M C rd nt gl Fin x fs r z h q := by
     cases hcut : A.l.cut with
     | some w => obtain ⟨l, keep⟩ := w; rw [hcut] at e cx; exact SL.jump cx e
     | none => rw [hcut] at e cx; exact NI A.l fs kn ke hn he hr cx r z h q e
    obtain ⟨ee, s1, ⟨n, h1⟩, h2⟩ := hM tm ht hz
    exact ⟨ee, s1, .aX ⟨n, by simp only [dW, eG, oL, BN, dR ht hv, Option.bind_some] at h1 ⊢; exact h1⟩, h2⟩
   ·intro tm ht hz
    have hM : M C rd nt gl Fin y fs r z h q := by
     cases hcut : A.r.cut with
     | some w => obtain ⟨l, keep⟩ := w; rw [hcut] at e cy; exact SL.jump cy e
     | none => rw [hcut] at e cy; exact NJ A.r fs kn ke hn he hr cy r z h q e
    obtain ⟨ee, s1, ⟨n, h1⟩, h2⟩ := hM tm ht hz
    exact ⟨ee, s1, .aX ⟨n, by simp only [dW, eG, oL, BN, dR ht hv, Option.bind_some] at h1 ⊢; exact h1⟩, h2⟩
  ·cases e
 | block id b ih =>
  intro A fs kn ke hn he hr hc r z h q e
  simp only [sJ] at e
  apply M.block
  unfold eP at hc
  have hr' : KR C rd nt gl Fin fin (.block id :: fs) := fun r z h q e tm ht hz => hr r z h q e tm ht hz
  cases hcut : A.l.cut with
  | some x => obtain ⟨l, keep⟩ := x; rw [hcut] at e hc; exact SL.jump hc e
  | none =>
   rw [hcut] at e hc
   refine ih A.l (.block id :: fs) kn _ (fun r z h q e tm ht hz => hn r z h q e tm ht hz) ?_ hr' hc r z h q e
   intro i r z h q e tm ht hz
   replace e : (match Nat.beq i id with | true => kn | false => ke i) r z h = some q := e
   simp only [oP]
   cases hb : Nat.beq i id with
   | true => rw [hb] at e; exact hn r z h q e tm ht hz
   | false => rw [hb] at e; exact he i r z h q e tm ht hz
 | loop b ih =>
  intro A fs kn ke hn he hr hc r z h q e
  obtain ⟨c1, c2⟩ := hc
  simp only [sJ] at e
  apply M.loop (A := A)
  have hj : KN C rd nt gl Fin (o8 σ A.cut) (.loop b A :: fs) := by
   intro r z h q e tm ht hz
   cases hcut : A.cut with
   | some x => obtain ⟨l, keep⟩ := x; rw [hcut] at e c1; exact SL.jump c1 e tm ht hz
   | none => rw [hcut] at e; cases e
  have hr' : KR C rd nt gl Fin fin (.loop b A :: fs) := fun r z h q e tm ht hz => hr r z h q e tm ht hz
  cases hcut : A.l.cut with
  | some x => obtain ⟨l, keep⟩ := x; rw [hcut] at e c2; exact SL.jump c2 e
  | none => rw [hcut] at e c2; exact ih A.l _ _ ke hj (fun i r z h q e tm ht hz => he i r z h q e tm ht hz) hr' c2 r z h q e
 | rangeFunc f ps a b _ _ =>
  intro A fs kn ke hn he hr hc r z h q e tm ht hz
  simp only [sJ] at e
  obtain ⟨g, hg, e⟩ := cO e
  obtain ⟨tm0, mP, e⟩ := fG e
  obtain rfl := hz tm0 mP
  unfold eP at hc
  cases hcut : A.l.cut with
  | none => rw [hcut] at e; cases e
  | some x =>
   obtain ⟨j, keep⟩ := x
   rw [hcut] at e hc
   obtain ⟨al, vs, hv, hrr, e⟩ := ht.pack e
   obtain ⟨ex, mk, h4, hrun, e⟩ := aF0 (rd := rd) hY JS hc (dR ht hg) hv hrr mP e
   have hz2 : ZT (z.mark mk) tm := fun t e => hz t e
   refine ⟨ex, _, hrun, ?_⟩
   rcases aIQ e with ⟨rfl, e⟩ | ⟨rfl, e⟩ | ⟨i, rfl, e⟩
   ·exact hn _ _ _ _ e tm ht hz2
   ·exact hr _ _ _ _ e tm ht hz2
   ·exact he i _ _ _ _ (SV e) tm ht hz2
 | exit id => intro A fs kn ke hn he hr hc r z h q e tm ht hz; exact ⟨.exit id, _, .aX ⟨0, rfl⟩, he id r z h q e tm ht hz⟩
 | scope b ih =>
  intro A fs kn ke hn he hr hc r z h q e
  simp only [sJ] at e
  unfold eP at hc
  apply M.scope
  cases hcut : A.l.cut with
  | some x => obtain ⟨l, keep⟩ := x; rw [hcut] at e hc; exact SL.jump hc e
  | none => rw [hcut] at e hc; exact ih A.l fs kn ke hn he hr hc r z h q e
 | goto l => intro A fs kn ke hn he hr hc r z h q e; cases e
 | ret => intro A fs kn ke hn he hr hc r z h q e tm ht hz; exact ⟨.ret, _, .aX ⟨0, rfl⟩, hr r z h q e tm ht hz⟩
 | refuse w => intro A fs kn ke hn he hr hc r z h q e; cases e
end
section
variable {C : dO} {rd : Option Nat} {nt gl : Nat} {Fin : Ex → S → Value × Hp → Prop}
variable {σ : rY} {ρ : RG} {zO : KZ} {ex0 : Nat → KZ}
theorem AY (h0 : KN C rd nt gl Fin zO []) : ∀ fs, FC C rd nt gl Fin σ fs → KN C rd nt gl Fin (wE σ (EF gl) zO fs) fs
 | [], _ => h0
 | .seq b A :: fs, hc => by
  intro r z h q e tm ht hz
  have c1 := hc.1
  unfold wE at e
  cases hcut : A.cut with
  | some x => obtain ⟨l, keep⟩ := x; rw [hcut] at e c1; exact SL.jump c1 e tm ht hz
  | none => rw [hcut] at e; cases e
 | .block _ :: fs, hc => fun r z h q e tm ht hz => AY h0 fs hc r z h q e tm ht hz
 | .loop b A :: fs, hc => by
  intro r z h q e tm ht hz
  have c1 := hc.1
  unfold wE at e
  cases hcut : A.cut with
  | some x => obtain ⟨l, keep⟩ := x; rw [hcut] at e c1; exact SL.jump c1 e tm ht hz
  | none => rw [hcut] at e; cases e
 | .gate b A :: fs, hc => by
  intro r z h q e tm ht hz
  have c1 := hc.1
  unfold wE at e
  obtain ⟨p, tmx, ntx, psx, ax, bx, dx, g1, g2, e⟩ := aBP e
  cases hcut : A.cut with
  | some x =>
   obtain ⟨l, keep⟩ := x; rw [hcut] at e c1
   exact ⟨p, tmx, ntx, psx, ax, bx, dx, g1, g2, SL.jump c1 e tm ht hz⟩
  | none => rw [hcut] at e; cases e
theorem vP (h0 : KN C rd nt gl Fin zO []) (hx : KE C rd nt gl Fin ex0 []) : ∀ fs, FC C rd nt gl Fin σ fs → KE C rd nt gl Fin (xC σ (EF gl) zO ex0 fs) fs
 | [], _ => hx
 | .seq b A :: fs, hc => fun i r z h q e tm ht hz => vP h0 hx fs hc.2 i r z h q e tm ht hz
 | .block id :: fs, hc => by
  intro i r z h q e tm ht hz
  simp only [xC] at e
  simp only [oP]
  cases hb : Nat.beq i id with
  | true => rw [hb] at e; exact AY h0 fs hc r z h q e tm ht hz
  | false => rw [hb] at e; exact vP h0 hx fs hc i r z h q e tm ht hz
 | .loop b A :: fs, hc => fun i r z h q e tm ht hz => vP h0 hx fs hc.2 i r z h q e tm ht hz
 | .gate b A :: fs, hc => fun i r z h q e => (by cases e)
def zD (C : dO) (rd : Option Nat) (nt gl : Nat) (Fin : Ex → S → Value × Hp → Prop) (σ : rY) (L : List wR) : Prop := ∀ e ∈ L, SL C rd nt gl Fin σ e.l e.keep e.code e.fs
structure QF where
 j : Nat
 keep : List (Nat × Kd)
 ps : Array Tmp
 a : Code
 b : Code
def qF : Code → eT → List QF
 | .seq a b, A => qF a A.l ++ qF b A.r
 | .cond _ x y, A => qF x A.l ++ qF y A.r
 | .block _ b, A => qF b A.l
 | .loop b, A => qF b A.l
 | .scope b, A => qF b A.l
 | .rangeFunc _ ps a b, A => match A.l.cut with | some (j, keep) => [⟨j, keep, ps, a, b⟩] | none => []
 | _, _ => []
def BO (C : dO) (nt : Nat) (ρ : RG) (l : List QF) : Prop := ∀ x ∈ l, SX C nt ρ x.j x.keep x.ps x.a x.b
theorem eY {c : Code} {A : eT} {fs : List Frame} {l : Nat} {keep : List (Nat × Kd)} (h : A.cut = some (l, keep)) : { l, keep, code := c, DV := A, fs } ∈ collect c A fs := by
 unfold collect; rw [h]; exact List.mem_append_left _ (List.mem_singleton.2 rfl)
theorem aIR : ∀ (c : Code) (A : eT) (fs : List Frame), ∀ e ∈ collect c A fs, ∀ x ∈ qF e.code e.DV, x ∈ qF c A := by
 have self : ∀ {c : Code} {A : eT} {fs : List Frame} {rest : List wR} {e : wR}, e ∈ (match A.cut with | some (l, keep) => [({ l, keep, code := c, DV := A, fs } : wR)] | none => []) ++ rest → (e ∈ rest → ∀ x ∈ qF e.code e.DV, x ∈ qF c A) → ∀ x ∈ qF e.code e.DV, x ∈ qF c A := by
  intro c A fs rest e he hr
  rcases List.mem_append.1 he with h1 | h1
  ·cases hcut : A.cut with
   | some x => obtain ⟨l, keep⟩ := x; rw [hcut] at h1; obtain rfl := List.mem_singleton.1 h1; exact fun x hx => hx
   | none => rw [hcut] at h1; cases h1
  ·exact hr h1
 intro c
 induction c with
 | seq a b iha ihb =>
  intro A fs e he
  unfold collect at he
  refine self he fun he x hx => ?_
  rcases List.mem_append.1 he with h1 | h1
  ·exact List.mem_append_left _ (iha _ _ e h1 x hx)
  ·exact List.mem_append_right _ (ihb _ _ e h1 x hx)
 | cond c x y NI NJ =>
  intro A fs e he
  unfold collect at he
  refine self he fun he x hx => ?_
  rcases List.mem_append.1 he with h1 | h1
  ·exact List.mem_append_left _ (NI _ _ e h1 x hx)
  ·exact List.mem_append_right _ (NJ _ _ e h1 x hx)
 | block id b ih => intro A fs e he; unfold collect at he; exact self he fun he x hx => ih _ _ e he x hx
 | loop b ih => intro A fs e he; unfold collect at he; exact self he fun he x hx => ih _ _ e he x hx
 | scope b ih => intro A fs e he; unfold collect at he; exact self he fun he x hx => ih _ _ e he x hx
 | _ => intro A fs e he; unfold collect at he; exact self he fun he => (by cases he)
theorem rR {L : List wR} (H : zD C rd nt gl Fin σ L) : ∀ (c : Code) (A : eT) (fs : List Frame), BO C nt ρ (qF c A) → (∀ e ∈ collect c A fs, e ∈ L) → eP C rd nt gl Fin σ ρ c A fs := by
 have cut : ∀ {c : Code} {A : eT} {fs : List Frame}, (∀ e ∈ collect c A fs, e ∈ L) → eP C rd nt gl Fin σ ρ c A fs → (match A.cut with | some (l, keep) => SL C rd nt gl Fin σ l keep c fs | none => eP C rd nt gl Fin σ ρ c A fs) := by
  intro c A fs h1 h2
  cases hcut : A.cut with
  | some x => obtain ⟨l, keep⟩ := x; exact H _ (h1 _ (eY hcut))
  | none => exact h2
 intro c
 induction c with
 | seq a b iha ihb =>
  intro A fs hg h
  have ha : ∀ e ∈ collect a A.l (.seq b A.r :: fs), e ∈ L := fun e he => h e (by unfold collect; exact List.mem_append_right _ (List.mem_append_left _ he))
  have hb : ∀ e ∈ collect b A.r fs, e ∈ L := fun e he => h e (by unfold collect; exact List.mem_append_right _ (List.mem_append_right _ he))
  exact ⟨cut ha (iha _ _ (fun x hx => hg x (List.mem_append_left _ hx)) ha), cut hb (ihb _ _ (fun x hx => hg x (List.mem_append_right _ hx)) hb)⟩
 | cond c x y NI NJ =>
  intro A fs hg h
  have ha : ∀ e ∈ collect x A.l fs, e ∈ L := fun e he => h e (by unfold collect; exact List.mem_append_right _ (List.mem_append_left _ he))
  have hb : ∀ e ∈ collect y A.r fs, e ∈ L := fun e he => h e (by unfold collect; exact List.mem_append_right _ (List.mem_append_right _ he))
  exact ⟨cut ha (NI _ _ (fun x hx => hg x (List.mem_append_left _ hx)) ha), cut hb (NJ _ _ (fun x hx => hg x (List.mem_append_right _ hx)) hb)⟩
 | block id b ih =>
  intro A fs hg h
  have ha : ∀ e ∈ collect b A.l (.block id :: fs), e ∈ L := fun e he => h e (by unfold collect; exact List.mem_append_right _ he)
  exact cut ha (ih _ _ hg ha)
 | loop b ih =>
  intro A fs hg h
  have ha : ∀ e ∈ collect b A.l (.loop b A :: fs), e ∈ L := fun e he => h e (by unfold collect; exact List.mem_append_right _ he)
  refine ⟨?_, cut ha (ih _ _ hg ha)⟩
  cases hcut : A.cut with
  | some x => obtain ⟨l, keep⟩ := x; exact H _ (h _ (eY hcut))
  | none => trivial
 | scope b ih =>
  intro A fs hg h
  have ha : ∀ e ∈ collect b A.l fs, e ∈ L := fun e he => h e (by unfold collect; exact List.mem_append_right _ he)
  exact cut ha (ih _ _ hg ha)
 | rangeFunc f ps a b _ _ =>
  intro A fs hg h
  unfold eP
  cases hcut : A.l.cut with
  | some x =>
   obtain ⟨j, keep⟩ := x
   exact hg ⟨j, keep, ps, a, b⟩ (by unfold qF; rw [hcut]; exact List.mem_singleton.2 rfl)
  | none => trivial
 | _ => intros; trivial
theorem xE {L : List wR} (H : zD C rd nt gl Fin σ L) : ∀ (c : Code) (A : eT) (fs : List Frame), (∀ e ∈ collect c A fs, e ∈ L) → FC C rd nt gl Fin σ fs → ∀ e ∈ collect c A fs, FC C rd nt gl Fin σ e.fs ∧ ∀ x ∈ collect e.code e.DV e.fs, x ∈ L := by
 have XI : ∀ {c : Code} {A : eT} {fs : List Frame}, (∀ e ∈ collect c A fs, e ∈ L) → (match A.cut with | some (l, keep) => SL C rd nt gl Fin σ l keep c fs | none => True) := by
  intro c A fs h1
  cases hcut : A.cut with
  | some x => obtain ⟨l, keep⟩ := x; exact H _ (h1 _ (eY hcut))
  | none => trivial
 have self : ∀ {c : Code} {A : eT} {fs : List Frame} {rest : List wR} {e : wR}, (∀ e ∈ collect c A fs, e ∈ L) → FC C rd nt gl Fin σ fs →
   e ∈ (match A.cut with | some (l, keep) => [({ l, keep, code := c, DV := A, fs } : wR)] | none => []) ++ rest → (e ∈ rest → FC C rd nt gl Fin σ e.fs ∧ ∀ x ∈ collect e.code e.DV e.fs, x ∈ L) →
   FC C rd nt gl Fin σ e.fs ∧ ∀ x ∈ collect e.code e.DV e.fs, x ∈ L := by
  intro c A fs rest e h hf he hr
  rcases List.mem_append.1 he with h1 | h1
  ·cases hcut : A.cut with
   | some x =>
    obtain ⟨l, keep⟩ := x; rw [hcut] at h1
    obtain rfl := List.mem_singleton.1 h1
    exact ⟨hf, h⟩
   | none => rw [hcut] at h1; cases h1
  ·exact hr h1
 intro c
 induction c with
 | seq a b iha ihb =>
  intro A fs h hf e he
  have ha : ∀ e ∈ collect a A.l (.seq b A.r :: fs), e ∈ L := fun e he => h e (by unfold collect; exact List.mem_append_right _ (List.mem_append_left _ he))
  have hb : ∀ e ∈ collect b A.r fs, e ∈ L := fun e he => h e (by unfold collect; exact List.mem_append_right _ (List.mem_append_right _ he))
  unfold collect at he
  refine self h hf he fun he => ?_
  rcases List.mem_append.1 he with h1 | h1
  ·exact iha _ _ ha ⟨XI hb, hf⟩ e h1
  ·exact ihb _ _ hb hf e h1
 | cond c x y NI NJ =>
  intro A fs h hf e he
  have ha : ∀ e ∈ collect x A.l fs, e ∈ L := fun e he => h e (by unfold collect; exact List.mem_append_right _ (List.mem_append_left _ he))
  have hb : ∀ e ∈ collect y A.r fs, e ∈ L := fun e he => h e (by unfold collect; exact List.mem_append_right _ (List.mem_append_right _ he))
  unfold collect at he
  refine self h hf he fun he => ?_
  rcases List.mem_append.1 he with h1 | h1
  ·exact NI _ _ ha hf e h1
  ·exact NJ _ _ hb hf e h1
 | block id b ih =>
  intro A fs h hf e he
  have ha : ∀ e ∈ collect b A.l (.block id :: fs), e ∈ L := fun e he => h e (by unfold collect; exact List.mem_append_right _ he)
  unfold collect at he
  exact self h hf he fun he => ih _ _ ha hf e he
 | loop b ih =>
  intro A fs h hf e he
  have ha : ∀ e ∈ collect b A.l (.loop b A :: fs), e ∈ L := fun e he => h e (by unfold collect; exact List.mem_append_right _ he)
  have hs : (match A.cut with | some (l, keep) => SL C rd nt gl Fin σ l keep (.loop b) fs | none => True) := XI h
  unfold collect at he
  exact self h hf he fun he => ih _ _ ha ⟨hs, hf⟩ e he
 | scope b ih =>
  intro A fs h hf e he
  have ha : ∀ e ∈ collect b A.l fs, e ∈ L := fun e he => h e (by unfold collect; exact List.mem_append_right _ he)
  unfold collect at he
  exact self h hf he fun he => ih _ _ ha hf e he
 | _ => intro A fs h hf e he; unfold collect at he; exact self h hf he (fun h => (by cases h))
theorem kN {e : wR} : ∀ {L : List wR}, distinct (L.map (·.l)) = true → e ∈ L → entry e.l L = some e
 | x :: L, hd, h => by
  simp only [List.map_cons, distinct, Bool.and_eq_true, List.all_eq_true] at hd
  unfold entry
  cases h with
  | head => rw [show Nat.beq e.l e.l = true from by rw [beq_eq]; simp]; rfl
  | tail _ h =>
   have := hd.1 e.l (List.mem_map.2 ⟨e, h, rfl⟩)
   have hb : Nat.beq x.l e.l = false := by
    rw [beq_eq] at this ⊢
    simp at this ⊢
    exact fun k => this k.symm
   rw [hb]
   exact kN hd.2 h
end
def aIS (fin : KZ) : List Frame → KZ
 | [] => fin
 | .gate _ _ :: _ => fun _ _ _ => none
 | _ :: fs => aIS fin fs
theorem HZ {C : dO} {rd : Option Nat} {nt gl : Nat} {Fin : Ex → S → Value × Hp → Prop} {fin : KZ} (h0 : KR C rd nt gl Fin fin []) : ∀ fs, KR C rd nt gl Fin (aIS fin fs) fs
 | [] => h0
 | .gate _ _ :: _ => fun r z h q e => (by cases e)
 | .seq _ _ :: fs => fun r z h q e tm ht hz => HZ h0 fs r z h q e tm ht hz
 | .block _ :: fs => fun r z h q e tm ht hz => HZ h0 fs r z h q e tm ht hz
 | .loop _ _ :: fs => fun r z h q e tm ht hz => HZ h0 fs r z h q e tm ht hz
def aY (ρ : RG) (fy : FY) (Y : YF) (rd : Option Nat) (nt gl : Nat) (regs : List Oper → Array Oper → Bool → KZ → KZ) (zO fin : KZ) (ex0 : Nat → KZ) (L : List wR) (l : Nat) (σ : rY) (al : AL) (z : Z) (h : Hp) : aF :=
 match entry l L with
 | some e => match sS e.keep al with
  | some r => sJ σ ρ fy Y rd nt regs (aIS fin e.fs) e.code e.DV (wE σ (EF gl) zO e.fs) (xC σ (EF gl) zO ex0 e.fs) r z h
  | none => none
 | none => none
def kW (T : rY → rY) (n : Nat) : rY := Nat.rec (fun _ _ _ _ => none) (fun _ s => T s) n
section
variable {C : dO} {rd : Option Nat} {nt gl : Nat} {Fin : Ex → S → Value × Hp → Prop} {ρ : RG} {fy : FY} {Y : YF} {regs : List Oper → Array Oper → Bool → KZ → KZ} {zO fin : KZ} {ex0 : Nat → KZ}
theorem nQ (K4 : JQ C rd nt regs) (hY : JR C Y) (JS : zP C fy) (h0 : KN C rd nt gl Fin zO []) (hr : KR C rd nt gl Fin fin []) (hx : KE C rd nt gl Fin ex0 [])
  (roots : List (Code × eT × List Frame)) (L : List wR) (hL : ∀ c A fs, (c, A, fs) ∈ roots → ∀ e ∈ collect c A fs, e ∈ L) (hL2 : ∀ e ∈ L, ∃ c A fs, (c, A, fs) ∈ roots ∧ e ∈ collect c A fs)
  (hF : ∀ σ, zD C rd nt gl Fin σ L → ∀ c A fs, (c, A, fs) ∈ roots → FC C rd nt gl Fin σ fs)
  (hG : ∀ c A fs, (c, A, fs) ∈ roots → BO C nt ρ (qF c A))
  (hd : distinct (L.map (·.l)) = true) (T : rY → rY) (hT : ∀ σ l vs z h q, T σ l vs z h = some q → aY ρ fy Y rd nt gl regs zO fin ex0 L l σ vs z h = some q) :
  ∀ n, zD C rd nt gl Fin (kW T n) L
 | 0 => fun _ _ _ _ _ _ _ e _ => (by cases e)
 | n + 1 => by
  have ih := nQ K4 hY JS h0 hr hx roots L hL hL2 hF hG hd T hT n
  intro e he al vs z h q hq hv
  have := hT _ _ _ _ _ _ (show T (kW T n) e.l al z h = some q from hq)
  unfold aY at this
  rw [kN hd he] at this
  simp only [qL hv] at this
  obtain ⟨c, A, fs, hm, hc⟩ := hL2 e he
  obtain ⟨f1, f2⟩ := xE ih c A fs (hL c A fs hm) (hF _ ih c A fs hm) e hc
  exact YK K4 hY JS e.code e.DV e.fs _ _ (AY h0 e.fs f1) (vP h0 hx e.fs f1) (HZ hr e.fs)
   (rR ih e.code e.DV e.fs (fun x hx => hG c A fs hm x (aIR c A fs e hc x hx)) f2) _ z h q this
end
end
end Go.bK.Y
