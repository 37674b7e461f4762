/-
  An evaluator of the code, proved sound.
-/
import Derived.Test.YtdpicdnpiihaaaaOrEngB
import Derived.Below
import Derived.ChangeSame
import Derived.IntWalk
import Derived.DataReads
import Derived.ChangeOld
import Derived.HandedShaped
set_option linter.unusedVariables false
/-
  Regions that draw and are calm: in order.
-/
namespace Go.bI
noncomputable section
def qE (o : Oper) : Bool := match o.op with | .call { callee := .value (.func _), .. } => true | _ => false
def aH3 (o : Oper) : Bool := match o.guard with
 | some _ => false
 | none => match o.op with | .buildSlice .. => true | _ => false
def aH4 (ops : Array Oper) : Bool :=
 let ms := masks ops.toList []
 mF ops && o6 ops ms && (List.range (fD ops ms ops.size)).all fun i => match ops[i]? with | some o => qU o || qE o | none => false
def aH5 (ops : Array Oper) : Bool :=
 let ms := masks ops.toList []
 match fD ops ms ops.size with
 | 0 => false
 | u + 1 => mF ops && o6 ops ms && ((List.range u).all fun i => match ops[i]? with | some o => qU o || qE o | none => false) &&
   (match ops[u]? with | some o => aH3 o | none => false) && waits ms (u + 1) u && Nat.blt (u + 1) ops.size
def RQ (ops : Array Oper) : Bool := aH4 ops || aH5 ops
def gD (ops : Array Oper) : Nat := fD ops (masks ops.toList []) ops.size
def zY (C' C : dP) : Prop := ∀ f args h v h', C'.iT f args h = some (v, h') → h' = h ∧ ((plain v = true ∧ ∃ h2, C.iT f args ⟨h.next, h.next, h.aC⟩ = some (v, h2)) ∨ C.iT f args ⟨h.next, h.next, h.aC⟩ = some (v, ⟨h.next, h.next, h.aC⟩))
def ML (iT : FuncId → Array Value → Hp → Option (Value × Hp)) : FuncId → Array Value → Hp → Option (Value × Hp) :=
 fun f args h => aK (iT f args ⟨h.next, h.next, h.aC⟩) fun v _ => bU (lD v) (some (v, h)) none
theorem aAT (C : dP) : zY { C with iT := ML C.iT } C := by
 intro f args h v h' e
 replace e : aK (C.iT f args ⟨h.next, h.next, h.aC⟩) (fun v _ => bU (lD v) (some (v, h)) none) = some (v, h') := e
 obtain ⟨u, h2, he, e⟩ := jH e
 cases hp : lD u with
 | false => rw [hp] at e; cases e
 | true =>
 rw [hp] at e
 cases e
 rw [pV] at hp
 exact ⟨rfl, .inl ⟨hp, h2, he⟩⟩
theorem iA {ops : Array Oper} (h : o6 ops (masks ops.toList []) = true) {i j : Nat} {oi oj : Oper} {x : Tmp} (hi : ops[i]? = some oi) (hj : ops[j]? = some oj) (hx : oj.dst = some x) :
  (i = j ∨ oi.dst ≠ some x) ∧ (waits (masks ops.toList []) i j = true ∨ waits (masks ops.toList []) j i = true ∨ x ∉ readsOf ops oi) := by
 unfold o6 at h
 rw [List.all_eq_true] at h
 have h1 := h i (by simpa using (Array.getElem?_eq_some_iff.1 hi).1)
 rw [hi] at h1
 simp only [List.all_eq_true] at h1
 have h2 := h1 j (by simpa using (Array.getElem?_eq_some_iff.1 hj).1)
 rw [hj] at h2
 simp only [hx, Bool.and_eq_true, Bool.or_eq_true, bne_iff_ne, ne_eq, Bool.not_eq_true', List.contains_eq_mem, decide_eq_false_iff_not] at h2
 obtain ⟨h3, h4⟩ := h2
 refine ⟨h3.imp (fun h => Nat.eq_of_beq_eq_true h) id, ?_⟩
 rcases h4 with (h4 | h4) | h4
 ·exact .inl h4
 ·exact .inr (.inl h4)
 ·exact .inr (.inr h4)
theorem tZ {ops : Array Oper} {o : Oper} {tm pW : T Value} (h : ∀ x ∈ readsOf ops o, pW.get x = tm.get x) : ∀ x ∈ o.op.operands, jI pW x = jI tm x := by
 intro x hx
 cases x with
 | tmp t =>
  have : t ∈ readsOf ops o := by
   unfold readsOf
   apply List.mem_append_left
   rw [List.mem_filterMap]
   exact ⟨.tmp t, by simpa using hx, rfl⟩
  simp only [jI, h t this]
 | const v => rfl
 | global g => rfl
 | func f => rfl
theorem yG {ops : Array Oper} {o : Oper} {tm pW : T Value} (h : ∀ x ∈ readsOf ops o, pW.get x = tm.get x) : bZ ops pW o = bZ ops tm o := by
 unfold bZ
 cases hg : o.guard with
 | none => rfl
 | some g =>
  obtain ⟨j, want⟩ := g
  cases hd : (ops[j]?).bind (·.dst) with
  | none => simp only [hd, Option.bind_none]
  | some d =>
   have : d ∈ readsOf ops o := by
    unfold readsOf
    apply List.mem_append_right
    rw [hg]; simp [hd]
   simp only [hd, Option.bind_some, h d this]
theorem gJ {nt : Nat} {d : Option Tmp} {v : Value} {tm tm' : T Value} (e : iC nt tm d v = some tm') {x : Nat} (hx : d ≠ some x) : tm'.get x = tm.get x := by
 unfold iC at e
 split at e
 ·cases e; rfl
 ·rename_i d
  replace e := aP e; obtain ⟨_, e⟩ := e
  cases e
  rw [T.get_put, if_neg (fun h => hx (by rw [h]))]
theorem jJ {nt : Nat} {v : Value} {tm tm' : T Value} {x : Nat} (e : iC nt tm (some x) v = some tm') : tm'.get x = some v ∧ x < nt := by
 simp only [iC] at e
 replace e := aP e; obtain ⟨h, e⟩ := e
 cases e
 rw [T.get_put, if_pos rfl]
 refine ⟨rfl, ?_⟩
 rw [Nat.blt_eq] at h; exact h
theorem yH {nt : Nat} {d : Option Tmp} {v : Value} {tm : T Value} (h : ∀ x, d = some x → x < nt) : ∃ tm', iC nt tm d v = some tm' := by
 cases d with
 | none => exact ⟨tm, rfl⟩
 | some x =>
  have := h x rfl
  exact ⟨tm.put x (some v), by simp only [iC]; rw [show Nat.blt x nt = true from by rw [Nat.blt_eq]; exact this]; rfl⟩
theorem E8 {C : dP} {self : Self} {rd : Option Nat} {nt : Nat} {ops : Array Oper} {o : Oper} {s s1 : S} (e : jP C self rd nt ops o s = some (.code .normal s1)) :
  ∃ v, iC nt s.tm o.dst v = some s1.tm ∧ ∀ pW, (∀ x ∈ readsOf ops o, pW.get x = s.tm.get x) → ∀ NB, iC nt pW o.dst v = some NB → jP C self rd nt ops o { s with tm := pW } = some (.code .normal { s1 with tm := NB }) := by
 unfold jP at e
 split at e
 ·rename_i hw
  replace e := aA e; obtain ⟨tm, h1, e⟩ := e
  cases e
  refine ⟨undef, h1, fun pW hr NB h3 => ?_⟩
  unfold jP
  rw [show bZ ops ({ s with tm := pW } : S).tm o = false from by rw [← hw]; exact yG hr]
  simp only [h3, Option.bind_some]
 ·rename_i hw
  replace e := aA e; obtain ⟨r, hr, e⟩ := e
  have hw2 : ∀ pW : T Value, (∀ x ∈ readsOf ops o, pW.get x = s.tm.get x) → bZ ops ({ s with tm := pW } : S).tm o = true := fun pW h => by rw [← hw]; exact yG h
  have ho2 : ∀ pW : T Value, (∀ x ∈ readsOf ops o, pW.get x = s.tm.get x) → iY C.P (jI ({ s with tm := pW } : S).tm) o ({ s with tm := pW } : S).h = some r := fun pW h => by
   rw [← hr]; exact CO (tZ h)
  split at e
  ·replace e := aA e; obtain ⟨tm, h1, e⟩ := e
   cases e
   refine ⟨_, h1, fun pW hh NB h3 => ?_⟩
   unfold jP
   rw [hw2 pW hh]
   simp only [ho2 pW hh, Option.bind_some, h3]
  ·cases e
  ·split at e
   ·replace e := aA e; obtain ⟨tm, h1, e⟩ := e
    cases e
    refine ⟨_, h1, fun pW hh NB h3 => ?_⟩
    unfold jP
    rw [hw2 pW hh]
    simp only [ho2 pW hh, Option.bind_some, h3]
   ·cases e
  ·replace e := aA e; obtain ⟨r2, hr2, e⟩ := e
   split at e
   ·replace e := aA e; obtain ⟨tm, h1, e⟩ := e
    cases e
    refine ⟨_, h1, fun pW hh NB h3 => ?_⟩
    unfold jP
    rw [hw2 pW hh]
    simp only [ho2 pW hh, Option.bind_some, hr2, h3]
   ·cases e
   ·cases e
section
variable {C : dP} {self : Self} {rd : Option Nat} {nt : Nat} {ops : Array Oper} {s : S} {ls : List Left}
theorem pX : ∀ (js : List Nat) (t : T bY), (∀ j ∈ js, ∃ l, ls[j]? = some l ∧ l.own = []) → gF ls js t = some t
 | [], t, _ => rfl
 | j :: js, t, hj => by
  unfold gF
  obtain ⟨l, h1, h2⟩ := hj j (by simp)
  rw [h1]
  simp only [Option.bind_some]
  rw [h2]
  exact pX js t fun k hk => hj k (by simp [hk])
theorem lF (h1 : ∀ j, j < ls.length → ∃ o, ops[j]? = some o) (h2 : ∀ j, j < ls.length → ∀ x, bJ ops j = some x → x < nt) : ∀ (js : List Nat) (tm : T Value), (∀ j ∈ js, j < ls.length) → ∃ tm', sP nt ops ls js tm = some tm'
 | [], tm, _ => ⟨tm, rfl⟩
 | j :: js, tm, hj => by
  have hlt := hj j (by simp)
  obtain ⟨o, ho⟩ := h1 j hlt
  unfold sP
  rw [ho, List.getElem?_eq_getElem hlt]
  simp only [Option.bind_some]
  obtain ⟨vG, e1⟩ := yH (nt := nt) (d := o.dst) (v := ls[j].v) (tm := tm) (fun x hx => h2 j hlt x (by unfold bJ; rw [ho]; exact hx))
  rw [e1]
  exact lF h1 h2 js vG fun k hk => hj k (by simp [hk])
theorem aAU {C' : dP} {sf : Self} (hP : C'.P = C.P) (hto : zY C' C) (hsf : ∀ j, sf j = none) {ms : List Nat} {i : Nat} {o : Oper} {cur LY : T Value} {s1 : S} (ho : ops[i]? = some o) (hc : (qU o || qE o) = true)
  (hq : sP nt ops ls (waitsFor ms i) s.tm = some LY) (hr : ∀ x ∈ readsOf ops o, LY.get x = cur.get x) (iM : gF ls (waitsFor ms i) s.h.aC = some s.h.aC)
  (e : jP C' sf rd nt ops o { s with tm := cur } = some (.code .normal s1)) :
  ∃ v, iC nt cur o.dst v = some s1.tm ∧ s1.h = s.h ∧ s1.df = s.df ∧ kJ C self nt ops ms s ls s.h.next i = some ({ v, own := [] }, s.h.next) := by
 unfold jP at e
 rw [hP] at e
 have hw := yG hr
 have hst : ∀ t x y, o.op ≠ .store t x y := by
  intro t x y h
  simp [qU, qE, h] at hc
 split at e
 ·rename_i hw2
  replace e := aA e; obtain ⟨tm, h1, e⟩ := e
  cases e
  refine ⟨undef, h1, rfl, rfl, ?_⟩
  unfold kJ
  rw [ho]
  simp only [Option.bind_some, hq]
  rw [hw, show bZ ops cur o = false from hw2]
 ·rename_i hw2
  replace e := aA e; obtain ⟨r, hr1, e⟩ := e
  cases hcalm : qU o with
  | true =>
   obtain ⟨v, rfl, hv⟩ := XH hcalm hr1
   simp only at e
   replace e := aA e; obtain ⟨tm, h1, e⟩ := e
   cases e
   refine ⟨v, h1, rfl, rfl, ?_⟩
   unfold kJ
   rw [ho]
   simp only [Option.bind_some, hq]
   rw [hw, show bZ ops cur o = true from hw2]
   simp only
   ·have key : ∀ aC, (kQ o = true ∨ aC = s.h.aC) → ((iY C.P (jI LY) o { next := s.h.next, ro := s.h.next, aC }).bind fun r =>
      (match r with
       | .val v h => some (v, h)
       | .call fn args => (nC C self fn args { next := s.h.next, ro := s.h.next, aC }).bind fun r => match r with | .ret v h => some (v, h) | _ => none
       | _ => none).bind fun (v, h) =>
      match plain v with
      | true => some (({ v, own := [] } : Left), s.h.next)
      | false => ok? (Nat.ble s.h.next h.next) (some ({ v, own := fZ h s.h.next (h.next - s.h.next) }, h.next))) = some ({ v, own := [] }, s.h.next) := by
     intro aC h3
     rw [CO (P := C.P) (h := { next := s.h.next, ro := s.h.next, aC }) (tZ hr), hv { next := s.h.next, ro := s.h.next, aC } h3]
     simp only [Option.bind_some]
     split
     ·rfl
     ·rw [show Nat.ble s.h.next s.h.next = true from by rw [Nat.ble_eq]; exact Nat.le_refl _, Nat.sub_self]
      rfl
    cases hi : kQ o with
    | true => exact key _ (.inl hi)
    | false => simp only [iM, Option.bind_some]; exact key _ (.inr rfl)
  | false =>
   rw [hcalm, Bool.false_or] at hc
   have hin : kQ o = false := by
    unfold qE at hc
    split at hc
    ·rename_i heq; simp [kQ, heq]
    ·cases hc
   obtain ⟨f, args, rfl, hv⟩ : ∃ f args, r = .call (.func f) args ∧ ∀ H : Hp, iY C.P (jI cur) o H = some (.call (.func f) args) := by
    unfold qE at hc
    split at hc
    ·rename_i f ags lN heq
     simp only [iY, heq, mV, rC, nR, jI, Option.bind_some] at hr1
     replace hr1 := aA hr1; obtain ⟨⟨fn, a, cap⟩, h1, hr1⟩ := hr1
     replace h1 := aA h1; obtain ⟨l, h2, h1⟩ := h1
     cases h1
     simp only at hr1
     cases hr1
     exact ⟨_, _, rfl, fun H => by simp only [iY, heq, mV, rC, nR, jI, Option.bind_some, h2]⟩
    ·cases hc
   simp only at e
   replace e := aA e; obtain ⟨r2, hr2, e⟩ := e
   have hcall : ∃ v h3, C'.iT f args s.h = some (v, h3) ∧ r2 = .ret v h3 := by
    simp only [nC] at hr2
    split at hr2
    ·rename_i v h3 aUG; cases hr2; exact ⟨v, h3, aUG, rfl⟩
    ·split at hr2
     ·rw [hsf] at hr2; cases hr2
     ·rw [hsf] at hr2; cases hr2
   obtain ⟨v, h3, aUG, rfl⟩ := hcall
   obtain ⟨rfl, hcase⟩ := hto f args s.h v h3 aUG
   simp only at e
   replace e := aA e; obtain ⟨tm, h1, e⟩ := e
   cases e
   refine ⟨v, h1, rfl, rfl, ?_⟩
   unfold kJ
   rw [ho]
   simp only [Option.bind_some, hq]
   rw [hw, show bZ ops cur o = true from hw2]
   simp only
   rw [hin]
   simp only [iM, Option.bind_some]
   rw [CO (P := C.P) (h := { next := s.h.next, ro := s.h.next, aC := s.h.aC }) (tZ hr), hv]
   simp only [Option.bind_some, nC]
   rcases hcase with ⟨hp, h2, h4⟩ | h4
   ·rw [h4]
    simp only [Option.bind_some, hp]
   ·rw [h4]
    simp only [Option.bind_some]
    split
    ·rfl
    ·rw [show Nat.ble s.h.next s.h.next = true from by rw [Nat.ble_eq]; exact Nat.le_refl _, Nat.sub_self]
     rfl
structure aFU (nt : Nat) (ops : Array Oper) (s : S) (i : Nat) (ls : List Left) (cur : T Value) : Prop where
 len : ls.length = i
 own : ∀ l ∈ ls, l.own = []
 XB : ∀ j, j < i → ∀ x, bJ ops j = some x → x < nt ∧ ∃ l, ls[j]? = some l ∧ cur.get x = some l.v
 out : ∀ x, (∀ j, j < i → bJ ops j ≠ some x) → cur.get x = s.tm.get x
theorem zZ {C' : dP} {sf : Self} (hP : C'.P = C.P) (hto : zY C' C) (hsf : ∀ j, sf j = none) {t : Nat} (zW : mF ops = true) (hap : o6 ops (masks ops.toList []) = true) (ht : t ≤ ops.size) (hcalm : ∀ i, i < t → ∃ o, ops[i]? = some o ∧ (qU o || qE o) = true) {s2 : S} :
  ∀ (m i : Nat) (ls : List Left) (cur : T Value), i + m = t → aFU nt ops s i ls cur → opsV C' sf rd nt ops ((ops.toList.take t).drop i) { s with tm := cur } = some (.code .normal s2) →
   ∃ ls' cur', jO C self nt ops (masks ops.toList []) s (List.range' i m) ls s.h.next = some (ls', s.h.next) ∧ aFU nt ops s t ls' cur' ∧ s2 = { s with tm := cur' }
 | 0, i, ls, cur, him, I, e => by
  rw [List.drop_of_length_le (by simp; omega)] at e
  cases e
  exact ⟨ls, cur, rfl, by simpa using him ▸ I, rfl⟩
 | m + 1, i, ls, cur, him, I, e => by
  obtain ⟨o, ho, hc⟩ := hcalm i (by omega)
  have hlt := (Array.getElem?_eq_some_iff.1 ho).1
  have hdrop : (ops.toList.take t).drop i = o :: (ops.toList.take t).drop (i + 1) := by
   rw [List.drop_eq_getElem_cons (by simp; omega)]
   congr 1
   rw [List.getElem_take]
   exact (Array.getElem?_eq_some_iff.1 ho).2
  rw [hdrop] at e
  unfold opsV at e
  replace e := aA e; obtain ⟨r, hr, e⟩ := e
  have hops : ∀ j, j < ls.length → ∃ o, ops[j]? = some o := fun j hj => by
   obtain ⟨o, h, _⟩ := hcalm j (by have := I.len; omega)
   exact ⟨o, h⟩
  have hw : ∀ j ∈ waitsFor (masks ops.toList []) i, j < ls.length := fun j hj => by have := gV hj; have := I.len; omega
  obtain ⟨LY, hq⟩ := lF (nt := nt) hops (fun j hj x hx => (I.XB j (by have := I.len; omega) x hx).1) _ s.tm hw
  have hreads : ∀ x ∈ readsOf ops o, LY.get x = cur.get x := by
   intro x hx
   by_cases hex : ∃ j, j < i ∧ bJ ops j = some x
   ·obtain ⟨j, hj, hd⟩ := hex
    obtain ⟨_, l, hl, uA⟩ := I.XB j hj x hd
    obtain ⟨oj, hoj⟩ := hops j (by have := I.len; omega)
    have wW : oj.dst = some x := by unfold bJ at hd; rw [hoj] at hd; exact hd
    have hwt : waits (masks ops.toList []) i j = true := by
     rcases (iA hap ho hoj wW).2 with h | h | h
     ·exact h
     ·have := kV zW h; omega
     ·exact absurd hx h
    have hmem : j ∈ waitsFor (masks ops.toList []) i := by unfold waitsFor; rw [List.mem_filter]; exact ⟨by simpa using hj, hwt⟩
    have rG : ∀ k ∈ waitsFor (masks ops.toList []) i, bJ ops k = some x → k = j := by
     intro k hk hkd
     have hki := gV hk
     obtain ⟨ok, hok⟩ := hops k (by have := I.len; omega)
     have hkx : ok.dst = some x := by unfold bJ at hkd; rw [hok] at hkd; exact hkd
     rcases (iA hap hok hoj wW).1 with h | h
     ·exact h
     ·exact absurd hkx h
    obtain ⟨l', hl', hg, _⟩ := nD _ hq j hmem hd rG
    rw [hl] at hl'; cases hl'
    rw [hg, uA]
   ·have hno : ∀ j, j < i → bJ ops j ≠ some x := fun j hj h => hex ⟨j, hj, h⟩
    rw [jQ _ hq x (fun j hj => hno j (gV hj)), I.out x hno]
  have iM := pX (ls := ls) _ s.h.aC (fun j hj => ⟨ls[j]'(hw j hj), List.getElem?_eq_getElem (hw j hj), I.own _ (List.getElem_mem (hw j hj))⟩)
  cases r with
  | code ex s1 =>
   cases ex with
   | normal =>
    obtain ⟨v, hp, hh, hdf, hquiet⟩ := aAU (C := C) (self := self) hP hto hsf ho hc hq hreads iM hr
    have I' : aFU nt ops s (i + 1) (ls ++ [{ v, own := [] }]) s1.tm := by
     refine ⟨by simp [I.len], ?_, ?_, ?_⟩
     ·intro l hl
      rcases List.mem_append.1 hl with h | h
      ·exact I.own l h
      ·simp at h; rw [h]
     ·intro j hj x hx
      by_cases hji : j = i
      ·subst hji
       have wW : o.dst = some x := by unfold bJ at hx; rw [ho] at hx; exact hx
       rw [wW] at hp
       obtain ⟨g1, g2⟩ := jJ hp
       refine ⟨g2, { v, own := [] }, ?_, g1⟩
       rw [← I.len]; simp
      ·have hj' : j < i := by omega
       obtain ⟨g1, l, g2, g3⟩ := I.XB j hj' x hx
       refine ⟨g1, l, ?_, ?_⟩
       ·rw [List.getElem?_append_left (by have := I.len; omega)]; exact g2
       ·obtain ⟨oj, hoj⟩ := hops j (by have := I.len; omega)
        have wW : oj.dst = some x := by unfold bJ at hx; rw [hoj] at hx; exact hx
        have : o.dst ≠ some x := by
         rcases (iA hap ho hoj wW).1 with h | h
         ·omega
         ·exact h
        rw [gJ hp this]; exact g3
     ·intro x hx
      have : o.dst ≠ some x := fun h => hx i (by omega) (by unfold bJ; rw [ho]; exact h)
      rw [gJ hp this]
      exact I.out x fun j hj => hx j (by omega)
    have hs1 : s1 = { s with tm := s1.tm } := by
     obtain ⟨a, b, c⟩ := s1
     simp only at hh hdf
     subst hh; subst hdf; rfl
    simp only at e
    rw [hs1] at e
    obtain ⟨ls', cur', k1, k2, k3⟩ := zZ hP hto hsf zW hap ht hcalm m (i + 1) _ _ (by omega) I' e
    refine ⟨ls', cur', ?_, k2, k3⟩
    rw [List.range'_succ]
    unfold jO
    rw [hquiet]
    exact k1
   | _ => simp at e
  | _ => simp at e
theorem I1 {t : Nat} (zW : mF ops = true) (hap : o6 ops (masks ops.toList []) = true) (hls : ls.length = t) (hops : ∀ j, j < ops.size → ∃ o, ops[j]? = some o) (htn : t ≤ ops.size)
  (hnt : ∀ j, j < t → ∀ x, bJ ops j = some x → x < nt) {s' : S} :
  ∀ (m k : Nat) (rest : List Nat) (df : List Deferred) (h hT : Hp) (cur RS : T Value), k + m = ops.size → t ≤ k → (∀ j ∈ rest, j < t) →
   (m = 0 → hT = h) → (m ≠ 0 → gF ls (rest.filter (waits (masks ops.toList []) k)) hT.aC = some h.aC ∧ hT.next = h.next ∧ hT.ro = h.ro) → (∀ j ∈ rest, (m = 0 ∨ waits (masks ops.toList []) k j = false) → ∃ l, ls[j]? = some l ∧ l.own = []) →
   (∀ x, (∀ j ∈ rest, bJ ops j ≠ some x) → RS.get x = cur.get x) → (∀ j ∈ rest, ∀ x, bJ ops j = some x → ∃ l, ls[j]? = some l ∧ cur.get x = some l.v) →
   opsV C self rd nt ops (ops.toList.drop k) { tm := cur, df, h } = some (.code .normal s') →
   ∃ tm, tailV C self rd nt ops (masks ops.toList []) ls rest (List.range' k m) { tm := RS, df, h := hT } = some (.code .normal { s' with tm }) ∧ ∀ x, tm.get x = s'.tm.get x
 | 0, k, rest, df, h, hT, cur, RS, hkm, htk, hrest, hT0, hT1, hown, ha, hb, e => by
  obtain rfl := hT0 rfl
  have hk : k = ops.size := by omega
  subst hk
  rw [List.drop_of_length_le (by simp)] at e
  cases e
  obtain ⟨tm, h1⟩ := lF (ls := ls) (nt := nt) (ops := ops) (fun j hj => hops j (by omega)) (fun j hj x hx => hnt j (by omega) x hx) rest RS (fun j hj => by rw [hls]; exact hrest j hj)
  refine ⟨tm, ?_, fun x => ?_⟩
  ·show tailV C self rd nt ops _ ls rest [] _ = _
   unfold tailV
   rw [h1]
   simp only [Option.bind_some]
   rw [pX rest hT.aC (fun j hj => hown j hj (.inl rfl))]
   rfl
  ·by_cases hex : ∃ j, j ∈ rest ∧ bJ ops j = some x
   ·obtain ⟨j, hj, hd⟩ := hex
    obtain ⟨l, hl, uA⟩ := hb j hj x hd
    obtain ⟨oj, hoj⟩ := hops j (by have := hrest j hj; omega)
    have wW : oj.dst = some x := by unfold bJ at hd; rw [hoj] at hd; exact hd
    have rG : ∀ k ∈ rest, bJ ops k = some x → k = j := by
     intro k hk hkd
     obtain ⟨ok, hok⟩ := hops k (by have := hrest k hk; omega)
     have hkx : ok.dst = some x := by unfold bJ at hkd; rw [hok] at hkd; exact hkd
     rcases (iA hap hok hoj wW).1 with h | h
     ·exact h
     ·exact absurd hkx h
    obtain ⟨l', hl', hg, _⟩ := nD _ h1 j hj hd rG
    rw [hl] at hl'; cases hl'
    rw [hg]; exact uA.symm
   ·have hno : ∀ j ∈ rest, bJ ops j ≠ some x := fun j hj h => hex ⟨j, hj, h⟩
    rw [jQ _ h1 x hno]; exact ha x hno
 | m + 1, k, rest, df, h, hT, cur, RS, hkm, htk, hrest, hT0, hT1, hown, ha, hb, e => by
  obtain ⟨iM, hnx, hro⟩ := hT1 (by omega)
  have hlt : k < ops.size := by omega
  obtain ⟨o, ho⟩ := hops k hlt
  have hdrop : ops.toList.drop k = o :: ops.toList.drop (k + 1) := by
   rw [List.drop_eq_getElem_cons (by simpa using hlt)]
   congr 1
   exact (Array.getElem?_eq_some_iff.1 ho).2
  rw [hdrop] at e
  unfold opsV at e
  replace e := aA e; obtain ⟨r, hr, e⟩ := e
  cases r with
  | code ex s1 =>
   cases ex with
   | normal =>
    simp only at e
    have aAV : ∀ j ∈ rest.filter (waits (masks ops.toList []) k), j < ls.length := fun j hj => by rw [hls]; exact hrest j (List.mem_filter.1 hj).1
    obtain ⟨XC, h1⟩ := lF (ls := ls) (nt := nt) (ops := ops) (fun j hj => hops j (by omega)) (fun j hj x hx => hnt j (by omega) x hx) _ RS aAV
    have qF : ∀ {j : Nat} {oj : Oper} {x : Nat}, ops[j]? = some oj → bJ ops j = some x → oj.dst = some x := fun hoj hd => by unfold bJ at hd; rw [hoj] at hd; exact hd
    have agree : ∀ x, (∀ j ∈ rest.filter (fun j => !(waits (masks ops.toList []) k j)), bJ ops j ≠ some x) → XC.get x = cur.get x := by
     intro x hx
     by_cases hex : ∃ j, j ∈ rest ∧ bJ ops j = some x
     ·obtain ⟨j, hj, hd⟩ := hex
      obtain ⟨l, hl, uA⟩ := hb j hj x hd
      have hw : waits (masks ops.toList []) k j = true := by
       cases hww : waits (masks ops.toList []) k j with
       | true => rfl
       | false => exact absurd hd (hx j (List.mem_filter.2 ⟨hj, by rw [hww]; rfl⟩))
      obtain ⟨oj, hoj⟩ := hops j (by have := hrest j hj; omega)
      have rG : ∀ i ∈ rest.filter (waits (masks ops.toList []) k), bJ ops i = some x → i = j := by
       intro i hi hid
       obtain ⟨oi, hoi⟩ := hops i (by have := hrest i (List.mem_filter.1 hi).1; omega)
       rcases (iA hap hoi hoj (qF hoj hd)).1 with h | h
       ·exact h
       ·exact absurd (qF hoi hid) h
      obtain ⟨l', hl', hg, _⟩ := nD _ h1 j (List.mem_filter.2 ⟨hj, hw⟩) hd rG
      rw [hl] at hl'; cases hl'
      rw [hg]; exact uA.symm
     ·have hno : ∀ j ∈ rest, bJ ops j ≠ some x := fun j hj h => hex ⟨j, hj, h⟩
      rw [jQ _ h1 x (fun j hj => hno j (List.mem_filter.1 hj).1)]; exact ha x hno
    obtain ⟨v, hp, hrun⟩ := E8 hr
    have hreads : ∀ x ∈ readsOf ops o, XC.get x = cur.get x := by
     intro x hx
     apply agree
     intro j hj hd
     obtain ⟨hj1, hj2⟩ := List.mem_filter.1 hj
     obtain ⟨oj, hoj⟩ := hops j (by have := hrest j hj1; omega)
     rcases (iA hap ho hoj (qF hoj hd)).2 with h | h | h
     ·rw [h] at hj2; cases hj2
     ·have := kV zW h; have := hrest j hj1; omega
     ·exact h hx
    obtain ⟨NB, hp3⟩ : ∃ NB, iC nt XC o.dst v = some NB := yH fun x hx => by
     have hp' := hp
     rw [hx] at hp'
     exact (jJ hp').2
    have hrun' := hrun XC hreads NB hp3
    have hs1 : s1 = { tm := s1.tm, df := s1.df, h := s1.h } := rfl
    have XI : ∀ j ∈ rest.filter (fun j => !(waits (masks ops.toList []) k j)), ∃ l, ls[j]? = some l ∧ l.own = [] := by
     intro j hj
     obtain ⟨hj1, hj2⟩ := List.mem_filter.1 hj
     exact hown j hj1 (.inr (by simpa using hj2))
    obtain ⟨tm, k1, k2⟩ := I1 zW hap hls hops htn hnt m (k + 1) (rest.filter (fun j => !(waits (masks ops.toList []) k j))) s1.df s1.h s1.h s1.tm NB (by omega) (by omega)
     (fun j hj => hrest j (List.mem_filter.1 hj).1) (fun _ => rfl) (fun _ => ⟨pX _ _ (fun j hj => XI j (List.mem_filter.1 hj).1), rfl, rfl⟩) (fun j hj _ => XI j hj)
     (by
      intro x hx
      by_cases hd : o.dst = some x
      ·rw [hd] at hp hp3
       rw [(jJ hp).1, (jJ hp3).1]
      ·rw [gJ hp hd, gJ hp3 hd]; exact agree x hx)
     (by
      intro j hj x hd
      obtain ⟨hj1, _⟩ := List.mem_filter.1 hj
      obtain ⟨l, hl, uA⟩ := hb j hj1 x hd
      obtain ⟨oj, hoj⟩ := hops j (by have := hrest j hj1; omega)
      have : o.dst ≠ some x := by
       rcases (iA hap ho hoj (qF hoj hd)).1 with h | h
       ·have := hrest j hj1; omega
       ·exact h
      exact ⟨l, hl, by rw [gJ hp this]; exact uA⟩)
     e
    refine ⟨tm, ?_, k2⟩
    rw [List.range'_succ]
    unfold tailV
    rw [ho]
    simp only [Option.bind_some, h1]
    rw [iM]
    simp only [Option.bind_some]
    rw [show ({ tm := XC, df := df, h := { next := hT.next, ro := hT.ro, aC := h.aC } } : S) = { tm := XC, df := df, h := h } from by rw [hnx, hro]]
    rw [hrun']
    exact k1
   | _ => simp at e
  | _ => simp at e
theorem XJ {C' : dP} {sf : Self} (hP : C'.P = C.P) (hto : zY C' C) (hsf : ∀ j, sf j = none) {s1 s' : S} (hc : aH4 ops = true) (e1 : opsV C' sf rd nt ops (ops.toList.take (gD ops)) s = some (.code .normal s1))
  (e : opsV C self rd nt ops (ops.toList.drop (gD ops)) s1 = some (.code .normal s')) : ∃ tm, pY C self rd nt ops s = some (.code .normal { s' with tm }) ∧ ∀ x, tm.get x = s'.tm.get x := by
 unfold aH4 at hc
 unfold gD at e e1
 simp only [Bool.and_eq_true, List.all_eq_true] at hc
 obtain ⟨⟨zW, hap⟩, hcalm⟩ := hc
 have htn := rH (ops := ops) (ms := masks ops.toList []) ops.size
 have aAW : ∀ i, i < fD ops (masks ops.toList []) ops.size → ∃ o, ops[i]? = some o ∧ (qU o || qE o) = true := by
  intro i hi
  have := hcalm i (by simpa using hi)
  cases ho : ops[i]? with
  | none => rw [ho] at this; cases this
  | some o => rw [ho] at this; exact ⟨o, rfl, this⟩
 have hops : ∀ j, j < ops.size → ∃ o, ops[j]? = some o := fun j hj => ⟨ops[j], Array.getElem?_eq_getElem hj⟩
 have I0 : aFU nt ops s 0 [] s.tm := ⟨rfl, (fun l hl => (by cases hl)), fun j hj => by omega, fun x _ => rfl⟩
 obtain ⟨ls, cur, h1, I, rfl⟩ := zZ (C := C) (self := self) (rd := rd) hP hto hsf zW hap htn aAW (fD ops (masks ops.toList []) ops.size) 0 [] s.tm (by omega) I0 (by simpa using e1)
 have own : ∀ j, j < fD ops (masks ops.toList []) ops.size → ∃ l, ls[j]? = some l ∧ l.own = [] := fun j hj => ⟨ls[j]'(by rw [I.len]; exact hj), List.getElem?_eq_getElem (by rw [I.len]; exact hj), I.own _ (List.getElem_mem _)⟩
 obtain ⟨tm, h3, h4⟩ := I1 (ls := ls) (C := C) (self := self) (rd := rd) (nt := nt) zW hap I.len hops htn (fun j hj x hx => (I.XB j hj x hx).1)
  (ops.size - fD ops (masks ops.toList []) ops.size) (fD ops (masks ops.toList []) ops.size) (List.range (fD ops (masks ops.toList []) ops.size)) s.df s.h s.h cur s.tm (by omega) (Nat.le_refl _) (fun j hj => by simpa using hj)
  (fun _ => rfl) (fun _ => ⟨pX _ _ (fun j hj => own j (by simpa using (List.mem_filter.1 hj).1)), rfl, rfl⟩) (fun j hj _ => own j (by simpa using hj))
  (fun x hx => (I.out x fun j hj => hx j (by simpa using hj)).symm) (fun j hj x hx => (I.XB j (by simpa using hj) x hx).2) e
 refine ⟨tm, ?_, h4⟩
 unfold pY
 simp only [zW, hap, Bool.and_self, XG]
 rw [show List.range (fD ops (masks ops.toList []) ops.size) = List.range' 0 (fD ops (masks ops.toList []) ops.size) from List.range_eq_range' ..] at h3 ⊢
 rw [h1]
 exact h3
theorem z8 : ∀ (l l2 : List Oper) {s s' : S}, opsV C self rd nt ops (l ++ l2) s = some (.code .normal s') → ∃ s1, opsV C self rd nt ops l s = some (.code .normal s1) ∧ opsV C self rd nt ops l2 s1 = some (.code .normal s')
 | [], l2, s, s', e => ⟨s, rfl, e⟩
 | o :: l, l2, s, s', e => by
  rw [List.cons_append] at e
  unfold opsV at e
  replace e := aA e; obtain ⟨r, hr, e⟩ := e
  split at e
  ·rename_i s1
   obtain ⟨s2, h1, h2⟩ := z8 l l2 e
   exact ⟨s2, by unfold opsV; rw [hr]; exact h1, h2⟩
  ·rename_i ex _ hne; cases e; exact (hne rfl).elim
  ·cases e
theorem AA {ms : List Nat} : ∀ (l1 l2 : List Nat) (ls : List Left) (n : Nat), jO C self nt ops ms s (l1 ++ l2) ls n = (jO C self nt ops ms s l1 ls n).bind fun r => jO C self nt ops ms s l2 r.1 r.2
 | [], _, _, _ => rfl
 | i :: l1, l2, ls, n => by
  rw [List.cons_append]
  simp only [jO]
  cases hq : kJ C self nt ops ms s ls n i with
  | none => rfl
  | some r => simp only [Option.bind_some]; exact AA l1 l2 _ _
theorem EC : ∀ (l1 l2 : List Nat) (t : T bY), gF ls (l1 ++ l2) t = (gF ls l1 t).bind (gF ls l2)
 | [], _, _ => rfl
 | j :: l1, l2, t => by
  rw [List.cons_append]
  unfold gF
  cases ls[j]? with
  | none => rfl
  | some l => simp only [Option.bind_some]; exact EC l1 l2 _
theorem LZ {P : Env} {h h1 : Hp} {t : TypeId} {len : Nat} {parts : Array (Nat × Value)} {v : Value} (e : aU P h t len parts = some (v, h1)) :
  ∃ obj, v = .slice (some ⟨h.next, 0, none⟩) len len ∧ h1 = h.add obj ∧ ∀ H : Hp, H.next = h.next → aU P H t len parts = some (v, H.add obj) := by
 unfold aU at e
 replace e := aA e; obtain ⟨d, hd, e⟩ := e
 split at e
 ·rename_i elem
  replace e := aA e; obtain ⟨n, hn, e⟩ := e
  replace e := aP e; obtain ⟨hb, e⟩ := e
  replace e := aA e; obtain ⟨z0, hz, e⟩ := e
  replace e := aA e; obtain ⟨cs, hcs, e⟩ := e
  cases e
  refine ⟨_, rfl, rfl, fun H hH => ?_⟩
  unfold aU
  simp only [hd, Option.bind_some, hn, hb, XG, hz]
  rw [hcs, hH]
  rfl
 ·cases e
theorem aFV {i : Nat} {o : Oper} {cur : T Value} (zW : mF ops = true) (hap : o6 ops (masks ops.toList []) = true) (ho : ops[i]? = some o) (hops : ∀ j, j < i → ∃ o, ops[j]? = some o) (I : aFU nt ops s i ls cur) :
  ∃ LY, sP nt ops ls (waitsFor (masks ops.toList []) i) s.tm = some LY ∧ ∀ x ∈ readsOf ops o, LY.get x = cur.get x := by
 have hw : ∀ j ∈ waitsFor (masks ops.toList []) i, j < ls.length := fun j hj => by have := gV hj; have := I.len; omega
 obtain ⟨LY, hq⟩ := lF (nt := nt) (ls := ls) (ops := ops) (fun j hj => hops j (by have := I.len; omega)) (fun j hj x hx => (I.XB j (by have := I.len; omega) x hx).1) _ s.tm hw
 refine ⟨LY, hq, ?_⟩
 intro x hx
 by_cases hex : ∃ j, j < i ∧ bJ ops j = some x
 ·obtain ⟨j, hj, hd⟩ := hex
  obtain ⟨_, l, hl, uA⟩ := I.XB j hj x hd
  obtain ⟨oj, hoj⟩ := hops j hj
  have wW : oj.dst = some x := by unfold bJ at hd; rw [hoj] at hd; exact hd
  have hwt : waits (masks ops.toList []) i j = true := by
   rcases (iA hap ho hoj wW).2 with h | h | h
   ·exact h
   ·have := kV zW h; omega
   ·exact absurd hx h
  have hmem : j ∈ waitsFor (masks ops.toList []) i := by unfold waitsFor; rw [List.mem_filter]; exact ⟨by simpa using hj, hwt⟩
  have rG : ∀ k ∈ waitsFor (masks ops.toList []) i, bJ ops k = some x → k = j := by
   intro k hk hkd
   have hki := gV hk
   obtain ⟨ok, hok⟩ := hops k hki
   have hkx : ok.dst = some x := by unfold bJ at hkd; rw [hok] at hkd; exact hkd
   rcases (iA hap hok hoj wW).1 with h | h
   ·exact h
   ·exact absurd hkx h
  obtain ⟨l', hl', hg, _⟩ := nD _ hq j hmem hd rG
  rw [hl] at hl'; cases hl'
  rw [hg, uA]
 ·have hno : ∀ j, j < i → bJ ops j ≠ some x := fun j hj h => hex ⟨j, hj, h⟩
  rw [jQ _ hq x (fun j hj => hno j (gV hj)), I.out x hno]
theorem aFW {C' : dP} {sf : Self} (hP : C'.P = C.P) (hto : zY C' C) (hsf : ∀ j, sf j = none) {s1 s' : S} (hc : aH5 ops = true) (e1 : opsV C' sf rd nt ops (ops.toList.take (gD ops)) s = some (.code .normal s1))
  (e : opsV C self rd nt ops (ops.toList.drop (gD ops)) s1 = some (.code .normal s')) : ∃ tm, pY C self rd nt ops s = some (.code .normal { s' with tm }) ∧ ∀ x, tm.get x = s'.tm.get x := by
 unfold aH5 at hc
 unfold gD at e e1
 cases hu : fD ops (masks ops.toList []) ops.size with
 | zero => simp only [hu] at hc; cases hc
 | succ u =>
 rw [hu] at e e1
 simp only [hu, Bool.and_eq_true, List.all_eq_true] at hc
 obtain ⟨⟨⟨⟨⟨zW, hap⟩, hcalm⟩, Q0⟩, aSG⟩, hlt⟩ := hc
 have hlt : u + 1 < ops.size := by rw [Nat.blt_eq] at hlt; exact hlt
 have aAW : ∀ i, i < u → ∃ o, ops[i]? = some o ∧ (qU o || qE o) = true := by
  intro i hi
  have := hcalm i (by simpa using hi)
  cases ho : ops[i]? with
  | none => rw [ho] at this; cases this
  | some o => rw [ho] at this; exact ⟨o, rfl, this⟩
 have hops : ∀ j, j < ops.size → ∃ o, ops[j]? = some o := fun j hj => ⟨ops[j], Array.getElem?_eq_getElem hj⟩
 obtain ⟨o, ho⟩ := hops u (by omega)
 rw [ho] at Q0
 simp only at Q0
 have htake : ops.toList.take (u + 1) = ops.toList.take u ++ [o] := by
  rw [List.take_add_one]
  have : ops.toList[u]? = some o := by rw [Array.getElem?_toList]; exact ho
  rw [this]; rfl
 rw [htake] at e1
 obtain ⟨s0, h0, h1⟩ := z8 _ _ e1
 have I0 : aFU nt ops s 0 [] s.tm := ⟨rfl, (fun l hl => (by cases hl)), fun j hj => by omega, fun x _ => rfl⟩
 obtain ⟨ls, cur, hq, I, rfl⟩ := zZ (C := C) (self := self) (rd := rd) (t := u) hP hto hsf zW hap (by omega) aAW u 0 [] s.tm (by omega) I0 (by simpa using h0)
 obtain ⟨LY, hq1, hreads⟩ := aFV zW hap ho (fun j hj => hops j (by omega)) I
 unfold opsV at h1
 replace h1 := aA h1; obtain ⟨r, hr, h1⟩ := h1
 have hguard : o.guard = none := by
  unfold aH3 at Q0
  cases hg : o.guard with
  | none => rfl
  | some g => rw [hg] at Q0; cases Q0
 have hop : ∃ t len parts, o.op = .buildSlice t len parts := by
  unfold aH3 at Q0
  rw [hguard] at Q0
  simp only at Q0
  split at Q0
  ·rename_i t len parts heq; exact ⟨t, len, parts, heq⟩
  ·cases Q0
 obtain ⟨t, len, parts, hop⟩ := hop
 have hin : kQ o = true := by simp [kQ, hop]
 have hwant : ∀ tm : T Value, bZ ops tm o = true := fun tm => by simp only [bZ, hguard]
 unfold jP at hr
 rw [show bZ ops ({ s with tm := cur } : S).tm o = true from hwant _, hP] at hr
 simp only at hr
 replace hr := aA hr; obtain ⟨rr, hrr, hr⟩ := hr
 simp only [iY, hop, nT] at hrr
 replace hrr := aA hrr; obtain ⟨ps, hps, hrr⟩ := hrr
 unfold nL at hrr
 replace hrr := aA hrr; obtain ⟨⟨v, h2⟩, hbs, hrr⟩ := hrr
 cases hrr
 obtain ⟨obj, rfl, rfl, hany⟩ := LZ hbs
 simp only at hr
 replace hr := aA hr; obtain ⟨vG, hput, hr⟩ := hr
 cases hr
 simp only at h1
 cases h1
 have bA3 : nQ (jI LY) parts.toList = some ps := by
  rw [← hps]
  refine rA fun x hx => ?_
  have := tZ hreads x (by rw [hop]; simp only [Op.operands]; simpa using hx)
  exact this
 have hquiet : kJ C self nt ops (masks ops.toList []) s ls s.h.next u = some ({ v := .slice (some ⟨s.h.next, 0, none⟩) len len, own := [(s.h.next, obj)] }, s.h.next + 1) := by
  unfold kJ
  rw [ho]
  simp only [Option.bind_some, hq1]
  rw [hwant]
  simp only [hop, hin]
  simp only [iY, hop, nT, bA3, Option.bind_some, nL]
  rw [hany { next := s.h.next, ro := s.h.next, aC := T.nil } rfl]
  simp only [Option.bind_some]
  have hpl : plain (.slice (some ⟨s.h.next, 0, none⟩) len len) = false := rfl
  rw [hpl]
  simp only [Hp.add]
  rw [show Nat.ble s.h.next (s.h.next + 1) = true from by rw [Nat.ble_eq]; omega, show s.h.next + 1 - s.h.next = 1 by omega]
  simp only [XG, fZ, Hp.get, T.get_put, if_true]
 have hall : jO C self nt ops (masks ops.toList []) s (List.range (u + 1)) [] s.h.next = some (ls ++ [{ v := .slice (some ⟨s.h.next, 0, none⟩) len len, own := [(s.h.next, obj)] }], s.h.next + 1) := by
  rw [List.range_succ, AA, List.range_eq_range', hq]
  simp only [Option.bind_some]
  unfold jO
  rw [hquiet]
  rfl
 have hlen : (ls ++ [({ v := .slice (some ⟨s.h.next, 0, none⟩) len len, own := [(s.h.next, obj)] } : Left)]).length = u + 1 := by simp [I.len]
 have hlow : ∀ j, j < u → ∃ l, (ls ++ [({ v := .slice (some ⟨s.h.next, 0, none⟩) len len, own := [(s.h.next, obj)] } : Left)])[j]? = some l ∧ l.own = [] := fun j hj =>
  ⟨ls[j]'(by rw [I.len]; exact hj), by rw [List.getElem?_append_left (by rw [I.len]; exact hj), List.getElem?_eq_getElem], I.own _ (List.getElem_mem _)⟩
 have htop : (ls ++ [({ v := .slice (some ⟨s.h.next, 0, none⟩) len len, own := [(s.h.next, obj)] } : Left)])[u]? = some { v := .slice (some ⟨s.h.next, 0, none⟩) len len, own := [(s.h.next, obj)] } := by
  rw [List.getElem?_append_right (by rw [I.len]; exact Nat.le_refl _), I.len, Nat.sub_self]; rfl
 have wW : ∀ {j : Nat} {oj : Oper} {x : Nat}, ops[j]? = some oj → bJ ops j = some x → oj.dst = some x := fun hoj hd => by unfold bJ at hd; rw [hoj] at hd; exact hd
 obtain ⟨tm, h3, h4⟩ := I1 (ls := ls ++ [{ v := .slice (some ⟨s.h.next, 0, none⟩) len len, own := [(s.h.next, obj)] }]) (t := u + 1) (C := C) (self := self) (rd := rd) (nt := nt) zW hap hlen hops (by omega)
  (by
   intro j hj x hx
   by_cases hju : j = u
   ·subst hju
    have := wW ho hx
    rw [this] at hput
    exact (jJ hput).2
   ·exact (I.XB j (by omega) x hx).1)
  (ops.size - (u + 1)) (u + 1) (List.range (u + 1)) s.df (s.h.add obj) { s.h with next := s.h.next + 1 } vG s.tm (by omega) (Nat.le_refl _) (fun j hj => by simpa using hj)
  (fun hm => by omega)
  (fun _ => ⟨by
   rw [List.range_succ, List.filter_append, EC, pX _ _ (fun j hj => hlow j (by simpa using (List.mem_filter.1 hj).1))]
   simp only [Option.bind_some]
   rw [List.filter_cons_of_pos (by simpa using aSG)]
   simp only [List.filter_nil]
   unfold gF
   rw [htop]
   simp only [Option.bind_some]
   rfl, rfl, rfl⟩)
  (by
   intro j hj hm
   have hju : j ≠ u := by
    rintro rfl
    rcases hm with hm | hm
    ·omega
    ·rw [aSG] at hm; cases hm
   have : j < u + 1 := by simpa using hj
   exact hlow j (by omega))
  (by
   intro x hx
   have hox : o.dst ≠ some x := fun h => hx u (by simp) (by unfold bJ; rw [ho]; exact h)
   rw [gJ hput hox]
   exact (I.out x fun j hj => hx j (by simp; omega)).symm)
  (by
   intro j hj x hx
   by_cases hju : j = u
   ·subst hju
    have := wW ho hx
    rw [this] at hput
    exact ⟨_, htop, (jJ hput).1⟩
   ·have hj' : j < u := by have : j < u + 1 := (by simpa using hj); omega
    obtain ⟨_, l, g2, g3⟩ := I.XB j hj' x hx
    refine ⟨l, by rw [List.getElem?_append_left (by rw [I.len]; exact hj')]; exact g2, ?_⟩
    obtain ⟨oj, hoj⟩ := hops j (by omega)
    have hox : o.dst ≠ some x := by
     rcases (iA hap ho hoj (wW hoj hx)).1 with h | h
     ·omega
     ·exact h
    rw [gJ hput hox]; exact g3)
  e
 refine ⟨tm, ?_, h4⟩
 unfold pY
 simp only [zW, hap, Bool.and_self, XG, hu]
 rw [hall]
 exact h3
theorem NC {C' : dP} {sf : Self} (hP : C'.P = C.P) (hto : zY C' C) (hsf : ∀ j, sf j = none) {s1 s' : S} (hc : RQ ops = true) (e1 : opsV C' sf rd nt ops (ops.toList.take (gD ops)) s = some (.code .normal s1))
  (e : opsV C self rd nt ops (ops.toList.drop (gD ops)) s1 = some (.code .normal s')) : ∃ tm, pY C self rd nt ops s = some (.code .normal { s' with tm }) ∧ ∀ x, tm.get x = s'.tm.get x := by
 unfold RQ at hc
 rw [Bool.or_eq_true] at hc
 rcases hc with hc | hc
 ·exact XJ hP hto hsf hc e1 e
 ·exact aFW hP hto hsf hc e1 e
end
end
end Go.bI
/-
  The same machine over whatever state.
-/
namespace Go.bI.G
open Go.bI
noncomputable section
inductive eU (Kp : Type) where
 | nil
 | node (cut : Option (Nat × Kp)) (a b : eU Kp)
def eU.cut {Kp : Type} : eU Kp → Option (Nat × Kp) | .nil => none | .node c _ _ => c
def eU.l {Kp : Type} : eU Kp → eU Kp | .nil => .nil | .node _ a _ => a
def eU.r {Kp : Type} : eU Kp → eU Kp | .nil => .nil | .node _ _ b => b
inductive Frame (Kp : Type) where
 | seq (b : Code) (A : eU Kp)
 | block (id : Nat)
 | loop (b : Code) (A : eU Kp)
structure wY (Kp : Type) where
 l : Nat
 keep : Kp
 code : Code
 D5 : eU Kp
 fs : List (Frame Kp)
section
variable {St Q AL Kp : Type} (pack : Kp → St → (AL → Option Q) → Option Q) (σ : Nat → AL → Option Q)
def jump (l : Nat) (keep : Kp) : St → Option Q := fun x => pack keep x fun al => σ l al
def pF : Option (Nat × Kp) → St → Option Q
 | some (l, keep) => jump pack σ l keep
 | none => fun _ => none
end
section
variable {St Q AL Kp : Type} (pack : Kp → St → (AL → Option Q) → Option Q) (ev : St → Operand → Option Value) (σ : Nat → AL → Option Q) (qO : List Oper → Array Oper → Bool → (St → Option Q) → (St → Option Q)) (fin : (St → Option Q))
def kK   : Code → eU Kp → (St → Option Q) → (Nat → (St → Option Q)) → (St → Option Q)
 | .skip, _, kn, _ => kn
 | .label _, _, kn, _ => kn
 | .region _ ops d, _, kn, _ => qO ops.toList ops d kn
 | .seq a b, A, kn, ke =>
  let kb := match A.r.cut with | some (l, keep) => jump pack σ l keep | none => kK b A.r kn ke
  match A.l.cut with | some (l, keep) => jump pack σ l keep | none => kK a A.l kb ke
 | .cond c x y, A, kn, ke => fun st =>
  match ev st c with
  | some v => onB v ((match A.l.cut with | some (l, keep) => jump pack σ l keep | none => kK x A.l kn ke) st)
    ((match A.r.cut with | some (l, keep) => jump pack σ l keep | none => kK y A.r kn ke) st)
  | none => none
 | .block id b, A, kn, ke => match A.l.cut with | some (l, keep) => jump pack σ l keep | none => kK b A.l kn (fun i => match Nat.beq i id with | true => kn | false => ke i)
 | .loop b, A, _, ke => match A.l.cut with | some (l, keep) => jump pack σ l keep | none => kK b A.l (pF pack σ A.cut) ke
 | .scope b, A, kn, ke => match A.l.cut with | some (l, keep) => jump pack σ l keep | none => kK b A.l kn ke
 | .exit id, _, _, ke => ke id
 | .ret, _, _, _ => fin
 | _, _, _, _ => fun _ => none
def wK : List (Frame Kp) → (St → Option Q)
 | [] => fin
 | .seq _ A :: _ => pF pack σ A.cut
 | .block _ :: fs => wK fs
 | .loop _ A :: _ => pF pack σ A.cut
def xG : List (Frame Kp) → Nat → (St → Option Q)
 | [], _ => fun _ => none
 | .block id :: fs, i => match Nat.beq i id with | true => wK pack σ fin fs | false => xG fs i
 | .seq _ _ :: fs, i => xG fs i
 | .loop _ _ :: fs, i => xG fs i
end
def collect {Kp : Type} : Code → eU Kp → List (Frame Kp) → List (wY Kp)
 | c, A, fs =>
  (match A.cut with | some (l, keep) => [{ l, keep, code := c, D5 := A, fs }] | none => []) ++
  match c with
  | .seq a b => collect a A.l (.seq b A.r :: fs) ++ collect b A.r fs
  | .cond _ x y => collect x A.l fs ++ collect y A.r fs
  | .block id b => collect b A.l (.block id :: fs)
  | .loop b => collect b A.l (.loop b A :: fs)
  | .scope b => collect b A.l fs
  | _ => []
def entry {Kp : Type} (l : Nat) : List (wY Kp) → Option (wY Kp)
 | [] => none
 | e :: es => cond (Nat.beq e.l l) (some e) (entry l es)
def distinct : List Nat → Bool
 | [] => true
 | l :: ls => ls.all (fun m => !Nat.beq m l) && distinct ls
section
variable {St Q AL Kp : Type} (unpack : Kp → AL → Option St) (Rel : St → S → Prop) (C : dP) (rd : Option Nat) (nt : Nat) (Fin : S → Q → Prop)
def oU : List (Frame Kp) → Ex → S → Q → Prop
 | [], .normal, s, q => Fin s q
 | [], .ret, s, q => Fin s q
 | [], _, _, _ => False
 | .seq b _ :: fs, .normal, s, q => ∃ e s', eG C (.code b rd nt s) (.code e s') ∧ oU fs e s' q
 | .seq _ _ :: fs, e, s, q => oU fs e s q
 | .block id :: fs, .exit i, s, q => match Nat.beq i id with | true => oU fs .normal s q | false => oU fs (.exit i) s q
 | .block _ :: fs, e, s, q => oU fs e s q
 | .loop b _ :: fs, .normal, s, q => ∃ e s', eG C (.code (.loop b) rd nt s) (.code e s') ∧ oU fs e s' q
 | .loop _ _ :: fs, e, s, q => oU fs e s q
def M (c : Code) (fs : List (Frame Kp)) (x : St) (q : Q) : Prop :=
 ∀ s, Rel x s → ∃ e s', eG C (.code c rd nt s) (.code e s') ∧ oU C rd nt Fin fs e s' q
def KN (kn : (St → Option Q)) (fs : List (Frame Kp)) : Prop := ∀ x q, kn x = some q → ∀ s, Rel x s → oU C rd nt Fin fs .normal s q
def KE (ke : Nat → (St → Option Q)) (fs : List (Frame Kp)) : Prop := ∀ i x q, ke i x = some q → ∀ s, Rel x s → oU C rd nt Fin fs (.exit i) s q
def SL (σ : Nat → AL → Option Q) (l : Nat) (keep : Kp) (c : Code) (fs : List (Frame Kp)) : Prop := ∀ al x q, σ l al = some q → unpack keep al = some x → M Rel C rd nt Fin c fs x q
def GU (qO : List Oper → Array Oper → Bool → (St → Option Q) → (St → Option Q)) : Prop :=
 ∀ id ops d kn x q, qO ops.toList ops d kn x = some q → ∀ s, Rel x s → ∃ s' x', eG C (.code (.region id ops d) rd nt s) (.code .normal s') ∧ Rel x' s' ∧ kn x' = some q
variable {unpack Rel C rd nt Fin}
variable {pack : Kp → St → (AL → Option Q) → Option Q} {ev : St → Operand → Option Value}
def JH (pack : Kp → St → (AL → Option Q) → Option Q) (unpack : Kp → AL → Option St) (Rel : St → S → Prop) : Prop := ∀ keep x k q, pack keep x k = some q → ∀ s, Rel x s → ∃ al x', unpack keep al = some x' ∧ Rel x' s ∧ k al = some q
def aUL (ev : St → Operand → Option Value) (Rel : St → S → Prop) : Prop := ∀ x o v, ev x o = some v → ∀ s, Rel x s → jI s.tm o = some v
variable {σ : Nat → AL → Option Q} {qO : List Oper → Array Oper → Bool → (St → Option Q) → (St → Option Q)} {fin : (St → Option Q)}
def eZ (unpack : Kp → AL → Option St) (Rel : St → S → Prop) (C : dP) (rd : Option Nat) (nt : Nat) (Fin : S → Q → Prop) (σ : Nat → AL → Option Q) : Code → eU Kp → List (Frame Kp) → Prop
 | .seq a b, A, fs =>
  (match A.l.cut with | some (l, keep) => SL unpack Rel C rd nt Fin σ l keep a (.seq b A.r :: fs) | none => eZ unpack Rel C rd nt Fin σ a A.l (.seq b A.r :: fs)) ∧
  (match A.r.cut with | some (l, keep) => SL unpack Rel C rd nt Fin σ l keep b fs | none => eZ unpack Rel C rd nt Fin σ b A.r fs)
 | .cond _ x y, A, fs =>
  (match A.l.cut with | some (l, keep) => SL unpack Rel C rd nt Fin σ l keep x fs | none => eZ unpack Rel C rd nt Fin σ x A.l fs) ∧
  (match A.r.cut with | some (l, keep) => SL unpack Rel C rd nt Fin σ l keep y fs | none => eZ unpack Rel C rd nt Fin σ y A.r fs)
 | .block id b, A, fs => match A.l.cut with | some (l, keep) => SL unpack Rel C rd nt Fin σ l keep b (.block id :: fs) | none => eZ unpack Rel C rd nt Fin σ b A.l (.block id :: fs)
 | .loop b, A, fs =>
  (match A.cut with | some (l, keep) => SL unpack Rel C rd nt Fin σ l keep (.loop b) fs | none => True) ∧
  (match A.l.cut with | some (l, keep) => SL unpack Rel C rd nt Fin σ l keep b (.loop b A :: fs) | none => eZ unpack Rel C rd nt Fin σ b A.l (.loop b A :: fs))
 | .scope b, A, fs => match A.l.cut with | some (l, keep) => SL unpack Rel C rd nt Fin σ l keep b fs | none => eZ unpack Rel C rd nt Fin σ b A.l fs
 | _, _, _ => True
def FC (unpack : Kp → AL → Option St) (Rel : St → S → Prop) (C : dP) (rd : Option Nat) (nt : Nat) (Fin : S → Q → Prop) (σ : Nat → AL → Option Q) : List (Frame Kp) → Prop
 | [] => True
 | .seq b A :: fs => (match A.cut with | some (l, keep) => SL unpack Rel C rd nt Fin σ l keep b fs | none => True) ∧ FC unpack Rel C rd nt Fin σ fs
 | .block _ :: fs => FC unpack Rel C rd nt Fin σ fs
 | .loop b A :: fs => (match A.cut with | some (l, keep) => SL unpack Rel C rd nt Fin σ l keep (.loop b) fs | none => True) ∧ FC unpack Rel C rd nt Fin σ fs
theorem SL.jump (nG : JH pack unpack Rel) {l : Nat} {keep : Kp} {c : Code} {fs : List (Frame Kp)} (H : SL unpack Rel C rd nt Fin σ l keep c fs) {x : St} {q : Q} (e : jump pack σ l keep x = some q) : M Rel C rd nt Fin c fs x q := by
 intro s hs
 obtain ⟨al, x', h1, h2, h3⟩ := nG keep x _ q e s hs
 exact H al x' q h3 h1 s h2
theorem M.seq {a b : Code} {A : eU Kp} {fs : List (Frame Kp)} {x : St} {q : Q} (H : M Rel C rd nt Fin a (.seq b A :: fs) x q) : M Rel C rd nt Fin (.seq a b) fs x q := by
 intro s hs
 obtain ⟨e, s1, h1, h2⟩ := H s hs
 cases e with
 | normal =>
  obtain ⟨e, s2, h3, h4⟩ := h2
  obtain ⟨n, k1, k2⟩ := h1.two h3
  exact ⟨e, s2, .aY ⟨n, by simp only [dZ, eT, k1, k2, Option.bind_some]⟩, h4⟩
 | exit i => obtain ⟨n, k1⟩ := h1; exact ⟨_, s1, .aY ⟨n, by simp only [dZ, eT, k1, Option.bind_some]⟩, h2⟩
 | ret => obtain ⟨n, k1⟩ := h1; exact ⟨_, s1, .aY ⟨n, by simp only [dZ, eT, k1, Option.bind_some]⟩, h2⟩
 | panic v => obtain ⟨n, k1⟩ := h1; exact ⟨_, s1, .aY ⟨n, by simp only [dZ, eT, k1, Option.bind_some]⟩, h2⟩
theorem M.loop {b : Code} {A : eU Kp} {fs : List (Frame Kp)} {x : St} {q : Q} (H : M Rel C rd nt Fin b (.loop b A :: fs) x q) : M Rel C rd nt Fin (.loop b) fs x q := by
 intro s hs
 obtain ⟨e, s1, h1, h2⟩ := H s hs
 cases e with
 | normal =>
  obtain ⟨e, s2, h3, h4⟩ := h2
  obtain ⟨n, k1, k2⟩ := h1.two h3
  exact ⟨e, s2, .aY ⟨n, by simp only [dZ, eT, k1, k2, Option.bind_some]⟩, h4⟩
 | exit i => obtain ⟨n, k1⟩ := h1; exact ⟨_, s1, .aY ⟨n, by simp only [dZ, eT, k1, Option.bind_some]⟩, h2⟩
 | ret => obtain ⟨n, k1⟩ := h1; exact ⟨_, s1, .aY ⟨n, by simp only [dZ, eT, k1, Option.bind_some]⟩, h2⟩
 | panic v => obtain ⟨n, k1⟩ := h1; exact ⟨_, s1, .aY ⟨n, by simp only [dZ, eT, k1, Option.bind_some]⟩, h2⟩
theorem M.block {id : Nat} {b : Code} {fs : List (Frame Kp)} {x : St} {q : Q} (H : M Rel C rd nt Fin b (.block id :: fs) x q) : M Rel C rd nt Fin (.block id b) fs x q := by
 intro s hs
 obtain ⟨e, s1, h1, h2⟩ := H s hs
 obtain ⟨n, k1⟩ := h1
 cases e with
 | normal => exact ⟨_, s1, .aY ⟨n, by simp only [dZ, eT, k1, Option.bind_some]⟩, h2⟩
 | exit i =>
  simp only [oU] at h2
  cases hb : Nat.beq i id with
  | true => rw [hb] at h2; exact ⟨.normal, s1, .aY ⟨n, by simp only [dZ, eT, k1, Option.bind_some, hb]⟩, h2⟩
  | false => rw [hb] at h2; exact ⟨.exit i, s1, .aY ⟨n, by simp only [dZ, eT, k1, Option.bind_some, hb]⟩, h2⟩
 | ret => exact ⟨_, s1, .aY ⟨n, by simp only [dZ, eT, k1, Option.bind_some]⟩, h2⟩
 | panic v => exact ⟨_, s1, .aY ⟨n, by simp only [dZ, eT, k1, Option.bind_some]⟩, h2⟩
theorem M.scope {b : Code} {fs : List (Frame Kp)} {x : St} {q : Q} (H : M Rel C rd nt Fin b fs x q) : M Rel C rd nt Fin (.scope b) fs x q := by
 intro s hs
 obtain ⟨e, s1, h1, h2⟩ := H s hs
 obtain ⟨n, k1⟩ := h1
 exact ⟨e, s1, .aY ⟨n, by simp only [dZ, eT, k1, Option.bind_some]⟩, h2⟩
theorem M.skip {fs : List (Frame Kp)} {x : St} {q : Q} {kn : (St → Option Q)} (H : KN Rel C rd nt Fin kn fs) (e : kn x = some q) : M Rel C rd nt Fin .skip fs x q :=
 fun s hs => ⟨.normal, _, .aY ⟨0, rfl⟩, H x q e s hs⟩
theorem oU.ret {s : S} {q : Q} : ∀ (fs : List (Frame Kp)), Fin s q → oU C rd nt Fin fs .ret s q
 | [], H => H
 | .seq _ _ :: fs, H => oU.ret fs H
 | .block _ :: fs, H => oU.ret fs H
 | .loop _ _ :: fs, H => oU.ret fs H
theorem A7 (nG : JH pack unpack Rel) (hev : aUL ev Rel) (hops : GU Rel C rd nt qO) (hfin : ∀ x q, fin x = some q → ∀ s, Rel x s → Fin s q) :
  ∀ (c : Code) (A : eU Kp) (fs : List (Frame Kp)) (kn : (St → Option Q)) (ke : Nat → (St → Option Q)), KN Rel C rd nt Fin kn fs → KE Rel C rd nt Fin ke fs → eZ unpack Rel C rd nt Fin σ c A fs →
   ∀ x q, kK pack ev σ qO fin c A kn ke x = some q → M Rel C rd nt Fin c fs x q := by
 intro c
 induction c with
 | skip => intro A fs kn ke hn he hc x q e; exact M.skip hn e
 | label l => intro A fs kn ke hn he hc x q e s hs; exact ⟨.normal, _, .aY ⟨0, rfl⟩, hn x q e s hs⟩
 | region id ops d =>
  intro A fs kn ke hn he hc x q e s hs
  obtain ⟨s', x', h1, h2, h3⟩ := hops id ops d kn x q e s hs
  exact ⟨.normal, _, h1, hn x' q h3 s' h2⟩
 | seq a b iha ihb =>
  intro A fs kn ke hn he hc x q e
  obtain ⟨ca, cb⟩ := hc
  simp only [kK] at e
  have hb : KN Rel C rd nt Fin (match A.r.cut with | some (l, keep) => G.jump pack σ l keep | none => kK pack ev σ qO fin b A.r kn ke) (.seq b A.r :: fs) := by
   intro x q e s hs
   cases hcut : A.r.cut with
   | some x => obtain ⟨l, keep⟩ := x; rw [hcut] at e cb; exact SL.jump nG cb e s hs
   | none => rw [hcut] at e cb; exact ihb A.r fs kn ke hn he cb x q e s hs
  have he' : KE Rel C rd nt Fin ke (.seq b A.r :: fs) := fun i x q e s hs => he i x q e s hs
  apply M.seq (A := A.r)
  cases hcut : A.l.cut with
  | some x => obtain ⟨l, keep⟩ := x; rw [hcut] at e ca; exact SL.jump nG ca e
  | none => rw [hcut] at e ca; exact iha A.l _ _ ke hb he' ca x q e
 | cond c t y NV NW =>
  intro A fs kn ke hn he hc x q e
  obtain ⟨cx, cy⟩ := hc
  simp only [kK] at e
  split at e
  ·rename_i v hv
   rcases xH e with ⟨rfl, e⟩ | ⟨rfl, e⟩
   ·intro s hs
    have hM : M Rel C rd nt Fin t fs x q := by
     cases hcut : A.l.cut with
     | some z => obtain ⟨l, keep⟩ := z; rw [hcut] at e cx; exact SL.jump nG cx e
     | none => rw [hcut] at e cx; exact NV A.l fs kn ke hn he cx x q e
    obtain ⟨ee, s1, ⟨n, h1⟩, h2⟩ := hM s hs
    exact ⟨ee, s1, .aY ⟨n, by simp only [dZ, eT, oM, hev _ _ _ hv _ hs, Option.bind_some]; exact h1⟩, h2⟩
   ·intro s hs
    have hM : M Rel C rd nt Fin y fs x q := by
     cases hcut : A.r.cut with
     | some z => obtain ⟨l, keep⟩ := z; rw [hcut] at e cy; exact SL.jump nG cy e
     | none => rw [hcut] at e cy; exact NW A.r fs kn ke hn he cy x q e
    obtain ⟨ee, s1, ⟨n, h1⟩, h2⟩ := hM s hs
    exact ⟨ee, s1, .aY ⟨n, by simp only [dZ, eT, oM, hev _ _ _ hv _ hs, Option.bind_some]; exact h1⟩, h2⟩
  ·cases e
 | block id b ih =>
  intro A fs kn ke hn he hc x q e
  simp only [kK] at e
  apply M.block
  unfold eZ at hc
  cases hcut : A.l.cut with
  | some x => obtain ⟨l, keep⟩ := x; rw [hcut] at e hc; exact SL.jump nG hc e
  | none =>
   rw [hcut] at e hc
   refine ih A.l (.block id :: fs) kn _ (fun x q e s hs => hn x q e s hs) ?_ hc x q e
   intro i x q e s hs
   replace e : (match Nat.beq i id with | true => kn | false => ke i) x = some q := e
   simp only [oU]
   cases hb : Nat.beq i id with
   | true => rw [hb] at e; exact hn x q e s hs
   | false => rw [hb] at e; exact he i x q e s hs
 | loop b ih =>
  intro A fs kn ke hn he hc x q e
  obtain ⟨c1, c2⟩ := hc
  simp only [kK] at e
  apply M.loop (A := A)
  have hj : KN Rel C rd nt Fin (pF pack σ A.cut) (.loop b A :: fs) := by
   intro x q e s hs
   cases hcut : A.cut with
   | some x => obtain ⟨l, keep⟩ := x; rw [hcut] at e c1; exact SL.jump nG c1 e s hs
   | none => rw [hcut] at e; cases e
  cases hcut : A.l.cut with
  | some x => obtain ⟨l, keep⟩ := x; rw [hcut] at e c2; exact SL.jump nG c2 e
  | none => rw [hcut] at e c2; exact ih A.l _ _ ke hj (fun i x q e s hs => he i x q e s hs) c2 x q e
 | rangeFunc f ps a b _ _ => intro A fs kn ke hn he hc x q e; cases e
 | exit id => intro A fs kn ke hn he hc x q e s hs; exact ⟨.exit id, _, .aY ⟨0, rfl⟩, he id x q e s hs⟩
 | scope b ih =>
  intro A fs kn ke hn he hc x q e
  simp only [kK] at e
  unfold eZ at hc
  apply M.scope
  cases hcut : A.l.cut with
  | some x => obtain ⟨l, keep⟩ := x; rw [hcut] at e hc; exact SL.jump nG hc e
  | none => rw [hcut] at e hc; exact ih A.l fs kn ke hn he hc x q e
 | goto l => intro A fs kn ke hn he hc x q e; cases e
 | ret => intro A fs kn ke hn he hc x q e s hs; exact ⟨.ret, _, .aY ⟨0, rfl⟩, oU.ret fs (hfin x q e s hs)⟩
 | refuse w => intro A fs kn ke hn he hc x q e; cases e
theorem A9 (nG : JH pack unpack Rel) (hfin : ∀ x q, fin x = some q → ∀ s, Rel x s → Fin s q) : ∀ fs, FC unpack Rel C rd nt Fin σ fs → KN Rel C rd nt Fin (wK pack σ fin fs) fs
 | [], _ => fun x q e s hs => hfin x q e s hs
 | .seq b A :: fs, hc => by
  intro x q e s hs
  have c1 := hc.1
  unfold wK at e
  cases hcut : A.cut with
  | some x => obtain ⟨l, keep⟩ := x; rw [hcut] at e c1; exact SL.jump nG c1 e s hs
  | none => rw [hcut] at e; cases e
 | .block _ :: fs, hc => fun x q e s hs => A9 nG hfin fs hc x q e s hs
 | .loop b A :: fs, hc => by
  intro x q e s hs
  have c1 := hc.1
  unfold wK at e
  cases hcut : A.cut with
  | some x => obtain ⟨l, keep⟩ := x; rw [hcut] at e c1; exact SL.jump nG c1 e s hs
  | none => rw [hcut] at e; cases e
theorem vS (nG : JH pack unpack Rel) (hfin : ∀ x q, fin x = some q → ∀ s, Rel x s → Fin s q) : ∀ fs, FC unpack Rel C rd nt Fin σ fs → KE Rel C rd nt Fin (xG pack σ fin fs) fs
 | [], _ => fun i x q e s hs => by cases e
 | .seq b A :: fs, hc => fun i x q e s hs => vS nG hfin fs hc.2 i x q e s hs
 | .block id :: fs, hc => by
  intro i x q e s hs
  simp only [xG] at e
  simp only [oU]
  cases hb : Nat.beq i id with
  | true => rw [hb] at e; exact A9 nG hfin fs hc x q e s hs
  | false => rw [hb] at e; exact vS nG hfin fs hc i x q e s hs
 | .loop b A :: fs, hc => fun i x q e s hs => vS nG hfin fs hc.2 i x q e s hs
def zI (unpack : Kp → AL → Option St) (Rel : St → S → Prop) (C : dP) (rd : Option Nat) (nt : Nat) (Fin : S → Q → Prop) (σ : Nat → AL → Option Q) (L : List (wY Kp)) : Prop := ∀ e ∈ L, SL unpack Rel C rd nt Fin σ e.l e.keep e.code e.fs
theorem fA {c : Code} {A : eU Kp} {fs : List (Frame Kp)} {l : Nat} {keep : Kp} (h : A.cut = some (l, keep)) : { l, keep, code := c, D5 := A, fs } ∈ collect c A fs := by
 unfold collect; rw [h]; exact List.mem_append_left _ (List.mem_singleton.2 rfl)
theorem rQ {L : List (wY Kp)} (H : zI unpack Rel C rd nt Fin σ L) : ∀ (c : Code) (A : eU Kp) (fs : List (Frame Kp)), (∀ e ∈ collect c A fs, e ∈ L) → eZ unpack Rel C rd nt Fin σ c A fs := by
 have cut : ∀ {c : Code} {A : eU Kp} {fs : List (Frame Kp)}, (∀ e ∈ collect c A fs, e ∈ L) → eZ unpack Rel C rd nt Fin σ c A fs → (match A.cut with | some (l, keep) => SL unpack Rel C rd nt Fin σ l keep c fs | none => eZ unpack Rel C rd nt Fin σ c A fs) := by
  intro c A fs h1 h2
  cases hcut : A.cut with
  | some x => obtain ⟨l, keep⟩ := x; exact H _ (h1 _ (fA hcut))
  | none => exact h2
 intro c
 induction c with
 | seq a b iha ihb =>
  intro A fs h
  have ha : ∀ e ∈ collect a A.l (.seq b A.r :: fs), e ∈ L := fun e he => h e (by unfold collect; exact List.mem_append_right _ (List.mem_append_left _ he))
  have hb : ∀ e ∈ collect b A.r fs, e ∈ L := fun e he => h e (by unfold collect; exact List.mem_append_right _ (List.mem_append_right _ he))
  exact ⟨cut ha (iha _ _ ha), cut hb (ihb _ _ hb)⟩
 | cond c x y NV NW =>
  intro A fs h
  have ha : ∀ e ∈ collect x A.l fs, e ∈ L := fun e he => h e (by unfold collect; exact List.mem_append_right _ (List.mem_append_left _ he))
  have hb : ∀ e ∈ collect y A.r fs, e ∈ L := fun e he => h e (by unfold collect; exact List.mem_append_right _ (List.mem_append_right _ he))
  exact ⟨cut ha (NV _ _ ha), cut hb (NW _ _ hb)⟩
 | block id b ih =>
  intro A fs h
  have ha : ∀ e ∈ collect b A.l (.block id :: fs), e ∈ L := fun e he => h e (by unfold collect; exact List.mem_append_right _ he)
  exact cut ha (ih _ _ ha)
 | loop b ih =>
  intro A fs h
  have ha : ∀ e ∈ collect b A.l (.loop b A :: fs), e ∈ L := fun e he => h e (by unfold collect; exact List.mem_append_right _ he)
  refine ⟨?_, cut ha (ih _ _ ha)⟩
  cases hcut : A.cut with
  | some x => obtain ⟨l, keep⟩ := x; exact H _ (h _ (fA hcut))
  | none => trivial
 | scope b ih =>
  intro A fs h
  have ha : ∀ e ∈ collect b A.l fs, e ∈ L := fun e he => h e (by unfold collect; exact List.mem_append_right _ he)
  exact cut ha (ih _ _ ha)
 | _ => intros; trivial
theorem xI {L : List (wY Kp)} (H : zI unpack Rel C rd nt Fin σ L) : ∀ (c : Code) (A : eU Kp) (fs : List (Frame Kp)), (∀ e ∈ collect c A fs, e ∈ L) → FC unpack Rel C rd nt Fin σ fs → ∀ e ∈ collect c A fs, FC unpack Rel C rd nt Fin σ e.fs ∧ ∀ x ∈ collect e.code e.D5 e.fs, x ∈ L := by
 have XY : ∀ {c : Code} {A : eU Kp} {fs : List (Frame Kp)}, (∀ e ∈ collect c A fs, e ∈ L) → (match A.cut with | some (l, keep) => SL unpack Rel C rd nt Fin σ l keep c fs | none => True) := by
  intro c A fs h1
  cases hcut : A.cut with
  | some x => obtain ⟨l, keep⟩ := x; exact H _ (h1 _ (fA hcut))
  | none => trivial
 have self : ∀ {c : Code} {A : eU Kp} {fs : List (Frame Kp)} {rest : List (wY Kp)} {e : wY Kp}, (∀ e ∈ collect c A fs, e ∈ L) → FC unpack Rel C rd nt Fin σ fs →
   e ∈ (match A.cut with | some (l, keep) => [({ l, keep, code := c, D5 := A, fs } : wY Kp)] | none => []) ++ rest → (e ∈ rest → FC unpack Rel C rd nt Fin σ e.fs ∧ ∀ x ∈ collect e.code e.D5 e.fs, x ∈ L) →
   FC unpack Rel C rd nt Fin σ e.fs ∧ ∀ x ∈ collect e.code e.D5 e.fs, x ∈ L := by
  intro c A fs rest e h hf he hr
  rcases List.mem_append.1 he with h1 | h1
  ·cases hcut : A.cut with
   | some x =>
    obtain ⟨l, keep⟩ := x; rw [hcut] at h1
    obtain rfl := List.mem_singleton.1 h1
    exact ⟨hf, h⟩
   | none => rw [hcut] at h1; cases h1
  ·exact hr h1
 intro c
 induction c with
 | seq a b iha ihb =>
  intro A fs h hf e he
  have ha : ∀ e ∈ collect a A.l (.seq b A.r :: fs), e ∈ L := fun e he => h e (by unfold collect; exact List.mem_append_right _ (List.mem_append_left _ he))
  have hb : ∀ e ∈ collect b A.r fs, e ∈ L := fun e he => h e (by unfold collect; exact List.mem_append_right _ (List.mem_append_right _ he))
  unfold collect at he
  refine self h hf he fun he => ?_
  rcases List.mem_append.1 he with h1 | h1
  ·exact iha _ _ ha ⟨XY hb, hf⟩ e h1
  ·exact ihb _ _ hb hf e h1
 | cond c x y NV NW =>
  intro A fs h hf e he
  have ha : ∀ e ∈ collect x A.l fs, e ∈ L := fun e he => h e (by unfold collect; exact List.mem_append_right _ (List.mem_append_left _ he))
  have hb : ∀ e ∈ collect y A.r fs, e ∈ L := fun e he => h e (by unfold collect; exact List.mem_append_right _ (List.mem_append_right _ he))
  unfold collect at he
  refine self h hf he fun he => ?_
  rcases List.mem_append.1 he with h1 | h1
  ·exact NV _ _ ha hf e h1
  ·exact NW _ _ hb hf e h1
 | block id b ih =>
  intro A fs h hf e he
  have ha : ∀ e ∈ collect b A.l (.block id :: fs), e ∈ L := fun e he => h e (by unfold collect; exact List.mem_append_right _ he)
  unfold collect at he
  exact self h hf he fun he => ih _ _ ha hf e he
 | loop b ih =>
  intro A fs h hf e he
  have ha : ∀ e ∈ collect b A.l (.loop b A :: fs), e ∈ L := fun e he => h e (by unfold collect; exact List.mem_append_right _ he)
  have hs : (match A.cut with | some (l, keep) => SL unpack Rel C rd nt Fin σ l keep (.loop b) fs | none => True) := XY h
  unfold collect at he
  exact self h hf he fun he => ih _ _ ha ⟨hs, hf⟩ e he
 | scope b ih =>
  intro A fs h hf e he
  have ha : ∀ e ∈ collect b A.l fs, e ∈ L := fun e he => h e (by unfold collect; exact List.mem_append_right _ he)
  unfold collect at he
  exact self h hf he fun he => ih _ _ ha hf e he
 | _ => intro A fs h hf e he; unfold collect at he; exact self h hf he (fun h => (by cases h))
theorem kX {e : wY Kp} : ∀ {L : List (wY Kp)}, distinct (L.map (·.l)) = true → e ∈ L → entry e.l L = some e
 | x :: L, hd, h => by
  simp only [List.map_cons, distinct, Bool.and_eq_true, List.all_eq_true] at hd
  unfold entry
  cases h with
  | head => rw [show Nat.beq e.l e.l = true from by rw [beq_eq]; simp]; rfl
  | tail _ h =>
   have := hd.1 e.l (List.mem_map.2 ⟨e, h, rfl⟩)
   have hb : Nat.beq x.l e.l = false := by
    rw [beq_eq] at this ⊢
    simp at this ⊢
    exact fun k => this k.symm
   rw [hb]
   exact kX hd.2 h
end
def aX {St Q AL Kp : Type} (pack : Kp → St → (AL → Option Q) → Option Q) (unpack : Kp → AL → Option St) (ev : St → Operand → Option Value) (qO : List Oper → Array Oper → Bool → (St → Option Q) → (St → Option Q)) (fin : St → Option Q) (L : List (wY Kp)) (l : Nat) (σ : Nat → AL → Option Q) (al : AL) : Option Q :=
 match entry l L with
 | some e => match unpack e.keep al with
  | some x => kK pack ev σ qO fin e.code e.D5 (wK pack σ fin e.fs) (xG pack σ fin e.fs) x
  | none => none
 | none => none
def aN {Q AL : Type} (T : (Nat → AL → Option Q) → (Nat → AL → Option Q)) (n : Nat) : Nat → AL → Option Q := Nat.rec (fun _ _ => none) (fun _ s => T s) n
section
variable {St Q AL Kp : Type} {unpack : Kp → AL → Option St} {Rel : St → S → Prop} {C : dP} {rd : Option Nat} {nt : Nat} {Fin : S → Q → Prop} {pack : Kp → St → (AL → Option Q) → Option Q} {ev : St → Operand → Option Value} {qO : List Oper → Array Oper → Bool → (St → Option Q) → (St → Option Q)} {fin : St → Option Q}
theorem nU (nG : JH pack unpack Rel) (hev : aUL ev Rel) (hops : GU Rel C rd nt qO) (hfin : ∀ x q, fin x = some q → ∀ s, Rel x s → Fin s q) (body : Code) (A : eU Kp)
  (hd : distinct ((collect body A []).map (·.l)) = true) (T : (Nat → AL → Option Q) → (Nat → AL → Option Q)) (hT : ∀ σ l al q, T σ l al = some q → aX pack unpack ev qO fin (collect body A []) l σ al = some q) :
  ∀ n, zI unpack Rel C rd nt Fin (aN T n) (collect body A [])
 | 0 => fun _ _ _ _ _ e _ => (by cases e)
 | n + 1 => by
  have ih := nU nG hev hops hfin body A hd T hT n
  intro e he al x q hq hv
  have := hT _ _ _ _ (show T (aN T n) e.l al = some q from hq)
  unfold aX at this
  rw [kX hd he] at this
  simp only [hv] at this
  obtain ⟨f1, f2⟩ := xI ih body A [] (fun _ h => h) trivial e he
  exact A7 nG hev hops hfin e.code e.D5 e.fs _ _ (A9 nG hfin e.fs f1) (vS nG hfin e.fs f1) (rQ ih e.code e.D5 e.fs f2) x q this
end
end
end Go.bI.G
/-
  Functions that write nothing and hand back a plain value, told with their own variables beside the heap.
-/
namespace Go.bI
noncomputable section
inductive RV where
 | val (v : Value)
 | loc (id off : Nat)
 | bad
structure FZ where
 r : List (Nat × RV)
 l : List (Nat × List Value)
def zK {α : Type} (n : Nat) : List (Nat × α) → Option α
 | [] => none
 | (k, v) :: l => cond (Nat.beq k n) (some v) (zK n l)
theorem dS {α : Type} (n k : Nat) (v : α) (l : List (Nat × α)) : zK n ((k, v) :: l) = if k = n then some v else zK n l := by
 show cond (Nat.beq k n) (some v) (zK n l) = _
 rw [beq_eq]; by_cases h : k = n <;> simp [h]
inductive aD where
 | n
 | i (x : Int) (r : aD)
 | b (x : Bool) (r : aD)
 | v (x : Value) (r : aD)
 | l (x : List Value) (r : aD)
inductive KI where
 | reg (r : Nat) (k : Kd)
 | loc (r id : Nat)
 | cells (id : Nat) (ks : List Kd)
 | list (id : Nat)
def mI {ρ : Type} (c : List Value) (f : Value → List Value → Option ρ) : Option ρ := fO (List.rec (motive := fun _ => Option ρ) none (fun a c _ => f a c) c)
theorem zA {ρ : Type} {c : List Value} {f : Value → List Value → Option ρ} {q : ρ} (e : mI c f = some q) : ∃ a c', c = a :: c' ∧ f a c' = some q := by
 cases c with
 | nil => cases e
 | cons a c => exact ⟨a, c, rfl, e⟩
def aJG {ρ : Type} (c : List Value) (f : Option ρ) : Option ρ := fO (List.rec (motive := fun _ => Option ρ) f (fun _ _ _ => none) c)
theorem aGM {ρ : Type} {c : List Value} {f : Option ρ} {q : ρ} (e : aJG c f = some q) : c = [] ∧ f = some q := by
 cases c with
 | nil => exact ⟨rfl, e⟩
 | cons a c => cases e
def YK {ρ : Type} : List Kd → List Value → ((aD → aD) → Option ρ) → Option ρ
 | [], c, k => aJG c (k id)
 | .i kd :: ks, c, k => mI c fun a c => aS kd a fun x => YK ks c fun g => k fun al => .i x (g al)
 | .b :: ks, c, k => mI c fun a c => dH a fun x => YK ks c fun g => k fun al => .b x (g al)
 | .v :: ks, c, k => mI c fun a c => YK ks c fun g => k fun al => .v a (g al)
def vX : List Kd → aD → Option (List Value × aD)
 | [], al => some ([], al)
 | .i kd :: ks, .i x al => match vX ks al with | some (c, al) => some (.int kd x :: c, al) | none => none
 | .b :: ks, .b x al => match vX ks al with | some (c, al) => some (.bool x :: c, al) | none => none
 | .v :: ks, .v x al => match vX ks al with | some (c, al) => some (x :: c, al) | none => none
 | _, _ => none
theorem zB {ρ : Type} {q : ρ} : ∀ {ks : List Kd} {c : List Value} {k : (aD → aD) → Option ρ}, YK ks c k = some q → ∃ g, k g = some q ∧ ∀ al, vX ks (g al) = some (c, al)
 | [], c, k, e => by
  obtain ⟨rfl, e2⟩ := aGM e
  exact ⟨id, e2, fun al => rfl⟩
 | .i kd :: ks, c, k, e => by
  obtain ⟨a, c', rfl, e2⟩ := zA e
  obtain ⟨x, rfl, e3⟩ := bF e2
  obtain ⟨g, h1, h2⟩ := zB e3
  exact ⟨_, h1, fun al => by simp only [vX, h2]⟩
 | .b :: ks, c, k, e => by
  obtain ⟨a, c', rfl, e2⟩ := zA e
  obtain ⟨x, rfl, e3⟩ := lG e2
  obtain ⟨g, h1, h2⟩ := zB e3
  exact ⟨_, h1, fun al => by simp only [vX, h2]⟩
 | .v :: ks, c, k, e => by
  obtain ⟨a, c', rfl, e2⟩ := zA e
  obtain ⟨g, h1, h2⟩ := zB e2
  exact ⟨_, h1, fun al => by simp only [vX, h2]⟩
def aJH (x : Option RV) (id : Nat) : Bool := match x with | some (.loc i o) => Nat.beq i id && Nat.beq o 0 | _ => false
def iD {ρ : Type} : List KI → FZ → (aD → Option ρ) → Option ρ
 | [], _, k => k .n
 | .reg r kd :: ks, x, k => match zK r x.r with
  | some (.val v) => match kd with
   | .i kd => aS kd v fun a => iD ks x fun al => k (.i a al)
   | .b => dH v fun a => iD ks x fun al => k (.b a al)
   | .v => iD ks x fun al => k (.v v al)
  | _ => none
 | .loc r id :: ks, x, k => match aJH (zK r x.r) id with | true => iD ks x k | false => none
 | .cells id kds :: ks, x, k => match zK id x.l with
  | some c => YK kds c fun g => iD ks x fun al => k (g al)
  | none => none
 | .list id :: ks, x, k => match zK id x.l with
  | some c => iD ks x fun al => k (.l c al)
  | none => none
def dD : List KI → aD → Option FZ
 | [], .n => some ⟨[], []⟩
 | .reg r (.i kd) :: ks, .i a al => match dD ks al with | some x => some ⟨(r, .val (.int kd a)) :: x.r, x.l⟩ | none => none
 | .reg r .b :: ks, .b a al => match dD ks al with | some x => some ⟨(r, .val (.bool a)) :: x.r, x.l⟩ | none => none
 | .reg r .v :: ks, .v a al => match dD ks al with | some x => some ⟨(r, .val a) :: x.r, x.l⟩ | none => none
 | .loc r id :: ks, al => match dD ks al with | some x => some ⟨(r, .loc id 0) :: x.r, x.l⟩ | none => none
 | .cells id kds :: ks, al => match vX kds al with
  | some (c, al) => match dD ks al with | some x => some ⟨x.r, (id, c) :: x.l⟩ | none => none
  | none => none
 | .list id :: ks, .l c al => match dD ks al with | some x => some ⟨x.r, (id, c) :: x.l⟩ | none => none
 | _, _ => none
structure uX (h : Hp) (n0 : Nat) (β : Nat → Nat) (x : FZ) (s : S) : Prop where
 sub : ∀ i o, h.get i = some o → s.h.get i = some o
 old : ∀ i o, h.get i = some o → i < n0
 low : n0 ≤ s.h.next
 ro : s.h.ro ≤ n0
 loc : ∀ id c, zK id x.l = some c → n0 ≤ β id ∧ β id < s.h.next ∧ ∃ t, s.h.get (β id) = some (.cells c t none)
 inj : ∀ id id' c c', zK id x.l = some c → zK id' x.l = some c' → β id = β id' → id = id'
 reg : ∀ n v, zK n x.r = some (.val v) → s.tm.get n = some v
 ptr : ∀ n id off, zK n x.r = some (.loc id off) → s.tm.get n = some (.pointer (some ⟨β id, off, none⟩))
 df : s.df = []
def RP (h : Hp) (n0 : Nat) (x : FZ) (s : S) : Prop := ∃ β, uX h n0 β x s
theorem aJI {x : Option RV} {id : Nat} (h : aJH x id = true) : x = some (.loc id 0) := by
 unfold aJH at h
 split at h
 ·simp only [Bool.and_eq_true] at h
  rw [Nat.eq_of_beq_eq_true h.1, Nat.eq_of_beq_eq_true h.2]
 ·cases h
theorem pM {ρ : Type} {q : ρ} : ∀ {ks : List KI} {x : FZ} {k : aD → Option ρ}, iD ks x k = some q → ∃ al x', dD ks al = some x' ∧ k al = some q ∧ (∀ n v, zK n x'.r = some v → zK n x.r = some v) ∧ (∀ n c, zK n x'.l = some c → zK n x.l = some c)
 | [], x, k, e => ⟨.n, ⟨[], []⟩, rfl, e, (fun n v h => by cases h), (fun n c h => by cases h)⟩
 | .reg r kd :: ks, x, k, e => by
  unfold iD at e
  split at e
  ·rename_i v hv
   have go : ∀ {al : aD} {x' : FZ}, (∀ n v, zK n x'.r = some v → zK n x.r = some v) → ∀ n u, zK n ((r, RV.val v) :: x'.r) = some u → zK n x.r = some u := by
    intro al x' h n u hu
    rw [dS] at hu
    split at hu
    ·rename_i hn; subst hn; cases hu; exact hv
    ·exact h n u hu
   split at e
   ·obtain ⟨a, rfl, e2⟩ := bF e
    obtain ⟨al, x', h1, h2, h3, h4⟩ := pM e2
    exact ⟨_, ⟨_, x'.l⟩, by simp only [dD, h1], h2, go (al := al) h3, h4⟩
   ·obtain ⟨a, rfl, e2⟩ := lG e
    obtain ⟨al, x', h1, h2, h3, h4⟩ := pM e2
    exact ⟨_, ⟨_, x'.l⟩, by simp only [dD, h1], h2, go (al := al) h3, h4⟩
   ·obtain ⟨al, x', h1, h2, h3, h4⟩ := pM (ks := ks) e
    exact ⟨_, ⟨_, x'.l⟩, by simp only [dD, h1], h2, go (al := al) h3, h4⟩
  ·cases e
 | .loc r id :: ks, x, k, e => by
  unfold iD at e
  split at e
  ·rename_i hl
   have hv := aJI hl
   obtain ⟨al, x', h1, h2, h3, h4⟩ := pM (ks := ks) e
   refine ⟨al, ⟨(r, .loc id 0) :: x'.r, x'.l⟩, by simp only [dD, h1], h2, ?_, h4⟩
   intro n u hu
   rw [dS] at hu
   split at hu
   ·rename_i hn; subst hn; cases hu; exact hv
   ·exact h3 n u hu
  ·cases e
 | .cells id kds :: ks, x, k, e => by
  unfold iD at e
  split at e
  ·rename_i c hc
   obtain ⟨g, e2, hg⟩ := zB e
   obtain ⟨al, x', h1, h2, h3, h4⟩ := pM e2
   refine ⟨g al, ⟨x'.r, (id, c) :: x'.l⟩, by simp only [dD, hg, h1], h2, h3, ?_⟩
   intro n u hu
   rw [dS] at hu
   split at hu
   ·rename_i hn; subst hn; cases hu; exact hc
   ·exact h4 n u hu
  ·cases e
 | .list id :: ks, x, k, e => by
  unfold iD at e
  split at e
  ·rename_i c hc
   obtain ⟨al, x', h1, h2, h3, h4⟩ := pM (ks := ks) e
   refine ⟨.l c al, ⟨x'.r, (id, c) :: x'.l⟩, by simp only [dD, h1], h2, h3, ?_⟩
   intro n u hu
   rw [dS] at hu
   split at hu
   ·rename_i hn; subst hn; cases hu; exact hc
   ·exact h4 n u hu
  ·cases e
theorem RP.pack {h : Hp} {n0 : Nat} : G.JH (Q := Value) iD dD (RP h n0) := by
 intro keep x k q e s hs
 obtain ⟨β, H⟩ := hs
 obtain ⟨al, x', h1, h2, h3, h4⟩ := pM e
 exact ⟨al, x', h1, ⟨β, H.sub, H.old, H.low, H.ro, fun id c hc => H.loc id c (h4 id c hc), fun id id' c c' hc hc' => H.inj id id' c c' (h4 id c hc) (h4 id' c' hc'), fun n v hv => H.reg n v (h3 n _ hv), fun n id off hv => H.ptr n id off (h3 n _ hv), H.df⟩, h2⟩
def YM (x : FZ) : Operand → Option RV
 | .tmp t => zK t x.r
 | .const v => match plain v with | true => some (.val v) | false => none
 | .global _ => none
 | .func f => some (.val (.func (.func f) #[] #[]))
def oG (x : FZ) (o : Operand) : Option Value := match YM x o with | some (.val v) => some v | _ => none
theorem aDZ {h : Hp} {n0 : Nat} : G.aUL oG (RP h n0) := by
 intro x o v e s hs
 obtain ⟨β, H⟩ := hs
 unfold oG at e
 split at e
 ·rename_i w hw
  cases e
  cases o with
  | tmp t => simp only [YM] at hw; simp only [jI, H.reg t v hw, Option.getD_some]
  | const c =>
   simp only [YM] at hw
   split at hw
   ·rename_i hp; cases hw; simp only [jI, hp]; rfl
   ·cases hw
  | global g => cases hw
  | func f => cases hw; rfl
 ·cases e
theorem IB {h : Hp} {n0 : Nat} {β : Nat → Nat} {x : FZ} {s : S} (H : uX h n0 β x s) {o : Operand} {id off : Nat} (e : YM x o = some (.loc id off)) : jI s.tm o = some (.pointer (some ⟨β id, off, none⟩)) := by
 cases o with
 | tmp t => simp only [YM] at e; simp only [jI, H.ptr t id off e, Option.getD_some]
 | const c => simp only [YM] at e; split at e <;> cases e
 | global g => cases e
 | func f => cases e
theorem iW {h : Hp} {n0 : Nat} {β : Nat → Nat} {x : FZ} {s : S} (H : uX h n0 β x s) {o : Operand} {v : Value} (e : YM x o = some (.val v)) : jI s.tm o = some v :=
 aDZ x o v (by unfold oG; rw [e]) s ⟨β, H⟩
end
end Go.bI
/-
  Operations of such functions.
-/
namespace Go.bI
noncomputable section
abbrev KP := FZ → Option Value
def wO (x : FZ) (o : Operand) (f : Value → Option Value) : Option Value := fO <| match YM x o with | some (.val v) => f v | _ => none
theorem gP {x : FZ} {o : Operand} {f : Value → Option Value} {q : Value} (e : wO x o f = some q) : ∃ v, YM x o = some (.val v) ∧ f v = some q := by
 unfold wO fO at e
 dsimp only at e
 split at e
 ·exact ⟨_, ‹_›, e⟩
 ·cases e
def TH (x : FZ) : List Operand → (List Value → Option Value) → Option Value
 | [], f => f []
 | o :: os, f => wO x o fun v => TH x os fun l => f (v :: l)
theorem uY {x : FZ} {q : Value} : ∀ {os : List Operand} {f : List Value → Option Value}, TH x os f = some q → ∃ l, f l = some q ∧ l.length = os.length ∧ ∀ {h : Hp} {n0 : Nat} {β : Nat → Nat} {s : S}, uX h n0 β x s → lC (jI s.tm) os = some l
 | [], f, e => ⟨[], e, rfl, fun _ => rfl⟩
 | o :: os, f, e => by
  obtain ⟨v, hv, e2⟩ := gP e
  obtain ⟨l, h1, h2, h3⟩ := uY e2
  exact ⟨v :: l, h1, by simp [h2], fun H => by simp only [lC, iW H hv, h3 H, Option.bind_some]⟩
def aB0 (x : FZ) : List (Nat × Operand) → (List (Nat × Value) → Option Value) → Option Value
 | [], f => f []
 | (i, o) :: os, f => wO x o fun v => aB0 x os fun l => f ((i, v) :: l)
theorem K4 {x : FZ} {q : Value} : ∀ {os : List (Nat × Operand)} {f : List (Nat × Value) → Option Value}, aB0 x os f = some q → ∃ l, f l = some q ∧ ∀ {h : Hp} {n0 : Nat} {β : Nat → Nat} {s : S}, uX h n0 β x s → nQ (jI s.tm) os = some l
 | [], f, e => ⟨[], e, fun _ => rfl⟩
 | (i, o) :: os, f, e => by
  obtain ⟨v, hv, e2⟩ := gP e
  obtain ⟨l, h1, h3⟩ := K4 e2
  exact ⟨(i, v) :: l, h1, fun H => by simp only [nQ, iW H hv, h3 H, Option.bind_some]⟩
def zL (d : Nat) : List (Nat × RV) → List (Nat × RV)
 | [] => []
 | (n, .loc id off) :: l => match Nat.beq id d with | true => (n, .bad) :: zL d l | false => (n, .loc id off) :: zL d l
 | (n, u) :: l => (n, u) :: zL d l
theorem xO {d n : Nat} {v : Value} : ∀ {l : List (Nat × RV)}, zK n (zL d l) = some (.val v) → zK n l = some (.val v)
 | [], h => by cases h
 | (k, .val w) :: l, h => by
  rw [zL, dS] at h
  rw [dS]
  split at h
  ·rename_i hk; rw [if_pos hk]; exact h
  ·rename_i hk; rw [if_neg hk]; exact xO h
  ·intro _ _ hh; cases hh
 | (k, .bad) :: l, h => by
  rw [zL, dS] at h
  rw [dS]
  split at h
  ·cases h
  ·rename_i hk; rw [if_neg hk]; exact xO h
  ·intro _ _ hh; cases hh
 | (k, .loc id off) :: l, h => by
  rw [zL] at h
  rw [dS]
  cases hb : Nat.beq id d with
  | true =>
   rw [hb] at h
   simp only [dS] at h
   split at h
   ·cases h
   ·rename_i hk; rw [if_neg hk]; exact xO h
  | false =>
   rw [hb] at h
   simp only [dS] at h
   split at h
   ·cases h
   ·rename_i hk; rw [if_neg hk]; exact xO h
theorem xP {d n id off : Nat} : ∀ {l : List (Nat × RV)}, zK n (zL d l) = some (.loc id off) → zK n l = some (.loc id off) ∧ id ≠ d
 | [], h => by cases h
 | (k, .val w) :: l, h => by
  rw [zL, dS] at h
  rw [dS]
  split at h
  ·cases h
  ·rename_i hk; rw [if_neg hk]; exact xP h
  ·intro _ _ hh; cases hh
 | (k, .bad) :: l, h => by
  rw [zL, dS] at h
  rw [dS]
  split at h
  ·cases h
  ·rename_i hk; rw [if_neg hk]; exact xP h
  ·intro _ _ hh; cases hh
 | (k, .loc id' off') :: l, h => by
  rw [zL] at h
  rw [dS]
  cases hb : Nat.beq id' d with
  | true =>
   rw [hb] at h
   simp only [dS] at h
   split at h
   ·cases h
   ·rename_i hk; rw [if_neg hk]; exact xP h
  | false =>
   rw [hb] at h
   simp only [dS] at h
   split at h
   ·rename_i hk
    rw [if_pos hk]
    cases h
    exact ⟨rfl, fun e => by subst e; rw [beq_eq] at hb; simp at hb⟩
   ·rename_i hk; rw [if_neg hk]; exact xP h
def aQE {ρ : Type} (v : Value) (f : List Value → Option ρ) : Option ρ := fO (JG v none (fun _ => none) (fun _ _ => none) (fun _ => none) (fun _ _ _ => none) (fun cs => f cs.toList) (fun _ => none) (fun _ => none))
section
variable (E : Env) (pf : FuncId → List Value → Hp → Option Value) (nt : Nat) (h : Hp)
def zQ (d : Option Tmp) (u : RV) (x : FZ) (k : KP) : Option Value :=
 fO <| match d with
 | none => k x
 | some d => match Nat.blt d nt with | true => k ⟨(d, u) :: x.r, x.l⟩ | false => none
def aQF (d : Option Tmp) (c : List Value) (x : FZ) (k : KP) : Option Value :=
 fO <| match d with
 | none => none
 | some d => match Nat.blt d nt with | true => k ⟨(d, .loc d 0) :: zL d x.r, (d, c) :: x.l⟩ | false => none
def aB1 (id : Nat) (c : List Value) (x : FZ) : FZ := ⟨x.r, (id, c) :: x.l⟩
def opP (o : Oper) (x : FZ) (k : KP) : Option Value :=
 let val := fun v => zQ nt o.dst (.val v) x k
 match o.op with
 | .move y => match YM x y with | some u => zQ nt o.dst u x k | none => none
 | .assign y => match YM x y with | some u => zQ nt o.dst u x k | none => none
 | .pick c a b => wO x c fun vc => wO x a fun va => wO x b fun vb => onB vc (val va) (val vb)
 | .alloc e => match jR E e with | some z => aQF nt o.dst z.cells.toList x k | none => none
 | .box e y => wO x y fun v => pG v.cells.toList fun c => aQF nt o.dst c x k
 | .build t ps => aB0 x ps.toList fun l => bR (jX E t l.toArray) val
 | .load t a => match YM x a with
  | some (.loc id off) => (match zK id x.l with
   | some c => match I4 E t with
    | some true => match gT E t with | some n => zJ c off fun c => xL c n fun l => val (.agg (Array.mk l)) | none => none
    | some false => BB c off fun v => oF E t v val
    | none => none
   | none => none)
  | some (.val va) => XX E h t va fun v => oF E t v val
  | _ => none
 | .store t a y => match YM x a with
  | some (.loc id off) => wO x y fun vy => (match zK id x.l with
   | some c => match I4 E t, gT E t with
    | some false, some 1 => bU (X4 vy) (DC c off vy fun c => zQ nt o.dst (.val undef) (aB1 id c x) k) none
    | some true, some n => aQE vy fun cs => bU (Nat.beq (Q6 cs) n) (VO off cs c fun c => zQ nt o.dst (.val undef) (aB1 id c x) k) none
    | _, _ => none
   | none => none)
  | _ => none
 | .binOp op t a b _ => wO x a fun va => wO x b fun vb => aP7 E op t a b va vb val
 | .unOp op t a => wO x a fun va => unK E op t va val
 | .convert s d a => wO x a fun va => match gL E s, gL E d with
  | some (.int ks), some (.int kd) => aS ks va fun a => G6 kd a fun c => val (.int kd c)
  | _, _ => none
 | .fieldAddr st y f => match YM x y with
  | some (.loc id off) => (match gL E st with
   | some (.struct fields) => match fields[f]? with
    | some fd => match gT E fd.type with
     | some n => match Nat.blt 0 n with | true => zQ nt o.dst (.loc id (Nat.add off fd.offset)) x k | false => none
     | none => none
    | none => none
   | _ => none)
  | some (.val v) => aP8 E st v f val
  | _ => none
 | .field s y f => wO x y fun v => V7 E s v f val
 | .indexAddr t y ix => match YM x y with
  | some (.loc id off) => wO x ix fun vi => FM vi fun _ i => (match gL E t with
   | some (.array len el) => match gT E el with
    | some n => VK i (fun i => bU (Nat.ble (Nat.succ i) len) (iF (Nat.add off (Nat.mul i n)) fun o' => zQ nt o.dst (.loc id o') x k) none) (fun _ => none)
    | none => none
   | _ => none)
  | some (.val v) => wO x ix fun vi => FM vi fun kd i => aP9 E t v kd i val
  | _ => none
 | .index t y ix => wO x y fun v => wO x ix fun i => bR (kE E t v i) fun v => oF E o.type v val
 | .lookup t y ix c => wO x y fun v => wO x ix fun i => bR (kU E h t v i c) fun v => oF E o.type v val
 | .extract t i => wO x t fun v => eB v i fun v => oF E o.type v val
 | .call c => match c.callee with
  | .value (.func f) => TH x c.args.toList fun l => bR (pf f l h) fun v => oF E o.type v val
  | .builtin b => match b with
   | .len => TH x c.args.toList fun l => uW E h .len c.argTypes l fun v _ => val v
   | .min => TH x c.args.toList fun l => uW E h .min c.argTypes l fun v _ => val v
   | .max => TH x c.args.toList fun l => uW E h .max c.argTypes l fun v _ => val v
   | _ => none
  | _ => none
 | _ => none
end
end
end Go.bI
/-
  Operations of such functions are told rightly.
-/
namespace Go.bI
noncomputable section
theorem TJ (b o n : Nat) : Addr.add ⟨b, o, none⟩ n = ⟨b, o + n, none⟩ := addr_add rfl n
def Sub (h h2 : Hp) : Prop := ∀ i o, h.get i = some o → h2.get i = some o
theorem aGN {E : Env} {h h2 : Hp} (hs : Sub h h2) {t : TypeId} {v x : Value} (e : oJ E h t v = some x) : oJ E h2 t v = some x := by
 have hc : ∀ (a : Addr) (n : Nat) (l : List Value), eY h a n = some l → eY h2 a n = some l := by
  intro a n l e
  unfold eY at e ⊢
  split at e
  ·cases e
  ·split at e
   ·rename_i hg; rw [hs _ _ hg]; exact e
   ·cases e
 unfold oJ at e ⊢
 obtain ⟨a, h1, e⟩ := aA e
 rw [h1]; simp only [Option.bind_some] at e ⊢
 obtain ⟨g, h2', e⟩ := aA e
 rw [h2']; simp only [Option.bind_some] at e ⊢
 cases g with
 | true =>
  simp only at e ⊢
  obtain ⟨n, h3, e⟩ := aA e
  rw [h3]; simp only [Option.bind_some] at e ⊢
  obtain ⟨l, h4, e⟩ := aA e
  rw [hc _ _ _ h4]; exact e
 | false =>
  simp only at e ⊢
  split at e
  ·rename_i h4; rw [hc _ _ _ h4]; exact e
  ·cases e
theorem TK {h h2 : Hp} (hs : Sub h h2) {m : Value} {es : List (Value × Value)} (e : mapOf h m = some es) : mapOf h2 m = some es := by
 unfold mapOf at e ⊢
 split at e
 ·exact e
 ·split at e
  ·rename_i hg; rw [hs _ _ hg]; exact e
  ·cases e
 ·cases e
theorem YN {E : Env} {h h2 : Hp} (hs : Sub h h2) {t : TypeId} {m y x : Value} {c : Bool} (e : kU E h t m y c = some x) : kU E h2 t m y c = some x := by
 unfold kU at e ⊢
 obtain ⟨hp, e⟩ := aP e
 rw [hp]
 obtain ⟨d, hd, e⟩ := aA e
 simp only [aIQ, hd, Option.bind_some] at e ⊢
 split at e
 ·obtain ⟨es, h1, e⟩ := aA e
  rw [TK hs h1]; exact e
 ·cases e
theorem aJJ {E : Env} {h h2 : Hp} (hs : Sub h h2) {lN : Array TypeId} {l : Array Value} {x : Value} (e : fT E h lN l = some x) : fT E h2 lN l = some x := by
 unfold fT at e ⊢
 obtain ⟨t, h1, e⟩ := aA e
 rw [h1]; simp only [Option.bind_some] at e ⊢
 obtain ⟨v, h3, e⟩ := aA e
 rw [h3]; simp only [Option.bind_some] at e ⊢
 obtain ⟨d, h4, e⟩ := aA e
 rw [h4]; simp only [Option.bind_some] at e ⊢
 split at e
 ·exact e
 ·exact e
 ·exact e
 ·obtain ⟨es, h5, e⟩ := aA e
  simp only [TK hs h5, Option.bind_some]; exact e
 ·cases e
section
variable {h : Hp} {n0 : Nat} {β : Nat → Nat} {x : FZ} {s : S}
def aY9 (β : Nat → Nat) (u : RV) (w : Value) : Prop := match u with | .val v => w = v | .loc id off => w = .pointer (some ⟨β id, off, none⟩) | .bad => True
theorem uX.put (H : uX h n0 β x s) (d : Nat) {u : RV} {w : Value} (hu : aY9 β u w) : uX h n0 β ⟨(d, u) :: x.r, x.l⟩ { s with tm := s.tm.put d (some w) } := by
 refine ⟨H.sub, H.old, H.low, H.ro, H.loc, H.inj, ?_, ?_, H.df⟩
 ·intro n v hv
  rw [dS] at hv
  show (s.tm.put d (some w)).get n = _
  rw [T.get_put]
  split at hv
  ·rename_i hd; subst hd; cases hv; rw [if_pos rfl]; exact congrArg some hu
  ·rename_i hd; rw [if_neg (fun e => hd e.symm)]; exact H.reg n v hv
 ·intro n id off hv
  rw [dS] at hv
  show (s.tm.put d (some w)).get n = _
  rw [T.get_put]
  split at hv
  ·rename_i hd; subst hd; cases hv; rw [if_pos rfl]; exact congrArg some hu
  ·rename_i hd; rw [if_neg (fun e => hd e.symm)]; exact H.ptr n id off hv
theorem tO {nt : Nat} {d : Option Tmp} {u : RV} {k : KP} {q w : Value} (e : zQ nt d u x k = some q) (H : uX h n0 β x s) (hu : aY9 β u w) :
  ∃ tm' x', iC nt s.tm d w = some tm' ∧ uX h n0 β x' { s with tm := tm' } ∧ k x' = some q := by
 unfold zQ fO at e
 dsimp only at e
 split at e
 ·exact ⟨s.tm, x, rfl, H, e⟩
 ·rename_i d
  split at e
  ·rename_i hb
   exact ⟨_, _, by simp only [iC, hb]; rfl, H.put d hu, e⟩
  ·cases e
theorem uX.heap (H : uX h n0 β x s) {h' : Hp} {id : Nat} {c c' : List Value} {t : TypeId} (hc : zK id x.l = some c) (hg : s.h.get (β id) = some (.cells c t none)) (hh : h' = s.h.upd (β id) (.cells c' t none)) :
  uX h n0 β (aB1 id c' x) { s with h := h' } := by
 subst hh
 obtain ⟨l1, l2, _⟩ := H.loc id c hc
 have hget : ∀ i, (s.h.upd (β id) (.cells c' t none)).get i = if i = β id then some (.cells c' t none) else s.h.get i := fun i => T.get_put _ _ _ _
 refine ⟨?_, H.old, H.low, H.ro, ?_, ?_, H.reg, H.ptr, H.df⟩
 ·intro i o hi
  show (s.h.upd (β id) (.cells c' t none)).get i = some o
  rw [hget, if_neg (by have := H.old i o hi; omega)]
  exact H.sub i o hi
 ·intro id' c'' hl
  unfold aB1 at hl
  rw [dS] at hl
  split at hl
  ·rename_i he; subst he; cases hl
   exact ⟨l1, l2, t, by show (s.h.upd (β id) _).get _ = _; rw [hget, if_pos rfl]⟩
  ·rename_i he
   obtain ⟨m1, m2, t', m3⟩ := H.loc id' c'' hl
   refine ⟨m1, m2, t', ?_⟩
   show (s.h.upd (β id) _).get _ = _
   rw [hget, if_neg (fun e => he (H.inj id id' c c'' hc hl e.symm))]
   exact m3
 ·have low : ∀ a c, zK a (aB1 id c' x).l = some c → ∃ c, zK a x.l = some c := by
   intro a d hd
   unfold aB1 at hd
   rw [dS] at hd
   split at hd
   ·rename_i he; subst he; exact ⟨c, hc⟩
   ·exact ⟨d, hd⟩
  intro a b ca cb ha hb
  obtain ⟨ca', ha'⟩ := low a ca ha
  obtain ⟨cb', hb'⟩ := low b cb hb
  exact H.inj a b ca' cb' ha' hb'
theorem TL {nt : Nat} {d : Option Tmp} {c : List Value} {k : KP} {q : Value} {t : TypeId} (e : aQF nt d c x k = some q) (H : uX h n0 β x s) :
  ∃ tm' x', iC nt s.tm d (ptr s.h.next 0) = some tm' ∧ RP h n0 x' { s with tm := tm', h := jC s.h t c none } ∧ k x' = some q := by
 unfold aQF fO at e
 dsimp only at e
 split at e
 ·cases e
 ·rename_i d
  split at e
  ·rename_i hb
   refine ⟨_, _, by simp only [iC, hb]; rfl, ⟨fun i => if i = d then s.h.next else β i, ?_⟩, e⟩
   have hget : ∀ i, (jC s.h t c none).get i = if i = s.h.next then some (.cells c t none) else s.h.get i := fun i => T.get_put _ _ _ _
   have hnx : (jC s.h t c none).next = s.h.next + 1 := rfl
   refine ⟨?_, H.old, ?_, H.ro, ?_, ?_, ?_, ?_, H.df⟩
   ·intro i o hi
    show (jC s.h t c none).get i = some o
    rw [hget, if_neg (by have := H.old i o hi; have := H.low; omega)]
    exact H.sub i o hi
   ·show n0 ≤ (jC s.h t c none).next
    rw [hnx]; have := H.low; omega
   ·intro id c' hl
    rw [dS] at hl
    show n0 ≤ (if id = d then s.h.next else β id) ∧ (if id = d then s.h.next else β id) < (jC s.h t c none).next ∧ ∃ t', (jC s.h t c none).get (if id = d then s.h.next else β id) = some (.cells c' t' none)
    rw [hnx]
    split at hl
    ·rename_i he; subst he; cases hl
     rw [if_pos rfl]
     exact ⟨H.low, by omega, t, by rw [hget, if_pos rfl]⟩
    ·rename_i he
     obtain ⟨m1, m2, t', m3⟩ := H.loc id c' hl
     rw [if_neg (fun e => he e.symm)]
     exact ⟨m1, by omega, t', by rw [hget, if_neg (by omega)]; exact m3⟩
   ·intro a b ca cb ha hb' hab
    rw [dS] at ha hb'
    split at ha
    ·rename_i he; subst he
     rw [if_pos rfl] at hab
     split at hb'
     ·assumption
     ·rename_i he2
      rw [if_neg (fun e => he2 e.symm)] at hab
      have := (H.loc b cb hb').2.1
      omega
    ·rename_i he
     rw [if_neg (fun e => he e.symm)] at hab
     have h1 := (H.loc a ca ha).2.1
     split at hb'
     ·rename_i he2; subst he2
      rw [if_pos rfl] at hab
      omega
     ·rename_i he2
      rw [if_neg (fun e => he2 e.symm)] at hab
      exact H.inj a b ca cb ha hb' hab
   ·intro n v hv
    show (s.tm.put d (some (ptr s.h.next 0))).get n = _
    rw [dS] at hv
    rw [T.get_put]
    split at hv
    ·cases hv
    ·rename_i hd; rw [if_neg (fun e => hd e.symm)]; exact H.reg n v (xO hv)
   ·intro n id off hv
    show (s.tm.put d (some (ptr s.h.next 0))).get n = some (.pointer (some ⟨if id = d then s.h.next else β id, off, none⟩))
    rw [dS] at hv
    rw [T.get_put]
    split at hv
    ·rename_i hd; subst hd; cases hv; rw [if_pos rfl, if_pos rfl]; rfl
    ·rename_i hd
     obtain ⟨k1, k2⟩ := xP hv
     rw [if_neg (fun e => hd e.symm), if_neg k2]; exact H.ptr n id off k1
  ·cases e
end
def aQG (C : dP) (pf : FuncId → List Value → Hp → Option Value) (h : Hp) : Prop := ∀ f l v, pf f l h = some v → ∀ h2, Sub h h2 → C.iT f l.toArray h2 = some (v, h2)
section
variable {C : dP} {pf : FuncId → List Value → Hp → Option Value} {rd : Option Nat} {nt : Nat} {h : Hp} {n0 : Nat} {β : Nat → Nat} {x : FZ} {s : S} {o : Oper} {k : KP} {q : Value}
def Done (C : dP) (rd : Option Nat) (nt : Nat) (h : Hp) (n0 : Nat) (o : Oper) (s : S) (k : KP) (q : Value) : Prop :=
 ∃ v s' x', ((iY C.P (jI s.tm) o s.h = some (.val v s'.h)) ∨ ∃ f args, iY C.P (jI s.tm) o s.h = some (.call (.func f) args) ∧ C.iT f args s.h = some (v, s'.h)) ∧ iC nt s.tm o.dst v = some s'.tm ∧ s'.df = s.df ∧ RP h n0 x' s' ∧ k x' = some q
theorem Done.run (H : Done C rd nt h n0 o s k q) (self : Self) {ops : Array Oper} (hw : bZ ops s.tm o = true) : ∃ s' x', jP C self rd nt ops o s = some (.code .normal s') ∧ RP h n0 x' s' ∧ k x' = some q := by
 obtain ⟨v, s', x', ho, hp, hdf, hr, hk⟩ := H
 refine ⟨s', x', ?_, hr, hk⟩
 obtain ⟨tm', df', h'⟩ := s'
 simp only at hdf hp ho
 subst hdf
 unfold jP
 rw [hw]
 rcases ho with ho | ⟨f, args, ho, hc⟩
 ·simp only [ho, Option.bind_some, hp]
 ·simp only [ho, Option.bind_some, nC, hc, hp]
theorem jU {v : Value} (e : zQ nt o.dst (.val v) x k = some q) (H : uX h n0 β x s) (ho : iY C.P (jI s.tm) o s.h = some (.val v s.h)) : Done C rd nt h n0 o s k q := by
 obtain ⟨tm', x', h1, h2, h3⟩ := tO (w := v) e H rfl
 exact ⟨v, { s with tm := tm' }, x', .inl ho, h1, rfl, ⟨β, h2⟩, h3⟩
theorem OV {id off : Nat} (e : zQ nt o.dst (.loc id off) x k = some q) (H : uX h n0 β x s) (ho : iY C.P (jI s.tm) o s.h = some (.val (.pointer (some ⟨β id, off, none⟩)) s.h)) : Done C rd nt h n0 o s k q := by
 obtain ⟨tm', x', h1, h2, h3⟩ := tO (w := .pointer (some ⟨β id, off, none⟩)) e H rfl
 exact ⟨_, { s with tm := tm' }, x', .inl ho, h1, rfl, ⟨β, h2⟩, h3⟩
theorem YO {u : RV} {y : Operand} (e : zQ nt o.dst u x k = some q) (H : uX h n0 β x s) (hu : YM x y = some u) (ho : ∀ v, jI s.tm y = some v → iY C.P (jI s.tm) o s.h = some (.val v s.h)) : Done C rd nt h n0 o s k q := by
 cases u with
 | val v => exact jU e H (ho v (iW H hu))
 | loc id off => exact OV e H (ho _ (IB H hu))
 | bad =>
  cases y with
  | tmp t =>
   obtain ⟨tm', x', h1, h2, h3⟩ := tO (w := (s.tm.get t).getD undef) e H trivial
   exact ⟨_, { s with tm := tm' }, x', .inl (ho _ rfl), h1, rfl, ⟨β, h2⟩, h3⟩
  | const c => simp only [YM] at hu; split at hu <;> cases hu
  | global g => cases hu
  | func f => cases hu
theorem aB2 (hE : C.P.Ok) (hpf : aQG C pf h) (e : opP C.P pf nt h o x k = some q) (H : uX h n0 β x s) : Done C rd nt h n0 o s k q := by
 have hsub : Sub h s.h := H.sub
 unfold opP at e
 simp only at e
 split at e
 ·rename_i y ho
  split at e
  ·rename_i u hu; exact YO e H hu fun v hv => by simp only [iY, ho, yB, bM, hv, Option.bind_some]
  ·cases e
 ·rename_i y ho
  split at e
  ·rename_i u hu; exact YO e H hu fun v hv => by simp only [iY, ho, yB, bM, hv, Option.bind_some]
  ·cases e
 ·rename_i c a b ho
  obtain ⟨vc, hc, e⟩ := gP e
  obtain ⟨va, ha, e⟩ := gP e
  obtain ⟨vb, hb, e⟩ := gP e
  have hc' := iW H hc
  have ha' := iW H ha
  have hb' := iW H hb
  rcases xH e with ⟨rfl, e⟩ | ⟨rfl, e⟩
  ·exact jU e H (by simp only [iY, ho, wG, op3, hc', ha', hb', Option.bind_some])
  ·exact jU e H (by simp only [iY, ho, wG, op3, hc', ha', hb', Option.bind_some])
 ·rename_i el ho
  split at e
  ·rename_i z hz
   obtain ⟨tm', x', h1, h2, h3⟩ := TL (t := el) e H
   exact ⟨_, { tm := tm', df := s.df, h := jC s.h el z.cells.toList none }, x', .inl (by simp only [iY, ho, MN, hz, Option.bind_some]), h1, rfl, h2, h3⟩
  ·cases e
 ·rename_i el y ho
  obtain ⟨v, hv, e⟩ := gP e
  rw [kI] at e
  obtain ⟨tm', x', h1, h2, h3⟩ := TL (t := el) e H
  exact ⟨_, { tm := tm', df := s.df, h := jC s.h el v.cells.toList none }, x', .inl (by simp only [iY, ho, XF, oH, iW H hv, Option.bind_some]), h1, rfl, h2, h3⟩
 ·rename_i t ps ho
  obtain ⟨l, e, hl⟩ := K4 e
  obtain ⟨v, hv, e⟩ := fG e
  exact jU e H (by simp only [iY, ho, GJ, hl H, bM, hv, Option.bind_some])
 ·rename_i t a ho
  split at e
  ·rename_i id off ha
   split at e
   ·rename_i c hc
    obtain ⟨_, _, ty, hg⟩ := H.loc id c hc
    have hp := IB H ha
    split at e
    ·rename_i hagg
     split at e
     ·rename_i n hn
      rw [xK] at e
      obtain ⟨hl, e⟩ := uQ _ _ _ e
      refine jU e H ?_
      have : oJ C.P s.h t (.pointer (some ⟨β id, off, none⟩)) = some (.agg (Array.mk ((c.drop off).take n))) := by
       simp only [oJ, addrOf, Option.bind_some, hagg, hn, eY, hg]
       rw [show Nat.beq ((c.drop off).take n).length n = true from by rw [beq_eq, hl]; simp]
       rfl
      simp only [iY, ho, yC, oH, hp, Option.bind_some, bM, this]
     ·cases e
    ·rename_i hagg
     rw [yT] at e
     obtain ⟨v, hv, e⟩ := aA e
     refine jU (gW e) H ?_
     have : oJ C.P s.h t (.pointer (some ⟨β id, off, none⟩)) = some v := by
      refine OM hagg ?_
      unfold Hp.get at hg
      simp only [j6, hg, hv]
     simp only [iY, ho, yC, oH, hp, Option.bind_some, bM, this]
    ·cases e
   ·cases e
  ·rename_i va ha
   obtain ⟨v, hv, e⟩ := FB e
   exact jU (gW e) H (by simp only [iY, ho, yC, oH, iW H ha, Option.bind_some, bM, aGN hsub hv])
  ·cases e
 ·rename_i t a y ho
  split at e
  ·rename_i id off ha
   obtain ⟨vy, hy, e⟩ := gP e
   have hp := IB H ha
   have hy' := iW H hy
   split at e
   ·rename_i c hc
    obtain ⟨l1, l2, ty, hg⟩ := H.loc id c hc
    have hro : Nat.ble s.h.ro (β id) = true := by rw [Nat.ble_eq]; have := H.ro; omega
    have fin : ∀ {c' : List Value} {n : Nat}, gT C.P t = some n → Nat.beq vy.cells.size n = true → off + vy.cells.toList.length ≤ c.length → vy.cells.toList.all oneCell = true → c' = c.take off ++ vy.cells.toList ++ c.drop (off + vy.cells.toList.length) →
      zQ nt o.dst (.val undef) (aB1 id c' x) k = some q → Done C rd nt h n0 o s k q := by
     intro c' n hn hsz hle hall hc' e
     have H2 := H.heap (c' := c') hc hg rfl
     obtain ⟨tm', x', h1, h2, h3⟩ := tO (w := undef) e H2 rfl
     refine ⟨undef, { tm := tm', df := s.df, h := s.h.upd (β id) (.cells c' ty none) }, x', .inl ?_, h1, rfl, ⟨β, h2⟩, h3⟩
     have hle' : Nat.ble (off + vy.cells.toList.length) c.length = true := by rw [Nat.ble_eq]; exact hle
     simp only [iY, ho, CQ, CR, hp, hy', Option.bind_some, yJ, mW, addrOf, hn, hsz, aIQ, putCells, hro, hg, hle', hall, Bool.and_self, hc']
    split at e
    ·rename_i hagg hn
     obtain ⟨h1, e⟩ := iJ e
     rw [yU] at e
     obtain ⟨c', h2, e⟩ := aA e
     rw [G5] at h1
     obtain ⟨g1, g2⟩ := JN _ _ _ h2
     have hcl := cells_one h1
     exact fin hn (by rw [hcl]; rfl) (by rw [hcl]; exact g1) (by rw [hcl]; simp [h1]) (by rw [hcl]; exact g2) e
    ·rename_i n hagg hn
     cases vy <;> first | (cases e; done) | skip
     rename_i cs
     obtain ⟨h1, e⟩ := iJ (show bU (Nat.beq (Q6 cs.toList) n) _ none = some q from e)
     rw [MQ] at h1
     obtain ⟨g1, g2, g3⟩ := JI _ _ _ _ e
     exact fin hn (by simpa [Value.cells] using h1) g1 g2 rfl g3
    ·cases e
   ·cases e
  ·cases e
 ·rename_i op t a b yt ho
  obtain ⟨va, ha, e⟩ := gP e
  obtain ⟨vb, hb, e⟩ := gP e
  obtain ⟨v, hv, e⟩ := TE e
  exact jU e H (by simp only [iY, ho, NA, CR, iW H ha, iW H hb, bM, hv, Option.bind_some])
 ·rename_i op t a ho
  obtain ⟨va, ha, e⟩ := gP e
  obtain ⟨v, hv, e⟩ := YI e
  refine jU e H ?_
  have := hv
  unfold unV at this
  simp only [iY, ho, aAR, oH, iW H ha, Option.bind_some]
  revert this
  cases plain va with
  | false => intro h; cases h
  | true => intro h; simp only [ok?] at h ⊢; simp only [bM]; rw [h]; rfl
 ·rename_i st d a ho
  obtain ⟨va, ha, e⟩ := gP e
  split at e
  ·rename_i k1 k2 hs hd
   obtain ⟨n, rfl, e2⟩ := bF e
   rw [BC] at e2
   refine jU e2 H ?_
   simp only [iY, ho, tJ, oH, iW H ha, Option.bind_some, xE, hs, hd]
   have h1 : pR C.P.P (convert st d (.int k1 n)) = some (.int k2 (k2.wrap n)) := by
    unfold convert
    rw [dI, IA hE hs]
    simp only [Option.bind_some]
    rw [dI, IA hE hd]
    rfl
   rw [h1]
   rfl
  ·cases e
 ·rename_i st y f ho
  split at e
  ·rename_i id off hy
   split at e
   ·rename_i fields hu
    split at e
    ·rename_i fd hf
     split at e
     ·rename_i n hn
      split at e
      ·rename_i hb
       refine OV e H ?_
       simp only [iY, ho, lW, oH, IB H hy, Option.bind_some, bM, o7, hu, hf, addrOf, hn, hb, aIQ, TJ, Nat.add_eq]
      ·cases e
     ·cases e
    ·cases e
   ·cases e
  ·rename_i v hy
   obtain ⟨v', hv', e⟩ := TF e
   exact jU e H (by simp only [iY, ho, lW, oH, iW H hy, bM, hv', Option.bind_some])
  ·cases e
 ·rename_i st y f ho
  obtain ⟨v, hy, e⟩ := gP e
  obtain ⟨v', hv', e⟩ := KY e
  exact jU e H (by simp only [iY, ho, yE, oH, iW H hy, bM, hv', Option.bind_some])
 ·rename_i t y ix ho
  split at e
  ·rename_i id off hy
   obtain ⟨vi, hi, e⟩ := gP e
   obtain ⟨kd, i, rfl, e⟩ := rU e
   split at e
   ·rename_i len el hu
    split at e
    ·rename_i n hn
     cases i with
     | negSucc i => cases e
     | ofNat i =>
      obtain ⟨hb, e⟩ := iJ (show bU (Nat.ble (Nat.succ i) len) _ none = some q from e)
      rw [dM] at e
      refine OV e H ?_
      have hb' : Nat.blt i len = true := hb
      simp only [iY, ho, lX, CR, IB H hy, iW H hi, Option.bind_some, bM, nM, xC, hu, addrOf, hb', aIQ, hn, TJ, Nat.add_eq, Nat.mul_eq]
    ·cases e
   ·cases e
  ·rename_i v hy
   obtain ⟨vi, hi, e⟩ := gP e
   obtain ⟨kd, i, rfl, e⟩ := rU e
   obtain ⟨v', hv', e⟩ := TG (kd := kd) e
   exact jU e H (by simp only [iY, ho, lX, CR, iW H hy, iW H hi, bM, hv', Option.bind_some])
  ·cases e
 ·rename_i t y ix ho
  obtain ⟨v, hy, e⟩ := gP e
  obtain ⟨vi, hi, e⟩ := gP e
  obtain ⟨v', hv', e⟩ := fG e
  exact jU (gW e) H (by simp only [iY, ho, yF, CR, iW H hy, iW H hi, bM, hv', Option.bind_some])
 ·rename_i t y ix c ho
  obtain ⟨v, hy, e⟩ := gP e
  obtain ⟨vi, hi, e⟩ := gP e
  obtain ⟨v', hv', e⟩ := fG e
  exact jU (gW e) H (by simp only [iY, ho, tY, CR, iW H hy, iW H hi, bM, YN hsub hv', Option.bind_some])
 ·rename_i t i ho
  obtain ⟨v, hy, e⟩ := gP e
  obtain ⟨v', hv', e⟩ := SK e
  refine jU (gW e) H ?_
  unfold aF8 at hv'
  split at hv'
  ·rw [OL] at hv'
   simp only [iY, ho, qR, oH, iW H hy, Option.bind_some, bM]
   rw [show _[i]? = some v' from by rw [← hv']; simp]; rfl
  ·cases hv'
 ·rename_i c ho
  split at e
  ·rename_i f hc
   obtain ⟨l, e, _, hl⟩ := uY e
   obtain ⟨v, hv, e⟩ := fG e
   obtain ⟨tm', x', h1, h2, h3⟩ := tO (w := v) (gW e) H rfl
   refine ⟨v, { s with tm := tm' }, x', .inr ⟨f, l.toArray, ?_, hpf f l v hv s.h hsub⟩, h1, rfl, ⟨β, h2⟩, h3⟩
   simp only [iY, ho, mV, hc, rC, nR, jI, hl H, Option.bind_some]
   simp
  ·rename_i b hc
   have bi : ∀ {b : Builtin} {l : List Value}, c.callee = .builtin b → (∀ v h', iI C.P h o.type b c.argTypes l = some (.val v h') → h' = h ∧ iI C.P s.h o.type b c.argTypes l = some (.val v s.h)) → lC (jI s.tm) c.args.toList = some l →
     uW C.P h b c.argTypes l (fun v _ => zQ nt o.dst (.val v) x k) = some q → Done C rd nt h n0 o s k q := by
    intro b l hcb hh hl e
    obtain ⟨v, h', h1, h2⟩ := K3 (ty := o.type) e
    obtain ⟨_, h3⟩ := hh v h' h1
    exact jU h2 H (by simp only [iY, ho, mV, hcb, hl, Option.bind_some, h3])
   split at e
   ·obtain ⟨l, e, _, hl⟩ := uY e
    refine bi hc (fun v h' h1 => ?_) (hl H) e
    obtain ⟨u, hu, h2⟩ := jD (show bM h (fT C.P h c.argTypes l.toArray) = some (.val v h') from h1)
    cases h2
    exact ⟨rfl, by show bM s.h (fT C.P s.h c.argTypes l.toArray) = _; rw [aJJ hsub hu]; rfl⟩
   ·obtain ⟨l, e, _, hl⟩ := uY e
    refine bi hc (fun v h' h1 => ?_) (hl H) e
    obtain ⟨hp, h1⟩ := aP (show ok? (l.all plain) (bM h _) = some (.val v h') from h1)
    obtain ⟨u, hu, h2⟩ := jD h1
    cases h2
    exact ⟨rfl, by show ok? (l.all plain) (bM s.h _) = _; rw [hp, hu]; rfl⟩
   ·obtain ⟨l, e, _, hl⟩ := uY e
    refine bi hc (fun v h' h1 => ?_) (hl H) e
    obtain ⟨hp, h1⟩ := aP (show ok? (l.all plain) (bM h _) = some (.val v h') from h1)
    obtain ⟨u, hu, h2⟩ := jD h1
    cases h2
    exact ⟨rfl, by show ok? (l.all plain) (bM s.h _) = _; rw [hp, hu]; rfl⟩
   ·cases e
  ·cases e
 ·cases e
end
end
end Go.bI
/-
  Regions and whole functions of that sort.
-/
namespace Go.bI
noncomputable section
section
variable (E : Env) (pf : FuncId → List Value → Hp → Option Value) (nt : Nat) (h : Hp)
def JQ (ops : Array Oper) : List Oper → KP → KP
 | [], k => k
 | o :: rest, k => fun x =>
  match o.guard with
  | none => opP E pf nt h o x (JQ ops rest k)
  | some (j, want) => match (ops[j]?).bind (·.dst) with
   | none => none
   | some d => match zK d x.r with
    | some (.val gv) => onG gv
      (match want with
      | true => opP E pf nt h o ⟨(d, .val (.bool true)) :: x.r, x.l⟩ (JQ ops rest k)
      | false => zQ nt o.dst (.val undef) ⟨(d, .val (.bool true)) :: x.r, x.l⟩ (JQ ops rest k))
      (match want with
      | false => opP E pf nt h o ⟨(d, .val (.bool false)) :: x.r, x.l⟩ (JQ ops rest k)
      | true => zQ nt o.dst (.val undef) ⟨(d, .val (.bool false)) :: x.r, x.l⟩ (JQ ops rest k))
      (zQ nt o.dst (.val undef) x (JQ ops rest k))
    | _ => none
def oN (l : List Oper) (ops : Array Oper) (d : Bool) (k : KP) : KP :=
 match d with
 | false => JQ E pf nt h ops l k
 | true => match RQ ops with
  | true => JQ E pf nt h ops l k
  | false => fun _ => none
end
section
variable {C : dP} {pf : FuncId → List Value → Hp → Option Value} {rd : Option Nat} {nt : Nat} {h : Hp} {n0 : Nat}
theorem uX.same {β : Nat → Nat} {x : FZ} {s : S} (H : uX h n0 β x s) {d : Nat} {v : Value} (hv : zK d x.r = some (.val v)) : uX h n0 β ⟨(d, .val v) :: x.r, x.l⟩ s := by
 refine ⟨H.sub, H.old, H.low, H.ro, H.loc, H.inj, ?_, ?_, H.df⟩
 ·intro n u hu
  rw [dS] at hu
  split at hu
  ·rename_i hd; subst hd; cases hu; exact H.reg _ _ hv
  ·exact H.reg n u hu
 ·intro n id off hu
  rw [dS] at hu
  split at hu
  ·cases hu
  ·exact H.ptr n id off hu
theorem V8 (hE : C.P.Ok) (hpf : aQG C pf h) {ops : Array Oper} (self : Self) : ∀ (l : List Oper) {x : FZ} {k : KP} {q : Value} {s : S}, RP h n0 x s → JQ C.P pf nt h ops l k x = some q →
  ∃ s' x', opsV C self rd nt ops l s = some (.code .normal s') ∧ RP h n0 x' s' ∧ k x' = some q
 | [], x, k, q, s, hs, e => ⟨s, x, rfl, hs, e⟩
 | o :: rest, x, k, q, s, hs, e => by
  obtain ⟨β, H⟩ := hs
  have fin : (∃ s' x', jP C self rd nt ops o s = some (.code .normal s') ∧ RP h n0 x' s' ∧ JQ C.P pf nt h ops rest k x' = some q) →
    ∃ s' x', opsV C self rd nt ops (o :: rest) s = some (.code .normal s') ∧ RP h n0 x' s' ∧ k x' = some q := by
   rintro ⟨s', x', h1, h2, h3⟩
   obtain ⟨s2, x2, g1, g2, g3⟩ := V8 hE hpf self rest h2 h3
   exact ⟨s2, x2, by unfold opsV; rw [h1]; exact g1, g2, g3⟩
  have not : ∀ {x' : FZ}, uX h n0 β x' s → bZ ops s.tm o = false → zQ nt o.dst (.val undef) x' (JQ C.P pf nt h ops rest k) = some q →
    ∃ s' x', jP C self rd nt ops o s = some (.code .normal s') ∧ RP h n0 x' s' ∧ JQ C.P pf nt h ops rest k x' = some q := by
   intro x' hr hw hf
   obtain ⟨tm', x2, h1, h2, h3⟩ := tO (w := undef) hf hr rfl
   refine ⟨{ s with tm := tm' }, x2, ?_, ⟨β, h2⟩, h3⟩
   unfold jP
   rw [hw]
   simp only [h1, Option.bind_some]
  unfold JQ at e
  split at e
  ·rename_i hg
   exact fin ((aB2 hE hpf e H).run self (by simp only [bZ, hg]))
  ·rename_i j want hg
   split at e
   ·cases e
   ·rename_i d hd
    split at e
    ·rename_i gv hgv
     have hget := H.reg d gv hgv
     have hw : bZ ops s.tm o = aIJ gv want := by
      simp only [bZ, hg, hd, Option.bind_some, hget]
      cases gv <;> rfl
     have H' := H.same hgv
     rcases NU e with ⟨rfl, e⟩ | ⟨rfl, e⟩ | ⟨hn, e⟩
     ·cases want with
      | true => exact fin ((aB2 hE hpf e H').run self (by rw [hw]; rfl))
      | false => exact fin (not H' (by rw [hw]; rfl) e)
     ·cases want with
      | false => exact fin ((aB2 hE hpf e H').run self (by rw [hw]; rfl))
      | true => exact fin (not H' (by rw [hw]; rfl) e)
     ·exact fin (not H (by rw [hw]; cases gv <;> first | rfl | exact absurd rfl (hn _)) e)
    ·cases e
theorem RP.tm {x : FZ} {s : S} (H : RP h n0 x s) {tm : T Value} (he : ∀ n, tm.get n = s.tm.get n) : RP h n0 x { s with tm := tm } := by
 obtain ⟨β, H⟩ := H
 exact ⟨β, H.sub, H.old, H.low, H.ro, H.loc, H.inj, fun n v hv => by rw [he]; exact H.reg n v hv, fun n id off hv => by rw [he]; exact H.ptr n id off hv, H.df⟩
theorem aQH (hE : C.P.Ok) (hpf : aQG C pf h) (hto : zY C C) : G.GU (RP h n0) C rd nt (oN C.P pf nt h) := by
 intro id ops d kn x q e s hs
 unfold oN at e
 cases d with
 | false =>
  obtain ⟨s', x', h1, h2, h3⟩ := V8 (rd := rd) hE hpf (run C 0) ops.toList hs e
  exact ⟨s', x', .aY ⟨0, h1⟩, h2, h3⟩
 | true =>
  simp only at e
  cases hc : RQ ops with
  | true =>
   rw [hc] at e
   obtain ⟨s', x', h1, h2, h3⟩ := V8 (rd := rd) hE hpf (run C 0) ops.toList hs e
   rw [← List.take_append_drop (gD ops) ops.toList] at h1
   obtain ⟨s1, h01, h1⟩ := z8 _ _ h1
   obtain ⟨pW, h4, h5⟩ := NC (self := run C 0) rfl hto (fun _ => rfl) hc h01 h1
   exact ⟨_, x', .aY ⟨0, h4⟩, h2.tm h5, h3⟩
  | false => rw [hc] at e; cases e
end
def aB3 (E : Env) (x : FZ) : List ResultVar → (List Value → Option Value) → Option Value
 | [], k => k []
 | .tmp t :: l, k => match zK t x.r with
  | some (.val v) => aB3 E x l fun vs => k (v :: vs)
  | _ => none
 | .cell a t :: l, k => match zK a x.r with
  | some (.loc id off) => (match zK id x.l with
   | some c => match I4 E t with
    | some true => match gT E t with | some n => zJ c off fun c => xL c n fun w => aB3 E x l fun vs => k (.agg (Array.mk w) :: vs) | none => none
    | some false => BB c off fun v => aB3 E x l fun vs => k (v :: vs)
    | none => none
   | none => none)
  | _ => none
def pO (E : Env) (rs : List ResultVar) : KP := fun x => aB3 E x rs fun vs => some (uL vs)
def bBJ (E : Env) (rs : List ResultVar) (s : S) (q : Value) : Prop := s.df = [] ∧ ∃ vs, iV E s.tm s.h rs = some vs ∧ q = uL vs
theorem MS {E : Env} {h : Hp} {n0 : Nat} {β : Nat → Nat} {x : FZ} {s : S} (H : uX h n0 β x s) {q : Value} : ∀ (l : List ResultVar) {k : List Value → Option Value}, aB3 E x l k = some q → ∃ vs, iV E s.tm s.h l = some vs ∧ k vs = some q
 | [], k, e => ⟨[], rfl, e⟩
 | .tmp t :: l, k, e => by
  unfold aB3 at e
  split at e
  ·rename_i v hv
   obtain ⟨vs, h1, h2⟩ := MS H l e
   exact ⟨v :: vs, by simp only [iV, h1, H.reg t v hv, Option.bind_some, Option.getD_some], h2⟩
  ·cases e
 | .cell a t :: l, k, e => by
  unfold aB3 at e
  split at e
  ·rename_i id off ha
   split at e
   ·rename_i c hc
    obtain ⟨_, _, ty, hg⟩ := H.loc id c hc
    have hp := H.ptr a id off ha
    split at e
    ·rename_i hagg
     split at e
     ·rename_i n hn
      rw [xK] at e
      obtain ⟨hl, e⟩ := uQ _ _ _ e
      obtain ⟨vs, h1, h2⟩ := MS H l e
      have : oJ E s.h t (.pointer (some ⟨β id, off, none⟩)) = some (.agg (Array.mk ((c.drop off).take n))) := by
       simp only [oJ, addrOf, Option.bind_some, hagg, hn, eY, hg]
       rw [show Nat.beq ((c.drop off).take n).length n = true from by rw [beq_eq, hl]; simp]
       rfl
      exact ⟨_ :: vs, by simp only [iV, h1, hp, Option.getD_some, this, Option.bind_some], h2⟩
     ·cases e
    ·rename_i hagg
     rw [yT] at e
     obtain ⟨v, hv, e⟩ := aA e
     obtain ⟨vs, h1, h2⟩ := MS H l e
     have : oJ E s.h t (.pointer (some ⟨β id, off, none⟩)) = some v := by
      refine OM hagg ?_
      unfold Hp.get at hg
      simp only [j6, hg, hv]
     exact ⟨v :: vs, by simp only [iV, h1, hp, Option.getD_some, this, Option.bind_some], h2⟩
    ·cases e
   ·cases e
  ·cases e
def Same (w w' : World) : Prop := (∀ (b : Nat) (o : Obj), w.heap[b]? = some o → w'.heap[b]? = some o) ∧ w.heap.size ≤ w'.heap.size ∧ w'.os = w.os ∧ w'.tape = w.tape ∧ w'.output = w.output
theorem Same.step {base : Nat} {ρ : Ren} {h : Hp} {w w' : World} (H : dW base ρ h w) (s : Same w w') : Step base ρ h w ρ h w' := by
 obtain ⟨hk, hsz, h1, h2, h3⟩ := s
 refine ⟨Ext.refl ρ, ⟨?_, H.inj, fun i im hi => ⟨(H.dom i im hi).1, Nat.lt_of_lt_of_le (H.dom i im hi).2 hsz⟩, H.jY, H.mH⟩, fun b o hb _ => hk b o hb, fun _ _ e => .inl e, fun _ o _ e => ⟨o, e⟩, hsz, rfl, Nat.le_refl _, h1, h2, h3⟩
 intro i o hi
 obtain ⟨im, O, k1, k2, k3⟩ := H.obj i o hi
 exact ⟨im, O, k1, hk _ _ k2, k3⟩
def fV (P : Program) (f : FuncId) (F : List Value → Hp → Option Value) : Prop :=
 ∀ args h v, F args h = some v → plain v = true ∧ Enters P f ∧ ∀ base ρ h2 w (args' : Array Value) m, dW base ρ h2 w → Sub h h2 → eO ρ args args'.toList →
  CallsIn Fence.wide m P f args' w (fun e w' => e = .returned v ∧ Same w w')
abbrev PF := FuncId → List Value → Hp → Option Value
def eF (P : Program) (pf : PF) : Prop := ∀ f, fV P f (pf f)
def pfN : PF := fun _ _ _ => none
def EI (f : FuncId) (F : List Value → Hp → Option Value) (pf : PF) : PF := fun g l h => cond (Nat.beq f g) (F l h) (pf g l h)
theorem aU1 (P : Program) : eF P pfN := fun _ _ _ _ e => (by cases e)
theorem iN {P : Program} {f : FuncId} {F : List Value → Hp → Option Value} {pf : PF} (h1 : fV P f F) (h2 : eF P pf) : eF P (EI f F pf) := by
 intro g args h v e
 unfold EI at e
 cases hb : Nat.beq f g with
 | true => rw [hb] at e; obtain rfl := Nat.eq_of_beq_eq_true hb; exact h1 args h v e
 | false => rw [hb] at e; exact h2 g args h v e
open Classical in
def vH (C : dP) (pf : PF) (h : Hp) : dP := { C with iT := fun g args h2 => match pf g args.toList h with | some v => if Sub h h2 then some (v, h2) else none | none => none }
theorem aQI {C : dP} {pf : PF} {h : Hp} : zY (vH C pf h) (vH C pf h) := by
 intro f args h2 v h' e
 simp only [vH] at e
 split at e
 ·rename_i u hu
  split at e
  ·rename_i hs
   cases e
   refine ⟨rfl, .inr ?_⟩
   simp only [vH, hu]
   rw [if_pos (show Sub h ⟨h2.next, h2.next, h2.aC⟩ from hs)]
  ·cases e
 ·cases e
theorem aQJ {C : dP} (hC : C.Ok) {pf : PF} (hpf : eF C.P.P pf) (h : Hp) : (vH C pf h).Ok := by
 refine ⟨hC.env, hC.fn, ?_, hC.mixed⟩
 intro g args h2 v h' e
 simp only [vH] at e
 split at e
 ·rename_i u hu
  split at e
  ·rename_i hs
   cases e
   obtain ⟨p1, p2, p3⟩ := hpf g args.toList h v hu
   refine ⟨p2, fun base ρ w args' m H hl => ?_⟩
   refine (p3 base ρ h2 w args' m H hs hl).mono ?_
   rintro en w' ⟨rfl, hsame⟩
   exact ⟨v, ρ, rfl, hsame.step H, fH ρ p1⟩
  ·cases e
 ·cases e
theorem aQK {C : dP} {pf : PF} {h : Hp} : aQG (vH C pf h) pf h := by
 intro f l v e h2 hs
 simp only [vH, e]
 rw [if_pos hs]
def dU : List Kd → List Value → (aD → Option Value) → Option Value
 | [], [], k => k .n
 | .i kd :: ks, v :: vs, k => aS kd v fun x => dU ks vs fun al => k (.i x al)
 | .b :: ks, v :: vs, k => dH v fun x => dU ks vs fun al => k (.b x al)
 | .v :: ks, v :: vs, k => dU ks vs fun al => k (.v v al)
 | _, _, _ => none
def JR : Nat → List Kd → List KI
 | _, [] => []
 | i, k :: ks => .reg i k :: JR (i + 1) ks
theorem rE {q : Value} : ∀ {ks : List Kd} {vs : List Value} {k : aD → Option Value} (i : Nat), dU ks vs k = some q → ∃ al x, dD (JR i ks) al = some x ∧ k al = some q ∧ x.l = [] ∧ vs.length = ks.length ∧
   (∀ n id off, zK n x.r ≠ some (.loc id off)) ∧ ∀ n v, zK n x.r = some (.val v) → i ≤ n ∧ vs[n - i]? = some v
 | [], [], k, i, e => ⟨.n, ⟨[], []⟩, rfl, e, rfl, rfl, (fun n id off h => by cases h), (fun n v h => by cases h)⟩
 | .i kd :: ks, v :: vs, k, i, e => by
  obtain ⟨a, rfl, e2⟩ := bF e
  obtain ⟨al, x, h1, h2, h3, h4, h5, h6⟩ := rE (i + 1) e2
  refine ⟨_, ⟨(i, .val (.int kd a)) :: x.r, x.l⟩, by simp only [JR, dD, h1], h2, h3, by simp [h4], ?_, ?_⟩
  ·intro n id off h
   rw [dS] at h
   split at h
   ·cases h
   ·exact h5 n id off h
  ·intro n v h
   rw [dS] at h
   split at h
   ·rename_i hn; subst hn; cases h; simp
   ·obtain ⟨g1, g2⟩ := h6 n v h
    refine ⟨by omega, ?_⟩
    obtain ⟨m, hm⟩ : ∃ m, n - i = m + 1 := ⟨n - i - 1, by omega⟩
    have : n - (i + 1) = m := by omega
    rw [hm]; rw [this] at g2; simpa using g2
 | .b :: ks, v :: vs, k, i, e => by
  obtain ⟨a, rfl, e2⟩ := lG e
  obtain ⟨al, x, h1, h2, h3, h4, h5, h6⟩ := rE (i + 1) e2
  refine ⟨_, ⟨(i, .val (.bool a)) :: x.r, x.l⟩, by simp only [JR, dD, h1], h2, h3, by simp [h4], ?_, ?_⟩
  ·intro n id off h
   rw [dS] at h
   split at h
   ·cases h
   ·exact h5 n id off h
  ·intro n v h
   rw [dS] at h
   split at h
   ·rename_i hn; subst hn; cases h; simp
   ·obtain ⟨g1, g2⟩ := h6 n v h
    refine ⟨by omega, ?_⟩
    obtain ⟨m, hm⟩ : ∃ m, n - i = m + 1 := ⟨n - i - 1, by omega⟩
    have : n - (i + 1) = m := by omega
    rw [hm]; rw [this] at g2; simpa using g2
 | .v :: ks, u :: vs, k, i, e => by
  obtain ⟨al, x, h1, h2, h3, h4, h5, h6⟩ := rE (ks := ks) (i + 1) e
  refine ⟨_, ⟨(i, .val u) :: x.r, x.l⟩, by simp only [JR, dD, h1], h2, h3, by simp [h4], ?_, ?_⟩
  ·intro n id off h
   rw [dS] at h
   split at h
   ·cases h
   ·exact h5 n id off h
  ·intro n v h
   rw [dS] at h
   split at h
   ·rename_i hn; subst hn; cases h; simp
   ·obtain ⟨g1, g2⟩ := h6 n v h
    refine ⟨by omega, ?_⟩
    obtain ⟨m, hm⟩ : ∃ m, n - i = m + 1 := ⟨n - i - 1, by omega⟩
    have : n - (i + 1) = m := by omega
    rw [hm]; rw [this] at g2; simpa using g2
 | [], _ :: _, k, i, e => by cases e
 | .i _ :: _, [], k, i, e => by cases e
 | .b :: _, [], k, i, e => by cases e
 | .v :: _, [], k, i, e => by cases e
def plainO (x : Option Value) : Option Value := bR x fun v => bU (lD v) (some v) none
theorem dK {C : dP} (hC : C.Ok) {pf : PF} (hpf : eF C.P.P pf) {f : FuncId} {fn : Func} {body : Code} {kinds : List Kd} {A : G.eU (List KI)} {T : Hp → (Nat → aD → Option Value) → (Nat → aD → Option Value)}
  (hf : C.fn f = some fn) (hb : fn.body = some body) (hcut : A.cut = some (0, JR 0 kinds)) (hd : G.distinct ((G.collect body A []).map (·.l)) = true)
  (hT : ∀ h σ l al q, T h σ l al = some q → G.aX iD dD oG (oN C.P pf (kinds.length + (fn.ntmps - kinds.length)) h) (pO C.P fn.results.toList) (G.collect body A []) l σ al = some q)
  {n : Nat} : fV C.P.P f (fun args h => plainO (dU kinds args fun al => G.aN (T h) n 0 al)) := by
 intro args h v e
 obtain ⟨u, hu, e⟩ := fG e
 obtain ⟨hp, e⟩ := iJ e
 cases e
 rw [pV] at hp
 obtain ⟨al, x, h1, h2, h3, h4, h5, h6⟩ := rE 0 hu
 have hCp := aQJ hC hpf h
 have key : ∀ h2 : Hp, (∀ i o, h2.get i = some o → i < h2.next) → Sub h h2 → ∃ h3, eG (vH C pf h) (.call f args.toArray { h2 with ro := h2.next }) (.ret v h3) := by
  intro hh hwf hs
  have all := G.nU (unpack := dD) (Rel := RP h hh.next) (C := vH C pf h) (rd := none) (Fin := bBJ C.P fn.results.toList) RP.pack aDZ (aQH (C := vH C pf h) hC.env aQK aQI) (fin := pO C.P fn.results.toList)
   (by
    intro x q e s hs
    obtain ⟨β, H⟩ := hs
    obtain ⟨vs, g1, g2⟩ := MS H _ e
    cases g2
    exact ⟨H.df, vs, g1, rfl⟩) body A hd (T h) (hT h) n
  have h0 := all _ (G.fA hcut) al x v h2 h1
  have hr : RP h hh.next x { tm := jK args 0 .nil, df := [], h := { hh with ro := hh.next } } := by
   refine ⟨fun _ => 0, ?_, ?_, Nat.le_refl _, Nat.le_refl _, ?_, ?_, ?_, ?_, rfl⟩
   ·exact fun i o hi => hs i o hi
   ·exact fun i o hi => hwf i o (hs i o hi)
   ·intro id c hc; rw [h3] at hc; cases hc
   ·intro a b ca cb ha; rw [h3] at ha; cases ha
   ·intro m w hw
    obtain ⟨_, g2⟩ := h6 m w hw
    show (jK args 0 .nil).get m = _
    rw [JF]
    simp only [Nat.not_lt_zero, if_false, g2]
   ·intro m id off hw; exact absurd hw (h5 m id off)
  obtain ⟨ex, s', ⟨k, hk⟩, hun⟩ := h0 _ hr
  have hcall : dZ (vH C pf h) (run (vH C pf h) k) (.call f args.toArray { hh with ro := hh.next }) = (match R.code ex s' with
   | .code .normal s => jS (vH C pf h) (run (vH C pf h) k) fn s.tm s.df .returning s.h
   | .code .ret s => jS (vH C pf h) (run (vH C pf h) k) fn s.tm s.df .returning s.h
   | .code (.panic v) s => jS (vH C pf h) (run (vH C pf h) k) fn s.tm s.df (.panicking v false) s.h
   | _ => none) := by
   simp only [dZ]
   rw [show (vH C pf h).fn f = some fn from hf]
   simp only [hb, Option.bind_some, List.size_toArray, h4]
   rw [hk]
   rfl
  refine ⟨s'.h, .aY ⟨k, ?_⟩⟩
  rw [hcall]
  cases ex with
  | normal =>
   obtain ⟨g1, vs, g2, g3⟩ := hun
   rw [g3]
   simp only [g1, jS]
   rw [show (vH C pf h).P = C.P from rfl, g2]
   rfl
  | ret =>
   obtain ⟨g1, vs, g2, g3⟩ := hun
   rw [g3]
   simp only [g1, jS]
   rw [show (vH C pf h).P = C.P from rfl, g2]
   rfl
  | exit i => exact absurd hun (by simp [G.oU])
  | panic w => exact absurd hun (by simp [G.oU])
 have ent : Enters C.P.P f := (hC.fn f fn hf).2
 refine ⟨hp, ent, ?_⟩
 intro base ρ hh w args' m H hs hl
 obtain ⟨h3, k, hr⟩ := key hh (fun i o hi => H.lt hi) hs
 obtain ⟨_, g2⟩ := (tX hCp k).call f args.toArray _ _ hr
 refine (g2 base ρ w args' m H.quiet (by simpa using hl)).mono ?_
 rintro en w' ⟨v', ρ', rfl, hst, hv⟩
 obtain rfl := iX hv hp
 exact ⟨rfl, fun b o hb => hst.keep b o hb (Wr.quiet H), hst.size, hst.os, hst.tape, hst.output⟩
def oO (f : FuncId) (F : List Value → Hp → Option Value) (iT : FuncId → Array Value → Hp → Option (Value × Hp)) : FuncId → Array Value → Hp → Option (Value × Hp) :=
 fun g args h => cond (Nat.beq f g) (bR (F args.toList h) fun v => some (v, h)) (iT g args h)
theorem fQ {C : dP} (hC : C.Ok) {f : FuncId} {F : List Value → Hp → Option Value} (hF : fV C.P.P f F) : dP.Ok { C with iT := oO f F C.iT } := by
 refine ⟨hC.env, hC.fn, ?_, hC.mixed⟩
 intro g args h v h' e
 simp only [oO] at e
 cases hb : Nat.beq f g with
 | false => rw [hb] at e; exact hC.iT g args h v h' e
 | true =>
  rw [hb] at e
  obtain rfl := Nat.eq_of_beq_eq_true hb
  obtain ⟨u, hu, e⟩ := fG (show bR (F args.toList h) _ = some (v, h') from e)
  cases e
  obtain ⟨p1, p2, p3⟩ := hF _ _ _ hu
  refine ⟨p2, fun base ρ w args' m H hl => ?_⟩
  refine (p3 base ρ h w args' m H (fun i o hi => hi) hl).mono ?_
  rintro en w' ⟨rfl, hsame⟩
  exact ⟨v, ρ, rfl, hsame.step H, fH ρ p1⟩
end
end Go.bI
/-
  Regions that draw, told as they are drawn: what stands before the tail is done beside what it waits for alone.
-/
namespace Go.bI
noncomputable section
def vP (os : List (List (Nat × bY))) : List Nat → T bY → T bY
 | [], t => t
 | j :: js, t => vP os js (aG ((os[j]?).getD []) t)
def eP (v : Value) (n : Nat) (h : Hp) (k : List (Nat × bY) → Nat → aF) : aF :=
 bU (lD v) (k [] n) (bU (Nat.ble n h.next) (k (fZ h n (Nat.sub h.next n)) h.next) none)
def uG (o : Oper) : Bool := match o.op with | .store .. => false | _ => true
def GQ (o : Oper) : Bool := match o.op with | .store .. => o.guard.isNone && o.dst.isNone | _ => false
def EG (ops : Array Oper) : Bool :=
 mF ops && o6 ops (masks ops.toList []) && (List.range (gD ops)).all fun i => match ops[i]? with | some o => (uG o && o.dst.isSome) || GQ o | none => false
def fI (l : List (Nat × bY)) (b : Nat) : Bool := l.any fun x => Nat.beq x.1 b
def aSL (ops : Array Oper) (ms : List Nat) (w : Nat) : List Nat :=
 (List.range w).filter fun d => waits ms w d && (List.range ops.size).all fun k => Nat.beq k w || !(waits ms k d) || waits ms k w || waits ms w k
def aA7 (os : List (List (Nat × bY))) (cs : List Nat) (b : Nat) : Bool := cs.any fun d => fI ((os[d]?).getD []) b
theorem aF3 {ops : Array Oper} {ms : List Nat} {ls : List Left} {w b : Nat} (h : aA7 (ls.map (·.own)) (aSL ops ms w) b = true) : vN ops ms ls w b = true := by
 unfold aA7 at h
 rw [List.any_eq_true] at h
 obtain ⟨d, hd, hb⟩ := h
 obtain ⟨h1, h2⟩ := List.mem_filter.1 hd
 unfold vN
 rw [List.any_eq_true]
 refine ⟨d, h1, ?_⟩
 rw [Bool.and_eq_true] at h2
 rw [Bool.and_eq_true, Bool.and_eq_true]
 refine ⟨⟨?_, h2.1⟩, h2.2⟩
 rw [List.getElem?_map] at hb
 cases hl : ls[d]? with
 | none => rw [hl] at hb; cases hb
 | some l => rw [hl] at hb; exact hb
def uH (E : Env) (t : TypeId) (vx vy : Value) (n nx : Nat) (aC : T bY) (chk : Nat → Bool) (k : List (Nat × bY) → aF) : aF :=
 match addrOf vx with
 | none => none
 | some a => bU (chk a.block) (bR (mW E ⟨n, nx, aC⟩ t vx vy) fun h => bU (Nat.beq h.next n) (bR (h.get a.block) fun b => k [(a.block, b)]) none) none
section
variable (E : Env) (iT : FuncId → Array Value → Hp → Option (Value × Hp)) (nt : Nat) (ms : List Nat) (ops : Array Oper)
def sS (nx : Nat) (hO : T bY) (k : iQ → List (List (Nat × bY)) → Nat → aF) : List Nat → List (List (Nat × bY)) → Nat → iQ → aF
 | [], os, n, r => k r os n
 | i :: is, os, n, r =>
  match ops[i]? with
  | none => none
  | some o => match o.op with
    | .store t x y => (match o.guard, o.dst with
   | none, none => vQ (uJ r x) fun vx => vQ (uJ r y) fun vy => uH E t vx vy n nx (vP os (waitsFor ms i) hO) (fun b => aA7 os (aSL ops ms i) b) fun own => sS nx hO k is (os ++ [own]) n r
   | _, _ => none)
    | _ => match o.dst with
   | none => none
   | some d => zP E iT nt ops [o] (fun r' h' => match r'.at d with
     | none => none
     | some v => match qU o with
      | true => sS nx hO k is (os ++ [[]]) n r'
      | false => eP v n h' fun own n' => sS nx hO k is (os ++ [own]) n' r') r ⟨n, n, match kQ o with | true => T.nil | false => vP os (waitsFor ms i) hO⟩
def XU (os : List (List (Nat × bY))) (k : KT) : List Nat → List Nat → KT
 | rest, [] => fun r h => k r ⟨h.next, h.ro, vP os rest h.aC⟩
 | rest, j :: ks => fun r h =>
  match ops[j]? with
  | none => none
  | some o => zP E iT nt ops [o] (XU os k (rest.filter (fun x => !(waits ms j x))) ks) r ⟨h.next, h.ro, vP os (rest.filter (waits ms j)) h.aC⟩
def aDQ (k : KT) : KT := fun r h =>
 sS E iT nt (masks ops.toList []) ops h.next h.aC (fun r os n => XU E iT nt (masks ops.toList []) ops os k (List.range (gD ops)) (List.range' (gD ops) (ops.size - gD ops)) r ⟨n, h.ro, h.aC⟩)
  (List.range (gD ops)) [] h.next r
end
section
variable {C : dP} {self : Self} {rd : Option Nat} {nt : Nat} {ops : Array Oper} {s : S} {ls : List Left}
theorem uK : ∀ (js : List Nat) (t : T bY), (∀ j ∈ js, j < ls.length) → gF ls js t = some (vP (ls.map (·.own)) js t)
 | [], t, _ => rfl
 | j :: js, t, hj => by
  unfold gF vP
  have hlt := hj j (by simp)
  rw [List.getElem?_map, List.getElem?_eq_getElem hlt]
  simp only [Option.bind_some, Option.map_some, Option.getD_some]
  exact uK js _ fun k hk => hj k (by simp [hk])
structure aA8 (nt : Nat) (ops : Array Oper) (s : S) (i : Nat) (ls : List Left) (cur : T Value) : Prop where
 len : ls.length = i
 XB : ∀ j, j < i → ∀ x, bJ ops j = some x → x < nt ∧ ∃ l, ls[j]? = some l ∧ cur.get x = some l.v
 out : ∀ x, (∀ j, j < i → bJ ops j ≠ some x) → cur.get x = s.tm.get x
theorem aA9 {i : Nat} {o : Oper} {cur : T Value} (zW : mF ops = true) (hap : o6 ops (masks ops.toList []) = true) (ho : ops[i]? = some o) (hops : ∀ j, j < i → ∃ o, ops[j]? = some o) (I : aA8 nt ops s i ls cur) :
  ∃ LY, sP nt ops ls (waitsFor (masks ops.toList []) i) s.tm = some LY ∧ ∀ x ∈ readsOf ops o, LY.get x = cur.get x := by
 have hw : ∀ j ∈ waitsFor (masks ops.toList []) i, j < ls.length := fun j hj => by have := gV hj; have := I.len; omega
 obtain ⟨LY, hq⟩ := lF (nt := nt) (ls := ls) (ops := ops) (fun j hj => hops j (by have := I.len; omega)) (fun j hj x hx => (I.XB j (by have := I.len; omega) x hx).1) _ s.tm hw
 refine ⟨LY, hq, ?_⟩
 intro x hx
 by_cases hex : ∃ j, j < i ∧ bJ ops j = some x
 ·obtain ⟨j, hj, hd⟩ := hex
  obtain ⟨_, l, hl, uA⟩ := I.XB j hj x hd
  obtain ⟨oj, hoj⟩ := hops j hj
  have wW : oj.dst = some x := by unfold bJ at hd; rw [hoj] at hd; exact hd
  have hwt : waits (masks ops.toList []) i j = true := by
   rcases (iA hap ho hoj wW).2 with h | h | h
   ·exact h
   ·have := kV zW h; omega
   ·exact absurd hx h
  have hmem : j ∈ waitsFor (masks ops.toList []) i := by unfold waitsFor; rw [List.mem_filter]; exact ⟨by simpa using hj, hwt⟩
  have rG : ∀ k ∈ waitsFor (masks ops.toList []) i, bJ ops k = some x → k = j := by
   intro k hk hkd
   have hki := gV hk
   obtain ⟨ok, hok⟩ := hops k hki
   have hkx : ok.dst = some x := by unfold bJ at hkd; rw [hok] at hkd; exact hkd
   rcases (iA hap hok hoj wW).1 with h | h
   ·exact h
   ·exact absurd hkx h
  obtain ⟨l', hl', hg, _⟩ := nD _ hq j hmem hd rG
  rw [hl] at hl'; cases hl'
  rw [hg, uA]
 ·have hno : ∀ j, j < i → bJ ops j ≠ some x := fun j hj h => hex ⟨j, hj, h⟩
  rw [jQ _ hq x (fun j hj => hno j (gV hj)), I.out x hno]
def leftV (v : Value) (n : Nat) (h : Hp) : Option (Left × Nat) :=
 match plain v with
 | true => some ({ v, own := [] }, n)
 | false => ok? (Nat.ble n h.next) (some ({ v, own := fZ h n (h.next - n) }, h.next))
theorem aF4 {ms : List Nat} {n i : Nat} {o : Oper} {cur LY vG : T Value} {h1 : Hp} {d : Nat} {aC : T bY} (ho : ops[i]? = some o) (hns : uG o = true) (hd : o.dst = some d)
  (hq : sP nt ops ls (waitsFor ms i) s.tm = some LY) (hr : ∀ x ∈ readsOf ops o, LY.get x = cur.get x)
  (iM : (kQ o = true ∧ aC = T.nil) ∨ (kQ o = false ∧ gF ls (waitsFor ms i) s.h.aC = some aC))
  (e : jP C self rd nt ops o (st cur ⟨n, n, aC⟩) = some (.code .normal (st vG h1))) :
  ∃ v, iC nt cur (some d) v = some vG ∧ kJ C self nt ops ms s ls n i = leftV v n h1 := by
 unfold jP at e
 have hw := yG hr
 have hst : ∀ t x y, o.op ≠ .store t x y := by
  intro t x y h
  simp [uG, h] at hns
 split at e
 ·rename_i hw2
  replace e := aA e; obtain ⟨tm, h2, e⟩ := e
  rw [hd] at h2
  cases e
  refine ⟨undef, h2, ?_⟩
  unfold kJ
  rw [ho]
  simp only [Option.bind_some, hq]
  rw [hw, show bZ ops cur o = false from hw2]
  rfl
 ·rename_i hw2
  replace e := aA e; obtain ⟨r, hr1, e⟩ := e
  have hr2 : iY C.P (jI LY) o { next := n, ro := n, aC } = some r := by rw [← hr1]; exact CO (tZ hr)
  have bA9 : ∀ (v : Value) (h2 : Hp), r = .val v h2 → kJ C self nt ops ms s ls n i = leftV v n h2 := by
   rintro v h2 rfl
   unfold kJ
   rw [ho]
   simp only [Option.bind_some, hq]
   rw [hw, show bZ ops cur o = true from hw2]
   simp only
   rcases iM with ⟨hi, rfl⟩ | ⟨hi, iM⟩
   ·simp only [hi, Option.bind_some, hr2]; rfl
   ·simp only [hi, iM, Option.bind_some, hr2]; rfl
  have bBA : ∀ (v : Value) (h2 : Hp) (fn : Fn) (args : Array Value), r = .call fn args → nC C self fn args { next := n, ro := n, aC := aC } = some (.ret v h2) → kJ C self nt ops ms s ls n i = leftV v n h2 := by
   rintro v h2 fn args rfl hcall
   unfold kJ
   rw [ho]
   simp only [Option.bind_some, hq]
   rw [hw, show bZ ops cur o = true from hw2]
   simp only
   rcases iM with ⟨hi, rfl⟩ | ⟨hi, iM⟩
   ·simp only [hi, Option.bind_some, hr2, hcall]; rfl
   ·simp only [hi, iM, Option.bind_some, hr2, hcall]; rfl
  cases r with
  | val v0 h0 =>
   simp only at e
   replace e := aA e; obtain ⟨tm, h2, e⟩ := e
   rw [hd] at h2
   cases e
   exact ⟨v0, h2, bA9 v0 h1 rfl⟩
  | pan v => cases e
  | dfr d0 =>
   simp only at e
   split at e
   ·replace e := aA e; obtain ⟨tm, h2, e⟩ := e
    have := congrArg (fun r : Option R => match r with | some (.code _ s) => s.df | _ => []) e
    simp [st] at this
   ·cases e
  | call fn args =>
   simp only at e
   replace e := aA e; obtain ⟨r2, hr3, e⟩ := e
   cases r2 with
   | ret v0 h0 =>
    simp only at e
    replace e := aA e; obtain ⟨tm, h2, e⟩ := e
    rw [hd] at h2
    cases e
    exact ⟨v0, h2, bBA v0 h1 fn args rfl hr3⟩
   | _ => cases e
theorem aF5 {o : Oper} (hc : qU o = true) {s s1 : S} (e : jP C self rd nt ops o s = some (.code .normal s1)) : s1.h = s.h := by
 unfold jP at e
 split at e
 ·replace e := aA e; obtain ⟨tm, _, e⟩ := e
  cases e; rfl
 ·replace e := aA e; obtain ⟨r, hr, e⟩ := e
  obtain ⟨v, rfl, _⟩ := XH hc hr
  simp only at e
  replace e := aA e; obtain ⟨tm, _, e⟩ := e
  cases e; rfl
theorem aBA (v : Value) (n : Nat) {h : Hp} (hn : h.next = n) : leftV v n h = some ({ v, own := [] }, n) := by
 unfold leftV
 cases plain v with
 | true => rfl
 | false =>
  show ok? (Nat.ble n h.next) _ = _
  rw [show Nat.ble n h.next = true from by rw [Nat.ble_eq]; omega, hn, show n - n = 0 by omega]
  rfl
theorem GR {o : Oper} {s s1 : S} (e : opsV C self rd nt ops [o] s = some (.code .normal s1)) : jP C self rd nt ops o s = some (.code .normal s1) := by
 unfold opsV at e
 replace e := aA e; obtain ⟨r, hr, e⟩ := e
 split at e
 ·rw [hr]; exact e
 ·rename_i ex _ hne; cases e; exact (hne rfl).elim
 ·cases e
theorem vR (hE : C.P.Ok) {t : Nat} (zW : mF ops = true) (hap : o6 ops (masks ops.toList []) = true) (ht : t ≤ ops.size) (hop : ∀ i, i < t → ∃ o, ops[i]? = some o ∧ ((uG o = true ∧ ∃ d, o.dst = some d) ∨ GQ o = true)) {k : iQ → List (List (Nat × bY)) → Nat → aF} {q : Value × Hp} :
  ∀ (m i : Nat) (ls : List Left) (cur : T Value) (r : iQ) (n : Nat), i + m = t → aA8 nt ops s i ls cur → RR r cur →
   sS C.P C.iT nt (masks ops.toList []) ops s.h.next s.h.aC k (List.range' i m) (ls.map (·.own)) n r = some q →
   ∃ ls' cur' r' n', jO C self nt ops (masks ops.toList []) s (List.range' i m) ls n = some (ls', n') ∧ aA8 nt ops s t ls' cur' ∧ RR r' cur' ∧ k r' (ls'.map (·.own)) n' = some q
 | 0, i, ls, cur, r, n, him, I, hRR, e => ⟨ls, cur, r, n, rfl, by simpa using him ▸ I, hRR, e⟩
 | m + 1, i, ls, cur, r, n, him, I, hRR, e => by
  obtain ⟨o, ho, hcase⟩ := hop i (by omega)
  have hops : ∀ j, j < i → ∃ o, ops[j]? = some o := fun j hj => by
   obtain ⟨o, h, _⟩ := hop j (by omega)
   exact ⟨o, h⟩
  obtain ⟨LY, hq, hreads⟩ := aA9 zW hap ho hops I
  rw [List.range'_succ] at e ⊢
  rcases hcase with ⟨hns, d, hd⟩ | NT
  case inr =>
   unfold GQ at NT
   split at NT
   case h_2 => cases NT
   rename_i t0 x y aPT
   simp only [Bool.and_eq_true, Option.isNone_iff_eq_none] at NT
   obtain ⟨hg, hdn⟩ := NT
   unfold sS at e
   simp only [ho, aPT, hg, hdn] at e
   obtain ⟨vx, hvx, e⟩ := cO e
   obtain ⟨vy, hvy, e⟩ := cO e
   unfold uH at e
   split at e
   ·cases e
   rename_i a ha
   obtain ⟨hown, e⟩ := iJ (show bU _ _ none = some q from e)
   obtain ⟨h2, hst, e⟩ := fG e
   obtain ⟨hnx, e⟩ := iJ (show bU _ _ none = some q from e)
   obtain ⟨b, hb, e⟩ := fG e
   have hx := dX hRR hvx
   have hy := dX hRR hvy
   have hx' : jI LY x = some vx := by rw [← hx]; exact tZ hreads x (by rw [aPT]; simp [Op.operands])
   have hy' : jI LY y = some vy := by rw [← hy]; exact tZ hreads y (by rw [aPT]; simp [Op.operands])
   have iM := uK (ls := ls) (waitsFor (masks ops.toList []) i) s.h.aC (fun j hj => by have := gV hj; have := I.len; omega)
   have hquiet : kJ C self nt ops (masks ops.toList []) s ls n i = some ({ v := undef, own := [(a.block, b)] }, n) := by
    unfold kJ
    rw [ho]
    simp only [Option.bind_some, hq]
    rw [show bZ ops LY o = true from by simp only [bZ, hg]]
    simp only [aPT, iM, Option.bind_some, hx', ha, aF3 hown, XG, hy', hst, hnx, hb, Option.map_some]
   have hmap : ls.map (·.own) ++ [[(a.block, b)]] = (ls ++ [({ v := undef, own := [(a.block, b)] } : Left)]).map (·.own) := by simp
   simp only at e
   rw [hmap] at e
   have hno : bJ ops i = none := by unfold bJ; rw [ho]; exact hdn
   have I' : aA8 nt ops s (i + 1) (ls ++ [({ v := undef, own := [(a.block, b)] } : Left)]) cur := by
    refine ⟨by simp [I.len], ?_, ?_⟩
    ·intro j hj x hx
     have hji : j ≠ i := by rintro rfl; rw [hno] at hx; cases hx
     obtain ⟨g1, l, g2, g3⟩ := I.XB j (by omega) x hx
     exact ⟨g1, l, by rw [List.getElem?_append_left (by have := I.len; omega)]; exact g2, g3⟩
    ·intro x hx
     exact I.out x fun j hj => hx j (by omega)
   obtain ⟨ls', cur', r', n2, k1, k2, k3, k4⟩ := vR hE zW hap ht hop m (i + 1) _ _ _ _ (by omega) I' hRR e
   refine ⟨ls', cur', r', n2, ?_, k2, k3, k4⟩
   unfold jO
   rw [hquiet]
   exact k1
  unfold sS at e
  have hcut : ∀ (F : TypeId → Operand → Operand → aF) (G : aF), (match o.op with | .store t x y => F t x y | _ => G) = G := by
   intro F G
   split
   ·rename_i h; simp [uG, h] at hns
   ·rfl
  simp only [ho] at e
  rw [hcut] at e
  simp only [hd] at e
  obtain ⟨vG, h1, r1, he1, hr1, hk⟩ := yS hE (rd := none) self [o] hRR e
  have iM : ∀ aC, aC = (match kQ o with | true => T.nil | false => vP (ls.map (·.own)) (waitsFor (masks ops.toList []) i) s.h.aC) → (kQ o = true ∧ aC = T.nil) ∨ (kQ o = false ∧ gF ls (waitsFor (masks ops.toList []) i) s.h.aC = some aC) := by
   rintro aC rfl
   cases kQ o with
   | true => exact .inl ⟨rfl, rfl⟩
   | false => exact .inr ⟨rfl, uK _ _ (fun j hj => by have := gV hj; have := I.len; omega)⟩
  obtain ⟨v, hput, hquiet⟩ := aF4 (s := s) ho hns hd hq hreads (iM _ rfl) (GR he1)
  obtain ⟨hget, bBB⟩ := jJ hput
  split at hk
  ·cases hk
  ·rename_i v2 hv2
   have hvv : v2 = v := by
    have := hr1 d v2 hv2
    rw [hget] at this
    exact (Option.some.inj this).symm
   subst hvv
   obtain ⟨own, n', hl, hk⟩ : ∃ own n', leftV v2 n h1 = some ({ v := v2, own }, n') ∧ sS C.P C.iT nt (masks ops.toList []) ops s.h.next s.h.aC k (List.range' (i + 1) m) (ls.map (·.own) ++ [own]) n' r1 = some q := by
    cases hcalm : qU o with
    | true =>
     rw [hcalm] at hk
     have hh := aF5 hcalm (GR he1)
     exact ⟨[], n, aBA _ _ (show h1.next = n from congrArg Hp.next hh), hk⟩
    | false =>
    rw [hcalm] at hk
    simp only at hk
    unfold eP at hk
    rw [pV] at hk
    unfold leftV
    cases hp : plain v2 with
    | true => rw [hp] at hk; exact ⟨[], n, rfl, hk⟩
    | false =>
     rw [hp] at hk
     obtain ⟨hb, hk⟩ := iJ (show bU _ _ none = some q from hk)
     exact ⟨_, _, by rw [hb]; rfl, hk⟩
   rw [hl] at hquiet
   have hmap : ls.map (·.own) ++ [own] = (ls ++ [({ v := v2, own } : Left)]).map (·.own) := by simp
   rw [hmap] at hk
   have I' : aA8 nt ops s (i + 1) (ls ++ [({ v := v2, own } : Left)]) vG := by
    refine ⟨by simp [I.len], ?_, ?_⟩
    ·intro j hj x hx
     by_cases hji : j = i
     ·subst hji
      have wW : o.dst = some x := by unfold bJ at hx; rw [ho] at hx; exact hx
      rw [hd] at wW
      cases wW
      refine ⟨bBB, { v := v2, own }, ?_, hget⟩
      rw [← I.len]; simp
     ·have hj' : j < i := by omega
      obtain ⟨g1, l, g2, g3⟩ := I.XB j hj' x hx
      refine ⟨g1, l, ?_, ?_⟩
      ·rw [List.getElem?_append_left (by have := I.len; omega)]; exact g2
      ·obtain ⟨oj, hoj⟩ := hops j hj'
       have wW : oj.dst = some x := by unfold bJ at hx; rw [hoj] at hx; exact hx
       have : o.dst ≠ some x := by
        rcases (iA hap ho hoj wW).1 with h | h
        ·omega
        ·exact h
       rw [hd] at this
       rw [gJ hput this]; exact g3
    ·intro x hx
     have : o.dst ≠ some x := fun h => hx i (by omega) (by unfold bJ; rw [ho]; exact h)
     rw [hd] at this
     rw [gJ hput this]
     exact I.out x fun j hj => hx j (by omega)
   obtain ⟨ls', cur', r', n2, k1, k2, k3, k4⟩ := vR hE zW hap ht hop m (i + 1) _ _ _ _ (by omega) I' hr1 hk
   refine ⟨ls', cur', r', n2, ?_, k2, k3, k4⟩
   unfold jO
   rw [hquiet]
   exact k1
theorem SI (hE : C.P.Ok) {t : Nat} (zW : mF ops = true) (hap : o6 ops (masks ops.toList []) = true) (hls : ls.length = t) (hops : ∀ j, j < ops.size → ∃ o, ops[j]? = some o) (htn : t ≤ ops.size)
  (hnt : ∀ j, j < t → ∀ x, bJ ops j = some x → x < nt) {kk : KT} {q : Value × Hp} :
  ∀ (m k : Nat) (rest : List Nat) (h : Hp) (cur RS : T Value) (r : iQ), k + m = ops.size → t ≤ k → (∀ j ∈ rest, j < t) →
   (∀ x, (∀ j ∈ rest, bJ ops j ≠ some x) → RS.get x = cur.get x) → (∀ j ∈ rest, ∀ x, bJ ops j = some x → ∃ l, ls[j]? = some l ∧ cur.get x = some l.v) → RR r cur →
   XU C.P C.iT nt (masks ops.toList []) ops (ls.map (·.own)) kk rest (List.range' k m) r h = some q →
   ∃ tm h' r', tailV C self rd nt ops (masks ops.toList []) ls rest (List.range' k m) (st RS h) = some (.code .normal (st tm h')) ∧ RR r' tm ∧ kk r' h' = some q
 | 0, k, rest, h, cur, RS, r, hkm, htk, hrest, ha, hb, hRR, e => by
  rw [List.range'_zero] at e
  unfold XU at e
  obtain ⟨tm, h1⟩ := lF (ls := ls) (nt := nt) (ops := ops) (fun j hj => hops j (by omega)) (fun j hj x hx => hnt j (by omega) x hx) rest RS (fun j hj => by rw [hls]; exact hrest j hj)
  refine ⟨tm, ⟨h.next, h.ro, vP (ls.map (·.own)) rest h.aC⟩, r, ?_, ?_, e⟩
  ·show tailV C self rd nt ops _ ls rest [] _ = _
   unfold tailV
   simp only [st]
   rw [h1]
   simp only [Option.bind_some]
   rw [uK rest h.aC (fun j hj => by rw [hls]; exact hrest j hj)]
   rfl
  ·intro x v hv
   have XV := hRR x v hv
   by_cases hex : ∃ j, j ∈ rest ∧ bJ ops j = some x
   ·obtain ⟨j, hj, hd⟩ := hex
    obtain ⟨l, hl, uA⟩ := hb j hj x hd
    obtain ⟨oj, hoj⟩ := hops j (by have := hrest j hj; omega)
    have wW : oj.dst = some x := by unfold bJ at hd; rw [hoj] at hd; exact hd
    have rG : ∀ k ∈ rest, bJ ops k = some x → k = j := by
     intro k hk hkd
     obtain ⟨ok, hok⟩ := hops k (by have := hrest k hk; omega)
     have hkx : ok.dst = some x := by unfold bJ at hkd; rw [hok] at hkd; exact hkd
     rcases (iA hap hok hoj wW).1 with h | h
     ·exact h
     ·exact absurd hkx h
    obtain ⟨l', hl', hg, _⟩ := nD _ h1 j hj hd rG
    rw [hl] at hl'; cases hl'
    rw [hg, ← uA]; exact XV
   ·have hno : ∀ j ∈ rest, bJ ops j ≠ some x := fun j hj h => hex ⟨j, hj, h⟩
    rw [jQ _ h1 x hno, ha x hno]; exact XV
 | m + 1, k, rest, h, cur, RS, r, hkm, htk, hrest, ha, hb, hRR, e => by
  have hlt : k < ops.size := by omega
  obtain ⟨o, ho⟩ := hops k hlt
  rw [List.range'_succ] at e ⊢
  unfold XU at e
  simp only [ho] at e
  obtain ⟨vG, h1', r1, he1, hr1, hk⟩ := yS hE (rd := rd) self [o] hRR e
  have hr := GR he1
  have aAV : ∀ j ∈ rest.filter (waits (masks ops.toList []) k), j < ls.length := fun j hj => by rw [hls]; exact hrest j (List.mem_filter.1 hj).1
  obtain ⟨XC, h1⟩ := lF (ls := ls) (nt := nt) (ops := ops) (fun j hj => hops j (by omega)) (fun j hj x hx => hnt j (by omega) x hx) _ RS aAV
  have qF : ∀ {j : Nat} {oj : Oper} {x : Nat}, ops[j]? = some oj → bJ ops j = some x → oj.dst = some x := fun hoj hd => by unfold bJ at hd; rw [hoj] at hd; exact hd
  have agree : ∀ x, (∀ j ∈ rest.filter (fun j => !(waits (masks ops.toList []) k j)), bJ ops j ≠ some x) → XC.get x = cur.get x := by
   intro x hx
   by_cases hex : ∃ j, j ∈ rest ∧ bJ ops j = some x
   ·obtain ⟨j, hj, hd⟩ := hex
    obtain ⟨l, hl, uA⟩ := hb j hj x hd
    have hw : waits (masks ops.toList []) k j = true := by
     cases hww : waits (masks ops.toList []) k j with
     | true => rfl
     | false => exact absurd hd (hx j (List.mem_filter.2 ⟨hj, by rw [hww]; rfl⟩))
    obtain ⟨oj, hoj⟩ := hops j (by have := hrest j hj; omega)
    have rG : ∀ i ∈ rest.filter (waits (masks ops.toList []) k), bJ ops i = some x → i = j := by
     intro i hi hid
     obtain ⟨oi, hoi⟩ := hops i (by have := hrest i (List.mem_filter.1 hi).1; omega)
     rcases (iA hap hoi hoj (qF hoj hd)).1 with h | h
     ·exact h
     ·exact absurd (qF hoi hid) h
    obtain ⟨l', hl', hg, _⟩ := nD _ h1 j (List.mem_filter.2 ⟨hj, hw⟩) hd rG
    rw [hl] at hl'; cases hl'
    rw [hg]; exact uA.symm
   ·have hno : ∀ j ∈ rest, bJ ops j ≠ some x := fun j hj h => hex ⟨j, hj, h⟩
    rw [jQ _ h1 x (fun j hj => hno j (List.mem_filter.1 hj).1)]; exact ha x hno
  obtain ⟨v, hp, hrun⟩ := E8 hr
  have hreads : ∀ x ∈ readsOf ops o, XC.get x = cur.get x := by
   intro x hx
   apply agree
   intro j hj hd
   obtain ⟨hj1, hj2⟩ := List.mem_filter.1 hj
   obtain ⟨oj, hoj⟩ := hops j (by have := hrest j hj1; omega)
   rcases (iA hap ho hoj (qF hoj hd)).2 with h | h | h
   ·rw [h] at hj2; cases hj2
   ·have := kV zW h; have := hrest j hj1; omega
   ·exact h hx
  have hp' : iC nt cur o.dst v = some vG := hp
  obtain ⟨NB, hp3⟩ : ∃ NB, iC nt XC o.dst v = some NB := yH fun x hx => by
   have aIH := hp'
   rw [hx] at aIH
   exact (jJ aIH).2
  have hrun' := hrun XC hreads NB hp3
  obtain ⟨tm, h2', r', k1, k2, k3⟩ := SI hE zW hap hls hops htn hnt m (k + 1) (rest.filter (fun j => !(waits (masks ops.toList []) k j))) h1' vG NB r1 (by omega) (by omega)
   (fun j hj => hrest j (List.mem_filter.1 hj).1)
   (by
    intro x hx
    by_cases hd : o.dst = some x
    ·rw [hd] at hp' hp3
     rw [(jJ hp').1, (jJ hp3).1]
    ·rw [gJ hp' hd, gJ hp3 hd]; exact agree x hx)
   (by
    intro j hj x hd
    obtain ⟨hj1, _⟩ := List.mem_filter.1 hj
    obtain ⟨l, hl, uA⟩ := hb j hj1 x hd
    obtain ⟨oj, hoj⟩ := hops j (by have := hrest j hj1; omega)
    have : o.dst ≠ some x := by
     rcases (iA hap ho hoj (qF hoj hd)).1 with h | h
     ·have := hrest j hj1; omega
     ·exact h
    exact ⟨l, hl, by rw [gJ hp' this]; exact uA⟩)
   hr1 hk
  refine ⟨tm, h2', r', ?_, k2, k3⟩
  unfold tailV
  rw [ho]
  simp only [Option.bind_some, st, h1]
  rw [uK _ h.aC aAV]
  simp only [Option.bind_some]
  have aII : jP C self rd nt ops o { tm := XC, df := [], h := { next := h.next, ro := h.ro, aC := vP (ls.map (·.own)) (rest.filter (waits (masks ops.toList []) k)) h.aC } } = some (.code .normal (st NB h1')) := hrun'
  rw [aII]
  exact k1
theorem XW (hE : C.P.Ok) (self : Self) {k : KT} {r : iQ} {h : Hp} {q : Value × Hp} {tm : T Value} (hc : EG ops = true) (ht : RR r tm) (e : aDQ C.P C.iT nt ops k r h = some q) :
  ∃ tm' h' r', pY C self rd nt ops (st tm h) = some (.code .normal (st tm' h')) ∧ RR r' tm' ∧ k r' h' = some q := by
 unfold EG at hc
 simp only [Bool.and_eq_true, List.all_eq_true] at hc
 obtain ⟨⟨zW, hap⟩, hall⟩ := hc
 have htn : gD ops ≤ ops.size := rH (ops := ops) (ms := masks ops.toList []) ops.size
 have hop : ∀ i, i < gD ops → ∃ o, ops[i]? = some o ∧ ((uG o = true ∧ ∃ d, o.dst = some d) ∨ GQ o = true) := by
  intro i hi
  have := hall i (by simpa using hi)
  cases ho : ops[i]? with
  | none => rw [ho] at this; cases this
  | some o =>
   rw [ho] at this
   simp only [Bool.or_eq_true, Bool.and_eq_true] at this
   exact ⟨o, rfl, this.imp (fun h => ⟨h.1, Option.isSome_iff_exists.1 h.2⟩) id⟩
 have hops : ∀ j, j < ops.size → ∃ o, ops[j]? = some o := fun j hj => ⟨ops[j], Array.getElem?_eq_getElem hj⟩
 have I0 : aA8 nt ops (st tm h) 0 [] tm := ⟨rfl, fun j hj => by omega, fun x _ => rfl⟩
 unfold aDQ at e
 rw [List.range_eq_range'] at e
 obtain ⟨ls, cur, r1, n, h1, I, hr1, hk⟩ := vR (s := st tm h) (self := self) hE zW hap htn hop (gD ops) 0 [] tm r h.next (by omega) I0 ht e
 obtain ⟨tm', h', r', h3, h4, h5⟩ := SI (ls := ls) (C := C) (self := self) (rd := rd) (nt := nt) hE zW hap I.len hops htn (fun j hj x hx => (I.XB j hj x hx).1)
  (ops.size - gD ops) (gD ops) (List.range' 0 (gD ops)) { h with next := n } cur tm r1 (by omega) (Nat.le_refl _) (fun j hj => by simpa using hj)
  (fun x hx => (I.out x fun j hj => hx j (by simpa using hj)).symm) (fun j hj x hx => (I.XB j (by simpa using hj) x hx).2) hr1 hk
 refine ⟨tm', h', r', ?_, h4, h5⟩
 unfold pY
 simp only [zW, hap, Bool.and_self, XG]
 rw [show fD ops (masks ops.toList []) ops.size = gD ops from rfl, List.range_eq_range']
 rw [show (st tm h).h.next = h.next from rfl, h1]
 exact h3
end
def kF (E : Env) (iT : FuncId → Array Value → Hp → Option (Value × Hp)) (nt : Nat) (l : List Oper) (ops : Array Oper) (d : Bool) (k : KT) : KT :=
 match d with
 | false => zP E iT nt ops l k
 | true => match RQ ops with
  | true => zP E (ML iT) nt ops (l.take (gD ops)) (zP E iT nt ops (l.drop (gD ops)) k)
  | false => match EG ops with
   | true => aDQ E iT nt ops k
   | false => fun _ _ => none
theorem dJ {C : dP} (hE : C.P.Ok) {rd : Option Nat} {nt : Nat} : GU C rd nt (kF C.P C.iT nt) := by
 intro id ops d kn r h q e tm ht
 unfold kF at e
 cases d with
 | false =>
  obtain ⟨tm', h', r', h1, h2, h3⟩ := yS (rd := rd) hE (run C 0) ops.toList ht e
  exact ⟨tm', h', r', .aY ⟨0, h1⟩, h2, h3⟩
 | true =>
  simp only at e
  cases hc : RQ ops with
  | true =>
   rw [hc] at e
   obtain ⟨tm0, h0, r0, h01, h02, h03⟩ := yS (C := { C with iT := ML C.iT }) (rd := rd) hE (fun _ => none) (ops.toList.take (gD ops)) ht e
   obtain ⟨tm', h', r', h1, h2, h3⟩ := yS (rd := rd) hE (run C 0) (ops.toList.drop (gD ops)) h02 h03
   obtain ⟨pW, h4, h5⟩ := NC (C := C) (self := run C 0) (C' := { C with iT := ML C.iT }) rfl (aAT C) (fun _ => rfl) hc h01 h1
   exact ⟨pW, h', r', .aY ⟨0, h4⟩, fun n v hn => by rw [h5]; exact h2 n v hn, h3⟩
  | false =>
   rw [hc] at e
   cases hd : EG ops with
   | true =>
    rw [hd] at e
    obtain ⟨pW, h', r', h1, h2, h3⟩ := XW hE (rd := rd) (run C 0) hd ht e
    exact ⟨pW, h', r', .aY ⟨0, h1⟩, h2, h3⟩
   | false => rw [hd] at e; cases e
end
end Go.bI
/-
  Tables of labels.
-/
namespace Go.bI
noncomputable def uI (f : Int → AL → Hp → aF) (al : AL) (h : Hp) : aF := AL.rec (motive := fun _ => aF) none (fun x r _ => f x r h) (fun _ _ _ => none) (fun _ _ _ => none) al
noncomputable def uB (f : Bool → AL → Hp → aF) (al : AL) (h : Hp) : aF := AL.rec (motive := fun _ => aF) none (fun _ _ _ => none) (fun x r _ => f x r h) (fun _ _ _ => none) al
noncomputable def uV (f : Value → AL → Hp → aF) (al : AL) (h : Hp) : aF := AL.rec (motive := fun _ => aF) none (fun _ _ _ => none) (fun _ _ _ => none) (fun x r _ => f x r h) al
noncomputable def uN (f : Hp → aF) (al : AL) (h : Hp) : aF := AL.rec (motive := fun _ => aF) (f h) (fun _ _ _ => none) (fun _ _ _ => none) (fun _ _ _ => none) al
theorem WE {f : Int → AL → Hp → aF} {al : AL} {h : Hp} {q : Value × Hp} (e : uI f al h = some q) : ∃ a l, al = .i a l ∧ f a l h = some q := by
 cases al <;> first | (cases e; done) | exact ⟨_, _, rfl, e⟩
theorem aD5 {f : Bool → AL → Hp → aF} {al : AL} {h : Hp} {q : Value × Hp} (e : uB f al h = some q) : ∃ a l, al = .b a l ∧ f a l h = some q := by
 cases al <;> first | (cases e; done) | exact ⟨_, _, rfl, e⟩
theorem WG {f : Value → AL → Hp → aF} {al : AL} {h : Hp} {q : Value × Hp} (e : uV f al h = some q) : ∃ a l, al = .v a l ∧ f a l h = some q := by
 cases al <;> first | (cases e; done) | exact ⟨_, _, rfl, e⟩
theorem WH {f : Hp → aF} {al : AL} {h : Hp} {q : Value × Hp} (e : uN f al h = some q) : al = .n ∧ f h = some q := by
 cases al <;> first | (cases e; done) | exact ⟨rfl, e⟩
def jL : Sg := fun _ _ _ => none
noncomputable def bV (i : Nat) (X : AL → Hp → aF) (t : Sg) : Sg := fun l vs h => bU (Nat.beq l i) (X vs h) (t l vs h)
def iR (Y : Sg) (t : Sg) : Prop := ∀ l vs h q, t l vs h = some q → Y l vs h = some q
theorem iR.nil {Y : Sg} : iR Y jL := fun _ _ _ _ e => (by cases e)
theorem iR.cons {Y : Sg} (i : Nat) {X : AL → Hp → aF} {t : Sg} (h1 : ∀ vs h q, X vs h = some q → Y i vs h = some q) (h2 : iR Y t) : iR Y (bV i X t) := by
 intro l vs h q e
 unfold bV at e
 cases hb : Nat.beq l i with
 | true => rw [hb] at e; obtain rfl := Nat.eq_of_beq_eq_true hb; exact h1 vs h q e
 | false => rw [hb] at e; exact h2 l vs h q e
end Go.bI
/-
  Tables of labels, for functions with own variables.
-/
namespace Go.bI
noncomputable section
abbrev SgP := Nat → aD → Option Value
def wI (f : Int → aD → Option Value) (al : aD) : Option Value := aD.rec (motive := fun _ => Option Value) none (fun x r _ => f x r) (fun _ _ _ => none) (fun _ _ _ => none) (fun _ _ _ => none) al
def wB (f : Bool → aD → Option Value) (al : aD) : Option Value := aD.rec (motive := fun _ => Option Value) none (fun _ _ _ => none) (fun x r _ => f x r) (fun _ _ _ => none) (fun _ _ _ => none) al
def wV (f : Value → aD → Option Value) (al : aD) : Option Value := aD.rec (motive := fun _ => Option Value) none (fun _ _ _ => none) (fun _ _ _ => none) (fun x r _ => f x r) (fun _ _ _ => none) al
def wL (f : List Value → aD → Option Value) (al : aD) : Option Value := aD.rec (motive := fun _ => Option Value) none (fun _ _ _ => none) (fun _ _ _ => none) (fun _ _ _ => none) (fun x r _ => f x r) al
def wN (f : Option Value) (al : aD) : Option Value := aD.rec (motive := fun _ => Option Value) f (fun _ _ _ => none) (fun _ _ _ => none) (fun _ _ _ => none) (fun _ _ _ => none) al
theorem aQN {f : Int → aD → Option Value} {al : aD} {q : Value} (e : wI f al = some q) : ∃ a l, al = .i a l ∧ f a l = some q := by
 cases al <;> first | (cases e; done) | exact ⟨_, _, rfl, e⟩
theorem aQO {f : Bool → aD → Option Value} {al : aD} {q : Value} (e : wB f al = some q) : ∃ a l, al = .b a l ∧ f a l = some q := by
 cases al <;> first | (cases e; done) | exact ⟨_, _, rfl, e⟩
theorem aQP {f : Value → aD → Option Value} {al : aD} {q : Value} (e : wV f al = some q) : ∃ a l, al = .v a l ∧ f a l = some q := by
 cases al <;> first | (cases e; done) | exact ⟨_, _, rfl, e⟩
theorem aQQ {f : List Value → aD → Option Value} {al : aD} {q : Value} (e : wL f al = some q) : ∃ a l, al = .l a l ∧ f a l = some q := by
 cases al <;> first | (cases e; done) | exact ⟨_, _, rfl, e⟩
theorem aQR {f : Option Value} {al : aD} {q : Value} (e : wN f al = some q) : al = .n ∧ f = some q := by
 cases al <;> first | (cases e; done) | exact ⟨rfl, e⟩
def kR : SgP := fun _ _ => none
def dQ (i : Nat) (X : aD → Option Value) (t : SgP) : SgP := fun l vs => bU (Nat.beq l i) (X vs) (t l vs)
def gY (Y : SgP) (t : SgP) : Prop := ∀ l vs q, t l vs = some q → Y l vs = some q
theorem gY.nil {Y : SgP} : gY Y kR := fun _ _ _ e => (by cases e)
theorem gY.cons {Y : SgP} (i : Nat) {X : aD → Option Value} {t : SgP} (h1 : ∀ vs q, X vs = some q → Y i vs = some q) (h2 : gY Y t) : gY Y (dQ i X t) := by
 intro l vs q e
 unfold dQ at e
 cases hb : Nat.beq l i with
 | true => rw [hb] at e; obtain rfl := Nat.eq_of_beq_eq_true hb; exact h1 vs q e
 | false => rw [hb] at e; exact h2 l vs q e
end
end Go.bI
/-
  Tables of labels: rows proved one by one.
-/
namespace Go.bI
abbrev An := eU.node none
abbrev Ao := eU.nil
abbrev Az := eU.node none eU.nil eU.nil
abbrev Am (l : Nat) (k : List (Nat × Kd)) := eU.node (some (l, k))
noncomputable abbrev Gn := G.eU.node (Kp := List KI) none
noncomputable abbrev Gz := G.eU.nil (Kp := List KI)
noncomputable abbrev Gm (l : Nat) (k : List KI) := G.eU.node (some (l, k))
noncomputable abbrev Gy := Gn Gz Gz
theorem gI {f : Int → AL → Hp → aF} {Y : AL → Hp → aF} (H : ∀ x al h q, f x al h = some q → Y (.i x al) h = some q) (al : AL) (h : Hp) (q : Value × Hp) (e : uI f al h = some q) : Y al h = some q := by
 obtain ⟨x, l, rfl, e⟩ := WE e; exact H x l h q e
theorem rwB {f : Bool → AL → Hp → aF} {Y : AL → Hp → aF} (H : ∀ x al h q, f x al h = some q → Y (.b x al) h = some q) (al : AL) (h : Hp) (q : Value × Hp) (e : uB f al h = some q) : Y al h = some q := by
 obtain ⟨x, l, rfl, e⟩ := aD5 e; exact H x l h q e
theorem dA {f : Value → AL → Hp → aF} {Y : AL → Hp → aF} (H : ∀ x al h q, f x al h = some q → Y (.v x al) h = some q) (al : AL) (h : Hp) (q : Value × Hp) (e : uV f al h = some q) : Y al h = some q := by
 obtain ⟨x, l, rfl, e⟩ := WG e; exact H x l h q e
theorem iO {f : Hp → aF} {Y : AL → Hp → aF} (H : ∀ h, f h = Y .n h) (al : AL) (h : Hp) (q : Value × Hp) (e : uN f al h = some q) : Y al h = some q := by
 obtain ⟨rfl, e⟩ := WH e; exact (H h).symm.trans e
theorem kC {f : Int → aD → Option Value} {Y : aD → Option Value} (H : ∀ x al q, f x al = some q → Y (.i x al) = some q) (al : aD) (q : Value) (e : wI f al = some q) : Y al = some q := by
 obtain ⟨x, l, rfl, e⟩ := aQN e; exact H x l q e
theorem rpB {f : Bool → aD → Option Value} {Y : aD → Option Value} (H : ∀ x al q, f x al = some q → Y (.b x al) = some q) (al : aD) (q : Value) (e : wB f al = some q) : Y al = some q := by
 obtain ⟨x, l, rfl, e⟩ := aQO e; exact H x l q e
theorem mJ {f : Value → aD → Option Value} {Y : aD → Option Value} (H : ∀ x al q, f x al = some q → Y (.v x al) = some q) (al : aD) (q : Value) (e : wV f al = some q) : Y al = some q := by
 obtain ⟨x, l, rfl, e⟩ := aQP e; exact H x l q e
theorem rpL {f : List Value → aD → Option Value} {Y : aD → Option Value} (H : ∀ x al q, f x al = some q → Y (.l x al) = some q) (al : aD) (q : Value) (e : wL f al = some q) : Y al = some q := by
 obtain ⟨x, l, rfl, e⟩ := aQQ e; exact H x l q e
theorem oC {f : Option Value} {Y : aD → Option Value} (H : f = Y .n) (al : aD) (q : Value) (e : wN f al = some q) : Y al = some q := by
 obtain ⟨rfl, e⟩ := aQR e; exact H.symm.trans e
theorem dG {Y : Sg} {i : Nat} {X : AL → Hp → aF} {t : Sg} (h1 : ∀ vs h q, X vs h = some q → Y i vs h = some q) (h2 : iR Y t) : iR Y (bV i X t) := iR.cons i h1 h2
theorem dV {Y : SgP} {i : Nat} {X : aD → Option Value} {t : SgP} (h1 : ∀ vs q, X vs = some q → Y i vs = some q) (h2 : gY Y t) : gY Y (dQ i X t) := gY.cons i h1 h2
end Go.bI
/-
  A told function whose stores are seen by its caller, as an answer of the evaluator.
-/
namespace Go.bI
end Go.bI
/-
  Tables as lists.
-/
namespace Go.bI
def aL {α : Type} : A α → List (Nat × α)
 | .nil => []
 | .cons k (some v) r => (k, v) :: aL r
 | .cons _ none r => aL r
def tL {α : Type} : T α → List (Nat × α)
 | .leaf es => aL es
 | .node _ l r => tL l ++ tL r
theorem aJK {α : Type} {n : Nat} {v : α} : ∀ {es : A α}, es.get n = some v → (n, v) ∈ aL es
 | .nil, h => by cases h
 | .cons k x r, h => by
  rw [A.AB] at h
  cases hb : Nat.beq k n with
  | true =>
   have e := Nat.eq_of_beq_eq_true hb
   subst e
   rw [hb] at h
   cases x with
   | none => cases h
   | some x => cases h; exact .head _
  | false =>
   rw [hb] at h
   have := aJK (es := r) h
   cases x with
   | none => exact this
   | some x => exact .tail _ this
theorem OZ {α : Type} {n : Nat} {v : α} : ∀ {t : T α}, t.get n = some v → (n, v) ∈ tL t
 | .leaf es, h => aJK h
 | .node k l r, h => by
  rw [T.AJ] at h
  unfold tL
  cases hb : Nat.ble k n with
  | true => rw [hb] at h; exact List.mem_append_right _ (OZ (t := r) h)
  | false => rw [hb] at h; exact List.mem_append_left _ (OZ (t := l) h)
theorem FO {α β : Type} {f g : α → β} : ∀ {l : List α}, l.map f = l.map g → ∀ x ∈ l, f x = g x
 | [], _, _, h => by cases h
 | a :: l, e, x, h => by
  injection e with e1 e2
  cases h with
  | head => exact e1
  | tail _ h => exact FO e2 x h
def aD2 (fn : Func) : Bool := (fn.name == "runtime.NumGoroutine").not && fn.body.isSome
def fieldsOf (d : TypeDesc) : Array Field := match d with | .struct fs => fs | _ => #[]
def isStruct (d : TypeDesc) : Bool := match d with | .struct _ => true | _ => false
theorem YR {d : TypeDesc} (h : isStruct d = true) : d = .struct (fieldsOf d) := by cases d <;> first | rfl | cases h
end Go.bI
/-
  Functions without arguments, run from no memory: their answer holds in whatever memory. From such an answer to the statement's words.
-/
namespace Go.bI
def h00 : Hp := { next := 0, ro := 0, aC := .nil }
theorem aYI (w : World) : dW 0 (fun _ => none) h00 w := by
 refine ⟨?_, ?_, ?_, Nat.le_refl _, Nat.le_refl _⟩
 ·intro i o hi; rw [show h00.get i = none from T.get_nil i] at hi; cases hi
 ·intro i j im jm o p hi; rw [show h00.get i = none from T.get_nil i] at hi; cases hi
 ·intro i im hi; cases hi
def ND (v : Value) : List Value → Hp → Option Value := fun args _ => match args with | [] => some v | _ => none
theorem XK {C : dP} (hC : C.Ok) {f : FuncId} {n : Nat} {v : Value} {h2 : Hp} (hv : plain v = true) (e : run C n (.call f #[] h00) = some (.ret v h2)) : fV C.P.P f (ND v) := by
 intro args h u hu
 unfold ND at hu
 split at hu
 ·cases hu
  obtain ⟨g1, g2⟩ := (tX hC n).call f #[] h00 _ e
  refine ⟨hv, g1, fun base ρ hh w args' m H hs hl => ?_⟩
  refine (g2 0 (fun _ => none) w args' m (aYI w) ?_).mono ?_
  ·exact ⟨hl.1, fun i x x' hx => (by cases hx)⟩
  ·rintro en w' ⟨v', ρ', rfl, hst, hvr⟩
   obtain rfl := iX hvr hv
   refine ⟨rfl, fun b o hb => hst.keep b o hb ?_, hst.size, hst.os, hst.tape, hst.output⟩
   rintro ⟨i, o, im, hi, _⟩
   rw [show h00.get i = none from T.get_nil i] at hi; cases hi
 ·cases hu
def isV (x : Option R) (b : Bool) : Bool := match x with | some (.ret (.bool c) _) => c == b | _ => false
theorem aPJ {x : Option R} {b : Bool} (e : isV x b = true) : ∃ h, x = some (.ret (.bool b) h) := by
 unfold isV at e
 split at e
 ·rename_i c h; exact ⟨h, by rw [eq_of_beq e]⟩
 ·cases e
theorem aAX {C : dP} (hC : C.Ok) {f : FuncId} {n : Nat} {b : Bool} (e : isV (run C n (.call f #[] h00)) b = true) : fV C.P.P f (ND (.bool b)) := by
 obtain ⟨h, e⟩ := aPJ e
 exact XK hC rfl e
end Go.bI
/-
  Answers of a told function kept in a table: of one receiver whose last cell is left open, in a heap that holds some blocks.
-/
namespace Go.bI
noncomputable section
def VV {α : Type} (f : α → α → Bool) : List α → List α → Bool
 | [], [] => true
 | x :: l, y :: r => bU (f x y) (VV f l r) false
 | _, _ => false
def aUS (a b : Int) : Bool := match a, b with
 | .ofNat m, .ofNat n => Nat.beq m n
 | .negSucc m, .negSucc n => Nat.beq m n
 | _, _ => false
def bBD (a b : UInt8) : Bool := Nat.beq a.toNat b.toNat
def addrEq : Option Addr → Option Addr → Bool
 | none, none => true
 | some ⟨b, o, none⟩, some ⟨b', o', none⟩ => Nat.beq b b' && Nat.beq o o'
 | _, _ => false
def aSN (a b : Value) : Bool :=
 match a with
 | .int k m => (match b with | .int k' n => EH k k' && aUS m n | _ => false)
 | .bool m => (match b with | .bool n => m == n | _ => false)
 | .string m => (match b with | .string n => VV bBD m.data.toList n.data.toList | _ => false)
 | .slice x n c => (match b with | .slice y m d => addrEq x y && Nat.beq n m && Nat.beq c d | _ => false)
 | _ => false
def veq (a b : Value) : Bool :=
 match a with
 | .agg x => (match b with | .agg y => VV aSN x.toList y.toList | _ => false)
 | a => aSN a b
end
end Go.bI
/-
  Answers of the evaluator kept in a table: of arguments that name some blocks alone.
-/
namespace Go.bI
noncomputable section
def bJL (x : Option R) (v : Value) : Bool := match x with | some (.ret u _) => bBE u v | _ => false
where
 bBE (u v : Value) : Bool := match u with
  | .tuple x => (match v with | .tuple y => VV veq x.toList y.toList | _ => false)
  | u => veq u v
end
end Go.bI
/-
  A call whose answer names blocks of its own, kept: at one number of the next block; of the blocks that it lays those alone are kept that the answer names.
-/
namespace Go.bI
noncomputable section
end
end Go.bI
/-
  Told functions at values that are not known: what each word of their texts is.
-/
namespace Go.bI
section
variable {ρ : Type}
theorem aW (a b : Int) : lM a b = decide (a < b) := by
 cases a <;> cases b
 ·rename_i m n
  show Nat.ble (m + 1) n = _
  rw [Bool.eq_iff_iff, Nat.ble_eq, decide_eq_true_iff]; simp only [Int.ofNat_eq_natCast]; omega
 ·rename_i m n
  show false = _
  rw [eq_comm, decide_eq_false_iff_not]; simp only [Int.ofNat_eq_natCast]; omega
 ·rename_i m n
  show true = _
  rw [eq_comm, decide_eq_true_iff]; simp only [Int.ofNat_eq_natCast]; omega
 ·rename_i m n
  show Nat.ble (n + 1) m = _
  rw [Bool.eq_iff_iff, Nat.ble_eq, decide_eq_true_iff]; omega
theorem cK (a b : Int) : jV a b = decide (a = b) := by
 cases a <;> cases b
 ·rename_i m n
  show Nat.beq m n = _
  rw [beq_eq, Bool.eq_iff_iff, decide_eq_true_iff, decide_eq_true_iff]; simp only [Int.ofNat_eq_natCast]; omega
 ·show false = _
  rw [eq_comm, decide_eq_false_iff_not]; simp only [Int.ofNat_eq_natCast]; omega
 ·show false = _
  rw [eq_comm, decide_eq_false_iff_not]; simp only [Int.ofNat_eq_natCast]; omega
 ·rename_i m n
  show Nat.beq m n = _
  rw [beq_eq, Bool.eq_iff_iff, decide_eq_true_iff, decide_eq_true_iff]; omega
theorem aH {α : Type} (b : Bool) (t f : α) : bU b t f = if b then t else f := by cases b <;> rfl
theorem wrap64_in {n : Int} (f : Int → Option ρ) (h1 : -9223372036854775808 ≤ n) (h2 : n ≤ 9223372036854775807) : wrap64 n f = f n := by
 have e := BC .i64 n f
 rw [show G6 .i64 n f = wrap64 n f from rfl] at e
 rw [e]
 congr 1
 simp only [IntKind.wrap, IntKind.bits, IntKind.signed]
 simp
 omega
theorem aI (k : IntKind) (n : Int) (f : Int → Option ρ) : aS k (.int k n) f = f n := by cases k <;> rfl
theorem aZ (b : Bool) (f : Bool → Option ρ) : dH (.bool b) f = f b := rfl
theorem K9 (a : Option Addr) (n c : Nat) (f : Int → Option ρ) : bS (.slice a n c) f = f n := rfl
theorem nZ (s : ByteArray) (f : Int → Option ρ) : KU (.string s) f = f s.size := by
 show iF s.size (fun n => f (.ofNat n)) = _
 rw [dM]; rfl
theorem IC (n b o len c i : Nat) (hi : i < len) (k : Value → Option ρ) : dN n (.slice (some ⟨b, o, none⟩) len c) (i : Int) k = k (.pointer (some ⟨b, o + i * n, none⟩)) := by
 show bU (Nat.ble (Nat.succ i) len) (iF (Nat.add o (Nat.mul i n)) fun o => k (.pointer (some ⟨b, o, none⟩))) none = _
 rw [show Nat.ble (Nat.succ i) len = true from by rw [Nat.ble_eq]; omega, dM]; rfl
theorem aGR {h : Hp} {b o : Nat} {c : List Value} {t : TypeId} {s : Option Nat} {v : Value} (hg : h.get b = some (.cells c t s)) (hv : c[o]? = some v) (k : Value → Option ρ) : aJ h (.pointer (some ⟨b, o, none⟩)) k = k v := by
 show D7 h b (fun c _ _ => BB c o k) = _
 unfold D7
 rw [T.VL, show h.aC.get b = some (.cells c t s) from hg]
 show BB c o k = _
 rw [yT]
 have : nth c o = some v := by
  clear hg
  induction c generalizing o with
  | nil => simp at hv
  | cons a l ih => cases o with
   | zero => simp at hv; subst hv; rfl
   | succ o => exact ih (by simpa using hv)
 rw [this]; rfl
theorem aM {α β : Type} (x : α) (f : α → Option β) : bR (some x) f = f x := rfl
theorem aB {α β ρ : Type} (a : α) (b : β) (k : α → β → Option ρ) : aK (some (a, b)) k = k a b := rfl
end
end Go.bI
namespace Go.bI
section
variable {E : Env}
theorem aGS {P : Program} (k : IntKind) (n : Int) : pR P (asIntOf (.int k n)) = some (k, n) := rfl
theorem wQ (hE : E.Ok) {t : TypeId} (h : gL E t = some .string) {s : ByteArray} {i : Nat} {b : UInt8} (hb : s[i]? = some b) : kE E t (.string s) (.int .i64 (i : Int)) = some (.int .u8 b.toNat) := by
 have key : pR E.P (Instr.index t (.string s) (.int .i64 (i : Int))) = some (.int .u8 b.toNat) := by
  unfold Instr.index
  rw [dI, aGS]
  simp only [Option.bind_some]
  rw [dI, IA hE h]
  simp only [Option.bind_some]
  rw [if_pos (by omega), Int.toNat_natCast, hb]
  rfl
 unfold kE
 rw [h]
 simp only [Option.bind_some]
 rw [key]
 rfl
theorem BP (h : Hp) (o : bY) : (h.add o).get h.next = some o := by
 unfold Hp.get Hp.add
 simp only [T.get_put, if_true]
end
end Go.bI
/-
  Arguments: what is read of them lies in the evaluator's heap.
-/
namespace Go.bI
def EB (P : Program) : List (Nat × TypeId) → Nat → Nat → Bool
 | [], o, e => Nat.beq o e
 | x :: l, o, e => Nat.beq x.1 o && EB P l (o + P.cellsOf x.2) e
def CL (P : Program) (e : TypeId) (m : Nat) : List (Nat × TypeId) := (List.range m).map fun i => (i * P.cellsOf e, e)
def partsOf (fs : Array Field) : List (Nat × TypeId) := fs.toList.map fun f => (f.offset, f.type)
def tT (P : Program) : Nat → TypeId → Bool
 | 0, _ => false
 | n + 1, t => match P.underlying t with
  | some .bool => true
  | some (.int _) => true
  | some .string => true
  | some (.slice e) => Nat.blt 0 (P.cellsOf e) && tT P n e
  | some (.struct fs) => EB P (partsOf fs) 0 (P.cellsOf t) && (partsOf fs).all fun x => tT P n x.2
  | some (.array m e) => EB P (CL P e m) 0 (P.cellsOf t) && tT P n e
  | _ => false
def Arg (P : Program) (h : Hp) : Nat → TypeId → List Value → Prop
 | 0, _, _ => False
 | n + 1, t, cs => match P.underlying t with
  | some .bool => ∃ b, cs = [.bool b]
  | some (.int k) => ∃ i, cs = [.int k i] ∧ (Lit.int k i).wf = true
  | some .string => ∃ s : ByteArray, cs = [.string s] ∧ s.size ≤ maxLen
  | some (.slice e) => cs = [.slice none 0 0] ∨ ∃ b m c te, cs = [.slice (some ⟨b, 0, none⟩) m m] ∧ m ≤ maxLen ∧ h.get b = some (.cells c te (some (P.cellsOf e))) ∧ c.length = m * P.cellsOf e ∧
    ∀ i, i < m → Arg P h n e ((c.drop (i * P.cellsOf e)).take (P.cellsOf e))
  | some (.struct fs) => cs.length = P.cellsOf t ∧ ∀ x, x ∈ partsOf fs → Arg P h n x.2 ((cs.drop x.1).take (P.cellsOf x.2))
  | some (.array m e) => cs.length = P.cellsOf t ∧ ∀ i, i < m → Arg P h n e ((cs.drop (i * P.cellsOf e)).take (P.cellsOf e))
  | _ => False
theorem aDK {P : Program} : ∀ {l : List (Nat × TypeId)} {o e : Nat}, EB P l o e = true → o ≤ e ∧ ∀ y ∈ l, o ≤ y.1
 | [], o, e, h => ⟨by rw [Nat.eq_of_beq_eq_true h]; exact Nat.le_refl _, fun y hy => by cases hy⟩
 | x :: l, o, e, h => by
  simp only [EB, Bool.and_eq_true] at h
  have h1 := Nat.eq_of_beq_eq_true h.1
  obtain ⟨h2, h3⟩ := aDK h.2
  refine ⟨by omega, fun y hy => ?_⟩
  rcases List.mem_cons.1 hy with rfl | hy
  ·omega
  ·have := h3 y hy; omega
theorem M7 {P : Program} {e : TypeId} : ∀ (m j : Nat), EB P ((List.range' j m).map fun i => (i * P.cellsOf e, e)) (j * P.cellsOf e) ((j + m) * P.cellsOf e) = true
 | 0, j => by simp [EB]
 | m + 1, j => by
  rw [List.range'_succ, List.map_cons]
  simp only [EB, Bool.and_eq_true]
  refine ⟨Nat.beq_refl _, ?_⟩
  have := M7 (P := P) (e := e) m (j + 1)
  rw [show j * P.cellsOf e + P.cellsOf e = (j + 1) * P.cellsOf e by rw [Nat.add_mul, Nat.one_mul], show j + (m + 1) = j + 1 + m by omega]
  exact this
theorem tH {P : Program} {e : TypeId} {m : Nat} {x : Nat × TypeId} : x ∈ CL P e m ↔ ∃ i, i < m ∧ x = (i * P.cellsOf e, e) := by
 unfold CL
 simp only [List.mem_map, List.mem_range]
 exact ⟨fun ⟨i, h1, h2⟩ => ⟨i, h1, h2.symm⟩, fun ⟨i, h1, h2⟩ => ⟨i, h1, h2.symm⟩⟩
theorem Arg.sub {P : Program} {h h' : Hp} (hs : Sub h h') : ∀ {n : Nat} {t : TypeId} {cs : List Value}, Arg P h n t cs → Arg P h' n t cs
 | 0, _, _, a => a
 | n + 1, t, cs, a => by
  unfold Arg at a ⊢
  split
  ·rename_i hu; rw [hu] at a; exact a
  ·rename_i k hu; rw [hu] at a; exact a
  ·rename_i hu; rw [hu] at a; exact a
  ·rename_i e hu
   rw [hu] at a
   rcases a with a | ⟨b, m, c, te, a1, a2, a3, a4, a5⟩
   ·exact .inl a
   ·exact .inr ⟨b, m, c, te, a1, a2, hs _ _ a3, a4, fun i hi => (a5 i hi).sub hs⟩
  ·rename_i fs hu
   rw [hu] at a
   exact ⟨a.1, fun x hx => (a.2 x hx).sub hs⟩
  ·rename_i m e hu
   rw [hu] at a
   exact ⟨a.1, fun i hi => (a.2 i hi).sub hs⟩
  ·rename_i h1 h2 h3 h4 h5 h6
   split at a <;> first | exact absurd ‹_› (h1 ·) | skip
   all_goals first | exact a | (exfalso; simp_all)
structure EY (ρ : Ren) (h : Hp) (w : World) : Prop where
 obj : ∀ i o, h.get i = some o → ∃ im O, ρ i = some im ∧ w.heap[im.blk]? = some O ∧ sG ρ im False o O
 dom : ∀ i im, ρ i = some im → i < h.next ∧ im.blk < w.heap.size
theorem EY.nil (w : World) : EY (fun _ => none) h00 w :=
 ⟨fun i o hi => (by rw [show h00.get i = none from T.get_nil i] at hi; cases hi), fun i im hi => (by cases hi)⟩
theorem Sub.refl (h : Hp) : Sub h h := fun _ _ e => e
theorem Sub.trans {a b c : Hp} (h : Sub a b) (k : Sub b c) : Sub a c := fun i o e => k i o (h i o e)
theorem EY.add {ρ : Ren} {h : Hp} {w : World} (H : EY ρ h w) {o : bY} {O : Obj} {im : QW} (hO : w.heap[im.blk]? = some O) (hr : sG ρ im False o O) :
  EY (ρ.put h.next im) (h.add o) w ∧ Ext ρ (ρ.put h.next im) ∧ Sub h (h.add o) := by
 have hn : ρ h.next = none := by
  cases e : ρ h.next with
  | none => rfl
  | some jm => have := (H.dom _ _ e).1; omega
 have hx := Ren.UX (im := im) hn
 have hold : ∀ i o', h.get i = some o' → i ≠ h.next := by
  intro i o' hi e
  subst e
  obtain ⟨jm, _, h1, _⟩ := H.obj _ _ hi
  rw [hn] at h1; cases h1
 have hsub : Sub h (h.add o) := by
  intro i o' hi
  rw [Hp.bD, if_neg (hold i o' hi)]; exact hi
 refine ⟨⟨?_, ?_⟩, hx, hsub⟩
 ·intro i o' hi
  rw [Hp.bD] at hi
  by_cases e : i = h.next
  ·rw [if_pos e] at hi; cases hi
   exact ⟨im, O, by simp [Ren.put, e], hO, hr.mono hx id⟩
  ·rw [if_neg e] at hi
   obtain ⟨jm, Q, h1, h2, h3⟩ := H.obj i o' hi
   exact ⟨jm, Q, hx _ _ h1, h2, h3.mono hx id⟩
 ·intro i jm hi
  unfold Ren.put at hi
  by_cases e : i = h.next
  ·rw [if_pos e] at hi; cases hi
   exact ⟨by show i < h.next + 1; omega, (Array.getElem?_eq_some_iff.1 hO).1⟩
  ·rw [if_neg e] at hi
   have := H.dom i jm hi
   exact ⟨by show i < h.next + 1; omega, this.2⟩
def shut (h : Hp) : Hp := ⟨h.next, h.next, h.aC⟩
theorem EY.hrel {ρ : Ren} {h : Hp} {w : World} (H : EY ρ h w) : dW h.next ρ (shut h) w := by
 have lt : ∀ i o, (shut h).get i = some o → i < h.next := by
  intro i o hi
  obtain ⟨im, _, h1, _⟩ := H.obj i o hi
  exact (H.dom i im h1).1
 refine ⟨?_, ?_, H.dom, Nat.le_refl _, Nat.le_refl _⟩
 ·intro i o hi
  obtain ⟨im, O, h1, h2, h3⟩ := H.obj i o hi
  exact ⟨im, O, h1, h2, h3.mono (Ext.refl ρ) (fun hh => by have := lt i o hi; omega)⟩
 ·intro i j im jm o p hi hj _ _ _ hb
  have := lt i o hi
  omega
section
variable {H : Type} {enc : TypeId × Value → H} {P : Program} {W : World}
abbrev rd (enc : TypeId × Value → H) (P : Program) (W : World) (k : Nat) (t : TypeId) (cs : List Value) : Option (DataW H × List MemPlace) := DataW.trod enc P W 0 (fun _ => true) true k t cs
theorem aFR {w : World} {a : Addr} {v : Value} (e : w.cell? a = some v) : a.spot = none ∧ ∃ C te fr, w.heap[a.block]? = some (.cells C te fr) ∧ C[a.off]? = some v := by
 unfold World.cell? at e
 split at e
 ·rename_i C te fr hg
  split at e
  ·cases e
  ·rename_i hs
   exact ⟨by simpa using hs, C, te, fr, hg, e⟩
 ·cases e
theorem wZ {α β : Type} {f : α → Option β} : ∀ {l : List α} {r : List β}, l.mapM f = some r → ∀ x ∈ l, ∃ y, f x = some y
 | [], _, _, x, hx => by cases hx
 | a :: l, r, h, x, hx => by
  rw [List.mapM_cons] at h
  cases ha : f a with
  | none => simp [ha] at h
  | some y =>
   cases hl : l.mapM f with
   | none => simp [ha, hl] at h
   | some ys =>
    rcases List.mem_cons.1 hx with rfl | hx
    ·exact ⟨y, ha⟩
    ·exact wZ hl x hx
theorem aHX {k : Nat} {t e : TypeId} {cs : List Value} {x : DataW H × List MemPlace} (hu : P.underlying t = some (.slice e)) (hr : rd enc P W (k + 1) t cs = some x) :
  cs = [.slice none 0 0] ∨ ∃ a len cap, cs = [.slice (some a) len cap] ∧ len ≤ cap ∧ cap ≤ maxLen ∧
   ∀ i, i < cap → ∃ y, (W.cells? 0 (a.add (i * P.cellsOf e)) (P.cellsOf e)).bind (rd enc P W k e) = some y := by
 unfold rd DataW.trod at hr
 rw [hu] at hr
 split at hr <;> first | (cases ‹some (TypeDesc.slice e) = _›; done) | skip
 ·exact .inl rfl
 ·rename_i e' a len cap he
  cases he
  refine .inr ⟨a, len, cap, rfl, ?_⟩
  simp only at hr
  split at hr
  ·rename_i hc
   refine ⟨hc.2.1, hc.2.2, ?_⟩
   simp only [if_true, Option.bind_eq_some_iff, Option.map_eq_some_iff] at hr
   obtain ⟨elems, h1, rest, h2, _⟩ := hr
   intro i hi
   by_cases hl : i < len
   ·exact wZ h1 i (List.mem_range.2 hl)
   ·obtain ⟨y, hy⟩ := wZ h2 (i - len) (List.mem_range.2 (by omega))
    rw [show len + (i - len) = i by omega] at hy
    exact ⟨y, hy⟩
  ·cases hr
 ·cases hr
theorem aFS {k : Nat} {t : TypeId} {fs : Array Field} {cs : List Value} {x : DataW H × List MemPlace} (hu : P.underlying t = some (.struct fs)) (hr : rd enc P W (k + 1) t cs = some x) :
  cs.length = P.cellsOf t ∧ ∀ f ∈ fs.toList, ∃ y, rd enc P W k f.type ((cs.drop f.offset).take (P.cellsOf f.type)) = some y := by
 unfold rd DataW.trod at hr
 rw [hu] at hr
 change ite _ _ _ = _ at hr
 split at hr
 ·rename_i hlen
  simp only [Option.map_eq_some_iff] at hr
  obtain ⟨xs, h1, _⟩ := hr
  exact ⟨hlen, wZ h1⟩
 ·cases hr
theorem aHY {k : Nat} {t : TypeId} {m : Nat} {e : TypeId} {cs : List Value} {x : DataW H × List MemPlace} (hu : P.underlying t = some (.array m e)) (hr : rd enc P W (k + 1) t cs = some x) :
  cs.length = P.cellsOf t ∧ ∀ i, i < m → ∃ y, rd enc P W k e ((cs.drop (i * P.cellsOf e)).take (P.cellsOf e)) = some y := by
 unfold rd DataW.trod at hr
 rw [hu] at hr
 change ite _ _ _ = _ at hr
 split at hr
 ·rename_i hlen
  simp only [Option.map_eq_some_iff] at hr
  obtain ⟨xs, h1, _⟩ := hr
  exact ⟨hlen, fun i hi => wZ h1 i (List.mem_range.2 hi)⟩
 ·cases hr
def XD (W : World) (ρ : Ren) (h : Hp) (K : Ren → Hp → Prop) : Prop := ∃ ρ' h', EY ρ' h' W ∧ Ext ρ ρ' ∧ Sub h h' ∧ K ρ' h'
theorem xY {n : Nat} (IH : ∀ t cs ρ h, (∃ k x, rd enc P W k t cs = some x) → tT P n t = true → EY ρ h W → XD W ρ h fun ρ' h' => ∃ KD, eO ρ' KD cs ∧ Arg P h' n t KD) :
  ∀ (l : List (Nat × TypeId)) (o : Nat) (cs : List Value) (ρ : Ren) (h : Hp), EB P l o (o + cs.length) = true → (∀ x ∈ l, tT P n x.2 = true) →
   (∀ x ∈ l, ∃ k y, rd enc P W k x.2 ((cs.drop (x.1 - o)).take (P.cellsOf x.2)) = some y) → EY ρ h W →
   XD W ρ h fun ρ' h' => ∃ KD, eO ρ' KD cs ∧ ∀ x ∈ l, Arg P h' n x.2 ((KD.drop (x.1 - o)).take (P.cellsOf x.2))
 | [], o, cs, ρ, h, ht, _, _, hp => by
  have h0 : cs.length = 0 := by have := Nat.eq_of_beq_eq_true ht; omega
  obtain rfl := List.length_eq_zero_iff.1 h0
  exact ⟨ρ, h, hp, Ext.refl ρ, Sub.refl h, [], .nil ρ, fun x hx => by cases hx⟩
 | x :: l, o, cs, ρ, h, ht, ha, hr, hp => by
  simp only [EB, Bool.and_eq_true] at ht
  have h1 := Nat.eq_of_beq_eq_true ht.1
  obtain ⟨hle, hge⟩ := aDK ht.2
  have hz : P.cellsOf x.2 ≤ cs.length := by omega
  have hl' : (cs.drop (P.cellsOf x.2)).length = cs.length - P.cellsOf x.2 := by simp
  have r0 := hr x (.head _)
  rw [h1, Nat.sub_self, List.drop_zero] at r0
  obtain ⟨zV, h1', hp1, e1, s1, ap, la, aa⟩ := IH x.2 _ ρ h r0 (ha x (.head _)) hp
  obtain ⟨wF, h2, hp2, e2, s2, KD, lb, ab⟩ := xY IH l (o + P.cellsOf x.2) (cs.drop (P.cellsOf x.2)) zV h1' (by rw [hl', show o + P.cellsOf x.2 + (cs.length - P.cellsOf x.2) = o + cs.length by omega]; exact ht.2)
   (fun y hy => ha y (.tail _ hy)) (fun y hy => by
    have := hge y hy
    rw [List.drop_drop, show P.cellsOf x.2 + (y.1 - (o + P.cellsOf x.2)) = y.1 - o by omega]
    exact hr y (.tail _ hy)) hp1
  have hlen : ap.length = P.cellsOf x.2 := by rw [la.1]; simp; omega
  refine ⟨wF, h2, hp2, e1.trans e2, s1.trans s2, ap ++ KD, ?_, ?_⟩
  ·have := (la.mono e2).append lb
   rwa [List.take_append_drop] at this
  ·intro y hy
   rcases List.mem_cons.1 hy with rfl | hy
   ·rw [h1, Nat.sub_self, List.drop_zero, ← hlen, List.take_left]
    exact aa.sub s2
   ·have := hge y hy
    rw [List.drop_append, List.drop_of_length_le (by omega), List.nil_append, hlen, show y.1 - o - P.cellsOf x.2 = y.1 - (o + P.cellsOf x.2) by omega]
    exact ab y hy
theorem aFT {a : Addr} {m z : Nat} (hz : 0 < z) (hm : 0 < m) (hr : ∀ i, i < m → ∃ cs, W.cells? 0 (a.add (i * z)) z = some cs) :
  a.spot = none ∧ ∃ C te fr, W.heap[a.block]? = some (.cells C te fr) ∧ a.off + m * z ≤ C.size ∧ ∀ i cs, i < m → W.cells? 0 (a.add (i * z)) z = some cs → cs = (C.toList.drop (a.off + i * z)).take z := by
 obtain ⟨cs0, h0⟩ := hr 0 hm
 rw [Nat.zero_mul] at h0
 obtain ⟨_, hl0, hc0⟩ := World.cells?_some h0
 have h00 := hc0 0 hz
 have add0 : ∀ b : Addr, b.add 0 = b := fun b => rfl
 rw [add0, add0, List.getElem?_eq_getElem (by omega)] at h00
 obtain ⟨hs, C, te, fr, hg, _⟩ := aFR h00
 have bJF : ∀ i, W.cell? (a.add i) = C[a.off + i]? := by
  intro i
  rw [gZ hs]
  simp [World.cell?, hg]
 have key : ∀ i cs, W.cells? 0 (a.add (i * z)) z = some cs → cs.length = z ∧ ∀ j, j < z → C[a.off + i * z + j]? = cs[j]? := by
  intro i cs h
  obtain ⟨_, g1, g2⟩ := World.cells?_some h
  refine ⟨g1, fun j hj => ?_⟩
  rw [← g2 j hj, gZ hs, gZ (by rfl)]
  simp [World.cell?, hg]
 refine ⟨hs, C, te, fr, hg, ?_, ?_⟩
 ·obtain ⟨cs, hcs⟩ := hr (m - 1) (by omega)
  obtain ⟨g1, g2⟩ := key _ _ hcs
  have := g2 (z - 1) (by omega)
  rw [List.getElem?_eq_getElem (by omega)] at this
  have := (Array.getElem?_eq_some_iff.1 this).1
  have hmz : m * z = (m - 1) * z + z := by rw [← Nat.succ_mul]; congr 1; omega
  omega
 ·intro i cs hi hcs
  obtain ⟨g1, g2⟩ := key _ _ hcs
  apply List.ext_getElem?
  intro j
  rw [List.getElem?_take, List.getElem?_drop]
  by_cases hj : j < z
  ·rw [if_pos hj, ← g2 j hj]; simp
  ·rw [if_neg hj, List.getElem?_eq_none_iff]; omega
theorem xZ (hB : ∃ (b : Nat) (C : Array Value) (te : TypeId) (fr : Nat × Nat), W.heap[b]? = some (Obj.cells C te fr)) : ∀ (n : Nat) (t : TypeId) (cs : List Value) (ρ : Ren) (h : Hp), (∃ k x, rd enc P W k t cs = some x) → tT P n t = true → EY ρ h W →
  XD W ρ h fun ρ' h' => ∃ KD, eO ρ' KD cs ∧ Arg P h' n t KD
 | 0, _, _, _, _, _, ha, _ => by cases ha
 | n + 1, t, cs, ρ, h, ⟨k, x, hr⟩, ha, hp => by
  cases k with
  | zero => cases hr
  | succ k =>
  unfold tT at ha
  split at ha
  ·rename_i hu
   unfold rd DataW.trod at hr
   rw [hu] at hr
   split at hr <;> simp_all
   exact ⟨ρ, h, hp, Ext.refl ρ, Sub.refl h, _, eO.cons (.bool _) (.nil ρ), by unfold Arg; rw [hu]; exact ⟨_, rfl⟩⟩
  ·rename_i ki hu
   unfold rd DataW.trod at hr
   rw [hu] at hr
   split at hr <;> simp_all
   exact ⟨ρ, h, hp, Ext.refl ρ, Sub.refl h, _, eO.cons (.int _ _) (.nil ρ), by unfold Arg; rw [hu]; exact ⟨_, rfl, by simp_all⟩⟩
  ·rename_i hu
   unfold rd DataW.trod at hr
   rw [hu] at hr
   split at hr <;> simp_all
   exact ⟨ρ, h, hp, Ext.refl ρ, Sub.refl h, _, eO.cons (.string _) (.nil ρ), by unfold Arg; rw [hu]; exact ⟨_, rfl, by simp_all⟩⟩
  ·rename_i e hu
   simp only [Bool.and_eq_true] at ha
   have hz : 0 < P.cellsOf e := by have := ha.1; rw [Nat.blt_eq] at this; exact this
   rcases aHX hu hr with rfl | ⟨a, len, cap, rfl, hlc, hcm, hel⟩
   ·exact ⟨ρ, h, hp, Ext.refl ρ, Sub.refl h, [.slice none 0 0], eO.cons .oI (.nil ρ), by unfold Arg; rw [hu]; exact .inl rfl⟩
   by_cases hc : cap = 0
   ·subst hc
    obtain rfl : len = 0 := by omega
    obtain ⟨b, C, te, fr, hb⟩ := hB
    obtain ⟨hp', hx, hs⟩ := hp.add (o := bY.cells [] te (some (P.cellsOf e))) (im := ⟨b, 0, C.size, some (P.cellsOf e)⟩) hb
     (.cells [] te _ C fr rfl rfl (fun hh => by cases hh) (by simp) (fun k v hv => by simp at hv) (fun hh => hh.elim))
    refine ⟨_, _, hp', hx, hs, [.slice (some ⟨h.next, 0, none⟩) 0 0], eO.cons (.ghost _ _ ⟨b, 0, C.size, some (P.cellsOf e)⟩ (P.cellsOf e) rfl (by simp [Ren.put]) rfl) (.nil _), ?_⟩
    unfold Arg; rw [hu]
    exact .inr ⟨h.next, 0, [], te, rfl, Nat.zero_le _, by rw [Hp.bD, if_pos rfl], by simp, fun i hi => by omega⟩
   ·have hcp : 0 < cap := by omega
    obtain ⟨hs, C, te, fr, hg, hsz, hrow⟩ := aFT hz hcp (fun i hi => by
     obtain ⟨y, hy⟩ := hel i hi
     simp only [Option.bind_eq_some_iff] at hy
     obtain ⟨cs, h1, _⟩ := hy
     exact ⟨cs, h1⟩)
    have hll : len * P.cellsOf e ≤ cap * P.cellsOf e := Nat.mul_le_mul_right _ hlc
    have aSF : ((C.toList.drop a.off).take (len * P.cellsOf e)).length = len * P.cellsOf e := by simp; omega
    obtain ⟨ρ', h', hp', hx, hsub, KD, la, aa⟩ := xY (IH := fun t cs ρ h hr ha hp => xZ hB n t cs ρ h hr ha hp) (CL P e len) 0 ((C.toList.drop a.off).take (len * P.cellsOf e)) ρ h
     (by rw [aSF]; have := M7 (P := P) (e := e) len 0; simp only [Nat.zero_add, Nat.zero_mul] at this ⊢; unfold CL; rw [List.range_eq_range']; exact this)
     (fun x hx => by obtain ⟨i, _, rfl⟩ := tH.1 hx; exact ha.2)
     (fun x hx => by
      obtain ⟨i, hi, rfl⟩ := tH.1 hx
      obtain ⟨y, hy⟩ := hel i (by omega)
      simp only [Option.bind_eq_some_iff] at hy
      obtain ⟨cs, h1, h2⟩ := hy
      refine ⟨k, y, ?_⟩
      have he := hrow i cs (by omega) h1
      have hi2 : i * P.cellsOf e + P.cellsOf e ≤ len * P.cellsOf e := by rw [← Nat.succ_mul]; exact Nat.mul_le_mul_right _ hi
      rw [Nat.sub_zero, List.drop_take, List.take_take, List.drop_drop, Nat.min_eq_left (show P.cellsOf e ≤ len * P.cellsOf e - i * P.cellsOf e by omega), show a.off + i * P.cellsOf e = a.off + i * P.cellsOf e from rfl, ← he]
      exact h2) hp
    have hal : KD.length = len * P.cellsOf e := by rw [la.1]; exact aSF
    obtain ⟨hp2, hx2, hs2⟩ := hp'.add (o := bY.cells KD te (some (P.cellsOf e))) (im := ⟨a.block, a.off, C.size, some (P.cellsOf e)⟩) hg
     (.cells KD te _ C fr rfl rfl (fun hh => by cases hh) (by show a.off + KD.length ≤ C.size; omega) (fun k v hv => by
      obtain ⟨v', h1, h2⟩ := la.get hv
      refine ⟨v', ?_, h2⟩
      have hk := (List.getElem?_eq_some_iff.1 hv).1
      rw [List.getElem?_take, if_pos (by omega), List.getElem?_drop] at h1
      rw [Nat.add_comm]
      simpa using h1) (fun hh => hh.elim))
    refine ⟨_, _, hp2, hx.trans hx2, hsub.trans hs2, [.slice (some ⟨h'.next, 0, none⟩) len len], eO.cons (.slice _ _ _ _ _ ⟨rfl, hs, ⟨a.block, a.off, C.size, some (P.cellsOf e)⟩, by simp [Ren.put], rfl, .inr ⟨P.cellsOf e, rfl, .inr (by simp), hlc, hsz⟩⟩) (.nil _), ?_⟩
    unfold Arg; rw [hu]
    refine .inr ⟨h'.next, len, KD, te, rfl, by omega, by rw [Hp.bD, if_pos rfl], hal, fun i hi => ?_⟩
    exact (aa (i * P.cellsOf e, e) (tH.2 ⟨i, hi, rfl⟩)).sub hs2
  ·rename_i fs hu
   simp only [Bool.and_eq_true, List.all_eq_true] at ha
   obtain ⟨hlen, h1⟩ := aFS hu hr
   obtain ⟨ρ', h', hp', hx, hsub, KD, la, aa⟩ := xY (IH := fun t cs ρ h hr ha hp => xZ hB n t cs ρ h hr ha hp) (partsOf fs) 0 cs ρ h
    (by rw [Nat.zero_add, hlen]; exact ha.1) ha.2 (fun x hx => by
     unfold partsOf at hx
     obtain ⟨f, hf, rfl⟩ := List.mem_map.1 hx
     obtain ⟨y, hy⟩ := h1 f hf
     exact ⟨k, y, hy⟩) hp
   refine ⟨ρ', h', hp', hx, hsub, KD, la, ?_⟩
   unfold Arg; rw [hu]
   exact ⟨by rw [la.1]; exact hlen, aa⟩
  ·rename_i m e hu
   simp only [Bool.and_eq_true] at ha
   obtain ⟨hlen, h1⟩ := aHY hu hr
   obtain ⟨ρ', h', hp', hx, hsub, KD, la, aa⟩ := xY (IH := fun t cs ρ h hr ha hp => xZ hB n t cs ρ h hr ha hp) (CL P e m) 0 cs ρ h
    (by rw [Nat.zero_add, hlen]; exact ha.1) (fun x hx => by obtain ⟨i, _, rfl⟩ := tH.1 hx; exact ha.2) (fun x hx => by
     obtain ⟨i, hi, rfl⟩ := tH.1 hx
     obtain ⟨y, hy⟩ := h1 i hi
     exact ⟨k, y, hy⟩) hp
   refine ⟨ρ', h', hp', hx, hsub, KD, la, ?_⟩
   unfold Arg; rw [hu]
   exact ⟨by rw [la.1]; exact hlen, fun i hi => aa (i * P.cellsOf e, e) (tH.2 ⟨i, hi, rfl⟩)⟩
  ·cases ha
end
end Go.bI
/-
  Laws with arguments: from the evaluator's answer at whatever data to the statement's words.
-/
namespace Go.bI
section
variable {H : Type} {enc : TypeId × Value → H} {P : Program} {W : World}
theorem M8 (hw : W.ShapedOpen P) : ∃ (b : Nat) (C : Array Value) (te : TypeId) (fr : Nat × Nat), W.heap[b]? = some (Obj.cells C te fr) := by
 obtain ⟨_, h2⟩ := hw
 have hsz : P.globals.size < (begin P (fun _ _ => 0) default).world.heap.size := by
  simp only [begin, Array.size_push, Array.size_mapIdx]; omega
 obtain ⟨o, o0, g1, g2, g3⟩ := h2 P.globals.size (Nat.le_refl _) hsz
 rw [Nat.sub_self] at g3
 have g4 : o = o0 := by simpa [World.looseAt] using g3
 subst g4
 refine ⟨P.globals.size, (Array.range P.types.size).map fun t => .int .u64 (Int.ofNat t), 0, (0, 0), ?_⟩
 rw [g1, ← g2]
 simp only [begin]
 rw [Array.getElem?_push_lt (by simp; omega)]
 simp [Array.getElem_push]
 rw [if_pos (by omega), if_pos (by omega)]
def M9 (P : Program) (h : Hp) (n : Nat) (t : TypeId) (v : Value) : Prop :=
 match P.underlying t with
 | some (.struct _) | some (.array _ _) => ∃ cs : List Value, v = .agg cs.toArray ∧ Arg P h n t cs
 | _ => Arg P h n t [v]
def tV (P : Program) (h : Hp) (n : Nat) : List TypeId → List Value → Prop
 | [], [] => True
 | t :: ts, v :: vs => M9 P h n t v ∧ tV P h n ts vs
 | _, _ => False
theorem M9.sub {h h' : Hp} (hs : Sub h h') {n : Nat} {t : TypeId} {v : Value} (a : M9 P h n t v) : M9 P h' n t v := by
 unfold M9 at a ⊢
 split
 ·rename_i hu; rw [hu] at a; obtain ⟨cs, h1, h2⟩ := a; exact ⟨cs, h1, h2.sub hs⟩
 ·rename_i hu; rw [hu] at a; obtain ⟨cs, h1, h2⟩ := a; exact ⟨cs, h1, h2.sub hs⟩
 ·rename_i h1 h2
  split at a
  ·exact absurd ‹_› (h1 _)
  ·exact absurd ‹_› (h2 _ _)
  ·exact a.sub hs
theorem tV.sub {h h' : Hp} (hs : Sub h h') {n : Nat} : ∀ {ts : List TypeId} {vs : List Value}, tV P h n ts vs → tV P h' n ts vs
 | [], [], _ => trivial
 | _ :: _, _ :: _, a => ⟨a.1.sub hs, a.2.sub hs⟩
 | [], _ :: _, a => a.elim
 | _ :: _, [], a => a.elim
theorem aHZ {ρ : Ren} {x v : Value} (h : eO ρ [x] [v]) : bK ρ x v := h.2 0 _ _ rfl rfl
theorem aH0 (hB : ∃ (b : Nat) (C : Array Value) (te : TypeId) (fr : Nat × Nat), W.heap[b]? = some (Obj.cells C te fr)) {n b0 : Nat} {t : TypeId} {v : Value} {ρ : Ren} {h : Hp} {d : DataW H} {ps : List MemPlace}
  (hok : Value.okWide P W .any b0 t v) (hr : DataW.Trod enc P W 0 (fun _ => true) true t v d ps) (ha : tT P n t = true) (hp : EY ρ h W) :
  XD W ρ h fun ρ' h' => ∃ av, bK ρ' av v ∧ M9 P h' n t av := by
 obtain ⟨k, hr⟩ := hr
 obtain ⟨ρ', h', g1, g2, g3, KD, g4, g5⟩ := xZ (enc := enc) hB n t v.cells.toList ρ h ⟨k, _, hr⟩ ha hp
 refine ⟨ρ', h', g1, g2, g3, ?_⟩
 unfold M9
 unfold Value.okWide at hok
 split
 ·rename_i fs hu
  rw [hu] at hok
  obtain ⟨cs, rfl, _⟩ := hok
  exact ⟨.agg KD.toArray, .agg' (by simpa [Value.cells] using g4), KD, rfl, g5⟩
 ·rename_i m e hu
  rw [hu] at hok
  obtain ⟨cs, rfl, _⟩ := hok
  exact ⟨.agg KD.toArray, .agg' (by simpa [Value.cells] using g4), KD, rfl, g5⟩
 ·rename_i h1 h2
  have hok' : Cell.okWide P W .any b0 t v := by
   split at hok
   ·exact absurd ‹_› (h1 _)
   ·exact absurd ‹_› (h2 _ _)
   ·exact hok
  have hv : v.cells = #[v] := by
   cases v <;> first | rfl | (exfalso; unfold Cell.okWide Cell.ok at hok'; split at hok' <;> simp_all)
  rw [hv] at g4
  have hl := g4.1
  match KD, hl, g4, g5 with
  | [x], _, g4, g5 => exact ⟨x, aHZ g4, g5⟩
theorem IZ (hB : ∃ (b : Nat) (C : Array Value) (te : TypeId) (fr : Nat × Nat), W.heap[b]? = some (Obj.cells C te fr)) {n b0 : Nat} : ∀ {ts : List TypeId} {vs : List Value} {ρ : Ren} {h : Hp} {ds : List (DataW H)} {ps : List MemPlace},
  (∀ (j : Nat) t v, ts[j]? = some t → vs[j]? = some v → Value.okWide P W .any b0 t v) → DataW.TrodAll enc P W 0 (fun _ => true) true ts vs ds ps → ts.all (tT P n) = true → EY ρ h W →
  XD W ρ h fun ρ' h' => ∃ LW, eO ρ' LW vs ∧ tV P h' n ts LW
 | [], [], ρ, h, [], _, _, _, _, hp => ⟨ρ, h, hp, Ext.refl ρ, Sub.refl h, [], .nil ρ, trivial⟩
 | t :: ts, v :: vs, ρ, h, d :: ds, ps, hok, hr, ha, hp => by
  obtain ⟨p, q, r1, r2, _⟩ := hr
  simp only [List.all_cons, Bool.and_eq_true] at ha
  obtain ⟨zV, h1, p1, e1, s1, av, v1, a1⟩ := aH0 hB (hok 0 t v rfl rfl) r1 ha.1 hp
  obtain ⟨wF, h2, p2, e2, s2, LW, l2, a2⟩ := IZ hB (fun j t v h1 h2 => hok (j + 1) t v (by simpa using h1) (by simpa using h2)) r2 ha.2 p1
  exact ⟨wF, h2, p2, e1.trans e2, s1.trans s2, av :: LW, .cons (v1.mono e2) l2, a1.sub s2, a2⟩
 | [], _ :: _, _, _, _, _, _, hr, _, _ => by simp [DataW.TrodAll] at hr
 | _ :: _, [], _, _, _, _, _, hr, _, _ => by simp [DataW.TrodAll] at hr
 | [], [], _, _, _ :: _, _, _, hr, _, _ => by simp [DataW.TrodAll] at hr
 | _ :: _, _ :: _, _, _, [], _, _, hr, _, _ => by simp [DataW.TrodAll] at hr
theorem aXR {C : dP} (hC : C.Ok) {f : FuncId} {n b0 : Nat} {ts : List TypeId} {args : Array Value} {ds : List (DataW H)} {ps : List MemPlace}
  (hrun : ∀ (h : Hp) (LW : List Value), h.ro = h.next → tV C.P.P h n ts LW → ∃ h', eG C (.call f LW.toArray h) (.ret (.bool true) h'))
  (hw : W.ShapedOpen C.P.P) (hok : ∀ (j : Nat) t v, ts[j]? = some t → args.toList[j]? = some v → Value.okWide C.P.P W .any b0 t v)
  (hr : DataW.TrodAll enc C.P.P W 0 (fun _ => true) true ts args.toList ds ps) (ha : ts.all (tT C.P.P n) = true) :
  Calls C.P.P f args W fun e W' => e = .returned (.bool true) ∧ Go.RowKit.Below W.heap.size W W' := by
 obtain ⟨ρ, h, hp, _, _, LW, hl, haa⟩ := IZ (M8 hw) hok hr ha (EY.nil W)
 have hH := hp.hrel
 obtain ⟨h', N, hrun⟩ := hrun (shut h) LW rfl (tV.sub (h := h) (h' := shut h) (fun _ _ e => e) haa)
 obtain ⟨_, g2⟩ := (tX hC N).call f LW.toArray (shut h) _ hrun
 refine callsIn_wide.1 ((g2 h.next ρ W args 0 hH hl).mono ?_)
 rintro e W' ⟨v', ρ', rfl, hst, hv⟩
 cases hv
 refine ⟨rfl, hst.os, hst.tape, hst.output, hst.size, fun k hk => ?_⟩
 rw [Array.getElem?_eq_getElem hk]
 refine hst.keep k _ (Array.getElem?_eq_getElem hk) ?_
 rintro ⟨i, o, im, hi, hro, hρ, _⟩
 have := (hH.dom i im hρ).1
 have h3 : (shut h).ro = (shut h).next := rfl
 omega
theorem mR {α β : Type} {f g : α → Option β} : ∀ {l : List α} {r : List β}, (∀ x ∈ l, ∀ y, f x = some y → g x = some y) → l.mapM f = some r → l.mapM g = some r
 | [], r, _, h => by simpa using h
 | a :: l, r, hfg, h => by
  rw [List.mapM_cons] at h ⊢
  cases ha : f a with
  | none => simp [ha] at h
  | some y =>
   cases hl : l.mapM f with
   | none => simp [ha, hl] at h
   | some ys =>
    simp [ha, hl] at h
    simp [hfg a (.head _) y ha, mR (fun x hx => hfg x (.tail _ hx)) hl, h]
theorem UY {W' : World} (hb : Go.RowKit.Below W.heap.size W W') {a : Addr} {n : Nat} {cs : List Value} (hn : 0 < n) (h : W.cells? 0 a n = some cs) : a.block < W.heap.size ∧ W'.cells? 0 a n = some cs := by
 have hlt := World.cells?_block h hn
 refine ⟨hlt, ?_⟩
 unfold World.cells? at h ⊢
 rw [if_pos (Nat.zero_le _)] at h ⊢
 refine mR (fun i _ y hy => ?_) h
 have hblk : (a.add i).block = a.block := by unfold Addr.add; split <;> rfl
 rw [hb.cell (by rw [hblk]; exact hlt)]; exact hy
theorem GG {W' : World} (hb : Go.RowKit.Below W.heap.size W W') : ∀ (n k : Nat) (t : TypeId) (cs : List Value) (x : DataW H × List MemPlace), tT P n t = true → rd enc P W k t cs = some x →
  DataW.trod enc P W' 0 (fun b => decide (b < W.heap.size)) true k t cs = some x
 | 0, _, _, _, _, ha, _ => by cases ha
 | n + 1, 0, _, _, _, _, hr => by cases hr
 | n + 1, k + 1, t, cs, x, ha, hr => by
  unfold tT at ha
  split at ha
  ·rename_i hu
   unfold rd DataW.trod at hr
   unfold DataW.trod
   rw [hu] at hr ⊢
   split at hr <;> simp_all
  ·rename_i ki hu
   unfold rd DataW.trod at hr
   unfold DataW.trod
   rw [hu] at hr ⊢
   split at hr <;> simp_all
  ·rename_i hu
   unfold rd DataW.trod at hr
   unfold DataW.trod
   rw [hu] at hr ⊢
   split at hr <;> simp_all
  ·rename_i e hu
   simp only [Bool.and_eq_true] at ha
   have hz : 0 < P.cellsOf e := by have := ha.1; rw [Nat.blt_eq] at this; exact this
   have key : ∀ (a : Addr) (i : Nat) (y : DataW H × List MemPlace), (W.cells? 0 (a.add (i * P.cellsOf e)) (P.cellsOf e)).bind (rd enc P W k e) = some y →
     a.block < W.heap.size ∧ (W'.cells? 0 (a.add (i * P.cellsOf e)) (P.cellsOf e)).bind (DataW.trod enc P W' 0 (fun b => decide (b < W.heap.size)) true k e) = some y := by
    intro a i y hy
    simp only [Option.bind_eq_some_iff] at hy ⊢
    obtain ⟨c, h1, h2⟩ := hy
    obtain ⟨g1, g2⟩ := UY hb hz h1
    have hblk : (a.add (i * P.cellsOf e)).block = a.block := by unfold Addr.add; split <;> rfl
    exact ⟨hblk ▸ g1, c, g2, GG hb n k e c y ha.2 h2⟩
   unfold rd DataW.trod at hr
   unfold DataW.trod
   rw [hu] at hr ⊢
   split at hr <;> first | (cases ‹some (TypeDesc.slice e) = _›; done) | skip
   ·exact hr
   ·rename_i e' a len cap he
    cases he
    simp only at hr ⊢
    split at hr
    ·rename_i hc
     rw [if_pos hc]
     simp only [if_true, Option.bind_eq_some_iff, Option.map_eq_some_iff] at hr ⊢
     obtain ⟨elems, h1, rest, h2, h3⟩ := hr
     refine ⟨elems, mR (fun i _ y hy => (key a i y hy).2) h1, rest, ?_, h3⟩
     by_cases h0 : cap - len = 0
     ·rw [h0] at h2 ⊢
      simp at h2
      subst h2
      split <;> simp
     ·obtain ⟨y, hy⟩ := wZ h2 0 (List.mem_range.2 (by omega))
      rw [if_pos (by simpa using (key a _ y hy).1)]
      exact mR (fun i _ y hy => (key a _ y hy).2) h2
    ·cases hr
   ·cases hr
  ·rename_i fs hu
   simp only [Bool.and_eq_true, List.all_eq_true] at ha
   unfold rd DataW.trod at hr
   unfold DataW.trod
   rw [hu] at hr ⊢
   change ite _ _ _ = _ at hr
   change ite _ _ _ = _
   split at hr
   ·rename_i hlen
    rw [if_pos hlen]
    simp only [Option.map_eq_some_iff] at hr ⊢
    obtain ⟨xs, h1, h2⟩ := hr
    exact ⟨xs, mR (fun f hf y hy => GG hb n k f.type _ y (ha.2 (f.offset, f.type) (List.mem_map.2 ⟨f, hf, rfl⟩)) hy) h1, h2⟩
   ·cases hr
  ·rename_i m e hu
   simp only [Bool.and_eq_true] at ha
   unfold rd DataW.trod at hr
   unfold DataW.trod
   rw [hu] at hr ⊢
   change ite _ _ _ = _ at hr
   change ite _ _ _ = _
   split at hr
   ·rename_i hlen
    rw [if_pos hlen]
    simp only [Option.map_eq_some_iff] at hr ⊢
    obtain ⟨xs, h1, h2⟩ := hr
    exact ⟨xs, mR (fun i _ y hy => GG hb n k e _ y ha.2 hy) h1, h2⟩
   ·cases hr
  ·cases ha
theorem RN {W' : World} (hb : Go.RowKit.Below W.heap.size W W') {n : Nat} : ∀ {ts : List TypeId} {vs : List Value} {ds : List (DataW H)} {ps : List MemPlace}, ts.all (tT P n) = true →
  DataW.TrodAll enc P W 0 (fun _ => true) true ts vs ds ps → DataW.TrodAll enc P W' 0 (fun b => decide (b < W.heap.size)) true ts vs ds ps
 | [], [], [], _, _, hr => hr
 | t :: ts, v :: vs, d :: ds, ps, ha, hr => by
  obtain ⟨p, q, ⟨k, r1⟩, r2, r3⟩ := hr
  simp only [List.all_cons, Bool.and_eq_true] at ha
  exact ⟨p, q, ⟨k, GG hb n k t _ _ ha.1 r1⟩, RN hb ha.2 r2, r3⟩
 | [], _ :: _, _, _, _, hr => by simp [DataW.TrodAll] at hr
 | _ :: _, [], _, _, _, hr => by simp [DataW.TrodAll] at hr
 | [], [], _ :: _, _, _, hr => by simp [DataW.TrodAll] at hr
 | _ :: _, _ :: _, [], _, _, hr => by simp [DataW.TrodAll] at hr
end
end Go.bI
/-
  Ranges over maps of which nobody knows the order: all orders are gone through; what comes of a run is one of the answers.
-/
namespace Go.bI
noncomputable section
abbrev aDT := Job → Option (List R)
section
variable (C : dP) (self : Self) (nd : FuncId → Bool) (sn : aDT)
end
def FJ (base : Nat) (ρ : Ren) (nt : Nat) (s : S) (w : World) (rs : List R) : Exit → Act → World → Prop := fun ex a w' => ∃ e s', R.code e s' ∈ rs ∧ vM base ρ nt s w e s' ex a w'
def aUU (base : Nat) (ρ : Ren) (h : Hp) (w : World) (rs : List R) : Ending → World → Prop := fun en w' => ∃ r ∈ rs, EF base ρ h w r en w'
structure aI0 (C : dP) (sn : aDT) : Prop where
 code : ∀ c rd nt s rs, sn (.code c rd nt s) = some rs → ∀ base ρ w a rr m, dW base ρ s.h w → gG ρ nt s.tm a.tmps → lT ρ s.df a.defers → vL ρ rd rr → c.wpIn (iU rr) m C.P.P (FJ base ρ nt s w rs) a w
 call : ∀ f args h rs, sn (.call f args h) = some rs → Enters C.P.P f ∧ ∀ base ρ w args' m, dW base ρ h w → eO ρ args.toList args'.toList → CallsIn Fence.wide m C.P.P f args' w (aUU base ρ h w rs)
section
variable {C : dP} (hC : C.Ok) {self : Self} (hs : Sound C self) {nd : FuncId → Bool} {sn : aDT} (hn : aI0 C sn)
theorem FJ.sub {base : Nat} {ρ : Ren} {nt : Nat} {s : S} {w : World} {rs rs' : List R} (hs : ∀ x ∈ rs, x ∈ rs') {ex : Exit} {a : Act} {w' : World} (h : FJ base ρ nt s w rs ex a w') : FJ base ρ nt s w rs' ex a w' :=
 let ⟨e, s', hm, hq⟩ := h; ⟨e, s', hs _ hm, hq⟩
theorem FJ.after {base : Nat} {ρ zV : Ren} {nt : Nat} {s s1 : S} {w w1 : World} {rs : List R} (H : dW base ρ s.h w) (hst : Step base ρ s.h w zV s1.h w1) {ex : Exit} {a : Act} {w' : World} (h : FJ base zV nt s1 w1 rs ex a w') : FJ base ρ nt s w rs ex a w' :=
 let ⟨e, s', hm, hq⟩ := h; ⟨e, s', hm, hq.after H hst⟩
include hC hs hn in
include hC hs hn in
end
end
end Go.bI
/-
  Ranges over maps: code, calls; answers that hang on no order.
-/
namespace Go.bI
section
variable {C : dP} (hC : C.Ok) {self : Self} (hs : Sound C self) {nd : FuncId → Bool} {sn : aDT} (hn : aI0 C sn)
include hC hs hn in
include hC hs hn in
omit hC hs hn in
include hC hs hn in
end
end Go.bI
namespace Go.bI
theorem Step.kept {base : Nat} {ρ ρ' : Ren} {h h2 : Hp} {w w' : World} (H : dW base ρ h w) (s : Step base ρ { h with ro := h.next } w ρ' h2 w') {b : Nat} {o : bY} (hb : h.next ≤ b) (hg : h2.get b = some o) :
  Step base ρ h w ρ' { next := h2.next, ro := h.ro, aC := h.aC.put b (some o) } w' := by
 have hk : ∀ b o, w.heap[b]? = some o → w'.heap[b]? = some o := fun b o hb => s.keep b o hb (Wr.quiet H)
 have get : ∀ i, Hp.get { next := h2.next, ro := h.ro, aC := h.aC.put b (some o) } i = if i = b then some o else h.get i := fun i => T.get_put _ _ _ _
 have hnb : h.get b = none := by
  cases hh : h.get b with
  | none => rfl
  | some p => have := H.lt hh; omega
 have fresh : ∀ im, ρ' b = some im → w.heap.size ≤ im.blk := by
  intro im hi
  rcases s.news b im hi with h1 | ⟨_, h1 | h1⟩
  ·have := (H.dom b im h1).1; omega
  ·exact h1
  ·exact absurd h1 (Wr.quiet H)
 have hn : h.next ≤ h2.next := s.next
 refine ⟨s.ext, ⟨?_, ?_, s.rel.dom, H.jY, Nat.le_trans H.mH hn⟩, fun c q hc _ => hk c q hc, ?_, ?_, s.size, rfl, hn, s.os, s.tape, s.output⟩
 ·intro i q hi
  rw [get] at hi
  by_cases e : i = b
  ·rw [if_pos e] at hi
   cases hi
   subst e
   exact s.rel.obj _ _ hg
  ·rw [if_neg e] at hi
   obtain ⟨im, O, h1, h3, h4⟩ := H.obj i q hi
   exact ⟨im, O, s.ext _ _ h1, hk _ _ h3, h4.mono s.ext id⟩
 ·intro i j im jm p q hi hj h1 h3 hne hbi
  rw [get] at hi hj
  by_cases ei : i = b
  ·subst ei
   by_cases ej : j = i
   ·exact absurd ej.symm hne
   ·rw [if_neg ej] at hj
    obtain ⟨jm', _, g1, _⟩ := H.obj j q hj
    have := s.ext _ _ g1
    rw [h3] at this; cases this
    have := (H.dom j _ g1).2
    have := fresh im h1
    omega
  ·rw [if_neg ei] at hi
   obtain ⟨im', _, g1, _⟩ := H.obj i p hi
   have e1 := s.ext _ _ g1
   rw [h1] at e1; cases e1
   by_cases ej : j = b
   ·subst ej
    have := (H.dom i _ g1).2
    have := fresh jm h3
    omega
   ·rw [if_neg ej] at hj
    obtain ⟨jm', _, g2, _⟩ := H.obj j q hj
    have e2 := s.ext _ _ g2
    rw [h3] at e2; cases e2
    exact H.inj i j _ _ p q hi hj g1 g2 hne hbi
 ·intro i im hi
  rcases s.news i im hi with h1 | ⟨h1, h2 | h2⟩
  ·exact .inl h1
  ·exact .inr ⟨h1, .inl h2⟩
  ·exact absurd h2 (Wr.quiet H)
 ·intro i q hi hq
  rw [get, if_neg (by omega)] at hq
  exact ⟨q, hq⟩
noncomputable section
end
end Go.bI
/-
  Words of told texts at blocks that are known in part: rows of cells, new blocks, stores, strings compared.
-/
namespace Go.bI
section
variable {ρ : Type}
theorem oP {α β : Type} (f : α → Option β) : ∀ (l : List α) (n : Nat) (v : α), l[n]? = some v → BB l n f = f v
 | [], n, v, h => by simp at h
 | a :: l, 0, v, h => by simp at h; subst h; rfl
 | a :: l, n + 1, v, h => oP f l n v (by simpa using h)
theorem K5 (n b o : Nat) (k : Value → Option ρ) : aO n (.pointer (some ⟨b, o, none⟩)) k = k (.pointer (some ⟨b, o + n, none⟩)) := by
 show iF (Nat.add o n) (fun o => k (.pointer (some ⟨b, o, none⟩))) = _
 rw [dM]; rfl
theorem bG {l : List Value} {i : Nat} {v : Value} (h : l[i]? = some v) (k : Value → Option ρ) : eB (.tuple (Array.mk l)) i k = k v := oP k l i v h
theorem YP {α : Type} : ∀ (n : Nat) (l : List α) (k : List α → Option ρ), n ≤ l.length → xL l n k = k (l.take n)
 | 0, l, k, _ => rfl
 | n + 1, [], k, h => by simp at h
 | n + 1, a :: l, k, h => by
  show xL l n (fun r => k (a :: r)) = _
  rw [YP n l _ (by simpa using h)]; rfl
theorem MU {h : Hp} {b : Nat} {c : List Value} {t : TypeId} {s : Option Nat} (hg : h.get b = some (.cells c t s)) (f : List Value → TypeId → Option Nat → Option ρ) : D7 h b f = f c t s := by
 unfold D7
 rw [T.VL, show h.aC.get b = some (.cells c t s) from hg]; rfl
theorem fB {h : Hp} {b o : Nat} {c : List Value} {t : TypeId} {s : Option Nat} {v : Value} (hg : h.get b = some (.cells c t s)) (hv : c[o]? = some v) (k : Value → Option ρ) : aJ h (.pointer (some ⟨b, o, none⟩)) k = k v := by
 show D7 h b (fun c _ _ => BB c o k) = _
 rw [MU hg, oP k c o v hv]
theorem aB4 {h : Hp} {b o n : Nat} {c : List Value} {t : TypeId} {s : Option Nat} (hg : h.get b = some (.cells c t s)) (hn : o + n ≤ c.length) (k : Value → Option ρ) :
  aT n h (.pointer (some ⟨b, o, none⟩)) k = k (.agg (Array.mk ((c.drop o).take n))) := by
 show D7 h b (fun c _ _ => zJ c o fun c => xL c n fun l => k (.agg (Array.mk l))) = _
 rw [MU hg, xK, YP _ _ _ (by simp; omega)]
theorem OW {α : Type} : ∀ (l : List α) (n : Nat) (x : α), n < l.length → yV l n x = some (l.set n x)
 | [], n, x, h => by simp at h
 | a :: l, 0, x, h => rfl
 | a :: l, n + 1, x, h => by
  simp only [yV, OW l n x (by simpa using h)]
  rfl
theorem kY {h : Hp} {b o : Nat} {c : List Value} {t : TypeId} {s : Option Nat} {x : Value} (hg : h.get b = some (.cells c t s)) (hro : h.ro ≤ b) (hx : oneCell x = true) (ho : o < c.length) (k : Hp → Option ρ) :
  iB h (.pointer (some ⟨b, o, none⟩)) x k = k (h.upd b (.cells (c.set o x) t s)) := by
 show bU (Nat.ble h.ro b) (bU (X4 x) (D7 h b fun c e s => DC c o x fun c => h.aC.XZ b (some (.cells c e s)) fun aC => k ⟨h.next, h.ro, aC⟩) none) none = _
 rw [show Nat.ble h.ro b = true from by rw [Nat.ble_eq]; exact hro, G5, hx]
 show D7 h b _ = _
 rw [MU hg, yU, OW _ _ _ ho]
 show h.aC.XZ b _ _ = _
 rw [T.GZ]; rfl
theorem YQ : ∀ (xs c : List Value) (k : List Value → Option ρ), xs.length ≤ c.length → xs.all oneCell = true → OA xs c k = k (xs ++ c.drop xs.length)
 | [], c, k, _, _ => by show pG c k = _; rw [kI]; simp
 | x :: xs, [], k, h, _ => by simp at h
 | x :: xs, a :: c, k, h, h2 => by
  simp only [List.all_cons, Bool.and_eq_true] at h2
  show bU (X4 x) (OA xs c fun r => k (x :: r)) none = _
  rw [G5, h2.1]
  show OA xs c (fun r => k (x :: r)) = _
  rw [YQ xs c _ (by simpa using h) h2.2]; rfl
theorem aD0 (xs : List Value) : ∀ (o : Nat) (c : List Value) (k : List Value → Option ρ), o + xs.length ≤ c.length → xs.all oneCell = true → VO o xs c k = k (c.take o ++ xs ++ c.drop (o + xs.length))
 | 0, c, k, h, h2 => by
  show OA xs c k = _
  rw [YQ xs c k (by omega) h2]; simp
 | o + 1, [], k, h, _ => by simp at h
 | o + 1, a :: c, k, h, h2 => by
  show VO o xs c (fun r => k (a :: r)) = _
  rw [aD0 xs o c _ (by simp at h; omega) h2, show o + 1 + xs.length = (o + xs.length) + 1 by omega]; simp
theorem vY {n : Nat} {h : Hp} {b o : Nat} {c l : List Value} {t : TypeId} {s : Option Nat} (hg : h.get b = some (.cells c t s)) (hro : h.ro ≤ b) (hl : l.length = n) (hx : l.all oneCell = true) (ho : o + n ≤ c.length) (k : Hp → Option ρ) :
  dY n h (.pointer (some ⟨b, o, none⟩)) (.agg (Array.mk l)) k = k (h.upd b (.cells (c.take o ++ l ++ c.drop (o + l.length)) t s)) := by
 show bU (Nat.ble h.ro b) (bU (Nat.beq (Q6 l) n) (D7 h b fun c e s => VO o l c fun c => h.aC.XZ b (some (.cells c e s)) fun aC => k ⟨h.next, h.ro, aC⟩) none) none = _
 rw [show Nat.ble h.ro b = true from by rw [Nat.ble_eq]; exact hro, MQ, hl, show Nat.beq n n = true from Nat.beq_refl n]
 show D7 h b _ = _
 rw [MU hg, aD0 _ _ _ _ (by omega) hx]
 show h.aC.XZ b _ _ = _
 rw [T.GZ]
 subst hl; rfl
theorem bT {α : Type} (h : Hp) (e : TypeId) (c : List Value) (k : Value → Hp → α) : bC h e c k = k (.pointer (some ⟨h.next, 0, none⟩)) (h.add (.cells c e none)) := JJ h e c k
theorem aQL (a b : Int) (f : Int → Option ρ) : aF9 a b f = f (max a b) := by
 unfold aF9; rw [aW, aH]
 by_cases hh : a < b
 ·rw [if_pos (by simpa using hh), show max a b = b by omega]
 ·rw [if_neg (by simpa using hh), show max a b = a by omega]
theorem bD (h : Hp) (o : bY) (i : Nat) : (h.add o).get i = if i = h.next then some o else h.get i := by
 unfold Hp.get Hp.add
 simp only [T.get_put]
theorem bL (h : Hp) (o : bY) (b i : Nat) : (h.upd b o).get i = if i = b then some o else h.get i := by
 unfold Hp.get Hp.upd
 simp only [T.get_put]
theorem kZ (h : Hp) (o : bY) : (h.add o).next = h.next + 1 := rfl
theorem FN (h : Hp) (o : bY) : (h.add o).ro = h.ro := rfl
end
def Wf (h : Hp) : Prop := h.ro ≤ h.next ∧ ∀ i o, h.get i = some o → i < h.next
structure aV (h h' : Hp) : Prop where
 wf : Wf h'
 sub : Sub h h'
 next : h.next ≤ h'.next
 ro : h'.ro = h.ro
theorem aV.refl {h : Hp} (w : Wf h) : aV h h := ⟨w, fun _ _ e => e, Nat.le_refl _, rfl⟩
theorem aV.trans {a b c : Hp} (x : aV a b) (y : aV b c) : aV a c := ⟨y.wf, fun i o e => y.sub i o (x.sub i o e), Nat.le_trans x.next y.next, y.ro.trans x.ro⟩
theorem Wf.add {h : Hp} (w : Wf h) (o : bY) : Wf (h.add o) := by
 refine ⟨Nat.le_trans w.1 (Nat.le_succ _), fun i p e => ?_⟩
 rw [bD] at e
 show i < h.next + 1
 split at e
 ·omega
 ·have := w.2 i p e; omega
theorem aV.add {h : Hp} (w : Wf h) (o : bY) : aV h (h.add o) := ⟨w.add o, fun i p e => by
 rw [bD, if_neg (by have := w.2 i p e; omega)]; exact e, Nat.le_succ _, rfl⟩
theorem Wf.upd {h : Hp} (w : Wf h) {b : Nat} (hb : b < h.next) (o : bY) : Wf (h.upd b o) := by
 refine ⟨w.1, fun i p e => ?_⟩
 rw [bL] at e
 show i < h.next
 split at e
 ·omega
 ·exact w.2 i p e
theorem aV.upd {h h' : Hp} (w : Wf h) (g : aV h h') {b : Nat} (hb : h.next ≤ b) (hb2 : b < h'.next) (o : bY) : aV h (h'.upd b o) :=
 ⟨g.wf.upd hb2 o, fun i p e => by
  have := w.2 i p e
  rw [bL, if_neg (by omega)]; exact g.sub i p e, g.next, g.ro⟩
def At (h : Hp) (p : Value) (r : List Value) : Prop := ∃ b o c t s, p = .pointer (some ⟨b, o, none⟩) ∧ h.get b = some (.cells c t s) ∧ o + r.length ≤ c.length ∧ ∀ (k : Nat) (x : Value), r[k]? = some x → c[o + k]? = some x
def Rows (h : Hp) (z : Nat) (v : Value) (rs : List (List Value)) : Prop :=
 (∃ c, v = .slice none rs.length c ∧ rs = []) ∨ ∃ b o cap c t s, v = .slice (some ⟨b, o, none⟩) rs.length cap ∧ (rs ≠ [] → h.get b = some (.cells c t s)) ∧
  ∀ i r, rs[i]? = some r → r.length = z ∧ o + i * z + z ≤ c.length ∧ ∀ (k : Nat) (x : Value), r[k]? = some x → c[o + i * z + k]? = some x
section
variable {ρ : Type}
theorem At.sub {h h' : Hp} (hs : Sub h h') {p : Value} {r : List Value} (a : At h p r) : At h' p r := by
 obtain ⟨b, o, c, t, s, h1, h2, h3⟩ := a
 exact ⟨b, o, c, t, s, h1, hs _ _ h2, h3⟩
theorem Rows.sub {h h' : Hp} (hs : Sub h h') {z : Nat} {v : Value} {rs : List (List Value)} (a : Rows h z v rs) : Rows h' z v rs := by
 rcases a with a | ⟨b, o, cap, c, t, s, h1, h2, h3⟩
 ·exact .inl a
 ·exact .inr ⟨b, o, cap, c, t, s, h1, fun e => hs _ _ (h2 e), h3⟩
theorem Rows.len {h : Hp} {z : Nat} {v : Value} {rs : List (List Value)} (a : Rows h z v rs) (k : Int → Option ρ) : bS v k = k (rs.length : Int) := by
 rcases a with ⟨c, rfl, _⟩ | ⟨b, o, cap, c, t, s, rfl, _⟩ <;> rfl
theorem Rows.at {h : Hp} {z : Nat} {v : Value} {rs : List (List Value)} (a : Rows h z v rs) {i : Nat} {r : List Value} (hi : rs[i]? = some r) : ∃ p, (∀ (ρ : Type) (k : Value → Option ρ), dN z v (i : Int) k = k p) ∧ At h p r ∧ r.length = z := by
 have hlt := (List.getElem?_eq_some_iff.1 hi).1
 rcases a with ⟨c, rfl, rfl⟩ | ⟨b, o, cap, c, t, s, rfl, h2, h3⟩
 ·simp at hi
 ·obtain ⟨g1, g2, g3⟩ := h3 i r hi
  refine ⟨_, fun ρ k => IC z b o rs.length cap i hlt k, ⟨b, o + i * z, c, t, s, rfl, h2 (by rintro rfl; simp at hi), by omega, g3⟩, g1⟩
theorem At.j6 {h : Hp} {p : Value} {r : List Value} (a : At h p r) {x : Value} (hx : r[0]? = some x) (k : Value → Option ρ) : aJ h p k = k x := by
 obtain ⟨b, o, c, t, s, rfl, h2, h3, h4⟩ := a
 exact fB h2 (by simpa using h4 0 x hx) k
theorem At.wP {h : Hp} {p : Value} {r : List Value} (a : At h p r) (n : Nat) {x : Value} (hx : r[n]? = some x) (k : Value → Option ρ) : aO n p (fun q => aJ h q k) = k x := by
 obtain ⟨b, o, c, t, s, rfl, h2, h3, h4⟩ := a
 rw [K5, fB h2 (h4 n x hx) k]
theorem At.eX {h : Hp} {p : Value} {r : List Value} (a : At h p r) {z : Nat} (hz : r.length = z) (k : Value → Option ρ) : aT z h p k = k (.agg (Array.mk r)) := by
 obtain ⟨b, o, c, t, s, rfl, h2, h3, h4⟩ := a
 rw [aB4 h2 (by omega) k]
 congr 3
 apply List.ext_getElem?
 intro j
 rw [List.getElem?_take, List.getElem?_drop]
 by_cases hj : j < z
 ·rw [if_pos hj]
  have := h4 j r[j] (List.getElem?_eq_getElem (by omega))
  rw [this, List.getElem?_eq_getElem (by omega)]
 ·rw [if_neg hj, eq_comm, List.getElem?_eq_none_iff]; omega
theorem At.part {h : Hp} {p : Value} {r : List Value} (a : At h p r) (n m : Nat) (hm : n + m ≤ r.length) : ∃ q, (∀ (ρ : Type) (k : Value → Option ρ), aO n p k = k q) ∧ At h q ((r.drop n).take m) := by
 obtain ⟨b, o, c, t, s, rfl, h2, h3, h4⟩ := a
 refine ⟨_, fun ρ k => K5 n b o k, b, o + n, c, t, s, rfl, h2, by simp; omega, fun k x hx => ?_⟩
 rw [List.getElem?_take] at hx
 split at hx
 ·rw [List.getElem?_drop] at hx
  rw [show o + n + k = o + (n + k) by omega]; exact h4 _ _ hx
 ·cases hx
theorem At.new {h : Hp} {c : List Value} {e : TypeId} {s : Option Nat} : At (h.add (.cells c e s)) (.pointer (some ⟨h.next, 0, none⟩)) c :=
 ⟨h.next, 0, c, e, s, rfl, by rw [bD, if_pos rfl], by omega, fun k x hx => by simpa using hx⟩
end
end Go.bI
namespace Go.bI
section
variable {E : Env}
theorem OX (t : TypeId) (xo yo : Operand) (a b : ByteArray) : qQ E .eql t xo yo (.string a) (.string b) = some (.bool (a.toList == b.toList)) := by
 show vJ E .eql t xo yo (.string a) (.string b) = _
 unfold vJ
 rfl
end
end Go.bI
/-
  What arguments show, type by type.
-/
namespace Go.bI
def EZ (P : Program) (t : TypeId) : Option (List (Nat × TypeId)) := match P.underlying t with | some (.struct fs) => some (partsOf fs) | _ => none
def XE (P : Program) (t : TypeId) : Option TypeId := match P.underlying t with | some (.slice e) => some e | _ => none
def aH1 (P : Program) (t : TypeId) : Option IntKind := match P.underlying t with | some (.int k) => some k | _ => none
def aUF (P : Program) (t : TypeId) : Bool := match P.underlying t with | some .string => true | _ => false
def boolT (P : Program) (t : TypeId) : Bool := match P.underlying t with | some .bool => true | _ => false
def aYG (P : Program) (t : TypeId) : Option (Nat × TypeId) := match P.underlying t with | some (.array m e) => some (m, e) | _ => none
section
variable {P : Program} {h : Hp} {n : Nat} {t : TypeId} {cs : List Value}
theorem Arg.parts {l : List (Nat × TypeId)} (a : Arg P h (n + 1) t cs) (e : EZ P t = some l) : cs.length = P.cellsOf t ∧ ∀ x ∈ l, Arg P h n x.2 ((cs.drop x.1).take (P.cellsOf x.2)) := by
 unfold EZ at e
 split at e
 ·rename_i fs hu
  cases e
  unfold Arg at a
  rw [hu] at a
  exact a
 ·cases e
theorem Arg.elem {e : TypeId} (a : Arg P h (n + 1) t cs) (he : XE P t = some e) : cs = [.slice none 0 0] ∨ ∃ b m c te, cs = [.slice (some ⟨b, 0, none⟩) m m] ∧ m ≤ maxLen ∧ h.get b = some (.cells c te (some (P.cellsOf e))) ∧ c.length = m * P.cellsOf e ∧
    ∀ i, i < m → Arg P h n e ((c.drop (i * P.cellsOf e)).take (P.cellsOf e)) := by
 unfold XE at he
 split at he
 ·rename_i e' hu
  cases he
  unfold Arg at a
  rw [hu] at a
  exact a
 ·cases he
theorem Arg.int {k : IntKind} (a : Arg P h (n + 1) t cs) (e : aH1 P t = some k) : ∃ i, cs = [.int k i] ∧ (Lit.int k i).wf = true := by
 unfold aH1 at e
 split at e
 ·rename_i k' hu
  cases e
  unfold Arg at a
  rw [hu] at a
  exact a
 ·cases e
theorem Arg.str (a : Arg P h (n + 1) t cs) (e : aUF P t = true) : ∃ s : ByteArray, cs = [.string s] ∧ s.size ≤ maxLen := by
 unfold aUF at e
 split at e
 ·rename_i hu
  unfold Arg at a
  rw [hu] at a
  exact a
 ·cases e
theorem Arg.bool (a : Arg P h (n + 1) t cs) (e : boolT P t = true) : ∃ b, cs = [.bool b] := by
 unfold boolT at e
 split at e
 ·rename_i hu
  unfold Arg at a
  rw [hu] at a
  exact a
 ·cases e
def lV (h : Hp) (z : Nat) (v : Value) (rs : List (List Value)) : Prop := (v = .slice none 0 0 ∧ rs = []) ∨ ∃ b c t, v = .slice (some ⟨b, 0, none⟩) rs.length rs.length ∧ h.get b = some (.cells c t (some z)) ∧
 ∀ i r, rs[i]? = some r → r.length = z ∧ i * z + z ≤ c.length ∧ ∀ (k : Nat) (x : Value), r[k]? = some x → c[i * z + k]? = some x
theorem Arg.sl {e : TypeId} {z : Nat} (a : Arg P h (n + 1) t cs) (he : XE P t = some e) (hz : P.cellsOf e = z) : ∃ v rs, cs = [v] ∧ lV h z v rs ∧ ∀ r ∈ rs, Arg P h n e r := by
 subst hz
 rcases a.elem he with rfl | ⟨b, m, c, te, rfl, _, hg, hl, ha⟩
 ·exact ⟨_, [], rfl, .inl ⟨rfl, rfl⟩, fun r hr => by cases hr⟩
 ·refine ⟨_, (List.range m).map fun i => (c.drop (i * P.cellsOf e)).take (P.cellsOf e), rfl, .inr ⟨b, c, te, by simp, hg, ?_⟩, ?_⟩
  ·intro i r hr
   rw [List.getElem?_map] at hr
   cases hi : (List.range m)[i]? with
   | none => rw [hi] at hr; cases hr
   | some j =>
    rw [hi] at hr
    cases hr
    obtain ⟨hlt', hj⟩ := List.getElem?_eq_some_iff.1 hi
    have hlt : i < m := by simpa using hlt'
    have hj : j = i := by simpa using hj.symm
    subst hj
    have hle : j * P.cellsOf e + P.cellsOf e ≤ c.length := by
     rw [hl, ← Nat.succ_mul]
     exact Nat.mul_le_mul_right _ hlt
    refine ⟨by simp; omega, hle, fun k x hx => ?_⟩
    rw [List.getElem?_take] at hx
    split at hx
    ·rw [List.getElem?_drop] at hx; exact hx
    ·cases hx
  ·intro r hr
   obtain ⟨i, hi, rfl⟩ := List.mem_map.1 hr
   exact ha i (List.mem_range.1 hi)
theorem MI {α : Type} (row : α → List Value) : ∀ (rs : List (List Value)), (∀ r ∈ rs, ∃ g, r = row g) → ∃ gs : List α, rs = gs.map row
 | [], _ => ⟨[], rfl⟩
 | r :: rs, h => by
  obtain ⟨g, rfl⟩ := h r (.head _)
  obtain ⟨gs, rfl⟩ := MI row rs (fun r hr => h r (.tail _ hr))
  exact ⟨g :: gs, rfl⟩
end
section
variable {H : Type} {enc : TypeId × Value → H} {P : Program} {W : World}
theorem aAQ {C : dP} (hC : C.Ok) {f : FuncId} {n b0 : Nat} {ts : List TypeId} {args : Array Value} {ds : List (DataW H)} {ps : List MemPlace}
  (hrun : ∀ (h : Hp) (LW : List Value), Wf h → h.ro = h.next → tV C.P.P h n ts LW → ∃ h', eG C (.call f LW.toArray h) (.ret (.bool true) h'))
  (hw : W.ShapedOpen C.P.P) (hok : ∀ (j : Nat) t v, ts[j]? = some t → args.toList[j]? = some v → Value.okWide C.P.P W .any b0 t v)
  (hr : DataW.TrodAll enc C.P.P W 0 (fun _ => true) true ts args.toList ds ps) (ha : ts.all (tT C.P.P n) = true) :
  Calls C.P.P f args W fun e W' => e = .returned (.bool true) ∧ Go.RowKit.Below W.heap.size W W' := by
 obtain ⟨ρ, h, hp, _, _, LW, hl, haa⟩ := IZ (M8 hw) hok hr ha (EY.nil W)
 have hH := hp.hrel
 obtain ⟨h', N, hrun⟩ := hrun (shut h) LW ⟨Nat.le_refl _, fun i o hi => hH.lt hi⟩ rfl (tV.sub (h := h) (h' := shut h) (fun _ _ e => e) haa)
 obtain ⟨_, g2⟩ := (tX hC N).call f LW.toArray (shut h) _ hrun
 refine callsIn_wide.1 ((g2 h.next ρ W args 0 hH hl).mono ?_)
 rintro e W' ⟨v', ρ', rfl, hst, hv⟩
 cases hv
 refine ⟨rfl, hst.os, hst.tape, hst.output, hst.size, fun k hk => ?_⟩
 rw [Array.getElem?_eq_getElem hk]
 refine hst.keep k _ (Array.getElem?_eq_getElem hk) ?_
 rintro ⟨i, o, im, hi, hro, hρ, _⟩
 have := (hH.dom i im hρ).1
 have h3 : (shut h).ro = (shut h).next := rfl
 omega
end
section
variable {P : Program} {h : Hp} {n : Nat} {t : TypeId} {v : Value}
theorem M9.agg (a : M9 P h n t v) (e : (EZ P t).isSome = true ∨ (aYG P t).isSome = true) : ∃ cs : List Value, v = .agg cs.toArray ∧ Arg P h n t cs := by
 unfold M9 at a
 unfold EZ aYG at e
 split at a
 ·exact a
 ·exact a
 ·rename_i h1 h2
  exfalso
  rcases e with e | e
  ·split at e
   ·exact h1 _ ‹_›
   ·cases e
  ·split at e
   ·exact h2 _ _ ‹_›
   ·cases e
end
end Go.bI
/-
  '==' of two arrays of integers.
-/
namespace Go.bI
section
variable {E : Env} (hE : E.Ok)
include hE in
theorem aDL {el : TypeId} (hu : gL E el = some (.int .i64)) {d : Nat} {xs ys : List Int} : ∀ (m i : Nat), i + m = xs.length → i + m = ys.length →
  pR E.P (do
   let s ← forIn (List.range' i m) ((none : Option Bool), ()) fun i _ => do
    let a ← part el (Array.mk (xs.map (Value.int .i64))) (i * 1)
    let c ← part el (Array.mk (ys.map (Value.int .i64))) (i * 1)
    let e ← Op.equalIn (d + 1) el a c
    if (!e) = true then pure (ForInStep.done (some false, ())) else pure (ForInStep.yield (none, ()))
   match s.fst with
   | some r => pure r
   | none => pure true : Sem Bool) = some (decide (xs.drop i = ys.drop i))
 | 0, i, hx, hy => by
  rw [List.drop_of_length_le (show xs.length ≤ i by omega), List.drop_of_length_le (show ys.length ≤ i by omega)]
  rfl
 | m + 1, i, hx, hy => by
  have hi : i < xs.length := by omega
  have hj : i < ys.length := by omega
  have gx : (Array.mk (xs.map (Value.int .i64)))[i * 1]? = some (.int .i64 xs[i]) := by rw [Nat.mul_one, List.getElem?_toArray, List.getElem?_map, List.getElem?_eq_getElem hi]; rfl
  have gy : (Array.mk (ys.map (Value.int .i64)))[i * 1]? = some (.int .i64 ys[i]) := by rw [Nat.mul_one, List.getElem?_toArray, List.getElem?_map, List.getElem?_eq_getElem hj]; rfl
  rw [List.range'_succ, List.forIn_cons]
  simp only [bind_assoc]
  rw [dI, GH hE hu gx]
  simp only [Option.bind_some]
  rw [dI, GH hE hu gy]
  simp only [Option.bind_some]
  rw [dI, RO hE hu]
  simp only [Option.bind_some]
  rw [List.drop_eq_getElem_cons hi, List.drop_eq_getElem_cons hj]
  cases hab : (xs[i] == ys[i]) with
  | false =>
   have : xs[i] ≠ ys[i] := by simpa using hab
   rw [decide_eq_false (fun h => this (List.cons.inj h).1)]
   simp only [Bool.not_false, if_true, pure_bind]
   rfl
  | true =>
   have : xs[i] = ys[i] := by simpa using hab
   simp only [Bool.not_true, Bool.false_eq_true, if_false, pure_bind]
   rw [aDL hu m (i + 1) (by omega) (by omega), this]
   congr 1
   exact decide_eq_decide.2 ⟨fun h => by rw [h], fun h => (List.cons.inj h).2⟩
include hE in
theorem aH2 {t el : TypeId} {n : Nat} (hu : gL E t = some (.array n el)) (he : gL E el = some (.int .i64)) (hz : pR E.P (sizeOf el) = some 1) (hg : E.P.eqGuardType E.P.depth t = false) (hq : (E.ty.get t).bind (fun i => i.eqs) = none)
  (xo yo : Operand) {xs ys : List Int} (hx : xs.length = n) (hy : ys.length = n) : qQ E .eql t xo yo (.agg (Array.mk (xs.map (Value.int .i64)))) (.agg (Array.mk (ys.map (Value.int .i64)))) = some (.bool (decide (xs = ys))) := by
 have pl : ∀ l : List Int, plain (.agg (Array.mk (l.map (Value.int .i64)))) = true := fun l => by
  show (l.map (Value.int .i64)).all (fU 5) = true
  rw [List.all_map, List.all_eq_true]
  intro x _
  rfl
 have h1 : E5 E .eql t (.agg (Array.mk (xs.map (Value.int .i64)))) (.agg (Array.mk (ys.map (Value.int .i64)))) = none := by
  unfold E5
  simp only [hq, Option.bind_none]
 have h2 : pR E.P (Op.equal t (.agg (Array.mk (xs.map (Value.int .i64)))) (.agg (Array.mk (ys.map (Value.int .i64))))) = some (decide (xs = ys)) := by
  show pR E.P (Op.equalIn (9998 + 1 + 1) t _ _) = _
  unfold Op.equalIn
  rw [dI, xA hE hu]
  simp only [Option.bind_some]
  rw [dI, hz]
  simp only [Option.bind_some]
  have := aDL hE he (d := 9998) (xs := xs) (ys := ys) n 0 (by omega) (by omega)
  rw [List.drop_zero, List.drop_zero] at this
  refine Eq.trans ?_ this
  simp only [Std.Legacy.Range.forIn_eq_forIn_range']
  rw [show (Std.Legacy.Range.size { stop := n, step_pos := Nat.zero_lt_one }) = n by simp [Std.Legacy.Range.size]]
  congr 1
  congr 1
  funext f
  obtain ⟨f1, u⟩ := f
  cases f1 <;> rfl
 have h3 : pR E.P (eqGuard .eql t xo yo (.agg (Array.mk (xs.map (Value.int .i64)))) (.agg (Array.mk (ys.map (Value.int .i64))))) = some () := by
  unfold eqGuard
  simp only [Bool.not_true, Bool.false_eq_true, if_false]
  rw [dI]
  simp only [program, pR, Option.bind_some]
  rw [dI]
  simp only [pR, Option.bind_some, hg]
  rfl
 have h4 : MJ .eql (.agg (Array.mk (xs.map (Value.int .i64)))) (.agg (Array.mk (ys.map (Value.int .i64)))) = none := rfl
 unfold qQ
 rw [h4]
 simp only
 unfold mM
 rw [h1]
 simp only
 unfold vJ
 rw [pl, pl]
 simp only [Bool.and_self]
 rw [dI, h3]
 simp only [Option.bind_some, binOp]
 rw [dI, h2]
 rfl
end
end Go.bI
/-
  Ranges over functions, told: what yield does is handed on as a function; a round is told by itself.
-/
namespace Go.bI
section
variable {C : dP} {self : Self} {rd : Option Nat} {nt : Nat} {ops : Array Oper}
theorem aD7 {o : Oper} {s s' : S} (e : jP C self rd nt ops o s = some (.code .normal s')) :
  ∃ add, s'.df = add ++ s.df ∧ ∀ D, jP C self rd nt ops o { s with df := D } = some (.code .normal { s' with df := add ++ D }) := by
 unfold jP at e
 unfold jP
 dsimp only
 split at e
 ·replace e := aA e; obtain ⟨tm, mX, e⟩ := e
  cases e
  exact ⟨[], rfl, fun D => by simp only [mX, Option.bind_some, List.nil_append]⟩
 ·replace e := aA e; obtain ⟨r, hr, e⟩ := e
  cases r with
  | val v h =>
   replace e := aA e; obtain ⟨tm, mX, e⟩ := e
   cases e
   exact ⟨[], rfl, fun D => by simp only [hr, mX, Option.bind_some, List.nil_append]⟩
  | pan v => cases e
  | dfr d =>
   dsimp only at e
   cases rd with
   | none =>
    dsimp only at e
    replace e := aA e; obtain ⟨tm, mX, e⟩ := e
    cases e
    exact ⟨[d], rfl, fun D => by simp only [hr, mX, Option.bind_some, List.singleton_append]⟩
   | some l => cases e
  | call fn args =>
   dsimp only at e
   replace e := aA e; obtain ⟨r2, hr2, e⟩ := e
   cases r2 with
   | ret v h =>
    dsimp only at e
    replace e := aA e; obtain ⟨tm, mX, e⟩ := e
    cases e
    exact ⟨[], rfl, fun D => by simp only [hr, hr2, mX, Option.bind_some, List.nil_append]⟩
   | pan v h => cases e
   | code _ _ => cases e
   | mode _ _ => cases e
theorem aD8 : ∀ (l : List Oper) {s s' : S}, opsV C self rd nt ops l s = some (.code .normal s') →
  ∃ add, s'.df = add ++ s.df ∧ ∀ D, opsV C self rd nt ops l { s with df := D } = some (.code .normal { s' with df := add ++ D })
 | [], s, s', e => by cases e; exact ⟨[], rfl, fun D => rfl⟩
 | o :: rest, s, s', e => by
  unfold opsV at e
  replace e := aA e; obtain ⟨r, hr, e⟩ := e
  split at e
  ·rename_i s1
   obtain ⟨a1, h1, k1⟩ := aD7 hr
   obtain ⟨a2, h2, k2⟩ := aD8 rest e
   refine ⟨a2 ++ a1, by rw [h2, h1, List.append_assoc], fun D => ?_⟩
   unfold opsV
   rw [k1 D]
   simp only [Option.bind_some]
   rw [k2 (a1 ++ D), List.append_assoc]
  ·rename_i x s1 hx
   cases e
   exact absurd rfl hx
  ·cases e
theorem YW {ms : List Nat} {ls : List Left} : ∀ (rest ks : List Nat) {s s' : S}, tailV C self rd nt ops ms ls rest ks s = some (.code .normal s') →
  ∃ add, s'.df = add ++ s.df ∧ ∀ D, tailV C self rd nt ops ms ls rest ks { s with df := D } = some (.code .normal { s' with df := add ++ D })
 | rest, [], s, s', e => by
  unfold tailV at e
  replace e := aA e; obtain ⟨tm, mX, e⟩ := e
  replace e := aA e; obtain ⟨aC, hob, e⟩ := e
  cases e
  exact ⟨[], rfl, fun D => by unfold tailV; simp only [mX, hob, Option.bind_some, List.nil_append]⟩
 | rest, k :: ks, s, s', e => by
  unfold tailV at e
  replace e := aA e; obtain ⟨o, ho, e⟩ := e
  replace e := aA e; obtain ⟨tm, mX, e⟩ := e
  replace e := aA e; obtain ⟨aC, hob, e⟩ := e
  replace e := aA e; obtain ⟨r, hr, e⟩ := e
  split at e
  ·rename_i s1
   obtain ⟨a1, h1, k1⟩ := aD7 hr
   obtain ⟨a2, h2, k2⟩ := YW _ ks e
   refine ⟨a2 ++ a1, by rw [h2, h1, List.append_assoc], fun D => ?_⟩
   unfold tailV
   rw [ho]
   simp only [Option.bind_some, mX, hob]
   have := k1 D
   simp only at this
   rw [this]
   simp only [Option.bind_some]
   rw [k2 (a1 ++ D), List.append_assoc]
  ·split at e
   ·cases e
   ·cases e
  ·cases e
theorem aJM {s s' : S} (e : pY C self rd nt ops s = some (.code .normal s')) :
  ∃ add, s'.df = add ++ s.df ∧ ∀ D, pY C self rd nt ops { s with df := D } = some (.code .normal { s' with df := add ++ D }) := by
 unfold pY at e
 replace e := aP e; obtain ⟨hok, e⟩ := e
 replace e := aA e; obtain ⟨⟨ls, n⟩, hq, e⟩ := e
 obtain ⟨add, h1, h2⟩ := YW _ _ e
 refine ⟨add, h1, fun D => ?_⟩
 have hq' : ∀ (is : List Nat) (ls0 : List Left) (n0 : Nat), jO C self nt ops (masks ops.toList []) { s with df := D } is ls0 n0 = jO C self nt ops (masks ops.toList []) s is ls0 n0 := by
  intro is
  induction is with
  | nil => intro ls0 n0; rfl
  | cons i is ih => intro ls0 n0; unfold jO; congr 1; funext x; exact ih _ _
 unfold pY
 simp only [hok, XG, hq', hq, Option.bind_some]
 exact h2 D
theorem TM {id : Nat} {d : Bool} {tm tm' : T Value} {h h' : Hp} (e : eG C (.code (.region id ops d) rd nt (st tm h)) (.code .normal (st tm' h'))) (D : List Deferred) :
  eG C (.code (.region id ops d) rd nt ⟨tm, D, h⟩) (.code .normal ⟨tm', D, h'⟩) := by
 obtain ⟨n, e⟩ := e
 cases n with
 | zero => cases e
 | succ n =>
  refine .aY ⟨n, ?_⟩
  replace e : eT C (run C n) (.region id ops d) rd nt (st tm h) = some (.code .normal (st tm' h')) := e
  show eT C (run C n) (.region id ops d) rd nt ⟨tm, D, h⟩ = _
  cases d with
  | false =>
   obtain ⟨add, h1, h2⟩ := aD8 ops.toList (show opsV C (run C n) rd nt ops ops.toList (st tm h) = _ from e)
   have : add = [] := by simpa [st] using h1
   subst this
   exact h2 D
  | true =>
   obtain ⟨add, h1, h2⟩ := aJM (show pY C (run C n) rd nt ops (st tm h) = _ from e)
   have : add = [] := by simpa [st] using h1
   subst this
   exact h2 D
end
end Go.bI
/-
  The steps of code that ranges over functions.
-/
namespace Go.bI.Y
open Go.bI
noncomputable section
structure Z where
 tm : Option (T Value)
 ds : List Nat
abbrev KZ := iQ → Z → Hp → aF
abbrev rW := Nat → AL → Z → Hp → aF
abbrev YF := Nat → List Value → Hp → aF
abbrev FY := FuncId → YF → List Value → Hp → aF
abbrev RG := Nat → Nat → AL → Z → List Value → Hp → aF
def Z.put (z : Z) (d : Nat) (v : Value) : Z := ⟨Option.rec (motive := fun _ => Option (T Value)) none (fun t => some (t.put d (some v))) z.tm, z.ds⟩
def Z.lose (z : Z) : Z := ⟨none, z.ds⟩
def Z.mark (z : Z) (mk : List Nat) : Z := ⟨z.tm, mk ++ z.ds⟩
def dfs (ds : List Nat) : List Deferred := ds.map fun d => { target := .collected d, args := #[] }
def ZT (z : Z) (tm : T Value) : Prop := ∀ t, z.tm = some t → tm = t
def BQ (tm : T Value) (z : Z) (h : Hp) : S := { tm, df := dfs z.ds, h }
theorem ZT.put {z : Z} {tm : T Value} (H : ZT z tm) (d : Nat) (v : Value) : ZT (z.put d v) (tm.put d (some v)) := by
 intro t e
 obtain ⟨zt, zd⟩ := z
 cases zt with
 | none => cases e
 | some t0 =>
  have := H t0 rfl
  subst this
  exact Option.some.inj e
theorem ZT.lose {z : Z} {tm : T Value} : ZT z.lose tm := fun _ e => (by cases e)
inductive Frame where
 | seq (b : Code) (A : eU)
 | block (id : Nat)
 | loop (b : Code) (A : eU)
 | gate (b : Code) (A : eU)
structure wY where
 l : Nat
 keep : List (Nat × Kd)
 code : Code
 D5 : eU
 fs : List Frame
def jump (σ : rW) (l : Nat) (keep : List (Nat × Kd)) : KZ := fun r z h => zN keep r fun al => σ l al z h
def pF (σ : rW) : Option (Nat × List (Nat × Kd)) → KZ
 | some (l, keep) => jump σ l keep
 | none => fun _ _ _ => none
structure LX where
 tm : T Value
 nt : Nat
 ps : Array Tmp
 a : Code
 b : Code
 d : Nat
def LX.obj (X : LX) (s : LoopState) (p : Option Code) : bY := .loop s p X.tm X.nt X.ps X.a X.b X.d
def JV (p : Prop) (x : aF) : aF := @ite _ p (Classical.propDecidable p) x none
theorem YX {p : Prop} {x : aF} {q : Value × Hp} (e : JV p x = some q) : p ∧ x = some q := by
 unfold JV at e
 by_cases hp : p
 ·rw [if_pos hp] at e; exact ⟨hp, e⟩
 ·rw [if_neg hp] at e; cases e
theorem aCA {p : Prop} (hp : p) (x : aF) : JV p x = x := by unfold JV; exact if_pos hp
def exV : Ex → Option Value
 | .normal => some (.bool true)
 | .ret => some (.bool false)
 | .exit i => some (.int .i64 (Int.ofNat i))
 | .panic _ => none
def EM (l : Nat) (h : Hp) (k : Hp → aF) : aF := fO <|
 match h.get l with
 | some (.loop .ready p tm nt ps a b d) => bU (Nat.ble h.ro l) (k (h.upd l (.loop .busy p tm nt ps a b d))) none
 | _ => none
def roundEnd (l : Nat) (ex : Value) (h : Hp) : aF := fO <|
 match h.get l with
 | some (.loop _ _ tm nt ps a b d) => bU (Nat.ble h.ro l) (match ex with
  | .bool true => some (.bool true, h.upd l (.loop .ready none tm nt ps a b d))
  | .bool false => some (.bool false, h.upd l (.loop .done (some .ret) tm nt ps a b d))
  | .int _ (.ofNat i) => some (.bool false, h.upd l (.loop .done (some (.exit i)) tm nt ps a b d))
  | _ => none) none
 | _ => none
def YL (l : Nat) (X : LX) (rb : List Value → Hp → aF) (Y : YF) : YF := fun l' args h =>
 bU (Nat.beq l' l) (JV (h.get l = some (X.obj .ready none)) (aK (rb args h) fun ex h2 => roundEnd l ex h2)) (Y l' args h)
def aCB (rd : Option Nat) (h : Hp) (k : Nat → List Nat → Hp → aF) : aF := fO <|
 match rd with
 | none => k h.next [h.next] (h.add (.xB true))
 | some l0 => match h.get l0 with
  | some (.loop _ _ _ _ _ _ _ d) => k d [] h
  | _ => none
def aGT (l : Nat) (h : Hp) (k : Ex → Hp → aF) : aF := fO <|
 match h.get l with
 | some (.loop s p tm nt ps a b d) => bU (V9 s && Nat.ble h.ro l) (match p with
  | none => k .normal (h.upd l (.loop .exhausted p tm nt ps a b d))
  | some .ret => k .ret (h.upd l (.loop .exhausted p tm nt ps a b d))
  | some (.exit i) => k (.exit i) (h.upd l (.loop .exhausted p tm nt ps a b d))
  | _ => none) none
 | _ => none
def exK (e : Ex) (n r : aF) (x : Nat → aF) : aF := fO <| match e with
 | .normal => n
 | .ret => r
 | .exit i => x i
 | .panic _ => none
def aQS (i : Nat) : List Nat → (Nat → aF) → aF
 | [], _ => none
 | id :: ids, f => bU (Nat.beq i id) (f id) (aQS i ids f)
theorem TN {i : Nat} {f : Nat → aF} {q : Value × Hp} : ∀ {ids : List Nat}, aQS i ids f = some q → f i = some q
 | [], e => by cases e
 | id :: ids, e => by
  unfold aQS at e
  cases hb : Nat.beq i id with
  | true => rw [hb] at e; obtain rfl := Nat.eq_of_beq_eq_true hb; exact e
  | false => rw [hb] at e; exact TN e
def aU4 (g : Value) (k : FuncId → List Value → List Value → aF) : aF := fO <| match g with
 | .func (.func f) first cap => k f first.toList cap.toList
 | _ => none
def aSR {α : Type} (x : Option α) (k : α → aF) : aF := bR x k
def aJN (fy : FY) (Y : YF) (rd : Option Nat) (X : Nat → LX) (g : Value) (h : Hp) (rb : Nat → List Value → Hp → aF) (k : Ex → List Nat → Hp → aF) : aF :=
 aU4 g fun f first cap => aCB rd h fun d mk h1 =>
  aK (fy f (YL h1.next (X d) (rb h1.next) Y) (first ++ [.func (.yield h1.next) #[] #[]] ++ cap) (h1.add ((X d).obj .ready none))) fun _ h3 =>
  aGT h1.next h3 fun e h4 => k e mk h4
def sW : Code → List Nat
 | .exit i => [i]
 | .seq a b => sW a ++ sW b
 | .cond _ a b => sW a ++ sW b
 | .block id b => (sW b).filter fun i => !Nat.beq i id
 | .loop b => sW b
 | .scope b => sW b
 | .rangeFunc _ _ _ b => sW b
 | _ => []
def aSS : List Nat → List Nat
 | [] => []
 | i :: l => i :: (aSS l).filter fun j => !Nat.beq j i
section
variable (E : Env) (iT : FuncId → Array Value → Hp → Option (Value × Hp)) (fy : FY) (nt : Nat) (Y : YF)
def orK (x y : aF) : aF := match x with | some q => some q | none => y
theorem aJO {x y : aF} {q : Value × Hp} (e : orK x y = some q) : x = some q ∨ y = some q := by
 cases x with
 | some p => exact .inl e
 | none => exact .inr e
def EN (g : Value) (l : List Value) (h : Hp) : aF := fO <|
 match g with
 | .func (.func f) first cap => orK (iT f ((first ++ l.toArray) ++ cap) h) (fy f Y (first.toList ++ l ++ cap.toList) h)
 | .func (.yield n) first _ => Y n (first.toList ++ l) h
 | _ => none
def opY (o : Oper) (r : iQ) (h : Hp) (k : KT) : aF :=
 match o.op with
 | .call c => match c.callee with
  | .value (.tmp f) => vQ (uJ r (.tmp f)) fun g => match evL r c.args.toList with
   | some l => aK (EN iT fy Y g l h) fun v h => oF E o.type v fun v => GV nt o.dst r k v h
   | none => none
  | _ => opS E iT nt o r h k
 | _ => opS E iT nt o r h k
def Q9 (d : Option Tmp) (z : Z) (r : iQ) (k : Z → aF) : aF := fO <|
 match d with
 | none => k z
 | some d => match r with
  | (d', v) :: _ => match Nat.beq d' d with | true => k (z.put d v) | false => none
  | [] => none
def FP (ops : Array Oper) : List Oper → KZ → KZ
 | [], k => k
 | o :: rest, k => fun r z h =>
  match o.guard with
  | none => opY E iT fy nt Y o r h fun r h => Q9 o.dst z r fun z => FP ops rest k r z h
  | some (j, want) => match (ops[j]?).bind (·.dst) with
   | none => none
   | some d => match r.at d with
    | none => none
    | some gv => onG gv
      (match want with
      | true => opY E iT fy nt Y o ((d, .bool true) :: r) h fun r h => Q9 o.dst z r fun z => FP ops rest k r z h
      | false => GV nt o.dst ((d, .bool true) :: r) (fun r h => Q9 o.dst z r fun z => FP ops rest k r z h) undef h)
      (match want with
      | false => opY E iT fy nt Y o ((d, .bool false) :: r) h fun r h => Q9 o.dst z r fun z => FP ops rest k r z h
      | true => GV nt o.dst ((d, .bool false) :: r) (fun r h => Q9 o.dst z r fun z => FP ops rest k r z h) undef h)
      (GV nt o.dst r (fun r h => Q9 o.dst z r fun z => FP ops rest k r z h) undef h)
def aZE (ops : Array Oper) : Bool := ops.toList.any fun o => match o.op with
 | .call c => (match c.callee with | .value (.tmp _) => o.guard.isNone | _ => false)
 | _ => false
def aU6 (ops : Array Oper) (o : Oper) (k : KT) : KT := fun r h =>
 match o.guard with
 | none => opY E iT fy nt Y o r h k
 | some _ => zP E iT nt ops [o] k r h
def YY (ms : List Nat) (ops : Array Oper) (os : List (List (Nat × bY))) (k : KT) : List Nat → List Nat → KT
 | rest, [] => fun r h => k r ⟨h.next, h.ro, vP os rest h.aC⟩
 | rest, j :: ks => fun r h =>
  match ops[j]? with
  | none => none
  | some o => aU6 E iT fy nt Y ops o (YY ms ops os k (rest.filter (fun x => !(waits ms j x))) ks) r ⟨h.next, h.ro, vP os (rest.filter (waits ms j)) h.aC⟩
def aJP (ops : Array Oper) (k : KT) : KT := fun r h =>
 sS E iT nt (masks ops.toList []) ops h.next h.aC (fun r os n => YY E iT fy nt Y (masks ops.toList []) ops os k (List.range (gD ops)) (List.range' (gD ops) (ops.size - gD ops)) r ⟨n, h.ro, h.aC⟩)
  (List.range (gD ops)) [] h.next r
def aQT (l : List Oper) (ops : Array Oper) (d : Bool) (k : KZ) : KZ :=
 match d with
 | false => FP E iT fy nt Y ops l k
 | true => match aZE ops && EG ops with
  | true => fun r z h => aJP E iT fy nt Y ops (fun r h => k r z.lose h) r h
  | false => fun r z h => kF E iT nt l ops true (fun r h => k r z.lose h) r h
end
section
variable (σ : rW) (ρ : RG) (fy : FY) (Y : YF) (rd : Option Nat) (nt : Nat) (regs : List Oper → Array Oper → Bool → KZ → KZ) (fin : KZ)
def sM : Code → eU → KZ → (Nat → KZ) → KZ
 | .skip, _, kn, _ => kn
 | .label _, _, kn, _ => kn
 | .region _ ops d, _, kn, _ => regs ops.toList ops d kn
 | .seq a b, A, kn, ke =>
  let kb := match A.r.cut with | some (l, keep) => jump σ l keep | none => sM b A.r kn ke
  match A.l.cut with | some (l, keep) => jump σ l keep | none => sM a A.l kb ke
 | .cond c x y, A, kn, ke => fun r z h =>
  match uJ r c with
  | some v => onB v ((match A.l.cut with | some (l, keep) => jump σ l keep | none => sM x A.l kn ke) r z h)
    ((match A.r.cut with | some (l, keep) => jump σ l keep | none => sM y A.r kn ke) r z h)
  | none => none
 | .block id b, A, kn, ke => match A.l.cut with | some (l, keep) => jump σ l keep | none => sM b A.l kn (fun i => match Nat.beq i id with | true => kn | false => ke i)
 | .loop b, A, _, ke => match A.l.cut with | some (l, keep) => jump σ l keep | none => sM b A.l (pF σ A.cut) ke
 | .scope b, A, kn, ke => match A.l.cut with | some (l, keep) => jump σ l keep | none => sM b A.l kn ke
 | .exit id, _, _, ke => ke id
 | .ret, _, _, _ => fin
 | .rangeFunc f ps a b, A, kn, ke => fun r z h =>
  vQ (uJ r f) fun g => aSR z.tm fun tm =>
  match A.l.cut with
  | some (j, keep) => zN keep r fun al =>
    aJN fy Y rd (fun d => ⟨tm, nt, ps, a, b, d⟩) g h (fun l args h => ρ j l al z args h) fun e mk h4 =>
     exK e (kn r (z.mark mk) h4) (fin r (z.mark mk) h4) fun i => aQS i (aSS (sW b)) fun i => ke i r (z.mark mk) h4
  | none => none
 | _, _, _, _ => fun _ _ _ => none
variable (gate : Hp → (Hp → aF) → aF) (zR : KZ) (ex0 : Nat → KZ)
def wK : List Frame → KZ
 | [] => zR
 | .seq _ A :: _ => pF σ A.cut
 | .block _ :: fs => wK fs
 | .loop _ A :: _ => pF σ A.cut
 | .gate _ A :: _ => fun r z h => gate h fun h => pF σ A.cut r z h
def xG : List Frame → Nat → KZ
 | [], i => ex0 i
 | .block id :: fs, i => match Nat.beq i id with | true => wK σ gate zR fs | false => xG fs i
 | .seq _ _ :: fs, i => xG fs i
 | .loop _ _ :: fs, i => xG fs i
 | .gate _ _ :: _, _ => fun _ _ _ => none
end
def collect : Code → eU → List Frame → List wY
 | c, A, fs =>
  (match A.cut with | some (l, keep) => [{ l, keep, code := c, D5 := A, fs }] | none => []) ++
  match c with
  | .seq a b => collect a A.l (.seq b A.r :: fs) ++ collect b A.r fs
  | .cond _ x y => collect x A.l fs ++ collect y A.r fs
  | .block id b => collect b A.l (.block id :: fs)
  | .loop b => collect b A.l (.loop b A :: fs)
  | .scope b => collect b A.l fs
  | _ => []
def entry (l : Nat) : List wY → Option wY
 | [] => none
 | e :: es => cond (Nat.beq e.l l) (some e) (entry l es)
section
variable (C : dP) (rd : Option Nat) (nt : Nat) (gl : Nat) (Fin : Ex → S → Value × Hp → Prop)
def oU : List Frame → Ex → S → Value × Hp → Prop
 | [], e, s, q => Fin e s q
 | .seq b _ :: fs, .normal, s, q => ∃ e s', eG C (.code b rd nt s) (.code e s') ∧ oU fs e s' q
 | .seq _ _ :: fs, e, s, q => oU fs e s q
 | .block id :: fs, .exit i, s, q => match Nat.beq i id with | true => oU fs .normal s q | false => oU fs (.exit i) s q
 | .block _ :: fs, e, s, q => oU fs e s q
 | .loop b _ :: fs, .normal, s, q => ∃ e s', eG C (.code (.loop b) rd nt s) (.code e s') ∧ oU fs e s' q
 | .loop _ _ :: fs, e, s, q => oU fs e s q
 | .gate b _ :: fs, .normal, s, q => ∃ p vG nt1 ps1 a1 b1 d1, s.h.get gl = some (.loop .ready p vG nt1 ps1 a1 b1 d1) ∧ Nat.ble s.h.ro gl = true ∧
   ∃ e s', eG C (.code b rd nt { s with h := s.h.upd gl (.loop .busy p vG nt1 ps1 a1 b1 d1) }) (.code e s') ∧ oU fs e s' q
 | .gate _ _ :: _, _, _, _ => False
def M (c : Code) (fs : List Frame) (r : iQ) (z : Z) (h : Hp) (q : Value × Hp) : Prop :=
 ∀ tm, RR r tm → ZT z tm → ∃ e s', eG C (.code c rd nt (BQ tm z h)) (.code e s') ∧ oU C rd nt gl Fin fs e s' q
def KN (kn : KZ) (fs : List Frame) : Prop := ∀ r z h q, kn r z h = some q → ∀ tm, RR r tm → ZT z tm → oU C rd nt gl Fin fs .normal (BQ tm z h) q
def KE (ke : Nat → KZ) (fs : List Frame) : Prop := ∀ i r z h q, ke i r z h = some q → ∀ tm, RR r tm → ZT z tm → oU C rd nt gl Fin fs (.exit i) (BQ tm z h) q
def SL (σ : rW) (l : Nat) (keep : List (Nat × Kd)) (c : Code) (fs : List Frame) : Prop := ∀ al vs z h q, σ l al z h = some q → AL.vals (keep.map (·.2)) al = some vs → M C rd nt gl Fin c fs ((keep.map (·.1)).zip vs) z h q
def JW (regs : List Oper → Array Oper → Bool → KZ → KZ) : Prop :=
 ∀ id ops d kn r z h q, regs ops.toList ops d kn r z h = some q → ∀ tm, RR r tm → ZT z tm → ∃ tm' h' r' z', eG C (.code (.region id ops d) rd nt (BQ tm z h)) (.code .normal (BQ tm' z' h')) ∧ RR r' tm' ∧ ZT z' tm' ∧ kn r' z' h' = some q
def JX (Y : YF) : Prop := ∀ l args h v h', Y l args h = some (v, h') → ∃ n, BF (run C n) l args.toArray h = some (.ret v h')
def zS (fy : FY) : Prop := ∀ f Y args h v h', JX C Y → fy f Y args h = some (v, h') → (∀ a h, C.iT f a h = none) ∧ C.quiet f = false ∧ eG C (.call f args.toArray h) (.ret v h')
def TP (ρ : RG) (j : Nat) (keep : List (Nat × Kd)) (ps : Array Tmp) (a b : Code) : Prop :=
 ∀ l al vs z args h ex h2, ρ j l al z args h = some (ex, h2) → AL.vals (keep.map (·.2)) al = some vs → ∀ tm, RR ((keep.map (·.1)).zip vs) tm → z.tm = some tm →
  ∃ vG s1 p tmx ntx psx ax bx d e s2, args.length = ps.size ∧ qC nt (ps.zip args.toArray).toList tm = some vG ∧
   eG C (.code a (some l) nt { tm := vG, df := [], h }) (.code .normal s1) ∧ s1.h.get l = some (.loop .ready p tmx ntx psx ax bx d) ∧ Nat.ble s1.h.ro l = true ∧
   eG C (.code b (some l) nt { s1 with h := s1.h.upd l (.loop .busy p tmx ntx psx ax bx d) }) (.code e s2) ∧ exV e = some ex ∧ s2.h = h2
end
section
variable {C : dP} {rd : Option Nat} {nt gl : Nat} {Fin : Ex → S → Value × Hp → Prop}
variable {σ : rW} {ρ : RG} {fy : FY} {Y : YF} {regs : List Oper → Array Oper → Bool → KZ → KZ} {fin : KZ}
def eZ (C : dP) (rd : Option Nat) (nt gl : Nat) (Fin : Ex → S → Value × Hp → Prop) (σ : rW) (ρ : RG) : Code → eU → List Frame → Prop
 | .seq a b, A, fs =>
  (match A.l.cut with | some (l, keep) => SL C rd nt gl Fin σ l keep a (.seq b A.r :: fs) | none => eZ C rd nt gl Fin σ ρ a A.l (.seq b A.r :: fs)) ∧
  (match A.r.cut with | some (l, keep) => SL C rd nt gl Fin σ l keep b fs | none => eZ C rd nt gl Fin σ ρ b A.r fs)
 | .cond _ x y, A, fs =>
  (match A.l.cut with | some (l, keep) => SL C rd nt gl Fin σ l keep x fs | none => eZ C rd nt gl Fin σ ρ x A.l fs) ∧
  (match A.r.cut with | some (l, keep) => SL C rd nt gl Fin σ l keep y fs | none => eZ C rd nt gl Fin σ ρ y A.r fs)
 | .block id b, A, fs => match A.l.cut with | some (l, keep) => SL C rd nt gl Fin σ l keep b (.block id :: fs) | none => eZ C rd nt gl Fin σ ρ b A.l (.block id :: fs)
 | .loop b, A, fs =>
  (match A.cut with | some (l, keep) => SL C rd nt gl Fin σ l keep (.loop b) fs | none => True) ∧
  (match A.l.cut with | some (l, keep) => SL C rd nt gl Fin σ l keep b (.loop b A :: fs) | none => eZ C rd nt gl Fin σ ρ b A.l (.loop b A :: fs))
 | .scope b, A, fs => match A.l.cut with | some (l, keep) => SL C rd nt gl Fin σ l keep b fs | none => eZ C rd nt gl Fin σ ρ b A.l fs
 | .rangeFunc _ ps a b, A, _ => match A.l.cut with | some (j, keep) => TP C nt ρ j keep ps a b | none => True
 | _, _, _ => True
def FC (C : dP) (rd : Option Nat) (nt gl : Nat) (Fin : Ex → S → Value × Hp → Prop) (σ : rW) : List Frame → Prop
 | [] => True
 | .seq b A :: fs => (match A.cut with | some (l, keep) => SL C rd nt gl Fin σ l keep b fs | none => True) ∧ FC C rd nt gl Fin σ fs
 | .block _ :: fs => FC C rd nt gl Fin σ fs
 | .loop b A :: fs => (match A.cut with | some (l, keep) => SL C rd nt gl Fin σ l keep (.loop b) fs | none => True) ∧ FC C rd nt gl Fin σ fs
 | .gate b A :: fs => (match A.cut with | some (l, keep) => SL C rd nt gl Fin σ l keep b fs | none => True) ∧ FC C rd nt gl Fin σ fs
theorem SL.jump {l : Nat} {keep : List (Nat × Kd)} {c : Code} {fs : List Frame} (H : SL C rd nt gl Fin σ l keep c fs) {r : iQ} {z : Z} {h : Hp} {q : Value × Hp} (e : jump σ l keep r z h = some q) : M C rd nt gl Fin c fs r z h q := by
 intro tm ht hz
 obtain ⟨al, vs, h1, h2, h3⟩ := ht.pack (show zN keep r (fun al => σ l al z h) = some q from e)
 exact H al vs z h q h3 h1 tm h2 hz
theorem M.seq {a b : Code} {A : eU} {fs : List Frame} {r : iQ} {z : Z} {h : Hp} {q : Value × Hp} (H : M C rd nt gl Fin a (.seq b A :: fs) r z h q) : M C rd nt gl Fin (.seq a b) fs r z h q := by
 intro tm ht hz
 obtain ⟨e, s1, h1, h2⟩ := H tm ht hz
 cases e with
 | normal =>
  obtain ⟨e, s2, h3, h4⟩ := h2
  obtain ⟨n, k1, k2⟩ := h1.two h3
  exact ⟨e, s2, .aY ⟨n, by simp only [dZ, eT, k1, k2, Option.bind_some]⟩, h4⟩
 | exit i => obtain ⟨n, k1⟩ := h1; exact ⟨_, s1, .aY ⟨n, by simp only [dZ, eT, k1, Option.bind_some]⟩, h2⟩
 | ret => obtain ⟨n, k1⟩ := h1; exact ⟨_, s1, .aY ⟨n, by simp only [dZ, eT, k1, Option.bind_some]⟩, h2⟩
 | panic v => obtain ⟨n, k1⟩ := h1; exact ⟨_, s1, .aY ⟨n, by simp only [dZ, eT, k1, Option.bind_some]⟩, h2⟩
theorem M.loop {b : Code} {A : eU} {fs : List Frame} {r : iQ} {z : Z} {h : Hp} {q : Value × Hp} (H : M C rd nt gl Fin b (.loop b A :: fs) r z h q) : M C rd nt gl Fin (.loop b) fs r z h q := by
 intro tm ht hz
 obtain ⟨e, s1, h1, h2⟩ := H tm ht hz
 cases e with
 | normal =>
  obtain ⟨e, s2, h3, h4⟩ := h2
  obtain ⟨n, k1, k2⟩ := h1.two h3
  exact ⟨e, s2, .aY ⟨n, by simp only [dZ, eT, k1, k2, Option.bind_some]⟩, h4⟩
 | exit i => obtain ⟨n, k1⟩ := h1; exact ⟨_, s1, .aY ⟨n, by simp only [dZ, eT, k1, Option.bind_some]⟩, h2⟩
 | ret => obtain ⟨n, k1⟩ := h1; exact ⟨_, s1, .aY ⟨n, by simp only [dZ, eT, k1, Option.bind_some]⟩, h2⟩
 | panic v => obtain ⟨n, k1⟩ := h1; exact ⟨_, s1, .aY ⟨n, by simp only [dZ, eT, k1, Option.bind_some]⟩, h2⟩
theorem M.block {id : Nat} {b : Code} {fs : List Frame} {r : iQ} {z : Z} {h : Hp} {q : Value × Hp} (H : M C rd nt gl Fin b (.block id :: fs) r z h q) : M C rd nt gl Fin (.block id b) fs r z h q := by
 intro tm ht hz
 obtain ⟨e, s1, h1, h2⟩ := H tm ht hz
 obtain ⟨n, k1⟩ := h1
 cases e with
 | normal => exact ⟨_, s1, .aY ⟨n, by simp only [dZ, eT, k1, Option.bind_some]⟩, h2⟩
 | exit i =>
  simp only [oU] at h2
  cases hb : Nat.beq i id with
  | true => rw [hb] at h2; exact ⟨.normal, s1, .aY ⟨n, by simp only [dZ, eT, k1, Option.bind_some, hb]⟩, h2⟩
  | false => rw [hb] at h2; exact ⟨.exit i, s1, .aY ⟨n, by simp only [dZ, eT, k1, Option.bind_some, hb]⟩, h2⟩
 | ret => exact ⟨_, s1, .aY ⟨n, by simp only [dZ, eT, k1, Option.bind_some]⟩, h2⟩
 | panic v => exact ⟨_, s1, .aY ⟨n, by simp only [dZ, eT, k1, Option.bind_some]⟩, h2⟩
theorem M.scope {b : Code} {fs : List Frame} {r : iQ} {z : Z} {h : Hp} {q : Value × Hp} (H : M C rd nt gl Fin b fs r z h q) : M C rd nt gl Fin (.scope b) fs r z h q := by
 intro tm ht hz
 obtain ⟨e, s1, h1, h2⟩ := H tm ht hz
 obtain ⟨n, k1⟩ := h1
 exact ⟨e, s1, .aY ⟨n, by simp only [dZ, eT, k1, Option.bind_some]⟩, h2⟩
def aJR : List Frame → Prop
 | [] => True
 | .gate _ _ :: _ => False
 | _ :: fs => aJR fs
theorem oU.ret {s : S} {q : Value × Hp} : ∀ (fs : List Frame), aJR fs → Fin .ret s q → oU C rd nt gl Fin fs .ret s q
 | [], _, H => H
 | .seq _ _ :: fs, g, H => oU.ret fs g H
 | .block _ :: fs, g, H => oU.ret fs g H
 | .loop _ _ :: fs, g, H => oU.ret fs g H
 | .gate _ _ :: _, g, _ => g.elim
end
end
end Go.bI.Y
/-
  What is told of code that ranges over functions is so.
-/
namespace Go.bI.Y
open Go.bI
noncomputable section
theorem aGU {g : Value} {k : FuncId → List Value → List Value → aF} {q : Value × Hp} (e : aU4 g k = some q) : ∃ f a b, g = .func (.func f) a b ∧ k f a.toList b.toList = some q := by
 unfold aU4 fO at e
 dsimp only at e
 split at e
 ·exact ⟨_, _, _, rfl, e⟩
 ·cases e
theorem YZ {rd : Option Nat} {h : Hp} {k : Nat → List Nat → Hp → aF} {q : Value × Hp} (e : aCB rd h k = some q) : ∃ d mk h1, OY rd h = some (d, h1, dfs mk) ∧ k d mk h1 = some q := by
 unfold aCB fO at e
 dsimp only at e
 split at e
 ·exact ⟨_, _, _, rfl, e⟩
 ·split at e
  ·rename_i hg
   exact ⟨_, [], _, by unfold OY; dsimp only; rw [hg]; rfl, e⟩
  ·cases e
def aJS : Option Code → Option Ex
 | none => some .normal
 | some .ret => some .ret
 | some (.exit i) => some (.exit i)
 | _ => none
theorem iJ {ρ : Type} {b : Bool} {x : Option ρ} {q : ρ} (e : bU b x none = some q) : b = true ∧ x = some q := by
 cases b with
 | true => exact ⟨rfl, e⟩
 | false => cases e
theorem aGV {l : Nat} {h : Hp} {k : Ex → Hp → aF} {q : Value × Hp} (e : aGT l h k = some q) :
  ∃ s p tm nt ps a b d ex, h.get l = some (.loop s p tm nt ps a b d) ∧ (V9 s && Nat.ble h.ro l) = true ∧ aJS p = some ex ∧ k ex (h.upd l (.loop .exhausted p tm nt ps a b d)) = some q := by
 unfold aGT fO at e
 dsimp only at e
 split at e
 ·rename_i s p tm nt ps a b d hg
  obtain ⟨hb, e⟩ := iJ e
  split at e
  ·exact ⟨_, _, _, _, _, _, _, _, _, hg, hb, rfl, e⟩
  ·exact ⟨_, _, _, _, _, _, _, _, _, hg, hb, rfl, e⟩
  ·exact ⟨_, _, _, _, _, _, _, _, _, hg, hb, rfl, e⟩
  ·cases e
 ·cases e
theorem aJT {e : Ex} {n r : aF} {x : Nat → aF} {q : Value × Hp} (h : exK e n r x = some q) : (e = .normal ∧ n = some q) ∨ (e = .ret ∧ r = some q) ∨ ∃ i, e = .exit i ∧ x i = some q := by
 unfold exK fO at h
 dsimp only at h
 split at h
 ·exact .inl ⟨rfl, h⟩
 ·exact .inr (.inl ⟨rfl, h⟩)
 ·exact .inr (.inr ⟨_, rfl, h⟩)
 ·cases h
theorem aCC {l : Nat} {h : Hp} {k : Hp → aF} {q : Value × Hp} (e : EM l h k = some q) :
  ∃ p tm nt ps a b d, h.get l = some (.loop .ready p tm nt ps a b d) ∧ Nat.ble h.ro l = true ∧ k (h.upd l (.loop .busy p tm nt ps a b d)) = some q := by
 unfold EM fO at e
 dsimp only at e
 split at e
 ·rename_i p tm nt ps a b d hg
  obtain ⟨hb, e⟩ := iJ e
  exact ⟨_, _, _, _, _, _, _, hg, hb, e⟩
 ·cases e
section
variable {C : dP} {nt : Nat}
theorem aZF {ρ : RG} {j : Nat} {keep : List (Nat × Kd)} {ps : Array Tmp} {a b : Code} (H : TP C nt ρ j keep ps a b) {Y : YF} (hY : JX C Y) {l : Nat} {al : AL} {vs : List Value} {z : Z} {tm : T Value} {d : Nat}
  (hv : AL.vals (keep.map (·.2)) al = some vs) (hr : RR ((keep.map (·.1)).zip vs) tm) (hz : z.tm = some tm) : JX C (YL l ⟨tm, nt, ps, a, b, d⟩ (fun args h => ρ j l al z args h) Y) := by
 intro l' args h v h' e
 unfold YL at e
 cases hb : Nat.beq l' l with
 | false => rw [hb] at e; exact hY l' args h v h' e
 | true =>
  rw [hb] at e
  obtain rfl := Nat.eq_of_beq_eq_true hb
  obtain ⟨hget, e⟩ := YX e
  obtain ⟨ex, h2, hrb, e⟩ := jH e
  obtain ⟨vG, s1, p, tmx, ntx, psx, ax, bx, dx, en, s2, k1, k2, k3, k4, k5, k6, k7, k8⟩ := H l' al vs z args h ex h2 hrb hv tm hr hz
  obtain ⟨n, r1, r2⟩ := k3.two k6
  refine ⟨n, ?_⟩
  subst k8
  have hsz : Nat.beq args.toArray.size ps.size = true := by simp [k1]
  unfold roundEnd fO at e
  dsimp only at e
  split at e
  ·rename_i st0 p0 tm0 nt0 ps0 a0 b0 d0 hg2
   obtain ⟨hro, e⟩ := iJ e
   unfold BF
   rw [hget]
   simp only [LX.obj, hsz, XG, k2, Option.bind_some, r1, k4, k5, r2, hg2, hro]
   cases en with
   | normal => cases k7; dsimp only at e ⊢; cases e; rfl
   | ret => cases k7; dsimp only at e ⊢; cases e; rfl
   | exit i => cases k7; dsimp only at e ⊢; cases e; rfl
   | panic w => cases k7
  ·cases e
end
section
variable {C : dP} {rd : Option Nat} {nt gl : Nat} {Fin : Ex → S → Value × Hp → Prop}
variable {σ : rW} {ρ : RG} {fy : FY} {Y : YF} {regs : List Oper → Array Oper → Bool → KZ → KZ}
def KR (C : dP) (rd : Option Nat) (nt gl : Nat) (Fin : Ex → S → Value × Hp → Prop) (fin : KZ) (fs : List Frame) : Prop := ∀ r z h q, fin r z h = some q → ∀ tm, RR r tm → ZT z tm → oU C rd nt gl Fin fs .ret (BQ tm z h) q
theorem aGW (hY : JX C Y) (JY : zS C fy) {f : Operand} {ps : Array Tmp} {a b : Code} {j : Nat} {keep : List (Nat × Kd)} (H : TP C nt ρ j keep ps a b) {g : Value} {z : Z} {tm : T Value} {h : Hp} (hg : jI tm f = some g)
  {al : AL} {vs : List Value} (hv : AL.vals (keep.map (·.2)) al = some vs) (hr : RR ((keep.map (·.1)).zip vs) tm) (hz : z.tm = some tm) {k : Ex → List Nat → Hp → aF} {q : Value × Hp}
  (e : aJN fy Y rd (fun d => ⟨tm, nt, ps, a, b, d⟩) g h (fun l args h => ρ j l al z args h) k = some q) :
  ∃ ex mk h4, eG C (.code (.rangeFunc f ps a b) rd nt (BQ tm z h)) (.code ex (BQ tm (z.mark mk) h4)) ∧ k ex mk h4 = some q := by
 unfold aJN at e
 obtain ⟨gf, fa, ca, rfl, e1⟩ := aGU e
 obtain ⟨d, mk, h1, hent, e2⟩ := YZ e1
 obtain ⟨u, h3, hcall, e3⟩ := jH e2
 obtain ⟨s0, p0, tm0, nt0, ps0, a0, b0, d0, ex, hg3, hb, hp, e4⟩ := aGV e3
 obtain ⟨ho, hq, n, hrun⟩ := JY _ _ _ _ _ _ (aZF (d := d) H hY hv hr hz) hcall
 refine ⟨ex, mk, _, .aY ⟨n, ?_⟩, e4⟩
 have hcv : nC C (run C n) (.func gf) (fa ++ #[Value.func (Fn.yield h1.next) #[] #[]] ++ ca) (h1.add (.loop .ready none tm nt ps a b d)) = some (.ret u h3) := by
  have : (fa ++ #[Value.func (Fn.yield h1.next) #[] #[]] ++ ca) = (fa.toList ++ [Value.func (Fn.yield h1.next) #[] #[]] ++ ca.toList).toArray := by
   apply Array.ext'; simp
  rw [this]
  simp only [nC, ho, hq]
  exact hrun
 unfold aJS at hp
 split at hp
 ·cases hp; simp only [dZ, eT, yZ, BQ, hg, Option.bind_some, hent, hcv, hg3, hb, XG, Z.mark, dfs, List.map_append]
 ·cases hp; simp only [dZ, eT, yZ, BQ, hg, Option.bind_some, hent, hcv, hg3, hb, XG, Z.mark, dfs, List.map_append]
 ·cases hp; simp only [dZ, eT, yZ, BQ, hg, Option.bind_some, hent, hcv, hg3, hb, XG, Z.mark, dfs, List.map_append]
 ·cases hp
theorem Y0 {fin : KZ} (LA : JW C rd nt regs) (hY : JX C Y) (JY : zS C fy) :
  ∀ (c : Code) (A : eU) (fs : List Frame) (kn : KZ) (ke : Nat → KZ), KN C rd nt gl Fin kn fs → KE C rd nt gl Fin ke fs → KR C rd nt gl Fin fin fs → eZ C rd nt gl Fin σ ρ c A fs →
   ∀ r z h q, sM σ ρ fy Y rd nt regs fin c A kn ke r z h = some q → M C rd nt gl Fin c fs r z h q := by
 intro c
 induction c with
 | skip => intro A fs kn ke hn he hr hc r z h q e tm ht hz; exact ⟨.normal, _, .aY ⟨0, rfl⟩, hn r z h q e tm ht hz⟩
 | label l => intro A fs kn ke hn he hr hc r z h q e tm ht hz; exact ⟨.normal, _, .aY ⟨0, rfl⟩, hn r z h q e tm ht hz⟩
 | region id ops d =>
  intro A fs kn ke hn he hr hc r z h q e tm ht hz
  obtain ⟨tm', h', r', z', h1, h2, h3, h4⟩ := LA id ops d kn r z h q e tm ht hz
  exact ⟨.normal, _, h1, hn r' z' h' q h4 tm' h2 h3⟩
 | seq a b iha ihb =>
  intro A fs kn ke hn he hr hc r z h q e
  obtain ⟨ca, cb⟩ := hc
  simp only [sM] at e
  have hb : KN C rd nt gl Fin (match A.r.cut with | some (l, keep) => Go.bI.Y.jump σ l keep | none => sM σ ρ fy Y rd nt regs fin b A.r kn ke) (.seq b A.r :: fs) := by
   intro r z h q e tm ht hz
   cases hcut : A.r.cut with
   | some x => obtain ⟨l, keep⟩ := x; rw [hcut] at e cb; exact SL.jump cb e tm ht hz
   | none => rw [hcut] at e cb; exact ihb A.r fs kn ke hn he hr cb r z h q e tm ht hz
  have he' : KE C rd nt gl Fin ke (.seq b A.r :: fs) := fun i r z h q e tm ht hz => he i r z h q e tm ht hz
  have hr' : KR C rd nt gl Fin fin (.seq b A.r :: fs) := fun r z h q e tm ht hz => hr r z h q e tm ht hz
  apply M.seq (A := A.r)
  cases hcut : A.l.cut with
  | some x => obtain ⟨l, keep⟩ := x; rw [hcut] at e ca; exact SL.jump ca e
  | none => rw [hcut] at e ca; exact iha A.l _ _ ke hb he' hr' ca r z h q e
 | cond c x y NV NW =>
  intro A fs kn ke hn he hr hc r z h q e
  obtain ⟨cx, cy⟩ := hc
  simp only [sM] at e
  split at e
  ·rename_i v hv
   rcases xH e with ⟨rfl, e⟩ | ⟨rfl, e⟩
   ·intro tm ht hz
    have hM : M C rd nt gl Fin x fs r z h q := by
     cases hcut : A.l.cut with
     | some w => obtain ⟨l, keep⟩ := w; rw [hcut] at e cx; exact SL.jump cx e
     | none => rw [hcut] at e cx; exact NV A.l fs kn ke hn he hr cx r z h q e
    obtain ⟨ee, s1, ⟨n, h1⟩, h2⟩ := hM tm ht hz
    exact ⟨ee, s1, .aY ⟨n, by simp only [dZ, eT, oM, BQ, dX ht hv, Option.bind_some] at h1 ⊢; exact h1⟩, h2⟩
   ·intro tm ht hz
    have hM : M C rd nt gl Fin y fs r z h q := by
     cases hcut : A.r.cut with
     | some w => obtain ⟨l, keep⟩ := w; rw [hcut] at e cy; exact SL.jump cy e
     | none => rw [hcut] at e cy; exact NW A.r fs kn ke hn he hr cy r z h q e
    obtain ⟨ee, s1, ⟨n, h1⟩, h2⟩ := hM tm ht hz
    exact ⟨ee, s1, .aY ⟨n, by simp only [dZ, eT, oM, BQ, dX ht hv, Option.bind_some] at h1 ⊢; exact h1⟩, h2⟩
  ·cases e
 | block id b ih =>
  intro A fs kn ke hn he hr hc r z h q e
  simp only [sM] at e
  apply M.block
  unfold eZ at hc
  have hr' : KR C rd nt gl Fin fin (.block id :: fs) := fun r z h q e tm ht hz => hr r z h q e tm ht hz
  cases hcut : A.l.cut with
  | some x => obtain ⟨l, keep⟩ := x; rw [hcut] at e hc; exact SL.jump hc e
  | none =>
   rw [hcut] at e hc
   refine ih A.l (.block id :: fs) kn _ (fun r z h q e tm ht hz => hn r z h q e tm ht hz) ?_ hr' hc r z h q e
   intro i r z h q e tm ht hz
   replace e : (match Nat.beq i id with | true => kn | false => ke i) r z h = some q := e
   simp only [oU]
   cases hb : Nat.beq i id with
   | true => rw [hb] at e; exact hn r z h q e tm ht hz
   | false => rw [hb] at e; exact he i r z h q e tm ht hz
 | loop b ih =>
  intro A fs kn ke hn he hr hc r z h q e
  obtain ⟨c1, c2⟩ := hc
  simp only [sM] at e
  apply M.loop (A := A)
  have hj : KN C rd nt gl Fin (pF σ A.cut) (.loop b A :: fs) := by
   intro r z h q e tm ht hz
   cases hcut : A.cut with
   | some x => obtain ⟨l, keep⟩ := x; rw [hcut] at e c1; exact SL.jump c1 e tm ht hz
   | none => rw [hcut] at e; cases e
  have hr' : KR C rd nt gl Fin fin (.loop b A :: fs) := fun r z h q e tm ht hz => hr r z h q e tm ht hz
  cases hcut : A.l.cut with
  | some x => obtain ⟨l, keep⟩ := x; rw [hcut] at e c2; exact SL.jump c2 e
  | none => rw [hcut] at e c2; exact ih A.l _ _ ke hj (fun i r z h q e tm ht hz => he i r z h q e tm ht hz) hr' c2 r z h q e
 | rangeFunc f ps a b _ _ =>
  intro A fs kn ke hn he hr hc r z h q e tm ht hz
  simp only [sM] at e
  obtain ⟨g, hg, e⟩ := cO e
  obtain ⟨tm0, mX, e⟩ := fG e
  obtain rfl := hz tm0 mX
  unfold eZ at hc
  cases hcut : A.l.cut with
  | none => rw [hcut] at e; cases e
  | some x =>
   obtain ⟨j, keep⟩ := x
   rw [hcut] at e hc
   obtain ⟨al, vs, hv, hrr, e⟩ := ht.pack e
   obtain ⟨ex, mk, h4, hrun, e⟩ := aGW (rd := rd) hY JY hc (dX ht hg) hv hrr mX e
   have hz2 : ZT (z.mark mk) tm := fun t e => hz t e
   refine ⟨ex, _, hrun, ?_⟩
   rcases aJT e with ⟨rfl, e⟩ | ⟨rfl, e⟩ | ⟨i, rfl, e⟩
   ·exact hn _ _ _ _ e tm ht hz2
   ·exact hr _ _ _ _ e tm ht hz2
   ·exact he i _ _ _ _ (TN e) tm ht hz2
 | exit id => intro A fs kn ke hn he hr hc r z h q e tm ht hz; exact ⟨.exit id, _, .aY ⟨0, rfl⟩, he id r z h q e tm ht hz⟩
 | scope b ih =>
  intro A fs kn ke hn he hr hc r z h q e
  simp only [sM] at e
  unfold eZ at hc
  apply M.scope
  cases hcut : A.l.cut with
  | some x => obtain ⟨l, keep⟩ := x; rw [hcut] at e hc; exact SL.jump hc e
  | none => rw [hcut] at e hc; exact ih A.l fs kn ke hn he hr hc r z h q e
 | goto l => intro A fs kn ke hn he hr hc r z h q e; cases e
 | ret => intro A fs kn ke hn he hr hc r z h q e tm ht hz; exact ⟨.ret, _, .aY ⟨0, rfl⟩, hr r z h q e tm ht hz⟩
 | refuse w => intro A fs kn ke hn he hr hc r z h q e; cases e
end
section
variable {C : dP} {rd : Option Nat} {nt gl : Nat} {Fin : Ex → S → Value × Hp → Prop}
variable {σ : rW} {ρ : RG} {zR : KZ} {ex0 : Nat → KZ}
theorem A9 (h0 : KN C rd nt gl Fin zR []) : ∀ fs, FC C rd nt gl Fin σ fs → KN C rd nt gl Fin (wK σ (EM gl) zR fs) fs
 | [], _ => h0
 | .seq b A :: fs, hc => by
  intro r z h q e tm ht hz
  have c1 := hc.1
  unfold wK at e
  cases hcut : A.cut with
  | some x => obtain ⟨l, keep⟩ := x; rw [hcut] at e c1; exact SL.jump c1 e tm ht hz
  | none => rw [hcut] at e; cases e
 | .block _ :: fs, hc => fun r z h q e tm ht hz => A9 h0 fs hc r z h q e tm ht hz
 | .loop b A :: fs, hc => by
  intro r z h q e tm ht hz
  have c1 := hc.1
  unfold wK at e
  cases hcut : A.cut with
  | some x => obtain ⟨l, keep⟩ := x; rw [hcut] at e c1; exact SL.jump c1 e tm ht hz
  | none => rw [hcut] at e; cases e
 | .gate b A :: fs, hc => by
  intro r z h q e tm ht hz
  have c1 := hc.1
  unfold wK at e
  obtain ⟨p, tmx, ntx, psx, ax, bx, dx, g1, g2, e⟩ := aCC e
  cases hcut : A.cut with
  | some x =>
   obtain ⟨l, keep⟩ := x; rw [hcut] at e c1
   exact ⟨p, tmx, ntx, psx, ax, bx, dx, g1, g2, SL.jump c1 e tm ht hz⟩
  | none => rw [hcut] at e; cases e
theorem vS (h0 : KN C rd nt gl Fin zR []) (hx : KE C rd nt gl Fin ex0 []) : ∀ fs, FC C rd nt gl Fin σ fs → KE C rd nt gl Fin (xG σ (EM gl) zR ex0 fs) fs
 | [], _ => hx
 | .seq b A :: fs, hc => fun i r z h q e tm ht hz => vS h0 hx fs hc.2 i r z h q e tm ht hz
 | .block id :: fs, hc => by
  intro i r z h q e tm ht hz
  simp only [xG] at e
  simp only [oU]
  cases hb : Nat.beq i id with
  | true => rw [hb] at e; exact A9 h0 fs hc r z h q e tm ht hz
  | false => rw [hb] at e; exact vS h0 hx fs hc i r z h q e tm ht hz
 | .loop b A :: fs, hc => fun i r z h q e tm ht hz => vS h0 hx fs hc.2 i r z h q e tm ht hz
 | .gate b A :: fs, hc => fun i r z h q e => (by cases e)
def zI (C : dP) (rd : Option Nat) (nt gl : Nat) (Fin : Ex → S → Value × Hp → Prop) (σ : rW) (L : List wY) : Prop := ∀ e ∈ L, SL C rd nt gl Fin σ e.l e.keep e.code e.fs
structure QX where
 j : Nat
 keep : List (Nat × Kd)
 ps : Array Tmp
 a : Code
 b : Code
def qD : Code → eU → List QX
 | .seq a b, A => qD a A.l ++ qD b A.r
 | .cond _ x y, A => qD x A.l ++ qD y A.r
 | .block _ b, A => qD b A.l
 | .loop b, A => qD b A.l
 | .scope b, A => qD b A.l
 | .rangeFunc _ ps a b, A => match A.l.cut with | some (j, keep) => [⟨j, keep, ps, a, b⟩] | none => []
 | _, _ => []
def BR (C : dP) (nt : Nat) (ρ : RG) (l : List QX) : Prop := ∀ x ∈ l, TP C nt ρ x.j x.keep x.ps x.a x.b
theorem fA {c : Code} {A : eU} {fs : List Frame} {l : Nat} {keep : List (Nat × Kd)} (h : A.cut = some (l, keep)) : { l, keep, code := c, D5 := A, fs } ∈ collect c A fs := by
 unfold collect; rw [h]; exact List.mem_append_left _ (List.mem_singleton.2 rfl)
theorem aJU : ∀ (c : Code) (A : eU) (fs : List Frame), ∀ e ∈ collect c A fs, ∀ x ∈ qD e.code e.D5, x ∈ qD c A := by
 have self : ∀ {c : Code} {A : eU} {fs : List Frame} {rest : List wY} {e : wY}, e ∈ (match A.cut with | some (l, keep) => [({ l, keep, code := c, D5 := A, fs } : wY)] | none => []) ++ rest → (e ∈ rest → ∀ x ∈ qD e.code e.D5, x ∈ qD c A) → ∀ x ∈ qD e.code e.D5, x ∈ qD c A := by
  intro c A fs rest e he hr
  rcases List.mem_append.1 he with h1 | h1
  ·cases hcut : A.cut with
   | some x => obtain ⟨l, keep⟩ := x; rw [hcut] at h1; obtain rfl := List.mem_singleton.1 h1; exact fun x hx => hx
   | none => rw [hcut] at h1; cases h1
  ·exact hr h1
 intro c
 induction c with
 | seq a b iha ihb =>
  intro A fs e he
  unfold collect at he
  refine self he fun he x hx => ?_
  rcases List.mem_append.1 he with h1 | h1
  ·exact List.mem_append_left _ (iha _ _ e h1 x hx)
  ·exact List.mem_append_right _ (ihb _ _ e h1 x hx)
 | cond c x y NV NW =>
  intro A fs e he
  unfold collect at he
  refine self he fun he x hx => ?_
  rcases List.mem_append.1 he with h1 | h1
  ·exact List.mem_append_left _ (NV _ _ e h1 x hx)
  ·exact List.mem_append_right _ (NW _ _ e h1 x hx)
 | block id b ih => intro A fs e he; unfold collect at he; exact self he fun he x hx => ih _ _ e he x hx
 | loop b ih => intro A fs e he; unfold collect at he; exact self he fun he x hx => ih _ _ e he x hx
 | scope b ih => intro A fs e he; unfold collect at he; exact self he fun he x hx => ih _ _ e he x hx
 | _ => intro A fs e he; unfold collect at he; exact self he fun he => (by cases he)
theorem rQ {L : List wY} (H : zI C rd nt gl Fin σ L) : ∀ (c : Code) (A : eU) (fs : List Frame), BR C nt ρ (qD c A) → (∀ e ∈ collect c A fs, e ∈ L) → eZ C rd nt gl Fin σ ρ c A fs := by
 have cut : ∀ {c : Code} {A : eU} {fs : List Frame}, (∀ e ∈ collect c A fs, e ∈ L) → eZ C rd nt gl Fin σ ρ c A fs → (match A.cut with | some (l, keep) => SL C rd nt gl Fin σ l keep c fs | none => eZ C rd nt gl Fin σ ρ c A fs) := by
  intro c A fs h1 h2
  cases hcut : A.cut with
  | some x => obtain ⟨l, keep⟩ := x; exact H _ (h1 _ (fA hcut))
  | none => exact h2
 intro c
 induction c with
 | seq a b iha ihb =>
  intro A fs hg h
  have ha : ∀ e ∈ collect a A.l (.seq b A.r :: fs), e ∈ L := fun e he => h e (by unfold collect; exact List.mem_append_right _ (List.mem_append_left _ he))
  have hb : ∀ e ∈ collect b A.r fs, e ∈ L := fun e he => h e (by unfold collect; exact List.mem_append_right _ (List.mem_append_right _ he))
  exact ⟨cut ha (iha _ _ (fun x hx => hg x (List.mem_append_left _ hx)) ha), cut hb (ihb _ _ (fun x hx => hg x (List.mem_append_right _ hx)) hb)⟩
 | cond c x y NV NW =>
  intro A fs hg h
  have ha : ∀ e ∈ collect x A.l fs, e ∈ L := fun e he => h e (by unfold collect; exact List.mem_append_right _ (List.mem_append_left _ he))
  have hb : ∀ e ∈ collect y A.r fs, e ∈ L := fun e he => h e (by unfold collect; exact List.mem_append_right _ (List.mem_append_right _ he))
  exact ⟨cut ha (NV _ _ (fun x hx => hg x (List.mem_append_left _ hx)) ha), cut hb (NW _ _ (fun x hx => hg x (List.mem_append_right _ hx)) hb)⟩
 | block id b ih =>
  intro A fs hg h
  have ha : ∀ e ∈ collect b A.l (.block id :: fs), e ∈ L := fun e he => h e (by unfold collect; exact List.mem_append_right _ he)
  exact cut ha (ih _ _ hg ha)
 | loop b ih =>
  intro A fs hg h
  have ha : ∀ e ∈ collect b A.l (.loop b A :: fs), e ∈ L := fun e he => h e (by unfold collect; exact List.mem_append_right _ he)
  refine ⟨?_, cut ha (ih _ _ hg ha)⟩
  cases hcut : A.cut with
  | some x => obtain ⟨l, keep⟩ := x; exact H _ (h _ (fA hcut))
  | none => trivial
 | scope b ih =>
  intro A fs hg h
  have ha : ∀ e ∈ collect b A.l fs, e ∈ L := fun e he => h e (by unfold collect; exact List.mem_append_right _ he)
  exact cut ha (ih _ _ hg ha)
 | rangeFunc f ps a b _ _ =>
  intro A fs hg h
  unfold eZ
  cases hcut : A.l.cut with
  | some x =>
   obtain ⟨j, keep⟩ := x
   exact hg ⟨j, keep, ps, a, b⟩ (by unfold qD; rw [hcut]; exact List.mem_singleton.2 rfl)
  | none => trivial
 | _ => intros; trivial
theorem xI {L : List wY} (H : zI C rd nt gl Fin σ L) : ∀ (c : Code) (A : eU) (fs : List Frame), (∀ e ∈ collect c A fs, e ∈ L) → FC C rd nt gl Fin σ fs → ∀ e ∈ collect c A fs, FC C rd nt gl Fin σ e.fs ∧ ∀ x ∈ collect e.code e.D5 e.fs, x ∈ L := by
 have XY : ∀ {c : Code} {A : eU} {fs : List Frame}, (∀ e ∈ collect c A fs, e ∈ L) → (match A.cut with | some (l, keep) => SL C rd nt gl Fin σ l keep c fs | none => True) := by
  intro c A fs h1
  cases hcut : A.cut with
  | some x => obtain ⟨l, keep⟩ := x; exact H _ (h1 _ (fA hcut))
  | none => trivial
 have self : ∀ {c : Code} {A : eU} {fs : List Frame} {rest : List wY} {e : wY}, (∀ e ∈ collect c A fs, e ∈ L) → FC C rd nt gl Fin σ fs →
   e ∈ (match A.cut with | some (l, keep) => [({ l, keep, code := c, D5 := A, fs } : wY)] | none => []) ++ rest → (e ∈ rest → FC C rd nt gl Fin σ e.fs ∧ ∀ x ∈ collect e.code e.D5 e.fs, x ∈ L) →
   FC C rd nt gl Fin σ e.fs ∧ ∀ x ∈ collect e.code e.D5 e.fs, x ∈ L := by
  intro c A fs rest e h hf he hr
  rcases List.mem_append.1 he with h1 | h1
  ·cases hcut : A.cut with
   | some x =>
    obtain ⟨l, keep⟩ := x; rw [hcut] at h1
    obtain rfl := List.mem_singleton.1 h1
    exact ⟨hf, h⟩
   | none => rw [hcut] at h1; cases h1
  ·exact hr h1
 intro c
 induction c with
 | seq a b iha ihb =>
  intro A fs h hf e he
  have ha : ∀ e ∈ collect a A.l (.seq b A.r :: fs), e ∈ L := fun e he => h e (by unfold collect; exact List.mem_append_right _ (List.mem_append_left _ he))
  have hb : ∀ e ∈ collect b A.r fs, e ∈ L := fun e he => h e (by unfold collect; exact List.mem_append_right _ (List.mem_append_right _ he))
  unfold collect at he
  refine self h hf he fun he => ?_
  rcases List.mem_append.1 he with h1 | h1
  ·exact iha _ _ ha ⟨XY hb, hf⟩ e h1
  ·exact ihb _ _ hb hf e h1
 | cond c x y NV NW =>
  intro A fs h hf e he
  have ha : ∀ e ∈ collect x A.l fs, e ∈ L := fun e he => h e (by unfold collect; exact List.mem_append_right _ (List.mem_append_left _ he))
  have hb : ∀ e ∈ collect y A.r fs, e ∈ L := fun e he => h e (by unfold collect; exact List.mem_append_right _ (List.mem_append_right _ he))
  unfold collect at he
  refine self h hf he fun he => ?_
  rcases List.mem_append.1 he with h1 | h1
  ·exact NV _ _ ha hf e h1
  ·exact NW _ _ hb hf e h1
 | block id b ih =>
  intro A fs h hf e he
  have ha : ∀ e ∈ collect b A.l (.block id :: fs), e ∈ L := fun e he => h e (by unfold collect; exact List.mem_append_right _ he)
  unfold collect at he
  exact self h hf he fun he => ih _ _ ha hf e he
 | loop b ih =>
  intro A fs h hf e he
  have ha : ∀ e ∈ collect b A.l (.loop b A :: fs), e ∈ L := fun e he => h e (by unfold collect; exact List.mem_append_right _ he)
  have hs : (match A.cut with | some (l, keep) => SL C rd nt gl Fin σ l keep (.loop b) fs | none => True) := XY h
  unfold collect at he
  exact self h hf he fun he => ih _ _ ha ⟨hs, hf⟩ e he
 | scope b ih =>
  intro A fs h hf e he
  have ha : ∀ e ∈ collect b A.l fs, e ∈ L := fun e he => h e (by unfold collect; exact List.mem_append_right _ he)
  unfold collect at he
  exact self h hf he fun he => ih _ _ ha hf e he
 | _ => intro A fs h hf e he; unfold collect at he; exact self h hf he (fun h => (by cases h))
theorem kX {e : wY} : ∀ {L : List wY}, distinct (L.map (·.l)) = true → e ∈ L → entry e.l L = some e
 | x :: L, hd, h => by
  simp only [List.map_cons, distinct, Bool.and_eq_true, List.all_eq_true] at hd
  unfold entry
  cases h with
  | head => rw [show Nat.beq e.l e.l = true from by rw [beq_eq]; simp]; rfl
  | tail _ h =>
   have := hd.1 e.l (List.mem_map.2 ⟨e, h, rfl⟩)
   have hb : Nat.beq x.l e.l = false := by
    rw [beq_eq] at this ⊢
    simp at this ⊢
    exact fun k => this k.symm
   rw [hb]
   exact kX hd.2 h
end
def aJV (fin : KZ) : List Frame → KZ
 | [] => fin
 | .gate _ _ :: _ => fun _ _ _ => none
 | _ :: fs => aJV fin fs
theorem IE {C : dP} {rd : Option Nat} {nt gl : Nat} {Fin : Ex → S → Value × Hp → Prop} {fin : KZ} (h0 : KR C rd nt gl Fin fin []) : ∀ fs, KR C rd nt gl Fin (aJV fin fs) fs
 | [] => h0
 | .gate _ _ :: _ => fun r z h q e => (by cases e)
 | .seq _ _ :: fs => fun r z h q e tm ht hz => IE h0 fs r z h q e tm ht hz
 | .block _ :: fs => fun r z h q e tm ht hz => IE h0 fs r z h q e tm ht hz
 | .loop _ _ :: fs => fun r z h q e tm ht hz => IE h0 fs r z h q e tm ht hz
def aX (ρ : RG) (fy : FY) (Y : YF) (rd : Option Nat) (nt gl : Nat) (regs : List Oper → Array Oper → Bool → KZ → KZ) (zR fin : KZ) (ex0 : Nat → KZ) (L : List wY) (l : Nat) (σ : rW) (al : AL) (z : Z) (h : Hp) : aF :=
 match entry l L with
 | some e => match sV e.keep al with
  | some r => sM σ ρ fy Y rd nt regs (aJV fin e.fs) e.code e.D5 (wK σ (EM gl) zR e.fs) (xG σ (EM gl) zR ex0 e.fs) r z h
  | none => none
 | none => none
def lH (T : rW → rW) (n : Nat) : rW := Nat.rec (fun _ _ _ _ => none) (fun _ s => T s) n
section
variable {C : dP} {rd : Option Nat} {nt gl : Nat} {Fin : Ex → S → Value × Hp → Prop} {ρ : RG} {fy : FY} {Y : YF} {regs : List Oper → Array Oper → Bool → KZ → KZ} {zR fin : KZ} {ex0 : Nat → KZ}
theorem nU (LA : JW C rd nt regs) (hY : JX C Y) (JY : zS C fy) (h0 : KN C rd nt gl Fin zR []) (hr : KR C rd nt gl Fin fin []) (hx : KE C rd nt gl Fin ex0 [])
  (roots : List (Code × eU × List Frame)) (L : List wY) (hL : ∀ c A fs, (c, A, fs) ∈ roots → ∀ e ∈ collect c A fs, e ∈ L) (hL2 : ∀ e ∈ L, ∃ c A fs, (c, A, fs) ∈ roots ∧ e ∈ collect c A fs)
  (hF : ∀ σ, zI C rd nt gl Fin σ L → ∀ c A fs, (c, A, fs) ∈ roots → FC C rd nt gl Fin σ fs)
  (hG : ∀ c A fs, (c, A, fs) ∈ roots → BR C nt ρ (qD c A))
  (hd : distinct (L.map (·.l)) = true) (T : rW → rW) (hT : ∀ σ l vs z h q, T σ l vs z h = some q → aX ρ fy Y rd nt gl regs zR fin ex0 L l σ vs z h = some q) :
  ∀ n, zI C rd nt gl Fin (lH T n) L
 | 0 => fun _ _ _ _ _ _ _ e _ => (by cases e)
 | n + 1 => by
  have ih := nU LA hY JY h0 hr hx roots L hL hL2 hF hG hd T hT n
  intro e he al vs z h q hq hv
  have := hT _ _ _ _ _ _ (show T (lH T n) e.l al z h = some q from hq)
  unfold aX at this
  rw [kX hd he] at this
  simp only [qK hv] at this
  obtain ⟨c, A, fs, hm, hc⟩ := hL2 e he
  obtain ⟨f1, f2⟩ := xI ih c A fs (hL c A fs hm) (hF _ ih c A fs hm) e hc
  exact Y0 LA hY JY e.code e.D5 e.fs _ _ (A9 h0 e.fs f1) (vS h0 hx e.fs f1) (IE hr e.fs)
   (rQ ih e.code e.D5 e.fs (fun x hx => hG c A fs hm x (aJU c A fs e hc x hx)) f2) _ z h q this
end
end
end Go.bI.Y
