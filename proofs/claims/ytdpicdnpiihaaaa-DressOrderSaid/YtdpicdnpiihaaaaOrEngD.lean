/-
  An evaluator of the code, proved sound.
-/
import Derived.Test.YtdpicdnpiihaaaaOrEngC
set_option linter.unusedVariables false
/-
  Operations that may yield; functions and rounds that are told so; answers that are taken from them.
-/
namespace Go.bI.Y
open Go.bI
noncomputable section
section
variable {C : dP} {fy : FY} {nt : Nat} {Y : YF}
theorem aJW (hE : C.P.Ok) (JY : zS C fy) (hY : JX C Y) {o : Oper} {h : Hp} {k : KT} {q : Value × Hp} {tm : T Value} {r : iQ} (ht : RR r tm) (e : opY C.P C.iT fy nt Y o r h k = some q) :
  ∃ v h' tm' r', (iY C.P (jI tm) o h = some (.val v h') ∨ ∃ fn args, iY C.P (jI tm) o h = some (.call fn args) ∧ ∃ n, nC C (run C n) fn args h = some (.ret v h')) ∧
   iC nt tm o.dst v = some tm' ∧ RR r' tm' ∧ k r' h' = some q := by
 have old : opS C.P C.iT nt o r h k = some q → ∃ v h' tm' r', (iY C.P (jI tm) o h = some (.val v h') ∨ ∃ fn args, iY C.P (jI tm) o h = some (.call fn args) ∧ ∃ n, nC C (run C n) fn args h = some (.ret v h')) ∧
   iC nt tm o.dst v = some tm' ∧ RR r' tm' ∧ k r' h' = some q := by
  intro e
  obtain ⟨v, h', tm', r', ho, h1, h2, h3⟩ := VD hE ht e
  refine ⟨v, h', tm', r', ?_, h1, h2, h3⟩
  rcases ho with ho | ⟨f, args, ho, hc⟩
  ·exact .inl ho
  ·exact .inr ⟨.func f, args, ho, 0, by simp only [nC, hc]⟩
 unfold opY at e
 split at e
 ·rename_i c ho
  split at e
  ·rename_i f hc
   obtain ⟨g, hg, e1⟩ := cO e
   split at e1
   ·rename_i l hl
    obtain ⟨v, h', hp, e2⟩ := jH e1
    obtain ⟨tm', r', k1, k2, k3⟩ := GX ht (gW e2)
    refine ⟨v, h', tm', r', .inr ?_, k1, k2, k3⟩
    unfold EN fO at hp
    dsimp only at hp
    split at hp
    ·rename_i f' fa ca
     have hv : iY C.P (jI tm) o h = some (.call (.func f') (fa ++ l.toArray ++ ca)) := by
      simp only [iY, ho, mV, hc, rC, nR, dX ht hg, BL ht hl, Option.bind_some]
     rcases aJO hp with hp | hp
     ·exact ⟨.func f', fa ++ l.toArray ++ ca, hv, 0, by simp only [nC, hp]⟩
     ·obtain ⟨h1, h2, m, hm⟩ := JY _ _ _ _ _ _ hY hp
      refine ⟨.func f', fa ++ l.toArray ++ ca, hv, m, ?_⟩
      have : fa ++ l.toArray ++ ca = (fa.toList ++ l ++ ca.toList).toArray := by apply Array.ext'; simp
      rw [this]
      simp only [nC, h1, h2]
      exact hm
    ·rename_i n fa ca
     obtain ⟨m, hm⟩ := hY _ _ _ _ _ hp
     refine ⟨.yield n, fa ++ l.toArray, ?_, m, ?_⟩
     ·simp only [iY, ho, mV, hc, rC, nR, dX ht hg, BL ht hl, Option.bind_some]
     ·have : (fa.toList ++ l).toArray = fa ++ l.toArray := by apply Array.ext'; simp
      rw [this] at hm
      exact hm
    ·cases hp
   ·cases e1
  ·exact old e
 ·exact old e
theorem TQ {d : Option Tmp} {z : Z} {r : iQ} {k : Z → aF} {q : Value × Hp} {tm tm' : T Value} {v : Value} (hz : ZT z tm) (hp : iC nt tm d v = some tm') (hr : RR r tm') (e : Q9 d z r k = some q) : ∃ z', ZT z' tm' ∧ z'.ds = z.ds ∧ k z' = some q := by
 unfold Q9 fO at e
 dsimp only at e
 split at e
 ·cases hp; exact ⟨z, hz, rfl, e⟩
 ·rename_i d
  split at e
  ·rename_i d' v' r'
   split at e
   ·rename_i hb
    obtain rfl := Nat.eq_of_beq_eq_true hb
    replace hp := aP hp
    obtain ⟨_, hp⟩ := hp
    cases hp
    have : (tm.put d' (some v)).get d' = some v' := hr d' v' (by unfold iQ.at; rw [hb]; rfl)
    rw [T.get_put, if_pos rfl] at this
    cases this
    exact ⟨_, hz.put d' v, rfl, e⟩
   ·cases e
  ·cases e
theorem aD9 (hE : C.P.Ok) (JY : zS C fy) (hY : JX C Y) {rd : Option Nat} {ops : Array Oper} : ∀ (l : List Oper) {r : iQ} {z : Z} {h : Hp} {k : KZ} {q : Value × Hp} {tm : T Value}, RR r tm → ZT z tm → FP C.P C.iT fy nt Y ops l k r z h = some q →
  ∃ n tm' h' r' z', opsV C (run C n) rd nt ops l (BQ tm z h) = some (.code .normal (BQ tm' z' h')) ∧ RR r' tm' ∧ ZT z' tm' ∧ k r' z' h' = some q
 | [], r, z, h, k, q, tm, ht, hz, e => ⟨0, tm, h, r, z, rfl, ht, hz, e⟩
 | o :: rest, r, z, h, k, q, tm, ht, hz, e => by
  have fin : (∃ n tm' h' r' z', jP C (run C n) rd nt ops o (BQ tm z h) = some (.code .normal (BQ tm' z' h')) ∧ RR r' tm' ∧ ZT z' tm' ∧ FP C.P C.iT fy nt Y ops rest k r' z' h' = some q) →
    ∃ n tm' h' r' z', opsV C (run C n) rd nt ops (o :: rest) (BQ tm z h) = some (.code .normal (BQ tm' z' h')) ∧ RR r' tm' ∧ ZT z' tm' ∧ k r' z' h' = some q := by
   rintro ⟨n, tm', h', r', z', h1, h2, h3, h4⟩
   obtain ⟨m, pW, h2', r2, z2, g1, g2, g3, g4⟩ := aD9 hE JY hY (rd := rd) rest h2 h3 h4
   refine ⟨max n m, pW, h2', r2, z2, ?_, g2, g3, g4⟩
   unfold opsV
   rw [MR (uR C (Nat.le_max_left n m)) C rd nt ops o _ _ h1]
   exact VW (uR C (Nat.le_max_right n m)) C rd nt ops rest _ _ g1
  have yes : ∀ {r' : iQ}, RR r' tm → bZ ops tm o = true → (opY C.P C.iT fy nt Y o r' h fun r h => Q9 o.dst z r fun z => FP C.P C.iT fy nt Y ops rest k r z h) = some q →
    ∃ n tm' h' r' z', jP C (run C n) rd nt ops o (BQ tm z h) = some (.code .normal (BQ tm' z' h')) ∧ RR r' tm' ∧ ZT z' tm' ∧ FP C.P C.iT fy nt Y ops rest k r' z' h' = some q := by
   intro r' hr hw hf
   obtain ⟨v, h', tm', r2, ho, h1, h2, h3⟩ := aJW hE JY hY hr hf
   obtain ⟨z', k1, k2, k3⟩ := TQ hz h1 h2 h3
   have hst : BQ tm' z' h' = { tm := tm', df := dfs z.ds, h := h' } := by unfold BQ; rw [k2]
   rcases ho with ho | ⟨fn, args, ho, n, hc⟩
   ·refine ⟨0, tm', h', r2, z', ?_, h2, k1, k3⟩
    unfold jP
    rw [show bZ ops (BQ tm z h).tm o = true from hw, hst]
    simp only [BQ, ho, Option.bind_some, h1]
   ·refine ⟨n, tm', h', r2, z', ?_, h2, k1, k3⟩
    unfold jP
    rw [show bZ ops (BQ tm z h).tm o = true from hw, hst]
    simp only [BQ, ho, Option.bind_some, hc, h1]
  have not : ∀ {r' : iQ}, RR r' tm → bZ ops tm o = false → GV nt o.dst r' (fun r h => Q9 o.dst z r fun z => FP C.P C.iT fy nt Y ops rest k r z h) undef h = some q →
    ∃ n tm' h' r' z', jP C (run C n) rd nt ops o (BQ tm z h) = some (.code .normal (BQ tm' z' h')) ∧ RR r' tm' ∧ ZT z' tm' ∧ FP C.P C.iT fy nt Y ops rest k r' z' h' = some q := by
   intro r' hr hw hf
   obtain ⟨tm', r2, h1, h2, h3⟩ := GX hr hf
   obtain ⟨z', k1, k2, k3⟩ := TQ hz h1 h2 h3
   refine ⟨0, tm', h, r2, z', ?_, h2, k1, k3⟩
   unfold jP
   rw [show bZ ops (BQ tm z h).tm o = false from hw]
   simp only [BQ, h1, Option.bind_some, k2]
  unfold FP at e
  split at e
  ·rename_i hg
   exact fin (yes ht (by simp only [bZ, hg]) e)
  ·rename_i j want hg
   split at e
   ·cases e
   ·rename_i d hd
    split at e
    ·cases e
    ·rename_i gv hgv
     have hget := ht d gv hgv
     have hw : bZ ops tm o = aIJ gv want := by
      simp only [bZ, hg, hd, Option.bind_some, hget]
      cases gv <;> rfl
     have ht' := ht.same hget
     rcases NU e with ⟨rfl, e⟩ | ⟨rfl, e⟩ | ⟨hn, e⟩
     ·cases want with
      | true => exact fin (yes ht' (by rw [hw]; rfl) e)
      | false => exact fin (not ht' (by rw [hw]; rfl) e)
     ·cases want with
      | false => exact fin (yes ht' (by rw [hw]; rfl) e)
      | true => exact fin (not ht' (by rw [hw]; rfl) e)
     ·exact fin (not ht (by rw [hw]; cases gv <;> first | rfl | exact absurd rfl (hn _)) e)
theorem aQU (hE : C.P.Ok) (JY : zS C fy) (hY : JX C Y) {rd : Option Nat} {ops : Array Oper} {o : Oper} {h : Hp} {k : KT} {q : Value × Hp} {tm : T Value} {r : iQ} (ht : RR r tm) (e : aU6 C.P C.iT fy nt Y ops o k r h = some q) :
  ∃ n vG h1 r1, jP C (run C n) rd nt ops o (st tm h) = some (.code .normal (st vG h1)) ∧ RR r1 vG ∧ k r1 h1 = some q := by
 unfold aU6 at e
 split at e
 ·rename_i hg
  obtain ⟨v, h', tm', r2, ho, h1, h2, h3⟩ := aJW hE JY hY ht e
  rcases ho with ho | ⟨fn, args, ho, n, hc⟩
  ·refine ⟨0, tm', h', r2, ?_, h2, h3⟩
   unfold jP
   rw [show bZ ops (st tm h).tm o = true from by simp only [bZ, hg]]
   simp only [st, ho, Option.bind_some, h1]
  ·refine ⟨n, tm', h', r2, ?_, h2, h3⟩
   unfold jP
   rw [show bZ ops (st tm h).tm o = true from by simp only [bZ, hg]]
   simp only [st, ho, Option.bind_some, hc, h1]
 ·obtain ⟨vG, h1', r1, he1, hr1, hk⟩ := yS hE (rd := rd) (run C 0) [o] ht e
  exact ⟨0, vG, h1', r1, GR he1, hr1, hk⟩
theorem O8 (hE : C.P.Ok) (JY : zS C fy) (hY : JX C Y) {rd : Option Nat} {ops : Array Oper} {ls : List Left} {t : Nat} (zW : mF ops = true) (hap : o6 ops (masks ops.toList []) = true) (hls : ls.length = t) (hops : ∀ j, j < ops.size → ∃ o, ops[j]? = some o) (htn : t ≤ ops.size)
  (hnt : ∀ j, j < t → ∀ x, bJ ops j = some x → x < nt) {kk : KT} {q : Value × Hp} :
  ∀ (m k : Nat) (rest : List Nat) (h : Hp) (cur RS : T Value) (r : iQ), k + m = ops.size → t ≤ k → (∀ j ∈ rest, j < t) →
   (∀ x, (∀ j ∈ rest, bJ ops j ≠ some x) → RS.get x = cur.get x) → (∀ j ∈ rest, ∀ x, bJ ops j = some x → ∃ l, ls[j]? = some l ∧ cur.get x = some l.v) → RR r cur →
   YY C.P C.iT fy nt Y (masks ops.toList []) ops (ls.map (·.own)) kk rest (List.range' k m) r h = some q →
   ∃ nn tm h' r', tailV C (run C nn) rd nt ops (masks ops.toList []) ls rest (List.range' k m) (st RS h) = some (.code .normal (st tm h')) ∧ RR r' tm ∧ kk r' h' = some q
 | 0, k, rest, h, cur, RS, r, hkm, htk, hrest, ha, hb, hRR, e => by
  rw [List.range'_zero] at e
  unfold YY at e
  obtain ⟨tm, h1⟩ := lF (ls := ls) (nt := nt) (ops := ops) (fun j hj => hops j (by omega)) (fun j hj x hx => hnt j (by omega) x hx) rest RS (fun j hj => by rw [hls]; exact hrest j hj)
  refine ⟨0, tm, ⟨h.next, h.ro, vP (ls.map (·.own)) rest h.aC⟩, r, ?_, ?_, e⟩
  ·show tailV C (run C 0) rd nt ops _ ls rest [] _ = _
   unfold tailV
   simp only [st]
   rw [h1]
   simp only [Option.bind_some]
   rw [uK rest h.aC (fun j hj => by rw [hls]; exact hrest j hj)]
   rfl
  ·intro x v hv
   have XV := hRR x v hv
   by_cases hex : ∃ j, j ∈ rest ∧ bJ ops j = some x
   ·obtain ⟨j, hj, hd⟩ := hex
    obtain ⟨l, hl, uA⟩ := hb j hj x hd
    obtain ⟨oj, hoj⟩ := hops j (by have := hrest j hj; omega)
    have wW : oj.dst = some x := by unfold bJ at hd; rw [hoj] at hd; exact hd
    have rG : ∀ k ∈ rest, bJ ops k = some x → k = j := by
     intro k hk hkd
     obtain ⟨ok, hok⟩ := hops k (by have := hrest k hk; omega)
     have hkx : ok.dst = some x := by unfold bJ at hkd; rw [hok] at hkd; exact hkd
     rcases (iA hap hok hoj wW).1 with h | h
     ·exact h
     ·exact absurd hkx h
    obtain ⟨l', hl', hg, _⟩ := nD _ h1 j hj hd rG
    rw [hl] at hl'; cases hl'
    rw [hg, ← uA]; exact XV
   ·have hno : ∀ j ∈ rest, bJ ops j ≠ some x := fun j hj h => hex ⟨j, hj, h⟩
    rw [jQ _ h1 x hno, ha x hno]; exact XV
 | m + 1, k, rest, h, cur, RS, r, hkm, htk, hrest, ha, hb, hRR, e => by
  have hlt : k < ops.size := by omega
  obtain ⟨o, ho⟩ := hops k hlt
  rw [List.range'_succ] at e ⊢
  unfold YY at e
  simp only [ho] at e
  obtain ⟨n1, vG, h1', r1, hr, hr1, hk⟩ := aQU (rd := rd) hE JY hY hRR e
  have aAV : ∀ j ∈ rest.filter (waits (masks ops.toList []) k), j < ls.length := fun j hj => by rw [hls]; exact hrest j (List.mem_filter.1 hj).1
  obtain ⟨XC, h1⟩ := lF (ls := ls) (nt := nt) (ops := ops) (fun j hj => hops j (by omega)) (fun j hj x hx => hnt j (by omega) x hx) _ RS aAV
  have qF : ∀ {j : Nat} {oj : Oper} {x : Nat}, ops[j]? = some oj → bJ ops j = some x → oj.dst = some x := fun hoj hd => by unfold bJ at hd; rw [hoj] at hd; exact hd
  have agree : ∀ x, (∀ j ∈ rest.filter (fun j => !(waits (masks ops.toList []) k j)), bJ ops j ≠ some x) → XC.get x = cur.get x := by
   intro x hx
   by_cases hex : ∃ j, j ∈ rest ∧ bJ ops j = some x
   ·obtain ⟨j, hj, hd⟩ := hex
    obtain ⟨l, hl, uA⟩ := hb j hj x hd
    have hw : waits (masks ops.toList []) k j = true := by
     cases hww : waits (masks ops.toList []) k j with
     | true => rfl
     | false => exact absurd hd (hx j (List.mem_filter.2 ⟨hj, by rw [hww]; rfl⟩))
    obtain ⟨oj, hoj⟩ := hops j (by have := hrest j hj; omega)
    have rG : ∀ i ∈ rest.filter (waits (masks ops.toList []) k), bJ ops i = some x → i = j := by
     intro i hi hid
     obtain ⟨oi, hoi⟩ := hops i (by have := hrest i (List.mem_filter.1 hi).1; omega)
     rcases (iA hap hoi hoj (qF hoj hd)).1 with h | h
     ·exact h
     ·exact absurd (qF hoi hid) h
    obtain ⟨l', hl', hg, _⟩ := nD _ h1 j (List.mem_filter.2 ⟨hj, hw⟩) hd rG
    rw [hl] at hl'; cases hl'
    rw [hg]; exact uA.symm
   ·have hno : ∀ j ∈ rest, bJ ops j ≠ some x := fun j hj h => hex ⟨j, hj, h⟩
    rw [jQ _ h1 x (fun j hj => hno j (List.mem_filter.1 hj).1)]; exact ha x hno
  obtain ⟨v, hp, hrun⟩ := E8 hr
  have hreads : ∀ x ∈ readsOf ops o, XC.get x = cur.get x := by
   intro x hx
   apply agree
   intro j hj hd
   obtain ⟨hj1, hj2⟩ := List.mem_filter.1 hj
   obtain ⟨oj, hoj⟩ := hops j (by have := hrest j hj1; omega)
   rcases (iA hap ho hoj (qF hoj hd)).2 with h | h | h
   ·rw [h] at hj2; cases hj2
   ·have := kV zW h; have := hrest j hj1; omega
   ·exact h hx
  have hp' : iC nt cur o.dst v = some vG := hp
  obtain ⟨NB, hp3⟩ : ∃ NB, iC nt XC o.dst v = some NB := yH fun x hx => by
   have aIH := hp'
   rw [hx] at aIH
   exact (jJ aIH).2
  have hrun' := hrun XC hreads NB hp3
  obtain ⟨n2, tm, h2', r', k1, k2, k3⟩ := O8 hE JY hY (rd := rd) zW hap hls hops htn hnt m (k + 1) (rest.filter (fun j => !(waits (masks ops.toList []) k j))) h1' vG NB r1 (by omega) (by omega)
   (fun j hj => hrest j (List.mem_filter.1 hj).1)
   (by
    intro x hx
    by_cases hd : o.dst = some x
    ·rw [hd] at hp' hp3
     rw [(jJ hp').1, (jJ hp3).1]
    ·rw [gJ hp' hd, gJ hp3 hd]; exact agree x hx)
   (by
    intro j hj x hd
    obtain ⟨hj1, _⟩ := List.mem_filter.1 hj
    obtain ⟨l, hl, uA⟩ := hb j hj1 x hd
    obtain ⟨oj, hoj⟩ := hops j (by have := hrest j hj1; omega)
    have : o.dst ≠ some x := by
     rcases (iA hap ho hoj (qF hoj hd)).1 with h | h
     ·have := hrest j hj1; omega
     ·exact h
    exact ⟨l, hl, by rw [gJ hp' this]; exact uA⟩)
   hr1 hk
  refine ⟨max n1 n2, tm, h2', r', ?_, k2, k3⟩
  unfold tailV
  rw [ho]
  simp only [Option.bind_some, st, h1]
  rw [uK _ h.aC aAV]
  simp only [Option.bind_some]
  have aII : jP C (run C n1) rd nt ops o { tm := XC, df := [], h := { next := h.next, ro := h.ro, aC := vP (ls.map (·.own)) (rest.filter (waits (masks ops.toList []) k)) h.aC } } = some (.code .normal (st NB h1')) := hrun'
  rw [MR (uR C (Nat.le_max_left n1 n2)) C rd nt ops o _ _ aII]
  exact OE (uR C (Nat.le_max_right n1 n2)) C rd nt ops _ ls _ _ _ _ k1
theorem aJX (hE : C.P.Ok) (JY : zS C fy) (hY : JX C Y) {rd : Option Nat} {ops : Array Oper} {k : KT} {r : iQ} {h : Hp} {q : Value × Hp} {tm : T Value} (hc : EG ops = true) (ht : RR r tm) (e : aJP C.P C.iT fy nt Y ops k r h = some q) :
  ∃ nn tm' h' r', pY C (run C nn) rd nt ops (st tm h) = some (.code .normal (st tm' h')) ∧ RR r' tm' ∧ k r' h' = some q := by
 unfold EG at hc
 simp only [Bool.and_eq_true, List.all_eq_true] at hc
 obtain ⟨⟨zW, hap⟩, hall⟩ := hc
 have htn : gD ops ≤ ops.size := rH (ops := ops) (ms := masks ops.toList []) ops.size
 have hop : ∀ i, i < gD ops → ∃ o, ops[i]? = some o ∧ ((uG o = true ∧ ∃ d, o.dst = some d) ∨ GQ o = true) := by
  intro i hi
  have := hall i (by simpa using hi)
  cases ho : ops[i]? with
  | none => rw [ho] at this; cases this
  | some o =>
   rw [ho] at this
   simp only [Bool.or_eq_true, Bool.and_eq_true] at this
   exact ⟨o, rfl, this.imp (fun h => ⟨h.1, Option.isSome_iff_exists.1 h.2⟩) id⟩
 have hops : ∀ j, j < ops.size → ∃ o, ops[j]? = some o := fun j hj => ⟨ops[j], Array.getElem?_eq_getElem hj⟩
 have I0 : aA8 nt ops (st tm h) 0 [] tm := ⟨rfl, fun j hj => by omega, fun x _ => rfl⟩
 unfold aJP at e
 rw [List.range_eq_range'] at e
 obtain ⟨ls, cur, r1, n, h1, I, hr1, hk⟩ := vR (C := C) (nt := nt) (ops := ops) (s := st tm h) (self := run C 0) hE zW hap htn hop (gD ops) 0 [] tm r h.next (by omega) I0 ht e
 obtain ⟨nn, tm', h', r', h3, h4, h5⟩ := O8 (ls := ls) (C := C) (rd := rd) (nt := nt) hE JY hY zW hap I.len hops htn (fun j hj x hx => (I.XB j hj x hx).1)
  (ops.size - gD ops) (gD ops) (List.range' 0 (gD ops)) { h with next := n } cur tm r1 (by omega) (Nat.le_refl _) (fun j hj => by simpa using hj)
  (fun x hx => (I.out x fun j hj => hx j (by simpa using hj)).symm) (fun j hj x hx => (I.XB j (by simpa using hj) x hx).2) hr1 hk
 refine ⟨nn, tm', h', r', ?_, h4, h5⟩
 unfold pY
 simp only [zW, hap, Bool.and_self, XG]
 rw [show fD ops (masks ops.toList []) ops.size = gD ops from rfl, List.range_eq_range']
 rw [show (st tm h).h.next = h.next from rfl, FI (uR C (Nat.zero_le nn)) C nt ops _ _ _ _ _ _ h1]
 exact h3
theorem aEA (hE : C.P.Ok) (JY : zS C fy) (hY : JX C Y) {rd : Option Nat} : JW C rd nt (aQT C.P C.iT fy nt Y) := by
 intro id ops d kn r z h q e tm ht hz
 cases d with
 | false =>
  obtain ⟨n, tm', h', r', z', h1, h2, h3, h4⟩ := aD9 (rd := rd) hE JY hY ops.toList ht hz (show FP C.P C.iT fy nt Y ops ops.toList kn r z h = some q from e)
  exact ⟨tm', h', r', z', .aY ⟨n, h1⟩, h2, h3, h4⟩
 | true =>
  unfold aQT at e
  cases hb : (aZE ops && EG ops) with
  | false =>
   simp only [hb] at e
   obtain ⟨tm', h', r', h1, h2, h3⟩ := dJ hE (rd := rd) id ops true _ r h q (show kF C.P C.iT nt ops.toList ops true (fun r h => kn r z.lose h) r h = some q from e) tm ht
   exact ⟨tm', h', r', z.lose, TM h1 _, h2, ZT.lose, h3⟩
  | true =>
   simp only [hb] at e
   obtain ⟨n, tm', h', r', h1, h2, h3⟩ := aJX (rd := rd) hE JY hY (Bool.and_eq_true_iff.1 hb).2 ht e
   have hr : eG C (.code (.region id ops true) rd nt (st tm h)) (.code .normal (st tm' h')) := .aY ⟨n, h1⟩
   exact ⟨tm', h', r', z.lose, TM hr _, h2, ZT.lose, h3⟩
end
def aEB (E : Env) (iT : FuncId → Array Value → Hp → Option (Value × Hp)) (fy : FY) (nt : Nat) (Y : YF) (l : List Oper) (ops : Array Oper) (d : Bool) (k : KZ) : KZ := aQT E iT fy nt Y l ops d fun r z h => k r z.lose h
theorem O9 {C : dP} {fy : FY} {nt : Nat} {Y : YF} (hE : C.P.Ok) (JY : zS C fy) (hY : JX C Y) {rd : Option Nat} : JW C rd nt (aEB C.P C.iT fy nt Y) := by
 intro id ops d kn r z h q e tm ht hz
 obtain ⟨tm', h', r', z', h1, h2, h3, h4⟩ := aEA (rd := rd) hE JY hY id ops d (fun r z h => kn r z.lose h) r z h q e tm ht hz
 exact ⟨tm', h', r', z'.lose, h1, h2, ZT.lose, h4⟩
def xR : List Nat → Hp → Option Hp
 | [], h => some h
 | d :: ds, h => match h.get d with
  | some (.xB true) => bU (Nat.ble h.ro d) (xR ds (h.upd d (.xB false))) none
  | _ => none
def PD (E : Env) (rs : List ResultVar) : KZ := fun r z h => aSR (xR z.ds h) fun h => aIK E r h rs fun vs => some (uL vs, h)
def aZG (E : Env) (rs : List ResultVar) (e : Ex) (s : S) (q : Value × Hp) : Prop :=
 (e = .normal ∨ e = .ret) ∧ ∃ ds h1 vs, s.df = dfs ds ∧ xR ds s.h = some h1 ∧ iV E s.tm h1 rs = some vs ∧ q = (uL vs, h1)
theorem TR {C : dP} {self : Self} {fn : Func} {tm : T Value} {vs : List Value} : ∀ (ds : List Nat) {h h1 : Hp}, xR ds h = some h1 → iV C.P tm h1 fn.results.toList = some vs →
  jS C self fn tm (dfs ds) .returning h = some (.ret (uL vs) h1)
 | [], h, h1, e, hv => by cases e; simp only [dfs, List.map_nil, jS, hv, Option.bind_some]
 | d :: ds, h, h1, e, hv => by
  unfold xR at e
  split at e
  ·rename_i hg
   obtain ⟨hb, e⟩ := iJ e
   have ih := TR (C := C) (self := self) ds e hv
   unfold jS
   simp only [dfs, List.map_cons, hg, hb, XG] at ih ⊢
   exact ih
  ·cases e
def Y1 : Nat → KZ := fun _ _ _ _ => none
theorem FQ {C : dP} {f : FuncId} {fn : Func} {body : Code} {np : Nat} {A : eU} {T : rW → rW} {ρ : RG} {fy : FY} {Y : YF} {regs : List Oper → Array Oper → Bool → KZ → KZ}
  (LA : JW C none (np + (fn.ntmps - np)) regs) (hY : JX C Y) (JY : zS C fy) (hf : C.fn f = some fn) (hb : fn.body = some body) {kinds : List Kd} (hk : kinds.length = np) (hcut : A.cut = some (0, (List.range' 0 np).zip kinds))
  (hG : BR C (np + (fn.ntmps - np)) ρ (qD body A)) (hd : distinct ((collect body A []).map (·.l)) = true)
  (hT : ∀ σ l vs z h q, T σ l vs z h = some q → aX ρ fy Y none (np + (fn.ntmps - np)) 0 regs (PD C.P fn.results.toList) (PD C.P fn.results.toList) Y1 (collect body A []) l σ vs z h = some q)
  {n : Nat} {args : List Value} {h h' : Hp} {v : Value} (e : bB kinds args (fun al => lH T n 0 al ⟨some (jK args 0 .nil), []⟩ h) = some (v, h')) : eG C (.call f args.toArray h) (.ret v h') := by
 have zR : ∀ r z h q, PD C.P fn.results.toList r z h = some q → ∀ tm, RR r tm → ∀ e, (e = .normal ∨ e = .ret) → aZG C.P fn.results.toList e (BQ tm z h) q := by
  intro r z h q e tm ht ex hx
  obtain ⟨h1, hdl, e⟩ := fG e
  obtain ⟨vs, k1, k2⟩ := MP ht _ e
  cases k2
  exact ⟨hx, z.ds, h1, vs, rfl, hdl, k1, rfl⟩
 have all := nU (C := C) (rd := none) (gl := 0) (Fin := aZG C.P fn.results.toList) (zR := PD C.P fn.results.toList) (fin := PD C.P fn.results.toList) (ex0 := Y1) LA hY JY
  (fun r z h q e tm ht _ => zR r z h q e tm ht .normal (.inl rfl)) (fun r z h q e tm ht _ => zR r z h q e tm ht .ret (.inr rfl)) (fun i r z h q e => (by cases e))
  [(body, A, [])] (collect body A []) (fun c A' fs hm e he => by obtain ⟨rfl, rfl, rfl⟩ : c = body ∧ A' = A ∧ fs = [] := (by simpa using hm); exact he)
  (fun e he => ⟨body, A, [], List.mem_singleton.2 rfl, he⟩) (fun σ _ c A' fs hm => by obtain ⟨rfl, rfl, rfl⟩ : c = body ∧ A' = A ∧ fs = [] := (by simpa using hm); exact trivial)
  (fun c A' fs hm => by obtain ⟨rfl, rfl, rfl⟩ : c = body ∧ A' = A ∧ fs = [] := (by simpa using hm); exact hG) hd T hT n
 obtain ⟨al, hal, e⟩ := rP e
 have hlen : args.length = np := by rw [← hk]; exact AL.rO hal
 have z1 : ((List.range' 0 np).zip kinds).map (·.2) = kinds := List.map_snd_zip (by simp [hk])
 have z2 : ((List.range' 0 np).zip kinds).map (·.1) = List.range' 0 np := List.map_fst_zip (by simp [hk])
 have h0 := all _ (fA hcut) al args _ h (v, h') e (by show AL.vals (((List.range' 0 np).zip kinds).map (·.2)) al = some args; rw [z1]; exact hal)
 obtain ⟨ex, s', ⟨m, h1⟩, h2⟩ := h0 (jK args 0 .nil) (by
  show RR ((((List.range' 0 np).zip kinds).map (·.1)).zip args) _
  rw [z2]
  subst hlen; exact aDR args) (fun t et => Option.some.inj et)
 obtain ⟨hx, ds, hh, vs, g1, g2, g3, g4⟩ := h2
 cases g4
 have hl := TR (C := C) (self := run C m) (fn := fn) ds g2 g3
 refine .aY ⟨m, ?_⟩
 have hst : (S.mk (jK args 0 .nil) [] h) = BQ (jK args 0 .nil) ⟨some (jK args 0 .nil), []⟩ h := rfl
 simp only [dZ, hf, hb, Option.bind_some, List.size_toArray, hlen, hst, h1]
 rcases hx with rfl | rfl
 ·rw [← g1] at hl; exact hl
 ·rw [← g1] at hl; exact hl
def FR : List (Tmp × Kd) → List Value → AL → Z → (AL → Z → aF) → aF
 | [], [], al, z, k => k al z
 | (p, .i kd) :: ps, v :: vs, al, z, k => aS kd v fun x => FR ps vs (.i x al) (z.put p (.int kd x)) k
 | (p, .b) :: ps, v :: vs, al, z, k => dH v fun x => FR ps vs (.b x al) (z.put p (.bool x)) k
 | (p, .v) :: ps, v :: vs, al, z, k => FR ps vs (.v v al) (z.put p v) k
 | _, _, _, _, _ => none
theorem TS {nt : Nat} : ∀ {ps : List (Tmp × Kd)} {args : List Value} {keep : List (Nat × Kd)} {al : AL} {vs : List Value} {z : Z} {tm : T Value} {k : AL → Z → aF} {q : Value × Hp}, FR ps args al z k = some q → (∀ p ∈ ps, Nat.blt p.1 nt = true) →
  AL.vals (keep.map (·.2)) al = some vs → RR ((keep.map (·.1)).zip vs) tm → z.tm = some tm →
  ∃ al' vs' vG z', args.length = ps.length ∧ qC nt ((ps.map (·.1)).zip args) tm = some vG ∧ AL.vals ((ps.reverse ++ keep).map (·.2)) al' = some vs' ∧ RR (((ps.reverse ++ keep).map (·.1)).zip vs') vG ∧ z'.tm = some vG ∧ z'.ds = z.ds ∧ k al' z' = some q
 | [], [], keep, al, vs, z, tm, k, q, e, hp, hv, hr, hz => ⟨al, vs, tm, z, rfl, rfl, hv, hr, hz, rfl, e⟩
 | [], _ :: _, keep, al, vs, z, tm, k, q, e, hp, hv, hr, hz => by cases e
 | (p, .i kd) :: ps, [], keep, al, vs, z, tm, k, q, e, hp, hv, hr, hz => by cases e
 | (p, .b) :: ps, [], keep, al, vs, z, tm, k, q, e, hp, hv, hr, hz => by cases e
 | (p, .v) :: ps, [], keep, al, vs, z, tm, k, q, e, hp, hv, hr, hz => by cases e
 | (p, kk) :: ps, v :: args, keep, al, vs, z, tm, k, q, e, hp, hv, hr, hz => by
  have hpn : Nat.blt p nt = true := hp (p, kk) (.head _)
  have next : ∀ {al1 : AL}, AL.vals (((p, kk) :: keep).map (·.2)) al1 = some (v :: vs) → FR ps args al1 (z.put p v) k = some q →
    ∃ al' vs' vG z', (v :: args).length = ((p, kk) :: ps).length ∧ qC nt ((((p, kk) :: ps).map (·.1)).zip (v :: args)) tm = some vG ∧ AL.vals ((((p, kk) :: ps).reverse ++ keep).map (·.2)) al' = some vs' ∧
     RR (((((p, kk) :: ps).reverse ++ keep).map (·.1)).zip vs') vG ∧ z'.tm = some vG ∧ z'.ds = z.ds ∧ k al' z' = some q := by
   intro al1 h1 h2
   obtain ⟨al', vs', vG, z', g1, g2, g3, g4, g5, g6, g7⟩ := TS (nt := nt) (keep := (p, kk) :: keep) (tm := tm.put p (some v)) h2 (fun x hx => hp x (.tail _ hx)) h1 (by
    show RR ((p, v) :: ((keep.map (·.1)).zip vs)) _
    exact hr.put p v) (by unfold Z.put; rw [hz])
   refine ⟨al', vs', vG, z', by simp [g1], ?_, by simpa using g3, by simpa using g4, g5, g6, g7⟩
   simp only [List.map_cons, List.zip_cons_cons, qC, hpn, XG, g2]
  cases kk with
  | i kd =>
   obtain ⟨x, rfl, e2⟩ := bF (show aS kd v _ = some q from e)
   exact next (al1 := .i x al) (by simp only [List.map_cons, AL.vals, hv, Option.map_some]) e2
  | b =>
   obtain ⟨x, rfl, e2⟩ := lG (show dH v _ = some q from e)
   exact next (al1 := .b x al) (by simp only [List.map_cons, AL.vals, hv, Option.map_some]) e2
  | v => exact next (al1 := .v v al) (by simp only [List.map_cons, AL.vals, hv, Option.map_some]) e
def aVA : KZ := fun _ _ h => some (.bool true, h)
def aVB : KZ := fun _ _ h => some (.bool false, h)
def aVC : Nat → KZ := fun i _ _ h => some (.int .i64 (Int.ofNat i), h)
def bDQ (e : Ex) (s : S) (q : Value × Hp) : Prop := exV e = some q.1 ∧ s.h = q.2
theorem Y2 {C : dP} {nt : Nat} {a b : Code} {Aa Ab : eU} {T : Nat → rW → rW} {ρ' ρ : RG} {j : Nat} {fy : FY} {Y : YF} {ps : Array Tmp} {keep : List (Nat × Kd)} {kinds : List Kd} {n : Nat} {regs : List Oper → Array Oper → Bool → KZ → KZ}
  (LA : ∀ rd, JW C rd nt regs) (hY : JX C Y) (JY : zS C fy) (hk : kinds.length = ps.size) (hps : ∀ p ∈ ps.toList.zip kinds, Nat.blt p.1 nt = true) (hcut : Aa.cut = some (0, (ps.toList.zip kinds).reverse ++ keep))
  (hG : BR C nt ρ' (qD a Aa ++ qD b Ab)) (hd : distinct ((collect a Aa [.gate b Ab] ++ collect b Ab []).map (·.l)) = true)
  (hT : ∀ gl σ l vs z h q, T gl σ l vs z h = some q → aX ρ' fy Y (some gl) nt gl regs aVA aVB aVC (collect a Aa [.gate b Ab] ++ collect b Ab []) l σ vs z h = some q)
  (hρ : ∀ l al z args h, ρ j l al z args h = FR (ps.toList.zip kinds) args al ⟨z.tm, []⟩ fun al z => lH (T l) n 0 al z h) :
  TP C nt ρ j keep ps a b := by
 intro l al vs z args h ex h2 e hv tm hr hz
 rw [hρ] at e
 have all := nU (C := C) (rd := some l) (gl := l) (Fin := bDQ) (zR := aVA) (fin := aVB) (ex0 := aVC) (LA (some l)) hY JY
  (fun r z h q e tm ht _ => by cases e; exact ⟨rfl, rfl⟩) (fun r z h q e tm ht _ => by cases e; exact ⟨rfl, rfl⟩) (fun i r z h q e tm ht _ => by cases e; exact ⟨rfl, rfl⟩)
  [(a, Aa, [.gate b Ab]), (b, Ab, [])] (collect a Aa [.gate b Ab] ++ collect b Ab []) (fun c A' fs hm e he => by
   rcases List.mem_cons.1 hm with hm | hm
   ·cases hm; exact List.mem_append_left _ he
   ·cases List.mem_singleton.1 hm; exact List.mem_append_right _ he)
  (fun e he => by
   rcases List.mem_append.1 he with he | he
   ·exact ⟨a, Aa, _, .head _, he⟩
   ·exact ⟨b, Ab, _, .tail _ (.head _), he⟩) (fun σ H c A' fs hm => by
   rcases List.mem_cons.1 hm with hm | hm
   ·cases hm
    refine ⟨?_, trivial⟩
    cases hc : Ab.cut with
    | none => trivial
    | some x => obtain ⟨l1, k1⟩ := x; exact H _ (List.mem_append_right _ (fA hc))
   ·cases List.mem_singleton.1 hm; trivial)
  (fun c A' fs hm => by
   rcases List.mem_cons.1 hm with hm | hm
   ·cases hm; exact fun x hx => hG x (List.mem_append_left _ hx)
   ·cases List.mem_singleton.1 hm; exact fun x hx => hG x (List.mem_append_right _ hx)) hd (T l) (hT l) n
 obtain ⟨al', vs', vG, z', g1, g2, g3, g4, g5, g6, g7⟩ := TS (nt := nt) (z := ⟨z.tm, []⟩) e hps hv hr hz
 have h0 := all _ (List.mem_append_left _ (fA hcut)) al' vs' z' h (ex, h2) g7 g3
 obtain ⟨e1, s1, r1, u1⟩ := h0 vG g4 (fun t et => by rw [g5] at et; exact Option.some.inj et)
 have hlen : (ps.toList.zip kinds).length = ps.size := by simp [hk]
 have hz1 : (ps.toList.zip kinds).map (·.1) = ps.toList := List.map_fst_zip (by simp [hk])
 have hst : BQ vG z' h = { tm := vG, df := [], h } := by unfold BQ; rw [g6]; rfl
 rw [hst] at r1
 cases e1 with
 | normal =>
  obtain ⟨p, tmx, ntx, psx, ax, bx, dx, q1, q2, e2, s2, q3, q4⟩ := u1
  refine ⟨vG, s1, p, tmx, ntx, psx, ax, bx, dx, e2, s2, by rw [g1, hlen], ?_, r1, q1, q2, q3, q4.1, q4.2⟩
  rw [hz1] at g2
  simpa using g2
 | ret => exact u1.elim
 | exit i => exact u1.elim
 | panic v => exact u1.elim
def uI (f : Int → AL → Z → Hp → aF) (al : AL) (z : Z) (h : Hp) : aF := AL.rec (motive := fun _ => aF) none (fun x r _ => f x r z h) (fun _ _ _ => none) (fun _ _ _ => none) al
def uB (f : Bool → AL → Z → Hp → aF) (al : AL) (z : Z) (h : Hp) : aF := AL.rec (motive := fun _ => aF) none (fun _ _ _ => none) (fun x r _ => f x r z h) (fun _ _ _ => none) al
def uV (f : Value → AL → Z → Hp → aF) (al : AL) (z : Z) (h : Hp) : aF := AL.rec (motive := fun _ => aF) none (fun _ _ _ => none) (fun _ _ _ => none) (fun x r _ => f x r z h) al
def uN (f : Z → Hp → aF) (al : AL) (z : Z) (h : Hp) : aF := AL.rec (motive := fun _ => aF) (f z h) (fun _ _ _ => none) (fun _ _ _ => none) (fun _ _ _ => none) al
theorem WE {f : Int → AL → Z → Hp → aF} {al : AL} {z : Z} {h : Hp} {q : Value × Hp} (e : uI f al z h = some q) : ∃ a l, al = .i a l ∧ f a l z h = some q := by
 cases al <;> first | (cases e; done) | exact ⟨_, _, rfl, e⟩
theorem aD5 {f : Bool → AL → Z → Hp → aF} {al : AL} {z : Z} {h : Hp} {q : Value × Hp} (e : uB f al z h = some q) : ∃ a l, al = .b a l ∧ f a l z h = some q := by
 cases al <;> first | (cases e; done) | exact ⟨_, _, rfl, e⟩
theorem WG {f : Value → AL → Z → Hp → aF} {al : AL} {z : Z} {h : Hp} {q : Value × Hp} (e : uV f al z h = some q) : ∃ a l, al = .v a l ∧ f a l z h = some q := by
 cases al <;> first | (cases e; done) | exact ⟨_, _, rfl, e⟩
theorem WH {f : Z → Hp → aF} {al : AL} {z : Z} {h : Hp} {q : Value × Hp} (e : uN f al z h = some q) : al = .n ∧ f z h = some q := by
 cases al <;> first | (cases e; done) | exact ⟨rfl, e⟩
def jL : rW := fun _ _ _ _ => none
def bV (i : Nat) (X : AL → Z → Hp → aF) (t : rW) : rW := fun l vs z h => bU (Nat.beq l i) (X vs z h) (t l vs z h)
def iR (Y : rW) (t : rW) : Prop := ∀ l vs z h q, t l vs z h = some q → Y l vs z h = some q
theorem iR.nil {Y : rW} : iR Y jL := fun _ _ _ _ _ e => (by cases e)
theorem iR.cons {Y : rW} (i : Nat) {X : AL → Z → Hp → aF} {t : rW} (h1 : ∀ vs z h q, X vs z h = some q → Y i vs z h = some q) (h2 : iR Y t) : iR Y (bV i X t) := by
 intro l vs z h q e
 unfold bV at e
 cases hb : Nat.beq l i with
 | true => rw [hb] at e; obtain rfl := Nat.eq_of_beq_eq_true hb; exact h1 vs z h q e
 | false => rw [hb] at e; exact h2 l vs z h q e
def rgN : RG := fun _ _ _ _ _ _ => none
def rgC (j : Nat) (F : Nat → AL → Z → List Value → Hp → aF) (ρ : RG) : RG := fun j' l al z args h => bU (Nat.beq j' j) (F l al z args h) (ρ j' l al z args h)
def fyN : FY := fun _ _ _ _ => none
def fyC (f : FuncId) (F : YF → List Value → Hp → aF) (r : FY) : FY := fun g Y args h => bU (Nat.beq g f) (F Y args h) (r g Y args h)
def yN : YF := fun _ _ _ => none
theorem aZH (C : dP) : JX C yN := fun _ _ _ _ _ e => (by cases e)
theorem aVD (C : dP) : zS C fyN := fun _ _ _ _ _ _ _ e => (by cases e)
theorem WI {C : dP} {f : FuncId} {F : YF → List Value → Hp → aF} {r : FY} (h1 : ∀ a h, C.iT f a h = none) (h2 : C.quiet f = false) (h3 : ∀ Y, JX C Y → ∀ args h v h', F Y args h = some (v, h') → eG C (.call f args.toArray h) (.ret v h')) (h4 : zS C r) : zS C (fyC f F r) := by
 intro g Y args h v h' hY e
 unfold fyC at e
 cases hb : Nat.beq g f with
 | true => rw [hb] at e; obtain rfl := Nat.eq_of_beq_eq_true hb; exact ⟨h1, h2, h3 Y hY args h v h' e⟩
 | false => rw [hb] at e; exact h4 g Y args h v h' hY e
def IG (G : (YF → List Value → Hp → aF) → YF → List Value → Hp → aF) (n : Nat) : YF → List Value → Hp → aF :=
 Nat.rec (motive := fun _ => YF → List Value → Hp → aF) (fun _ _ _ => none) (fun _ R => G R) n
def ROk (C : dP) (f : FuncId) (R : YF → List Value → Hp → aF) : Prop := ∀ Y, JX C Y → ∀ args h v h', R Y args h = some (v, h') → eG C (.call f args.toArray h) (.ret v h')
theorem aEC {C : dP} {f : FuncId} {G : (YF → List Value → Hp → aF) → YF → List Value → Hp → aF} (hG : ∀ R, ROk C f R → ROk C f (G R)) : ∀ n, ROk C f (IG G n)
 | 0 => fun _ _ _ _ _ _ e => (by cases e)
 | n + 1 => hG (IG G n) (aEC hG n)
def hide (ys : List Nat) (iT : FuncId → Array Value → Hp → Option (Value × Hp)) : FuncId → Array Value → Hp → Option (Value × Hp) := fun f a h => cond (ys.any fun y => Nat.beq y f) none (iT f a h)
def aZJ (C : dP) (ys : List Nat) : dP := { C with iT := hide ys C.iT, quiet := fun _ => false }
theorem aQW {C : dP} (h : C.Ok) (ys : List Nat) : (aZJ C ys).Ok := ⟨h.env, h.fn, (fun f a h' v h2 e => by
 have e' : hide ys C.iT f a h' = some (v, h2) := e
 unfold hide at e'
 cases hb : (ys.any fun y => Nat.beq y f) with
 | true => rw [hb] at e'; cases e'
 | false => rw [hb] at e'; exact h.iT f a h' v h2 e'), h.mixed⟩
theorem aJY {C C' : dP} (hC : C.Ok) (hC' : C'.Ok) (hP : C'.P = C.P) {f : FuncId} {F : List Value → Hp → aF} (hF : ∀ args h v h', F args h = some (v, h') → eG C' (.call f args.toArray h) (.ret v h')) :
  dP.Ok { C with iT := jF f F C.iT } := by
 have h1 := (dB hC' hF).iT
 refine ⟨hC.env, hC.fn, ?_, hC.mixed⟩
 intro g args h v h' e
 simp only [jF] at e
 cases hb : Nat.beq f g with
 | false => rw [hb] at e; exact hC.iT g args h v h' e
 | true =>
  obtain rfl := Nat.eq_of_beq_eq_true hb
  have := h1 f args h v h' (by show jF f F C'.iT f args h = _; unfold jF; rw [hb]; rw [hb] at e; exact e)
  rw [show ({ C' with iT := jF f F C'.iT } : dP).P = C.P from hP] at this
  exact this
end
end Go.bI.Y
/-
  Tables of labels, for functions that range over functions: rows proved one by one.
-/
namespace Go.bI.Y
open Go.bI
theorem Y4 {f : Int → AL → Z → Hp → aF} {Y : AL → Z → Hp → aF} (H : ∀ x al z h q, f x al z h = some q → Y (.i x al) z h = some q) (al : AL) (z : Z) (h : Hp) (q : Value × Hp) (e : uI f al z h = some q) : Y al z h = some q := by
 obtain ⟨x, l, rfl, e⟩ := WE e; exact H x l z h q e
theorem D8 {f : Value → AL → Z → Hp → aF} {Y : AL → Z → Hp → aF} (H : ∀ x al z h q, f x al z h = some q → Y (.v x al) z h = some q) (al : AL) (z : Z) (h : Hp) (q : Value × Hp) (e : uV f al z h = some q) : Y al z h = some q := by
 obtain ⟨x, l, rfl, e⟩ := WG e; exact H x l z h q e
theorem ywN {f : Z → Hp → aF} {Y : AL → Z → Hp → aF} (H : ∀ z h, f z h = Y .n z h) (al : AL) (z : Z) (h : Hp) (q : Value × Hp) (e : uN f al z h = some q) : Y al z h = some q := by
 obtain ⟨rfl, e⟩ := WH e; exact (H z h).symm.trans e
theorem BS {Y : rW} {i : Nat} {X : AL → Z → Hp → aF} {t : rW} (h1 : ∀ vs z h q, X vs z h = some q → Y i vs z h = some q) (h2 : iR Y t) : iR Y (bV i X t) := iR.cons i h1 h2
end Go.bI.Y
/-
  Ranges over functions: what the words of a told text answer where blocks are known.
-/
namespace Go.bI.Y
open Go.bI
theorem aVE {l : Nat} {X : LX} {rb : List Value → Hp → aF} {Y : YF} {args : List Value} {h : Hp} (hg : h.get l = some (X.obj .ready none)) : YL l X rb Y l args h = aK (rb args h) fun ex h2 => roundEnd l ex h2 := by
 unfold YL
 rw [Nat.beq_refl]
 show JV _ _ = _
 rw [aCA hg]
theorem II {a b : Nat} (h : a ≤ b) : Nat.ble a b = true := by rw [Nat.ble_eq]; exact h
theorem aJZ {l : Nat} {h : Hp} {p : Option Code} {tm : T Value} {nt : Nat} {ps : Array Tmp} {a b : Code} {d : Nat} (hg : h.get l = some (.loop .ready p tm nt ps a b d)) (hr : h.ro ≤ l) (k : Hp → aF) :
  EM l h k = k (h.upd l (.loop .busy p tm nt ps a b d)) := by
 unfold EM fO
 dsimp only
 rw [hg]
 dsimp only
 rw [II hr]
theorem RA {l : Nat} {h : Hp} {s : LoopState} {p : Option Code} {tm : T Value} {nt : Nat} {ps : Array Tmp} {a b : Code} {d : Nat} (hg : h.get l = some (.loop s p tm nt ps a b d)) (hr : h.ro ≤ l) :
  roundEnd l (.bool true) h = some (.bool true, h.upd l (.loop .ready none tm nt ps a b d)) := by
 unfold roundEnd fO
 dsimp only
 rw [hg]
 dsimp only
 rw [II hr]
theorem aCD {l : Nat} {h : Hp} {tm : T Value} {nt : Nat} {ps : Array Tmp} {a b : Code} {d : Nat} (hg : h.get l = some (.loop .ready none tm nt ps a b d)) (hr : h.ro ≤ l) (k : Ex → Hp → aF) :
  aGT l h k = k .normal (h.upd l (.loop .exhausted none tm nt ps a b d)) := by
 unfold aGT fO
 dsimp only
 rw [hg]
 dsimp only
 rw [II hr]
 rfl
theorem TT {d : Nat} {h : Hp} (hg : h.get d = some (.xB true)) (hr : h.ro ≤ d) : xR [d] h = some (h.upd d (.xB false)) := by
 unfold xR
 rw [hg]
 dsimp only
 rw [II hr]
 rfl
theorem aCE (n r : aF) (x : Nat → aF) : exK .normal n r x = n := rfl
theorem aJ0 {fy : FY} {Y : YF} {X : Nat → LX} {f : FuncId} {a b : Array Value} {h : Hp} {rb : Nat → List Value → Hp → aF} {k : Ex → List Nat → Hp → aF} :
  aJN fy Y none X (.func (.func f) a b) h rb k = aK (fy f (YL (h.next + 1) (X h.next) (rb (h.next + 1)) Y) (a.toList ++ [.func (.yield (h.next + 1)) #[] #[]] ++ b.toList) ((h.add (.xB true)).add ((X h.next).obj .ready none))) fun _ h3 =>
   aGT (h.next + 1) h3 fun e h4 => k e [h.next] h4 := rfl
theorem Y3 (iT : FuncId → Array Value → Hp → Option (Value × Hp)) (fy : FY) (Y : YF) (n : Nat) (l : List Value) (h : Hp) : EN iT fy Y (.func (.yield n) #[] #[]) l h = Y n l h := rfl
end Go.bI.Y
/-
  Functions that call themselves, told by depth.
-/
namespace Go.bI
noncomputable section
def aGO (E : Env) (iT : FuncId → Array Value → Hp → Option (Value × Hp)) (nt : Nat) (l : List Oper) (ops : Array Oper) (d : Bool) (k : KT) : KT :=
 match d with
 | false => zP E iT nt ops l k
 | true => match EG ops with
  | true => aDQ E iT nt ops k
  | false => kF E iT nt l ops true k
theorem MV {C : dP} (hE : C.P.Ok) {rd : Option Nat} {nt : Nat} : GU C rd nt (aGO C.P C.iT nt) := by
 intro id ops d kn r h q e tm ht
 unfold aGO at e
 cases d with
 | false => exact dJ hE (rd := rd) id ops false kn r h q e tm ht
 | true =>
  simp only at e
  cases hd : EG ops with
  | true =>
   rw [hd] at e
   obtain ⟨pW, h', r', h1, h2, h3⟩ := XW hE (rd := rd) (run C 0) hd ht e
   exact ⟨pW, h', r', .aY ⟨0, h1⟩, h2, h3⟩
  | false => rw [hd] at e; exact dJ hE (rd := rd) id ops true kn r h q e tm ht
end
end Go.bI
