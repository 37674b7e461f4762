/-
  An evaluator of the code, proved sound.
-/
import Derived.Test.YtdpicdnpiihaaaaAsEngC
set_option linter.unusedVariables false
/-
  Operations that may yield; functions and rounds that are told so; answers that are taken from them.
-/
namespace Go.bG.Y
open Go.bG
noncomputable section
section
variable {C : dL} {fy : FY} {nt : Nat} {Y : YF}
theorem aIC (hE : C.P.Ok) (JD : zA C fy) (hY : JC C Y) {o : Oper} {h : Hp} {k : KT} {q : Value × Hp} {tm : T Value} {r : iF} (ht : RR r tm) (e : opY C.P C.iG fy nt Y o r h k = some q) :
  ∃ v h' tm' r', (iN C.P (iY tm) o h = some (.val v h') ∨ ∃ fn args, iN C.P (iY tm) o h = some (.call fn args) ∧ ∃ n, mG C (run C n) fn args h = some (.ret v h')) ∧
   gW nt tm o.dst v = some tm' ∧ RR r' tm' ∧ k r' h' = some q := by
 have old : opS C.P C.iG nt o r h k = some q → ∃ v h' tm' r', (iN C.P (iY tm) o h = some (.val v h') ∨ ∃ fn args, iN C.P (iY tm) o h = some (.call fn args) ∧ ∃ n, mG C (run C n) fn args h = some (.ret v h')) ∧
   gW nt tm o.dst v = some tm' ∧ RR r' tm' ∧ k r' h' = some q := by
  intro e
  obtain ⟨v, h', tm', r', ho, h1, h2, h3⟩ := TU hE ht e
  refine ⟨v, h', tm', r', ?_, h1, h2, h3⟩
  rcases ho with ho | ⟨f, args, ho, hc⟩
  ·exact .inl ho
  ·exact .inr ⟨.func f, args, ho, 0, by simp only [mG, hc]⟩
 unfold opY at e
 split at e
 ·rename_i c ho
  split at e
  ·rename_i f hc
   obtain ⟨g, hg, e1⟩ := bV e
   split at e1
   ·rename_i l hl
    obtain ⟨v, h', hp, e2⟩ := iX e1
    obtain ⟨tm', r', k1, k2, k3⟩ := FW ht (gL e2)
    refine ⟨v, h', tm', r', .inr ?_, k1, k2, k3⟩
    unfold D5 fF at hp
    dsimp only at hp
    split at hp
    ·rename_i f' fa ca
     have hv : iN C.P (iY tm) o h = some (.call (.func f') (fa ++ l.toArray ++ ca)) := by
      simp only [iN, ho, l8, hc, qP, nA, dQ ht hg, AX ht hl, Option.bind_some]
     rcases aH4 hp with hp | hp
     ·exact ⟨.func f', fa ++ l.toArray ++ ca, hv, 0, by simp only [mG, hp]⟩
     ·obtain ⟨h1, h2, m, hm⟩ := JD _ _ _ _ _ _ hY hp
      refine ⟨.func f', fa ++ l.toArray ++ ca, hv, m, ?_⟩
      have : fa ++ l.toArray ++ ca = (fa.toList ++ l ++ ca.toList).toArray := by apply Array.ext'; simp
      rw [this]
      simp only [mG, h1, h2]
      exact hm
    ·rename_i n fa ca
     obtain ⟨m, hm⟩ := hY _ _ _ _ _ hp
     refine ⟨.yield n, fa ++ l.toArray, ?_, m, ?_⟩
     ·simp only [iN, ho, l8, hc, qP, nA, dQ ht hg, AX ht hl, Option.bind_some]
     ·have : (fa.toList ++ l).toArray = fa ++ l.toArray := by apply Array.ext'; simp
      rw [this] at hm
      exact hm
    ·cases hp
   ·cases e1
  ·exact old e
 ·exact old e
theorem RS {d : Option Tmp} {z : Z} {r : iF} {k : Z → aF} {q : Value × Hp} {tm tm' : T Value} {v : Value} (hz : ZT z tm) (hp : gW nt tm d v = some tm') (hr : RR r tm') (e : PT d z r k = some q) : ∃ z', ZT z' tm' ∧ z'.ds = z.ds ∧ k z' = some q := by
 unfold PT fF at e
 dsimp only at e
 split at e
 ·cases hp; exact ⟨z, hz, rfl, e⟩
 ·rename_i d
  split at e
  ·rename_i d' v' r'
   split at e
   ·rename_i hb
    obtain rfl := Nat.eq_of_beq_eq_true hb
    replace hp := aN hp
    obtain ⟨_, hp⟩ := hp
    cases hp
    have : (tm.put d' (some v)).get d' = some v' := hr d' v' (by unfold iF.at; rw [hb]; rfl)
    rw [T.get_put, if_pos rfl] at this
    cases this
    exact ⟨_, hz.put d' v, rfl, e⟩
   ·cases e
  ·cases e
theorem aCX (hE : C.P.Ok) (JD : zA C fy) (hY : JC C Y) {rd : Option Nat} {ops : Array Oper} : ∀ (l : List Oper) {r : iF} {z : Z} {h : Hp} {k : KZ} {q : Value × Hp} {tm : T Value}, RR r tm → ZT z tm → EZ C.P C.iG fy nt Y ops l k r z h = some q →
  ∃ n tm' h' r' z', opsV C (run C n) rd nt ops l (BA tm z h) = some (.code .normal (BA tm' z' h')) ∧ RR r' tm' ∧ ZT z' tm' ∧ k r' z' h' = some q
 | [], r, z, h, k, q, tm, ht, hz, e => ⟨0, tm, h, r, z, rfl, ht, hz, e⟩
 | o :: rest, r, z, h, k, q, tm, ht, hz, e => by
  have fin : (∃ n tm' h' r' z', jD C (run C n) rd nt ops o (BA tm z h) = some (.code .normal (BA tm' z' h')) ∧ RR r' tm' ∧ ZT z' tm' ∧ EZ C.P C.iG fy nt Y ops rest k r' z' h' = some q) →
    ∃ n tm' h' r' z', opsV C (run C n) rd nt ops (o :: rest) (BA tm z h) = some (.code .normal (BA tm' z' h')) ∧ RR r' tm' ∧ ZT z' tm' ∧ k r' z' h' = some q := by
   rintro ⟨n, tm', h', r', z', h1, h2, h3, h4⟩
   obtain ⟨m, o8, h2', r2, z2, g1, g2, g3, g4⟩ := aCX hE JD hY (rd := rd) rest h2 h3 h4
   refine ⟨max n m, o8, h2', r2, z2, ?_, g2, g3, g4⟩
   unfold opsV
   rw [LJ (tX C (Nat.le_max_left n m)) C rd nt ops o _ _ h1]
   exact UO (tX C (Nat.le_max_right n m)) C rd nt ops rest _ _ g1
  have yes : ∀ {r' : iF}, RR r' tm → bS ops tm o = true → (opY C.P C.iG fy nt Y o r' h fun r h => PT o.dst z r fun z => EZ C.P C.iG fy nt Y ops rest k r z h) = some q →
    ∃ n tm' h' r' z', jD C (run C n) rd nt ops o (BA tm z h) = some (.code .normal (BA tm' z' h')) ∧ RR r' tm' ∧ ZT z' tm' ∧ EZ C.P C.iG fy nt Y ops rest k r' z' h' = some q := by
   intro r' hr hw hf
   obtain ⟨v, h', tm', r2, ho, h1, h2, h3⟩ := aIC hE JD hY hr hf
   obtain ⟨z', k1, k2, k3⟩ := RS hz h1 h2 h3
   have hst : BA tm' z' h' = { tm := tm', df := dfs z.ds, h := h' } := by unfold BA; rw [k2]
   rcases ho with ho | ⟨fn, args, ho, n, hc⟩
   ·refine ⟨0, tm', h', r2, z', ?_, h2, k1, k3⟩
    unfold jD
    rw [show bS ops (BA tm z h).tm o = true from hw, hst]
    simp only [BA, ho, Option.bind_some, h1]
   ·refine ⟨n, tm', h', r2, z', ?_, h2, k1, k3⟩
    unfold jD
    rw [show bS ops (BA tm z h).tm o = true from hw, hst]
    simp only [BA, ho, Option.bind_some, hc, h1]
  have not : ∀ {r' : iF}, RR r' tm → bS ops tm o = false → FV nt o.dst r' (fun r h => PT o.dst z r fun z => EZ C.P C.iG fy nt Y ops rest k r z h) undef h = some q →
    ∃ n tm' h' r' z', jD C (run C n) rd nt ops o (BA tm z h) = some (.code .normal (BA tm' z' h')) ∧ RR r' tm' ∧ ZT z' tm' ∧ EZ C.P C.iG fy nt Y ops rest k r' z' h' = some q := by
   intro r' hr hw hf
   obtain ⟨tm', r2, h1, h2, h3⟩ := FW hr hf
   obtain ⟨z', k1, k2, k3⟩ := RS hz h1 h2 h3
   refine ⟨0, tm', h, r2, z', ?_, h2, k1, k3⟩
   unfold jD
   rw [show bS ops (BA tm z h).tm o = false from hw]
   simp only [BA, h1, Option.bind_some, k2]
  unfold EZ at e
  split at e
  ·rename_i hg
   exact fin (yes ht (by simp only [bS, hg]) e)
  ·rename_i j want hg
   split at e
   ·cases e
   ·rename_i d hd
    split at e
    ·cases e
    ·rename_i gv hgv
     have hget := ht d gv hgv
     have hw : bS ops tm o = aGY gv want := by
      simp only [bS, hg, hd, Option.bind_some, hget]
      cases gv <;> rfl
     have ht' := ht.same hget
     rcases MW e with ⟨rfl, e⟩ | ⟨rfl, e⟩ | ⟨hn, e⟩
     ·cases want with
      | true => exact fin (yes ht' (by rw [hw]; rfl) e)
      | false => exact fin (not ht' (by rw [hw]; rfl) e)
     ·cases want with
      | false => exact fin (yes ht' (by rw [hw]; rfl) e)
      | true => exact fin (not ht' (by rw [hw]; rfl) e)
     ·exact fin (not ht (by rw [hw]; cases gv <;> first | rfl | exact absurd rfl (hn _)) e)
theorem aO3 (hE : C.P.Ok) (JD : zA C fy) (hY : JC C Y) {rd : Option Nat} {ops : Array Oper} {o : Oper} {h : Hp} {k : KT} {q : Value × Hp} {tm : T Value} {r : iF} (ht : RR r tm) (e : aTF C.P C.iG fy nt Y ops o k r h = some q) :
  ∃ n uP h1 r1, jD C (run C n) rd nt ops o (st tm h) = some (.code .normal (st uP h1)) ∧ RR r1 uP ∧ k r1 h1 = some q := by
 unfold aTF at e
 split at e
 ·rename_i hg
  obtain ⟨v, h', tm', r2, ho, h1, h2, h3⟩ := aIC hE JD hY ht e
  rcases ho with ho | ⟨fn, args, ho, n, hc⟩
  ·refine ⟨0, tm', h', r2, ?_, h2, h3⟩
   unfold jD
   rw [show bS ops (st tm h).tm o = true from by simp only [bS, hg]]
   simp only [st, ho, Option.bind_some, h1]
  ·refine ⟨n, tm', h', r2, ?_, h2, h3⟩
   unfold jD
   rw [show bS ops (st tm h).tm o = true from by simp only [bS, hg]]
   simp only [st, ho, Option.bind_some, hc, h1]
 ·obtain ⟨uP, h1', r1, he1, hr1, hk⟩ := yA hE (rd := rd) (run C 0) [o] ht e
  exact ⟨0, uP, h1', r1, FT he1, hr1, hk⟩
theorem N8 (hE : C.P.Ok) (JD : zA C fy) (hY : JC C Y) {rd : Option Nat} {ops : Array Oper} {ls : List Left} {t : Nat} (zD : lQ ops = true) (hap : oF ops (masks ops.toList []) = true) (hls : ls.length = t) (hops : ∀ j, j < ops.size → ∃ o, ops[j]? = some o) (htn : t ≤ ops.size)
  (hnt : ∀ j, j < t → ∀ x, bE ops j = some x → x < nt) {kk : KT} {q : Value × Hp} :
  ∀ (m k : Nat) (rest : List Nat) (h : Hp) (cur QI : T Value) (r : iF), k + m = ops.size → t ≤ k → (∀ j ∈ rest, j < t) →
   (∀ x, (∀ j ∈ rest, bE ops j ≠ some x) → QI.get x = cur.get x) → (∀ j ∈ rest, ∀ x, bE ops j = some x → ∃ l, ls[j]? = some l ∧ cur.get x = some l.v) → RR r cur →
   XV C.P C.iG fy nt Y (masks ops.toList []) ops (ls.map (·.own)) kk rest (List.range' k m) r h = some q →
   ∃ nn tm h' r', tailV C (run C nn) rd nt ops (masks ops.toList []) ls rest (List.range' k m) (st QI h) = some (.code .normal (st tm h')) ∧ RR r' tm ∧ kk r' h' = some q
 | 0, k, rest, h, cur, QI, r, hkm, htk, hrest, ha, hb, hRR, e => by
  rw [List.range'_zero] at e
  unfold XV at e
  obtain ⟨tm, h1⟩ := kM (ls := ls) (nt := nt) (ops := ops) (fun j hj => hops j (by omega)) (fun j hj x hx => hnt j (by omega) x hx) rest QI (fun j hj => by rw [hls]; exact hrest j hj)
  refine ⟨0, tm, ⟨h.next, h.ro, u6 (ls.map (·.own)) rest h.aD⟩, r, ?_, ?_, e⟩
  ·show tailV C (run C 0) rd nt ops _ ls rest [] _ = _
   unfold tailV
   simp only [st]
   rw [h1]
   simp only [Option.bind_some]
   rw [tK rest h.aD (fun j hj => by rw [hls]; exact hrest j hj)]
   rfl
  ·intro x v hv
   have WL := hRR x v hv
   by_cases hex : ∃ j, j ∈ rest ∧ bE ops j = some x
   ·obtain ⟨j, hj, hd⟩ := hex
    obtain ⟨l, hl, sV⟩ := hb j hj x hd
    obtain ⟨oj, hoj⟩ := hops j (by have := hrest j hj; omega)
    have wD : oj.dst = some x := by unfold bE at hd; rw [hoj] at hd; exact hd
    have qV : ∀ k ∈ rest, bE ops k = some x → k = j := by
     intro k hk hkd
     obtain ⟨ok, hok⟩ := hops k (by have := hrest k hk; omega)
     have hkx : ok.dst = some x := by unfold bE at hkd; rw [hok] at hkd; exact hkd
     rcases (gP hap hok hoj wD).1 with h | h
     ·exact h
     ·exact absurd hkx h
    obtain ⟨l', hl', hg, _⟩ := mH _ h1 j hj hd qV
    rw [hl] at hl'; cases hl'
    rw [hg, ← sV]; exact WL
   ·have hno : ∀ j ∈ rest, bE ops j ≠ some x := fun j hj h => hex ⟨j, hj, h⟩
    rw [jE _ h1 x hno, ha x hno]; exact WL
 | m + 1, k, rest, h, cur, QI, r, hkm, htk, hrest, ha, hb, hRR, e => by
  have hlt : k < ops.size := by omega
  obtain ⟨o, ho⟩ := hops k hlt
  rw [List.range'_succ] at e ⊢
  unfold XV at e
  simp only [ho] at e
  obtain ⟨n1, uP, h1', r1, hr, hr1, hk⟩ := aO3 (rd := rd) hE JD hY hRR e
  have ZE : ∀ j ∈ rest.filter (waits (masks ops.toList []) k), j < ls.length := fun j hj => by rw [hls]; exact hrest j (List.mem_filter.1 hj).1
  obtain ⟨VU, h1⟩ := kM (ls := ls) (nt := nt) (ops := ops) (fun j hj => hops j (by omega)) (fun j hj x hx => hnt j (by omega) x hx) _ QI ZE
  have pV : ∀ {j : Nat} {oj : Oper} {x : Nat}, ops[j]? = some oj → bE ops j = some x → oj.dst = some x := fun hoj hd => by unfold bE at hd; rw [hoj] at hd; exact hd
  have agree : ∀ x, (∀ j ∈ rest.filter (fun j => !(waits (masks ops.toList []) k j)), bE ops j ≠ some x) → VU.get x = cur.get x := by
   intro x hx
   by_cases hex : ∃ j, j ∈ rest ∧ bE ops j = some x
   ·obtain ⟨j, hj, hd⟩ := hex
    obtain ⟨l, hl, sV⟩ := hb j hj x hd
    have hw : waits (masks ops.toList []) k j = true := by
     cases hww : waits (masks ops.toList []) k j with
     | true => rfl
     | false => exact absurd hd (hx j (List.mem_filter.2 ⟨hj, by rw [hww]; rfl⟩))
    obtain ⟨oj, hoj⟩ := hops j (by have := hrest j hj; omega)
    have qV : ∀ i ∈ rest.filter (waits (masks ops.toList []) k), bE ops i = some x → i = j := by
     intro i hi hid
     obtain ⟨oi, hoi⟩ := hops i (by have := hrest i (List.mem_filter.1 hi).1; omega)
     rcases (gP hap hoi hoj (pV hoj hd)).1 with h | h
     ·exact h
     ·exact absurd (pV hoi hid) h
    obtain ⟨l', hl', hg, _⟩ := mH _ h1 j (List.mem_filter.2 ⟨hj, hw⟩) hd qV
    rw [hl] at hl'; cases hl'
    rw [hg]; exact sV.symm
   ·have hno : ∀ j ∈ rest, bE ops j ≠ some x := fun j hj h => hex ⟨j, hj, h⟩
    rw [jE _ h1 x (fun j hj => hno j (List.mem_filter.1 hj).1)]; exact ha x hno
  obtain ⟨v, hp, hrun⟩ := EH hr
  have hreads : ∀ x ∈ readsOf ops o, VU.get x = cur.get x := by
   intro x hx
   apply agree
   intro j hj hd
   obtain ⟨hj1, hj2⟩ := List.mem_filter.1 hj
   obtain ⟨oj, hoj⟩ := hops j (by have := hrest j hj1; omega)
   rcases (gP hap ho hoj (pV hoj hd)).2 with h | h | h
   ·rw [h] at hj2; cases hj2
   ·have := kD zD h; have := hrest j hj1; omega
   ·exact h hx
  have hp' : gW nt cur o.dst v = some uP := hp
  obtain ⟨MC, hp3⟩ : ∃ MC, gW nt VU o.dst v = some MC := xP fun x hx => by
   have aGW := hp'
   rw [hx] at aGW
   exact (iZ aGW).2
  have hrun' := hrun VU hreads MC hp3
  obtain ⟨n2, tm, h2', r', k1, k2, k3⟩ := N8 hE JD hY (rd := rd) zD hap hls hops htn hnt m (k + 1) (rest.filter (fun j => !(waits (masks ops.toList []) k j))) h1' uP MC r1 (by omega) (by omega)
   (fun j hj => hrest j (List.mem_filter.1 hj).1)
   (by
    intro x hx
    by_cases hd : o.dst = some x
    ·rw [hd] at hp' hp3
     rw [(iZ hp').1, (iZ hp3).1]
    ·rw [fZ hp' hd, fZ hp3 hd]; exact agree x hx)
   (by
    intro j hj x hd
    obtain ⟨hj1, _⟩ := List.mem_filter.1 hj
    obtain ⟨l, hl, sV⟩ := hb j hj1 x hd
    obtain ⟨oj, hoj⟩ := hops j (by have := hrest j hj1; omega)
    have : o.dst ≠ some x := by
     rcases (gP hap ho hoj (pV hoj hd)).1 with h | h
     ·have := hrest j hj1; omega
     ·exact h
    exact ⟨l, hl, by rw [fZ hp' this]; exact sV⟩)
   hr1 hk
  refine ⟨max n1 n2, tm, h2', r', ?_, k2, k3⟩
  unfold tailV
  rw [ho]
  simp only [Option.bind_some, st, h1]
  rw [tK _ h.aD ZE]
  simp only [Option.bind_some]
  have aGX : jD C (run C n1) rd nt ops o { tm := VU, df := [], h := { next := h.next, ro := h.ro, aD := u6 (ls.map (·.own)) (rest.filter (waits (masks ops.toList []) k)) h.aD } } = some (.code .normal (st MC h1')) := hrun'
  rw [LJ (tX C (Nat.le_max_left n1 n2)) C rd nt ops o _ _ aGX]
  exact NB (tX C (Nat.le_max_right n1 n2)) C rd nt ops _ ls _ _ _ _ k1
theorem aID (hE : C.P.Ok) (JD : zA C fy) (hY : JC C Y) {rd : Option Nat} {ops : Array Oper} {k : KT} {r : iF} {h : Hp} {q : Value × Hp} {tm : T Value} (hc : DU ops = true) (ht : RR r tm) (e : aH5 C.P C.iG fy nt Y ops k r h = some q) :
  ∃ nn tm' h' r', pE C (run C nn) rd nt ops (st tm h) = some (.code .normal (st tm' h')) ∧ RR r' tm' ∧ k r' h' = some q := by
 unfold DU at hc
 simp only [Bool.and_eq_true, List.all_eq_true] at hc
 obtain ⟨⟨zD, hap⟩, hall⟩ := hc
 have htn : fP ops ≤ ops.size := qW (ops := ops) (ms := masks ops.toList []) ops.size
 have hop : ∀ i, i < fP ops → ∃ o, ops[i]? = some o ∧ ((tH o = true ∧ ∃ d, o.dst = some d) ∨ FR o = true) := by
  intro i hi
  have := hall i (by simpa using hi)
  cases ho : ops[i]? with
  | none => rw [ho] at this; cases this
  | some o =>
   rw [ho] at this
   simp only [Bool.or_eq_true, Bool.and_eq_true] at this
   exact ⟨o, rfl, this.imp (fun h => ⟨h.1, Option.isSome_iff_exists.1 h.2⟩) id⟩
 have hops : ∀ j, j < ops.size → ∃ o, ops[j]? = some o := fun j hj => ⟨ops[j], Array.getElem?_eq_getElem hj⟩
 have I0 : ZR nt ops (st tm h) 0 [] tm := ⟨rfl, fun j hj => by omega, fun x _ => rfl⟩
 unfold aH5 at e
 rw [List.range_eq_range'] at e
 obtain ⟨ls, cur, r1, n, h1, I, hr1, hk⟩ := vB (C := C) (nt := nt) (ops := ops) (s := st tm h) (self := run C 0) hE zD hap htn hop (fP ops) 0 [] tm r h.next (by omega) I0 ht e
 obtain ⟨nn, tm', h', r', h3, h4, h5⟩ := N8 (ls := ls) (C := C) (rd := rd) (nt := nt) hE JD hY zD hap I.len hops htn (fun j hj x hx => (I.VT j hj x hx).1)
  (ops.size - fP ops) (fP ops) (List.range' 0 (fP ops)) { h with next := n } cur tm r1 (by omega) (Nat.le_refl _) (fun j hj => by simpa using hj)
  (fun x hx => (I.out x fun j hj => hx j (by simpa using hj)).symm) (fun j hj x hx => (I.VT j (by simpa using hj) x hx).2) hr1 hk
 refine ⟨nn, tm', h', r', ?_, h4, h5⟩
 unfold pE
 simp only [zD, hap, Bool.and_self, VY]
 rw [show eY ops (masks ops.toList []) ops.size = fP ops from rfl, List.range_eq_range']
 rw [show (st tm h).h.next = h.next from rfl, EP (tX C (Nat.zero_le nn)) C nt ops _ _ _ _ _ _ h1]
 exact h3
theorem aCY (hE : C.P.Ok) (JD : zA C fy) (hY : JC C Y) {rd : Option Nat} : JB C rd nt (aO2 C.P C.iG fy nt Y) := by
 intro id ops d kn r z h q e tm ht hz
 cases d with
 | false =>
  obtain ⟨n, tm', h', r', z', h1, h2, h3, h4⟩ := aCX (rd := rd) hE JD hY ops.toList ht hz (show EZ C.P C.iG fy nt Y ops ops.toList kn r z h = some q from e)
  exact ⟨tm', h', r', z', .aV ⟨n, h1⟩, h2, h3, h4⟩
 | true =>
  unfold aO2 at e
  cases hb : (aXL ops && DU ops) with
  | false =>
   simp only [hb] at e
   obtain ⟨tm', h', r', h1, h2, h3⟩ := dG hE (rd := rd) id ops true _ r h q (show jV C.P C.iG nt ops.toList ops true (fun r h => kn r z.lose h) r h = some q from e) tm ht
   exact ⟨tm', h', r', z.lose, RN h1 _, h2, ZT.lose, h3⟩
  | true =>
   simp only [hb] at e
   obtain ⟨n, tm', h', r', h1, h2, h3⟩ := aID (rd := rd) hE JD hY (Bool.and_eq_true_iff.1 hb).2 ht e
   have hr : eF C (.code (.region id ops true) rd nt (st tm h)) (.code .normal (st tm' h')) := .aV ⟨n, h1⟩
   exact ⟨tm', h', r', z.lose, RN hr _, h2, ZT.lose, h3⟩
end
def aCZ (E : Env) (iG : FuncId → Array Value → Hp → Option (Value × Hp)) (fy : FY) (nt : Nat) (Y : YF) (l : List Oper) (ops : Array Oper) (d : Bool) (k : KZ) : KZ := aO2 E iG fy nt Y l ops d fun r z h => k r z.lose h
theorem N9 {C : dL} {fy : FY} {nt : Nat} {Y : YF} (hE : C.P.Ok) (JD : zA C fy) (hY : JC C Y) {rd : Option Nat} : JB C rd nt (aCZ C.P C.iG fy nt Y) := by
 intro id ops d kn r z h q e tm ht hz
 obtain ⟨tm', h', r', z', h1, h2, h3, h4⟩ := aCY (rd := rd) hE JD hY id ops d (fun r z h => kn r z.lose h) r z h q e tm ht hz
 exact ⟨tm', h', r', z'.lose, h1, h2, ZT.lose, h4⟩
def xC : List Nat → Hp → Option Hp
 | [], h => some h
 | d :: ds, h => match h.get d with
  | some (.wH true) => bY (Nat.ble h.ro d) (xC ds (h.upd d (.wH false))) none
  | _ => none
def OA (E : Env) (rs : List ResultVar) : KZ := fun r z h => aQY (xC z.ds h) fun h => aGZ E r h rs fun vs => some (tN vs, h)
def aXN (E : Env) (rs : List ResultVar) (e : Ex) (s : S) (q : Value × Hp) : Prop :=
 (e = .normal ∨ e = .ret) ∧ ∃ ds h1 vs, s.df = dfs ds ∧ xC ds s.h = some h1 ∧ iI E s.tm h1 rs = some vs ∧ q = (tN vs, h1)
theorem RU {C : dL} {self : Self} {fn : Func} {tm : T Value} {vs : List Value} : ∀ (ds : List Nat) {h h1 : Hp}, xC ds h = some h1 → iI C.P tm h1 fn.results.toList = some vs →
  jH C self fn tm (dfs ds) .returning h = some (.ret (tN vs) h1)
 | [], h, h1, e, hv => by cases e; simp only [dfs, List.map_nil, jH, hv, Option.bind_some]
 | d :: ds, h, h1, e, hv => by
  unfold xC at e
  split at e
  ·rename_i hg
   obtain ⟨hb, e⟩ := iB e
   have ih := RU (C := C) (self := self) ds e hv
   unfold jH
   simp only [dfs, List.map_cons, hg, hb, VY] at ih ⊢
   exact ih
  ·cases e
def XY : Nat → KZ := fun _ _ _ _ => none
theorem E5 {C : dL} {f : FuncId} {fn : Func} {body : Code} {np : Nat} {A : eO} {T : rG → rG} {ρ : RG} {fy : FY} {Y : YF} {regs : List Oper → Array Oper → Bool → KZ → KZ}
  (KC : JB C none (np + (fn.ntmps - np)) regs) (hY : JC C Y) (JD : zA C fy) (hf : C.fn f = some fn) (hb : fn.body = some body) {kinds : List Kd} (hk : kinds.length = np) (hcut : A.cut = some (0, (List.range' 0 np).zip kinds))
  (hG : BB C (np + (fn.ntmps - np)) ρ (pO body A)) (hd : distinct ((collect body A []).map (·.l)) = true)
  (hT : ∀ σ l vs z h q, T σ l vs z h = some q → aY ρ fy Y none (np + (fn.ntmps - np)) 0 regs (OA C.P fn.results.toList) (OA C.P fn.results.toList) XY (collect body A []) l σ vs z h = some q)
  {n : Nat} {args : List Value} {h h' : Hp} {v : Value} (e : bC kinds args (fun al => kP T n 0 al ⟨some (jA args 0 .nil), []⟩ h) = some (v, h')) : eF C (.call f args.toArray h) (.ret v h') := by
 have yZ : ∀ r z h q, OA C.P fn.results.toList r z h = some q → ∀ tm, RR r tm → ∀ e, (e = .normal ∨ e = .ret) → aXN C.P fn.results.toList e (BA tm z h) q := by
  intro r z h q e tm ht ex hx
  obtain ⟨h1, hdl, e⟩ := fB e
  obtain ⟨vs, k1, k2⟩ := LG ht _ e
  cases k2
  exact ⟨hx, z.ds, h1, vs, rfl, hdl, k1, rfl⟩
 have all := nD (C := C) (rd := none) (gl := 0) (Fin := aXN C.P fn.results.toList) (yZ := OA C.P fn.results.toList) (fin := OA C.P fn.results.toList) (ex0 := XY) KC hY JD
  (fun r z h q e tm ht _ => yZ r z h q e tm ht .normal (.inl rfl)) (fun r z h q e tm ht _ => yZ r z h q e tm ht .ret (.inr rfl)) (fun i r z h q e => (by cases e))
  [(body, A, [])] (collect body A []) (fun c A' fs hm e he => by obtain ⟨rfl, rfl, rfl⟩ : c = body ∧ A' = A ∧ fs = [] := (by simpa using hm); exact he)
  (fun e he => ⟨body, A, [], List.mem_singleton.2 rfl, he⟩) (fun σ _ c A' fs hm => by obtain ⟨rfl, rfl, rfl⟩ : c = body ∧ A' = A ∧ fs = [] := (by simpa using hm); exact trivial)
  (fun c A' fs hm => by obtain ⟨rfl, rfl, rfl⟩ : c = body ∧ A' = A ∧ fs = [] := (by simpa using hm); exact hG) hd T hT n
 obtain ⟨al, hal, e⟩ := rA e
 have hlen : args.length = np := by rw [← hk]; exact AL.qZ hal
 have z1 : ((List.range' 0 np).zip kinds).map (·.2) = kinds := List.map_snd_zip (by simp [hk])
 have z2 : ((List.range' 0 np).zip kinds).map (·.1) = List.range' 0 np := List.map_fst_zip (by simp [hk])
 have h0 := all _ (eP hcut) al args _ h (v, h') e (by show AL.vals (((List.range' 0 np).zip kinds).map (·.2)) al = some args; rw [z1]; exact hal)
 obtain ⟨ex, s', ⟨m, h1⟩, h2⟩ := h0 (jA args 0 .nil) (by
  show RR ((((List.range' 0 np).zip kinds).map (·.1)).zip args) _
  rw [z2]
  subst hlen; exact aCG args) (fun t et => Option.some.inj et)
 obtain ⟨hx, ds, hh, vs, g1, g2, g3, g4⟩ := h2
 cases g4
 have hl := RU (C := C) (self := run C m) (fn := fn) ds g2 g3
 refine .aV ⟨m, ?_⟩
 have hst : (S.mk (jA args 0 .nil) [] h) = BA (jA args 0 .nil) ⟨some (jA args 0 .nil), []⟩ h := rfl
 simp only [dU, hf, hb, Option.bind_some, List.size_toArray, hlen, hst, h1]
 rcases hx with rfl | rfl
 ·rw [← g1] at hl; exact hl
 ·rw [← g1] at hl; exact hl
def E8 : List (Tmp × Kd) → List Value → AL → Z → (AL → Z → aF) → aF
 | [], [], al, z, k => k al z
 | (p, .i kd) :: ps, v :: vs, al, z, k => aR kd v fun x => E8 ps vs (.i x al) (z.put p (.int kd x)) k
 | (p, .b) :: ps, v :: vs, al, z, k => dH v fun x => E8 ps vs (.b x al) (z.put p (.bool x)) k
 | (p, .v) :: ps, v :: vs, al, z, k => E8 ps vs (.v v al) (z.put p v) k
 | _, _, _, _, _ => none
theorem RX {nt : Nat} : ∀ {ps : List (Tmp × Kd)} {args : List Value} {keep : List (Nat × Kd)} {al : AL} {vs : List Value} {z : Z} {tm : T Value} {k : AL → Z → aF} {q : Value × Hp}, E8 ps args al z k = some q → (∀ p ∈ ps, Nat.blt p.1 nt = true) →
  AL.vals (keep.map (·.2)) al = some vs → RR ((keep.map (·.1)).zip vs) tm → z.tm = some tm →
  ∃ al' vs' uP z', args.length = ps.length ∧ pJ nt ((ps.map (·.1)).zip args) tm = some uP ∧ AL.vals ((ps.reverse ++ keep).map (·.2)) al' = some vs' ∧ RR (((ps.reverse ++ keep).map (·.1)).zip vs') uP ∧ z'.tm = some uP ∧ z'.ds = z.ds ∧ k al' z' = some q
 | [], [], keep, al, vs, z, tm, k, q, e, hp, hv, hr, hz => ⟨al, vs, tm, z, rfl, rfl, hv, hr, hz, rfl, e⟩
 | [], _ :: _, keep, al, vs, z, tm, k, q, e, hp, hv, hr, hz => by cases e
 | (p, .i kd) :: ps, [], keep, al, vs, z, tm, k, q, e, hp, hv, hr, hz => by cases e
 | (p, .b) :: ps, [], keep, al, vs, z, tm, k, q, e, hp, hv, hr, hz => by cases e
 | (p, .v) :: ps, [], keep, al, vs, z, tm, k, q, e, hp, hv, hr, hz => by cases e
 | (p, kk) :: ps, v :: args, keep, al, vs, z, tm, k, q, e, hp, hv, hr, hz => by
  have hpn : Nat.blt p nt = true := hp (p, kk) (.head _)
  have next : ∀ {al1 : AL}, AL.vals (((p, kk) :: keep).map (·.2)) al1 = some (v :: vs) → E8 ps args al1 (z.put p v) k = some q →
    ∃ al' vs' uP z', (v :: args).length = ((p, kk) :: ps).length ∧ pJ nt ((((p, kk) :: ps).map (·.1)).zip (v :: args)) tm = some uP ∧ AL.vals ((((p, kk) :: ps).reverse ++ keep).map (·.2)) al' = some vs' ∧
     RR (((((p, kk) :: ps).reverse ++ keep).map (·.1)).zip vs') uP ∧ z'.tm = some uP ∧ z'.ds = z.ds ∧ k al' z' = some q := by
   intro al1 h1 h2
   obtain ⟨al', vs', uP, z', g1, g2, g3, g4, g5, g6, g7⟩ := RX (nt := nt) (keep := (p, kk) :: keep) (tm := tm.put p (some v)) h2 (fun x hx => hp x (.tail _ hx)) h1 (by
    show RR ((p, v) :: ((keep.map (·.1)).zip vs)) _
    exact hr.put p v) (by unfold Z.put; rw [hz])
   refine ⟨al', vs', uP, z', by simp [g1], ?_, by simpa using g3, by simpa using g4, g5, g6, g7⟩
   simp only [List.map_cons, List.zip_cons_cons, pJ, hpn, VY, g2]
  cases kk with
  | i kd =>
   obtain ⟨x, rfl, e2⟩ := aZ (show aR kd v _ = some q from e)
   exact next (al1 := .i x al) (by simp only [List.map_cons, AL.vals, hv, Option.map_some]) e2
  | b =>
   obtain ⟨x, rfl, e2⟩ := kN (show dH v _ = some q from e)
   exact next (al1 := .b x al) (by simp only [List.map_cons, AL.vals, hv, Option.map_some]) e2
  | v => exact next (al1 := .v v al) (by simp only [List.map_cons, AL.vals, hv, Option.map_some]) e
def aTJ : KZ := fun _ _ h => some (.bool true, h)
def aTK : KZ := fun _ _ h => some (.bool false, h)
def aTL : Nat → KZ := fun i _ _ h => some (.int .i64 (Int.ofNat i), h)
def bA4 (e : Ex) (s : S) (q : Value × Hp) : Prop := exV e = some q.1 ∧ s.h = q.2
theorem XZ {C : dL} {nt : Nat} {a b : Code} {Aa Ab : eO} {T : Nat → rG → rG} {ρ' ρ : RG} {j : Nat} {fy : FY} {Y : YF} {ps : Array Tmp} {keep : List (Nat × Kd)} {kinds : List Kd} {n : Nat} {regs : List Oper → Array Oper → Bool → KZ → KZ}
  (KC : ∀ rd, JB C rd nt regs) (hY : JC C Y) (JD : zA C fy) (hk : kinds.length = ps.size) (hps : ∀ p ∈ ps.toList.zip kinds, Nat.blt p.1 nt = true) (hcut : Aa.cut = some (0, (ps.toList.zip kinds).reverse ++ keep))
  (hG : BB C nt ρ' (pO a Aa ++ pO b Ab)) (hd : distinct ((collect a Aa [.gate b Ab] ++ collect b Ab []).map (·.l)) = true)
  (hT : ∀ gl σ l vs z h q, T gl σ l vs z h = some q → aY ρ' fy Y (some gl) nt gl regs aTJ aTK aTL (collect a Aa [.gate b Ab] ++ collect b Ab []) l σ vs z h = some q)
  (hρ : ∀ l al z args h, ρ j l al z args h = E8 (ps.toList.zip kinds) args al ⟨z.tm, []⟩ fun al z => kP (T l) n 0 al z h) :
  RQ C nt ρ j keep ps a b := by
 intro l al vs z args h ex h2 e hv tm hr hz
 rw [hρ] at e
 have all := nD (C := C) (rd := some l) (gl := l) (Fin := bA4) (yZ := aTJ) (fin := aTK) (ex0 := aTL) (KC (some l)) hY JD
  (fun r z h q e tm ht _ => by cases e; exact ⟨rfl, rfl⟩) (fun r z h q e tm ht _ => by cases e; exact ⟨rfl, rfl⟩) (fun i r z h q e tm ht _ => by cases e; exact ⟨rfl, rfl⟩)
  [(a, Aa, [.gate b Ab]), (b, Ab, [])] (collect a Aa [.gate b Ab] ++ collect b Ab []) (fun c A' fs hm e he => by
   rcases List.mem_cons.1 hm with hm | hm
   ·cases hm; exact List.mem_append_left _ he
   ·cases List.mem_singleton.1 hm; exact List.mem_append_right _ he)
  (fun e he => by
   rcases List.mem_append.1 he with he | he
   ·exact ⟨a, Aa, _, .head _, he⟩
   ·exact ⟨b, Ab, _, .tail _ (.head _), he⟩) (fun σ H c A' fs hm => by
   rcases List.mem_cons.1 hm with hm | hm
   ·cases hm
    refine ⟨?_, trivial⟩
    cases hc : Ab.cut with
    | none => trivial
    | some x => obtain ⟨l1, k1⟩ := x; exact H _ (List.mem_append_right _ (eP hc))
   ·cases List.mem_singleton.1 hm; trivial)
  (fun c A' fs hm => by
   rcases List.mem_cons.1 hm with hm | hm
   ·cases hm; exact fun x hx => hG x (List.mem_append_left _ hx)
   ·cases List.mem_singleton.1 hm; exact fun x hx => hG x (List.mem_append_right _ hx)) hd (T l) (hT l) n
 obtain ⟨al', vs', uP, z', g1, g2, g3, g4, g5, g6, g7⟩ := RX (nt := nt) (z := ⟨z.tm, []⟩) e hps hv hr hz
 have h0 := all _ (List.mem_append_left _ (eP hcut)) al' vs' z' h (ex, h2) g7 g3
 obtain ⟨e1, s1, r1, u1⟩ := h0 uP g4 (fun t et => by rw [g5] at et; exact Option.some.inj et)
 have hlen : (ps.toList.zip kinds).length = ps.size := by simp [hk]
 have hz1 : (ps.toList.zip kinds).map (·.1) = ps.toList := List.map_fst_zip (by simp [hk])
 have hst : BA uP z' h = { tm := uP, df := [], h } := by unfold BA; rw [g6]; rfl
 rw [hst] at r1
 cases e1 with
 | normal =>
  obtain ⟨p, tmx, ntx, psx, ax, bx, dx, q1, q2, e2, s2, q3, q4⟩ := u1
  refine ⟨uP, s1, p, tmx, ntx, psx, ax, bx, dx, e2, s2, by rw [g1, hlen], ?_, r1, q1, q2, q3, q4.1, q4.2⟩
  rw [hz1] at g2
  simpa using g2
 | ret => exact u1.elim
 | exit i => exact u1.elim
 | panic v => exact u1.elim
def uI (f : Int → AL → Z → Hp → aF) (al : AL) (z : Z) (h : Hp) : aF := AL.rec (motive := fun _ => aF) none (fun x r _ => f x r z h) (fun _ _ _ => none) (fun _ _ _ => none) al
def uB (f : Bool → AL → Z → Hp → aF) (al : AL) (z : Z) (h : Hp) : aF := AL.rec (motive := fun _ => aF) none (fun _ _ _ => none) (fun x r _ => f x r z h) (fun _ _ _ => none) al
def uV (f : Value → AL → Z → Hp → aF) (al : AL) (z : Z) (h : Hp) : aF := AL.rec (motive := fun _ => aF) none (fun _ _ _ => none) (fun _ _ _ => none) (fun x r _ => f x r z h) al
def uN (f : Z → Hp → aF) (al : AL) (z : Z) (h : Hp) : aF := AL.rec (motive := fun _ => aF) (f z h) (fun _ _ _ => none) (fun _ _ _ => none) (fun _ _ _ => none) al
theorem U4 {f : Int → AL → Z → Hp → aF} {al : AL} {z : Z} {h : Hp} {q : Value × Hp} (e : uI f al z h = some q) : ∃ a l, al = .i a l ∧ f a l z h = some q := by
 cases al <;> first | (cases e; done) | exact ⟨_, _, rfl, e⟩
theorem aCU {f : Bool → AL → Z → Hp → aF} {al : AL} {z : Z} {h : Hp} {q : Value × Hp} (e : uB f al z h = some q) : ∃ a l, al = .b a l ∧ f a l z h = some q := by
 cases al <;> first | (cases e; done) | exact ⟨_, _, rfl, e⟩
theorem U5 {f : Value → AL → Z → Hp → aF} {al : AL} {z : Z} {h : Hp} {q : Value × Hp} (e : uV f al z h = some q) : ∃ a l, al = .v a l ∧ f a l z h = some q := by
 cases al <;> first | (cases e; done) | exact ⟨_, _, rfl, e⟩
theorem U6 {f : Z → Hp → aF} {al : AL} {z : Z} {h : Hp} {q : Value × Hp} (e : uN f al z h = some q) : al = .n ∧ f z h = some q := by
 cases al <;> first | (cases e; done) | exact ⟨rfl, e⟩
def jN : rG := fun _ _ _ _ => none
def bW (i : Nat) (X : AL → Z → Hp → aF) (t : rG) : rG := fun l vs z h => bY (Nat.beq l i) (X vs z h) (t l vs z h)
def iQ (Y : rG) (t : rG) : Prop := ∀ l vs z h q, t l vs z h = some q → Y l vs z h = some q
theorem iQ.nil {Y : rG} : iQ Y jN := fun _ _ _ _ _ e => (by cases e)
theorem iQ.cons {Y : rG} (i : Nat) {X : AL → Z → Hp → aF} {t : rG} (h1 : ∀ vs z h q, X vs z h = some q → Y i vs z h = some q) (h2 : iQ Y t) : iQ Y (bW i X t) := by
 intro l vs z h q e
 unfold bW at e
 cases hb : Nat.beq l i with
 | true => rw [hb] at e; obtain rfl := Nat.eq_of_beq_eq_true hb; exact h1 vs z h q e
 | false => rw [hb] at e; exact h2 l vs z h q e
def rgN : RG := fun _ _ _ _ _ _ => none
def rgC (j : Nat) (F : Nat → AL → Z → List Value → Hp → aF) (ρ : RG) : RG := fun j' l al z args h => bY (Nat.beq j' j) (F l al z args h) (ρ j' l al z args h)
def fyN : FY := fun _ _ _ _ => none
def fyC (f : FuncId) (F : YF → List Value → Hp → aF) (r : FY) : FY := fun g Y args h => bY (Nat.beq g f) (F Y args h) (r g Y args h)
def yN : YF := fun _ _ _ => none
theorem aXO (C : dL) : JC C yN := fun _ _ _ _ _ e => (by cases e)
theorem aTM (C : dL) : zA C fyN := fun _ _ _ _ _ _ _ e => (by cases e)
theorem U7 {C : dL} {f : FuncId} {F : YF → List Value → Hp → aF} {r : FY} (h1 : ∀ a h, C.iG f a h = none) (h2 : C.quiet f = false) (h3 : ∀ Y, JC C Y → ∀ args h v h', F Y args h = some (v, h') → eF C (.call f args.toArray h) (.ret v h')) (h4 : zA C r) : zA C (fyC f F r) := by
 intro g Y args h v h' hY e
 unfold fyC at e
 cases hb : Nat.beq g f with
 | true => rw [hb] at e; obtain rfl := Nat.eq_of_beq_eq_true hb; exact ⟨h1, h2, h3 Y hY args h v h' e⟩
 | false => rw [hb] at e; exact h4 g Y args h v h' hY e
def GY (G : (YF → List Value → Hp → aF) → YF → List Value → Hp → aF) (n : Nat) : YF → List Value → Hp → aF :=
 Nat.rec (motive := fun _ => YF → List Value → Hp → aF) (fun _ _ _ => none) (fun _ R => G R) n
def ROk (C : dL) (f : FuncId) (R : YF → List Value → Hp → aF) : Prop := ∀ Y, JC C Y → ∀ args h v h', R Y args h = some (v, h') → eF C (.call f args.toArray h) (.ret v h')
theorem aC0 {C : dL} {f : FuncId} {G : (YF → List Value → Hp → aF) → YF → List Value → Hp → aF} (hG : ∀ R, ROk C f R → ROk C f (G R)) : ∀ n, ROk C f (GY G n)
 | 0 => fun _ _ _ _ _ _ e => (by cases e)
 | n + 1 => hG (GY G n) (aC0 hG n)
def hide (ys : List Nat) (iG : FuncId → Array Value → Hp → Option (Value × Hp)) : FuncId → Array Value → Hp → Option (Value × Hp) := fun f a h => cond (ys.any fun y => Nat.beq y f) none (iG f a h)
def aXQ (C : dL) (ys : List Nat) : dL := { C with iG := hide ys C.iG, quiet := fun _ => false }
theorem aO5 {C : dL} (h : C.Ok) (ys : List Nat) : (aXQ C ys).Ok := ⟨h.env, h.fn, (fun f a h' v h2 e => by
 have e' : hide ys C.iG f a h' = some (v, h2) := e
 unfold hide at e'
 cases hb : (ys.any fun y => Nat.beq y f) with
 | true => rw [hb] at e'; cases e'
 | false => rw [hb] at e'; exact h.iG f a h' v h2 e'), h.mixed⟩
theorem aIE {C C' : dL} (hC : C.Ok) (hC' : C'.Ok) (hP : C'.P = C.P) {f : FuncId} {F : List Value → Hp → aF} (hF : ∀ args h v h', F args h = some (v, h') → eF C' (.call f args.toArray h) (.ret v h')) :
  dL.Ok { C with iG := jI f F C.iG } := by
 have h1 := (dB hC' hF).iG
 refine ⟨hC.env, hC.fn, ?_, hC.mixed⟩
 intro g args h v h' e
 simp only [jI] at e
 cases hb : Nat.beq f g with
 | false => rw [hb] at e; exact hC.iG g args h v h' e
 | true =>
  obtain rfl := Nat.eq_of_beq_eq_true hb
  have := h1 f args h v h' (by show jI f F C'.iG f args h = _; unfold jI; rw [hb]; rw [hb] at e; exact e)
  rw [show ({ C' with iG := jI f F C'.iG } : dL).P = C.P from hP] at this
  exact this
end
end Go.bG.Y
/-
  Tables of labels, for functions that range over functions: rows proved one by one.
-/
namespace Go.bG.Y
open Go.bG
theorem X3 {f : Int → AL → Z → Hp → aF} {Y : AL → Z → Hp → aF} (H : ∀ x al z h q, f x al z h = some q → Y (.i x al) z h = some q) (al : AL) (z : Z) (h : Hp) (q : Value × Hp) (e : uI f al z h = some q) : Y al z h = some q := by
 obtain ⟨x, l, rfl, e⟩ := U4 e; exact H x l z h q e
theorem DI {f : Value → AL → Z → Hp → aF} {Y : AL → Z → Hp → aF} (H : ∀ x al z h q, f x al z h = some q → Y (.v x al) z h = some q) (al : AL) (z : Z) (h : Hp) (q : Value × Hp) (e : uV f al z h = some q) : Y al z h = some q := by
 obtain ⟨x, l, rfl, e⟩ := U5 e; exact H x l z h q e
theorem ywN {f : Z → Hp → aF} {Y : AL → Z → Hp → aF} (H : ∀ z h, f z h = Y .n z h) (al : AL) (z : Z) (h : Hp) (q : Value × Hp) (e : uN f al z h = some q) : Y al z h = some q := by
 obtain ⟨rfl, e⟩ := U6 e; exact (H z h).symm.trans e
theorem BD {Y : rG} {i : Nat} {X : AL → Z → Hp → aF} {t : rG} (h1 : ∀ vs z h q, X vs z h = some q → Y i vs z h = some q) (h2 : iQ Y t) : iQ Y (bW i X t) := iQ.cons i h1 h2
end Go.bG.Y
/-
  Ranges over functions: what the words of a told text answer where blocks are known.
-/
namespace Go.bG.Y
open Go.bG
theorem aTN {l : Nat} {X : LX} {rb : List Value → Hp → aF} {Y : YF} {args : List Value} {h : Hp} (hg : h.get l = some (X.obj .ready none)) : YL l X rb Y l args h = aO (rb args h) fun ex h2 => roundEnd l ex h2 := by
 unfold YL
 rw [Nat.beq_refl]
 show JA _ _ = _
 rw [aA0 hg]
theorem BC {a b : Nat} (h : a ≤ b) : Nat.ble a b = true := by rw [Nat.ble_eq]; exact h
theorem aIF {l : Nat} {h : Hp} {p : Option Code} {tm : T Value} {nt : Nat} {ps : Array Tmp} {a b : Code} {d : Nat} (hg : h.get l = some (.loop .ready p tm nt ps a b d)) (hr : h.ro ≤ l) (k : Hp → aF) :
  DZ l h k = k (h.upd l (.loop .busy p tm nt ps a b d)) := by
 unfold DZ fF
 dsimp only
 rw [hg]
 dsimp only
 rw [BC hr]
theorem PU {l : Nat} {h : Hp} {s : LoopState} {p : Option Code} {tm : T Value} {nt : Nat} {ps : Array Tmp} {a b : Code} {d : Nat} (hg : h.get l = some (.loop s p tm nt ps a b d)) (hr : h.ro ≤ l) :
  roundEnd l (.bool true) h = some (.bool true, h.upd l (.loop .ready none tm nt ps a b d)) := by
 unfold roundEnd fF
 dsimp only
 rw [hg]
 dsimp only
 rw [BC hr]
theorem aA3 {l : Nat} {h : Hp} {tm : T Value} {nt : Nat} {ps : Array Tmp} {a b : Code} {d : Nat} (hg : h.get l = some (.loop .ready none tm nt ps a b d)) (hr : h.ro ≤ l) (k : Ex → Hp → aF) :
  aFC l h k = k .normal (h.upd l (.loop .exhausted none tm nt ps a b d)) := by
 unfold aFC fF
 dsimp only
 rw [hg]
 dsimp only
 rw [BC hr]
 rfl
theorem RY {d : Nat} {h : Hp} (hg : h.get d = some (.wH true)) (hr : h.ro ≤ d) : xC [d] h = some (h.upd d (.wH false)) := by
 unfold xC
 rw [hg]
 dsimp only
 rw [BC hr]
 rfl
theorem aA4 (n r : aF) (x : Nat → aF) : exK .normal n r x = n := rfl
theorem aIG {fy : FY} {Y : YF} {X : Nat → LX} {f : FuncId} {a b : Array Value} {h : Hp} {rb : Nat → List Value → Hp → aF} {k : Ex → List Nat → Hp → aF} :
  aH3 fy Y none X (.func (.func f) a b) h rb k = aO (fy f (YL (h.next + 1) (X h.next) (rb (h.next + 1)) Y) (a.toList ++ [.func (.yield (h.next + 1)) #[] #[]] ++ b.toList) ((h.add (.wH true)).add ((X h.next).obj .ready none))) fun _ h3 =>
   aFC (h.next + 1) h3 fun e h4 => k e [h.next] h4 := rfl
theorem X0 (iG : FuncId → Array Value → Hp → Option (Value × Hp)) (fy : FY) (Y : YF) (n : Nat) (l : List Value) (h : Hp) : D5 iG fy Y (.func (.yield n) #[] #[]) l h = Y n l h := rfl
theorem aIH {ρ : Type} (len n b o i : Nat) (hi : i < len) (k : Value → Option ρ) : AA len n (.pointer (some ⟨b, o, none⟩)) (i : Int) k = k (.pointer (some ⟨b, o + i * n, none⟩)) := by
 show bY (Nat.ble (Nat.succ i) len) (gQ (Nat.add o (Nat.mul i n)) fun o => k (.pointer (some ⟨b, o, none⟩))) none = _
 rw [BC (by omega), dA]; rfl
end Go.bG.Y
/-
  Functions that call themselves, told by depth.
-/
namespace Go.bG
noncomputable section
def aHZ (E : Env) (iG : FuncId → Array Value → Hp → Option (Value × Hp)) (nt : Nat) (l : List Oper) (ops : Array Oper) (d : Bool) (k : KT) : KT :=
 match d with
 | false => yX E iG nt ops l k
 | true => match DU ops with
  | true => aCF E iG nt ops k
  | false => jV E iG nt l ops true k
theorem UZ {C : dL} (hE : C.P.Ok) {rd : Option Nat} {nt : Nat} : FU C rd nt (aHZ C.P C.iG nt) := by
 intro id ops d kn r h q e tm ht
 unfold aHZ at e
 cases d with
 | false => exact dG hE (rd := rd) id ops false kn r h q e tm ht
 | true =>
  simp only at e
  cases hd : DU ops with
  | true =>
   rw [hd] at e
   obtain ⟨o8, h', r', h1, h2, h3⟩ := WM hE (rd := rd) (run C 0) hd ht e
   exact ⟨o8, h', r', .aV ⟨0, h1⟩, h2, h3⟩
  | false => rw [hd] at e; exact dG hE (rd := rd) id ops true kn r h q e tm ht
end
end Go.bG
