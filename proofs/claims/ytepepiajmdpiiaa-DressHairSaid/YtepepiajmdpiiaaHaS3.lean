/- Contracts of told functions: the first thing with an error, lists. -/
import Derived.Test.YtepepiajmdpiiaaHaS2
open Go Go.Eng
set_option maxRecDepth 100000
set_option linter.unusedVariables false
namespace Go.Proofs.Ytepepiajmdpiiaa.K.L
def kY (x : Int × Int) : Value := .tuple (List.toArray [.int .i64 x.1, .int .i64 x.2])
def jD {α : Type} (most : Int) (fE : List α → α → Int) (gs : List α) : Int × Int := if most < (gs.length : Int) then (0, 3) else lH fE gs 0 gs
theorem CF {v fv : Value} {gs : List Int} (hlen : gs.length ≤ 900000) (fE : List Int → Int → Int)
  {h : Hp} (hf : ∀ (v' : Value) (i : Nat) (hi : i < gs.length), Eng.Rows h 1 v' ((gs.take i).map dL) → qM OE fv [v', .int .i64 gs[i]] h = some (.int .i64 (fE (gs.take i) gs[i]), h)) (w : Wf h) (hr : jZ h 1 v (gs.map dL)) : ∀ m i n, i + m = gs.length → m + 2 ≤ n →
  aP XH n 1 (AL.v v (AL.v fv (AL.v v (AL.i (gs.length : Int) (AL.i (i : Int) AL.n))))) h = some (kY (lH fE gs i (gs.drop i)), h)
 | 0, i, n + 2, him, hn => by
  show IC (aP XH (n + 1)) v fv v (gs.length : Int) (i : Int) h = _
  unfold IC
  rw [aU, bE, aJ, if_neg (by simp; omega), List.drop_of_length_le (by omega)]
  rfl
 | m + 1, i, n + 1, him, hn => by
  have hi : i < gs.length := by omega
  have hg : (gs.map dL)[i]? = some (dL gs[i]) := by rw [List.getElem?_map, List.getElem?_eq_getElem hi]; rfl
  obtain ⟨q, hq, haq, hl⟩ := hr.rows.at hg
  show IC (aP XH n) v fv v (gs.length : Int) (i : Int) h = _
  unfold IC
  rw [aU, bE, aJ, if_pos (by simp; omega), hq, haq.jT (x := .int .i64 gs[i]) rfl, aO]
  obtain ⟨v', hv', hp⟩ := hr.pre zN xO (i := i) (by simpa using hi)
  rw [← List.map_take] at hp
  rw [hv', aR, hf v' i hi hp, aH, aO, aZ, dO, aJ, List.drop_eq_getElem_cons hi]
  unfold lH
  by_cases e0 : fE (gs.take i) (gs[i]) = 0
  ·rw [if_neg (by rw [e0]; simp), if_pos e0, show Int.add (i : Int) (Int.ofNat 1) = ((i + 1 : Nat) : Int) from rfl, wrap64_in _ (by omega) (by omega)]
   exact CF hlen fE hf w hr m (i + 1) n (by omega) (by omega)
  ·rw [if_pos (by simpa using e0), if_neg e0]
   rfl
theorem XI {v fv : Value} {gs : List Int} (hlen : gs.length ≤ 900000) (fE : List Int → Int → Int)
  {h : Hp} (hf : ∀ (v' : Value) (i : Nat) (hi : i < gs.length), Eng.Rows h 1 v' ((gs.take i).map dL) → qM OE fv [v', .int .i64 gs[i]] h = some (.int .i64 (fE (gs.take i) gs[i]), h)) (w : Wf h) (hr : jZ h 1 v (gs.map dL)) :
  aNG [v, fv] h = some (kY (lH fE gs 0 gs), h) := by
 show TZ (aP XH 999999) v fv h = _
 unfold TZ
 rw [hr.rows.len, List.length_map]
 have := CF hlen fE hf w hr gs.length 0 999999 (by omega) (by omega)
 rw [List.drop_zero] at this
 exact this
theorem aF7 {v fv : Value} {gs : List Int} {most : Int} (hm : most ≤ 900000) (fE : List Int → Int → Int)
  {h : Hp} (hf : ∀ (v' : Value) (i : Nat) (hi : i < gs.length), (gs.length : Int) ≤ most → Eng.Rows h 1 v' ((gs.take i).map dL) → qM OE fv [v', .int .i64 gs[i]] (iG h) = some (.int .i64 (fE (gs.take i) gs[i]), iG h)) (w : Wf h) (hr : jZ h 1 v (gs.map dL)) :
  ∃ h', F80 [v, .int .i64 most, fv] h = some (kY (jD most fE gs), h') := by
 have start : F80 [v, .int .i64 most, fv] h = aC7 (aP T80 999999) v most fv h := rfl
 rw [start]
 unfold aC7 jD
 rw [hr.rows.len, List.length_map, aU, bE, aJ]
 by_cases c : most < (gs.length : Int)
 ·rw [if_pos (by simpa using c), if_pos c]; exact ⟨_, rfl⟩
 rw [if_neg (by simpa using c), if_neg c]
 have e := XI (by omega) fE (h := iG h) (fun v' i hi r => hf v' i hi (by omega) r) (jV w) hr
 rw [eB e rfl, aH]
 unfold kY
 rw [dP (v := .int .i64 (lH fE gs 0 gs).1) rfl, aO, dP (v := .int .i64 (lH fE gs 0 gs).2) rfl, aO]
 exact ⟨_, rfl⟩
theorem CG {α : Type} {row : α → List Value} (hz : ∀ g, (row g).length = 3) {v fv : Value} {gs : List α} (ho : ∀ g ∈ gs, (row g).all oneCell = true) (hlen : gs.length ≤ 900000) (Q : Hp → Prop) (hQ : ∀ h h', bI h h' → Q h → Q h') (fE : List α → α → Int)
  (hf : ∀ (h : Hp) (v' : Value) (i : Nat) (hi : i < gs.length), Wf h → Q h → Eng.Rows h 3 v' ((gs.take i).map row) → qM CJ fv [v', .agg (Array.mk (row gs[i]))] h = some (.int .i64 (fE (gs.take i) gs[i]), h)) : ∀ m i n (h : Hp), Wf h → Q h → jZ h 3 v (gs.map row) → i + m = gs.length → m + 2 ≤ n →
  ∃ h', aP XJ n 1 (AL.v v (AL.v fv (AL.v v (AL.i (gs.length : Int) (AL.i (i : Int) AL.n))))) h = some (kY (lH fE gs i (gs.drop i)), h')
 | 0, i, n + 2, h, w, q, hr, him, hn => by
  show ∃ h', IE (aP XJ (n + 1)) v fv v (gs.length : Int) (i : Int) h = _
  unfold IE
  rw [aU, bE, aJ, if_neg (by simp; omega), List.drop_of_length_le (by omega)]
  exact ⟨h, rfl⟩
 | m + 1, i, n + 1, h, w, q, hr, him, hn => by
  have hi : i < gs.length := by omega
  have hg : (gs.map row)[i]? = some (row gs[i]) := by rw [List.getElem?_map, List.getElem?_eq_getElem hi]; rfl
  obtain ⟨q', hq, haq, hl⟩ := hr.rows.at hg
  show ∃ h', IE (aP XJ n) v fv v (gs.length : Int) (i : Int) h = _
  unfold IE
  rw [aU, bE, aJ, if_pos (by simp; omega), hq, haq.gU hl]
  obtain ⟨h1, p, g1, a1, hk⟩ := qI (ρ := Value × Hp) (z := 3) w 59 (c := [(Value.string (ByteArray.mk #[])), (Value.slice none 0 0), (Value.int .i64 (Int.ofNat 0))]) (l := row gs[i]) rfl (hz _) (ho _ (List.getElem_mem hi)) (fun _ _ => none)
  rw [hk]
  have r1 := hr.sub g1.sub
  obtain ⟨v', hv', hp⟩ := r1.pre aX4 aI4 (i := i) (by simpa using hi)
  rw [hv', aR, a1.gU (z := 3) (hz _)]
  rw [← List.map_take] at hp
  rw [hf h1 v' i hi g1.wf (hQ _ _ g1 q) hp, aH, aO, aZ, dO, aJ, List.drop_eq_getElem_cons hi]
  unfold lH
  by_cases e0 : fE (gs.take i) (gs[i]) = 0
  ·rw [if_neg (by rw [e0]; simp), if_pos e0, show Int.add (i : Int) (Int.ofNat 1) = ((i + 1 : Nat) : Int) from rfl, wrap64_in _ (by omega) (by omega)]
   exact CG hz ho hlen Q hQ fE hf m (i + 1) n h1 g1.wf (hQ _ _ g1 q) r1 (by omega) (by omega)
  ·rw [if_pos (by simpa using e0), if_neg e0]
   exact ⟨h1, rfl⟩
theorem XK {α : Type} {row : α → List Value} (hz : ∀ g, (row g).length = 3) {v fv : Value} {gs : List α} (ho : ∀ g ∈ gs, (row g).all oneCell = true) (hlen : gs.length ≤ 900000) (Q : Hp → Prop) (hQ : ∀ h h', bI h h' → Q h → Q h') (fE : List α → α → Int)
  (hf : ∀ (h : Hp) (v' : Value) (i : Nat) (hi : i < gs.length), Wf h → Q h → Eng.Rows h 3 v' ((gs.take i).map row) → qM CJ fv [v', .agg (Array.mk (row gs[i]))] h = some (.int .i64 (fE (gs.take i) gs[i]), h)) {h : Hp} (w : Wf h) (q : Q h) (hr : jZ h 3 v (gs.map row)) :
  ∃ h', aNH [v, fv] h = some (kY (lH fE gs 0 gs), h') := by
 show ∃ h', UA (aP XJ 999999) v fv h = _
 unfold UA
 rw [hr.rows.len, List.length_map]
 have := CG hz ho hlen Q hQ fE hf gs.length 0 999999 h w q hr (by omega) (by omega)
 rw [List.drop_zero] at this
 exact this
theorem aF8 {α : Type} {row : α → List Value} (hz : ∀ g, (row g).length = 3) {v fv : Value} {gs : List α} {most : Int} (ho : ∀ g ∈ gs, (row g).all oneCell = true) (hm : most ≤ 900000) (Q : Hp → Prop) (hQ : ∀ h h', bI h h' → Q h → Q h') (hQs : ∀ h, Q h → Q (iG h)) (fE : List α → α → Int)
  (hf : ∀ (h : Hp) (v' : Value) (i : Nat) (hi : i < gs.length), gs.length ≤ 900000 → Wf h → Q h → Eng.Rows h 3 v' ((gs.take i).map row) → qM CJ fv [v', .agg (Array.mk (row gs[i]))] h = some (.int .i64 (fE (gs.take i) gs[i]), h)) {h : Hp} (w : Wf h) (q : Q h) (hr : jZ h 3 v (gs.map row)) :
  ∃ h', F83 [v, .int .i64 most, fv] h = some (kY (jD most fE gs), h') := by
 have start : F83 [v, .int .i64 most, fv] h = aC8 (aP T83 999999) v most fv h := rfl
 rw [start]
 unfold aC8 jD
 rw [hr.rows.len, List.length_map, aU, bE, aJ]
 by_cases c : most < (gs.length : Int)
 ·rw [if_pos (by simpa using c), if_pos c]; exact ⟨_, rfl⟩
 rw [if_neg (by simpa using c), if_neg c]
 obtain ⟨h2, e⟩ := XK hz ho (by omega) Q hQ fE (fun h v' i hi w q hr => hf h v' i hi (by omega) w q hr) (h := iG h) (jV w) (hQs _ q) hr
 rw [eB e rfl, aH]
 unfold kY
 rw [dP (v := .int .i64 (lH fE gs 0 gs).1) rfl, aO, dP (v := .int .i64 (lH fE gs 0 gs).2) rfl, aO]
 exact ⟨_, rfl⟩
end Go.Proofs.Ytepepiajmdpiiaa.K.L
