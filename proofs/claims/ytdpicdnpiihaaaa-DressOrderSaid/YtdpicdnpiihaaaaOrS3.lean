/- Contracts of told functions: the first thing with an error, lists. -/
import Derived.Test.YtdpicdnpiihaaaaOrS2
open Go Go.bI
set_option maxRecDepth 100000
set_option linter.unusedVariables false
namespace Go.Proofs.Ytdpicdnpiihaaaa.K.L
def lZ (x : Int × Int) : Value := .tuple (List.toArray [.int .i64 x.1, .int .i64 x.2])
def iP {α : Type} (most : Int) (fE : List α → α → Int) (gs : List α) : Int × Int := if most < (gs.length : Int) then (0, 3) else kT fE gs 0 gs
theorem EU {v fv : Value} {gs : List Int} (hlen : gs.length ≤ 900000) (fE : List Int → Int → Int)
  {h : Hp} (hf : ∀ (v' : Value) (i : Nat) (hi : i < gs.length), bI.Rows h 1 v' ((gs.take i).map cZ) → qP aCF fv [v', .int .i64 gs[i]] h = some (.int .i64 (fE (gs.take i) gs[i]), h)) (w : Wf h) (hr : lV h 1 v (gs.map cZ)) : ∀ m i n, i + m = gs.length → m + 2 ≤ n →
  aN Y6 n 1 (AL.v v (AL.v fv (AL.v v (AL.i (gs.length : Int) (AL.i (i : Int) AL.n))))) h = some (lZ (kT fE gs i (gs.drop i)), h)
 | 0, i, n + 2, him, hn => by
  show PE (aN Y6 (n + 1)) v fv v (gs.length : Int) (i : Int) h = _
  unfold PE
  rw [aQ, aW, aH, if_neg (by simp; omega), List.drop_of_length_le (by omega)]
  rfl
 | m + 1, i, n + 1, him, hn => by
  have hi : i < gs.length := by omega
  have hg : (gs.map cZ)[i]? = some (cZ gs[i]) := by rw [List.getElem?_map, List.getElem?_eq_getElem hi]; rfl
  obtain ⟨q, hq, haq, hl⟩ := hr.rows.at hg
  show PE (aN Y6 n) v fv v (gs.length : Int) (i : Int) h = _
  unfold PE
  rw [aQ, aW, aH, if_pos (by simp; omega), hq, haq.j6 (x := .int .i64 gs[i]) rfl, aI]
  obtain ⟨v', hv', hp⟩ := hr.pre PW LH (i := i) (by simpa using hi)
  rw [← List.map_take] at hp
  rw [hv', aM, hf v' i hi hp, aB, aI, aR, cK, aH, List.drop_eq_getElem_cons hi]
  unfold kT
  by_cases e0 : fE (gs.take i) (gs[i]) = 0
  ·rw [if_neg (by rw [e0]; simp), if_pos e0, show Int.add (i : Int) (Int.ofNat 1) = ((i + 1 : Nat) : Int) from rfl, wrap64_in _ (by omega) (by omega)]
   exact EU hlen fE hf w hr m (i + 1) n (by omega) (by omega)
  ·rw [if_pos (by simpa using e0), if_neg e0]
   rfl
theorem ZW {v fv : Value} {gs : List Int} (hlen : gs.length ≤ 900000) (fE : List Int → Int → Int)
  {h : Hp} (hf : ∀ (v' : Value) (i : Nat) (hi : i < gs.length), bI.Rows h 1 v' ((gs.take i).map cZ) → qP aCF fv [v', .int .i64 gs[i]] h = some (.int .i64 (fE (gs.take i) gs[i]), h)) (w : Wf h) (hr : lV h 1 v (gs.map cZ)) :
  aQY [v, fv] h = some (lZ (kT fE gs 0 gs), h) := by
 show aCG (aN Y6 999999) v fv h = _
 unfold aCG
 rw [hr.rows.len, List.length_map]
 have := EU hlen fE hf w hr gs.length 0 999999 (by omega) (by omega)
 rw [List.drop_zero] at this
 exact this
theorem aHA {v fv : Value} {gs : List Int} {most : Int} (hm : most ≤ 900000) (fE : List Int → Int → Int)
  {h : Hp} (hf : ∀ (v' : Value) (i : Nat) (hi : i < gs.length), (gs.length : Int) ≤ most → bI.Rows h 1 v' ((gs.take i).map cZ) → qP aCF fv [v', .int .i64 gs[i]] (dF h) = some (.int .i64 (fE (gs.take i) gs[i]), dF h)) (w : Wf h) (hr : lV h 1 v (gs.map cZ)) :
  ∃ h', F80 [v, .int .i64 most, fv] h = some (lZ (iP most fE gs), h') := by
 have start : F80 [v, .int .i64 most, fv] h = aJ5 (aN T80 999999) v most fv h := rfl
 rw [start]
 unfold aJ5 iP
 rw [hr.rows.len, List.length_map, aQ, aW, aH]
 by_cases c : most < (gs.length : Int)
 ·rw [if_pos (by simpa using c), if_pos c]; exact ⟨_, rfl⟩
 rw [if_neg (by simpa using c), if_neg c]
 have e := ZW (by omega) fE (h := dF h) (fun v' i hi r => hf v' i hi (by omega) r) (fM w) hr
 rw [bO e rfl, aB]
 unfold lZ
 rw [bG (v := .int .i64 (kT fE gs 0 gs).1) rfl, aI, bG (v := .int .i64 (kT fE gs 0 gs).2) rfl, aI]
 exact ⟨_, rfl⟩
theorem EW {α : Type} {row : α → List Value} (hz : ∀ g, (row g).length = 3) {v fv : Value} {gs : List α} (ho : ∀ g ∈ gs, (row g).all oneCell = true) (hlen : gs.length ≤ 900000) (Q : Hp → Prop) (hQ : ∀ h h', aV h h' → Q h → Q h') (fE : List α → α → Int)
  (hf : ∀ (h : Hp) (v' : Value) (i : Nat) (hi : i < gs.length), Wf h → Q h → bI.Rows h 3 v' ((gs.take i).map row) → qP PI fv [v', .agg (Array.mk (row gs[i]))] h = some (.int .i64 (fE (gs.take i) gs[i]), h)) : ∀ m i n (h : Hp), Wf h → Q h → lV h 3 v (gs.map row) → i + m = gs.length → m + 2 ≤ n →
  ∃ h', aN Y9 n 1 (AL.v v (AL.v fv (AL.v v (AL.i (gs.length : Int) (AL.i (i : Int) AL.n))))) h = some (lZ (kT fE gs i (gs.drop i)), h')
 | 0, i, n + 2, h, w, q, hr, him, hn => by
  show ∃ h', PK (aN Y9 (n + 1)) v fv v (gs.length : Int) (i : Int) h = _
  unfold PK
  rw [aQ, aW, aH, if_neg (by simp; omega), List.drop_of_length_le (by omega)]
  exact ⟨h, rfl⟩
 | m + 1, i, n + 1, h, w, q, hr, him, hn => by
  have hi : i < gs.length := by omega
  have hg : (gs.map row)[i]? = some (row gs[i]) := by rw [List.getElem?_map, List.getElem?_eq_getElem hi]; rfl
  obtain ⟨q', hq, haq, hl⟩ := hr.rows.at hg
  show ∃ h', PK (aN Y9 n) v fv v (gs.length : Int) (i : Int) h = _
  unfold PK
  rw [aQ, aW, aH, if_pos (by simp; omega), hq, haq.eX hl]
  obtain ⟨h1, p, g1, a1, hk⟩ := l9 (ρ := Value × Hp) (z := 3) w 59 (c := [(Value.string (ByteArray.mk #[])), (Value.slice none 0 0), (Value.int .i64 (Int.ofNat 0))]) (l := row gs[i]) rfl (hz _) (ho _ (List.getElem_mem hi)) (fun _ _ => none)
  rw [hk]
  have r1 := hr.sub g1.sub
  obtain ⟨v', hv', hp⟩ := r1.pre aE9 PT (i := i) (by simpa using hi)
  rw [hv', aM, a1.eX (z := 3) (hz _)]
  rw [← List.map_take] at hp
  rw [hf h1 v' i hi g1.wf (hQ _ _ g1 q) hp, aB, aI, aR, cK, aH, List.drop_eq_getElem_cons hi]
  unfold kT
  by_cases e0 : fE (gs.take i) (gs[i]) = 0
  ·rw [if_neg (by rw [e0]; simp), if_pos e0, show Int.add (i : Int) (Int.ofNat 1) = ((i + 1 : Nat) : Int) from rfl, wrap64_in _ (by omega) (by omega)]
   exact EW hz ho hlen Q hQ fE hf m (i + 1) n h1 g1.wf (hQ _ _ g1 q) r1 (by omega) (by omega)
  ·rw [if_pos (by simpa using e0), if_neg e0]
   exact ⟨h1, rfl⟩
theorem ZX {α : Type} {row : α → List Value} (hz : ∀ g, (row g).length = 3) {v fv : Value} {gs : List α} (ho : ∀ g ∈ gs, (row g).all oneCell = true) (hlen : gs.length ≤ 900000) (Q : Hp → Prop) (hQ : ∀ h h', aV h h' → Q h → Q h') (fE : List α → α → Int)
  (hf : ∀ (h : Hp) (v' : Value) (i : Nat) (hi : i < gs.length), Wf h → Q h → bI.Rows h 3 v' ((gs.take i).map row) → qP PI fv [v', .agg (Array.mk (row gs[i]))] h = some (.int .i64 (fE (gs.take i) gs[i]), h)) {h : Hp} (w : Wf h) (q : Q h) (hr : lV h 3 v (gs.map row)) :
  ∃ h', aQ1 [v, fv] h = some (lZ (kT fE gs 0 gs), h') := by
 show ∃ h', aCK (aN Y9 999999) v fv h = _
 unfold aCK
 rw [hr.rows.len, List.length_map]
 have := EW hz ho hlen Q hQ fE hf gs.length 0 999999 h w q hr (by omega) (by omega)
 rw [List.drop_zero] at this
 exact this
theorem aHB {α : Type} {row : α → List Value} (hz : ∀ g, (row g).length = 3) {v fv : Value} {gs : List α} {most : Int} (ho : ∀ g ∈ gs, (row g).all oneCell = true) (hm : most ≤ 900000) (Q : Hp → Prop) (hQ : ∀ h h', aV h h' → Q h → Q h') (hQs : ∀ h, Q h → Q (dF h)) (fE : List α → α → Int)
  (hf : ∀ (h : Hp) (v' : Value) (i : Nat) (hi : i < gs.length), gs.length ≤ 900000 → Wf h → Q h → bI.Rows h 3 v' ((gs.take i).map row) → qP PI fv [v', .agg (Array.mk (row gs[i]))] h = some (.int .i64 (fE (gs.take i) gs[i]), h)) {h : Hp} (w : Wf h) (q : Q h) (hr : lV h 3 v (gs.map row)) :
  ∃ h', F83 [v, .int .i64 most, fv] h = some (lZ (iP most fE gs), h') := by
 have start : F83 [v, .int .i64 most, fv] h = aKJ (aN T83 999999) v most fv h := rfl
 rw [start]
 unfold aKJ iP
 rw [hr.rows.len, List.length_map, aQ, aW, aH]
 by_cases c : most < (gs.length : Int)
 ·rw [if_pos (by simpa using c), if_pos c]; exact ⟨_, rfl⟩
 rw [if_neg (by simpa using c), if_neg c]
 obtain ⟨h2, e⟩ := ZX hz ho (by omega) Q hQ fE (fun h v' i hi w q hr => hf h v' i hi (by omega) w q hr) (h := dF h) (fM w) (hQs _ q) hr
 rw [bO e rfl, aB]
 unfold lZ
 rw [bG (v := .int .i64 (kT fE gs 0 gs).1) rfl, aI, bG (v := .int .i64 (kT fE gs 0 gs).2) rfl, aI]
 exact ⟨_, rfl⟩
end Go.Proofs.Ytdpicdnpiihaaaa.K.L
