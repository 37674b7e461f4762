/- Contracts of told functions: the first thing with an error, lists. -/
import Derived.Test.YtgomkbcokgeciaaGreatScS2
open Go Go.bR
set_option maxRecDepth 100000
set_option linter.unusedVariables false
namespace Go.Proofs.YtgomkbcokgeciaaGreat.K.L
def lH (x : Int × Int) : Value := .tuple (List.toArray [.int .i64 x.1, .int .i64 x.2])
def gY {α : Type} (most : Int) (fE : List α → α → Int) (gs : List α) : Int × Int := if most < (gs.length : Int) then (0, 3) else gJ fE gs 0 gs
theorem EU {α : Type} {row : α → List Value} (hz : ∀ g, (row g).length = 3) {v fv : Value} {gs : List α} (ho : ∀ g ∈ gs, (row g).all oneCell = true) (hlen : gs.length ≤ 900000) (Q : Hp → Prop) (hQ : ∀ h h', dW h h' → Q h → Q h') (fE : List α → α → Int)
  (hf : ∀ (h : Hp) (v' : Value) (i : Nat) (hi : i < gs.length), Wf h → Q h → bR.Rows h 3 v' ((gs.take i).map row) → qM EW fv [v', .agg (Array.mk (row gs[i]))] h = some (.int .i64 (fE (gs.take i) gs[i]), h)) : ∀ m i n (h : Hp), Wf h → Q h → uP h 3 v (gs.map row) → i + m = gs.length → m + 2 ≤ n →
  ∃ h', aQ aC5 n 1 (AL.v v (AL.v fv (AL.v v (AL.i (gs.length : Int) (AL.i (i : Int) AL.n))))) h = some (lH (gJ fE gs i (gs.drop i)), h')
 | 0, i, n + 2, h, w, q, hr, him, hn => by
  show ∃ h', KX (aQ aC5 (n + 1)) v fv v (gs.length : Int) (i : Int) h = _
  unfold KX
  rw [aS, aZ, aI, if_neg (by simp; omega), List.drop_of_length_le (by omega)]
  exact ⟨h, rfl⟩
 | m + 1, i, n + 1, h, w, q, hr, him, hn => by
  have hi : i < gs.length := by omega
  have hg : (gs.map row)[i]? = some (row gs[i]) := by rw [List.getElem?_map, List.getElem?_eq_getElem hi]; rfl
  obtain ⟨q', hq, haq, hl⟩ := hr.rows.at hg
  show ∃ h', KX (aQ aC5 n) v fv v (gs.length : Int) (i : Int) h = _
  unfold KX
  rw [aS, aZ, aI, if_pos (by simp; omega), hq, haq.gG hl]
  obtain ⟨h1, p, g1, a1, hk⟩ := vT (ρ := Value × Hp) (z := 3) w 87 (c := [(Value.string (ByteArray.mk #[])), (Value.int .i64 (Int.ofNat 0)), (Value.int .i64 (Int.ofNat 0))]) (l := row gs[i]) rfl (hz _) (ho _ (List.getElem_mem hi)) (fun _ _ => none)
  rw [hk]
  have r1 := hr.sub g1.sub
  obtain ⟨v', hv', hp⟩ := r1.pre bEE a6N (i := i) (by simpa using hi)
  rw [hv', aM, a1.gG (z := 3) (hz _)]
  rw [← List.map_take] at hp
  rw [hf h1 v' i hi g1.wf (hQ _ _ g1 q) hp, aC, aJ, aO, dX, aI, List.drop_eq_getElem_cons hi]
  unfold gJ
  by_cases e0 : fE (gs.take i) (gs[i]) = 0
  ·rw [if_neg (by rw [e0]; simp), if_pos e0, show Int.add (i : Int) (Int.ofNat 1) = ((i + 1 : Nat) : Int) from rfl, wrap64_in _ (by omega) (by omega)]
   exact EU hz ho hlen Q hQ fE hf m (i + 1) n h1 g1.wf (hQ _ _ g1 q) r1 (by omega) (by omega)
  ·rw [if_pos (by simpa using e0), if_neg e0]
   exact ⟨h1, rfl⟩
theorem aC6 {α : Type} {row : α → List Value} (hz : ∀ g, (row g).length = 3) {v fv : Value} {gs : List α} (ho : ∀ g ∈ gs, (row g).all oneCell = true) (hlen : gs.length ≤ 900000) (Q : Hp → Prop) (hQ : ∀ h h', dW h h' → Q h → Q h') (fE : List α → α → Int)
  (hf : ∀ (h : Hp) (v' : Value) (i : Nat) (hi : i < gs.length), Wf h → Q h → bR.Rows h 3 v' ((gs.take i).map row) → qM EW fv [v', .agg (Array.mk (row gs[i]))] h = some (.int .i64 (fE (gs.take i) gs[i]), h)) {h : Hp} (w : Wf h) (q : Q h) (hr : uP h 3 v (gs.map row)) :
  ∃ h', aYG [v, fv] h = some (lH (gJ fE gs 0 gs), h') := by
 show ∃ h', YJ (aQ aC5 999999) v fv h = _
 unfold YJ
 rw [hr.rows.len, List.length_map]
 have := EU hz ho hlen Q hQ fE hf gs.length 0 999999 h w q hr (by omega) (by omega)
 rw [List.drop_zero] at this
 exact this
theorem aNX {α : Type} {row : α → List Value} (hz : ∀ g, (row g).length = 3) {v fv : Value} {gs : List α} {most : Int} (ho : ∀ g ∈ gs, (row g).all oneCell = true) (hm : most ≤ 900000) (Q : Hp → Prop) (hQ : ∀ h h', dW h h' → Q h → Q h') (hQs : ∀ h, Q h → Q (eT h)) (fE : List α → α → Int)
  (hf : ∀ (h : Hp) (v' : Value) (i : Nat) (hi : i < gs.length), gs.length ≤ 900000 → Wf h → Q h → bR.Rows h 3 v' ((gs.take i).map row) → qM EW fv [v', .agg (Array.mk (row gs[i]))] h = some (.int .i64 (fE (gs.take i) gs[i]), h)) {h : Hp} (w : Wf h) (q : Q h) (hr : uP h 3 v (gs.map row)) :
  ∃ h', F54 [v, .int .i64 most, fv] h = some (lH (gY most fE gs), h') := by
 have start : F54 [v, .int .i64 most, fv] h = aJA (aQ T54 999999) v most fv h := rfl
 rw [start]
 unfold aJA gY
 rw [hr.rows.len, List.length_map, aS, aZ, aI]
 by_cases c : most < (gs.length : Int)
 ·rw [if_pos (by simpa using c), if_pos c]; exact ⟨_, rfl⟩
 rw [if_neg (by simpa using c), if_neg c]
 obtain ⟨h2, e⟩ := aC6 hz ho (by omega) Q hQ fE (fun h v' i hi w q hr => hf h v' i hi (by omega) w q hr) (h := eT h) (jG w) (hQs _ q) hr
 rw [bF e rfl, aC]
 unfold lH
 rw [dQ (v := .int .i64 (gJ fE gs 0 gs).1) rfl, aJ, dQ (v := .int .i64 (gJ fE gs 0 gs).2) rfl, aJ]
 exact ⟨_, rfl⟩
theorem EX {α : Type} {row : α → List Value} (hz : ∀ g, (row g).length = 2) {v fv : Value} {gs : List α} (ho : ∀ g ∈ gs, (row g).all oneCell = true) (hlen : gs.length ≤ 900000) (Q : Hp → Prop) (hQ : ∀ h h', dW h h' → Q h → Q h') (fE : List α → α → Int)
  (hf : ∀ (h : Hp) (v' : Value) (i : Nat) (hi : i < gs.length), Wf h → Q h → bR.Rows h 2 v' ((gs.take i).map row) → qM EY fv [v', .agg (Array.mk (row gs[i]))] h = some (.int .i64 (fE (gs.take i) gs[i]), h)) : ∀ m i n (h : Hp), Wf h → Q h → uP h 2 v (gs.map row) → i + m = gs.length → m + 2 ≤ n →
  ∃ h', aQ aC7 n 1 (AL.v v (AL.v fv (AL.v v (AL.i (gs.length : Int) (AL.i (i : Int) AL.n))))) h = some (lH (gJ fE gs i (gs.drop i)), h')
 | 0, i, n + 2, h, w, q, hr, him, hn => by
  show ∃ h', KY (aQ aC7 (n + 1)) v fv v (gs.length : Int) (i : Int) h = _
  unfold KY
  rw [aS, aZ, aI, if_neg (by simp; omega), List.drop_of_length_le (by omega)]
  exact ⟨h, rfl⟩
 | m + 1, i, n + 1, h, w, q, hr, him, hn => by
  have hi : i < gs.length := by omega
  have hg : (gs.map row)[i]? = some (row gs[i]) := by rw [List.getElem?_map, List.getElem?_eq_getElem hi]; rfl
  obtain ⟨q', hq, haq, hl⟩ := hr.rows.at hg
  show ∃ h', KY (aQ aC7 n) v fv v (gs.length : Int) (i : Int) h = _
  unfold KY
  rw [aS, aZ, aI, if_pos (by simp; omega), hq, haq.gG hl]
  obtain ⟨h1, p, g1, a1, hk⟩ := vT (ρ := Value × Hp) (z := 2) w 151 (c := [(Value.string (ByteArray.mk #[])), (Value.int .i64 (Int.ofNat 0))]) (l := row gs[i]) rfl (hz _) (ho _ (List.getElem_mem hi)) (fun _ _ => none)
  rw [hk]
  have r1 := hr.sub g1.sub
  obtain ⟨v', hv', hp⟩ := r1.pre bEF aYF (i := i) (by simpa using hi)
  rw [hv', aM, a1.gG (z := 2) (hz _)]
  rw [← List.map_take] at hp
  rw [hf h1 v' i hi g1.wf (hQ _ _ g1 q) hp, aC, aJ, aO, dX, aI, List.drop_eq_getElem_cons hi]
  unfold gJ
  by_cases e0 : fE (gs.take i) (gs[i]) = 0
  ·rw [if_neg (by rw [e0]; simp), if_pos e0, show Int.add (i : Int) (Int.ofNat 1) = ((i + 1 : Nat) : Int) from rfl, wrap64_in _ (by omega) (by omega)]
   exact EX hz ho hlen Q hQ fE hf m (i + 1) n h1 g1.wf (hQ _ _ g1 q) r1 (by omega) (by omega)
  ·rw [if_pos (by simpa using e0), if_neg e0]
   exact ⟨h1, rfl⟩
theorem aC8 {α : Type} {row : α → List Value} (hz : ∀ g, (row g).length = 2) {v fv : Value} {gs : List α} (ho : ∀ g ∈ gs, (row g).all oneCell = true) (hlen : gs.length ≤ 900000) (Q : Hp → Prop) (hQ : ∀ h h', dW h h' → Q h → Q h') (fE : List α → α → Int)
  (hf : ∀ (h : Hp) (v' : Value) (i : Nat) (hi : i < gs.length), Wf h → Q h → bR.Rows h 2 v' ((gs.take i).map row) → qM EY fv [v', .agg (Array.mk (row gs[i]))] h = some (.int .i64 (fE (gs.take i) gs[i]), h)) {h : Hp} (w : Wf h) (q : Q h) (hr : uP h 2 v (gs.map row)) :
  ∃ h', aYH [v, fv] h = some (lH (gJ fE gs 0 gs), h') := by
 show ∃ h', YK (aQ aC7 999999) v fv h = _
 unfold YK
 rw [hr.rows.len, List.length_map]
 have := EX hz ho hlen Q hQ fE hf gs.length 0 999999 h w q hr (by omega) (by omega)
 rw [List.drop_zero] at this
 exact this
theorem aG1 {α : Type} {row : α → List Value} (hz : ∀ g, (row g).length = 2) {v fv : Value} {gs : List α} {most : Int} (ho : ∀ g ∈ gs, (row g).all oneCell = true) (hm : most ≤ 900000) (Q : Hp → Prop) (hQ : ∀ h h', dW h h' → Q h → Q h') (hQs : ∀ h, Q h → Q (eT h)) (fE : List α → α → Int)
  (hf : ∀ (h : Hp) (v' : Value) (i : Nat) (hi : i < gs.length), gs.length ≤ 900000 → Wf h → Q h → bR.Rows h 2 v' ((gs.take i).map row) → qM EY fv [v', .agg (Array.mk (row gs[i]))] h = some (.int .i64 (fE (gs.take i) gs[i]), h)) {h : Hp} (w : Wf h) (q : Q h) (hr : uP h 2 v (gs.map row)) :
  ∃ h', aNY [v, .int .i64 most, fv] h = some (lH (gY most fE gs), h') := by
 have start : aNY [v, .int .i64 most, fv] h = YL (aQ aQZ 999999) v most fv h := rfl
 rw [start]
 unfold YL gY
 rw [hr.rows.len, List.length_map, aS, aZ, aI]
 by_cases c : most < (gs.length : Int)
 ·rw [if_pos (by simpa using c), if_pos c]; exact ⟨_, rfl⟩
 rw [if_neg (by simpa using c), if_neg c]
 obtain ⟨h2, e⟩ := aC8 hz ho (by omega) Q hQ fE (fun h v' i hi w q hr => hf h v' i hi (by omega) w q hr) (h := eT h) (jG w) (hQs _ q) hr
 rw [bF e rfl, aC]
 unfold lH
 rw [dQ (v := .int .i64 (gJ fE gs 0 gs).1) rfl, aJ, dQ (v := .int .i64 (gJ fE gs 0 gs).2) rfl, aJ]
 exact ⟨_, rfl⟩
theorem EZ {α : Type} {row : α → List Value} (hz : ∀ g, (row g).length = 5) {v fv : Value} {gs : List α} (ho : ∀ g ∈ gs, (row g).all oneCell = true) (hlen : gs.length ≤ 900000) (Q : Hp → Prop) (hQ : ∀ h h', dW h h' → Q h → Q h') (fE : List α → α → Int)
  (hf : ∀ (h : Hp) (v' : Value) (i : Nat) (hi : i < gs.length), Wf h → Q h → bR.Rows h 5 v' ((gs.take i).map row) → qM E5 fv [v', .agg (Array.mk (row gs[i]))] h = some (.int .i64 (fE (gs.take i) gs[i]), h)) : ∀ m i n (h : Hp), Wf h → Q h → uP h 5 v (gs.map row) → i + m = gs.length → m + 2 ≤ n →
  ∃ h', aQ aC9 n 1 (AL.v v (AL.v fv (AL.v v (AL.i (gs.length : Int) (AL.i (i : Int) AL.n))))) h = some (lH (gJ fE gs i (gs.drop i)), h')
 | 0, i, n + 2, h, w, q, hr, him, hn => by
  show ∃ h', KZ (aQ aC9 (n + 1)) v fv v (gs.length : Int) (i : Int) h = _
  unfold KZ
  rw [aS, aZ, aI, if_neg (by simp; omega), List.drop_of_length_le (by omega)]
  exact ⟨h, rfl⟩
 | m + 1, i, n + 1, h, w, q, hr, him, hn => by
  have hi : i < gs.length := by omega
  have hg : (gs.map row)[i]? = some (row gs[i]) := by rw [List.getElem?_map, List.getElem?_eq_getElem hi]; rfl
  obtain ⟨q', hq, haq, hl⟩ := hr.rows.at hg
  show ∃ h', KZ (aQ aC9 n) v fv v (gs.length : Int) (i : Int) h = _
  unfold KZ
  rw [aS, aZ, aI, if_pos (by simp; omega), hq, haq.gG hl]
  obtain ⟨h1, p, g1, a1, hk⟩ := vT (ρ := Value × Hp) (z := 5) w 67 (c := [(Value.slice none 0 0), (Value.int .i64 (Int.ofNat 0)), (Value.int .i64 (Int.ofNat 0)), (Value.slice none 0 0), (Value.int .i64 (Int.ofNat 0))]) (l := row gs[i]) rfl (hz _) (ho _ (List.getElem_mem hi)) (fun _ _ => none)
  rw [hk]
  have r1 := hr.sub g1.sub
  obtain ⟨v', hv', hp⟩ := r1.pre bEG a6O (i := i) (by simpa using hi)
  rw [hv', aM, a1.gG (z := 5) (hz _)]
  rw [← List.map_take] at hp
  rw [hf h1 v' i hi g1.wf (hQ _ _ g1 q) hp, aC, aJ, aO, dX, aI, List.drop_eq_getElem_cons hi]
  unfold gJ
  by_cases e0 : fE (gs.take i) (gs[i]) = 0
  ·rw [if_neg (by rw [e0]; simp), if_pos e0, show Int.add (i : Int) (Int.ofNat 1) = ((i + 1 : Nat) : Int) from rfl, wrap64_in _ (by omega) (by omega)]
   exact EZ hz ho hlen Q hQ fE hf m (i + 1) n h1 g1.wf (hQ _ _ g1 q) r1 (by omega) (by omega)
  ·rw [if_pos (by simpa using e0), if_neg e0]
   exact ⟨h1, rfl⟩
theorem aDA {α : Type} {row : α → List Value} (hz : ∀ g, (row g).length = 5) {v fv : Value} {gs : List α} (ho : ∀ g ∈ gs, (row g).all oneCell = true) (hlen : gs.length ≤ 900000) (Q : Hp → Prop) (hQ : ∀ h h', dW h h' → Q h → Q h') (fE : List α → α → Int)
  (hf : ∀ (h : Hp) (v' : Value) (i : Nat) (hi : i < gs.length), Wf h → Q h → bR.Rows h 5 v' ((gs.take i).map row) → qM E5 fv [v', .agg (Array.mk (row gs[i]))] h = some (.int .i64 (fE (gs.take i) gs[i]), h)) {h : Hp} (w : Wf h) (q : Q h) (hr : uP h 5 v (gs.map row)) :
  ∃ h', aYI [v, fv] h = some (lH (gJ fE gs 0 gs), h') := by
 show ∃ h', YM (aQ aC9 999999) v fv h = _
 unfold YM
 rw [hr.rows.len, List.length_map]
 have := EZ hz ho hlen Q hQ fE hf gs.length 0 999999 h w q hr (by omega) (by omega)
 rw [List.drop_zero] at this
 exact this
theorem aNZ {α : Type} {row : α → List Value} (hz : ∀ g, (row g).length = 5) {v fv : Value} {gs : List α} {most : Int} (ho : ∀ g ∈ gs, (row g).all oneCell = true) (hm : most ≤ 900000) (Q : Hp → Prop) (hQ : ∀ h h', dW h h' → Q h → Q h') (hQs : ∀ h, Q h → Q (eT h)) (fE : List α → α → Int)
  (hf : ∀ (h : Hp) (v' : Value) (i : Nat) (hi : i < gs.length), gs.length ≤ 900000 → Wf h → Q h → bR.Rows h 5 v' ((gs.take i).map row) → qM E5 fv [v', .agg (Array.mk (row gs[i]))] h = some (.int .i64 (fE (gs.take i) gs[i]), h)) {h : Hp} (w : Wf h) (q : Q h) (hr : uP h 5 v (gs.map row)) :
  ∃ h', F56 [v, .int .i64 most, fv] h = some (lH (gY most fE gs), h') := by
 have start : F56 [v, .int .i64 most, fv] h = aJB (aQ T56 999999) v most fv h := rfl
 rw [start]
 unfold aJB gY
 rw [hr.rows.len, List.length_map, aS, aZ, aI]
 by_cases c : most < (gs.length : Int)
 ·rw [if_pos (by simpa using c), if_pos c]; exact ⟨_, rfl⟩
 rw [if_neg (by simpa using c), if_neg c]
 obtain ⟨h2, e⟩ := aDA hz ho (by omega) Q hQ fE (fun h v' i hi w q hr => hf h v' i hi (by omega) w q hr) (h := eT h) (jG w) (hQs _ q) hr
 rw [bF e rfl, aC]
 unfold lH
 rw [dQ (v := .int .i64 (gJ fE gs 0 gs).1) rfl, aJ, dQ (v := .int .i64 (gJ fE gs 0 gs).2) rfl, aJ]
 exact ⟨_, rfl⟩
end Go.Proofs.YtgomkbcokgeciaaGreat.K.L
