/- Contracts of told functions: the first thing with an error, lists. -/
import Derived.Test.YtgjdokjoejhepaaGreatDoorTrS2
open Go Go.bP
set_option maxRecDepth 100000
set_option linter.unusedVariables false
namespace Go.Proofs.YtgjdokjoejhepaaGreatDoor.K.L
def EG (x : Int × Int) : Value := .tuple (List.toArray [.int .i64 x.1, .int .i64 x.2])
def kQ {α : Type} (most : Int) (fE : List α → α → Int) (gs : List α) : Int × Int := if most < (gs.length : Int) then (0, 3) else jR fE gs 0 gs
theorem I7 {α : Type} {row : α → List Value} (hz : ∀ g, (row g).length = 4) {v fv : Value} {gs : List α} (ho : ∀ g ∈ gs, (row g).all oneCell = true) (hlen : gs.length ≤ 900000) (Q : Hp → Prop) (hQ : ∀ h h', bE h h' → Q h → Q h') (fE : List α → α → Int)
  (hf : ∀ (h : Hp) (v' : Value) (i : Nat) (hi : i < gs.length), Wf h → Q h → bP.Rows h 4 v' ((gs.take i).map row) → oO BQ fv [v', .agg (Array.mk (row gs[i]))] h = some (.int .i64 (fE (gs.take i) gs[i]), h)) : ∀ m i n (h : Hp), Wf h → Q h → CF h 4 v (gs.map row) → i + m = gs.length → m + 2 ≤ n →
  ∃ h', aP T93 n 1 (AL.v v (AL.v fv (AL.v v (AL.i (gs.length : Int) (AL.i (i : Int) AL.n))))) h = some (EG (jR fE gs i (gs.drop i)), h')
 | 0, i, n + 2, h, w, q, hr, him, hn => by
  show ∃ h', U1 (aP T93 (n + 1)) v fv v (gs.length : Int) (i : Int) h = _
  unfold U1
  rw [aN, bA, aI, if_neg (by simp; omega), List.drop_of_length_le (by omega)]
  exact ⟨h, rfl⟩
 | m + 1, i, n + 1, h, w, q, hr, him, hn => by
  have hi : i < gs.length := by omega
  have hg : (gs.map row)[i]? = some (row gs[i]) := by rw [List.getElem?_map, List.getElem?_eq_getElem hi]; rfl
  obtain ⟨q', hq, haq, hl⟩ := hr.rows.at hg
  show ∃ h', U1 (aP T93 n) v fv v (gs.length : Int) (i : Int) h = _
  unfold U1
  rw [aN, bA, aI, if_pos (by simp; omega), hq, haq.fF hl]
  obtain ⟨h1, p, g1, a1, hk⟩ := MK (ρ := Value × Hp) (z := 4) w 76 (c := [(Value.string (ByteArray.mk #[])), (Value.string (ByteArray.mk #[])), (Value.int .i64 (Int.ofNat 0)), (Value.int .i64 (Int.ofNat 0))]) (l := row gs[i]) rfl (hz _) (ho _ (List.getElem_mem hi)) (fun _ _ => none)
  rw [hk]
  have r1 := hr.sub g1.sub
  obtain ⟨v', hv', hp⟩ := r1.pre bB5 a1S (i := i) (by simpa using hi)
  rw [hv', aM, a1.fF (z := 4) (hz _)]
  rw [← List.map_take] at hp
  rw [hf h1 v' i hi g1.wf (hQ _ _ g1 q) hp, aD, aK, aX, dJ, aI, List.drop_eq_getElem_cons hi]
  unfold jR
  by_cases e0 : fE (gs.take i) (gs[i]) = 0
  ·rw [if_neg (by rw [e0]; simp), if_pos e0, show Int.add (i : Int) (Int.ofNat 1) = ((i + 1 : Nat) : Int) from rfl, wrap64_in _ (by omega) (by omega)]
   exact I7 hz ho hlen Q hQ fE hf m (i + 1) n h1 g1.wf (hQ _ _ g1 q) r1 (by omega) (by omega)
  ·rw [if_pos (by simpa using e0), if_neg e0]
   exact ⟨h1, rfl⟩
theorem aFL {α : Type} {row : α → List Value} (hz : ∀ g, (row g).length = 4) {v fv : Value} {gs : List α} (ho : ∀ g ∈ gs, (row g).all oneCell = true) (hlen : gs.length ≤ 900000) (Q : Hp → Prop) (hQ : ∀ h h', bE h h' → Q h → Q h') (fE : List α → α → Int)
  (hf : ∀ (h : Hp) (v' : Value) (i : Nat) (hi : i < gs.length), Wf h → Q h → bP.Rows h 4 v' ((gs.take i).map row) → oO BQ fv [v', .agg (Array.mk (row gs[i]))] h = some (.int .i64 (fE (gs.take i) gs[i]), h)) {h : Hp} (w : Wf h) (q : Q h) (hr : CF h 4 v (gs.map row)) :
  ∃ h', F93 [v, fv] h = some (EG (jR fE gs 0 gs), h') := by
 show ∃ h', aG4 (aP T93 999999) v fv h = _
 unfold aG4
 rw [hr.rows.len, List.length_map]
 have := I7 hz ho hlen Q hQ fE hf gs.length 0 999999 h w q hr (by omega) (by omega)
 rw [List.drop_zero] at this
 exact this
theorem aLJ {α : Type} {row : α → List Value} (hz : ∀ g, (row g).length = 4) {v fv : Value} {gs : List α} {most : Int} (ho : ∀ g ∈ gs, (row g).all oneCell = true) (hm : most ≤ 900000) (Q : Hp → Prop) (hQ : ∀ h h', bE h h' → Q h → Q h') (hQs : ∀ h, Q h → Q (bK h)) (fE : List α → α → Int)
  (hf : ∀ (h : Hp) (v' : Value) (i : Nat) (hi : i < gs.length), gs.length ≤ 900000 → Wf h → Q h → bP.Rows h 4 v' ((gs.take i).map row) → oO BQ fv [v', .agg (Array.mk (row gs[i]))] h = some (.int .i64 (fE (gs.take i) gs[i]), h)) {h : Hp} (w : Wf h) (q : Q h) (hr : CF h 4 v (gs.map row)) :
  ∃ h', F55 [v, .int .i64 most, fv] h = some (EG (kQ most fE gs), h') := by
 have start : F55 [v, .int .i64 most, fv] h = aG6 (aP T55 999999) v most fv h := rfl
 rw [start]
 unfold aG6 kQ
 rw [hr.rows.len, List.length_map, aN, bA, aI]
 by_cases c : most < (gs.length : Int)
 ·rw [if_pos (by simpa using c), if_pos c]; exact ⟨_, rfl⟩
 rw [if_neg (by simpa using c), if_neg c]
 obtain ⟨h2, e⟩ := aFL hz ho (by omega) Q hQ fE (fun h v' i hi w q hr => hf h v' i hi (by omega) w q hr) (h := bK h) (fZ w) (hQs _ q) hr
 rw [bD e rfl, aD]
 unfold EG
 rw [eP (v := .int .i64 (jR fE gs 0 gs).1) rfl, aK, eP (v := .int .i64 (jR fE gs 0 gs).2) rfl, aK]
 exact ⟨_, rfl⟩
theorem I8 {v fv : Value} {gs : List Int} (hlen : gs.length ≤ 900000) (fE : List Int → Int → Int)
  {h : Hp} (hf : ∀ (v' : Value) (i : Nat) (hi : i < gs.length), bP.Rows h 1 v' ((gs.take i).map dH) → oO BR fv [v', .int .i64 gs[i]] h = some (.int .i64 (fE (gs.take i) gs[i]), h)) (w : Wf h) (hr : CF h 1 v (gs.map dH)) : ∀ m i n, i + m = gs.length → m + 2 ≤ n →
  aP T97 n 1 (AL.v v (AL.v fv (AL.v v (AL.i (gs.length : Int) (AL.i (i : Int) AL.n))))) h = some (EG (jR fE gs i (gs.drop i)), h)
 | 0, i, n + 2, him, hn => by
  show U2 (aP T97 (n + 1)) v fv v (gs.length : Int) (i : Int) h = _
  unfold U2
  rw [aN, bA, aI, if_neg (by simp; omega), List.drop_of_length_le (by omega)]
  rfl
 | m + 1, i, n + 1, him, hn => by
  have hi : i < gs.length := by omega
  have hg : (gs.map dH)[i]? = some (dH gs[i]) := by rw [List.getElem?_map, List.getElem?_eq_getElem hi]; rfl
  obtain ⟨q, hq, haq, hl⟩ := hr.rows.at hg
  show U2 (aP T97 n) v fv v (gs.length : Int) (i : Int) h = _
  unfold U2
  rw [aN, bA, aI, if_pos (by simp; omega), hq, haq.lV (x := .int .i64 gs[i]) rfl, aK]
  obtain ⟨v', hv', hp⟩ := hr.pre aI1 aI2 (i := i) (by simpa using hi)
  rw [← List.map_take] at hp
  rw [hv', aM, hf v' i hi hp, aD, aK, aX, dJ, aI, List.drop_eq_getElem_cons hi]
  unfold jR
  by_cases e0 : fE (gs.take i) (gs[i]) = 0
  ·rw [if_neg (by rw [e0]; simp), if_pos e0, show Int.add (i : Int) (Int.ofNat 1) = ((i + 1 : Nat) : Int) from rfl, wrap64_in _ (by omega) (by omega)]
   exact I8 hlen fE hf w hr m (i + 1) n (by omega) (by omega)
  ·rw [if_pos (by simpa using e0), if_neg e0]
   rfl
theorem aFM {v fv : Value} {gs : List Int} (hlen : gs.length ≤ 900000) (fE : List Int → Int → Int)
  {h : Hp} (hf : ∀ (v' : Value) (i : Nat) (hi : i < gs.length), bP.Rows h 1 v' ((gs.take i).map dH) → oO BR fv [v', .int .i64 gs[i]] h = some (.int .i64 (fE (gs.take i) gs[i]), h)) (w : Wf h) (hr : CF h 1 v (gs.map dH)) :
  F97 [v, fv] h = some (EG (jR fE gs 0 gs), h) := by
 show aG7 (aP T97 999999) v fv h = _
 unfold aG7
 rw [hr.rows.len, List.length_map]
 have := I8 hlen fE hf w hr gs.length 0 999999 (by omega) (by omega)
 rw [List.drop_zero] at this
 exact this
theorem aLK {v fv : Value} {gs : List Int} {most : Int} (hm : most ≤ 900000) (fE : List Int → Int → Int)
  {h : Hp} (hf : ∀ (v' : Value) (i : Nat) (hi : i < gs.length), (gs.length : Int) ≤ most → bP.Rows h 1 v' ((gs.take i).map dH) → oO BR fv [v', .int .i64 gs[i]] (bK h) = some (.int .i64 (fE (gs.take i) gs[i]), bK h)) (w : Wf h) (hr : CF h 1 v (gs.map dH)) :
  ∃ h', F57 [v, .int .i64 most, fv] h = some (EG (kQ most fE gs), h') := by
 have start : F57 [v, .int .i64 most, fv] h = aG9 (aP T57 999999) v most fv h := rfl
 rw [start]
 unfold aG9 kQ
 rw [hr.rows.len, List.length_map, aN, bA, aI]
 by_cases c : most < (gs.length : Int)
 ·rw [if_pos (by simpa using c), if_pos c]; exact ⟨_, rfl⟩
 rw [if_neg (by simpa using c), if_neg c]
 have e := aFM (by omega) fE (h := bK h) (fun v' i hi r => hf v' i hi (by omega) r) (fZ w) hr
 rw [bD e rfl, aD]
 unfold EG
 rw [eP (v := .int .i64 (jR fE gs 0 gs).1) rfl, aK, eP (v := .int .i64 (jR fE gs 0 gs).2) rfl, aK]
 exact ⟨_, rfl⟩
end Go.Proofs.YtgjdokjoejhepaaGreatDoor.K.L
