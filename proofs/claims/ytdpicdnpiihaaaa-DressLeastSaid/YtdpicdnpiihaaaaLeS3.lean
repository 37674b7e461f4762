/- Contracts of told functions: the first thing with an error, lists. -/
import Derived.Test.YtdpicdnpiihaaaaLeS2
open Go Go.bK
set_option maxRecDepth 100000
set_option linter.unusedVariables false
namespace Go.Proofs.Ytdpicdnpiihaaaa.K.L
def lD (x : Int × Int) : Value := .tuple (List.toArray [.int .i64 x.1, .int .i64 x.2])
def jO {α : Type} (most : Int) (fE : List α → α → Int) (gs : List α) : Int × Int := if most < (gs.length : Int) then (0, 3) else lX fE gs 0 gs
theorem EX {v fv : Value} {gs : List Int} (hlen : gs.length ≤ 900000) (fE : List Int → Int → Int)
  {h : Hp} (hf : ∀ (v' : Value) (i : Nat) (hi : i < gs.length), bK.Rows h 1 v' ((gs.take i).map bB) → qQ aCC fv [v', .int .i64 gs[i]] h = some (.int .i64 (fE (gs.take i) gs[i]), h)) (w : Wf h) (hr : jC h 1 v (gs.map bB)) : ∀ m i n, i + m = gs.length → m + 2 ≤ n →
  aI Y9 n 1 (AL.v v (AL.v fv (AL.v v (AL.i (gs.length : Int) (AL.i (i : Int) AL.n))))) h = some (lD (lX fE gs i (gs.drop i)), h)
 | 0, i, n + 2, him, hn => by
  show PE (aI Y9 (n + 1)) v fv v (gs.length : Int) (i : Int) h = _
  unfold PE
  rw [aH, aN, aC, if_neg (by simp; omega), List.drop_of_length_le (by omega)]
  rfl
 | m + 1, i, n + 1, him, hn => by
  have hi : i < gs.length := by omega
  have hg : (gs.map bB)[i]? = some (bB gs[i]) := by rw [List.getElem?_map, List.getElem?_eq_getElem hi]; rfl
  obtain ⟨q, hq, haq, hl⟩ := hr.rows.at hg
  show PE (aI Y9 n) v fv v (gs.length : Int) (i : Int) h = _
  unfold PE
  rw [aH, aN, aC, if_pos (by simp; omega), hq, haq.gL (x := .int .i64 gs[i]) rfl, aG]
  obtain ⟨v', hv', hp⟩ := hr.pre CF zO (i := i) (by simpa using hi)
  rw [← List.map_take] at hp
  rw [hv', aK, hf v' i hi hp, aB, aG, aP, aY, aC, List.drop_eq_getElem_cons hi]
  unfold lX
  by_cases e0 : fE (gs.take i) (gs[i]) = 0
  ·rw [if_neg (by rw [e0]; simp), if_pos e0, show Int.add (i : Int) (Int.ofNat 1) = ((i + 1 : Nat) : Int) from rfl, wrap64_in _ (by omega) (by omega)]
   exact EX hlen fE hf w hr m (i + 1) n (by omega) (by omega)
  ·rw [if_pos (by simpa using e0), if_neg e0]
   rfl
theorem Z6 {v fv : Value} {gs : List Int} (hlen : gs.length ≤ 900000) (fE : List Int → Int → Int)
  {h : Hp} (hf : ∀ (v' : Value) (i : Nat) (hi : i < gs.length), bK.Rows h 1 v' ((gs.take i).map bB) → qQ aCC fv [v', .int .i64 gs[i]] h = some (.int .i64 (fE (gs.take i) gs[i]), h)) (w : Wf h) (hr : jC h 1 v (gs.map bB)) :
  aRJ [v, fv] h = some (lD (lX fE gs 0 gs), h) := by
 show aCD (aI Y9 999999) v fv h = _
 unfold aCD
 rw [hr.rows.len, List.length_map]
 have := EX hlen fE hf w hr gs.length 0 999999 (by omega) (by omega)
 rw [List.drop_zero] at this
 exact this
theorem aHC {v fv : Value} {gs : List Int} {most : Int} (hm : most ≤ 900000) (fE : List Int → Int → Int)
  {h : Hp} (hf : ∀ (v' : Value) (i : Nat) (hi : i < gs.length), (gs.length : Int) ≤ most → bK.Rows h 1 v' ((gs.take i).map bB) → qQ aCC fv [v', .int .i64 gs[i]] (bY h) = some (.int .i64 (fE (gs.take i) gs[i]), bY h)) (w : Wf h) (hr : jC h 1 v (gs.map bB)) :
  ∃ h', F80 [v, .int .i64 most, fv] h = some (lD (jO most fE gs), h') := by
 have start : F80 [v, .int .i64 most, fv] h = aJ7 (aI T80 999999) v most fv h := rfl
 rw [start]
 unfold aJ7 jO
 rw [hr.rows.len, List.length_map, aH, aN, aC]
 by_cases c : most < (gs.length : Int)
 ·rw [if_pos (by simpa using c), if_pos c]; exact ⟨_, rfl⟩
 rw [if_neg (by simpa using c), if_neg c]
 have e := Z6 (by omega) fE (h := bY h) (fun v' i hi r => hf v' i hi (by omega) r) (eF w) hr
 rw [aZ e rfl, aB]
 unfold lD
 rw [bP (v := .int .i64 (lX fE gs 0 gs).1) rfl, aG, bP (v := .int .i64 (lX fE gs 0 gs).2) rfl, aG]
 exact ⟨_, rfl⟩
theorem EY {α : Type} {row : α → List Value} (hz : ∀ g, (row g).length = 3) {v fv : Value} {gs : List α} (ho : ∀ g ∈ gs, (row g).all oneCell = true) (hlen : gs.length ≤ 900000) (Q : Hp → Prop) (hQ : ∀ h h', aR h h' → Q h → Q h') (fE : List α → α → Int)
  (hf : ∀ (h : Hp) (v' : Value) (i : Nat) (hi : i < gs.length), Wf h → Q h → bK.Rows h 3 v' ((gs.take i).map row) → qQ PI fv [v', .agg (Array.mk (row gs[i]))] h = some (.int .i64 (fE (gs.take i) gs[i]), h)) : ∀ m i n (h : Hp), Wf h → Q h → jC h 3 v (gs.map row) → i + m = gs.length → m + 2 ≤ n →
  ∃ h', aI ZC n 1 (AL.v v (AL.v fv (AL.v v (AL.i (gs.length : Int) (AL.i (i : Int) AL.n))))) h = some (lD (lX fE gs i (gs.drop i)), h')
 | 0, i, n + 2, h, w, q, hr, him, hn => by
  show ∃ h', PK (aI ZC (n + 1)) v fv v (gs.length : Int) (i : Int) h = _
  unfold PK
  rw [aH, aN, aC, if_neg (by simp; omega), List.drop_of_length_le (by omega)]
  exact ⟨h, rfl⟩
 | m + 1, i, n + 1, h, w, q, hr, him, hn => by
  have hi : i < gs.length := by omega
  have hg : (gs.map row)[i]? = some (row gs[i]) := by rw [List.getElem?_map, List.getElem?_eq_getElem hi]; rfl
  obtain ⟨q', hq, haq, hl⟩ := hr.rows.at hg
  show ∃ h', PK (aI ZC n) v fv v (gs.length : Int) (i : Int) h = _
  unfold PK
  rw [aH, aN, aC, if_pos (by simp; omega), hq, haq.dL hl]
  obtain ⟨h1, p, g1, a1, hk⟩ := lS (ρ := Value × Hp) (z := 3) w 59 (c := [(Value.string (ByteArray.mk #[])), (Value.slice none 0 0), (Value.int .i64 (Int.ofNat 0))]) (l := row gs[i]) rfl (hz _) (ho _ (List.getElem_mem hi)) (fun _ _ => none)
  rw [hk]
  have r1 := hr.sub g1.sub
  obtain ⟨v', hv', hp⟩ := r1.pre a6B aOJ (i := i) (by simpa using hi)
  rw [hv', aK, a1.dL (z := 3) (hz _)]
  rw [← List.map_take] at hp
  rw [hf h1 v' i hi g1.wf (hQ _ _ g1 q) hp, aB, aG, aP, aY, aC, List.drop_eq_getElem_cons hi]
  unfold lX
  by_cases e0 : fE (gs.take i) (gs[i]) = 0
  ·rw [if_neg (by rw [e0]; simp), if_pos e0, show Int.add (i : Int) (Int.ofNat 1) = ((i + 1 : Nat) : Int) from rfl, wrap64_in _ (by omega) (by omega)]
   exact EY hz ho hlen Q hQ fE hf m (i + 1) n h1 g1.wf (hQ _ _ g1 q) r1 (by omega) (by omega)
  ·rw [if_pos (by simpa using e0), if_neg e0]
   exact ⟨h1, rfl⟩
theorem Z7 {α : Type} {row : α → List Value} (hz : ∀ g, (row g).length = 3) {v fv : Value} {gs : List α} (ho : ∀ g ∈ gs, (row g).all oneCell = true) (hlen : gs.length ≤ 900000) (Q : Hp → Prop) (hQ : ∀ h h', aR h h' → Q h → Q h') (fE : List α → α → Int)
  (hf : ∀ (h : Hp) (v' : Value) (i : Nat) (hi : i < gs.length), Wf h → Q h → bK.Rows h 3 v' ((gs.take i).map row) → qQ PI fv [v', .agg (Array.mk (row gs[i]))] h = some (.int .i64 (fE (gs.take i) gs[i]), h)) {h : Hp} (w : Wf h) (q : Q h) (hr : jC h 3 v (gs.map row)) :
  ∃ h', aRM [v, fv] h = some (lD (lX fE gs 0 gs), h') := by
 show ∃ h', aCH (aI ZC 999999) v fv h = _
 unfold aCH
 rw [hr.rows.len, List.length_map]
 have := EY hz ho hlen Q hQ fE hf gs.length 0 999999 h w q hr (by omega) (by omega)
 rw [List.drop_zero] at this
 exact this
theorem aHD {α : Type} {row : α → List Value} (hz : ∀ g, (row g).length = 3) {v fv : Value} {gs : List α} {most : Int} (ho : ∀ g ∈ gs, (row g).all oneCell = true) (hm : most ≤ 900000) (Q : Hp → Prop) (hQ : ∀ h h', aR h h' → Q h → Q h') (hQs : ∀ h, Q h → Q (bY h)) (fE : List α → α → Int)
  (hf : ∀ (h : Hp) (v' : Value) (i : Nat) (hi : i < gs.length), gs.length ≤ 900000 → Wf h → Q h → bK.Rows h 3 v' ((gs.take i).map row) → qQ PI fv [v', .agg (Array.mk (row gs[i]))] h = some (.int .i64 (fE (gs.take i) gs[i]), h)) {h : Hp} (w : Wf h) (q : Q h) (hr : jC h 3 v (gs.map row)) :
  ∃ h', F83 [v, .int .i64 most, fv] h = some (lD (jO most fE gs), h') := by
 have start : F83 [v, .int .i64 most, fv] h = aKL (aI T83 999999) v most fv h := rfl
 rw [start]
 unfold aKL jO
 rw [hr.rows.len, List.length_map, aH, aN, aC]
 by_cases c : most < (gs.length : Int)
 ·rw [if_pos (by simpa using c), if_pos c]; exact ⟨_, rfl⟩
 rw [if_neg (by simpa using c), if_neg c]
 obtain ⟨h2, e⟩ := Z7 hz ho (by omega) Q hQ fE (fun h v' i hi w q hr => hf h v' i hi (by omega) w q hr) (h := bY h) (eF w) (hQs _ q) hr
 rw [aZ e rfl, aB]
 unfold lD
 rw [bP (v := .int .i64 (lX fE gs 0 gs).1) rfl, aG, bP (v := .int .i64 (lX fE gs 0 gs).2) rfl, aG]
 exact ⟨_, rfl⟩
end Go.Proofs.Ytdpicdnpiihaaaa.K.L
