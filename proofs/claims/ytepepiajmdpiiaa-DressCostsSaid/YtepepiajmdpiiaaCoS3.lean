/- Contracts of told functions: the first thing with an error, lists. -/
import Derived.Test.YtepepiajmdpiiaaCoS2
open Go Go.Eng
set_option maxRecDepth 100000
set_option linter.unusedVariables false
namespace Go.Proofs.Ytepepiajmdpiiaa.K.L
def pairV (x : Int × Int) : Value := .tuple (List.toArray [.int .i64 x.1, .int .i64 x.2])
def listE {α : Type} (most : Int) (fE : List α → α → Int) (gs : List α) : Int × Int := if most < (gs.length : Int) then (0, 3) else firstE fE gs 0 gs
theorem first104_loop {v fv : Value} {gs : List Int} (hlen : gs.length ≤ 900000) (fE : List Int → Int → Int)
    {h : Hp} (hf : ∀ (v' : Value) (i : Nat) (hi : i < gs.length), Eng.Rows h 1 v' ((gs.take i).map inRow) → callF orc2 fv [v', .int .i64 gs[i]] h = some (.int .i64 (fE (gs.take i) gs[i]), h)) (w : Wf h) (hr : SlA h 1 v (gs.map inRow)) : ∀ m i n, i + m = gs.length → m + 2 ≤ n →
    rec' T104 n 1 (AL.v v (AL.v fv (AL.v v (AL.i (gs.length : Int) (AL.i (i : Int) AL.n))))) h = some (pairV (firstE fE gs i (gs.drop i)), h)
  | 0, i, n + 2, him, hn => by
    show P104x1 (rec' T104 (n + 1)) v fv v (gs.length : Int) (i : Int) h = _
    unfold P104x1
    rw [boolZ_eq, ltZ_dec, ifB_if, if_neg (by simp; omega), List.drop_of_length_le (by omega)]
    rfl
  | m + 1, i, n + 1, him, hn => by
    have hi : i < gs.length := by omega
    have hg : (gs.map inRow)[i]? = some (inRow gs[i]) := by rw [List.getElem?_map, List.getElem?_eq_getElem hi]; rfl
    obtain ⟨q, hq, haq, hl⟩ := hr.rows.at hg
    show P104x1 (rec' T104 n) v fv v (gs.length : Int) (i : Int) h = _
    unfold P104x1
    rw [boolZ_eq, ltZ_dec, ifB_if, if_pos (by simp; omega), hq, haq.load1 (x := .int .i64 gs[i]) rfl, intK_int]
    obtain ⟨v', hv', hp⟩ := hr.pre und22 size3 (i := i) (by simpa using hi)
    rw [← List.map_take] at hp
    rw [hv', optK_some', hf v' i hi hp, pairK_some', intK_int, boolN_eq, eqZ_dec, ifB_if, List.drop_eq_getElem_cons hi]
    unfold firstE
    by_cases e0 : fE (gs.take i) (gs[i]) = 0
    · rw [if_neg (by rw [e0]; simp), if_pos e0, show Int.add (i : Int) (Int.ofNat 1) = ((i + 1 : Nat) : Int) from rfl, wrap64_in _ (by omega) (by omega)]
      exact first104_loop hlen fE hf w hr m (i + 1) n (by omega) (by omega)
    · rw [if_pos (by simpa using e0), if_neg e0]
      rfl
theorem first104_at {v fv : Value} {gs : List Int} (hlen : gs.length ≤ 900000) (fE : List Int → Int → Int)
    {h : Hp} (hf : ∀ (v' : Value) (i : Nat) (hi : i < gs.length), Eng.Rows h 1 v' ((gs.take i).map inRow) → callF orc2 fv [v', .int .i64 gs[i]] h = some (.int .i64 (fE (gs.take i) gs[i]), h)) (w : Wf h) (hr : SlA h 1 v (gs.map inRow)) :
    F104 [v, fv] h = some (pairV (firstE fE gs 0 gs), h) := by
  show P104x0 (rec' T104 999999) v fv h = _
  unfold P104x0
  rw [hr.rows.len, List.length_map]
  have := first104_loop hlen fE hf w hr gs.length 0 999999 (by omega) (by omega)
  rw [List.drop_zero] at this
  exact this
theorem list80_at {v fv : Value} {gs : List Int} {most : Int} (hm : most ≤ 900000) (fE : List Int → Int → Int)
    {h : Hp} (hf : ∀ (v' : Value) (i : Nat) (hi : i < gs.length), (gs.length : Int) ≤ most → Eng.Rows h 1 v' ((gs.take i).map inRow) → callF orc2 fv [v', .int .i64 gs[i]] (shutH h) = some (.int .i64 (fE (gs.take i) gs[i]), shutH h)) (w : Wf h) (hr : SlA h 1 v (gs.map inRow)) :
    ∃ h', F80 [v, .int .i64 most, fv] h = some (pairV (listE most fE gs), h') := by
  have start : F80 [v, .int .i64 most, fv] h = P80x0 (rec' T80 999999) v most fv h := rfl
  rw [start]
  unfold P80x0 listE
  rw [hr.rows.len, List.length_map, boolZ_eq, ltZ_dec, ifB_if]
  by_cases c : most < (gs.length : Int)
  · rw [if_pos (by simpa using c), if_pos c]; exact ⟨_, rfl⟩
  rw [if_neg (by simpa using c), if_neg c]
  have e := first104_at (by omega) fE (h := shutH h) (fun v' i hi r => hf v' i hi (by omega) r) (wfShut w) hr
  rw [callQ_plain1 e rfl, pairK_some']
  unfold pairV
  rw [extK_at (v := .int .i64 (firstE fE gs 0 gs).1) rfl, intK_int, extK_at (v := .int .i64 (firstE fE gs 0 gs).2) rfl, intK_int]
  exact ⟨_, rfl⟩
theorem first105_loop {α : Type} {row : α → List Value} (hz : ∀ g, (row g).length = 3) {v fv : Value} {gs : List α} (ho : ∀ g ∈ gs, (row g).all oneCell = true) (hlen : gs.length ≤ 900000) (Q : Hp → Prop) (hQ : ∀ h h', Grew h h' → Q h → Q h') (fE : List α → α → Int)
    (hf : ∀ (h : Hp) (v' : Value) (i : Nat) (hi : i < gs.length), Wf h → Q h → Eng.Rows h 3 v' ((gs.take i).map row) → callF orc12 fv [v', .agg (Array.mk (row gs[i]))] h = some (.int .i64 (fE (gs.take i) gs[i]), h)) : ∀ m i n (h : Hp), Wf h → Q h → SlA h 3 v (gs.map row) → i + m = gs.length → m + 2 ≤ n →
    ∃ h', rec' T105 n 1 (AL.v v (AL.v fv (AL.v v (AL.i (gs.length : Int) (AL.i (i : Int) AL.n))))) h = some (pairV (firstE fE gs i (gs.drop i)), h')
  | 0, i, n + 2, h, w, q, hr, him, hn => by
    show ∃ h', P105x1 (rec' T105 (n + 1)) v fv v (gs.length : Int) (i : Int) h = _
    unfold P105x1
    rw [boolZ_eq, ltZ_dec, ifB_if, if_neg (by simp; omega), List.drop_of_length_le (by omega)]
    exact ⟨h, rfl⟩
  | m + 1, i, n + 1, h, w, q, hr, him, hn => by
    have hi : i < gs.length := by omega
    have hg : (gs.map row)[i]? = some (row gs[i]) := by rw [List.getElem?_map, List.getElem?_eq_getElem hi]; rfl
    obtain ⟨q', hq, haq, hl⟩ := hr.rows.at hg
    show ∃ h', P105x1 (rec' T105 n) v fv v (gs.length : Int) (i : Int) h = _
    unfold P105x1
    rw [boolZ_eq, ltZ_dec, ifB_if, if_pos (by simp; omega), hq, haq.loadN hl]
    obtain ⟨h1, p, g1, a1, hk⟩ := alloc_store (ρ := Value × Hp) (z := 3) w 59 (c := [(Value.string (ByteArray.mk #[])), (Value.slice none 0 0), (Value.int .i64 (Int.ofNat 0))]) (l := row gs[i]) rfl (hz _) (ho _ (List.getElem_mem hi)) (fun _ _ => none)
    rw [hk]
    have r1 := hr.sub g1.sub
    obtain ⟨v', hv', hp⟩ := r1.pre und23 size59 (i := i) (by simpa using hi)
    rw [hv', optK_some', a1.loadN (z := 3) (hz _)]
    rw [← List.map_take] at hp
    rw [hf h1 v' i hi g1.wf (hQ _ _ g1 q) hp, pairK_some', intK_int, boolN_eq, eqZ_dec, ifB_if, List.drop_eq_getElem_cons hi]
    unfold firstE
    by_cases e0 : fE (gs.take i) (gs[i]) = 0
    · rw [if_neg (by rw [e0]; simp), if_pos e0, show Int.add (i : Int) (Int.ofNat 1) = ((i + 1 : Nat) : Int) from rfl, wrap64_in _ (by omega) (by omega)]
      exact first105_loop hz ho hlen Q hQ fE hf m (i + 1) n h1 g1.wf (hQ _ _ g1 q) r1 (by omega) (by omega)
    · rw [if_pos (by simpa using e0), if_neg e0]
      exact ⟨h1, rfl⟩
theorem first105_at {α : Type} {row : α → List Value} (hz : ∀ g, (row g).length = 3) {v fv : Value} {gs : List α} (ho : ∀ g ∈ gs, (row g).all oneCell = true) (hlen : gs.length ≤ 900000) (Q : Hp → Prop) (hQ : ∀ h h', Grew h h' → Q h → Q h') (fE : List α → α → Int)
    (hf : ∀ (h : Hp) (v' : Value) (i : Nat) (hi : i < gs.length), Wf h → Q h → Eng.Rows h 3 v' ((gs.take i).map row) → callF orc12 fv [v', .agg (Array.mk (row gs[i]))] h = some (.int .i64 (fE (gs.take i) gs[i]), h)) {h : Hp} (w : Wf h) (q : Q h) (hr : SlA h 3 v (gs.map row)) :
    ∃ h', F105 [v, fv] h = some (pairV (firstE fE gs 0 gs), h') := by
  show ∃ h', P105x0 (rec' T105 999999) v fv h = _
  unfold P105x0
  rw [hr.rows.len, List.length_map]
  have := first105_loop hz ho hlen Q hQ fE hf gs.length 0 999999 h w q hr (by omega) (by omega)
  rw [List.drop_zero] at this
  exact this
theorem list83_at {α : Type} {row : α → List Value} (hz : ∀ g, (row g).length = 3) {v fv : Value} {gs : List α} {most : Int} (ho : ∀ g ∈ gs, (row g).all oneCell = true) (hm : most ≤ 900000) (Q : Hp → Prop) (hQ : ∀ h h', Grew h h' → Q h → Q h') (hQs : ∀ h, Q h → Q (shutH h)) (fE : List α → α → Int)
    (hf : ∀ (h : Hp) (v' : Value) (i : Nat) (hi : i < gs.length), gs.length ≤ 900000 → Wf h → Q h → Eng.Rows h 3 v' ((gs.take i).map row) → callF orc12 fv [v', .agg (Array.mk (row gs[i]))] h = some (.int .i64 (fE (gs.take i) gs[i]), h)) {h : Hp} (w : Wf h) (q : Q h) (hr : SlA h 3 v (gs.map row)) :
    ∃ h', F83 [v, .int .i64 most, fv] h = some (pairV (listE most fE gs), h') := by
  have start : F83 [v, .int .i64 most, fv] h = P83x0 (rec' T83 999999) v most fv h := rfl
  rw [start]
  unfold P83x0 listE
  rw [hr.rows.len, List.length_map, boolZ_eq, ltZ_dec, ifB_if]
  by_cases c : most < (gs.length : Int)
  · rw [if_pos (by simpa using c), if_pos c]; exact ⟨_, rfl⟩
  rw [if_neg (by simpa using c), if_neg c]
  obtain ⟨h2, e⟩ := first105_at hz ho (by omega) Q hQ fE (fun h v' i hi w q hr => hf h v' i hi (by omega) w q hr) (h := shutH h) (wfShut w) (hQs _ q) hr
  rw [callQ_plain1 e rfl, pairK_some']
  unfold pairV
  rw [extK_at (v := .int .i64 (firstE fE gs 0 gs).1) rfl, intK_int, extK_at (v := .int .i64 (firstE fE gs 0 gs).2) rfl, intK_int]
  exact ⟨_, rfl⟩
end Go.Proofs.Ytepepiajmdpiiaa.K.L
