/- Contracts of told functions: spans, the first thing with an error. -/
import Derived.Test.YtekocllllbdbgaaFtQ2
open Go Go.Eng
set_option maxRecDepth 100000
set_option linter.unusedVariables false
namespace Go.Proofs.Ytekocllllbdbgaa.K.L
def spanE (lo hi : Int) (s : Sp) : Int := if !(inB lo hi s.lo && inB lo hi s.hi) then 7 else if s.hi < s.lo then 2 else 0
theorem span86_at {h : Hp} (w : Wf h) (v : Value) {lo hi : Int} {a b : Value} (ha : At h a [.int .i64 lo]) (hb : At h b [.int .i64 hi]) (g : Sp) : ∃ h', F86 [v, .agg (Array.mk g.row), a, b] h = some (.int .i64 (spanE lo hi g), h') := by
  have start : F86 [v, .agg (Array.mk g.row), a, b] h = P86x0 (rec' T86 999999) v (.agg (Array.mk g.row)) a b h := rfl
  rw [start]
  unfold P86x0
  rw [rowCells, allocK_add]
  have w1 : Wf (h.add (.cells g.row 23 none)) := w.add _
  have a1 : At (h.add (.cells g.row 23 none)) (.pointer (some ⟨h.next, 0, none⟩)) g.row := At.new
  replace ha := atAdd w ha (.cells g.row 23 none)
  replace hb := atAdd w hb (.cells g.row 23 none)
  generalize h.add (.cells g.row 23 none) = h1 at w1 a1 ha hb ⊢
  generalize Value.pointer (some ⟨h.next, 0, none⟩) = p at a1 ⊢
  have a2 := atAdd w1 a1 (.cells [.int .i64 g.lo, .int .i64 g.hi] 3 none)
  rw [ha.load1 (x := .int .i64 lo) rfl, intK_int, hb.load1 (x := .int .i64 hi) rfl, intK_int, a1.fld 0 (x := .int .i64 g.lo) rfl, intK_int, a1.fld 1 (x := .int .i64 g.hi) rfl, intK_int, two24, pairK_some', within2, optK_some', pairK_some', boolK_bool, boolN_eq, ifB_if]
  generalize h1.add (.cells [.int .i64 g.lo, .int .i64 g.hi] 3 none) = h2 at a2 ⊢
  unfold spanE
  cases hx : (inB lo hi g.lo && inB lo hi g.hi) with
  | false => rw [if_pos (by rfl), if_pos (by rfl)]; exact ⟨_, rfl⟩
  | true =>
  rw [if_neg (by simp), if_neg (by simp), a2.fld 0 (x := .int .i64 g.lo) rfl, intK_int, a2.fld 1 (x := .int .i64 g.hi) rfl, intK_int, boolZ_eq, ltZ_dec, ifB_if]
  by_cases hd : g.hi < g.lo
  · rw [if_pos (by simpa using hd), if_pos hd]; exact ⟨_, rfl⟩
  · rw [if_neg (by simpa using hd), if_neg hd]; exact ⟨_, rfl⟩
def pairV (x : Int × Int) : Value := .tuple (List.toArray [.int .i64 x.1, .int .i64 x.2])
theorem first85_loop {α : Type} {row : α → List Value} (hz : ∀ g, (row g).length = 2) {v fv : Value} {gs : List α} (ho : ∀ g ∈ gs, (row g).all oneCell = true) (hlen : gs.length ≤ 900000) (Q : Hp → Prop) (hQ : ∀ h h', Grew h h' → Q h → Q h') (fE : List α → α → Int)
    (hf : ∀ (h : Hp) (v' : Value) (i : Nat) (hi : i < gs.length), Wf h → Q h → Eng.Rows h 2 v' ((gs.take i).map row) → callF orc12 fv [v', .agg (Array.mk (row gs[i]))] h = some (.int .i64 (fE (gs.take i) gs[i]), h)) : ∀ m i n (h : Hp), Wf h → Q h → SlA h 2 v (gs.map row) → i + m = gs.length → m + 2 ≤ n →
    ∃ h', rec' T85 n 1 (AL.v v (AL.v fv (AL.v v (AL.i (gs.length : Int) (AL.i (i : Int) AL.n))))) h = some (pairV (firstE fE gs i (gs.drop i)), h')
  | 0, i, n + 2, h, w, q, hr, him, hn => by
    show ∃ h', P85x1 (rec' T85 (n + 1)) v fv v (gs.length : Int) (i : Int) h = _
    unfold P85x1
    rw [boolZ_eq, ltZ_dec, ifB_if, if_neg (by simp; omega), List.drop_of_length_le (by omega)]
    exact ⟨h, rfl⟩
  | m + 1, i, n + 1, h, w, q, hr, him, hn => by
    have hi : i < gs.length := by omega
    have hg : (gs.map row)[i]? = some (row gs[i]) := by rw [List.getElem?_map, List.getElem?_eq_getElem hi]; rfl
    obtain ⟨q', hq, haq, hl⟩ := hr.rows.at hg
    show ∃ h', P85x1 (rec' T85 n) v fv v (gs.length : Int) (i : Int) h = _
    unfold P85x1
    rw [boolZ_eq, ltZ_dec, ifB_if, if_pos (by simp; omega), hq, haq.loadN hl]
    obtain ⟨h1, p, g1, a1, hk⟩ := alloc_store (ρ := Value × Hp) (z := 2) w 23 (c := [(Value.int .i64 (Int.ofNat 0)), (Value.int .i64 (Int.ofNat 0))]) (l := row gs[i]) rfl (hz _) (ho _ (List.getElem_mem hi)) (fun _ _ => none)
    rw [hk]
    have r1 := hr.sub g1.sub
    obtain ⟨v', hv', hp⟩ := r1.pre und78 size23 (i := i) (by simpa using hi)
    rw [hv', optK_some', a1.loadN (z := 2) (hz _)]
    rw [← List.map_take] at hp
    rw [hf h1 v' i hi g1.wf (hQ _ _ g1 q) hp, pairK_some', intK_int, boolN_eq, eqZ_dec, ifB_if, List.drop_eq_getElem_cons hi]
    unfold firstE
    by_cases e0 : fE (gs.take i) (gs[i]) = 0
    · rw [if_neg (by rw [e0]; simp), if_pos e0, show Int.add (i : Int) (Int.ofNat 1) = ((i + 1 : Nat) : Int) from rfl, wrap64_in _ (by omega) (by omega)]
      exact first85_loop hz ho hlen Q hQ fE hf m (i + 1) n h1 g1.wf (hQ _ _ g1 q) r1 (by omega) (by omega)
    · rw [if_pos (by simpa using e0), if_neg e0]
      exact ⟨h1, rfl⟩
theorem first85_at {α : Type} {row : α → List Value} (hz : ∀ g, (row g).length = 2) {v fv : Value} {gs : List α} (ho : ∀ g ∈ gs, (row g).all oneCell = true) (hlen : gs.length ≤ 900000) (Q : Hp → Prop) (hQ : ∀ h h', Grew h h' → Q h → Q h') (fE : List α → α → Int)
    (hf : ∀ (h : Hp) (v' : Value) (i : Nat) (hi : i < gs.length), Wf h → Q h → Eng.Rows h 2 v' ((gs.take i).map row) → callF orc12 fv [v', .agg (Array.mk (row gs[i]))] h = some (.int .i64 (fE (gs.take i) gs[i]), h)) {h : Hp} (w : Wf h) (q : Q h) (hr : SlA h 2 v (gs.map row)) :
    ∃ h', F85 [v, fv] h = some (pairV (firstE fE gs 0 gs), h') := by
  show ∃ h', P85x0 (rec' T85 999999) v fv h = _
  unfold P85x0
  rw [hr.rows.len, List.length_map]
  have := first85_loop hz ho hlen Q hQ fE hf gs.length 0 999999 h w q hr (by omega) (by omega)
  rw [List.drop_zero] at this
  exact this
theorem first88_loop {α : Type} {row : α → List Value} (hz : ∀ g, (row g).length = 4) {v fv : Value} {gs : List α} (ho : ∀ g ∈ gs, (row g).all oneCell = true) (hlen : gs.length ≤ 900000) (Q : Hp → Prop) (hQ : ∀ h h', Grew h h' → Q h → Q h') (fE : List α → α → Int)
    (hf : ∀ (h : Hp) (v' : Value) (i : Nat) (hi : i < gs.length), Wf h → Q h → Eng.Rows h 4 v' ((gs.take i).map row) → callF orc25 fv [v', .agg (Array.mk (row gs[i]))] h = some (.int .i64 (fE (gs.take i) gs[i]), h)) : ∀ m i n (h : Hp), Wf h → Q h → SlA h 4 v (gs.map row) → i + m = gs.length → m + 2 ≤ n →
    ∃ h', rec' T88 n 1 (AL.v v (AL.v fv (AL.v v (AL.i (gs.length : Int) (AL.i (i : Int) AL.n))))) h = some (pairV (firstE fE gs i (gs.drop i)), h')
  | 0, i, n + 2, h, w, q, hr, him, hn => by
    show ∃ h', P88x1 (rec' T88 (n + 1)) v fv v (gs.length : Int) (i : Int) h = _
    unfold P88x1
    rw [boolZ_eq, ltZ_dec, ifB_if, if_neg (by simp; omega), List.drop_of_length_le (by omega)]
    exact ⟨h, rfl⟩
  | m + 1, i, n + 1, h, w, q, hr, him, hn => by
    have hi : i < gs.length := by omega
    have hg : (gs.map row)[i]? = some (row gs[i]) := by rw [List.getElem?_map, List.getElem?_eq_getElem hi]; rfl
    obtain ⟨q', hq, haq, hl⟩ := hr.rows.at hg
    show ∃ h', P88x1 (rec' T88 n) v fv v (gs.length : Int) (i : Int) h = _
    unfold P88x1
    rw [boolZ_eq, ltZ_dec, ifB_if, if_pos (by simp; omega), hq, haq.loadN hl]
    obtain ⟨h1, p, g1, a1, hk⟩ := alloc_store (ρ := Value × Hp) (z := 4) w 80 (c := [(Value.string (ByteArray.mk #[])), (Value.bool false), (Value.slice none 0 0), (Value.int .i64 (Int.ofNat 0))]) (l := row gs[i]) rfl (hz _) (ho _ (List.getElem_mem hi)) (fun _ _ => none)
    rw [hk]
    have r1 := hr.sub g1.sub
    obtain ⟨v', hv', hp⟩ := r1.pre und25 size80 (i := i) (by simpa using hi)
    rw [hv', optK_some', a1.loadN (z := 4) (hz _)]
    rw [← List.map_take] at hp
    rw [hf h1 v' i hi g1.wf (hQ _ _ g1 q) hp, pairK_some', intK_int, boolN_eq, eqZ_dec, ifB_if, List.drop_eq_getElem_cons hi]
    unfold firstE
    by_cases e0 : fE (gs.take i) (gs[i]) = 0
    · rw [if_neg (by rw [e0]; simp), if_pos e0, show Int.add (i : Int) (Int.ofNat 1) = ((i + 1 : Nat) : Int) from rfl, wrap64_in _ (by omega) (by omega)]
      exact first88_loop hz ho hlen Q hQ fE hf m (i + 1) n h1 g1.wf (hQ _ _ g1 q) r1 (by omega) (by omega)
    · rw [if_pos (by simpa using e0), if_neg e0]
      exact ⟨h1, rfl⟩
theorem first88_at {α : Type} {row : α → List Value} (hz : ∀ g, (row g).length = 4) {v fv : Value} {gs : List α} (ho : ∀ g ∈ gs, (row g).all oneCell = true) (hlen : gs.length ≤ 900000) (Q : Hp → Prop) (hQ : ∀ h h', Grew h h' → Q h → Q h') (fE : List α → α → Int)
    (hf : ∀ (h : Hp) (v' : Value) (i : Nat) (hi : i < gs.length), Wf h → Q h → Eng.Rows h 4 v' ((gs.take i).map row) → callF orc25 fv [v', .agg (Array.mk (row gs[i]))] h = some (.int .i64 (fE (gs.take i) gs[i]), h)) {h : Hp} (w : Wf h) (q : Q h) (hr : SlA h 4 v (gs.map row)) :
    ∃ h', F88 [v, fv] h = some (pairV (firstE fE gs 0 gs), h') := by
  show ∃ h', P88x0 (rec' T88 999999) v fv h = _
  unfold P88x0
  rw [hr.rows.len, List.length_map]
  have := first88_loop hz ho hlen Q hQ fE hf gs.length 0 999999 h w q hr (by omega) (by omega)
  rw [List.drop_zero] at this
  exact this
theorem first92_loop {α : Type} {row : α → List Value} (hz : ∀ g, (row g).length = 6) {v fv : Value} {gs : List α} (ho : ∀ g ∈ gs, (row g).all oneCell = true) (hlen : gs.length ≤ 900000) (Q : Hp → Prop) (hQ : ∀ h h', Grew h h' → Q h → Q h') (fE : List α → α → Int)
    (hf : ∀ (h : Hp) (v' : Value) (i : Nat) (hi : i < gs.length), Wf h → Q h → Eng.Rows h 6 v' ((gs.take i).map row) → callF orc27 fv [v', .agg (Array.mk (row gs[i]))] h = some (.int .i64 (fE (gs.take i) gs[i]), h)) : ∀ m i n (h : Hp), Wf h → Q h → SlA h 6 v (gs.map row) → i + m = gs.length → m + 2 ≤ n →
    ∃ h', rec' T92 n 1 (AL.v v (AL.v fv (AL.v v (AL.i (gs.length : Int) (AL.i (i : Int) AL.n))))) h = some (pairV (firstE fE gs i (gs.drop i)), h')
  | 0, i, n + 2, h, w, q, hr, him, hn => by
    show ∃ h', P92x1 (rec' T92 (n + 1)) v fv v (gs.length : Int) (i : Int) h = _
    unfold P92x1
    rw [boolZ_eq, ltZ_dec, ifB_if, if_neg (by simp; omega), List.drop_of_length_le (by omega)]
    exact ⟨h, rfl⟩
  | m + 1, i, n + 1, h, w, q, hr, him, hn => by
    have hi : i < gs.length := by omega
    have hg : (gs.map row)[i]? = some (row gs[i]) := by rw [List.getElem?_map, List.getElem?_eq_getElem hi]; rfl
    obtain ⟨q', hq, haq, hl⟩ := hr.rows.at hg
    show ∃ h', P92x1 (rec' T92 n) v fv v (gs.length : Int) (i : Int) h = _
    unfold P92x1
    rw [boolZ_eq, ltZ_dec, ifB_if, if_pos (by simp; omega), hq, haq.loadN hl]
    obtain ⟨h1, p, g1, a1, hk⟩ := alloc_store (ρ := Value × Hp) (z := 6) w 56 (c := [(Value.string (ByteArray.mk #[])), (Value.int .i64 (Int.ofNat 0)), (Value.int .i64 (Int.ofNat 0)), (Value.int .i64 (Int.ofNat 0)), (Value.int .i64 (Int.ofNat 0)), (Value.int .i64 (Int.ofNat 0))]) (l := row gs[i]) rfl (hz _) (ho _ (List.getElem_mem hi)) (fun _ _ => none)
    rw [hk]
    have r1 := hr.sub g1.sub
    obtain ⟨v', hv', hp⟩ := r1.pre und26 size56 (i := i) (by simpa using hi)
    rw [hv', optK_some', a1.loadN (z := 6) (hz _)]
    rw [← List.map_take] at hp
    rw [hf h1 v' i hi g1.wf (hQ _ _ g1 q) hp, pairK_some', intK_int, boolN_eq, eqZ_dec, ifB_if, List.drop_eq_getElem_cons hi]
    unfold firstE
    by_cases e0 : fE (gs.take i) (gs[i]) = 0
    · rw [if_neg (by rw [e0]; simp), if_pos e0, show Int.add (i : Int) (Int.ofNat 1) = ((i + 1 : Nat) : Int) from rfl, wrap64_in _ (by omega) (by omega)]
      exact first92_loop hz ho hlen Q hQ fE hf m (i + 1) n h1 g1.wf (hQ _ _ g1 q) r1 (by omega) (by omega)
    · rw [if_pos (by simpa using e0), if_neg e0]
      exact ⟨h1, rfl⟩
theorem first92_at {α : Type} {row : α → List Value} (hz : ∀ g, (row g).length = 6) {v fv : Value} {gs : List α} (ho : ∀ g ∈ gs, (row g).all oneCell = true) (hlen : gs.length ≤ 900000) (Q : Hp → Prop) (hQ : ∀ h h', Grew h h' → Q h → Q h') (fE : List α → α → Int)
    (hf : ∀ (h : Hp) (v' : Value) (i : Nat) (hi : i < gs.length), Wf h → Q h → Eng.Rows h 6 v' ((gs.take i).map row) → callF orc27 fv [v', .agg (Array.mk (row gs[i]))] h = some (.int .i64 (fE (gs.take i) gs[i]), h)) {h : Hp} (w : Wf h) (q : Q h) (hr : SlA h 6 v (gs.map row)) :
    ∃ h', F92 [v, fv] h = some (pairV (firstE fE gs 0 gs), h') := by
  show ∃ h', P92x0 (rec' T92 999999) v fv h = _
  unfold P92x0
  rw [hr.rows.len, List.length_map]
  have := first92_loop hz ho hlen Q hQ fE hf gs.length 0 999999 h w q hr (by omega) (by omega)
  rw [List.drop_zero] at this
  exact this
theorem first87_loop {v fv : Value} {gs : List Int} (hlen : gs.length ≤ 900000) (fE : List Int → Int → Int)
    (hf : ∀ (h : Hp) (v' : Value) (i : Nat) (hi : i < gs.length), Wf h → callF orc23 fv [v', .int .i64 gs[i]] h = some (.int .i64 (fE (gs.take i) gs[i]), h)) {h : Hp} (w : Wf h) (hr : SlA h 1 v (gs.map inRow)) : ∀ m i n, i + m = gs.length → m + 2 ≤ n →
    rec' T87 n 1 (AL.v v (AL.v fv (AL.v v (AL.i (gs.length : Int) (AL.i (i : Int) AL.n))))) h = some (pairV (firstE fE gs i (gs.drop i)), h)
  | 0, i, n + 2, him, hn => by
    show P87x1 (rec' T87 (n + 1)) v fv v (gs.length : Int) (i : Int) h = _
    unfold P87x1
    rw [boolZ_eq, ltZ_dec, ifB_if, if_neg (by simp; omega), List.drop_of_length_le (by omega)]
    rfl
  | m + 1, i, n + 1, him, hn => by
    have hi : i < gs.length := by omega
    have hg : (gs.map inRow)[i]? = some (inRow gs[i]) := by rw [List.getElem?_map, List.getElem?_eq_getElem hi]; rfl
    obtain ⟨q, hq, haq, hl⟩ := hr.rows.at hg
    show P87x1 (rec' T87 n) v fv v (gs.length : Int) (i : Int) h = _
    unfold P87x1
    rw [boolZ_eq, ltZ_dec, ifB_if, if_pos (by simp; omega), hq, haq.load1 (x := .int .i64 gs[i]) rfl, intK_int]
    obtain ⟨v', hv', hp⟩ := hr.pre und24 size3 (i := i) (by simpa using hi)
    rw [hv', optK_some', hf h v' i hi w, pairK_some', intK_int, boolN_eq, eqZ_dec, ifB_if, List.drop_eq_getElem_cons hi]
    unfold firstE
    by_cases e0 : fE (gs.take i) (gs[i]) = 0
    · rw [if_neg (by rw [e0]; simp), if_pos e0, show Int.add (i : Int) (Int.ofNat 1) = ((i + 1 : Nat) : Int) from rfl, wrap64_in _ (by omega) (by omega)]
      exact first87_loop hlen fE hf w hr m (i + 1) n (by omega) (by omega)
    · rw [if_pos (by simpa using e0), if_neg e0]
      rfl
theorem first87_at {v fv : Value} {gs : List Int} (hlen : gs.length ≤ 900000) (fE : List Int → Int → Int)
    (hf : ∀ (h : Hp) (v' : Value) (i : Nat) (hi : i < gs.length), Wf h → callF orc23 fv [v', .int .i64 gs[i]] h = some (.int .i64 (fE (gs.take i) gs[i]), h)) {h : Hp} (w : Wf h) (hr : SlA h 1 v (gs.map inRow)) :
    F87 [v, fv] h = some (pairV (firstE fE gs 0 gs), h) := by
  show P87x0 (rec' T87 999999) v fv h = _
  unfold P87x0
  rw [hr.rows.len, List.length_map]
  have := first87_loop hlen fE hf w hr gs.length 0 999999 (by omega) (by omega)
  rw [List.drop_zero] at this
  exact this
def listE {α : Type} (most : Int) (fE : List α → α → Int) (gs : List α) : Int × Int := if most < (gs.length : Int) then (0, 3) else firstE fE gs 0 gs
theorem list47_at {α : Type} {row : α → List Value} (hz : ∀ g, (row g).length = 4) {v fv : Value} {gs : List α} {most : Int} (ho : ∀ g ∈ gs, (row g).all oneCell = true) (hm : most ≤ 900000) (Q : Hp → Prop) (hQ : ∀ h h', Grew h h' → Q h → Q h') (hQs : ∀ h, Q h → Q (shutH h)) (fE : List α → α → Int)
    (hf : ∀ (h : Hp) (v' : Value) (i : Nat) (hi : i < gs.length), gs.length ≤ 900000 → Wf h → Q h → Eng.Rows h 4 v' ((gs.take i).map row) → callF orc25 fv [v', .agg (Array.mk (row gs[i]))] h = some (.int .i64 (fE (gs.take i) gs[i]), h)) {h : Hp} (w : Wf h) (q : Q h) (hr : SlA h 4 v (gs.map row)) :
    ∃ h', F47 [v, .int .i64 most, fv] h = some (pairV (listE most fE gs), h') := by
  have start : F47 [v, .int .i64 most, fv] h = P47x0 (rec' T47 999999) v most fv h := rfl
  rw [start]
  unfold P47x0 listE
  rw [hr.rows.len, List.length_map, boolZ_eq, ltZ_dec, ifB_if]
  by_cases c : most < (gs.length : Int)
  · rw [if_pos (by simpa using c), if_pos c]; exact ⟨_, rfl⟩
  rw [if_neg (by simpa using c), if_neg c]
  obtain ⟨h2, e⟩ := first88_at hz ho (by omega) Q hQ fE (fun h v' i hi w q hr => hf h v' i hi (by omega) w q hr) (h := shutH h) (wfShut w) (hQs _ q) hr
  rw [callQ_plain1 e rfl, pairK_some']
  unfold pairV
  rw [extK_at (v := .int .i64 (firstE fE gs 0 gs).1) rfl, intK_int, extK_at (v := .int .i64 (firstE fE gs 0 gs).2) rfl, intK_int]
  exact ⟨_, rfl⟩
theorem list50_at {α : Type} {row : α → List Value} (hz : ∀ g, (row g).length = 6) {v fv : Value} {gs : List α} {most : Int} (ho : ∀ g ∈ gs, (row g).all oneCell = true) (hm : most ≤ 900000) (Q : Hp → Prop) (hQ : ∀ h h', Grew h h' → Q h → Q h') (hQs : ∀ h, Q h → Q (shutH h)) (fE : List α → α → Int)
    (hf : ∀ (h : Hp) (v' : Value) (i : Nat) (hi : i < gs.length), gs.length ≤ 900000 → Wf h → Q h → Eng.Rows h 6 v' ((gs.take i).map row) → callF orc27 fv [v', .agg (Array.mk (row gs[i]))] h = some (.int .i64 (fE (gs.take i) gs[i]), h)) {h : Hp} (w : Wf h) (q : Q h) (hr : SlA h 6 v (gs.map row)) :
    ∃ h', F50 [v, .int .i64 most, fv] h = some (pairV (listE most fE gs), h') := by
  have start : F50 [v, .int .i64 most, fv] h = P50x0 (rec' T50 999999) v most fv h := rfl
  rw [start]
  unfold P50x0 listE
  rw [hr.rows.len, List.length_map, boolZ_eq, ltZ_dec, ifB_if]
  by_cases c : most < (gs.length : Int)
  · rw [if_pos (by simpa using c), if_pos c]; exact ⟨_, rfl⟩
  rw [if_neg (by simpa using c), if_neg c]
  obtain ⟨h2, e⟩ := first92_at hz ho (by omega) Q hQ fE (fun h v' i hi w q hr => hf h v' i hi (by omega) w q hr) (h := shutH h) (wfShut w) (hQs _ q) hr
  rw [callQ_plain1 e rfl, pairK_some']
  unfold pairV
  rw [extK_at (v := .int .i64 (firstE fE gs 0 gs).1) rfl, intK_int, extK_at (v := .int .i64 (firstE fE gs 0 gs).2) rfl, intK_int]
  exact ⟨_, rfl⟩
theorem list45_at {v fv : Value} {gs : List Int} {most : Int} (hm : most ≤ 900000) (fE : List Int → Int → Int)
    (hf : ∀ (h : Hp) (v' : Value) (i : Nat) (hi : i < gs.length), gs.length ≤ 900000 → Wf h → callF orc23 fv [v', .int .i64 gs[i]] h = some (.int .i64 (fE (gs.take i) gs[i]), h)) {h : Hp} (w : Wf h) (hr : SlA h 1 v (gs.map inRow)) :
    ∃ h', F45 [v, .int .i64 most, fv] h = some (pairV (listE most fE gs), h') := by
  have start : F45 [v, .int .i64 most, fv] h = P45x0 (rec' T45 999999) v most fv h := rfl
  rw [start]
  unfold P45x0 listE
  rw [hr.rows.len, List.length_map, boolZ_eq, ltZ_dec, ifB_if]
  by_cases c : most < (gs.length : Int)
  · rw [if_pos (by simpa using c), if_pos c]; exact ⟨_, rfl⟩
  rw [if_neg (by simpa using c), if_neg c]
  have e := first87_at (by omega) fE (fun h v' i hi w => hf h v' i hi (by omega) w) (h := shutH h) (wfShut w) hr
  rw [callQ_plain1 e rfl, pairK_some']
  unfold pairV
  rw [extK_at (v := .int .i64 (firstE fE gs 0 gs).1) rfl, intK_int, extK_at (v := .int .i64 (firstE fE gs 0 gs).2) rfl, intK_int]
  exact ⟨_, rfl⟩
end Go.Proofs.Ytekocllllbdbgaa.K.L
