/- Contracts of told functions: figures, incomes. -/
import Derived.Test.YtaegcofpbihmhaaS4
open Go Go.Eng
set_option maxRecDepth 100000
set_option linter.unusedVariables false
namespace Go.Proofs.Ytaegcofpbihmhaa.K.L
structure Fg where
  nm : ByteArray
  day : Int
  til : Int
  needs : Int
def Fg.row (g : Fg) : List Value := [.string g.nm, .int .i64 g.day, .int .i64 g.til, .int .i64 g.needs]
structure Ic where
  day : Int
  pence : Int
def Ic.row (g : Ic) : List Value := [.int .i64 g.day, .int .i64 g.pence]
theorem closure70 {h : Hp} {p : Value} {x : Fg} (a : At h p x.row) (g : Fg) : F70 [.agg (Array.mk g.row), p] h = some (.bool (sameNm g.nm x.nm)) := by
  show plainO (P70x0 h (G.rec' (T70 h) 999999) (.agg (Array.mk g.row)) p) = _
  unfold P70x0
  try unfold ki
  rw [show Array.toList (Value.cells (.agg (Array.mk g.row))) = g.row from rfl, forceL_eq, nthR_get _ _ 0 (.string g.nm) rfl, a.fld 0 (x := .string x.nm) rfl, eql_string, optK_some', boolK_bool]
  rfl
theorem index94_loop {h : Hp} {v p : Value} {x : Fg} {gs : List Fg} (hr : Eng.Rows h 4 v (gs.map Fg.row)) (ha : At h p x.row) (hlen : gs.length ≤ 900000) : ∀ m i n, i + m = gs.length → m + 2 ≤ n →
    rec' T94 n 1 (AL.v v (AL.v (.func (.func 70) #[] #[p]) (AL.i (gs.length : Int) (AL.i (i : Int) AL.n)))) h = some (.int .i64 (idxFrom (fun g => sameNm g.nm x.nm) i (gs.drop i)), h)
  | 0, i, n + 2, him, hn => by
    show P94x1 (rec' T94 (n + 1)) v (.func (.func 70) #[] #[p]) (gs.length : Int) (i : Int) h = _
    unfold P94x1
    try unfold ki
    rw [boolZ_eq, ltZ_dec, ifB_if, if_neg (by simp; omega), List.drop_of_length_le (by omega)]
    rfl
  | m + 1, i, n + 1, him, hn => by
    have hi : i < gs.length := by omega
    have hg : (gs.map Fg.row)[i]? = some (gs[i]).row := by rw [List.getElem?_map, List.getElem?_eq_getElem hi]; rfl
    obtain ⟨q, hq, haq, hl⟩ := hr.at hg
    show P94x1 (rec' T94 n) v (.func (.func 70) #[] #[p]) (gs.length : Int) (i : Int) h = _
    unfold P94x1
    try unfold ki
    rw [boolZ_eq, ltZ_dec, ifB_if, if_pos (by simp; omega), hq, haq.loadN hl]
    rw [show callF orc11 (.func (.func 70) #[] #[p]) [.agg (Array.mk (gs[i]).row)] h = optK (F70 [.agg (Array.mk (gs[i]).row), p] h) (fun v => some (v, h)) from rfl]
    rw [closure70 ha, optK_some', pairK_some', boolK_bool, ifB_if, List.drop_eq_getElem_cons hi]
    unfold idxFrom
    cases hs : sameNm (gs[i]).nm x.nm with
    | true => rfl
    | false =>
      simp only [Bool.false_eq_true, if_false]
      rw [show Int.add (i : Int) (Int.ofNat 1) = ((i + 1 : Nat) : Int) from rfl, wrap64_in _ (by omega) (by omega)]
      exact index94_loop hr ha hlen m (i + 1) n (by omega) (by omega)
theorem index94_at {h : Hp} {v p : Value} {x : Fg} {gs : List Fg} (hr : Eng.Rows h 4 v (gs.map Fg.row)) (ha : At h p x.row) (hlen : gs.length ≤ 900000) :
    F94 [v, .func (.func 70) #[] #[p]] h = some (.int .i64 (idxFrom (fun g => sameNm g.nm x.nm) 0 gs), h) := by
  show P94x0 (rec' T94 999999) v (.func (.func 70) #[] #[p]) h = _
  unfold P94x0
  try unfold ki
  rw [hr.len, List.length_map]
  have := index94_loop hr ha hlen gs.length 0 999999 (by omega) (by omega)
  rw [List.drop_zero] at this
  exact this
theorem contains69_at {h : Hp} {v p : Value} {x : Fg} {gs : List Fg} (hr : Eng.Rows h 4 v (gs.map Fg.row)) (ha : At h p x.row) (hlen : gs.length ≤ 900000) :
    F69 [v, .func (.func 70) #[] #[p]] h = some (.bool (gs.any fun g => sameNm g.nm x.nm), h) := by
  show P69x0 (rec' T69 999999) v (.func (.func 70) #[] #[p]) h = _
  unfold P69x0
  try unfold ki
  rw [callQ_plain1 (index94_at (h := shutH h) hr ha hlen) rfl, pairK_some', intK_int, boolN_eq, ltZ_dec, show (Int.ofNat 0) = (0 : Int) from rfl, idxFrom_neg, Bool.not_not]
def figE (prev : List Fg) (g : Fg) : Int :=
  if !(nameB g.nm.data.toList) then 6 else if prev.any (fun x => sameNm x.nm g.nm) then 5 else if !(inB 0 364 g.day && inB 0 364 g.til) then 7 else if !(inB 0 15 g.needs) then 7 else if g.til < g.day then 2 else 0
theorem fig32_at {h : Hp} (w : Wf h) {v : Value} {prev : List Fg} (hr : Eng.Rows h 4 v (prev.map Fg.row)) (hlen : prev.length ≤ 900000) (g : Fg) : ∃ h', F32 [v, .agg (Array.mk g.row)] h = some (.int .i64 (figE prev g), h') := by
  have start : F32 [v, .agg (Array.mk g.row)] h = P32x0 (rec' T32 999999) v (.agg (Array.mk g.row)) h := rfl
  rw [start]
  unfold P32x0
  try unfold ki
  rw [rowCells, allocK_add]
  have w1 : Wf (h.add (.cells g.row 63 none)) := w.add _
  have a1 : At (h.add (.cells g.row 63 none)) (.pointer (some ⟨h.next, 0, none⟩)) g.row := At.new
  have r1 := hr.sub (Grew.add w (.cells g.row 63 none)).sub
  generalize h.add (.cells g.row 63 none) = h1 at w1 a1 r1 ⊢
  generalize Value.pointer (some ⟨h.next, 0, none⟩) = p at a1 ⊢
  rw [a1.fld 0 (x := .string g.nm) rfl, callQ_plain (fun h => name_at g.nm (shutH h)) rfl, pairK_some', boolK_bool, boolN_eq, ifB_if]
  unfold figE
  cases hn : nameB g.nm.data.toList with
  | false => rw [if_pos (by rfl), if_pos (by rfl)]; exact ⟨_, rfl⟩
  | true =>
  rw [if_neg (by simp), if_neg (by simp), show (Value.func (.func 70) (List.toArray []) (List.toArray [p])) = .func (.func 70) #[] #[p] from rfl, callQ_plain1 (contains69_at (h := shutH h1) r1 a1 hlen) rfl, pairK_some', boolK_bool, ifB_if]
  cases hc : prev.any (fun x => sameNm x.nm g.nm) with
  | true => rw [if_pos (by rfl), if_pos (by rfl)]; exact ⟨_, rfl⟩
  | false =>
  have a2 := atAdd w1 a1 (.cells [.int .i64 g.day, .int .i64 g.til] 3 none)
  have w2 := w1.add (.cells [.int .i64 g.day, .int .i64 g.til] 3 none)
  rw [if_neg (by simp), if_neg (by simp), a1.fld 1 (x := .int .i64 g.day) rfl, intK_int, a1.fld 2 (x := .int .i64 g.til) rfl, intK_int, two34, pairK_some', show (Int.ofNat 0) = (0 : Int) from rfl, show (Int.ofNat 364) = (364 : Int) from rfl, within2, optK_some', pairK_some', boolK_bool, boolN_eq, ifB_if]
  generalize h1.add (.cells [.int .i64 g.day, .int .i64 g.til] 3 none) = h2 at a2 w2 ⊢
  have stepS : ∀ (q : Value) (b : Bool) (h : Hp), rec' T32 999999 1 (AL.v q (AL.b b AL.n)) h = P32x1 (rec' T32 999998) q b h := fun q b h => rfl
  have lastS : ∀ (h : Hp), rec' T32 999998 2 AL.n h = some ((Value.int .i64 (Int.ofNat 0)), h) := fun h => rfl
  cases hl : (inB 0 364 g.day && inB 0 364 g.til) with
  | false =>
    rw [if_pos (by rfl), if_pos (by rfl), stepS]
    unfold P32x1
    try unfold ki
    exact ⟨_, rfl⟩
  | true =>
  have a3 := atAdd w2 a2 (.cells [.int .i64 g.needs] 3 none)
  rw [if_neg (by simp), if_neg (by simp), a2.fld 3 (x := .int .i64 g.needs) rfl, intK_int, one34, pairK_some', show (Int.ofNat 15) = (15 : Int) from rfl, within1, optK_some', pairK_some', boolK_bool, boolN_eq, stepS]
  generalize h2.add (.cells [.int .i64 g.needs] 3 none) = h3 at a3 ⊢
  unfold P32x1
  try unfold ki
  rw [ifB_if]
  cases hx : inB 0 15 g.needs with
  | false => rw [if_pos (by rfl), if_pos (by rfl)]; exact ⟨_, rfl⟩
  | true =>
  rw [if_neg (by simp), if_neg (by simp), a3.fld 1 (x := .int .i64 g.day) rfl, intK_int, a3.fld 2 (x := .int .i64 g.til) rfl, intK_int, boolZ_eq, ltZ_dec, ifB_if, lastS]
  by_cases hd : g.til < g.day
  · rw [if_pos (by simpa using hd), if_pos hd]; exact ⟨_, rfl⟩
  · rw [if_neg (by simpa using hd), if_neg hd]; exact ⟨_, rfl⟩
theorem first31_loop {v : Value} {gs : List Fg} (hlen : gs.length ≤ 900000) : ∀ m i n (h : Hp), Wf h → SlA h 4 v (gs.map Fg.row) → i + m = gs.length → m + 2 ≤ n →
    ∃ h', rec' T31 n 1 (AL.v v (AL.v (.func (.func 32) #[] #[]) (AL.v v (AL.i (gs.length : Int) (AL.i (i : Int) AL.n))))) h = some (.tuple (List.toArray [.int .i64 (firstE figE gs i (gs.drop i)).1, .int .i64 (firstE figE gs i (gs.drop i)).2]), h')
  | 0, i, n + 2, h, w, hr, him, hn => by
    show ∃ h', P31x1 (rec' T31 (n + 1)) v (.func (.func 32) #[] #[]) v (gs.length : Int) (i : Int) h = _
    unfold P31x1
    try unfold ki
    rw [boolZ_eq, ltZ_dec, ifB_if, if_neg (by simp; omega), List.drop_of_length_le (by omega)]
    exact ⟨h, rfl⟩
  | m + 1, i, n + 1, h, w, hr, him, hn => by
    have hi : i < gs.length := by omega
    have hg : (gs.map Fg.row)[i]? = some (gs[i]).row := by rw [List.getElem?_map, List.getElem?_eq_getElem hi]; rfl
    obtain ⟨q, hq, haq, hl⟩ := hr.rows.at hg
    show ∃ h', P31x1 (rec' T31 n) v (.func (.func 32) #[] #[]) v (gs.length : Int) (i : Int) h = _
    unfold P31x1
    try unfold ki
    rw [boolZ_eq, ltZ_dec, ifB_if, if_pos (by simp; omega), hq, haq.loadN hl]
    obtain ⟨h1, p, g1, a1, hk⟩ := alloc_store (ρ := Value × Hp) (z := 4) w 63 (c := [(Value.string (ByteArray.mk #[])), (Value.int .i64 (Int.ofNat 0)), (Value.int .i64 (Int.ofNat 0)), (Value.int .i64 (Int.ofNat 0))]) (l := (gs[i]).row) rfl rfl rfl (fun _ _ => none)
    rw [hk]
    have r1 := hr.sub g1.sub
    obtain ⟨v', hv', hp⟩ := r1.pre und23 size63 (i := i) (by simpa using hi)
    rw [hv', optK_some', a1.loadN (z := 4) rfl]
    rw [← List.map_take] at hp
    obtain ⟨h2, he⟩ := fig32_at (h := shutH h1) (wfShut g1.wf) (v := v') (prev := gs.take i) hp (by rw [List.length_take]; omega) (gs[i])
    rw [show callF orc16 (.func (.func 32) #[] #[]) [v', .agg (Array.mk (gs[i]).row)] h1 = callQ F32 [v', .agg (Array.mk (gs[i]).row)] h1 from rfl, callQ_plain1 he rfl, pairK_some', intK_int, boolN_eq, eqZ_dec, ifB_if, List.drop_eq_getElem_cons hi]
    unfold firstE
    by_cases e0 : figE (gs.take i) (gs[i]) = 0
    · rw [if_neg (by rw [e0]; simp), if_pos e0, show Int.add (i : Int) (Int.ofNat 1) = ((i + 1 : Nat) : Int) from rfl, wrap64_in _ (by omega) (by omega)]
      exact first31_loop hlen m (i + 1) n h1 g1.wf r1 (by omega) (by omega)
    · rw [if_pos (by simpa using e0), if_neg e0]
      exact ⟨h1, rfl⟩
theorem first31_at {v : Value} {gs : List Fg} (hlen : gs.length ≤ 900000) {h : Hp} (w : Wf h) (hr : SlA h 4 v (gs.map Fg.row)) :
    ∃ h', F31 [v, .func (.func 32) #[] #[]] h = some (.tuple (List.toArray [.int .i64 (firstE figE gs 0 gs).1, .int .i64 (firstE figE gs 0 gs).2]), h') := by
  show ∃ h', P31x0 (rec' T31 999999) v (.func (.func 32) #[] #[]) h = _
  unfold P31x0
  try unfold ki
  rw [hr.rows.len, List.length_map]
  exact first31_loop hlen gs.length 0 999999 h w hr (by omega) (by omega)
def incE (prev : List Ic) (g : Ic) : Int := if !(inB 0 364 g.day) then 7 else if !(inB 0 10000 g.pence) then 7 else 0
theorem inc35_at {h : Hp} (w : Wf h) (v : Value) {prev : List Ic} (g : Ic) : ∃ h', F35 [v, .agg (Array.mk g.row)] h = some (.int .i64 (incE prev g), h') := by
  have start : F35 [v, .agg (Array.mk g.row)] h = P35x0 (rec' T35 999999) v (.agg (Array.mk g.row)) h := rfl
  rw [start]
  unfold P35x0
  try unfold ki
  rw [rowCells, allocK_add]
  have w1 : Wf (h.add (.cells g.row 57 none)) := w.add _
  have a1 : At (h.add (.cells g.row 57 none)) (.pointer (some ⟨h.next, 0, none⟩)) g.row := At.new
  generalize h.add (.cells g.row 57 none) = h1 at w1 a1 ⊢
  generalize Value.pointer (some ⟨h.next, 0, none⟩) = p at a1 ⊢
  unfold incE
  have a2 := atAdd w1 a1 (.cells [.int .i64 g.day] 3 none)
  rw [a1.fld 0 (x := .int .i64 g.day) rfl, intK_int, one34, pairK_some', show (Int.ofNat 0) = (0 : Int) from rfl, show (Int.ofNat 364) = (364 : Int) from rfl, within1, optK_some', pairK_some', boolK_bool, boolN_eq, ifB_if]
  generalize h1.add (.cells [.int .i64 g.day] 3 none) = h2 at a2 ⊢
  cases hl : inB 0 364 g.day with
  | false => rw [if_pos (by rfl), if_pos (by rfl)]; exact ⟨_, rfl⟩
  | true =>
  rw [if_neg (by simp), if_neg (by simp), a2.fld 1 (x := .int .i64 g.pence) rfl, intK_int, one34, pairK_some', show (Int.ofNat 10000) = (10000 : Int) from rfl, within1, optK_some', pairK_some', boolK_bool, boolN_eq, ifB_if]
  cases hx : inB 0 10000 g.pence with
  | false => rw [if_pos (by rfl), if_pos (by rfl)]; exact ⟨_, rfl⟩
  | true => rw [if_neg (by simp), if_neg (by simp)]; exact ⟨_, rfl⟩
theorem first34_loop {v : Value} {gs : List Ic} (hlen : gs.length ≤ 900000) : ∀ m i n (h : Hp), Wf h → SlA h 2 v (gs.map Ic.row) → i + m = gs.length → m + 2 ≤ n →
    ∃ h', rec' T34 n 1 (AL.v v (AL.v (.func (.func 35) #[] #[]) (AL.v v (AL.i (gs.length : Int) (AL.i (i : Int) AL.n))))) h = some (.tuple (List.toArray [.int .i64 (firstE incE gs i (gs.drop i)).1, .int .i64 (firstE incE gs i (gs.drop i)).2]), h')
  | 0, i, n + 2, h, w, hr, him, hn => by
    show ∃ h', P34x1 (rec' T34 (n + 1)) v (.func (.func 35) #[] #[]) v (gs.length : Int) (i : Int) h = _
    unfold P34x1
    try unfold ki
    rw [boolZ_eq, ltZ_dec, ifB_if, if_neg (by simp; omega), List.drop_of_length_le (by omega)]
    exact ⟨h, rfl⟩
  | m + 1, i, n + 1, h, w, hr, him, hn => by
    have hi : i < gs.length := by omega
    have hg : (gs.map Ic.row)[i]? = some (gs[i]).row := by rw [List.getElem?_map, List.getElem?_eq_getElem hi]; rfl
    obtain ⟨q, hq, haq, hl⟩ := hr.rows.at hg
    show ∃ h', P34x1 (rec' T34 n) v (.func (.func 35) #[] #[]) v (gs.length : Int) (i : Int) h = _
    unfold P34x1
    try unfold ki
    rw [boolZ_eq, ltZ_dec, ifB_if, if_pos (by simp; omega), hq, haq.loadN hl]
    obtain ⟨h1, p, g1, a1, hk⟩ := alloc_store (ρ := Value × Hp) (z := 2) w 57 (c := [(Value.int .i64 (Int.ofNat 0)), (Value.int .i64 (Int.ofNat 0))]) (l := (gs[i]).row) rfl rfl rfl (fun _ _ => none)
    rw [hk]
    have r1 := hr.sub g1.sub
    obtain ⟨v', hv', hp⟩ := r1.pre und24 size57 (i := i) (by simpa using hi)
    rw [hv', optK_some', a1.loadN (z := 2) rfl]
    rw [← List.map_take] at hp
    obtain ⟨h2, he⟩ := inc35_at (h := shutH h1) (wfShut g1.wf) v' (gs[i])
    rw [show callF orc17 (.func (.func 35) #[] #[]) [v', .agg (Array.mk (gs[i]).row)] h1 = callQ F35 [v', .agg (Array.mk (gs[i]).row)] h1 from rfl, callQ_plain1 he rfl, pairK_some', intK_int, boolN_eq, eqZ_dec, ifB_if, List.drop_eq_getElem_cons hi]
    unfold firstE
    by_cases e0 : incE (gs.take i) (gs[i]) = 0
    · rw [if_neg (by rw [e0]; simp), if_pos e0, show Int.add (i : Int) (Int.ofNat 1) = ((i + 1 : Nat) : Int) from rfl, wrap64_in _ (by omega) (by omega)]
      exact first34_loop hlen m (i + 1) n h1 g1.wf r1 (by omega) (by omega)
    · rw [if_pos (by simpa using e0), if_neg e0]
      exact ⟨h1, rfl⟩
theorem first34_at {v : Value} {gs : List Ic} (hlen : gs.length ≤ 900000) {h : Hp} (w : Wf h) (hr : SlA h 2 v (gs.map Ic.row)) :
    ∃ h', F34 [v, .func (.func 35) #[] #[]] h = some (.tuple (List.toArray [.int .i64 (firstE incE gs 0 gs).1, .int .i64 (firstE incE gs 0 gs).2]), h') := by
  show ∃ h', P34x0 (rec' T34 999999) v (.func (.func 35) #[] #[]) h = _
  unfold P34x0
  try unfold ki
  rw [hr.rows.len, List.length_map]
  exact first34_loop hlen gs.length 0 999999 h w hr (by omega) (by omega)
end Go.Proofs.Ytaegcofpbihmhaa.K.L
