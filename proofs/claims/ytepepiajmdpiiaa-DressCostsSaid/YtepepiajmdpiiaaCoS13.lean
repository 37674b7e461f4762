/- Contracts of told functions: the reference's people, Check. -/
import Derived.Test.YtepepiajmdpiiaaCoS12
open Go Go.Eng
set_option maxRecDepth 100000
set_option linter.unusedVariables false
namespace Go.Proofs.Ytepepiajmdpiiaa.K.L
theorem lookE_eq (nc no : Nat) (any : Bool) (prev : List Lk) (g : Lk) : lookE nc no (low any) prev g = if newE g.nm (prev.map Lk.nm) = 0 then lookX nc no any g else newE g.nm (prev.map Lk.nm) := by
  unfold lookE newE lookX
  rw [any_nm]
  have e1 := okB_eq (any := any) (hi := (no : Int) - 1) (n := hair0 g) (by omega)
  have e2 : g.lk.tail.all (okB any 5) = g.lk.tail.all (inB (low any) 5) := by
    congr 1; funext n; exact okB_eq (by omega)
  rw [e1, e2]
  cases nameB g.nm.data.toList with
  | false => rfl
  | true =>
  cases prev.any (fun x => sameNm x.nm g.nm) with
  | true => rfl
  | false =>
  simp only [Bool.not_true, Bool.false_eq_true, if_false, if_true]
  by_cases c : (g.lk.length : Int) = (nc : Int)
  case neg => rw [if_pos c, if_pos c]
  have cn : ¬ ((g.lk.length : Int) ≠ (nc : Int)) := by simpa using c
  rw [if_neg cn, if_neg cn]
  cases inB (low any) ((no : Int) - 1) (hair0 g) with
  | false => rfl
  | true =>
  cases g.lk.tail.all (inB (low any) 5) <;> cases inB 0 50 g.hair <;> rfl
theorem st51_1 (n : Nat) (v : Value) (b : Bool) (p x : Value) (i : Int) (h : Hp) : rec' T51 (n + 1) 1 (AL.v v (AL.b b (AL.v p (AL.v x (AL.i i AL.n))))) h = P51x1 (rec' T51 n) v b p x i h := rfl
theorem st51_2 (n : Nat) (v : Value) (b : Bool) (p x : Value) (i e : Int) (h : Hp) : rec' T51 (n + 1) 2 (AL.v v (AL.b b (AL.v p (AL.v x (AL.i i (AL.i e AL.n)))))) h = P51x2 (rec' T51 n) v b p x i e h := rfl
theorem st51_3 (n : Nat) (v : Value) (b : Bool) (p x : Value) (i : Int) (h : Hp) : rec' T51 (n + 1) 3 (AL.v v (AL.b b (AL.v p (AL.v x (AL.i i AL.n))))) h = P51x3 (rec' T51 n) v b p x i h := rfl
theorem st51_4 (n : Nat) (h : Hp) : rec' T51 (n + 1) 4 AL.n h = some (pairV (0, 0), h) := rfl
theorem people51_loop {hb : Hp} (w : Wf hb) {v p vc vo vf vp : Value} {nc no : Nat} {rc ro : List (List Value)} (ar : At hb p (rmRow vc vo vf vp)) (sc : SlA hb 1 vc rc) (so : SlA hb 1 vo ro) (ec : rc.length = nc) (eo : ro.length = no) (hc : 0 < nc ∧ nc ≤ 100) (ho : no ≤ 100) (any : Bool)
    {gs : List Lk} (sg : SlA hb 3 v (gs.map Lk.row)) (ag : ∀ g ∈ gs, LkA hb g) (hlen : gs.length ≤ 100) : ∀ (m i n : Nat) (h : Hp) (x : Value), Grew hb h → NmA hb h x ((gs.take i).map Lk.nm) → i + m = gs.length → 3 * m + 2 ≤ n →
    ∃ h', rec' T51 n 1 (AL.v v (AL.b any (AL.v p (AL.v x (AL.i (i : Int) AL.n))))) h = some (pairV (firstE (lookE nc no (low any)) gs i (gs.drop i)), h')
  | 0, i, n', h, x, g, nm, him, hn => by
    obtain ⟨n, rfl⟩ : ∃ n, n' = n + 2 := ⟨n' - 2, by omega⟩
    rw [st51_1]
    unfold P51x1
    rw [(sg.sub g.sub).rows.len, List.length_map, boolZ_eq, ltZ_dec, ifB_if, if_neg (by simp; omega), List.drop_of_length_le (by omega), st51_4]
    exact ⟨h, rfl⟩
  | m + 1, i, n', h, x, g, nm, him, hn => by
    obtain ⟨n, rfl⟩ : ∃ n, n' = n + 3 := ⟨n' - 3, by omega⟩
    have hi : i < gs.length := by omega
    have hg : (gs.map Lk.row)[i]? = some (gs[i]).row := by rw [List.getElem?_map, List.getElem?_eq_getElem hi]; rfl
    have s1 := (sg.sub g.sub).rows
    obtain ⟨q, hq, haq, hl⟩ := s1.at hg
    obtain ⟨x', h', hap, g', nm'⟩ := append_nm w g nm (by rw [List.length_map, List.length_take]; omega) (gs[i]).nm
    rw [take_succ_map] at nm'
    obtain ⟨hf, IH⟩ := people51_loop w ar sc so ec eo hc ho any sg ag hlen m (i + 1) n h' x' g' nm' (by omega) (by omega)
    have E := lookE_eq nc no any (gs.take i) gs[i]
    have two : ∀ e : Int, e = lookE nc no (low any) (gs.take i) gs[i] → ∃ h2, rec' T51 (n + 2) 2 (AL.v v (AL.b any (AL.v p (AL.v x (AL.i (i : Int) (AL.i e AL.n)))))) h = some (pairV (firstE (lookE nc no (low any)) gs i (gs[i] :: gs.drop (i + 1))), h2) := by
      intro e ee
      rw [st51_2]
      unfold P51x2 firstE
      rw [← ee, boolN_eq, eqZ_dec, ifB_if]
      by_cases he : e = 0
      · rw [if_neg (by rw [he]; simp), if_pos he, hq, haq.fld 0 (x := .string (gs[i]).nm) rfl, oneS, pairK_some', hap, pairK_some', st51_3]
        unfold P51x3
        rw [show Int.add (i : Int) (Int.ofNat 1) = ((i + 1 : Nat) : Int) from rfl, wrap64_in _ (by omega) (by omega)]
        exact ⟨hf, IH⟩
      · rw [if_pos (by simpa using he), if_neg he]; exact ⟨_, rfl⟩
    rw [st51_1]
    unfold P51x1
    rw [s1.len, List.length_map, boolZ_eq, ltZ_dec, ifB_if, if_pos (by simp; omega), hq, haq.fld 0 (x := .string (gs[i]).nm) rfl, new88_at (gs[i]).nm nm.rows (by rw [List.length_map, List.length_take]; omega), optK_some', pairK_some', intK_int, boolZ_eq, eqZ_dec, ifB_if, List.drop_eq_getElem_cons hi]
    by_cases c : newE (gs[i]).nm ((gs.take i).map Lk.nm) = 0
    case neg =>
      rw [if_neg (by simpa using c)]
      rw [if_neg c] at E
      exact two _ E.symm
    rw [if_pos c] at E
    rw [if_pos (by rw [c]; simp), (ar.sub g.sub).loadN (z := 4) rfl, hq, haq.loadN hl, looks89_at (sc.sub g.sub) (so.sub g.sub) ec eo hc ho any gs[i] ((ag _ (List.getElem_mem hi)).sub g.sub), optK_some', pairK_some', intK_int]
    exact two _ E.symm
theorem people51_at {h : Hp} (w : Wf h) {s : Rm} {r : List Value} (a : RmA h s r) {v : Value} {gs : List Lk} (sg : SlA h 3 v (gs.map Lk.row)) (ag : ∀ g ∈ gs, LkA h g) {most : Int} (hm : most ≤ 100) (any : Bool) (hc : 0 < s.costs.length ∧ s.costs.length ≤ 100) (ho : s.ounces.length ≤ 100) :
    ∃ h', F51 [.agg (Array.mk r), v, .int .i64 most, .bool any] h = some (pairV (listE most (lookE s.costs.length s.ounces.length (low any)) gs), h') := by
  obtain ⟨vc, vo, vf, vp, rfl, sc, so, sf, sp, af, ap⟩ := a
  have start : F51 [.agg (Array.mk (rmRow vc vo vf vp)), v, .int .i64 most, .bool any] h = P51x0 (rec' T51 999999) (.agg (Array.mk (rmRow vc vo vf vp))) v most any h := rfl
  rw [start]
  unfold P51x0 listE
  rw [rowCells, allocK_add, sg.rows.len, List.length_map, boolZ_eq, ltZ_dec, ifB_if]
  by_cases c : most < (gs.length : Int)
  · rw [if_pos (by simpa using c), if_pos c]; exact ⟨_, rfl⟩
  rw [if_neg (by simpa using c), if_neg c]
  have g0 : Grew h (h.add (.cells (rmRow vc vo vf vp) 25 none)) := Grew.add w _
  have a0 : At (h.add (.cells (rmRow vc vo vf vp) 25 none)) (.pointer (some ⟨h.next, 0, none⟩)) (rmRow vc vo vf vp) := At.new
  have := people51_loop g0.wf a0 (sc.sub g0.sub) (so.sub g0.sub) (List.length_map ..) (List.length_map ..) hc ho any (sg.sub g0.sub) (fun g hg => (ag g hg).sub g0.sub) (by omega) gs.length 0 999999 _ (.slice none 0 0) (Grew.refl g0.wf) (.inl ⟨rfl, by simp⟩) (by omega) (by omega)
  rw [List.drop_zero] at this
  exact this
theorem check17_at {h : Hp} (w : Wf h) {s : Rm} {r : List Value} (a : RmA h s r) : ∃ h', F17 [.agg (Array.mk r)] h = some (trip (checkR s), h') := by
  have start : F17 [.agg (Array.mk r)] h = P17x0 (rec' T17 999999) (.agg (Array.mk r)) h := rfl
  rw [start]
  unfold P17x0
  have hr4 := a.len
  rw [rowCells, allocK_add]
  have w1 := w.add (.cells r 25 none)
  have a1 : At (h.add (.cells r 25 none)) (.pointer (some ⟨h.next, 0, none⟩)) r := At.new
  replace a := a.sub (Grew.add w (.cells r 25 none)).sub
  clear start
  generalize h.add (.cells r 25 none) = h1 at w1 a1 a ⊢
  generalize Value.pointer (some ⟨h.next, 0, none⟩) = p at a1 ⊢
  obtain ⟨vc, vo, vf, vp, rfl, sc, so, sf, sp, af, ap⟩ := a
  have A : RmA h1 s (rmRow vc vo vf vp) := ⟨vc, vo, vf, vp, rfl, sc, so, sf, sp, af, ap⟩
  unfold checkR
  rw [a1.fld 0 (x := vc) rfl, show (Int.ofNat 4) = (4 : Int) from rfl, show (Int.ofNat 100) = (100 : Int) from rfl, numbers50_at sc 100 (by omega), optK_some', pairK_some']
  unfold pairV
  rw [extK_at (v := .int .i64 (numsE 4 100 s.costs).1) rfl, intK_int, extK_at (v := .int .i64 (numsE 4 100 s.costs).2) rfl, intK_int, boolN_eq, eqZ_dec, ifB_if]
  by_cases c1 : (numsE 4 100 s.costs).2 = 0
  case neg => rw [if_pos (by simpa using c1), if_pos c1]; exact ⟨_, rfl⟩
  rw [if_neg (by simpa using c1), if_neg (by simpa using c1), a1.fld 1 (x := vo) rfl, show (Int.ofNat 50) = (50 : Int) from rfl, numbers50_at so 50 (by omega), optK_some', pairK_some']
  unfold pairV
  rw [extK_at (v := .int .i64 (numsE 4 50 s.ounces).1) rfl, intK_int, extK_at (v := .int .i64 (numsE 4 50 s.ounces).2) rfl, intK_int, boolN_eq, eqZ_dec, ifB_if]
  by_cases c2 : (numsE 4 50 s.ounces).2 = 0
  case neg => rw [if_pos (by simpa using c2), if_pos c2]; exact ⟨_, rfl⟩
  obtain ⟨n1, n2, _⟩ := nums_ok c1
  obtain ⟨m1, m2, _⟩ := nums_ok c2
  obtain ⟨h4, e4⟩ := people51_at (h := shutH h1) (wfShut w1) A (v := vf) (gs := s.figs) sf af (most := 6) (by omega) false (by omega) (by omega)
  rw [show low false = 0 from rfl] at e4
  rw [if_neg (by simpa using c2), if_neg (by simpa using c2), a1.loadN (z := 4) rfl, a1.fld 2 (x := vf) rfl, show (Int.ofNat 6) = (6 : Int) from rfl, callQ_plain1 e4 rfl, pairK_some']
  unfold pairV
  rw [extK_at (v := .int .i64 (listE 6 (lookE s.costs.length s.ounces.length 0) s.figs).1) rfl, intK_int, extK_at (v := .int .i64 (listE 6 (lookE s.costs.length s.ounces.length 0) s.figs).2) rfl, intK_int, boolN_eq, eqZ_dec, ifB_if]
  by_cases c3 : (listE 6 (lookE s.costs.length s.ounces.length 0) s.figs).2 = 0
  case neg => rw [if_pos (by simpa using c3), if_pos c3]; exact ⟨_, rfl⟩
  obtain ⟨h5, e5⟩ := people51_at (h := shutH h1) (wfShut w1) A (v := vp) (gs := s.pers) sp ap (most := 5) (by omega) true (by omega) (by omega)
  rw [show low true = -1 from rfl] at e5
  rw [if_neg (by simpa using c3), if_neg (by simpa using c3), a1.loadN (z := 4) rfl, a1.fld 3 (x := vp) rfl, show (Int.ofNat 5) = (5 : Int) from rfl, callQ_plain1 e5 rfl, pairK_some']
  unfold pairV
  rw [extK_at (v := .int .i64 (listE 5 (lookE s.costs.length s.ounces.length (-1)) s.pers).1) rfl, intK_int, extK_at (v := .int .i64 (listE 5 (lookE s.costs.length s.ounces.length (-1)) s.pers).2) rfl, intK_int, boolN_eq, eqZ_dec, ifB_if]
  by_cases c4 : (listE 5 (lookE s.costs.length s.ounces.length (-1)) s.pers).2 = 0
  case neg => rw [if_pos (by simpa using c4), if_pos c4]; exact ⟨_, rfl⟩
  rw [if_neg (by simpa using c4), if_neg (by simpa using c4)]
  exact ⟨_, rfl⟩
end Go.Proofs.Ytepepiajmdpiiaa.K.L
