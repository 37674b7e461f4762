/- Contracts of told functions: looks of all, Check; what a room without an error is. -/
import Derived.Test.YtepepiajmdpiiaaCoS4
open Go Go.Eng
set_option maxRecDepth 100000
set_option linter.unusedVariables false
namespace Go.Proofs.Ytepepiajmdpiiaa.K.L
theorem looks49_at {h : Hp} (w : Wf h) {s : Rm} {r : List Value} (a : RmA h s r) {v : Value} {gs : List Lk} (sg : SlA h 3 v (gs.map Lk.row)) (ag : ∀ g ∈ gs, LkA h g) {most : Int} (hm : most ≤ 900000) (least : Int) (hc : 0 < s.costs.length ∧ s.costs.length ≤ 100) (ho : s.ounces.length ≤ 100) :
    ∃ h', F49 [.agg (Array.mk r), v, .int .i64 most, .int .i64 least] h = some (pairV (listE most (lookE s.costs.length s.ounces.length least) gs), h') := by
  obtain ⟨vc, vo, vf, vp, rfl, sc, so, sf, sp, af, ap⟩ := a
  have start : F49 [.agg (Array.mk (rmRow vc vo vf vp)), v, .int .i64 most, .int .i64 least] h = P49x0 (rec' T49 999999) (.agg (Array.mk (rmRow vc vo vf vp))) v most least h := rfl
  rw [start]
  unfold P49x0
  rw [rowCells, allocK_add, allocK_add]
  have g0 : Grew h (h.add (.cells (rmRow vc vo vf vp) 25 none)) := Grew.add w _
  have a0 : At (h.add (.cells (rmRow vc vo vf vp) 25 none)) (.pointer (some ⟨h.next, 0, none⟩)) (rmRow vc vo vf vp) := At.new
  generalize h.add (.cells (rmRow vc vo vf vp) 25 none) = h0 at g0 a0 ⊢
  have g1 : Grew h (h0.add (.cells [.int .i64 least] 3 none)) := g0.trans (Grew.add g0.wf _)
  have a1 : At (h0.add (.cells [.int .i64 least] 3 none)) (.pointer (some ⟨h.next, 0, none⟩)) (rmRow vc vo vf vp) := atAdd g0.wf a0 _
  have b1 : At (h0.add (.cells [.int .i64 least] 3 none)) (.pointer (some ⟨h0.next, 0, none⟩)) [.int .i64 least] := At.new
  generalize h0.add (.cells [.int .i64 least] 3 none) = h1 at g1 a1 b1 ⊢
  generalize Value.pointer (some ⟨h0.next, 0, none⟩) = pl at b1 ⊢
  generalize Value.pointer (some ⟨h.next, 0, none⟩) = pr at a1 ⊢
  obtain ⟨h2, e2⟩ := list83_at (row := Lk.row) (fun _ => rfl) (v := v) (fv := .func (.func 84) #[] #[pr, pl]) (gs := gs) (most := most) (fun g hg => (ag g hg).one) hm
    (fun h => At h pr (rmRow vc vo vf vp) ∧ At h pl [.int .i64 least] ∧ SlA h 1 vc (s.costs.map inRow) ∧ SlA h 1 vo (s.ounces.map inRow) ∧ ∀ g ∈ gs, LkA h g)
    (fun h h' g x => ⟨x.1.sub g.sub, x.2.1.sub g.sub, x.2.2.1.sub g.sub, x.2.2.2.1.sub g.sub, fun y hy => (x.2.2.2.2 y hy).sub g.sub⟩) (fun h x => x) (lookE s.costs.length s.ounces.length least) (fun h v' i hi hl w q hr => by
      obtain ⟨q1, q2, q3, q4, q5⟩ := q
      obtain ⟨h9, e9⟩ := look84_at (h := shutH h) (wfShut w) (v := v') (prev := gs.take i) hr (by rw [List.length_take]; omega) q1 q2 q3 q4 (List.length_map ..) (List.length_map ..) hc ho gs[i] (q5 _ (List.getElem_mem hi))
      exact callQ_plain1 e9 rfl) (h := shutH h1) (wfShut g1.wf) ⟨a1, b1, sc.sub g1.sub, so.sub g1.sub, fun g hg => (ag g hg).sub g1.sub⟩ (sg.sub g1.sub)
  rw [show (Value.func (.func 84) (List.toArray []) (List.toArray [pr, pl])) = .func (.func 84) #[] #[pr, pl] from rfl, callQ_plain1 e2 rfl, pairK_some']
  unfold pairV
  rw [extK_at (v := .int .i64 (listE most (lookE s.costs.length s.ounces.length least) gs).1) rfl, intK_int, extK_at (v := .int .i64 (listE most (lookE s.costs.length s.ounces.length least) gs).2) rfl, intK_int]
  exact ⟨_, rfl⟩
def trip (x : Int × Int × Int) : Value := .tuple (List.toArray [.int .i64 x.1, .int .i64 x.2.1, .int .i64 x.2.2])
def checkR (s : Rm) : Int × Int × Int :=
  if (numsE 4 100 s.costs).2 ≠ 0 then (1, numsE 4 100 s.costs)
  else if (numsE 4 50 s.ounces).2 ≠ 0 then (2, numsE 4 50 s.ounces)
  else if (listE 6 (lookE s.costs.length s.ounces.length 0) s.figs).2 ≠ 0 then (3, listE 6 (lookE s.costs.length s.ounces.length 0) s.figs)
  else if (listE 5 (lookE s.costs.length s.ounces.length (-1)) s.pers).2 ≠ 0 then (4, listE 5 (lookE s.costs.length s.ounces.length (-1)) s.pers)
  else (0, 0, 0)
theorem listE_len {α : Type} {most : Int} {f : List α → α → Int} {gs : List α} (h : (listE most f gs).2 = 0) : (gs.length : Int) ≤ most := by
  unfold listE at h
  by_cases c : most < (gs.length : Int)
  · rw [if_pos c] at h; exact absurd h (by decide)
  · omega
theorem first_ok {α : Type} (f : List α → α → Int) (all : List α) : ∀ (l : List α) (i : Nat), all.drop i = l → (firstE f all i l).2 = 0 → ∀ (j : Nat) (hj : j < all.length), i ≤ j → f (all.take j) all[j] = 0
  | [], i, hd, _, j, hj, hij => by
    have : all.length ≤ i := List.drop_eq_nil_iff.1 hd
    omega
  | g :: l, i, hd, h, j, hj, hij => by
    have hi : i < all.length := by
      by_cases c : i < all.length
      · exact c
      · rw [List.drop_of_length_le (by omega)] at hd; cases hd
    have hd2 := hd
    rw [List.drop_eq_getElem_cons hi] at hd2
    injection hd2 with e1 e2
    unfold firstE at h
    by_cases e : f (all.take i) g = 0
    · rw [if_pos e] at h
      by_cases hij2 : i = j
      · subst hij2; rw [e1]; exact e
      · exact first_ok f all l (i + 1) e2 h j hj (by omega)
    · rw [if_neg e] at h; exact absurd h e
theorem listE_all {α : Type} {most : Int} {f : List α → α → Int} {gs : List α} (h : (listE most f gs).2 = 0) : ∀ k (hk : k < gs.length), f (gs.take k) gs[k] = 0 := by
  have hl := listE_len h
  unfold listE at h
  rw [if_neg (by omega)] at h
  intro k hk
  exact first_ok f gs gs 0 rfl h k hk (by omega)
theorem nums_ok {many most : Int} {l : List Int} (h : (numsE many most l).2 = 0) : 0 < l.length ∧ (l.length : Int) ≤ many ∧ ∀ n ∈ l, 0 ≤ n ∧ n ≤ most := by
  unfold numsE at h
  by_cases c : l.length = 0
  · rw [if_pos c] at h; exact absurd h (by decide)
  rw [if_neg c] at h
  refine ⟨by omega, listE_len h, fun n hn => ?_⟩
  obtain ⟨j, hj, rfl⟩ := List.getElem_of_mem hn
  have := listE_all h j hj
  unfold numE at this
  cases x : inB 0 most l[j] with
  | false => rw [x] at this; simp at this
  | true => exact inB_iff.1 x
theorem check16_at {h : Hp} (w : Wf h) {s : Rm} {r : List Value} (a : RmA h s r) : ∃ h', F16 [.agg (Array.mk r)] h = some (trip (checkR s), h') := by
  have start : F16 [.agg (Array.mk r)] h = P16x0 (rec' T16 999999) (.agg (Array.mk r)) h := rfl
  rw [start]
  unfold P16x0
  have hr4 := a.len
  rw [rowCells, allocK_add]
  have w1 := w.add (.cells r 25 none)
  have a1 : At (h.add (.cells r 25 none)) (.pointer (some ⟨h.next, 0, none⟩)) r := At.new
  replace a := a.sub (Grew.add w (.cells r 25 none)).sub
  clear start
  generalize h.add (.cells r 25 none) = h1 at w1 a1 a ⊢
  generalize Value.pointer (some ⟨h.next, 0, none⟩) = p at a1 ⊢
  obtain ⟨vc, vo, vf, vp, rfl, sc, so, sf, sp, af, ap⟩ := a
  have A : RmA h1 s (rmRow vc vo vf vp) := ⟨vc, vo, vf, vp, rfl, sc, so, sf, sp, af, ap⟩
  unfold checkR
  obtain ⟨h2, e2⟩ := nums48_at (h := shutH h1) (wfShut w1) sc (many := 4) 100 (by omega)
  rw [a1.fld 0 (x := vc) rfl, show (Int.ofNat 4) = (4 : Int) from rfl, show (Int.ofNat 100) = (100 : Int) from rfl, callQ_plain1 e2 rfl, pairK_some']
  unfold pairV
  rw [extK_at (v := .int .i64 (numsE 4 100 s.costs).1) rfl, intK_int, extK_at (v := .int .i64 (numsE 4 100 s.costs).2) rfl, intK_int, boolN_eq, eqZ_dec, ifB_if]
  by_cases c1 : (numsE 4 100 s.costs).2 = 0
  case neg => rw [if_pos (by simpa using c1), if_pos c1]; exact ⟨_, rfl⟩
  obtain ⟨h3, e3⟩ := nums48_at (h := shutH h1) (wfShut w1) so (many := 4) 50 (by omega)
  rw [if_neg (by simpa using c1), if_neg (by simpa using c1), a1.fld 1 (x := vo) rfl, show (Int.ofNat 50) = (50 : Int) from rfl, callQ_plain1 e3 rfl, pairK_some']
  unfold pairV
  rw [extK_at (v := .int .i64 (numsE 4 50 s.ounces).1) rfl, intK_int, extK_at (v := .int .i64 (numsE 4 50 s.ounces).2) rfl, intK_int, boolN_eq, eqZ_dec, ifB_if]
  by_cases c2 : (numsE 4 50 s.ounces).2 = 0
  case neg => rw [if_pos (by simpa using c2), if_pos c2]; exact ⟨_, rfl⟩
  obtain ⟨n1, n2, _⟩ := nums_ok c1
  obtain ⟨m1, m2, _⟩ := nums_ok c2
  obtain ⟨h4, e4⟩ := looks49_at (h := shutH h1) (wfShut w1) A (v := vf) (gs := s.figs) sf af (most := 6) (by omega) 0 (by omega) (by omega)
  rw [if_neg (by simpa using c2), if_neg (by simpa using c2), a1.loadN (z := 4) rfl, a1.fld 2 (x := vf) rfl, show (Int.ofNat 6) = (6 : Int) from rfl, show (Int.ofNat 0) = (0 : Int) from rfl, callQ_plain1 e4 rfl, pairK_some']
  unfold pairV
  rw [extK_at (v := .int .i64 (listE 6 (lookE s.costs.length s.ounces.length 0) s.figs).1) rfl, intK_int, extK_at (v := .int .i64 (listE 6 (lookE s.costs.length s.ounces.length 0) s.figs).2) rfl, intK_int, boolN_eq, eqZ_dec, ifB_if]
  by_cases c3 : (listE 6 (lookE s.costs.length s.ounces.length 0) s.figs).2 = 0
  case neg => rw [if_pos (by simpa using c3), if_pos c3]; exact ⟨_, rfl⟩
  obtain ⟨h5, e5⟩ := looks49_at (h := shutH h1) (wfShut w1) A (v := vp) (gs := s.pers) sp ap (most := 5) (by omega) (-1) (by omega) (by omega)
  rw [if_neg (by simpa using c3), if_neg (by simpa using c3), a1.loadN (z := 4) rfl, a1.fld 3 (x := vp) rfl, show (Int.ofNat 5) = (5 : Int) from rfl, show (Int.negSucc 0) = (-1 : Int) from rfl, callQ_plain1 e5 rfl, pairK_some']
  unfold pairV
  rw [extK_at (v := .int .i64 (listE 5 (lookE s.costs.length s.ounces.length (-1)) s.pers).1) rfl, intK_int, extK_at (v := .int .i64 (listE 5 (lookE s.costs.length s.ounces.length (-1)) s.pers).2) rfl, intK_int, boolN_eq, eqZ_dec, ifB_if]
  by_cases c4 : (listE 5 (lookE s.costs.length s.ounces.length (-1)) s.pers).2 = 0
  case neg => rw [if_pos (by simpa using c4), if_pos c4]; exact ⟨_, rfl⟩
  rw [if_neg (by simpa using c4), if_neg (by simpa using c4)]
  exact ⟨_, rfl⟩
end Go.Proofs.Ytepepiajmdpiiaa.K.L
