/- Contracts of told functions: the reference's people, Check. -/
import Derived.Test.YtepepiajmdpiiaaHaS12
open Go Go.Eng
set_option maxRecDepth 100000
set_option linter.unusedVariables false
namespace Go.Proofs.Ytepepiajmdpiiaa.K.L
theorem aI1 (nc no : Nat) (any : Bool) (prev : List Lk) (g : Lk) : jL nc no (low any) prev g = if aFV g.nm (prev.map Lk.nm) = 0 then aCD nc no any g else aFV g.nm (prev.map Lk.nm) := by
 unfold jL aFV aCD
 rw [aS7]
 have e1 := aIW (any := any) (hi := (no : Int) - 1) (n := eU g) (by omega)
 have e2 : g.lk.tail.all (okB any 5) = g.lk.tail.all (oU (low any) 5) := by
  congr 1; funext n; exact aIW (by omega)
 rw [e1, e2]
 cases vS g.nm.data.toList with
 | false => rfl
 | true =>
 cases prev.any (fun x => mK x.nm g.nm) with
 | true => rfl
 | false =>
 simp only [Bool.not_true, Bool.false_eq_true, if_false, if_true]
 by_cases c : (g.lk.length : Int) = (nc : Int)
 case neg => rw [if_pos c, if_pos c]
 have cn : ¬ ((g.lk.length : Int) ≠ (nc : Int)) := by simpa using c
 rw [if_neg cn, if_neg cn]
 cases oU (low any) ((no : Int) - 1) (eU g) with
 | false => rfl
 | true =>
 cases g.lk.tail.all (oU (low any) 5) <;> cases oU 0 50 g.iR <;> rfl
theorem aI2 (n : Nat) (v : Value) (b : Bool) (p x : Value) (i : Int) (h : Hp) : aP T51 (n + 1) 1 (AL.v v (AL.b b (AL.v p (AL.v x (AL.i i AL.n))))) h = WN (aP T51 n) v b p x i h := rfl
theorem aS8 (n : Nat) (v : Value) (b : Bool) (p x : Value) (i e : Int) (h : Hp) : aP T51 (n + 1) 2 (AL.v v (AL.b b (AL.v p (AL.v x (AL.i i (AL.i e AL.n)))))) h = aCG (aP T51 n) v b p x i e h := rfl
theorem aS9 (n : Nat) (v : Value) (b : Bool) (p x : Value) (i : Int) (h : Hp) : aP T51 (n + 1) 3 (AL.v v (AL.b b (AL.v p (AL.v x (AL.i i AL.n))))) h = aCH (aP T51 n) v b p x i h := rfl
theorem aTA (n : Nat) (h : Hp) : aP T51 (n + 1) 4 AL.n h = some (kY (0, 0), h) := rfl
theorem BU {hb : Hp} (w : Wf hb) {v p vc vo vf vp : Value} {nc no : Nat} {rc ro : List (List Value)} (ar : At hb p (iF vc vo vf vp)) (sc : jZ hb 1 vc rc) (so : jZ hb 1 vo ro) (ec : rc.length = nc) (eo : ro.length = no) (hc : 0 < nc ∧ nc ≤ 100) (ho : no ≤ 100) (any : Bool)
  {gs : List Lk} (sg : jZ hb 3 v (gs.map Lk.row)) (ag : ∀ g ∈ gs, OB hb g) (hlen : gs.length ≤ 100) : ∀ (m i n : Nat) (h : Hp) (x : Value), bI hb h → NmA hb h x ((gs.take i).map Lk.nm) → i + m = gs.length → 3 * m + 2 ≤ n →
  ∃ h', aP T51 n 1 (AL.v v (AL.b any (AL.v p (AL.v x (AL.i (i : Int) AL.n))))) h = some (kY (lH (jL nc no (low any)) gs i (gs.drop i)), h')
 | 0, i, n', h, x, g, nm, him, hn => by
  obtain ⟨n, rfl⟩ : ∃ n, n' = n + 2 := ⟨n' - 2, by omega⟩
  rw [aI2]
  unfold WN
  rw [(sg.sub g.sub).rows.len, List.length_map, aU, bE, aJ, if_neg (by simp; omega), List.drop_of_length_le (by omega), aTA]
  exact ⟨h, rfl⟩
 | m + 1, i, n', h, x, g, nm, him, hn => by
  obtain ⟨n, rfl⟩ : ∃ n, n' = n + 3 := ⟨n' - 3, by omega⟩
  have hi : i < gs.length := by omega
  have hg : (gs.map Lk.row)[i]? = some (gs[i]).row := by rw [List.getElem?_map, List.getElem?_eq_getElem hi]; rfl
  have s1 := (sg.sub g.sub).rows
  obtain ⟨q, hq, haq, hl⟩ := s1.at hg
  obtain ⟨x', h', hap, g', nm'⟩ := aFW w g nm (by rw [List.length_map, List.length_take]; omega) (gs[i]).nm
  rw [OC] at nm'
  obtain ⟨hf, IH⟩ := BU w ar sc so ec eo hc ho any sg ag hlen m (i + 1) n h' x' g' nm' (by omega) (by omega)
  have E := aI1 nc no any (gs.take i) gs[i]
  have two : ∀ e : Int, e = jL nc no (low any) (gs.take i) gs[i] → ∃ h2, aP T51 (n + 2) 2 (AL.v v (AL.b any (AL.v p (AL.v x (AL.i (i : Int) (AL.i e AL.n)))))) h = some (kY (lH (jL nc no (low any)) gs i (gs[i] :: gs.drop (i + 1))), h2) := by
   intro e ee
   rw [aS8]
   unfold aCG lH
   rw [← ee, aZ, dO, aJ]
   by_cases he : e = 0
   ·rw [if_neg (by rw [he]; simp), if_pos he, hq, haq.qN 0 (x := .string (gs[i]).nm) rfl, bCH, aH, hap, aH, aS9]
    unfold aCH
    rw [show Int.add (i : Int) (Int.ofNat 1) = ((i + 1 : Nat) : Int) from rfl, wrap64_in _ (by omega) (by omega)]
    exact ⟨hf, IH⟩
   ·rw [if_pos (by simpa using he), if_neg he]; exact ⟨_, rfl⟩
  rw [aI2]
  unfold WN
  rw [s1.len, List.length_map, aU, bE, aJ, if_pos (by simp; omega), hq, haq.qN 0 (x := .string (gs[i]).nm) rfl, aI3 (gs[i]).nm nm.rows (by rw [List.length_map, List.length_take]; omega), aR, aH, aO, aU, dO, aJ, List.drop_eq_getElem_cons hi]
  by_cases c : aFV (gs[i]).nm ((gs.take i).map Lk.nm) = 0
  case neg =>
   rw [if_neg (by simpa using c)]
   rw [if_neg c] at E
   exact two _ E.symm
  rw [if_pos c] at E
  rw [if_pos (by rw [c]; simp), (ar.sub g.sub).gU (z := 4) rfl, hq, haq.gU hl, aAF (sc.sub g.sub) (so.sub g.sub) ec eo hc ho any gs[i] ((ag _ (List.getElem_mem hi)).sub g.sub), aR, aH, aO]
  exact two _ E.symm
theorem JQ {h : Hp} (w : Wf h) {s : Rm} {r : List Value} (a : FI h s r) {v : Value} {gs : List Lk} (sg : jZ h 3 v (gs.map Lk.row)) (ag : ∀ g ∈ gs, OB h g) {most : Int} (hm : most ≤ 100) (any : Bool) (hc : 0 < s.costs.length ∧ s.costs.length ≤ 100) (ho : s.bH.length ≤ 100) :
  ∃ h', F51 [.agg (Array.mk r), v, .int .i64 most, .bool any] h = some (kY (jD most (jL s.costs.length s.bH.length (low any)) gs), h') := by
 obtain ⟨vc, vo, vf, vp, rfl, sc, so, sf, sp, af, ap⟩ := a
 have start : F51 [.agg (Array.mk (iF vc vo vf vp)), v, .int .i64 most, .bool any] h = aCI (aP T51 999999) (.agg (Array.mk (iF vc vo vf vp))) v most any h := rfl
 rw [start]
 unfold aCI jD
 rw [iT, dQ, sg.rows.len, List.length_map, aU, bE, aJ]
 by_cases c : most < (gs.length : Int)
 ·rw [if_pos (by simpa using c), if_pos c]; exact ⟨_, rfl⟩
 rw [if_neg (by simpa using c), if_neg c]
 have g0 : bI h (h.add (.cells (iF vc vo vf vp) 25 none)) := bI.add w _
 have a0 : At (h.add (.cells (iF vc vo vf vp) 25 none)) (.pointer (some ⟨h.next, 0, none⟩)) (iF vc vo vf vp) := At.new
 have := BU g0.wf a0 (sc.sub g0.sub) (so.sub g0.sub) (List.length_map ..) (List.length_map ..) hc ho any (sg.sub g0.sub) (fun g hg => (ag g hg).sub g0.sub) (by omega) gs.length 0 999999 _ (.slice none 0 0) (bI.refl g0.wf) (.inl ⟨rfl, by simp⟩) (by omega) (by omega)
 rw [List.drop_zero] at this
 exact this
theorem aAG {h : Hp} (w : Wf h) {s : Rm} {r : List Value} (a : FI h s r) : ∃ h', F17 [.agg (Array.mk r)] h = some (aM8 (jE s), h') := by
 have start : F17 [.agg (Array.mk r)] h = aCJ (aP T17 999999) (.agg (Array.mk r)) h := rfl
 rw [start]
 unfold aCJ
 have hr4 := a.len
 rw [iT, dQ]
 have w1 := w.add (.cells r 25 none)
 have a1 : At (h.add (.cells r 25 none)) (.pointer (some ⟨h.next, 0, none⟩)) r := At.new
 replace a := a.sub (bI.add w (.cells r 25 none)).sub
 clear start
 generalize h.add (.cells r 25 none) = h1 at w1 a1 a ⊢
 generalize Value.pointer (some ⟨h.next, 0, none⟩) = p at a1 ⊢
 obtain ⟨vc, vo, vf, vp, rfl, sc, so, sf, sp, af, ap⟩ := a
 have A : FI h1 s (iF vc vo vf vp) := ⟨vc, vo, vf, vp, rfl, sc, so, sf, sp, af, ap⟩
 unfold jE
 rw [a1.qN 0 (x := vc) rfl, show (Int.ofNat 4) = (4 : Int) from rfl, show (Int.ofNat 100) = (100 : Int) from rfl, FH sc 100 (by omega), aR, aH]
 unfold kY
 rw [dP (v := .int .i64 (lZ 4 100 s.costs).1) rfl, aO, dP (v := .int .i64 (lZ 4 100 s.costs).2) rfl, aO, aZ, dO, aJ]
 by_cases c1 : (lZ 4 100 s.costs).2 = 0
 case neg => rw [if_pos (by simpa using c1), if_pos c1]; exact ⟨_, rfl⟩
 rw [if_neg (by simpa using c1), if_neg (by simpa using c1), a1.qN 1 (x := vo) rfl, show (Int.ofNat 50) = (50 : Int) from rfl, FH so 50 (by omega), aR, aH]
 unfold kY
 rw [dP (v := .int .i64 (lZ 4 50 s.bH).1) rfl, aO, dP (v := .int .i64 (lZ 4 50 s.bH).2) rfl, aO, aZ, dO, aJ]
 by_cases c2 : (lZ 4 50 s.bH).2 = 0
 case neg => rw [if_pos (by simpa using c2), if_pos c2]; exact ⟨_, rfl⟩
 obtain ⟨n1, n2, _⟩ := BB c1
 obtain ⟨m1, m2, _⟩ := BB c2
 obtain ⟨h4, e4⟩ := JQ (h := iG h1) (jV w1) A (v := vf) (gs := s.cK) sf af (most := 6) (by omega) false (by omega) (by omega)
 rw [show low false = 0 from rfl] at e4
 rw [if_neg (by simpa using c2), if_neg (by simpa using c2), a1.gU (z := 4) rfl, a1.qN 2 (x := vf) rfl, show (Int.ofNat 6) = (6 : Int) from rfl, eB e4 rfl, aH]
 unfold kY
 rw [dP (v := .int .i64 (jD 6 (jL s.costs.length s.bH.length 0) s.cK).1) rfl, aO, dP (v := .int .i64 (jD 6 (jL s.costs.length s.bH.length 0) s.cK).2) rfl, aO, aZ, dO, aJ]
 by_cases c3 : (jD 6 (jL s.costs.length s.bH.length 0) s.cK).2 = 0
 case neg => rw [if_pos (by simpa using c3), if_pos c3]; exact ⟨_, rfl⟩
 obtain ⟨h5, e5⟩ := JQ (h := iG h1) (jV w1) A (v := vp) (gs := s.dB) sp ap (most := 5) (by omega) true (by omega) (by omega)
 rw [show low true = -1 from rfl] at e5
 rw [if_neg (by simpa using c3), if_neg (by simpa using c3), a1.gU (z := 4) rfl, a1.qN 3 (x := vp) rfl, show (Int.ofNat 5) = (5 : Int) from rfl, eB e5 rfl, aH]
 unfold kY
 rw [dP (v := .int .i64 (jD 5 (jL s.costs.length s.bH.length (-1)) s.dB).1) rfl, aO, dP (v := .int .i64 (jD 5 (jL s.costs.length s.bH.length (-1)) s.dB).2) rfl, aO, aZ, dO, aJ]
 by_cases c4 : (jD 5 (jL s.costs.length s.bH.length (-1)) s.dB).2 = 0
 case neg => rw [if_pos (by simpa using c4), if_pos c4]; exact ⟨_, rfl⟩
 rw [if_neg (by simpa using c4), if_neg (by simpa using c4)]
 exact ⟨_, rfl⟩
end Go.Proofs.Ytepepiajmdpiiaa.K.L
