/- Contracts of told functions: the reference's people, Check. -/
import Derived.Test.YtepepiajmdpiiaaPlS12
open Go Go.Eng
set_option maxRecDepth 100000
set_option linter.unusedVariables false
namespace Go.Proofs.Ytepepiajmdpiiaa.K.L
theorem aJR (nc no : Nat) (any : Bool) (prev : List Lk) (g : Lk) : jJ nc no (low any) prev g = if aGF g.nm (prev.map Lk.nm) = 0 then aCS nc no any g else aGF g.nm (prev.map Lk.nm) := by
 unfold jJ aGF aCS
 rw [aSZ]
 have e1 := aJM (any := any) (hi := (no : Int) - 1) (n := eD g) (by omega)
 have e2 : g.lk.tail.all (okB any 5) = g.lk.tail.all (oF (low any) 5) := by
  congr 1; funext n; exact aJM (by omega)
 rw [e1, e2]
 cases vM g.nm.data.toList with
 | false => rfl
 | true =>
 cases prev.any (fun x => mE x.nm g.nm) with
 | true => rfl
 | false =>
 simp only [Bool.not_true, Bool.false_eq_true, if_false, if_true]
 by_cases c : (g.lk.length : Int) = (nc : Int)
 case neg => rw [if_pos c, if_pos c]
 have cn : ¬ ((g.lk.length : Int) ≠ (nc : Int)) := by simpa using c
 rw [if_neg cn, if_neg cn]
 cases oF (low any) ((no : Int) - 1) (eD g) with
 | false => rfl
 | true =>
 cases g.lk.tail.all (oF (low any) 5) <;> cases oF 0 50 g.iM <;> rfl
theorem aJS (n : Nat) (v : Value) (b : Bool) (p x : Value) (i : Int) (h : Hp) : aK T51 (n + 1) 1 (AL.v v (AL.b b (AL.v p (AL.v x (AL.i i AL.n))))) h = WZ (aK T51 n) v b p x i h := rfl
theorem aS0 (n : Nat) (v : Value) (b : Bool) (p x : Value) (i e : Int) (h : Hp) : aK T51 (n + 1) 2 (AL.v v (AL.b b (AL.v p (AL.v x (AL.i i (AL.i e AL.n)))))) h = aCV (aK T51 n) v b p x i e h := rfl
theorem aS1 (n : Nat) (v : Value) (b : Bool) (p x : Value) (i : Int) (h : Hp) : aK T51 (n + 1) 3 (AL.v v (AL.b b (AL.v p (AL.v x (AL.i i AL.n))))) h = aCW (aK T51 n) v b p x i h := rfl
theorem aS2 (n : Nat) (h : Hp) : aK T51 (n + 1) 4 AL.n h = some (jU (0, 0), h) := rfl
theorem BO {hb : Hp} (w : Wf hb) {v p vc vo vf vp : Value} {nc no : Nat} {rc ro : List (List Value)} (ar : At hb p (fV vc vo vf vp)) (sc : jE hb 1 vc rc) (so : jE hb 1 vo ro) (ec : rc.length = nc) (eo : ro.length = no) (hc : 0 < nc ∧ nc ≤ 100) (ho : no ≤ 100) (any : Bool)
  {gs : List Lk} (sg : jE hb 3 v (gs.map Lk.row)) (ag : ∀ g ∈ gs, E9 hb g) (hlen : gs.length ≤ 100) : ∀ (m i n : Nat) (h : Hp) (x : Value), bA hb h → NmA hb h x ((gs.take i).map Lk.nm) → i + m = gs.length → 3 * m + 2 ≤ n →
  ∃ h', aK T51 n 1 (AL.v v (AL.b any (AL.v p (AL.v x (AL.i (i : Int) AL.n))))) h = some (jU (kZ (jJ nc no (low any)) gs i (gs.drop i)), h')
 | 0, i, n', h, x, g, nm, him, hn => by
  obtain ⟨n, rfl⟩ : ∃ n, n' = n + 2 := ⟨n' - 2, by omega⟩
  rw [aJS]
  unfold WZ
  rw [(sg.sub g.sub).rows.len, List.length_map, aM, aU, aH, if_neg (by simp; omega), List.drop_of_length_le (by omega), aS2]
  exact ⟨h, rfl⟩
 | m + 1, i, n', h, x, g, nm, him, hn => by
  obtain ⟨n, rfl⟩ : ∃ n, n' = n + 3 := ⟨n' - 3, by omega⟩
  have hi : i < gs.length := by omega
  have hg : (gs.map Lk.row)[i]? = some (gs[i]).row := by rw [List.getElem?_map, List.getElem?_eq_getElem hi]; rfl
  have s1 := (sg.sub g.sub).rows
  obtain ⟨q, hq, haq, hl⟩ := s1.at hg
  obtain ⟨x', h', hap, g', nm'⟩ := aGG w g nm (by rw [List.length_map, List.length_take]; omega) (gs[i]).nm
  rw [OL] at nm'
  obtain ⟨hf, IH⟩ := BO w ar sc so ec eo hc ho any sg ag hlen m (i + 1) n h' x' g' nm' (by omega) (by omega)
  have E := aJR nc no any (gs.take i) gs[i]
  have two : ∀ e : Int, e = jJ nc no (low any) (gs.take i) gs[i] → ∃ h2, aK T51 (n + 2) 2 (AL.v v (AL.b any (AL.v p (AL.v x (AL.i (i : Int) (AL.i e AL.n)))))) h = some (jU (kZ (jJ nc no (low any)) gs i (gs[i] :: gs.drop (i + 1))), h2) := by
   intro e ee
   rw [aS0]
   unfold aCV kZ
   rw [← ee, aT, bR, aH]
   by_cases he : e = 0
   ·rw [if_neg (by rw [he]; simp), if_pos he, hq, haq.qB 0 (x := .string (gs[i]).nm) rfl, bBK, aG, hap, aG, aS1]
    unfold aCW
    rw [show Int.add (i : Int) (Int.ofNat 1) = ((i + 1 : Nat) : Int) from rfl, wrap64_in _ (by omega) (by omega)]
    exact ⟨hf, IH⟩
   ·rw [if_pos (by simpa using he), if_neg he]; exact ⟨_, rfl⟩
  rw [aJS]
  unfold WZ
  rw [s1.len, List.length_map, aM, aU, aH, if_pos (by simp; omega), hq, haq.qB 0 (x := .string (gs[i]).nm) rfl, aJT (gs[i]).nm nm.rows (by rw [List.length_map, List.length_take]; omega), aO, aG, aJ, aM, bR, aH, List.drop_eq_getElem_cons hi]
  by_cases c : aGF (gs[i]).nm ((gs.take i).map Lk.nm) = 0
  case neg =>
   rw [if_neg (by simpa using c)]
   rw [if_neg c] at E
   exact two _ E.symm
  rw [if_pos c] at E
  rw [if_pos (by rw [c]; simp), (ar.sub g.sub).dX (z := 4) rfl, hq, haq.dX hl, aAS (sc.sub g.sub) (so.sub g.sub) ec eo hc ho any gs[i] ((ag _ (List.getElem_mem hi)).sub g.sub), aO, aG, aJ]
  exact two _ E.symm
theorem JM {h : Hp} (w : Wf h) {s : Rm} {r : List Value} (a : xN h s r) {v : Value} {gs : List Lk} (sg : jE h 3 v (gs.map Lk.row)) (ag : ∀ g ∈ gs, E9 h g) {most : Int} (hm : most ≤ 100) (any : Bool) (hc : 0 < s.costs.length ∧ s.costs.length ≤ 100) (ho : s.bN.length ≤ 100) :
  ∃ h', F51 [.agg (Array.mk r), v, .int .i64 most, .bool any] h = some (jU (jB most (jJ s.costs.length s.bN.length (low any)) gs), h') := by
 obtain ⟨vc, vo, vf, vp, rfl, sc, so, sf, sp, af, ap⟩ := a
 have start : F51 [.agg (Array.mk (fV vc vo vf vp)), v, .int .i64 most, .bool any] h = aCX (aK T51 999999) (.agg (Array.mk (fV vc vo vf vp))) v most any h := rfl
 rw [start]
 unfold aCX jB
 rw [dS, bJ, sg.rows.len, List.length_map, aM, aU, aH]
 by_cases c : most < (gs.length : Int)
 ·rw [if_pos (by simpa using c), if_pos c]; exact ⟨_, rfl⟩
 rw [if_neg (by simpa using c), if_neg c]
 have g0 : bA h (h.add (.cells (fV vc vo vf vp) 25 none)) := bA.add w _
 have a0 : At (h.add (.cells (fV vc vo vf vp) 25 none)) (.pointer (some ⟨h.next, 0, none⟩)) (fV vc vo vf vp) := At.new
 have := BO g0.wf a0 (sc.sub g0.sub) (so.sub g0.sub) (List.length_map ..) (List.length_map ..) hc ho any (sg.sub g0.sub) (fun g hg => (ag g hg).sub g0.sub) (by omega) gs.length 0 999999 _ (.slice none 0 0) (bA.refl g0.wf) (.inl ⟨rfl, by simp⟩) (by omega) (by omega)
 rw [List.drop_zero] at this
 exact this
theorem aAT {h : Hp} (w : Wf h) {s : Rm} {r : List Value} (a : xN h s r) : ∃ h', F17 [.agg (Array.mk r)] h = some (aN5 (jH s), h') := by
 have start : F17 [.agg (Array.mk r)] h = aCY (aK T17 999999) (.agg (Array.mk r)) h := rfl
 rw [start]
 unfold aCY
 have hr4 := a.len
 rw [dS, bJ]
 have w1 := w.add (.cells r 25 none)
 have a1 : At (h.add (.cells r 25 none)) (.pointer (some ⟨h.next, 0, none⟩)) r := At.new
 replace a := a.sub (bA.add w (.cells r 25 none)).sub
 clear start
 generalize h.add (.cells r 25 none) = h1 at w1 a1 a ⊢
 generalize Value.pointer (some ⟨h.next, 0, none⟩) = p at a1 ⊢
 obtain ⟨vc, vo, vf, vp, rfl, sc, so, sf, sp, af, ap⟩ := a
 have A : xN h1 s (fV vc vo vf vp) := ⟨vc, vo, vf, vp, rfl, sc, so, sf, sp, af, ap⟩
 unfold jH
 rw [a1.qB 0 (x := vc) rfl, show (Int.ofNat 4) = (4 : Int) from rfl, show (Int.ofNat 100) = (100 : Int) from rfl, E8 sc 100 (by omega), aO, aG]
 unfold jU
 rw [bY (v := .int .i64 (lQ 4 100 s.costs).1) rfl, aJ, bY (v := .int .i64 (lQ 4 100 s.costs).2) rfl, aJ, aT, bR, aH]
 by_cases c1 : (lQ 4 100 s.costs).2 = 0
 case neg => rw [if_pos (by simpa using c1), if_pos c1]; exact ⟨_, rfl⟩
 rw [if_neg (by simpa using c1), if_neg (by simpa using c1), a1.qB 1 (x := vo) rfl, show (Int.ofNat 50) = (50 : Int) from rfl, E8 so 50 (by omega), aO, aG]
 unfold jU
 rw [bY (v := .int .i64 (lQ 4 50 s.bN).1) rfl, aJ, bY (v := .int .i64 (lQ 4 50 s.bN).2) rfl, aJ, aT, bR, aH]
 by_cases c2 : (lQ 4 50 s.bN).2 = 0
 case neg => rw [if_pos (by simpa using c2), if_pos c2]; exact ⟨_, rfl⟩
 obtain ⟨n1, n2, _⟩ := AY c1
 obtain ⟨m1, m2, _⟩ := AY c2
 obtain ⟨h4, e4⟩ := JM (h := fH h1) (fT w1) A (v := vf) (gs := s.dA) sf af (most := 6) (by omega) false (by omega) (by omega)
 rw [show low false = 0 from rfl] at e4
 rw [if_neg (by simpa using c2), if_neg (by simpa using c2), a1.dX (z := 4) rfl, a1.qB 2 (x := vf) rfl, show (Int.ofNat 6) = (6 : Int) from rfl, bS e4 rfl, aG]
 unfold jU
 rw [bY (v := .int .i64 (jB 6 (jJ s.costs.length s.bN.length 0) s.dA).1) rfl, aJ, bY (v := .int .i64 (jB 6 (jJ s.costs.length s.bN.length 0) s.dA).2) rfl, aJ, aT, bR, aH]
 by_cases c3 : (jB 6 (jJ s.costs.length s.bN.length 0) s.dA).2 = 0
 case neg => rw [if_pos (by simpa using c3), if_pos c3]; exact ⟨_, rfl⟩
 obtain ⟨h5, e5⟩ := JM (h := fH h1) (fT w1) A (v := vp) (gs := s.cB) sp ap (most := 5) (by omega) true (by omega) (by omega)
 rw [show low true = -1 from rfl] at e5
 rw [if_neg (by simpa using c3), if_neg (by simpa using c3), a1.dX (z := 4) rfl, a1.qB 3 (x := vp) rfl, show (Int.ofNat 5) = (5 : Int) from rfl, bS e5 rfl, aG]
 unfold jU
 rw [bY (v := .int .i64 (jB 5 (jJ s.costs.length s.bN.length (-1)) s.cB).1) rfl, aJ, bY (v := .int .i64 (jB 5 (jJ s.costs.length s.bN.length (-1)) s.cB).2) rfl, aJ, aT, bR, aH]
 by_cases c4 : (jB 5 (jJ s.costs.length s.bN.length (-1)) s.cB).2 = 0
 case neg => rw [if_pos (by simpa using c4), if_pos c4]; exact ⟨_, rfl⟩
 rw [if_neg (by simpa using c4), if_neg (by simpa using c4)]
 exact ⟨_, rfl⟩
end Go.Proofs.Ytepepiajmdpiiaa.K.L
