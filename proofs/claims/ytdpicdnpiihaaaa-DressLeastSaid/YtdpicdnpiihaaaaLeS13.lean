/- Contracts of told functions: the reference's people, Check. -/
import Derived.Test.YtdpicdnpiihaaaaLeS12
open Go Go.bK
set_option maxRecDepth 100000
set_option linter.unusedVariables false
namespace Go.Proofs.Ytdpicdnpiihaaaa.K.L
theorem aOF (nc no : Nat) (any : Bool) (prev : List Lk) (g : Lk) : jZ nc no (low any) prev g = if aGZ g.nm (prev.map Lk.nm) = 0 then aE9 nc no any g else aGZ g.nm (prev.map Lk.nm) := by
 unfold jZ aGZ aE9
 rw [aW6]
 have e1 := aOA (any := any) (hi := (no : Int) - 1) (n := eU g) (by omega)
 have e2 : g.lk.tail.all (okB any 5) = g.lk.tail.all (qC (low any) 5) := by
  congr 1; funext n; exact aOA (by omega)
 rw [e1, e2]
 cases xQ g.nm.data.toList with
 | false => rfl
 | true =>
 cases prev.any (fun x => nC x.nm g.nm) with
 | true => rfl
 | false =>
 simp only [Bool.not_true, Bool.false_eq_true, if_false, if_true]
 by_cases c : (g.lk.length : Int) = (nc : Int)
 case neg => rw [if_pos c, if_pos c]
 have cn : ¬ ((g.lk.length : Int) ≠ (nc : Int)) := by simpa using c
 rw [if_neg cn, if_neg cn]
 cases qC (low any) ((no : Int) - 1) (eU g) with
 | false => rfl
 | true =>
 cases g.lk.tail.all (qC (low any) 5) <;> cases qC 0 50 g.iW <;> rfl
theorem aOG (n : Nat) (v : Value) (b : Bool) (p x : Value) (i : Int) (h : Hp) : aI T51 (n + 1) 1 (AL.v v (AL.b b (AL.v p (AL.v x (AL.i i AL.n))))) h = aEX (aI T51 n) v b p x i h := rfl
theorem aW7 (n : Nat) (v : Value) (b : Bool) (p x : Value) (i e : Int) (h : Hp) : aI T51 (n + 1) 2 (AL.v v (AL.b b (AL.v p (AL.v x (AL.i i (AL.i e AL.n)))))) h = aM7 (aI T51 n) v b p x i e h := rfl
theorem aW8 (n : Nat) (v : Value) (b : Bool) (p x : Value) (i : Int) (h : Hp) : aI T51 (n + 1) 3 (AL.v v (AL.b b (AL.v p (AL.v x (AL.i i AL.n))))) h = aM6 (aI T51 n) v b p x i h := rfl
theorem aW9 (n : Nat) (h : Hp) : aI T51 (n + 1) 4 AL.n h = some (lD (0, 0), h) := rfl
theorem EQ {hb : Hp} (w : Wf hb) {v p vc vo vf vp : Value} {nc no : Nat} {rc ro : List (List Value)} (ar : At hb p (fP vc vo vf vp)) (sc : jC hb 1 vc rc) (so : jC hb 1 vo ro) (ec : rc.length = nc) (eo : ro.length = no) (hc : 0 < nc ∧ nc ≤ 100) (ho : no ≤ 100) (any : Bool)
  {gs : List Lk} (sg : jC hb 3 v (gs.map Lk.row)) (ag : ∀ g ∈ gs, IU hb g) (hlen : gs.length ≤ 100) : ∀ (m i n : Nat) (h : Hp) (x : Value), aR hb h → NmA hb h x ((gs.take i).map Lk.nm) → i + m = gs.length → 3 * m + 2 ≤ n →
  ∃ h', aI T51 n 1 (AL.v v (AL.b any (AL.v p (AL.v x (AL.i (i : Int) AL.n))))) h = some (lD (lX (jZ nc no (low any)) gs i (gs.drop i)), h')
 | 0, i, n', h, x, g, nm, him, hn => by
  obtain ⟨n, rfl⟩ : ∃ n, n' = n + 2 := ⟨n' - 2, by omega⟩
  rw [aOG]
  unfold aEX
  rw [(sg.sub g.sub).rows.len, List.length_map, aH, aN, aC, if_neg (by simp; omega), List.drop_of_length_le (by omega), aW9]
  exact ⟨h, rfl⟩
 | m + 1, i, n', h, x, g, nm, him, hn => by
  obtain ⟨n, rfl⟩ : ∃ n, n' = n + 3 := ⟨n' - 3, by omega⟩
  have hi : i < gs.length := by omega
  have hg : (gs.map Lk.row)[i]? = some (gs[i]).row := by rw [List.getElem?_map, List.getElem?_eq_getElem hi]; rfl
  have s1 := (sg.sub g.sub).rows
  obtain ⟨q, hq, haq, hl⟩ := s1.at hg
  obtain ⟨x', h', hap, g', nm'⟩ := aG0 w g nm (by rw [List.length_map, List.length_take]; omega) (gs[i]).nm
  rw [RF] at nm'
  obtain ⟨hf, IH⟩ := EQ w ar sc so ec eo hc ho any sg ag hlen m (i + 1) n h' x' g' nm' (by omega) (by omega)
  have E := aOF nc no any (gs.take i) gs[i]
  have two : ∀ e : Int, e = jZ nc no (low any) (gs.take i) gs[i] → ∃ h2, aI T51 (n + 2) 2 (AL.v v (AL.b any (AL.v p (AL.v x (AL.i (i : Int) (AL.i e AL.n)))))) h = some (lD (lX (jZ nc no (low any)) gs i (gs[i] :: gs.drop (i + 1))), h2) := by
   intro e ee
   rw [aW7]
   unfold aM7 lX
   rw [← ee, aP, aY, aC]
   by_cases he : e = 0
   ·rw [if_neg (by rw [he]; simp), if_pos he, hq, haq.pF 0 (x := .string (gs[i]).nm) rfl, bGY, aB, hap, aB, aW8]
    unfold aM6
    rw [show Int.add (i : Int) (Int.ofNat 1) = ((i + 1 : Nat) : Int) from rfl, wrap64_in _ (by omega) (by omega)]
    exact ⟨hf, IH⟩
   ·rw [if_pos (by simpa using he), if_neg he]; exact ⟨_, rfl⟩
  rw [aOG]
  unfold aEX
  rw [s1.len, List.length_map, aH, aN, aC, if_pos (by simp; omega), hq, haq.pF 0 (x := .string (gs[i]).nm) rfl, aOH (gs[i]).nm nm.rows (by rw [List.length_map, List.length_take]; omega), aK, aB, aG, aH, aY, aC, List.drop_eq_getElem_cons hi]
  by_cases c : aGZ (gs[i]).nm ((gs.take i).map Lk.nm) = 0
  case neg =>
   rw [if_neg (by simpa using c)]
   rw [if_neg c] at E
   exact two _ E.symm
  rw [if_pos c] at E
  rw [if_pos (by rw [c]; simp), (ar.sub g.sub).dL (z := 4) rfl, hq, haq.dL hl, aCZ (sc.sub g.sub) (so.sub g.sub) ec eo hc ho any gs[i] ((ag _ (List.getElem_mem hi)).sub g.sub), aK, aB, aG]
  exact two _ E.symm
theorem LG {h : Hp} (w : Wf h) {s : Rm} {r : List Value} (a : zC h s r) {v : Value} {gs : List Lk} (sg : jC h 3 v (gs.map Lk.row)) (ag : ∀ g ∈ gs, IU h g) {most : Int} (hm : most ≤ 100) (any : Bool) (hc : 0 < s.costs.length ∧ s.costs.length ≤ 100) (ho : s.bV.length ≤ 100) :
  ∃ h', F51 [.agg (Array.mk r), v, .int .i64 most, .bool any] h = some (lD (jO most (jZ s.costs.length s.bV.length (low any)) gs), h') := by
 obtain ⟨vc, vo, vf, vp, rfl, sc, so, sf, sp, af, ap⟩ := a
 have start : F51 [.agg (Array.mk (fP vc vo vf vp)), v, .int .i64 most, .bool any] h = aM8 (aI T51 999999) (.agg (Array.mk (fP vc vo vf vp))) v most any h := rfl
 rw [start]
 unfold aM8 jO
 rw [dN, aX, sg.rows.len, List.length_map, aH, aN, aC]
 by_cases c : most < (gs.length : Int)
 ·rw [if_pos (by simpa using c), if_pos c]; exact ⟨_, rfl⟩
 rw [if_neg (by simpa using c), if_neg c]
 have g0 : aR h (h.add (.cells (fP vc vo vf vp) 25 none)) := aR.add w _
 have a0 : At (h.add (.cells (fP vc vo vf vp) 25 none)) (.pointer (some ⟨h.next, 0, none⟩)) (fP vc vo vf vp) := At.new
 have := EQ g0.wf a0 (sc.sub g0.sub) (so.sub g0.sub) (List.length_map ..) (List.length_map ..) hc ho any (sg.sub g0.sub) (fun g hg => (ag g hg).sub g0.sub) (by omega) gs.length 0 999999 _ (.slice none 0 0) (aR.refl g0.wf) (.inl ⟨rfl, by simp⟩) (by omega) (by omega)
 rw [List.drop_zero] at this
 exact this
theorem PU {h : Hp} (w : Wf h) {s : Rm} {r : List Value} (a : zC h s r) : ∃ h', F17 [.agg (Array.mk r)] h = some (aOI (gD s), h') := by
 have start : F17 [.agg (Array.mk r)] h = aNA (aI T17 999999) (.agg (Array.mk r)) h := rfl
 rw [start]
 unfold aNA
 have hr4 := a.len
 rw [dN, aX]
 have w1 := w.add (.cells r 25 none)
 have a1 : At (h.add (.cells r 25 none)) (.pointer (some ⟨h.next, 0, none⟩)) r := At.new
 replace a := a.sub (aR.add w (.cells r 25 none)).sub
 clear start
 generalize h.add (.cells r 25 none) = h1 at w1 a1 a ⊢
 generalize Value.pointer (some ⟨h.next, 0, none⟩) = p at a1 ⊢
 obtain ⟨vc, vo, vf, vp, rfl, sc, so, sf, sp, af, ap⟩ := a
 have A : zC h1 s (fP vc vo vf vp) := ⟨vc, vo, vf, vp, rfl, sc, so, sf, sp, af, ap⟩
 unfold gD
 rw [a1.pF 0 (x := vc) rfl, show (Int.ofNat 4) = (4 : Int) from rfl, show (Int.ofNat 100) = (100 : Int) from rfl, IR sc 100 (by omega), aK, aB]
 unfold lD
 rw [bP (v := .int .i64 (mQ 4 100 s.costs).1) rfl, aG, bP (v := .int .i64 (mQ 4 100 s.costs).2) rfl, aG, aP, aY, aC]
 by_cases c1 : (mQ 4 100 s.costs).2 = 0
 case neg => rw [if_pos (by simpa using c1), if_pos c1]; exact ⟨_, rfl⟩
 rw [if_neg (by simpa using c1), if_neg (by simpa using c1), a1.pF 1 (x := vo) rfl, show (Int.ofNat 50) = (50 : Int) from rfl, IR so 50 (by omega), aK, aB]
 unfold lD
 rw [bP (v := .int .i64 (mQ 4 50 s.bV).1) rfl, aG, bP (v := .int .i64 (mQ 4 50 s.bV).2) rfl, aG, aP, aY, aC]
 by_cases c2 : (mQ 4 50 s.bV).2 = 0
 case neg => rw [if_pos (by simpa using c2), if_pos c2]; exact ⟨_, rfl⟩
 obtain ⟨n1, n2, _⟩ := DY c1
 obtain ⟨m1, m2, _⟩ := DY c2
 obtain ⟨h4, e4⟩ := LG (h := bY h1) (eF w1) A (v := vf) (gs := s.bR) sf af (most := 6) (by omega) false (by omega) (by omega)
 rw [show low false = 0 from rfl] at e4
 rw [if_neg (by simpa using c2), if_neg (by simpa using c2), a1.dL (z := 4) rfl, a1.pF 2 (x := vf) rfl, show (Int.ofNat 6) = (6 : Int) from rfl, aZ e4 rfl, aB]
 unfold lD
 rw [bP (v := .int .i64 (jO 6 (jZ s.costs.length s.bV.length 0) s.bR).1) rfl, aG, bP (v := .int .i64 (jO 6 (jZ s.costs.length s.bV.length 0) s.bR).2) rfl, aG, aP, aY, aC]
 by_cases c3 : (jO 6 (jZ s.costs.length s.bV.length 0) s.bR).2 = 0
 case neg => rw [if_pos (by simpa using c3), if_pos c3]; exact ⟨_, rfl⟩
 obtain ⟨h5, e5⟩ := LG (h := bY h1) (eF w1) A (v := vp) (gs := s.bE) sp ap (most := 5) (by omega) true (by omega) (by omega)
 rw [show low true = -1 from rfl] at e5
 rw [if_neg (by simpa using c3), if_neg (by simpa using c3), a1.dL (z := 4) rfl, a1.pF 3 (x := vp) rfl, show (Int.ofNat 5) = (5 : Int) from rfl, aZ e5 rfl, aB]
 unfold lD
 rw [bP (v := .int .i64 (jO 5 (jZ s.costs.length s.bV.length (-1)) s.bE).1) rfl, aG, bP (v := .int .i64 (jO 5 (jZ s.costs.length s.bV.length (-1)) s.bE).2) rfl, aG, aP, aY, aC]
 by_cases c4 : (jO 5 (jZ s.costs.length s.bV.length (-1)) s.bE).2 = 0
 case neg => rw [if_pos (by simpa using c4), if_pos c4]; exact ⟨_, rfl⟩
 rw [if_neg (by simpa using c4), if_neg (by simpa using c4)]
 exact ⟨_, rfl⟩
end Go.Proofs.Ytdpicdnpiihaaaa.K.L
