/- Contracts of told functions: the reference's people, Check. -/
import Derived.Test.YtdpicdnpiihaaaaOrS12
open Go Go.bI
set_option maxRecDepth 100000
set_option linter.unusedVariables false
namespace Go.Proofs.Ytdpicdnpiihaaaa.K.L
theorem aN7 (nc no : Nat) (any : Bool) (prev : List Lk) (g : Lk) : iE nc no (low any) prev g = if aG5 g.nm (prev.map Lk.nm) = 0 then aE4 nc no any g else aG5 g.nm (prev.map Lk.nm) := by
 unfold iE aG5 aE4
 rw [aWQ]
 have e1 := aN2 (any := any) (hi := (no : Int) - 1) (n := gM g) (by omega)
 have e2 : g.lk.tail.all (okB any 5) = g.lk.tail.all (rY (low any) 5) := by
  congr 1; funext n; exact aN2 (by omega)
 rw [e1, e2]
 cases wD g.nm.data.toList with
 | false => rfl
 | true =>
 cases prev.any (fun x => kN x.nm g.nm) with
 | true => rfl
 | false =>
 simp only [Bool.not_true, Bool.false_eq_true, if_false, if_true]
 by_cases c : (g.lk.length : Int) = (nc : Int)
 case neg => rw [if_pos c, if_pos c]
 have cn : ¬ ((g.lk.length : Int) ≠ (nc : Int)) := by simpa using c
 rw [if_neg cn, if_neg cn]
 cases rY (low any) ((no : Int) - 1) (gM g) with
 | false => rfl
 | true =>
 cases g.lk.tail.all (rY (low any) 5) <;> cases rY 0 50 g.lJ <;> rfl
theorem aN8 (n : Nat) (v : Value) (b : Bool) (p x : Value) (i : Int) (h : Hp) : aN T51 (n + 1) 1 (AL.v v (AL.b b (AL.v p (AL.v x (AL.i i AL.n))))) h = aEX (aN T51 n) v b p x i h := rfl
theorem aWR (n : Nat) (v : Value) (b : Bool) (p x : Value) (i e : Int) (h : Hp) : aN T51 (n + 1) 2 (AL.v v (AL.b b (AL.v p (AL.v x (AL.i i (AL.i e AL.n)))))) h = aM3 (aN T51 n) v b p x i e h := rfl
theorem aWS (n : Nat) (v : Value) (b : Bool) (p x : Value) (i : Int) (h : Hp) : aN T51 (n + 1) 3 (AL.v v (AL.b b (AL.v p (AL.v x (AL.i i AL.n))))) h = aM2 (aN T51 n) v b p x i h := rfl
theorem aWT (n : Nat) (h : Hp) : aN T51 (n + 1) 4 AL.n h = some (lZ (0, 0), h) := rfl
theorem EQ {hb : Hp} (w : Wf hb) {v p vc vo vf vp : Value} {nc no : Nat} {rc ro : List (List Value)} (ar : At hb p (dO vc vo vf vp)) (sc : lV hb 1 vc rc) (so : lV hb 1 vo ro) (ec : rc.length = nc) (eo : ro.length = no) (hc : 0 < nc ∧ nc ≤ 100) (ho : no ≤ 100) (any : Bool)
  {gs : List Lk} (sg : lV hb 3 v (gs.map Lk.row)) (ag : ∀ g ∈ gs, LD hb g) (hlen : gs.length ≤ 100) : ∀ (m i n : Nat) (h : Hp) (x : Value), aV hb h → NmA hb h x ((gs.take i).map Lk.nm) → i + m = gs.length → 3 * m + 2 ≤ n →
  ∃ h', aN T51 n 1 (AL.v v (AL.b any (AL.v p (AL.v x (AL.i (i : Int) AL.n))))) h = some (lZ (kT (iE nc no (low any)) gs i (gs.drop i)), h')
 | 0, i, n', h, x, g, nm, him, hn => by
  obtain ⟨n, rfl⟩ : ∃ n, n' = n + 2 := ⟨n' - 2, by omega⟩
  rw [aN8]
  unfold aEX
  rw [(sg.sub g.sub).rows.len, List.length_map, aQ, aW, aH, if_neg (by simp; omega), List.drop_of_length_le (by omega), aWT]
  exact ⟨h, rfl⟩
 | m + 1, i, n', h, x, g, nm, him, hn => by
  obtain ⟨n, rfl⟩ : ∃ n, n' = n + 3 := ⟨n' - 3, by omega⟩
  have hi : i < gs.length := by omega
  have hg : (gs.map Lk.row)[i]? = some (gs[i]).row := by rw [List.getElem?_map, List.getElem?_eq_getElem hi]; rfl
  have s1 := (sg.sub g.sub).rows
  obtain ⟨q, hq, haq, hl⟩ := s1.at hg
  obtain ⟨x', h', hap, g', nm'⟩ := aG6 w g nm (by rw [List.length_map, List.length_take]; omega) (gs[i]).nm
  rw [RD] at nm'
  obtain ⟨hf, IH⟩ := EQ w ar sc so ec eo hc ho any sg ag hlen m (i + 1) n h' x' g' nm' (by omega) (by omega)
  have E := aN7 nc no any (gs.take i) gs[i]
  have two : ∀ e : Int, e = iE nc no (low any) (gs.take i) gs[i] → ∃ h2, aN T51 (n + 2) 2 (AL.v v (AL.b any (AL.v p (AL.v x (AL.i (i : Int) (AL.i e AL.n)))))) h = some (lZ (kT (iE nc no (low any)) gs i (gs[i] :: gs.drop (i + 1))), h2) := by
   intro e ee
   rw [aWR]
   unfold aM3 kT
   rw [← ee, aR, cK, aH]
   by_cases he : e = 0
   ·rw [if_neg (by rw [he]; simp), if_pos he, hq, haq.wP 0 (x := .string (gs[i]).nm) rfl, bIA, aB, hap, aB, aWS]
    unfold aM2
    rw [show Int.add (i : Int) (Int.ofNat 1) = ((i + 1 : Nat) : Int) from rfl, wrap64_in _ (by omega) (by omega)]
    exact ⟨hf, IH⟩
   ·rw [if_pos (by simpa using he), if_neg he]; exact ⟨_, rfl⟩
  rw [aN8]
  unfold aEX
  rw [s1.len, List.length_map, aQ, aW, aH, if_pos (by simp; omega), hq, haq.wP 0 (x := .string (gs[i]).nm) rfl, aN9 (gs[i]).nm nm.rows (by rw [List.length_map, List.length_take]; omega), aM, aB, aI, aQ, cK, aH, List.drop_eq_getElem_cons hi]
  by_cases c : aG5 (gs[i]).nm ((gs.take i).map Lk.nm) = 0
  case neg =>
   rw [if_neg (by simpa using c)]
   rw [if_neg c] at E
   exact two _ E.symm
  rw [if_pos c] at E
  rw [if_pos (by rw [c]; simp), (ar.sub g.sub).eX (z := 4) rfl, hq, haq.eX hl, aC3 (sc.sub g.sub) (so.sub g.sub) ec eo hc ho any gs[i] ((ag _ (List.getElem_mem hi)).sub g.sub), aM, aB, aI]
  exact two _ E.symm
theorem LF {h : Hp} (w : Wf h) {s : Rm} {r : List Value} (a : FU h s r) {v : Value} {gs : List Lk} (sg : lV h 3 v (gs.map Lk.row)) (ag : ∀ g ∈ gs, LD h g) {most : Int} (hm : most ≤ 100) (any : Bool) (hc : 0 < s.costs.length ∧ s.costs.length ≤ 100) (ho : s.bW.length ≤ 100) :
  ∃ h', F51 [.agg (Array.mk r), v, .int .i64 most, .bool any] h = some (lZ (iP most (iE s.costs.length s.bW.length (low any)) gs), h') := by
 obtain ⟨vc, vo, vf, vp, rfl, sc, so, sf, sp, af, ap⟩ := a
 have start : F51 [.agg (Array.mk (dO vc vo vf vp)), v, .int .i64 most, .bool any] h = aM4 (aN T51 999999) (.agg (Array.mk (dO vc vo vf vp))) v most any h := rfl
 rw [start]
 unfold aM4 iP
 rw [fF, bT, sg.rows.len, List.length_map, aQ, aW, aH]
 by_cases c : most < (gs.length : Int)
 ·rw [if_pos (by simpa using c), if_pos c]; exact ⟨_, rfl⟩
 rw [if_neg (by simpa using c), if_neg c]
 have g0 : aV h (h.add (.cells (dO vc vo vf vp) 25 none)) := aV.add w _
 have a0 : At (h.add (.cells (dO vc vo vf vp) 25 none)) (.pointer (some ⟨h.next, 0, none⟩)) (dO vc vo vf vp) := At.new
 have := EQ g0.wf a0 (sc.sub g0.sub) (so.sub g0.sub) (List.length_map ..) (List.length_map ..) hc ho any (sg.sub g0.sub) (fun g hg => (ag g hg).sub g0.sub) (by omega) gs.length 0 999999 _ (.slice none 0 0) (aV.refl g0.wf) (.inl ⟨rfl, by simp⟩) (by omega) (by omega)
 rw [List.drop_zero] at this
 exact this
theorem aC4 {h : Hp} (w : Wf h) {s : Rm} {r : List Value} (a : FU h s r) : ∃ h', F17 [.agg (Array.mk r)] h = some (aRV (fC s), h') := by
 have start : F17 [.agg (Array.mk r)] h = aM6 (aN T17 999999) (.agg (Array.mk r)) h := rfl
 rw [start]
 unfold aM6
 have hr4 := a.len
 rw [fF, bT]
 have w1 := w.add (.cells r 25 none)
 have a1 : At (h.add (.cells r 25 none)) (.pointer (some ⟨h.next, 0, none⟩)) r := At.new
 replace a := a.sub (aV.add w (.cells r 25 none)).sub
 clear start
 generalize h.add (.cells r 25 none) = h1 at w1 a1 a ⊢
 generalize Value.pointer (some ⟨h.next, 0, none⟩) = p at a1 ⊢
 obtain ⟨vc, vo, vf, vp, rfl, sc, so, sf, sp, af, ap⟩ := a
 have A : FU h1 s (dO vc vo vf vp) := ⟨vc, vo, vf, vp, rfl, sc, so, sf, sp, af, ap⟩
 unfold fC
 rw [a1.wP 0 (x := vc) rfl, show (Int.ofNat 4) = (4 : Int) from rfl, show (Int.ofNat 100) = (100 : Int) from rfl, IP sc 100 (by omega), aM, aB]
 unfold lZ
 rw [bG (v := .int .i64 (l8 4 100 s.costs).1) rfl, aI, bG (v := .int .i64 (l8 4 100 s.costs).2) rfl, aI, aR, cK, aH]
 by_cases c1 : (l8 4 100 s.costs).2 = 0
 case neg => rw [if_pos (by simpa using c1), if_pos c1]; exact ⟨_, rfl⟩
 rw [if_neg (by simpa using c1), if_neg (by simpa using c1), a1.wP 1 (x := vo) rfl, show (Int.ofNat 50) = (50 : Int) from rfl, IP so 50 (by omega), aM, aB]
 unfold lZ
 rw [bG (v := .int .i64 (l8 4 50 s.bW).1) rfl, aI, bG (v := .int .i64 (l8 4 50 s.bW).2) rfl, aI, aR, cK, aH]
 by_cases c2 : (l8 4 50 s.bW).2 = 0
 case neg => rw [if_pos (by simpa using c2), if_pos c2]; exact ⟨_, rfl⟩
 obtain ⟨n1, n2, _⟩ := DT c1
 obtain ⟨m1, m2, _⟩ := DT c2
 obtain ⟨h4, e4⟩ := LF (h := dF h1) (fM w1) A (v := vf) (gs := s.bP) sf af (most := 6) (by omega) false (by omega) (by omega)
 rw [show low false = 0 from rfl] at e4
 rw [if_neg (by simpa using c2), if_neg (by simpa using c2), a1.eX (z := 4) rfl, a1.wP 2 (x := vf) rfl, show (Int.ofNat 6) = (6 : Int) from rfl, bO e4 rfl, aB]
 unfold lZ
 rw [bG (v := .int .i64 (iP 6 (iE s.costs.length s.bW.length 0) s.bP).1) rfl, aI, bG (v := .int .i64 (iP 6 (iE s.costs.length s.bW.length 0) s.bP).2) rfl, aI, aR, cK, aH]
 by_cases c3 : (iP 6 (iE s.costs.length s.bW.length 0) s.bP).2 = 0
 case neg => rw [if_pos (by simpa using c3), if_pos c3]; exact ⟨_, rfl⟩
 obtain ⟨h5, e5⟩ := LF (h := dF h1) (fM w1) A (v := vp) (gs := s.dR) sp ap (most := 5) (by omega) true (by omega) (by omega)
 rw [show low true = -1 from rfl] at e5
 rw [if_neg (by simpa using c3), if_neg (by simpa using c3), a1.eX (z := 4) rfl, a1.wP 3 (x := vp) rfl, show (Int.ofNat 5) = (5 : Int) from rfl, bO e5 rfl, aB]
 unfold lZ
 rw [bG (v := .int .i64 (iP 5 (iE s.costs.length s.bW.length (-1)) s.dR).1) rfl, aI, bG (v := .int .i64 (iP 5 (iE s.costs.length s.bW.length (-1)) s.dR).2) rfl, aI, aR, cK, aH]
 by_cases c4 : (iP 5 (iE s.costs.length s.bW.length (-1)) s.dR).2 = 0
 case neg => rw [if_pos (by simpa using c4), if_pos c4]; exact ⟨_, rfl⟩
 rw [if_neg (by simpa using c4), if_neg (by simpa using c4)]
 exact ⟨_, rfl⟩
end Go.Proofs.Ytdpicdnpiihaaaa.K.L
