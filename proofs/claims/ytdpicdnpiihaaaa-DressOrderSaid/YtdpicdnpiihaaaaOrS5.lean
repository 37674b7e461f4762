/- Contracts of told functions: looks of all, Check; what a room without an error is. -/
import Derived.Test.YtdpicdnpiihaaaaOrS4
open Go Go.bI
set_option maxRecDepth 100000
set_option linter.unusedVariables false
namespace Go.Proofs.Ytdpicdnpiihaaaa.K.L
theorem QJ {h : Hp} (w : Wf h) {s : Rm} {r : List Value} (a : FU h s r) {v : Value} {gs : List Lk} (sg : lV h 3 v (gs.map Lk.row)) (ag : ∀ g ∈ gs, LD h g) {most : Int} (hm : most ≤ 900000) (least : Int) (hc : 0 < s.costs.length ∧ s.costs.length ≤ 100) (ho : s.bW.length ≤ 100) :
  ∃ h', F49 [.agg (Array.mk r), v, .int .i64 most, .int .i64 least] h = some (lZ (iP most (iE s.costs.length s.bW.length least) gs), h') := by
 obtain ⟨vc, vo, vf, vp, rfl, sc, so, sf, sp, af, ap⟩ := a
 have start : F49 [.agg (Array.mk (dO vc vo vf vp)), v, .int .i64 most, .int .i64 least] h = aKL (aN T49 999999) (.agg (Array.mk (dO vc vo vf vp))) v most least h := rfl
 rw [start]
 unfold aKL
 rw [fF, bT, bT]
 have g0 : aV h (h.add (.cells (dO vc vo vf vp) 25 none)) := aV.add w _
 have a0 : At (h.add (.cells (dO vc vo vf vp) 25 none)) (.pointer (some ⟨h.next, 0, none⟩)) (dO vc vo vf vp) := At.new
 generalize h.add (.cells (dO vc vo vf vp) 25 none) = h0 at g0 a0 ⊢
 have g1 : aV h (h0.add (.cells [.int .i64 least] 3 none)) := g0.trans (aV.add g0.wf _)
 have a1 : At (h0.add (.cells [.int .i64 least] 3 none)) (.pointer (some ⟨h.next, 0, none⟩)) (dO vc vo vf vp) := aE8 g0.wf a0 _
 have b1 : At (h0.add (.cells [.int .i64 least] 3 none)) (.pointer (some ⟨h0.next, 0, none⟩)) [.int .i64 least] := At.new
 generalize h0.add (.cells [.int .i64 least] 3 none) = h1 at g1 a1 b1 ⊢
 generalize Value.pointer (some ⟨h0.next, 0, none⟩) = pl at b1 ⊢
 generalize Value.pointer (some ⟨h.next, 0, none⟩) = pr at a1 ⊢
 obtain ⟨h2, e2⟩ := aHB (row := Lk.row) (fun _ => rfl) (v := v) (fv := .func (.func 84) #[] #[pr, pl]) (gs := gs) (most := most) (fun g hg => (ag g hg).one) hm
  (fun h => At h pr (dO vc vo vf vp) ∧ At h pl [.int .i64 least] ∧ lV h 1 vc (s.costs.map cZ) ∧ lV h 1 vo (s.bW.map cZ) ∧ ∀ g ∈ gs, LD h g)
  (fun h h' g x => ⟨x.1.sub g.sub, x.2.1.sub g.sub, x.2.2.1.sub g.sub, x.2.2.2.1.sub g.sub, fun y hy => (x.2.2.2.2 y hy).sub g.sub⟩) (fun h x => x) (iE s.costs.length s.bW.length least) (fun h v' i hi hl w q hr => by
   obtain ⟨q1, q2, q3, q4, q5⟩ := q
   obtain ⟨h9, e9⟩ := aHF (h := dF h) (fM w) (v := v') (prev := gs.take i) hr (by rw [List.length_take]; omega) q1 q2 q3 q4 (List.length_map ..) (List.length_map ..) hc ho gs[i] (q5 _ (List.getElem_mem hi))
   exact bO e9 rfl) (h := dF h1) (fM g1.wf) ⟨a1, b1, sc.sub g1.sub, so.sub g1.sub, fun g hg => (ag g hg).sub g1.sub⟩ (sg.sub g1.sub)
 rw [show (Value.func (.func 84) (List.toArray []) (List.toArray [pr, pl])) = .func (.func 84) #[] #[pr, pl] from rfl, bO e2 rfl, aB]
 unfold lZ
 rw [bG (v := .int .i64 (iP most (iE s.costs.length s.bW.length least) gs).1) rfl, aI, bG (v := .int .i64 (iP most (iE s.costs.length s.bW.length least) gs).2) rfl, aI]
 exact ⟨_, rfl⟩
def aRV (x : Int × Int × Int) : Value := .tuple (List.toArray [.int .i64 x.1, .int .i64 x.2.1, .int .i64 x.2.2])
def fC (s : Rm) : Int × Int × Int :=
 if (l8 4 100 s.costs).2 ≠ 0 then (1, l8 4 100 s.costs)
 else if (l8 4 50 s.bW).2 ≠ 0 then (2, l8 4 50 s.bW)
 else if (iP 6 (iE s.costs.length s.bW.length 0) s.bP).2 ≠ 0 then (3, iP 6 (iE s.costs.length s.bW.length 0) s.bP)
 else if (iP 5 (iE s.costs.length s.bW.length (-1)) s.dR).2 ≠ 0 then (4, iP 5 (iE s.costs.length s.bW.length (-1)) s.dR)
 else (0, 0, 0)
theorem xW {α : Type} {most : Int} {f : List α → α → Int} {gs : List α} (h : (iP most f gs).2 = 0) : (gs.length : Int) ≤ most := by
 unfold iP at h
 by_cases c : most < (gs.length : Int)
 ·rw [if_pos c] at h; exact absurd h (by decide)
 ·omega
theorem Z8 {α : Type} (f : List α → α → Int) (all : List α) : ∀ (l : List α) (i : Nat), all.drop i = l → (kT f all i l).2 = 0 → ∀ (j : Nat) (hj : j < all.length), i ≤ j → f (all.take j) all[j] = 0
 | [], i, hd, _, j, hj, hij => by
  have : all.length ≤ i := List.drop_eq_nil_iff.1 hd
  omega
 | g :: l, i, hd, h, j, hj, hij => by
  have hi : i < all.length := by
   by_cases c : i < all.length
   ·exact c
   ·rw [List.drop_of_length_le (by omega)] at hd; cases hd
  have hd2 := hd
  rw [List.drop_eq_getElem_cons hi] at hd2
  injection hd2 with e1 e2
  unfold kT at h
  by_cases e : f (all.take i) g = 0
  ·rw [if_pos e] at h
   by_cases hij2 : i = j
   ·subst hij2; rw [e1]; exact e
   ·exact Z8 f all l (i + 1) e2 h j hj (by omega)
  ·rw [if_neg e] at h; exact absurd h e
theorem DY {α : Type} {most : Int} {f : List α → α → Int} {gs : List α} (h : (iP most f gs).2 = 0) : ∀ k (hk : k < gs.length), f (gs.take k) gs[k] = 0 := by
 have hl := xW h
 unfold iP at h
 rw [if_neg (by omega)] at h
 intro k hk
 exact Z8 f gs gs 0 rfl h k hk (by omega)
theorem DT {many most : Int} {l : List Int} (h : (l8 many most l).2 = 0) : 0 < l.length ∧ (l.length : Int) ≤ many ∧ ∀ n ∈ l, 0 ≤ n ∧ n ≤ most := by
 unfold l8 at h
 by_cases c : l.length = 0
 ·rw [if_pos c] at h; exact absurd h (by decide)
 rw [if_neg c] at h
 refine ⟨by omega, xW h, fun n hn => ?_⟩
 obtain ⟨j, hj, rfl⟩ := List.getElem_of_mem hn
 have := DY h j hj
 unfold MF at this
 cases x : rY 0 most l[j] with
 | false => rw [x] at this; simp at this
 | true => exact tC.1 x
theorem aDG {h : Hp} (w : Wf h) {s : Rm} {r : List Value} (a : FU h s r) : ∃ h', F16 [.agg (Array.mk r)] h = some (aRV (fC s), h') := by
 have start : F16 [.agg (Array.mk r)] h = aKN (aN T16 999999) (.agg (Array.mk r)) h := rfl
 rw [start]
 unfold aKN
 have hr4 := a.len
 rw [fF, bT]
 have w1 := w.add (.cells r 25 none)
 have a1 : At (h.add (.cells r 25 none)) (.pointer (some ⟨h.next, 0, none⟩)) r := At.new
 replace a := a.sub (aV.add w (.cells r 25 none)).sub
 clear start
 generalize h.add (.cells r 25 none) = h1 at w1 a1 a ⊢
 generalize Value.pointer (some ⟨h.next, 0, none⟩) = p at a1 ⊢
 obtain ⟨vc, vo, vf, vp, rfl, sc, so, sf, sp, af, ap⟩ := a
 have A : FU h1 s (dO vc vo vf vp) := ⟨vc, vo, vf, vp, rfl, sc, so, sf, sp, af, ap⟩
 unfold fC
 obtain ⟨h2, e2⟩ := UH (h := dF h1) (fM w1) sc (many := 4) 100 (by omega)
 rw [a1.wP 0 (x := vc) rfl, show (Int.ofNat 4) = (4 : Int) from rfl, show (Int.ofNat 100) = (100 : Int) from rfl, bO e2 rfl, aB]
 unfold lZ
 rw [bG (v := .int .i64 (l8 4 100 s.costs).1) rfl, aI, bG (v := .int .i64 (l8 4 100 s.costs).2) rfl, aI, aR, cK, aH]
 by_cases c1 : (l8 4 100 s.costs).2 = 0
 case neg => rw [if_pos (by simpa using c1), if_pos c1]; exact ⟨_, rfl⟩
 obtain ⟨h3, e3⟩ := UH (h := dF h1) (fM w1) so (many := 4) 50 (by omega)
 rw [if_neg (by simpa using c1), if_neg (by simpa using c1), a1.wP 1 (x := vo) rfl, show (Int.ofNat 50) = (50 : Int) from rfl, bO e3 rfl, aB]
 unfold lZ
 rw [bG (v := .int .i64 (l8 4 50 s.bW).1) rfl, aI, bG (v := .int .i64 (l8 4 50 s.bW).2) rfl, aI, aR, cK, aH]
 by_cases c2 : (l8 4 50 s.bW).2 = 0
 case neg => rw [if_pos (by simpa using c2), if_pos c2]; exact ⟨_, rfl⟩
 obtain ⟨n1, n2, _⟩ := DT c1
 obtain ⟨m1, m2, _⟩ := DT c2
 obtain ⟨h4, e4⟩ := QJ (h := dF h1) (fM w1) A (v := vf) (gs := s.bP) sf af (most := 6) (by omega) 0 (by omega) (by omega)
 rw [if_neg (by simpa using c2), if_neg (by simpa using c2), a1.eX (z := 4) rfl, a1.wP 2 (x := vf) rfl, show (Int.ofNat 6) = (6 : Int) from rfl, show (Int.ofNat 0) = (0 : Int) from rfl, bO e4 rfl, aB]
 unfold lZ
 rw [bG (v := .int .i64 (iP 6 (iE s.costs.length s.bW.length 0) s.bP).1) rfl, aI, bG (v := .int .i64 (iP 6 (iE s.costs.length s.bW.length 0) s.bP).2) rfl, aI, aR, cK, aH]
 by_cases c3 : (iP 6 (iE s.costs.length s.bW.length 0) s.bP).2 = 0
 case neg => rw [if_pos (by simpa using c3), if_pos c3]; exact ⟨_, rfl⟩
 obtain ⟨h5, e5⟩ := QJ (h := dF h1) (fM w1) A (v := vp) (gs := s.dR) sp ap (most := 5) (by omega) (-1) (by omega) (by omega)
 rw [if_neg (by simpa using c3), if_neg (by simpa using c3), a1.eX (z := 4) rfl, a1.wP 3 (x := vp) rfl, show (Int.ofNat 5) = (5 : Int) from rfl, show (Int.negSucc 0) = (-1 : Int) from rfl, bO e5 rfl, aB]
 unfold lZ
 rw [bG (v := .int .i64 (iP 5 (iE s.costs.length s.bW.length (-1)) s.dR).1) rfl, aI, bG (v := .int .i64 (iP 5 (iE s.costs.length s.bW.length (-1)) s.dR).2) rfl, aI, aR, cK, aH]
 by_cases c4 : (iP 5 (iE s.costs.length s.bW.length (-1)) s.dR).2 = 0
 case neg => rw [if_pos (by simpa using c4), if_pos c4]; exact ⟨_, rfl⟩
 rw [if_neg (by simpa using c4), if_neg (by simpa using c4)]
 exact ⟨_, rfl⟩
end Go.Proofs.Ytdpicdnpiihaaaa.K.L
