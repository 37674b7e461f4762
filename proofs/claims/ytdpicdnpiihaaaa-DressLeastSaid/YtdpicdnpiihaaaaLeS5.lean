/- Contracts of told functions: looks of all, Check; what a room without an error is. -/
import Derived.Test.YtdpicdnpiihaaaaLeS4
open Go Go.bK
set_option maxRecDepth 100000
set_option linter.unusedVariables false
namespace Go.Proofs.Ytdpicdnpiihaaaa.K.L
theorem QV {h : Hp} (w : Wf h) {s : Rm} {r : List Value} (a : zC h s r) {v : Value} {gs : List Lk} (sg : jC h 3 v (gs.map Lk.row)) (ag : ∀ g ∈ gs, IU h g) {most : Int} (hm : most ≤ 900000) (least : Int) (hc : 0 < s.costs.length ∧ s.costs.length ≤ 100) (ho : s.bV.length ≤ 100) :
  ∃ h', F49 [.agg (Array.mk r), v, .int .i64 most, .int .i64 least] h = some (lD (jO most (jZ s.costs.length s.bV.length least) gs), h') := by
 obtain ⟨vc, vo, vf, vp, rfl, sc, so, sf, sp, af, ap⟩ := a
 have start : F49 [.agg (Array.mk (fP vc vo vf vp)), v, .int .i64 most, .int .i64 least] h = aKN (aI T49 999999) (.agg (Array.mk (fP vc vo vf vp))) v most least h := rfl
 rw [start]
 unfold aKN
 rw [dN, aX, aX]
 have g0 : aR h (h.add (.cells (fP vc vo vf vp) 25 none)) := aR.add w _
 have a0 : At (h.add (.cells (fP vc vo vf vp) 25 none)) (.pointer (some ⟨h.next, 0, none⟩)) (fP vc vo vf vp) := At.new
 generalize h.add (.cells (fP vc vo vf vp) 25 none) = h0 at g0 a0 ⊢
 have g1 : aR h (h0.add (.cells [.int .i64 least] 3 none)) := g0.trans (aR.add g0.wf _)
 have a1 : At (h0.add (.cells [.int .i64 least] 3 none)) (.pointer (some ⟨h.next, 0, none⟩)) (fP vc vo vf vp) := LH g0.wf a0 _
 have b1 : At (h0.add (.cells [.int .i64 least] 3 none)) (.pointer (some ⟨h0.next, 0, none⟩)) [.int .i64 least] := At.new
 generalize h0.add (.cells [.int .i64 least] 3 none) = h1 at g1 a1 b1 ⊢
 generalize Value.pointer (some ⟨h0.next, 0, none⟩) = pl at b1 ⊢
 generalize Value.pointer (some ⟨h.next, 0, none⟩) = pr at a1 ⊢
 obtain ⟨h2, e2⟩ := aHD (row := Lk.row) (fun _ => rfl) (v := v) (fv := .func (.func 84) #[] #[pr, pl]) (gs := gs) (most := most) (fun g hg => (ag g hg).one) hm
  (fun h => At h pr (fP vc vo vf vp) ∧ At h pl [.int .i64 least] ∧ jC h 1 vc (s.costs.map bB) ∧ jC h 1 vo (s.bV.map bB) ∧ ∀ g ∈ gs, IU h g)
  (fun h h' g x => ⟨x.1.sub g.sub, x.2.1.sub g.sub, x.2.2.1.sub g.sub, x.2.2.2.1.sub g.sub, fun y hy => (x.2.2.2.2 y hy).sub g.sub⟩) (fun h x => x) (jZ s.costs.length s.bV.length least) (fun h v' i hi hl w q hr => by
   obtain ⟨q1, q2, q3, q4, q5⟩ := q
   obtain ⟨h9, e9⟩ := aHI (h := bY h) (eF w) (v := v') (prev := gs.take i) hr (by rw [List.length_take]; omega) q1 q2 q3 q4 (List.length_map ..) (List.length_map ..) hc ho gs[i] (q5 _ (List.getElem_mem hi))
   exact aZ e9 rfl) (h := bY h1) (eF g1.wf) ⟨a1, b1, sc.sub g1.sub, so.sub g1.sub, fun g hg => (ag g hg).sub g1.sub⟩ (sg.sub g1.sub)
 rw [show (Value.func (.func 84) (List.toArray []) (List.toArray [pr, pl])) = .func (.func 84) #[] #[pr, pl] from rfl, aZ e2 rfl, aB]
 unfold lD
 rw [bP (v := .int .i64 (jO most (jZ s.costs.length s.bV.length least) gs).1) rfl, aG, bP (v := .int .i64 (jO most (jZ s.costs.length s.bV.length least) gs).2) rfl, aG]
 exact ⟨_, rfl⟩
def aOI (x : Int × Int × Int) : Value := .tuple (List.toArray [.int .i64 x.1, .int .i64 x.2.1, .int .i64 x.2.2])
def gD (s : Rm) : Int × Int × Int :=
 if (mQ 4 100 s.costs).2 ≠ 0 then (1, mQ 4 100 s.costs)
 else if (mQ 4 50 s.bV).2 ≠ 0 then (2, mQ 4 50 s.bV)
 else if (jO 6 (jZ s.costs.length s.bV.length 0) s.bR).2 ≠ 0 then (3, jO 6 (jZ s.costs.length s.bV.length 0) s.bR)
 else if (jO 5 (jZ s.costs.length s.bV.length (-1)) s.bE).2 ≠ 0 then (4, jO 5 (jZ s.costs.length s.bV.length (-1)) s.bE)
 else (0, 0, 0)
theorem D6 {α : Type} {most : Int} {f : List α → α → Int} {gs : List α} (h : (jO most f gs).2 = 0) : (gs.length : Int) ≤ most := by
 unfold jO at h
 by_cases c : most < (gs.length : Int)
 ·rw [if_pos c] at h; exact absurd h (by decide)
 ·omega
theorem aAG {α : Type} (f : List α → α → Int) (all : List α) : ∀ (l : List α) (i : Nat), all.drop i = l → (lX f all i l).2 = 0 → ∀ (j : Nat) (hj : j < all.length), i ≤ j → f (all.take j) all[j] = 0
 | [], i, hd, _, j, hj, hij => by
  have : all.length ≤ i := List.drop_eq_nil_iff.1 hd
  omega
 | g :: l, i, hd, h, j, hj, hij => by
  have hi : i < all.length := by
   by_cases c : i < all.length
   ·exact c
   ·rw [List.drop_of_length_le (by omega)] at hd; cases hd
  have hd2 := hd
  rw [List.drop_eq_getElem_cons hi] at hd2
  injection hd2 with e1 e2
  unfold lX at h
  by_cases e : f (all.take i) g = 0
  ·rw [if_pos e] at h
   by_cases hij2 : i = j
   ·subst hij2; rw [e1]; exact e
   ·exact aAG f all l (i + 1) e2 h j hj (by omega)
  ·rw [if_neg e] at h; exact absurd h e
theorem KG {α : Type} {most : Int} {f : List α → α → Int} {gs : List α} (h : (jO most f gs).2 = 0) : ∀ k (hk : k < gs.length), f (gs.take k) gs[k] = 0 := by
 have hl := D6 h
 unfold jO at h
 rw [if_neg (by omega)] at h
 intro k hk
 exact aAG f gs gs 0 rfl h k hk (by omega)
theorem DY {many most : Int} {l : List Int} (h : (mQ many most l).2 = 0) : 0 < l.length ∧ (l.length : Int) ≤ many ∧ ∀ n ∈ l, 0 ≤ n ∧ n ≤ most := by
 unfold mQ at h
 by_cases c : l.length = 0
 ·rw [if_pos c] at h; exact absurd h (by decide)
 rw [if_neg c] at h
 refine ⟨by omega, D6 h, fun n hn => ?_⟩
 obtain ⟨j, hj, rfl⟩ := List.getElem_of_mem hn
 have := KG h j hj
 unfold ML at this
 cases x : qC 0 most l[j] with
 | false => rw [x] at this; simp at this
 | true => exact oK.1 x
theorem aDH {h : Hp} (w : Wf h) {s : Rm} {r : List Value} (a : zC h s r) : ∃ h', F16 [.agg (Array.mk r)] h = some (aOI (gD s), h') := by
 have start : F16 [.agg (Array.mk r)] h = aKP (aI T16 999999) (.agg (Array.mk r)) h := rfl
 rw [start]
 unfold aKP
 have hr4 := a.len
 rw [dN, aX]
 have w1 := w.add (.cells r 25 none)
 have a1 : At (h.add (.cells r 25 none)) (.pointer (some ⟨h.next, 0, none⟩)) r := At.new
 replace a := a.sub (aR.add w (.cells r 25 none)).sub
 clear start
 generalize h.add (.cells r 25 none) = h1 at w1 a1 a ⊢
 generalize Value.pointer (some ⟨h.next, 0, none⟩) = p at a1 ⊢
 obtain ⟨vc, vo, vf, vp, rfl, sc, so, sf, sp, af, ap⟩ := a
 have A : zC h1 s (fP vc vo vf vp) := ⟨vc, vo, vf, vp, rfl, sc, so, sf, sp, af, ap⟩
 unfold gD
 obtain ⟨h2, e2⟩ := UQ (h := bY h1) (eF w1) sc (many := 4) 100 (by omega)
 rw [a1.pF 0 (x := vc) rfl, show (Int.ofNat 4) = (4 : Int) from rfl, show (Int.ofNat 100) = (100 : Int) from rfl, aZ e2 rfl, aB]
 unfold lD
 rw [bP (v := .int .i64 (mQ 4 100 s.costs).1) rfl, aG, bP (v := .int .i64 (mQ 4 100 s.costs).2) rfl, aG, aP, aY, aC]
 by_cases c1 : (mQ 4 100 s.costs).2 = 0
 case neg => rw [if_pos (by simpa using c1), if_pos c1]; exact ⟨_, rfl⟩
 obtain ⟨h3, e3⟩ := UQ (h := bY h1) (eF w1) so (many := 4) 50 (by omega)
 rw [if_neg (by simpa using c1), if_neg (by simpa using c1), a1.pF 1 (x := vo) rfl, show (Int.ofNat 50) = (50 : Int) from rfl, aZ e3 rfl, aB]
 unfold lD
 rw [bP (v := .int .i64 (mQ 4 50 s.bV).1) rfl, aG, bP (v := .int .i64 (mQ 4 50 s.bV).2) rfl, aG, aP, aY, aC]
 by_cases c2 : (mQ 4 50 s.bV).2 = 0
 case neg => rw [if_pos (by simpa using c2), if_pos c2]; exact ⟨_, rfl⟩
 obtain ⟨n1, n2, _⟩ := DY c1
 obtain ⟨m1, m2, _⟩ := DY c2
 obtain ⟨h4, e4⟩ := QV (h := bY h1) (eF w1) A (v := vf) (gs := s.bR) sf af (most := 6) (by omega) 0 (by omega) (by omega)
 rw [if_neg (by simpa using c2), if_neg (by simpa using c2), a1.dL (z := 4) rfl, a1.pF 2 (x := vf) rfl, show (Int.ofNat 6) = (6 : Int) from rfl, show (Int.ofNat 0) = (0 : Int) from rfl, aZ e4 rfl, aB]
 unfold lD
 rw [bP (v := .int .i64 (jO 6 (jZ s.costs.length s.bV.length 0) s.bR).1) rfl, aG, bP (v := .int .i64 (jO 6 (jZ s.costs.length s.bV.length 0) s.bR).2) rfl, aG, aP, aY, aC]
 by_cases c3 : (jO 6 (jZ s.costs.length s.bV.length 0) s.bR).2 = 0
 case neg => rw [if_pos (by simpa using c3), if_pos c3]; exact ⟨_, rfl⟩
 obtain ⟨h5, e5⟩ := QV (h := bY h1) (eF w1) A (v := vp) (gs := s.bE) sp ap (most := 5) (by omega) (-1) (by omega) (by omega)
 rw [if_neg (by simpa using c3), if_neg (by simpa using c3), a1.dL (z := 4) rfl, a1.pF 3 (x := vp) rfl, show (Int.ofNat 5) = (5 : Int) from rfl, show (Int.negSucc 0) = (-1 : Int) from rfl, aZ e5 rfl, aB]
 unfold lD
 rw [bP (v := .int .i64 (jO 5 (jZ s.costs.length s.bV.length (-1)) s.bE).1) rfl, aG, bP (v := .int .i64 (jO 5 (jZ s.costs.length s.bV.length (-1)) s.bE).2) rfl, aG, aP, aY, aC]
 by_cases c4 : (jO 5 (jZ s.costs.length s.bV.length (-1)) s.bE).2 = 0
 case neg => rw [if_pos (by simpa using c4), if_pos c4]; exact ⟨_, rfl⟩
 rw [if_neg (by simpa using c4), if_neg (by simpa using c4)]
 exact ⟨_, rfl⟩
end Go.Proofs.Ytdpicdnpiihaaaa.K.L
