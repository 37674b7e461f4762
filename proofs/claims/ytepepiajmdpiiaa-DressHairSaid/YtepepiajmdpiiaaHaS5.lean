/- Contracts of told functions: looks of all, Check; what a room without an error is. -/
import Derived.Test.YtepepiajmdpiiaaHaS4
open Go Go.Eng
set_option maxRecDepth 100000
set_option linter.unusedVariables false
namespace Go.Proofs.Ytepepiajmdpiiaa.K.L
theorem NR {h : Hp} (w : Wf h) {s : Rm} {r : List Value} (a : FI h s r) {v : Value} {gs : List Lk} (sg : jZ h 3 v (gs.map Lk.row)) (ag : ∀ g ∈ gs, OB h g) {most : Int} (hm : most ≤ 900000) (least : Int) (hc : 0 < s.costs.length ∧ s.costs.length ≤ 100) (ho : s.bH.length ≤ 100) :
  ∃ h', F49 [.agg (Array.mk r), v, .int .i64 most, .int .i64 least] h = some (kY (jD most (jL s.costs.length s.bH.length least) gs), h') := by
 obtain ⟨vc, vo, vf, vp, rfl, sc, so, sf, sp, af, ap⟩ := a
 have start : F49 [.agg (Array.mk (iF vc vo vf vp)), v, .int .i64 most, .int .i64 least] h = aDK (aP T49 999999) (.agg (Array.mk (iF vc vo vf vp))) v most least h := rfl
 rw [start]
 unfold aDK
 rw [iT, dQ, dQ]
 have g0 : bI h (h.add (.cells (iF vc vo vf vp) 25 none)) := bI.add w _
 have a0 : At (h.add (.cells (iF vc vo vf vp) 25 none)) (.pointer (some ⟨h.next, 0, none⟩)) (iF vc vo vf vp) := At.new
 generalize h.add (.cells (iF vc vo vf vp) 25 none) = h0 at g0 a0 ⊢
 have g1 : bI h (h0.add (.cells [.int .i64 least] 3 none)) := g0.trans (bI.add g0.wf _)
 have a1 : At (h0.add (.cells [.int .i64 least] 3 none)) (.pointer (some ⟨h.next, 0, none⟩)) (iF vc vo vf vp) := WR g0.wf a0 _
 have b1 : At (h0.add (.cells [.int .i64 least] 3 none)) (.pointer (some ⟨h0.next, 0, none⟩)) [.int .i64 least] := At.new
 generalize h0.add (.cells [.int .i64 least] 3 none) = h1 at g1 a1 b1 ⊢
 generalize Value.pointer (some ⟨h0.next, 0, none⟩) = pl at b1 ⊢
 generalize Value.pointer (some ⟨h.next, 0, none⟩) = pr at a1 ⊢
 obtain ⟨h2, e2⟩ := aF8 (row := Lk.row) (fun _ => rfl) (v := v) (fv := .func (.func 84) #[] #[pr, pl]) (gs := gs) (most := most) (fun g hg => (ag g hg).one) hm
  (fun h => At h pr (iF vc vo vf vp) ∧ At h pl [.int .i64 least] ∧ jZ h 1 vc (s.costs.map dL) ∧ jZ h 1 vo (s.bH.map dL) ∧ ∀ g ∈ gs, OB h g)
  (fun h h' g x => ⟨x.1.sub g.sub, x.2.1.sub g.sub, x.2.2.1.sub g.sub, x.2.2.2.1.sub g.sub, fun y hy => (x.2.2.2.2 y hy).sub g.sub⟩) (fun h x => x) (jL s.costs.length s.bH.length least) (fun h v' i hi hl w q hr => by
   obtain ⟨q1, q2, q3, q4, q5⟩ := q
   obtain ⟨h9, e9⟩ := aF9 (h := iG h) (jV w) (v := v') (prev := gs.take i) hr (by rw [List.length_take]; omega) q1 q2 q3 q4 (List.length_map ..) (List.length_map ..) hc ho gs[i] (q5 _ (List.getElem_mem hi))
   exact eB e9 rfl) (h := iG h1) (jV g1.wf) ⟨a1, b1, sc.sub g1.sub, so.sub g1.sub, fun g hg => (ag g hg).sub g1.sub⟩ (sg.sub g1.sub)
 rw [show (Value.func (.func 84) (List.toArray []) (List.toArray [pr, pl])) = .func (.func 84) #[] #[pr, pl] from rfl, eB e2 rfl, aH]
 unfold kY
 rw [dP (v := .int .i64 (jD most (jL s.costs.length s.bH.length least) gs).1) rfl, aO, dP (v := .int .i64 (jD most (jL s.costs.length s.bH.length least) gs).2) rfl, aO]
 exact ⟨_, rfl⟩
def aM8 (x : Int × Int × Int) : Value := .tuple (List.toArray [.int .i64 x.1, .int .i64 x.2.1, .int .i64 x.2.2])
def jE (s : Rm) : Int × Int × Int :=
 if (lZ 4 100 s.costs).2 ≠ 0 then (1, lZ 4 100 s.costs)
 else if (lZ 4 50 s.bH).2 ≠ 0 then (2, lZ 4 50 s.bH)
 else if (jD 6 (jL s.costs.length s.bH.length 0) s.cK).2 ≠ 0 then (3, jD 6 (jL s.costs.length s.bH.length 0) s.cK)
 else if (jD 5 (jL s.costs.length s.bH.length (-1)) s.dB).2 ≠ 0 then (4, jD 5 (jL s.costs.length s.bH.length (-1)) s.dB)
 else (0, 0, 0)
theorem BC {α : Type} {most : Int} {f : List α → α → Int} {gs : List α} (h : (jD most f gs).2 = 0) : (gs.length : Int) ≤ most := by
 unfold jD at h
 by_cases c : most < (gs.length : Int)
 ·rw [if_pos c] at h; exact absurd h (by decide)
 ·omega
theorem XO {α : Type} (f : List α → α → Int) (all : List α) : ∀ (l : List α) (i : Nat), all.drop i = l → (lH f all i l).2 = 0 → ∀ (j : Nat) (hj : j < all.length), i ≤ j → f (all.take j) all[j] = 0
 | [], i, hd, _, j, hj, hij => by
  have : all.length ≤ i := List.drop_eq_nil_iff.1 hd
  omega
 | g :: l, i, hd, h, j, hj, hij => by
  have hi : i < all.length := by
   by_cases c : i < all.length
   ·exact c
   ·rw [List.drop_of_length_le (by omega)] at hd; cases hd
  have hd2 := hd
  rw [List.drop_eq_getElem_cons hi] at hd2
  injection hd2 with e1 e2
  unfold lH at h
  by_cases e : f (all.take i) g = 0
  ·rw [if_pos e] at h
   by_cases hij2 : i = j
   ·subst hij2; rw [e1]; exact e
   ·exact XO f all l (i + 1) e2 h j hj (by omega)
  ·rw [if_neg e] at h; exact absurd h e
theorem II {α : Type} {most : Int} {f : List α → α → Int} {gs : List α} (h : (jD most f gs).2 = 0) : ∀ k (hk : k < gs.length), f (gs.take k) gs[k] = 0 := by
 have hl := BC h
 unfold jD at h
 rw [if_neg (by omega)] at h
 intro k hk
 exact XO f gs gs 0 rfl h k hk (by omega)
theorem BB {many most : Int} {l : List Int} (h : (lZ many most l).2 = 0) : 0 < l.length ∧ (l.length : Int) ≤ many ∧ ∀ n ∈ l, 0 ≤ n ∧ n ≤ most := by
 unfold lZ at h
 by_cases c : l.length = 0
 ·rw [if_pos c] at h; exact absurd h (by decide)
 rw [if_neg c] at h
 refine ⟨by omega, BC h, fun n hn => ?_⟩
 obtain ⟨j, hj, rfl⟩ := List.getElem_of_mem hn
 have := II h j hj
 unfold KA at this
 cases x : oU 0 most l[j] with
 | false => rw [x] at this; simp at this
 | true => exact nL.1 x
theorem aAS {h : Hp} (w : Wf h) {s : Rm} {r : List Value} (a : FI h s r) : ∃ h', F16 [.agg (Array.mk r)] h = some (aM8 (jE s), h') := by
 have start : F16 [.agg (Array.mk r)] h = aDL (aP T16 999999) (.agg (Array.mk r)) h := rfl
 rw [start]
 unfold aDL
 have hr4 := a.len
 rw [iT, dQ]
 have w1 := w.add (.cells r 25 none)
 have a1 : At (h.add (.cells r 25 none)) (.pointer (some ⟨h.next, 0, none⟩)) r := At.new
 replace a := a.sub (bI.add w (.cells r 25 none)).sub
 clear start
 generalize h.add (.cells r 25 none) = h1 at w1 a1 a ⊢
 generalize Value.pointer (some ⟨h.next, 0, none⟩) = p at a1 ⊢
 obtain ⟨vc, vo, vf, vp, rfl, sc, so, sf, sp, af, ap⟩ := a
 have A : FI h1 s (iF vc vo vf vp) := ⟨vc, vo, vf, vp, rfl, sc, so, sf, sp, af, ap⟩
 unfold jE
 obtain ⟨h2, e2⟩ := QO (h := iG h1) (jV w1) sc (many := 4) 100 (by omega)
 rw [a1.qN 0 (x := vc) rfl, show (Int.ofNat 4) = (4 : Int) from rfl, show (Int.ofNat 100) = (100 : Int) from rfl, eB e2 rfl, aH]
 unfold kY
 rw [dP (v := .int .i64 (lZ 4 100 s.costs).1) rfl, aO, dP (v := .int .i64 (lZ 4 100 s.costs).2) rfl, aO, aZ, dO, aJ]
 by_cases c1 : (lZ 4 100 s.costs).2 = 0
 case neg => rw [if_pos (by simpa using c1), if_pos c1]; exact ⟨_, rfl⟩
 obtain ⟨h3, e3⟩ := QO (h := iG h1) (jV w1) so (many := 4) 50 (by omega)
 rw [if_neg (by simpa using c1), if_neg (by simpa using c1), a1.qN 1 (x := vo) rfl, show (Int.ofNat 50) = (50 : Int) from rfl, eB e3 rfl, aH]
 unfold kY
 rw [dP (v := .int .i64 (lZ 4 50 s.bH).1) rfl, aO, dP (v := .int .i64 (lZ 4 50 s.bH).2) rfl, aO, aZ, dO, aJ]
 by_cases c2 : (lZ 4 50 s.bH).2 = 0
 case neg => rw [if_pos (by simpa using c2), if_pos c2]; exact ⟨_, rfl⟩
 obtain ⟨n1, n2, _⟩ := BB c1
 obtain ⟨m1, m2, _⟩ := BB c2
 obtain ⟨h4, e4⟩ := NR (h := iG h1) (jV w1) A (v := vf) (gs := s.cK) sf af (most := 6) (by omega) 0 (by omega) (by omega)
 rw [if_neg (by simpa using c2), if_neg (by simpa using c2), a1.gU (z := 4) rfl, a1.qN 2 (x := vf) rfl, show (Int.ofNat 6) = (6 : Int) from rfl, show (Int.ofNat 0) = (0 : Int) from rfl, eB e4 rfl, aH]
 unfold kY
 rw [dP (v := .int .i64 (jD 6 (jL s.costs.length s.bH.length 0) s.cK).1) rfl, aO, dP (v := .int .i64 (jD 6 (jL s.costs.length s.bH.length 0) s.cK).2) rfl, aO, aZ, dO, aJ]
 by_cases c3 : (jD 6 (jL s.costs.length s.bH.length 0) s.cK).2 = 0
 case neg => rw [if_pos (by simpa using c3), if_pos c3]; exact ⟨_, rfl⟩
 obtain ⟨h5, e5⟩ := NR (h := iG h1) (jV w1) A (v := vp) (gs := s.dB) sp ap (most := 5) (by omega) (-1) (by omega) (by omega)
 rw [if_neg (by simpa using c3), if_neg (by simpa using c3), a1.gU (z := 4) rfl, a1.qN 3 (x := vp) rfl, show (Int.ofNat 5) = (5 : Int) from rfl, show (Int.negSucc 0) = (-1 : Int) from rfl, eB e5 rfl, aH]
 unfold kY
 rw [dP (v := .int .i64 (jD 5 (jL s.costs.length s.bH.length (-1)) s.dB).1) rfl, aO, dP (v := .int .i64 (jD 5 (jL s.costs.length s.bH.length (-1)) s.dB).2) rfl, aO, aZ, dO, aJ]
 by_cases c4 : (jD 5 (jL s.costs.length s.bH.length (-1)) s.dB).2 = 0
 case neg => rw [if_pos (by simpa using c4), if_pos c4]; exact ⟨_, rfl⟩
 rw [if_neg (by simpa using c4), if_neg (by simpa using c4)]
 exact ⟨_, rfl⟩
end Go.Proofs.Ytepepiajmdpiiaa.K.L
