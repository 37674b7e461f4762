/- Contracts of told functions: looks of all, Check; what a room without an error is. -/
import Derived.Test.YtdpicdnpiihaaaaBoS4
open Go Go.bK
set_option maxRecDepth 100000
set_option linter.unusedVariables false
namespace Go.Proofs.Ytdpicdnpiihaaaa.K.L
theorem PV {h : Hp} (w : Wf h) {s : Rm} {r : List Value} (a : DI h s r) {v : Value} {gs : List Lk} (sg : kR h 3 v (gs.map Lk.row)) (ag : ∀ g ∈ gs, PI h g) {most : Int} (hm : most ≤ 900000) (least : Int) (hc : 0 < s.costs.length ∧ s.costs.length ≤ 100) (ho : s.bF.length ≤ 100) :
  ∃ h', F49 [.agg (Array.mk r), v, .int .i64 most, .int .i64 least] h = some (lS (jO most (jY s.costs.length s.bF.length least) gs), h') := by
 obtain ⟨vc, vo, vf, vp, rfl, sc, so, sf, sp, af, ap⟩ := a
 have start : F49 [.agg (Array.mk (bT vc vo vf vp)), v, .int .i64 most, .int .i64 least] h = aJI (aK T49 999999) (.agg (Array.mk (bT vc vo vf vp))) v most least h := rfl
 rw [start]
 unfold aJI
 rw [fA, bO, bO]
 have g0 : aV h (h.add (.cells (bT vc vo vf vp) 25 none)) := aV.add w _
 have a0 : At (h.add (.cells (bT vc vo vf vp) 25 none)) (.pointer (some ⟨h.next, 0, none⟩)) (bT vc vo vf vp) := At.new
 generalize h.add (.cells (bT vc vo vf vp) 25 none) = h0 at g0 a0 ⊢
 have g1 : aV h (h0.add (.cells [.int .i64 least] 3 none)) := g0.trans (aV.add g0.wf _)
 have a1 : At (h0.add (.cells [.int .i64 least] 3 none)) (.pointer (some ⟨h.next, 0, none⟩)) (bT vc vo vf vp) := aEH g0.wf a0 _
 have b1 : At (h0.add (.cells [.int .i64 least] 3 none)) (.pointer (some ⟨h0.next, 0, none⟩)) [.int .i64 least] := At.new
 generalize h0.add (.cells [.int .i64 least] 3 none) = h1 at g1 a1 b1 ⊢
 generalize Value.pointer (some ⟨h0.next, 0, none⟩) = pl at b1 ⊢
 generalize Value.pointer (some ⟨h.next, 0, none⟩) = pr at a1 ⊢
 obtain ⟨h2, e2⟩ := aGH (row := Lk.row) (fun _ => rfl) (v := v) (fv := .func (.func 84) #[] #[pr, pl]) (gs := gs) (most := most) (fun g hg => (ag g hg).one) hm
  (fun h => At h pr (bT vc vo vf vp) ∧ At h pl [.int .i64 least] ∧ kR h 1 vc (s.costs.map cZ) ∧ kR h 1 vo (s.bF.map cZ) ∧ ∀ g ∈ gs, PI h g)
  (fun h h' g x => ⟨x.1.sub g.sub, x.2.1.sub g.sub, x.2.2.1.sub g.sub, x.2.2.2.1.sub g.sub, fun y hy => (x.2.2.2.2 y hy).sub g.sub⟩) (fun h x => x) (jY s.costs.length s.bF.length least) (fun h v' i hi hl w q hr => by
   obtain ⟨q1, q2, q3, q4, q5⟩ := q
   obtain ⟨h9, e9⟩ := aGL (h := bZ h) (fB w) (v := v') (prev := gs.take i) hr (by rw [List.length_take]; omega) q1 q2 q3 q4 (List.length_map ..) (List.length_map ..) hc ho gs[i] (q5 _ (List.getElem_mem hi))
   exact bJ e9 rfl) (h := bZ h1) (fB g1.wf) ⟨a1, b1, sc.sub g1.sub, so.sub g1.sub, fun g hg => (ag g hg).sub g1.sub⟩ (sg.sub g1.sub)
 rw [show (Value.func (.func 84) (List.toArray []) (List.toArray [pr, pl])) = .func (.func 84) #[] #[pr, pl] from rfl, bJ e2 rfl, aB]
 unfold lS
 rw [bH (v := .int .i64 (jO most (jY s.costs.length s.bF.length least) gs).1) rfl, aH, bH (v := .int .i64 (jO most (jY s.costs.length s.bF.length least) gs).2) rfl, aH]
 exact ⟨_, rfl⟩
def aQN (x : Int × Int × Int) : Value := .tuple (List.toArray [.int .i64 x.1, .int .i64 x.2.1, .int .i64 x.2.2])
def gK (s : Rm) : Int × Int × Int :=
 if (mY 4 100 s.costs).2 ≠ 0 then (1, mY 4 100 s.costs)
 else if (mY 4 50 s.bF).2 ≠ 0 then (2, mY 4 50 s.bF)
 else if (jO 6 (jY s.costs.length s.bF.length 0) s.dZ).2 ≠ 0 then (3, jO 6 (jY s.costs.length s.bF.length 0) s.dZ)
 else if (jO 5 (jY s.costs.length s.bF.length (-1)) s.dF).2 ≠ 0 then (4, jO 5 (jY s.costs.length s.bF.length (-1)) s.dF)
 else (0, 0, 0)
theorem DT {α : Type} {most : Int} {f : List α → α → Int} {gs : List α} (h : (jO most f gs).2 = 0) : (gs.length : Int) ≤ most := by
 unfold jO at h
 by_cases c : most < (gs.length : Int)
 ·rw [if_pos c] at h; exact absurd h (by decide)
 ·omega
theorem ZN {α : Type} (f : List α → α → Int) (all : List α) : ∀ (l : List α) (i : Nat), all.drop i = l → (l8 f all i l).2 = 0 → ∀ (j : Nat) (hj : j < all.length), i ≤ j → f (all.take j) all[j] = 0
 | [], i, hd, _, j, hj, hij => by
  have : all.length ≤ i := List.drop_eq_nil_iff.1 hd
  omega
 | g :: l, i, hd, h, j, hj, hij => by
  have hi : i < all.length := by
   by_cases c : i < all.length
   ·exact c
   ·rw [List.drop_of_length_le (by omega)] at hd; cases hd
  have hd2 := hd
  rw [List.drop_eq_getElem_cons hi] at hd2
  injection hd2 with e1 e2
  unfold l8 at h
  by_cases e : f (all.take i) g = 0
  ·rw [if_pos e] at h
   by_cases hij2 : i = j
   ·subst hij2; rw [e1]; exact e
   ·exact ZN f all l (i + 1) e2 h j hj (by omega)
  ·rw [if_neg e] at h; exact absurd h e
theorem J5 {α : Type} {most : Int} {f : List α → α → Int} {gs : List α} (h : (jO most f gs).2 = 0) : ∀ k (hk : k < gs.length), f (gs.take k) gs[k] = 0 := by
 have hl := DT h
 unfold jO at h
 rw [if_neg (by omega)] at h
 intro k hk
 exact ZN f gs gs 0 rfl h k hk (by omega)
theorem DJ {many most : Int} {l : List Int} (h : (mY many most l).2 = 0) : 0 < l.length ∧ (l.length : Int) ≤ many ∧ ∀ n ∈ l, 0 ≤ n ∧ n ≤ most := by
 unfold mY at h
 by_cases c : l.length = 0
 ·rw [if_pos c] at h; exact absurd h (by decide)
 rw [if_neg c] at h
 refine ⟨by omega, DT h, fun n hn => ?_⟩
 obtain ⟨j, hj, rfl⟩ := List.getElem_of_mem hn
 have := J5 h j hj
 unfold LZ at this
 cases x : rZ 0 most l[j] with
 | false => rw [x] at this; simp at this
 | true => exact sW.1 x
theorem aCS {h : Hp} (w : Wf h) {s : Rm} {r : List Value} (a : DI h s r) : ∃ h', F16 [.agg (Array.mk r)] h = some (aQN (gK s), h') := by
 have start : F16 [.agg (Array.mk r)] h = aJK (aK T16 999999) (.agg (Array.mk r)) h := rfl
 rw [start]
 unfold aJK
 have hr4 := a.len
 rw [fA, bO]
 have w1 := w.add (.cells r 25 none)
 have a1 : At (h.add (.cells r 25 none)) (.pointer (some ⟨h.next, 0, none⟩)) r := At.new
 replace a := a.sub (aV.add w (.cells r 25 none)).sub
 clear start
 generalize h.add (.cells r 25 none) = h1 at w1 a1 a ⊢
 generalize Value.pointer (some ⟨h.next, 0, none⟩) = p at a1 ⊢
 obtain ⟨vc, vo, vf, vp, rfl, sc, so, sf, sp, af, ap⟩ := a
 have A : DI h1 s (bT vc vo vf vp) := ⟨vc, vo, vf, vp, rfl, sc, so, sf, sp, af, ap⟩
 unfold gK
 obtain ⟨h2, e2⟩ := TQ (h := bZ h1) (fB w1) sc (many := 4) 100 (by omega)
 rw [a1.vV 0 (x := vc) rfl, show (Int.ofNat 4) = (4 : Int) from rfl, show (Int.ofNat 100) = (100 : Int) from rfl, bJ e2 rfl, aB]
 unfold lS
 rw [bH (v := .int .i64 (mY 4 100 s.costs).1) rfl, aH, bH (v := .int .i64 (mY 4 100 s.costs).2) rfl, aH, aQ, bI, aG]
 by_cases c1 : (mY 4 100 s.costs).2 = 0
 case neg => rw [if_pos (by simpa using c1), if_pos c1]; exact ⟨_, rfl⟩
 obtain ⟨h3, e3⟩ := TQ (h := bZ h1) (fB w1) so (many := 4) 50 (by omega)
 rw [if_neg (by simpa using c1), if_neg (by simpa using c1), a1.vV 1 (x := vo) rfl, show (Int.ofNat 50) = (50 : Int) from rfl, bJ e3 rfl, aB]
 unfold lS
 rw [bH (v := .int .i64 (mY 4 50 s.bF).1) rfl, aH, bH (v := .int .i64 (mY 4 50 s.bF).2) rfl, aH, aQ, bI, aG]
 by_cases c2 : (mY 4 50 s.bF).2 = 0
 case neg => rw [if_pos (by simpa using c2), if_pos c2]; exact ⟨_, rfl⟩
 obtain ⟨n1, n2, _⟩ := DJ c1
 obtain ⟨m1, m2, _⟩ := DJ c2
 obtain ⟨h4, e4⟩ := PV (h := bZ h1) (fB w1) A (v := vf) (gs := s.dZ) sf af (most := 6) (by omega) 0 (by omega) (by omega)
 rw [if_neg (by simpa using c2), if_neg (by simpa using c2), a1.eU (z := 4) rfl, a1.vV 2 (x := vf) rfl, show (Int.ofNat 6) = (6 : Int) from rfl, show (Int.ofNat 0) = (0 : Int) from rfl, bJ e4 rfl, aB]
 unfold lS
 rw [bH (v := .int .i64 (jO 6 (jY s.costs.length s.bF.length 0) s.dZ).1) rfl, aH, bH (v := .int .i64 (jO 6 (jY s.costs.length s.bF.length 0) s.dZ).2) rfl, aH, aQ, bI, aG]
 by_cases c3 : (jO 6 (jY s.costs.length s.bF.length 0) s.dZ).2 = 0
 case neg => rw [if_pos (by simpa using c3), if_pos c3]; exact ⟨_, rfl⟩
 obtain ⟨h5, e5⟩ := PV (h := bZ h1) (fB w1) A (v := vp) (gs := s.dF) sp ap (most := 5) (by omega) (-1) (by omega) (by omega)
 rw [if_neg (by simpa using c3), if_neg (by simpa using c3), a1.eU (z := 4) rfl, a1.vV 3 (x := vp) rfl, show (Int.ofNat 5) = (5 : Int) from rfl, show (Int.negSucc 0) = (-1 : Int) from rfl, bJ e5 rfl, aB]
 unfold lS
 rw [bH (v := .int .i64 (jO 5 (jY s.costs.length s.bF.length (-1)) s.dF).1) rfl, aH, bH (v := .int .i64 (jO 5 (jY s.costs.length s.bF.length (-1)) s.dF).2) rfl, aH, aQ, bI, aG]
 by_cases c4 : (jO 5 (jY s.costs.length s.bF.length (-1)) s.dF).2 = 0
 case neg => rw [if_pos (by simpa using c4), if_pos c4]; exact ⟨_, rfl⟩
 rw [if_neg (by simpa using c4), if_neg (by simpa using c4)]
 exact ⟨_, rfl⟩
end Go.Proofs.Ytdpicdnpiihaaaa.K.L
