/- Contracts of told functions: days, Check, open. -/
import Derived.Test.YtgomkbcokgeciaaGreatScS4
open Go Go.bR
set_option maxRecDepth 100000
set_option linter.unusedVariables false
namespace Go.Proofs.YtgomkbcokgeciaaGreat.K.L
theorem tC {α : Type} {most : Int} {f : List α → α → Int} {gs : List α} (h : (gY most f gs).2 = 0) : (gs.length : Int) ≤ most := by
 unfold gY at h
 by_cases c : most < (gs.length : Int)
 ·rw [if_pos c] at h; exact absurd h (by decide)
 ·omega
theorem aDC {α : Type} (f : List α → α → Int) (all : List α) : ∀ (l : List α) (i : Nat), all.drop i = l → (gJ f all i l).2 = 0 → ∀ (j : Nat) (hj : j < all.length), i ≤ j → f (all.take j) all[j] = 0
 | [], i, hd, _, j, hj, hij => by
  have : all.length ≤ i := List.drop_eq_nil_iff.1 hd
  omega
 | g :: l, i, hd, h, j, hj, hij => by
  have hi : i < all.length := by
   by_cases c : i < all.length
   ·exact c
   ·rw [List.drop_of_length_le (by omega)] at hd; cases hd
  have hd2 := hd
  rw [List.drop_eq_getElem_cons hi] at hd2
  injection hd2 with e1 e2
  unfold gJ at h
  by_cases e : f (all.take i) g = 0
  ·rw [if_pos e] at h
   by_cases hij2 : i = j
   ·subst hij2; rw [e1]; exact e
   ·exact aDC f all l (i + 1) e2 h j hj (by omega)
  ·rw [if_neg e] at h; exact absurd h e
theorem VK {α : Type} {most : Int} {f : List α → α → Int} {gs : List α} (h : (gY most f gs).2 = 0) : ∀ k (hk : k < gs.length), f (gs.take k) gs[k] = 0 := by
 have hl := tC h
 unfold gY at h
 rw [if_neg (by omega)] at h
 intro k hk
 exact aDC f gs gs 0 rfl h k hk (by omega)
theorem sJ {lo hi n : Int} : qI lo hi n = true ↔ lo ≤ n ∧ n ≤ hi := by
 unfold qI; simp
theorem aJF {ss : List Sc} (h : (gY 3 K3 ss).2 = 0) : ∀ g ∈ ss, 1 ≤ g.kids ∧ g.kids ≤ 60 := by
 intro g hg
 obtain ⟨j, hj, rfl⟩ := List.getElem_of_mem hg
 have := VK h j hj
 unfold K3 at this
 cases x0 : rU (ss[j]).nm.data.toList with
 | false => rw [x0] at this; simp at this
 | true =>
 cases x1 : (ss.take j).any (fun x => jS x.nm (ss[j]).nm) with
 | true => rw [x0, x1] at this; simp at this
 | false =>
 cases x2 : qI 1 60 (ss[j]).kids with
 | false => rw [x0, x1, x2] at this; simp at this
 | true => exact sJ.1 x2
def yZ (fD : Nat) (d : Dy) : Int :=
 if (gY 3 K3 d.ss).2 ≠ 0 then (gY 3 K3 d.ss).2 else if 60 < lZ d.ss then 9 else if (d.cs.length : Int) ≠ (fD : Int) then 3
 else if !(VJ ⟨d.seen, d.miss⟩) then 7 else if !(d.cs.all VJ) then 7 else if !(qI 0 10000 d.taken) then 7 else 0
def DyA (h : Hp) (d : Dy) : Prop := uP h 2 d.sv (d.ss.map Sc.row) ∧ uP h 2 d.cv (d.cs.map Ct.row)
theorem DyA.sub {h h' : Hp} (hs : Sub h h') {d : Dy} (a : DyA h d) : DyA h' d := ⟨a.1.sub hs, a.2.sub hs⟩
theorem TF {h : Hp} (w : Wf h) {v : Value} {ss : List Sc} (sl : uP h 2 v (ss.map Sc.row)) : ∃ h', aNY [v, .int .i64 3, .func (.func 106) #[] #[]] h = some (lH (gY 3 K3 ss), h') := by
 refine aG1 (row := Sc.row) (fun _ => rfl) (gs := ss) (fun g hg => rfl) (by omega) (fun h => True) (fun h h' g x => trivial) (fun h x => x) K3 (fun h v' i hi hl w q hr => ?_) w trivial sl
 obtain ⟨h9, e9⟩ := YO (h := eT h) (jG w) (v := v') (prev := ss.take i) hr (by rw [List.length_take]; omega) ss[i]
 exact bF e9 rfl
theorem bPW (h : Hp) (a b : Int) : bQ env h 65 1 (List.toArray [(0, .agg (Array.mk [.int .i64 a, .int .i64 b]))]) = some (.slice (some ⟨h.next, 0, none⟩) 1 1, h.add (.cells [.int .i64 a, .int .i64 b] 64 none)) := by kernel_rfl
theorem aYK (h : Hp) (a b : Int) : uP (h.add (.cells [.int .i64 a, .int .i64 b] 64 none)) 2 (.slice (some ⟨h.next, 0, none⟩) 1 1) ([(⟨a, b⟩ : Ct)].map Ct.row) := by
 refine .inr ⟨h.next, _, 64, none, rfl, BR _ _, .inr rfl, fun i r hi => ?_⟩
 cases i with
 | zero =>
  simp at hi; subst hi
  exact ⟨rfl, by simp, fun k x hx => by simpa [Ct.row] using hx⟩
 | succ i => simp at hi
theorem aQ1 {h : Hp} (w : Wf h) (fD : Nat) (hrm : fD ≤ 100) (g : Dy) (a : DyA h g) : ∃ h', F58 [.int .i64 (fD : Int), .agg (Array.mk g.row)] h = some (.int .i64 (yZ fD g), h') := by
 have start : F58 [.int .i64 (fD : Int), .agg (Array.mk g.row)] h = aJG (aQ T58 999999) (fD : Int) (.agg (Array.mk g.row)) h := rfl
 rw [start]
 unfold aJG
 rw [iC, dS]
 have w1 : Wf (h.add (.cells g.row 67 none)) := w.add _
 have a1 : At (h.add (.cells g.row 67 none)) (.pointer (some ⟨h.next, 0, none⟩)) g.row := At.new
 have d1 := a.sub (dW.add w (.cells g.row 67 none)).sub
 generalize h.add (.cells g.row 67 none) = h1 at w1 a1 d1 ⊢
 generalize Value.pointer (some ⟨h.next, 0, none⟩) = p at a1 ⊢
 obtain ⟨h2, e2⟩ := TF (h := eT h1) (jG w1) d1.1
 rw [a1.sF 0 (x := g.sv) rfl, show (Int.ofNat 3) = (3 : Int) from rfl, bF e2 rfl, aC]
 unfold lH yZ
 rw [dQ (v := .int .i64 (gY 3 K3 g.ss).1) rfl, aJ, dQ (v := .int .i64 (gY 3 K3 g.ss).2) rfl, aJ, aO, dX, aI]
 by_cases c1 : (gY 3 K3 g.ss).2 = 0
 case neg => rw [if_pos (by simpa using c1), if_pos c1]; exact ⟨_, rfl⟩
 have l3 := tC c1
 have hk := aJF c1
 rw [if_neg (by simpa using c1), if_neg (by simpa using c1), a1.sF 0 (x := g.sv) rfl, MO d1.1.rows (fun x hx => by have := hk x hx; omega) (by omega), aM, aC, aJ, aS, aZ, aI, show (Int.ofNat 60) = (60 : Int) from rfl]
 by_cases c2 : 60 < lZ g.ss
 ·rw [if_pos (by simpa using c2), if_pos c2]; exact ⟨_, rfl⟩
 rw [if_neg (by simpa using c2), if_neg c2, a1.sF 3 (x := g.cv) rfl, d1.2.rows.len, List.length_map, aO, dX, aI]
 by_cases c3 : (g.cs.length : Int) = (fD : Int)
 case neg => rw [if_pos (by simpa using c3), if_pos c3]; exact ⟨_, rfl⟩
 obtain ⟨q, hq, aq⟩ := a1.part 1 2 (by show 1 + 2 ≤ 5; decide)
 replace aq : At h1 q [.int .i64 g.seen, .int .i64 g.miss] := aq
 rw [if_neg (by simpa using c3), if_neg (by simpa using c3), hq, aq.gG (z := 2) rfl, bPW, aC]
 have w2 := w1.add (.cells [.int .i64 g.seen, .int .i64 g.miss] 64 none)
 have a2 := ET w1 a1 (.cells [.int .i64 g.seen, .int .i64 g.miss] 64 none)
 have d2 := d1.sub (dW.add w1 (.cells [.int .i64 g.seen, .int .i64 g.miss] 64 none)).sub
 have s2 := aYK h1 g.seen g.miss
 generalize h1.add (.cells [.int .i64 g.seen, .int .i64 g.miss] 64 none) = h2 at w2 a2 d2 s2 ⊢
 obtain ⟨h3, e3⟩ := IY (v := .slice (some ⟨h1.next, 0, none⟩) 1 1) (cs := [⟨g.seen, g.miss⟩]) (by simp) (h := eT h2) (jG w2) s2
 rw [show ([(⟨g.seen, g.miss⟩ : Ct)].all VJ) = VJ ⟨g.seen, g.miss⟩ from by simp] at e3
 rw [bF e3 rfl, aC, aV, aO, aI]
 cases c4 : VJ ⟨g.seen, g.miss⟩ with
 | false => rw [if_pos (by rfl), if_pos (by rfl), aI, if_pos (by rfl)]; exact ⟨_, rfl⟩
 | true =>
 obtain ⟨h4, e4⟩ := IY (v := g.cv) (cs := g.cs) (by omega) (h := eT h2) (jG w2) d2.2
 rw [if_neg (by simp), if_neg (by simp), a2.sF 3 (x := g.cv) rfl, bF e4 rfl, aC, aV, aO, aI]
 cases c5 : g.cs.all VJ with
 | false => rw [if_pos (by rfl), if_pos (by rfl), aI, if_pos (by rfl)]; exact ⟨_, rfl⟩
 | true =>
 rw [if_neg (by simp), if_neg (by simp), a2.sF 4 (x := .int .i64 g.taken) rfl, aJ, TE, aC, show (Int.ofNat 0) = (0 : Int) from rfl, show (Int.ofNat 10000) = (10000 : Int) from rfl, sI, aM, aC, aV, aO, aI]
 cases c6 : qI 0 10000 g.taken with
 | false => rw [if_pos (by rfl), if_pos (by rfl)]; exact ⟨_, rfl⟩
 | true => rw [if_neg (by simp), if_neg (by simp)]; exact ⟨_, rfl⟩
structure Bk where
 bH : Int
 fD : List Rm
 days : List Dy
def iL (p : Int) (vr vd : Value) : List Value := [.int .i64 p, vr, vd]
def YC (h : Hp) (s : Bk) (r : List Value) : Prop := ∃ vr vd, r = iL s.bH vr vd ∧ uP h 3 vr (s.fD.map Rm.row) ∧ uP h 5 vd (s.days.map Dy.row) ∧ ∀ g ∈ s.days, DyA h g
theorem YC.sub {h h' : Hp} (hs : Sub h h') {s : Bk} {r : List Value} (a : YC h s r) : YC h' s r := by
 obtain ⟨vr, vd, h1, h2, h3, h4⟩ := a
 exact ⟨vr, vd, h1, h2.sub hs, h3.sub hs, fun g hg => (h4 g hg).sub hs⟩
theorem uP.sl {h : Hp} {z : Nat} {v : Value} {rs : List (List Value)} (a : uP h z v rs) : ∃ b n c, v = .slice b n c := by
 rcases a with ⟨h1, _⟩ | ⟨b, c, t, k, h1, _⟩
 ·exact ⟨none, 0, 0, h1⟩
 ·exact ⟨_, _, _, h1⟩
theorem YC.len {h : Hp} {s : Bk} {r : List Value} (a : YC h s r) : r.length = 3 := by
 obtain ⟨_, _, rfl, _⟩ := a; rfl
theorem YC.one {h : Hp} {s : Bk} {r : List Value} (a : YC h s r) : r.all oneCell = true := by
 obtain ⟨vf, vt, rfl, h2, h3, _⟩ := a
 obtain ⟨_, _, _, rfl⟩ := h2.sl
 obtain ⟨_, _, _, rfl⟩ := h3.sl
 rfl
def aG2 (x : Int × Int × Int) : Value := .tuple (List.toArray [.int .i64 x.1, .int .i64 x.2.1, .int .i64 x.2.2])
def qW (p : Int) : Int := if !(qI 2 60 p) then 7 else if p % 2 ≠ 0 then 2 else 0
def gH (s : Bk) : Int × Int × Int :=
 if qW s.bH ≠ 0 then (1, 0, qW s.bH)
 else if (gY 3 VG s.fD).2 ≠ 0 then (2, gY 3 VG s.fD)
 else if (gY 4 (fun _ g => yZ s.fD.length g) s.days).2 ≠ 0 then (3, gY 4 (fun _ g => yZ s.fD.length g) s.days)
 else (0, 0, 0)
theorem Q9 {a b : Int} (h0 : 0 ≤ a) (hb : 0 < b) : lD env .rem 3 (.int .i64 a) (.int .i64 b) = some (.int .i64 (a % b)) := by
 unfold lD rY
 rw [show GU .rem (.int .i64 a) (.int .i64 b) = none from rfl]
 simp only
 rw [dR rfl]
 simp only [Op.intDiv]
 rw [if_neg (by omega)]
 rw [Int.tmod_eq_emod_of_nonneg h0]
 rfl
theorem wrap_i64 {n : Int} (h1 : -9223372036854775808 ≤ n) (h2 : n ≤ 9223372036854775807) : IntKind.i64.wrap n = n := by
 simp only [IntKind.wrap, IntKind.bits, IntKind.signed]
 simp
 omega
theorem YS {a b : Int} (h0 : 0 ≤ a) (h1 : a ≤ 1000000000) (hb : 0 < b) : lD env .quo 3 (.int .i64 a) (.int .i64 b) = some (.int .i64 (a / b)) := by
 unfold lD rY
 rw [show GU .quo (.int .i64 a) (.int .i64 b) = none from rfl]
 simp only
 rw [dR rfl]
 simp only [Op.intDiv]
 rw [if_neg (by omega)]
 rw [Int.tdiv_eq_ediv_of_nonneg h0]
 have hd : a / b ≤ a := Int.ediv_le_self _ h0
 have hd0 : 0 ≤ a / b := Int.ediv_nonneg h0 (by omega)
 rw [wrap_i64 (by omega) (by omega)]
 rfl
theorem kL {ρ : Type} {k : IntKind} {a : Int} (f : Int → Option ρ) : mH k (some (.int k a)) f = f a := by
 show aT k (.int k a) f = _
 exact aJ k a f
theorem aG3 {h : Hp} (p : Int) : ∃ h', F53 [.int .i64 p] h = some (.int .i64 (qW p), h') := by
 have start : F53 [.int .i64 p] h = aJH (aQ T53 999999) p h := rfl
 rw [start]
 unfold aJH qW
 rw [TE, aC, show (Int.ofNat 2) = (2 : Int) from rfl, show (Int.ofNat 60) = (60 : Int) from rfl, sI, aM, aC, aV, aO, aI]
 cases c : qI 2 60 p with
 | false => rw [if_pos (by rfl), if_pos (by rfl)]; exact ⟨_, rfl⟩
 | true =>
 have := sJ.1 c
 rw [if_neg (by simp), if_neg (by simp), Q9 (by omega) (by omega), kL, aO, dX, aI]
 by_cases e : p % 2 = 0
 ·rw [if_neg (by simpa using e), if_neg (by simpa using e)]; exact ⟨_, rfl⟩
 ·rw [if_pos (by simpa using e), if_pos e]; exact ⟨_, rfl⟩
theorem aG4 {h : Hp} (w : Wf h) {s : Bk} {r : List Value} (a : YC h s r) : ∃ h', F13 [.agg (Array.mk r)] h = some (aG2 (gH s), h') := by
 obtain ⟨vr, vd, rfl, sr, sd, ds⟩ := a
 have start : F13 [.agg (Array.mk (iL s.bH vr vd))] h = aJI (aQ T13 999999) (.agg (Array.mk (iL s.bH vr vd))) h := rfl
 rw [start]
 unfold aJI
 rw [iC, dS]
 have w1 := w.add (.cells (iL s.bH vr vd) 25 none)
 have a1 : At (h.add (.cells (iL s.bH vr vd) 25 none)) (.pointer (some ⟨h.next, 0, none⟩)) (iL s.bH vr vd) := At.new
 have gr := (dW.add w (.cells (iL s.bH vr vd) 25 none)).sub
 replace sr := sr.sub gr
 replace sd := sd.sub gr
 replace ds : ∀ g ∈ s.days, DyA (h.add (.cells (iL s.bH vr vd) 25 none)) g := fun g hg => (ds g hg).sub gr
 clear gr start
 generalize h.add (.cells (iL s.bH vr vd) 25 none) = h1 at w1 a1 sr sd ds ⊢
 generalize Value.pointer (some ⟨h.next, 0, none⟩) = p at a1 ⊢
 unfold gH
 obtain ⟨h2, e2⟩ := aG3 (h := eT h1) s.bH
 rw [a1.sF 0 (x := .int .i64 s.bH) rfl, aJ, bF e2 rfl, aC, aJ, aO, dX, aI]
 by_cases c1 : qW s.bH = 0
 case neg => rw [if_pos (by simpa using c1), if_pos c1]; exact ⟨_, rfl⟩
 rw [if_neg (by simpa using c1), if_neg (by simpa using c1), a1.sF 1 (x := vr) rfl]
 obtain ⟨h3, e3⟩ := aNX (row := Rm.row) (fun _ => rfl) (v := vr) (fv := .func (.func 55) #[] #[]) (gs := s.fD) (most := 3) (fun g hg => rfl) (by omega) (fun h => True) (fun h h' g x => trivial) (fun h x => x) VG (fun h v' i hi hl w q hr => by
   obtain ⟨h9, e9⟩ := aN0 (h := eT h) (jG w) (v := v') (prev := s.fD.take i) hr (by rw [List.length_take]; omega) s.fD[i]
   exact bF e9 rfl) (h := eT h1) (jG w1) trivial sr
 rw [show (Int.ofNat 3) = (3 : Int) from rfl, bF e3 rfl, aC]
 unfold lH
 rw [dQ (v := .int .i64 (gY 3 VG s.fD).1) rfl, aJ, dQ (v := .int .i64 (gY 3 VG s.fD).2) rfl, aJ, aO, dX, aI]
 by_cases c2 : (gY 3 VG s.fD).2 = 0
 case neg => rw [if_pos (by simpa using c2), if_pos c2]; exact ⟨_, rfl⟩
 rw [if_neg (by simpa using c2), if_neg (by simpa using c2), a1.sF 2 (x := vd) rfl]
 have l3 := tC c2
 obtain ⟨h4, e4⟩ := aNZ (row := Dy.row) (fun _ => rfl) (v := vd) (fv := .func (.func 57) #[] #[p]) (gs := s.days) (most := 4) (fun g hg => by
   obtain ⟨_, _, _, e1⟩ := (ds g hg).1.sl
   obtain ⟨_, _, _, e2⟩ := (ds g hg).2.sl
   unfold Dy.row; rw [e1, e2]; rfl) (by omega) (fun h => At h p (iL s.bH vr vd) ∧ uP h 3 vr (s.fD.map Rm.row) ∧ ∀ g ∈ s.days, DyA h g) (fun h h' g x => ⟨x.1.sub g.sub, x.2.1.sub g.sub, fun y hy => (x.2.2 y hy).sub g.sub⟩) (fun h x => x) (fun _ g => yZ s.fD.length g) (fun h v' i hi hl w q hr => by
   obtain ⟨q1, q2, q3⟩ := q
   have w5 := (jG w).add (.cells (s.days[i]).row 67 none)
   have a5 : At ((eT h).add (.cells (s.days[i]).row 67 none)) (.pointer (some ⟨(eT h).next, 0, none⟩)) (s.days[i]).row := At.new
   have g5 := (dW.add (jG w) (.cells (s.days[i]).row 67 none)).sub
   have q5 : At ((eT h).add (.cells (s.days[i]).row 67 none)) p (iL s.bH vr vd) := At.sub g5 q1
   have r5 : uP ((eT h).add (.cells (s.days[i]).row 67 none)) 3 vr (s.fD.map Rm.row) := uP.sub g5 q2
   have d5 : DyA ((eT h).add (.cells (s.days[i]).row 67 none)) s.days[i] := DyA.sub g5 (q3 _ (List.getElem_mem hi))
   have e57 : ∃ h9, F57 [v', .agg (Array.mk (s.days[i]).row), p] (eT h) = some (.int .i64 (yZ s.fD.length s.days[i]), h9) := by
    have start : F57 [v', .agg (Array.mk (s.days[i]).row), p] (eT h) = aJJ (aQ T57 999999) v' (.agg (Array.mk (s.days[i]).row)) p (eT h) := rfl
    rw [start]
    unfold aJJ
    rw [iC, dS]
    generalize (eT h).add (.cells (s.days[i]).row 67 none) = h5 at w5 a5 q5 r5 d5 ⊢
    obtain ⟨h6, e6⟩ := aQ1 (h := eT h5) (jG w5) s.fD.length (by omega) s.days[i] d5
    rw [q5.sF 1 (x := vr) rfl, r5.rows.len, List.length_map, a5.gG (z := 5) rfl, bF e6 rfl, aC, aJ]
    exact ⟨_, rfl⟩
   obtain ⟨h9, e9⟩ := e57
   exact bF e9 rfl) (h := eT h1) (jG w1) ⟨a1, sr, ds⟩ sd
 rw [show (Int.ofNat 4) = (4 : Int) from rfl, show (Value.func (.func 57) (List.toArray []) (List.toArray [p])) = .func (.func 57) #[] #[p] from rfl, bF e4 rfl, aC]
 unfold lH
 rw [dQ (v := .int .i64 (gY 4 (fun _ g => yZ s.fD.length g) s.days).1) rfl, aJ, dQ (v := .int .i64 (gY 4 (fun _ g => yZ s.fD.length g) s.days).2) rfl, aJ, aO, dX, aI]
 by_cases c3 : (gY 4 (fun _ g => yZ s.fD.length g) s.days).2 = 0
 case neg => rw [if_pos (by simpa using c3), if_pos c3]; exact ⟨_, rfl⟩
 rw [if_neg (by simpa using c3), if_neg (by simpa using c3)]
 exact ⟨_, rfl⟩
end Go.Proofs.YtgomkbcokgeciaaGreat.K.L
