/- Contracts of told functions: Least returns the first of the least plans. -/
import Derived.Test.YtdpicdnpiihaaaaOrS41
open Go Go.bI Go.bI.Y
set_option maxRecDepth 100000
set_option linter.unusedVariables false
namespace Go.Proofs.Ytdpicdnpiihaaaa.K.L
theorem mD (s : Rm) {d : List (List Nat)} {P : List Nat → Prop} (h : ∀ g ∈ d, P g) : ∀ g, leastOf s d = some g → P g := by
 have key : ∀ (l : List (List Nat)) (o : Option (List Nat)), (∀ g, o = some g → P g) → (∀ g ∈ l, P g) → ∀ g, l.foldl (sO s) o = some g → P g := by
  intro l
  induction l with
  | nil => intro o ho _ g e; exact ho g e
  | cons f l ih =>
   intro o ho hl g e
   refine ih (sO s o f) (fun g e => ?_) (fun g hg => hl g (.tail _ hg)) g e
   unfold sO at e
   cases o with
   | none => cases e; exact hl _ (.head _)
   | some b =>
    simp only at e
    split at e
    ·cases e; exact hl _ (.head _)
    ·cases e; exact ho _ rfl
 exact key d none (fun _ e => by cases e) h
def kP (s : Rm) : List (List Nat) := onL s.bP.length s.dR.length []
theorem oZ {s : Rm} (F : nI s) {g : List Nat} (hg : g ∈ kP s) : QZ s (gQ 0 g) ∧ g.length = s.dR.length ∧ ∀ x ∈ g, x < s.bP.length := by
 obtain ⟨t, rfl, h1, h2, h3⟩ := (zG _ _ _ _).1 hg
 exact ⟨QZ.gQ (by simpa using h1) (fun x hx => (h2 x (by simpa using hx)).1) F.np, by simpa using h1, fun x hx => (h2 x (by simpa using hx)).1⟩
theorem Z6 {h : Hp} (w : Wf h) {s : Rm} (F : nI s) {lo : Nat} {lk : List Value} (V : GD lo h s lk) {c1 c2 : Nat} {vl : Value} {hb : Hp} (C1 : h.get c1 = some (.cells [vl] 22 none)) (iv : qZ hb h vl (sJ s.dR.length)) (C2 : h.get c2 = some (.cells lk 71 none)) :
  ∃ h' v, aCW [.func (.func 94) (List.toArray []) (List.toArray [.pointer (some ⟨c1, 0, none⟩), .pointer (some ⟨c2, 0, none⟩)]), .func (.func 103) (List.toArray [vF lk]) (List.toArray [])] h =
    some (.tuple (List.toArray [v, .bool (leastOf s (kP s)).isSome]), h') ∧ aV h h' ∧ (leastOf s (kP s) = none → v = .slice none 0 0) ∧ ∀ b, leastOf s (kP s) = some b → ∃ k, v = LQ k (gQ 0 b) ∧ h.next ≤ k ∧ RJ h' k (gQ 0 b) := by
 rw [aOQ]
 generalize hS : lH (WO yN) 999999 = S
 unfold aCV
 rw [show Array.toList (Value.cells (.func (.func 103) (List.toArray [vF lk]) (List.toArray []))) = [.func (.func 103) (List.toArray [vF lk]) (List.toArray [])] from rfl, bT, bT, bT]
 have b2 : (((h.add (.cells [.func (.func 103) (List.toArray [vF lk]) (List.toArray [])] 133 none)).add (.cells [Value.slice none 0 0] 79 none)).add (.cells [Value.bool false] 4 none)).get (h.next + 2) = some (.cells [.bool false] 4 none) := by rw [bD]; exact if_pos rfl
 have b1 : (((h.add (.cells [.func (.func 103) (List.toArray [vF lk]) (List.toArray [])] 133 none)).add (.cells [Value.slice none 0 0] 79 none)).add (.cells [Value.bool false] 4 none)).get (h.next + 1) = some (.cells [.slice none 0 0] 79 none) := by
  rw [bD, if_neg (by show h.next + 1 ≠ h.next + 1 + 1; omega), bD]; exact if_pos rfl
 have b0 : (((h.add (.cells [.func (.func 103) (List.toArray [vF lk]) (List.toArray [])] 133 none)).add (.cells [Value.slice none 0 0] 79 none)).add (.cells [Value.bool false] 4 none)).get h.next = some (.cells [.func (.func 103) (List.toArray [vF lk]) (List.toArray [])] 133 none) := by
  rw [bD, if_neg (by show h.next ≠ h.next + 1 + 1; omega), bD, if_neg (by show h.next ≠ h.next + 1; omega), bD, if_pos rfl]
 have g0 : aV h (((h.add (.cells [.func (.func 103) (List.toArray [vF lk]) (List.toArray [])] 133 none)).add (.cells [Value.slice none 0 0] 79 none)).add (.cells [Value.bool false] 4 none)) := ((aV.add w _).trans (aV.add (aV.add w _).wf _)).trans (aV.add ((aV.add w _).trans (aV.add (aV.add w _).wf _)).wf _)
 have n0 : (((h.add (.cells [.func (.func 103) (List.toArray [vF lk]) (List.toArray [])] 133 none)).add (.cells [Value.slice none 0 0] 79 none)).add (.cells [Value.bool false] 4 none)).next = h.next + 3 := rfl
 rw [show (h.add (.cells [.func (.func 103) (List.toArray [vF lk]) (List.toArray [])] 133 none)).next = h.next + 1 from rfl, show ((h.add (.cells [.func (.func 103) (List.toArray [vF lk]) (List.toArray [])] 133 none)).add (.cells [Value.slice none 0 0] 79 none)).next = h.next + 2 from rfl]
 generalize ((h.add (.cells [.func (.func 103) (List.toArray [vF lk]) (List.toArray [])] 133 none)).add (.cells [Value.slice none 0 0] 79 none)).add (.cells [Value.bool false] 4 none) = h0 at b0 b1 b2 g0 n0 ⊢
 have wr := w.1
 rw [WZ b2 (by rw [g0.ro]; omega) rfl]
 have g1 : aV h (h0.upd (h.next + 2) (.cells [.bool false] 4 none)) := aV.upd w g0 (by omega) (by omega) _
 have d2 : (h0.upd (h.next + 2) (.cells [.bool false] 4 none)).get (h.next + 2) = some (.cells [.bool false] 4 none) := by rw [bL, if_pos rfl]
 have d1 : (h0.upd (h.next + 2) (.cells [.bool false] 4 none)).get (h.next + 1) = some (.cells [.slice none 0 0] 79 none) := by rw [bL, if_neg (by omega)]; exact b1
 have d0 : (h0.upd (h.next + 2) (.cells [.bool false] 4 none)).get h.next = some (.cells [.func (.func 103) (List.toArray [vF lk]) (List.toArray [])] 133 none) := by rw [bL, if_neg (by omega)]; exact b0
 have m1 : (h0.upd (h.next + 2) (.cells [.bool false] 4 none)).next = h.next + 3 := n0
 generalize h0.upd (h.next + 2) (.cells [.bool false] 4 none) = h1 at g1 d0 d1 d2 m1 ⊢
 generalize hz : (Z.put (Z.put (Z.put (Z.put (Z.put (Z.put _ 3 _) 4 _) 5 _) 6 _) 7 _) 9 _ : Z) = z
 obtain ⟨tm, mX⟩ : ∃ tm, Z.tm z = some tm := by rw [← hz]; exact ⟨_, rfl⟩
 have hds : Z.ds z = [] := by rw [← hz]; rfl
 rw [mX, aM, aJ0, bIW, show h1.next = h.next + 3 from m1, show h.next + 3 + 1 = h.next + 4 from rfl]
 generalize hX : LX.mk tm IK (QX.ps lU) (QX.a lU) (QX.b lU) (h.next + 3) = X
 have wS : aV h ((h1.add (.xB true)).add (X.obj .ready none)) := (g1.trans (aV.add g1.wf _)).trans (aV.add (g1.trans (aV.add g1.wf _)).wf _)
 have eL : ((h1.add (.xB true)).add (X.obj .ready none)).get (h.next + 4) = some (X.obj .ready none) := by rw [bD, if_pos (by show h.next + 4 = h1.next + 1; omega)]
 have eD : ((h1.add (.xB true)).add (X.obj .ready none)).get (h.next + 3) = some (.xB true) := by rw [bD, if_neg (by show h.next + 3 ≠ h1.next + 1; omega), bD, if_pos (by omega)]
 have lift : ∀ i o, i < h.next + 3 → h1.get i = some o → ((h1.add (.xB true)).add (X.obj .ready none)).get i = some o := fun i o hi e => by
  rw [bD, if_neg (by show i ≠ h1.next + 1; omega), bD, if_neg (by omega)]; exact e
 have e0 := lift _ _ (by omega) d0
 have e1 := lift _ _ (by omega) d1
 have e2 := lift _ _ (by omega) d2
 have nS : ((h1.add (.xB true)).add (X.obj .ready none)).next = h.next + 5 := by show h1.next + 1 + 1 = _; omega
 generalize (h1.add (.xB true)).add (X.obj .ready none) = hs at wS eL eD e0 e1 e2 nS ⊢
 have aHG : ∀ (H : Hp), Z4 (fun i => i = h.next + 1 ∨ i = h.next + 2 ∨ i = h.next + 4) hs H → Sub h H := fun H a i o e => a i o (by have := w.2 i o e; omega) (wS.sub i o e)
 have T : Tak (YL (h.next + 4) X (fun args h_1 => ZJ yN 1 (h.next + 4) (AL.v (.pointer (some ⟨h.next, 0, none⟩)) (AL.v (.pointer (some ⟨h.next + 1, 0, none⟩)) (AL.v (.pointer (some ⟨h.next + 2, 0, none⟩)) AL.n))) z args h_1) yN) s.dR.length s.bP.length (h.next + 4) (h.next + 5)
   (fun i => i = h.next + 1 ∨ i = h.next + 2 ∨ i = h.next + 4)
   (fun d H => Wf H ∧ H.ro = h.ro ∧ h.next + 5 ≤ H.next ∧ Z4 (fun i => i = h.next + 1 ∨ i = h.next + 2 ∨ i = h.next + 4) hs H ∧ H.get (h.next + 4) = some (X.obj .ready none) ∧ QI H (h.next + 1) (h.next + 2) (h.next + 5) (leastOf s d) ∧ ∀ g, leastOf s d = some g → QZ s (gQ 0 g) ∧ g.length = s.dR.length)
   (fun _ => False) := by
  refine ⟨fun d H a => a.1, fun d H H' a g => ?_, fun d H b o a ho hl hb hnp hc => ?_, fun d H b fs a hl hx ca hb => ?_⟩
  ·obtain ⟨a1, a2, a3, a4, a5, a6, a7⟩ := a
   exact ⟨g.wf, g.ro.trans a2, by have := g.next; omega, fun i o hi e => g.sub _ _ (a4 i o hi e), g.sub _ _ a5, a6.keep (fun _ e => g.sub _ _ e) (fun _ e => g.sub _ _ e) (fun k l _ c => c.keep fun _ e => g.sub _ _ e), a7⟩
  ·obtain ⟨a1, a2, a3, a4, a5, a6, a7⟩ := a
   obtain ⟨c, hc⟩ := hc
   have hs' : ∀ i q, i ≠ b → H.get i = some q → (H.upd b o).get i = some q := fun i q hi e => by rw [bL, if_neg hi]; exact e
   refine ⟨a1.upd hb o, a2, a3, fun i q hi e => hs' _ _ (fun hib => ?_) (a4 i q hi e), hs' _ _ (by omega) a5, ?_, a7⟩
   ·have := wS.wf.2 i q e; omega
   ·cases hq : leastOf s d with
    | none =>
     rw [hq] at a6
     obtain ⟨x, u⟩ := a6
     exact ⟨hs' _ _ (by omega) x, hs' _ _ (by omega) u⟩
    | some g =>
     rw [hq] at a6
     obtain ⟨x, k, y, u, v⟩ := a6
     refine ⟨hs' _ _ (by omega) x, k, hs' _ _ (by omega) y, u.keep fun q e => hs' _ _ (fun hkb => ?_) e, v⟩
     obtain ⟨kk, u1, u2⟩ := u
     rw [hkb, hc] at u1
     have u3 := Option.some.inj u1
     injection u3 with _ _ u4
     have hlen : 0 < (gQ 0 g).length := by rw [qM, (a7 g hq).2]; exact hnp
     rcases u2 with u2 | ⟨_, u2⟩
     ·rw [u2] at u4; cases u4
     ·rw [u2] at hlen; simp at hlen
  ·obtain ⟨a1, a2, a3, a4, a5, a6, a7⟩ := a
   have hL : (H.upd (h.next + 4) (X.obj .busy none)).get (h.next + 4) = some (X.obj .busy none) := by rw [bL, if_pos rfl]
   have ke : ∀ i o, i ≠ h.next + 4 → H.get i = some o → (H.upd (h.next + 4) (X.obj .busy none)).get i = some o := fun i o hi e => by rw [bL, if_neg hi]; exact e
   have wB : Wf (H.upd (h.next + 4) (X.obj .busy none)) := a1.upd (by omega) _
   obtain ⟨z', ez⟩ := a6U (h.next + 4) (.pointer (some ⟨h.next, 0, none⟩)) (.pointer (some ⟨h.next + 1, 0, none⟩)) (.pointer (some ⟨h.next + 2, 0, none⟩)) (LQ b (gQ 0 fs)) z H
   have hp : QZ s (gQ 0 fs) := QZ.gQ hl hx F.np
   obtain ⟨h', f1, f2, f3, f4, f5⟩ := aR4 (l := h.next + 4) (n := 999998) (a0 := h.next) (a1 := h.next + 1) (a2 := h.next + 2) (lim := h.next + 5) (b := b) (z := z') F wB
    (V.sub (fun i o e => ke _ _ (by have := w.2 i o e; omega) (aHG H a4 i o e))) (by omega) (by omega) (by omega) (by omega) (by show H.ro ≤ _; omega) (by show H.ro ≤ _; omega)
    (ke _ _ (by omega) (a4 _ _ (by omega) e0)) (a6.keep (fun o e => ke _ _ (by omega) e) (fun o e => ke _ _ (by omega) e) (fun k l hk c => c.keep fun o e => ke _ _ (by omega) e)) hp (fun g e => (a7 g e).1) (ca.keep fun o e => ke _ _ (by omega) e) hb
   have fL : h'.get (h.next + 4) = some (X.obj .busy none) := by rw [f3 _ (by omega) (by omega)]; exact hL
   have kf : ∀ i o, i ≠ h.next + 4 → h'.get i = some o → (h'.upd (h.next + 4) (X.obj .ready none)).get i = some o := fun i o hi e => by rw [bL, if_neg hi]; exact e
   have all : ∀ i o, ¬ (i = h.next + 1 ∨ i = h.next + 2 ∨ i = h.next + 4) → H.get i = some o → (h'.upd (h.next + 4) (X.obj .ready none)).get i = some o := fun i o hi e => by
    refine kf _ _ (by omega) ?_
    rw [f3 _ (by omega) (by omega)]
    exact ke _ _ (by omega) e
   refine ⟨true, h'.upd (h.next + 4) (X.obj .ready none), ?_, fun _ => ⟨⟨?_, f4.trans a2, by show _ ≤ h'.next; rw [f5]; exact a3, fun i o hi e => all i o hi (a4 i o hi e), by rw [bL, if_pos rfl], ?_, ?_⟩, all, f4, by show _ ≤ h'.next; rw [f5]; exact Nat.le_refl _⟩, fun e => by cases e⟩
   ·rw [aVE a5, ez, aJZ a5 (by omega)]
    show (aK (lH (vE yN (h.next + 4)) 999999 1 _ z' (H.upd (h.next + 4) (X.obj .busy none))) fun ex h2 => roundEnd (h.next + 4) ex h2) = _
    rw [f1, aB]
    exact RA fL (by rw [f4]; show H.ro ≤ _; omega)
   ·refine ⟨by show h'.ro ≤ h'.next; rw [f4, f5]; exact wB.1, fun i o e => ?_⟩
    show i < h'.next
    rw [f5]
    show i < H.next
    rw [bL] at e
    by_cases q : i = h.next + 4
    ·omega
    ·rw [if_neg q] at e
     by_cases q1 : i = h.next + 1
     ·omega
     by_cases q2 : i = h.next + 2
     ·omega
     rw [f3 _ q1 q2] at e
     exact wB.2 i o e
   ·rw [IR]
    exact f2.keep (fun o e => kf _ _ (by omega) e) (fun o e => kf _ _ (by omega) e) (fun k l hk c => c.keep fun o e => kf _ _ (by omega) e)
   ·intro g e
    rw [IR] at e
    unfold sO at e
    cases hq : leastOf s d with
    | none => rw [hq] at e; cases e; exact ⟨hp, hl⟩
    | some g0 =>
     rw [hq] at e
     simp only at e
     split at e
     ·cases e; exact ⟨hp, hl⟩
     ·cases e; exact a7 _ hq
 have H1 : ∀ H, Z4 (fun i => i = h.next + 1 ∨ i = h.next + 2 ∨ i = h.next + 4) hs H → ∃ vl, (∀ (ρ : Type) (k : Value → Option ρ), aJ H (.pointer (some ⟨c1, 0, none⟩)) k = k vl) ∧ (∀ (ρ : Type) (k : Int → Option ρ), bS vl k = k (s.dR.length : Int)) ∧ ∀ i : Nat, i < s.dR.length → ∃ p, (∀ (ρ : Type) (k : Value → Option ρ), dN 1 vl (i : Int) k = k p) ∧ At H p (cZ (i : Int)) := by
  intro H a
  have iv' := (iv.sub (aHG H a)).sl.rows
  refine ⟨vl, fun ρ k => fB (o := 0) (aHG H a _ _ C1) rfl k, fun ρ k => ?_, fun i hi => ?_⟩
  ·rw [iv'.len, List.length_map, QA]
  ·obtain ⟨p, hp, ap, _⟩ := iv'.at (i := i) (r := cZ (i : Int)) (by
    rw [List.getElem?_map]
    unfold sJ
    rw [List.getElem?_map, List.getElem?_range hi]; rfl)
   exact ⟨p, fun ρ k => hp ρ k, ap⟩
 have H2 : ∀ H, Z4 (fun i => i = h.next + 1 ∨ i = h.next + 2 ∨ i = h.next + 4) hs H → ∃ vf, (∀ (ρ : Type) (k : Value → Option ρ), aO 0 (.pointer (some ⟨c2, 0, none⟩)) (fun v => aO 2 v fun v => aJ H v k) = k vf) ∧ ∀ (ρ : Type) (k : Int → Option ρ), bS vf k = k (s.bP.length : Int) := by
  intro H a
  obtain ⟨r, mb, hb2, rfl, A, M, hl⟩ := V.sub (aHG H a)
  obtain ⟨vc, vo, vf, vp, rfl, sc, so, sf, sp, _⟩ := A
  refine ⟨vf, fun ρ k => ?_, fun ρ k => by rw [sf.rows.len, List.length_map]⟩
  exact fB (o := 2) (aHG H a _ _ C2) rfl k
 obtain ⟨h', e', j⟩ := aDE T F.np F.nf (h := hs) wS.wf (by omega) ⟨wS.wf, wS.ro, by omega, fun _ _ _ e => e, eL, ⟨e2, e1⟩, fun g e => by cases e⟩ (fun i hi => by omega) H1 H2
 obtain ⟨⟨a1, a2, a3, a4, a5, a6, a7⟩, st, j3, j4⟩ := j.resolve_right id
 rw [show (Array.toList (List.toArray []) ++ [Value.func (.yield (h.next + 4)) #[] #[]] ++ Array.toList (List.toArray [Value.pointer (some ⟨c1, 0, none⟩), .pointer (some ⟨c2, 0, none⟩)])) = [MH (h.next + 4), .pointer (some ⟨c1, 0, none⟩), .pointer (some ⟨c2, 0, none⟩)] from rfl, e', aB, aCD a5 (by omega), aCE, ← hS, show (999999 : Nat) = 999998 + 1 from rfl, aR3]
 unfold aCU
 have ke : ∀ i o, i ≠ h.next + 4 → h'.get i = some o → (h'.upd (h.next + 4) (.loop .exhausted none X.tm X.nt X.ps X.a X.b X.d)).get i = some o := fun i o hi e => by rw [bL, if_neg hi]; exact e
 have hd := ke _ _ (by omega) (a4 _ _ (by omega) eD)
 have wX : Wf (h'.upd (h.next + 4) (.loop .exhausted none X.tm X.nt X.ps X.a X.b X.d)) := a1.upd (by omega) _
 have rX : (h'.upd (h.next + 4) (.loop .exhausted none X.tm X.nt X.ps X.a X.b X.d)).ro = h.ro := a2
 have nX : (h'.upd (h.next + 4) (.loop .exhausted none X.tm X.nt X.ps X.a X.b X.d)).next = h'.next := rfl
 have bX := a6.keep (H' := h'.upd (h.next + 4) (.loop .exhausted none X.tm X.nt X.ps X.a X.b X.d)) (fun o e => ke _ _ (by omega) e) (fun o e => ke _ _ (by omega) e) (fun k l hk c => c.keep fun o e => ke _ _ (by omega) e)
 have sX : Sub h (h'.upd (h.next + 4) (.loop .exhausted none X.tm X.nt X.ps X.a X.b X.d)) := fun i o e => ke _ _ (by have := w.2 i o e; omega) (aHG h' a4 i o e)
 generalize h'.upd (h.next + 4) (.loop .exhausted none X.tm X.nt X.ps X.a X.b X.d) = hx at hd wX rX nX bX sX ⊢
 have gX : aV h (hx.upd (h.next + 3) (.xB false)) := aV.upd w ⟨wX, sX, by omega, rX⟩ (by omega) (by omega) _
 rw [show Z.ds (Z.lose (Z.mark z [h.next + 3])) = [h.next + 3] from by show [h.next + 3] ++ Z.ds z = _; rw [hds]; rfl]
 cases hq : leastOf s (kP s) with
 | none =>
  rw [show leastOf s (onL s.bP.length s.dR.length []) = none from hq] at bX
  obtain ⟨x, y⟩ := bX
  rw [fB (o := 0) y rfl, fB (o := 0) x rfl, aZ, TT hd (by omega), aM]
  exact ⟨_, _, rfl, gX, fun _ => rfl, fun b e => by cases e⟩
 | some g =>
  rw [show leastOf s (onL s.bP.length s.dR.length []) = some g from hq] at bX
  obtain ⟨x, k, y, c, hk⟩ := bX
  rw [fB (o := 0) y rfl, fB (o := 0) x rfl, aZ, TT hd (by omega), aM]
  refine ⟨_, _, rfl, gX, (fun e => by cases e), fun b e => ?_⟩
  cases e
  exact ⟨k, rfl, by omega, c.keep fun o e => by rw [bL, if_neg (by omega)]; exact e⟩
end Go.Proofs.Ytdpicdnpiihaaaa.K.L
