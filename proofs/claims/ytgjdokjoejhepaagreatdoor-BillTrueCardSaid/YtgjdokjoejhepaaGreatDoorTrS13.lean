/- Contracts of told functions: whether an entry holds (the code), whole. -/
import Derived.Test.YtgjdokjoejhepaaGreatDoorTrS12
open Go Go.bP Go.bP.Y
set_option maxRecDepth 100000
set_option linter.unusedVariables false
namespace Go.Proofs.YtgjdokjoejhepaaGreatDoor.K.L
def Met (s : Sh) (x : Nat) (e : En) (k b : Nat) : Prop := (k : Int) = e.says ∧ (b : Int) = e.b ∧ aB1 s k x b = true
def aQU (s : Sh) (x : Nat) (e : En) (k b : Nat) : Prop := ∀ k' b', (k' < k ∨ (k' = k ∧ b' < b)) → k' < 3 → b' < s.aU.length → ¬ Met s x e k' b'
def Found (s : Sh) (x : Nat) (e : En) : Prop := ∃ k b, k < 3 ∧ b < s.aU.length ∧ Met s x e k b
def IV (s : Sh) (e : En) : Bool := oZ 0 2 e.says && (oZ 0 (s.aU.length - 1) e.b && aB1 s e.says.toNat e.a.toNat e.b.toNat)
def rF (s : Sh) (e : En) : Bool := oZ 0 (s.aU.length - 1) e.a && IV s e
theorem aQV {s : Sh} {e : En} (h : Found s e.a.toNat e) : IV s e = true := by
 obtain ⟨k, b, hk, hb, h1, h2, h3⟩ := h
 unfold IV
 rw [show oZ 0 2 e.says = true from jH.2 ⟨by omega, by omega⟩, show oZ 0 (s.aU.length - 1) e.b = true from jH.2 ⟨by omega, by omega⟩, show e.says.toNat = k by omega, show e.b.toNat = b by omega, h3]
 rfl
theorem a1K {s : Sh} {e : En} (h : aQU s e.a.toNat e 3 0) : IV s e = false := by
 cases hc : IV s e with
 | false => rfl
 | true =>
  unfold IV at hc
  rw [Bool.and_eq_true, Bool.and_eq_true] at hc
  obtain ⟨h1, h2, h3⟩ := hc
  obtain ⟨a1, a2⟩ := jH.1 h1
  obtain ⟨b1, b2⟩ := jH.1 h2
  exact absurd ⟨by omega, by omega, h3⟩ (h e.says.toNat e.b.toNat (.inl (by omega)) (by omega) (by omega))
theorem aQW (a b : Nat) : jS (.func (.func 146) (List.toArray []) (List.toArray [.pointer (some ⟨a, 0, none⟩), .pointer (some ⟨b, 0, none⟩)])) = false := by kernel_rfl
theorem a1L (h : Hp) {r : List Value} (x : Int) : dR aK2 [.agg (Array.mk r), .int .i64 x] h = some (.func (.func 146) (List.toArray []) (List.toArray [.pointer (some ⟨h.next, 0, none⟩), .pointer (some ⟨h.next + 1, 0, none⟩)]), (h.add (.cells r 88 none)).add (.cells [.int .i64 x] 3 none)) := by
 have e : aK2 [.agg (Array.mk r), .int .i64 x] (bK h) = some (.func (.func 146) (List.toArray []) (List.toArray [.pointer (some ⟨h.next, 0, none⟩), .pointer (some ⟨h.next + 1, 0, none⟩)]), ((bK h).add (.cells r 88 none)).add (.cells [.int .i64 x] 3 none)) := by
  have start : aK2 [.agg (Array.mk r), .int .i64 x] (bK h) = YH (aP aPX 999999) (.agg (Array.mk r)) x (bK h) := rfl
  rw [start]
  unfold YH
  rw [fQ, bL, bL]
  rfl
 unfold dR
 rw [e, aD, aQW, aI, if_neg (by simp)]
 rfl
section
variable {s : Sh} {r : List Value} {e : En}
theorem aK5 {h1 h4 : Hp} (w1 : Wf h1) (sh : yX h1 s r) (f : mZ s) {pe : Value} (he : At h1 pe e.row) {c bp bq : Nat} (hc : h1.next ≤ c) (hcp : c < bp) (hpq : bp < bq) (hq4 : bq < h4.next) (hx0 : 0 ≤ e.a) (hx : e.a.toNat < s.aU.length)
  (g4 : bE h1 h4) (gp : h4.get bp = some (.cells r 88 none)) (gq : h4.get bq = some (.cells [.int .i64 e.a] 3 none)) (gc : h4.get c = some (.cells [.bool false] 4 none)) (zz : Z) (t : T Value) (ht : zz.tm = some t) (hd : zz.ds = []) :
  ∃ h', (dD (Z.tm zz) fun a0L => aKO vS yN none (fun d => LX.mk a0L pW (FE.ps iO) (FE.a iO) (FE.b iO) d) (.func (.func 146) (List.toArray []) (List.toArray [.pointer (some ⟨bp, 0, none⟩), .pointer (some ⟨bq, 0, none⟩)])) h4 (fun l args h => IQ yN 1 l (AL.v pe (AL.v (.pointer (some ⟨c, 0, none⟩)) AL.n)) zz args h) fun e22 aP1 h22 =>
   exK e22 (nO (aBO yN) 999999 2 (AL.v (.pointer (some ⟨c, 0, none⟩)) AL.n) (Z.mark zz aP1) h22) (dD (vD (Z.ds (Z.mark zz aP1)) h22) fun h23 => bC h23 (.pointer (some ⟨c, 0, none⟩)) fun v24 => some (v24, h23)) fun i22 => none) = some (.bool (IV s e), h') := by
 have hr1 := w1.1
 have ex : ((e.a.toNat : Nat) : Int) = e.a := by omega
 rw [ht, aM, aOG, bB2]
 generalize hX : LX.mk t pW (FE.ps iO) (FE.a iO) (FE.b iO) h4.next = X
 have gD : bE h4 (h4.add (.sK true)) := bE.add g4.wf _
 have gL : bE h4 ((h4.add (.sK true)).add (X.obj .ready none)) := gD.trans (bE.add gD.wf _)
 have nL : ((h4.add (.sK true)).add (X.obj .ready none)).next = h4.next + 2 := rfl
 have I0 : HI h1 bp bq h4.next r e.a ((h4.add (.sK true)).add (X.obj .ready none)) := ⟨g4.trans gL, gL.sub _ _ gp, gL.sub _ _ gq, by rw [dM, if_neg (by rw [BK]; omega), dM, if_pos rfl]⟩
 have l0 : ((h4.add (.sK true)).add (X.obj .ready none)).get (h4.next + 1) = some (X.obj .ready none) := by rw [dM, if_pos (by rw [BK])]
 have c0 := gL.sub _ _ gc
 have n4 := g4.next
 have A : aUF s r e.a.toNat (.pointer (some ⟨bp, 0, none⟩)) (.pointer (some ⟨bq, 0, none⟩)) (h4.next + 2) (h4.next + 1) (YL (h4.next + 1) X (fun args h => IQ yN 1 (h4.next + 1) (AL.v pe (AL.v (.pointer (some ⟨c, 0, none⟩)) AL.n)) zz args h) yN)
   (fun k b h => HI h1 bp bq h4.next r e.a h ∧ h.get (h4.next + 1) = some (X.obj .ready none) ∧ h.get c = some (.cells [.bool false] 4 none) ∧ aQU s e.a.toNat e k b)
   (fun h => HI h1 bp bq h4.next r e.a h ∧ h.get (h4.next + 1) = some (X.obj .done (some .ret)) ∧ h.get c = some (.cells [.bool true] 4 none) ∧ Found s e.a.toNat e) := by
  refine ⟨fun k b h J => ?_, fun k b h h' g J => ?_, fun k h J => ?_, fun k b h hk hb hs J => ?_, fun k b h hk hb hs J => ?_⟩
  ·obtain ⟨I, j1, j2, j3⟩ := J
   have := I.grew.wf.2 _ _ j1
   refine ⟨I.grew.wf, ⟨bp, 0, _, 88, none, rfl, I.gp, by simp, fun k x hx => by simpa using hx⟩, sh.sub I.grew.sub, ?_, by omega⟩
   rw [ex]
   exact ⟨bq, 0, _, 3, none, rfl, I.gq, by simp, fun k x hx => by simpa using hx⟩
  ·obtain ⟨I, j1, j2, j3⟩ := J
   exact ⟨I.more g, g.sub _ _ j1, g.sub _ _ j2, j3⟩
  ·obtain ⟨I, j1, j2, j3⟩ := J
   exact ⟨I, j1, j2, fun k' b' ho hk' hb' => j3 k' b' (by omega) hk' hb'⟩
  ·obtain ⟨I, j1, j2, j3⟩ := J
   refine ⟨I, j1, j2, fun k' b' ho hk' hb' hm => ?_⟩
   by_cases c1 : k' < k ∨ (k' = k ∧ b' < b)
   ·exact j3 k' b' c1 hk' hb' hm
   ·have e1 : k' = k := by omega
    have e2 : b' = b := by omega
    subst e1 e2
    obtain ⟨_, _, m3⟩ := hm
    rw [hs] at m3; cases m3
  ·obtain ⟨I, j1, j2, j3⟩ := J
   obtain ⟨h', q1, q2, q3, q4⟩ := aQT (e := e) w1 (bp := bp) (bq := bq) (d := h4.next) (c := c) (l := h4.next + 1) he hc (by omega) (by omega) (by omega) (X := X) (z := zz) hd ⟨(k : Int), ((e.a.toNat : Nat) : Int), (b : Int)⟩ I j1 j2
   refine ⟨_, h', q1, fun i o hi ho => q3 i o (by omega) (by omega) ho, ?_⟩
   cases hcase : (decide ((k : Int) = e.says) && (decide (((e.a.toNat : Nat) : Int) = e.a) && decide ((b : Int) = e.b))) with
   | true =>
    simp only [hcase] at q4
    rw [Bool.and_eq_true, Bool.and_eq_true] at hcase
    simp only [decide_eq_true_iff] at hcase
    exact ⟨q2, q4.1, q4.2, k, b, hk, hb, hcase.1, hcase.2.2, hs⟩
   | false =>
    simp only [hcase] at q4
    refine ⟨q2, q4.1, q4.2, fun k' b' ho hk' hb' hm => ?_⟩
    by_cases c1 : k' < k ∨ (k' = k ∧ b' < b)
    ·exact j3 k' b' c1 hk' hb' hm
    ·have e1 : k' = k := by omega
     have e2 : b' = b := by omega
     subst e1 e2
     obtain ⟨m1, m2, _⟩ := hm
     rw [decide_eq_true m1, decide_eq_true m2, decide_eq_true ex] at hcase
     cases hcase
 obtain ⟨h5, e5, hI⟩ := SI A f hx (h := (h4.add (.sK true)).add (X.obj .ready none)) ⟨I0, l0, c0, fun k' b' ho => by omega⟩
 show ∃ h', (aY (VG _ [.func (.yield (h4.next + 1)) #[] #[], .pointer (some ⟨bp, 0, none⟩), .pointer (some ⟨bq, 0, none⟩)] _) _) = _
 rw [e5, aD]
 rcases hI with ⟨I, q1, q2, q3⟩ | ⟨I, q1, q2, q3⟩
 ·rw [aEV (h := h5) q1 (by have := I.grew.ro; omega), aEW, a1K q3]
  have I6 := I.upd w1 (b := h4.next + 1) (by omega) (I.grew.wf.2 _ _ q1) (by omega) (by omega) (by omega) (.loop .exhausted none X.tm X.nt X.ps X.a X.b X.d)
  have c6 : (h5.upd (h4.next + 1) (.loop .exhausted none X.tm X.nt X.ps X.a X.b X.d)).get c = some (.cells [.bool false] 4 none) := by rw [dL, if_neg (by omega)]; exact q2
  generalize h5.upd (h4.next + 1) (.loop .exhausted none X.tm X.nt X.ps X.a X.b X.d) = h7 at I6 c6 ⊢
  have st2 : ∀ z h, nO (aBO yN) 999999 2 (AL.v (.pointer (some ⟨c, 0, none⟩)) AL.n) z h = YK yN (nO (aBO yN) 999998) (.pointer (some ⟨c, 0, none⟩)) z h := fun _ _ => rfl
  rw [st2]
  unfold YK
  rw [qQ c6 (by have := I6.grew.ro; omega) rfl (by simp)]
  rw [show Z.ds (Z.mark zz [h4.next]) = [h4.next] from by unfold Z.mark; rw [hd]; rfl, UY (by rw [dL, if_neg (by omega)]; exact I6.gd) (by have := I6.grew.ro; rw [aYH]; omega), aM,
   lG (o := 0) (v := .bool false) (by rw [dL, if_neg (by omega), dL, if_pos rfl]) rfl]
  exact ⟨_, rfl⟩
 ·rw [aOF (h := h5) q1 (by have := I.grew.ro; omega), aSW, aQV q3]
  have I6 := I.upd w1 (b := h4.next + 1) (by omega) (I.grew.wf.2 _ _ q1) (by omega) (by omega) (by omega) (.loop .exhausted (some .ret) X.tm X.nt X.ps X.a X.b X.d)
  have c6 : (h5.upd (h4.next + 1) (.loop .exhausted (some .ret) X.tm X.nt X.ps X.a X.b X.d)).get c = some (.cells [.bool true] 4 none) := by rw [dL, if_neg (by omega)]; exact q2
  generalize h5.upd (h4.next + 1) (.loop .exhausted (some .ret) X.tm X.nt X.ps X.a X.b X.d) = h7 at I6 c6 ⊢
  rw [show Z.ds (Z.mark zz [h4.next]) = [h4.next] from by unfold Z.mark; rw [hd]; rfl, UY I6.gd (by have := I6.grew.ro; omega), aM,
   lG (o := 0) (v := .bool true) (by rw [dL, if_neg (by omega)]; exact c6) rfl]
  exact ⟨_, rfl⟩
theorem aB4 {h : Hp} (w : Wf h) (a : yX h s r) (f : mZ s) (e : En) : ∃ h', aP2 [.agg (Array.mk r), .agg (Array.mk e.row)] h = some (.bool (rF s e), h') := by
 have start : aP2 [.agg (Array.mk r), .agg (Array.mk e.row)] h = YM yN (nO (aBO yN) 999999) (.agg (Array.mk r)) (.agg (Array.mk e.row)) ⟨some (jQ [.agg (Array.mk r), .agg (Array.mk e.row)] 0 bP.T.nil), []⟩ h := rfl
 rw [start]
 unfold YM
 have f6 := f.aU
 have hr3 := a.len
 rw [fQ, fQ, bL, bL, bL]
 have g0 : bE h (h.add (.cells r 88 none)) := bE.add w _
 have r0 : (h.add (.cells r 88 none)).get h.next = some (.cells r 88 none) := by rw [dM, if_pos rfl]
 generalize h.add (.cells r 88 none) = h0 at g0 r0 ⊢
 have g1' := bE.add g0.wf (.cells e.row 57 none)
 have e1 : (h0.add (.cells e.row 57 none)).get h0.next = some (.cells e.row 57 none) := by rw [dM, if_pos rfl]
 have r1 := g1'.sub _ _ r0
 have g1 : bE h (h0.add (.cells e.row 57 none)) := g0.trans g1'
 generalize h0.add (.cells e.row 57 none) = h1 at g1 e1 r1 ⊢
 have sh1 := a.sub g1.sub
 have w1 := g1.wf
 obtain ⟨vf, vt, rfl, sf, st⟩ := id sh1
 have g2 := bE.add w1 (.cells [.bool false] 4 none)
 have c2 : (h1.add (.cells [.bool false] 4 none)).get h1.next = some (.cells [.bool false] 4 none) := by rw [dM, if_pos rfl]
 have n2 : (h1.add (.cells [.bool false] 4 none)).next = h1.next + 1 := rfl
 generalize h1.add (.cells [.bool false] 4 none) = h2 at g2 c2 n2 ⊢
 have r2 := g2.sub _ _ r1
 have e2 := g2.sub _ _ e1
 rw [oP, oP, lG r2 (o := 0 + 0 + 1) (v := vf) rfl, (sf.sub g2.sub).rows.len, List.length_map, oP, lG e2 (o := 0 + 1) (v := .int .i64 e.a) rfl, aK, vT, aD, FK h2 (by omega), aM, aD, aO, aX, aI]
 have g3' := bE.add g2.wf (.cells [.int .i64 e.a] 3 none)
 have n3 : (h2.add (.cells [.int .i64 e.a] 3 none)).next = h1.next + 2 := by show h2.next + 1 = _; omega
 have r3 := g3'.sub _ _ r2
 have e3 := g3'.sub _ _ e2
 have c3 := g3'.sub _ _ c2
 have g3 := g2.trans g3'
 generalize h2.add (.cells [.int .i64 e.a] 3 none) = h3 at g3 n3 r3 e3 c3 ⊢
 unfold rF
 cases hin : oZ 0 (s.aU.length - 1) e.a with
 | false =>
  rw [if_pos (by rfl), qQ c3 (by have := g3.ro; have := w1.1; omega) rfl (by simp)]
  refine ⟨h3.upd h1.next (.cells ([Value.bool false].set 0 (Value.bool false)) 4 none), ?_⟩
  show (bC (h3.upd h1.next (.cells ([Value.bool false].set 0 (Value.bool false)) 4 none)) (.pointer (some ⟨h1.next, 0, none⟩)) fun v16 => some (v16, _)) = _
  rw [lG (o := 0) (v := .bool false) (by rw [dL, if_pos rfl]) rfl]
  rfl
 | true =>
  obtain ⟨x1, x2⟩ := jH.1 hin
  have hrl : r0 = r0 := rfl
  rw [if_neg (by simp), yM r3 (by simp [eT]), oP, lG e3 (o := 0 + 1) (v := .int .i64 e.a) rfl, aK]
  rw [show List.take 3 (List.drop 0 (eT s.lines vf vt)) = eT s.lines vf vt from rfl, a1L, aD]
  have g4' := bE.add g3.wf (.cells (eT s.lines vf vt) 88 none)
  have a1M := bE.add g4'.wf (.cells [.int .i64 e.a] 3 none)
  have bq : ((h3.add (.cells (eT s.lines vf vt) 88 none)).add (.cells [.int .i64 e.a] 3 none)).get (h3.next + 1) = some (.cells [.int .i64 e.a] 3 none) := by rw [dM, if_pos (show h3.next + 1 = (h3.add (.cells (eT s.lines vf vt) 88 none)).next from rfl)]
  have bp : ((h3.add (.cells (eT s.lines vf vt) 88 none)).add (.cells [.int .i64 e.a] 3 none)).get h3.next = some (.cells (eT s.lines vf vt) 88 none) := a1M.sub _ _ (by rw [dM, if_pos rfl])
  exact aK5 w1 sh1 f (pe := .pointer (some ⟨h0.next, 0, none⟩)) ⟨h0.next, 0, _, 57, none, rfl, e1, by simp, fun k x hx => by simpa using hx⟩ (c := h1.next) (Nat.le_refl _) (by omega) (Nat.lt_succ_self _) (by show h3.next + 1 < h3.next + 1 + 1; omega) x1 (by omega) (g3.trans (g4'.trans a1M)) bp bq ((g4'.trans a1M).sub _ _ c3) _ _ rfl rfl
end
end Go.Proofs.YtgjdokjoejhepaaGreatDoor.K.L
