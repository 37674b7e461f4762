/- Contracts of told functions: nearest, best. -/
import Derived.Test.YtdpicdnpiihaaaaLeS42
open Go Go.bK
set_option maxRecDepth 100000
set_option linter.unusedVariables false
namespace Go.Proofs.Ytdpicdnpiihaaaa.K.L
theorem aPK (a b : Value) : jK env 135 (List.toArray [(0, .func (.func 102) (List.toArray [a]) (List.toArray [])), (1, .func (.func 54) (List.toArray [b]) (List.toArray []))]) = some (.agg (Array.mk [.func (.func 102) (List.toArray [a]) (List.toArray []), .func (.func 54) (List.toArray [b]) (List.toArray [])])) := by kernel_rfl
theorem oL.kept {h h1 H : Hp} {v : Value} {ns : List Int} (a : oL h h1 v ns) (s : ∀ i o, h.next ≤ i → h1.get i = some o → H.get i = some o) : oL h H v ns := by
 rcases a with a | ⟨b, e, hle, hg⟩
 ·exact .inl a
 ·exact .inr ⟨b, e, hle, s _ _ hle hg⟩
theorem XC {h : Hp} (w : Wf h) {s : Rm} (F : kY s) {lo : Nat} {lk : List Value} (V : IQ lo h s lk) :
  ∃ h' v, F76 [.agg (Array.mk lk), .int .i64 (nD s.bE.length)] h = some (.tuple (List.toArray [v, .int .i64 (if (leastOf s (qP s)).isSome then 0 else 9)]), h') ∧ aR h h' ∧ (leastOf s (qP s) = none → v = .slice none 0 0) ∧ ∀ b, leastOf s (qP s) = some b → ∃ k, v = M7 k (jQ 0 b) ∧ h.next ≤ k ∧ WZ h' k (jQ 0 b) := by
 have start : F76 [.agg (Array.mk lk), .int .i64 (nD s.bE.length)] h = aMG (aI T76 999999) (.agg (Array.mk lk)) (nD s.bE.length) h := rfl
 rw [start]
 unfold aMG
 rw [dN, aX]
 have g0 := aR.add w (.cells lk 71 none)
 have a0 : At (h.add (.cells lk 71 none)) (.pointer (some ⟨h.next, 0, none⟩)) lk := At.new
 have n0 : (h.add (.cells lk 71 none)).next = h.next + 1 := rfl
 generalize h.add (.cells lk 71 none) = h0 at g0 a0 n0 ⊢
 have a1 : At (Hp.mk h0.next h0.next h0.aF) (.pointer (some ⟨h.next, 0, none⟩)) lk := a0
 obtain ⟨h1, c1, c2, vl, e1, g1, d1, l1, iv, d2, l2⟩ := aDG (h := bY h0) (eF g0.wf) (lk := lk) (np := s.bE.length) F.np
 obtain ⟨H1, W1, gH, sH, eH, ek⟩ := Z9 g0.wf e1 rfl g1
 rw [a1.dL (z := 5) V.len, ek]
 have a2 : At (Hp.mk H1.next H1.next h0.aF) (.pointer (some ⟨h.next, 0, none⟩)) lk := a0
 rw [a2.dL (z := 5) V.len, lY, a2.dL (z := 5) V.len, lY, aPK, aK, lY, lY]
 have ob : aV W1 h0.aF = H1.aF := congrArg Hp.aF eH
 rw [show (aV [] (aV [] (aV [] (aV [] (aV W1 h0.aF))))) = H1.aF from ob]
 have V1 : IQ lo (bY H1) s lk := V.sub fun i o e => gH.sub _ _ (g0.sub _ _ e)
 have iv1 : oL (bY h0) (bY H1) vl (sG s.bE.length) := iv.kept sH
 obtain ⟨h2, v, e2, g2, q1, q2⟩ := aAE (h := bY H1) (eF gH.wf) F V1 (c1 := c1) (c2 := c2) (sH _ _ l1 d1) iv1 (sH _ _ l2 d2)
 have gg := g0.trans gH
 have hro : H1.ro = h0.ro := gH.ro
 cases hq : leastOf s (qP s) with
 | none =>
  rw [hq] at e2 q1 q2
  obtain rfl := q1 rfl
  have e3 : dJ aCT [.func (.func 94) (List.toArray []) (List.toArray [.pointer (some ⟨c1, 0, none⟩), .pointer (some ⟨c2, 0, none⟩)]), .func (.func 103) (List.toArray [vD lk]) (List.toArray [])] (Hp.mk H1.next H1.next H1.aF) = some (.tuple (List.toArray [.slice none 0 0, .bool false]), Hp.mk H1.next H1.next H1.aF) := aZ e2 rfl
  unfold vD at e3
  rw [e3, aB, lY, bP (v := .slice none 0 0) rfl, bP (v := .bool false) rfl, aS, aP, aC, if_pos (by decide)]
  refine ⟨_, _, rfl, ?_, fun _ => rfl, fun b e => by cases e⟩
  rw [show (aV [] H1.aF) = H1.aF from rfl, ← hro]
  exact gg
 | some b =>
  rw [hq] at e2 q1 q2
  obtain ⟨k, rfl, hk, ck⟩ := q2 b rfl
  obtain ⟨H2, W2, gH2, sH2, eH2, ek2⟩ := Z9 gH.wf e2 rfl g2
  unfold vD at ek2
  rw [ek2, bP (v := M7 k (jQ 0 b)) rfl, bP (v := .bool true) rfl, aS, aP, aC, if_neg (by decide)]
  have hE : Hp.mk H2.next h0.ro (aV W2 H1.aF) = H2 := by rw [← hro]; exact eH2
  rw [hE]
  refine ⟨_, _, rfl, gg.trans gH2, (fun e => by cases e), fun b' e => ?_⟩
  cases e
  have hk' : H1.next ≤ k := hk
  exact ⟨k, rfl, by have := gg.next; omega, ck.keep fun o e => sH2 _ _ hk' e⟩
end Go.Proofs.Ytdpicdnpiihaaaa.K.L
open Go Go.bK
set_option maxRecDepth 100000
set_option linter.unusedVariables false
namespace Go.Proofs.Ytdpicdnpiihaaaa.K.L
theorem keptIn {h : Hp} (w : Wf h) {F : List Value → Hp → aJ} {args : List Value} {h1 : Hp} {v : Value} {ns : List Int} (e : F args (bY h) = some (v, h1)) (g : aR (bY h) h1) (iv : oL (bY h) h1 v ns) :
  ∃ H W, aR h H ∧ oL h H v ns ∧ (Hp.mk H.next h.ro (aV W h.aF)) = H ∧
  ∀ k : Value → List (Nat × cK) → Nat → aJ, (aQ (dJ F args (Hp.mk h.next h.next h.aF)) fun v h12 => jA v h.next h12 fun w n => k v w n) = k v W H.next := by
 rcases iv with ⟨rfl, rfl⟩ | ⟨b, rfl, hle, hg⟩
 ·refine ⟨h, [], aR.refl w, .inl ⟨rfl, rfl⟩, rfl, fun k => ?_⟩
  have e3 : dJ F args (Hp.mk h.next h.next h.aF) = some (.slice none 0 0, Hp.mk h.next h.next h.aF) := aZ e rfl
  rw [e3, aB, lY]
 ·obtain ⟨H, W, gH, sH, eH, ek⟩ := Z9 w e rfl g
  exact ⟨H, W, gH, .inr ⟨b, rfl, hle, sH _ _ hle hg⟩, eH, ek⟩
def qL (s : Rm) : Option (List Nat) := match leastOf s (qP s) with
 | none => none
 | some b => if nR (iQ s (W0 s) (jQ 0 b)) then some b else none
theorem DZ {s : Rm} {b : List Nat} (e : qL s = some b) : b ∈ qP s ∧ leastOf s (qP s) = some b ∧ nR (iQ s (W0 s) (jQ 0 b)) = true := by
 unfold qL at e
 cases hq : leastOf s (qP s) with
 | none => rw [hq] at e; cases e
 | some g =>
  rw [hq] at e
  simp only at e
  split at e
  ·cases e
   rename_i c
   exact ⟨LZ s (P := fun g => g ∈ qP s) (fun g hg => hg) _ hq, rfl, c⟩
  ·cases e
theorem aHK {h : Hp} (w : Wf h) {s : Rm} (F : kY s) {lo : Nat} {lk : List Value} (V : IQ lo h s lk) :
  ∃ h' v, F64 [.agg (Array.mk lk), .int .i64 (nD s.bE.length)] h = some (.tuple (List.toArray [v, .int .i64 (if (qL s).isSome then 0 else 9)]), h') ∧ aR h h' ∧ (qL s = none → v = .slice none 0 0) ∧ ∀ b, qL s = some b → ∃ k, v = M7 k (jQ 0 b) ∧ h.next ≤ k ∧ WZ h' k (jQ 0 b) := by
 have start : F64 [.agg (Array.mk lk), .int .i64 (nD s.bE.length)] h = aMI (aI T64 999999) (.agg (Array.mk lk)) (nD s.bE.length) h := rfl
 rw [start]
 unfold aMI
 rw [dN, aX]
 have g0 := aR.add w (.cells lk 71 none)
 have a0 : At (h.add (.cells lk 71 none)) (.pointer (some ⟨h.next, 0, none⟩)) lk := At.new
 have n0 : (h.add (.cells lk 71 none)).next = h.next + 1 := rfl
 generalize h.add (.cells lk 71 none) = h0 at g0 a0 n0 ⊢
 obtain ⟨h2', v, e2, g2', q1, q2⟩ := XC (h := bY h0) (eF g0.wf) F (V.sub g0.sub)
 obtain ⟨h2, e3, g2, o2⟩ := qY g0.wf e2 g2'
 rw [a0.dL (z := 5) V.len, e3, aB, bP (v := v) rfl]
 cases hq : leastOf s (qP s) with
 | none =>
  have hB : qL s = none := by unfold qL; rw [hq]
  rw [hB]
  rw [hq] at q1
  obtain rfl := q1 rfl
  rw [bP (v := .int .i64 9) rfl, aG, aP, aY, aC, if_pos (by decide)]
  exact ⟨_, _, rfl, g0.trans g2, fun _ => rfl, fun b e => by cases e⟩
 | some b =>
  rw [hq] at q2
  obtain ⟨k, rfl, hk, ck⟩ := q2 b rfl
  have hm : b ∈ qP s := LZ s (P := fun g => g ∈ qP s) (fun g hg => hg) _ hq
  have ip := (qK F hm).1
  have o3 : h2.aF = h2'.aF := o2 rfl
  have c2 : WZ h2 k (jQ 0 b) := ck.keep fun o e => by show h2.aF.get k = some o; rw [o3]; exact e
  obtain ⟨h5, e5⟩ := LM (h := bY h2) (eF g2.wf) F (V.sub fun i o e => g2.sub _ _ (g0.sub _ _ e)) (u := M7 k (jQ 0 b)) (l := jQ 0 b) c2.sl ip
  rw [bP (v := .int .i64 0) rfl, aG, aP, aY, aC, if_neg (by decide), (a0.sub g2.sub).dL (z := 5) V.len, aZ e5 rfl, aB, aS, aP, aC]
  have hk' : h0.next ≤ k := hk
  by_cases c : nR (iQ s (W0 s) (jQ 0 b)) = true
  ·have hB : qL s = some b := by unfold qL; rw [hq]; exact if_pos c
   rw [hB, if_neg (by rw [c]; decide)]
   refine ⟨_, _, rfl, g0.trans g2, (fun e => by cases e), fun b' e => ?_⟩
   cases e
   exact ⟨k, rfl, by omega, c2⟩
  ·have hB : qL s = none := by unfold qL; rw [hq]; exact if_neg c
   rw [hB, if_pos (by simpa using c)]
   exact ⟨_, _, rfl, g0.trans g2, fun _ => rfl, fun b e => by cases e⟩
def zP (s : Rm) : List Int × Int × Int := if (gD s).2.2 ≠ 0 then ([], 0, (gD s).2.2) else match qL s with
 | none => ([], 0, 9)
 | some b => (jP b, jY s (jQ 0 b), 0)
theorem aAF : ∀ (l : List Nat) (i : Nat), (jQ i l).map (fun c => (c.1 : Int)) = jP l
 | [], _ => rfl
 | f :: l, i => by
  show (f : Int) :: (jQ (i + 1) l).map _ = Int.ofNat f :: jP l
  rw [aAF l]; rfl
theorem aHL {h : Hp} (w : Wf h) {s : Rm} {r : List Value} (a : zC h s r) :
  ∃ h' v, F26 [.agg (Array.mk r)] h = some (.tuple (List.toArray [v, .int .i64 (zP s).2.1, .int .i64 (zP s).2.2]), h') ∧ aR h h' ∧ oL h h' v (zP s).1 := by
 have start : F26 [.agg (Array.mk r)] h = aMM (aI T26 999999) (.agg (Array.mk r)) h := rfl
 rw [start]
 unfold aMM
 have hr4 := a.len
 rw [dN, aX]
 have g0 : aR h (h.add (.cells r 25 none)) := aR.add w _
 have a0 : At (h.add (.cells r 25 none)) (.pointer (some ⟨h.next, 0, none⟩)) r := At.new
 generalize h.add (.cells r 25 none) = h0 at g0 a0 ⊢
 obtain ⟨h2', lk, e2, gg, hl5, h1c, hlk⟩ := UA (h := bY h0) (eF g0.wf) (a.sub g0.sub)
 obtain ⟨h2, e3, g2, o2⟩ := qY g0.wf e2 gg
 rw [a0.dL (z := 4) hr4, e3, aB, bP (v := .agg (Array.mk lk)) rfl, bP (v := .int .i64 (gD s).2.2) rfl, aG]
 obtain ⟨h4, p4, g4, a4, hk⟩ := lS (ρ := Value × Hp) (z := 5) g2.wf 71 (c := zeroV) (l := lk) rfl hl5 h1c (fun _ _ => none)
 rw [show [(Value.slice none 0 0), (Value.slice none 0 0), (Value.slice none 0 0), (Value.slice none 0 0), (Value.map none)] = zeroV from rfl, hk, aP, aY, aC]
 have g4h : aR h h4 := (g0.trans g2).trans g4
 unfold zP
 by_cases e0 : (gD s).2.2 = 0
 case neg =>
  rw [if_pos (by simpa using e0), if_pos e0]
  exact ⟨h4, _, rfl, g4h, .inl ⟨rfl, rfl⟩⟩
 have F := wD e0
 obtain ⟨V2, T2⟩ := hlk e0
 have V4 := (aBD (o2 (V2.loud _)) V2).sub g4.sub
 have as4 : At (Hp.mk h4.next h4.next h4.aF) p4 lk := a4
 have V4s : IQ _ (bY h4) s lk := V4
 rw [if_neg (by simpa using e0), if_neg (by simpa using e0), as4.dL (z := 5) hl5, as4.dL (z := 5) hl5, QL (h := bY h4) F V4s, aK, aB, aG]
 obtain ⟨h5', v, e5, g5', q1, q2⟩ := aHK (h := bY h4) (eF g4.wf) F V4s
 cases hq : qL s with
 | none =>
  rw [hq] at q1 e5
  obtain rfl := q1 rfl
  have e6 : dJ F64 [.agg (Array.mk lk), .int .i64 (nD s.bE.length)] (Hp.mk h4.next h4.next h4.aF) = some (.tuple (List.toArray [.slice none 0 0, .int .i64 9]), Hp.mk h4.next h4.next h4.aF) := aZ e5 rfl
  rw [e6, aB, lY, bP (v := .slice none 0 0) rfl, bP (v := .int .i64 9) rfl, aG, aP, aY, aC, if_pos (by decide)]
  exact ⟨_, _, rfl, g4h, .inl ⟨rfl, rfl⟩⟩
 | some b =>
  rw [hq] at q2 e5
  obtain ⟨k, rfl, hk, ck⟩ := q2 b rfl
  have hm := (DZ hq).1
  obtain ⟨ip, hlen, hx⟩ := qK F hm
  obtain ⟨H5, W5, gH5, sH5, eH5, ek5⟩ := Z9 g4.wf e5 rfl g5'
  rw [ek5, bP (v := M7 k (jQ 0 b)) rfl, bP (v := .int .i64 0) rfl, aG, aP, aY, aC, if_neg (by decide), eH5]
  have hk' : h4.next ≤ k := hk
  have c5 : WZ H5 k (jQ 0 b) := ck.keep fun o e => sH5 _ _ hk' e
  have c5s : WZ (bY H5) k (jQ 0 b) := c5
  obtain ⟨h6, v6, e6, g6, i6⟩ := XA (h := bY H5) (eF gH5.wf) c5s.sl.rows (by rw [rE]; have := F.np; omega)
  obtain ⟨H6, W6, gH6, iH6, eH6, ek6⟩ := keptIn gH5.wf e6 g6 i6
  rw [ek6]
  have a6 : At (Hp.mk H6.next H6.next H5.aF) p4 lk := a4.sub gH5.sub
  rw [a6.dL (z := 5) hl5, eH6, zB F (V4.sub fun i o e => gH6.sub _ _ (gH5.sub _ _ e)) (c5.keep fun o e => gH6.sub _ _ e).sl.rows ip, aK, aB, aG]
  rw [aAF] at iH6
  exact ⟨_, _, rfl, (g4h.trans gH5).trans gH6, iH6.low (by have := (g4h.trans gH5).next; exact this)⟩
end Go.Proofs.Ytdpicdnpiihaaaa.K.L
