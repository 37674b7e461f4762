/- Contracts of told functions: nearest, best. -/
import Derived.Test.YtdpicdnpiihaaaaOrS42
open Go Go.bI
set_option maxRecDepth 100000
set_option linter.unusedVariables false
namespace Go.Proofs.Ytdpicdnpiihaaaa.K.L
theorem aOR (a b : Value) : jX env 135 (List.toArray [(0, .func (.func 102) (List.toArray [a]) (List.toArray [])), (1, .func (.func 54) (List.toArray [b]) (List.toArray []))]) = some (.agg (Array.mk [.func (.func 102) (List.toArray [a]) (List.toArray []), .func (.func 54) (List.toArray [b]) (List.toArray [])])) := by kernel_rfl
theorem qZ.kept {h h1 H : Hp} {v : Value} {ns : List Int} (a : qZ h h1 v ns) (s : ∀ i o, h.next ≤ i → h1.get i = some o → H.get i = some o) : qZ h H v ns := by
 rcases a with a | ⟨b, e, hle, hg⟩
 ·exact .inl a
 ·exact .inr ⟨b, e, hle, s _ _ hle hg⟩
theorem IU {h : Hp} (w : Wf h) {s : Rm} (F : nI s) {lo : Nat} {lk : List Value} (V : GD lo h s lk) :
  ∃ h' v, F76 [.agg (Array.mk lk), .int .i64 (nJ s.dR.length)] h = some (.tuple (List.toArray [v, .int .i64 (if (leastOf s (kP s)).isSome then 0 else 9)]), h') ∧ aV h h' ∧ (leastOf s (kP s) = none → v = .slice none 0 0) ∧ ∀ b, leastOf s (kP s) = some b → ∃ k, v = LQ k (gQ 0 b) ∧ h.next ≤ k ∧ RJ h' k (gQ 0 b) := by
 have start : F76 [.agg (Array.mk lk), .int .i64 (nJ s.dR.length)] h = aMB (aN T76 999999) (.agg (Array.mk lk)) (nJ s.dR.length) h := rfl
 rw [start]
 unfold aMB
 rw [fF, bT]
 have g0 := aV.add w (.cells lk 71 none)
 have a0 : At (h.add (.cells lk 71 none)) (.pointer (some ⟨h.next, 0, none⟩)) lk := At.new
 have n0 : (h.add (.cells lk 71 none)).next = h.next + 1 := rfl
 generalize h.add (.cells lk 71 none) = h0 at g0 a0 n0 ⊢
 have a1 : At (Hp.mk h0.next h0.next h0.aC) (.pointer (some ⟨h.next, 0, none⟩)) lk := a0
 obtain ⟨h1, c1, c2, vl, e1, g1, d1, l1, iv, d2, l2⟩ := aDF (h := dF h0) (fM g0.wf) (lk := lk) (np := s.dR.length) F.np
 obtain ⟨H1, W1, gH, sH, eH, ek⟩ := UF g0.wf e1 rfl g1
 rw [a1.eX (z := 5) V.len, ek]
 have a2 : At (Hp.mk H1.next H1.next h0.aC) (.pointer (some ⟨h.next, 0, none⟩)) lk := a0
 rw [a2.eX (z := 5) V.len, jM, a2.eX (z := 5) V.len, jM, aOR, aM, jM, jM]
 have ob : aG W1 h0.aC = H1.aC := congrArg Hp.aC eH
 rw [show (aG [] (aG [] (aG [] (aG [] (aG W1 h0.aC))))) = H1.aC from ob]
 have V1 : GD lo (dF H1) s lk := V.sub fun i o e => gH.sub _ _ (g0.sub _ _ e)
 have iv1 : qZ (dF h0) (dF H1) vl (sJ s.dR.length) := iv.kept sH
 obtain ⟨h2, v, e2, g2, q1, q2⟩ := Z6 (h := dF H1) (fM gH.wf) F V1 (c1 := c1) (c2 := c2) (sH _ _ l1 d1) iv1 (sH _ _ l2 d2)
 have gg := g0.trans gH
 have hro : H1.ro = h0.ro := gH.ro
 cases hq : leastOf s (kP s) with
 | none =>
  rw [hq] at e2 q1 q2
  obtain rfl := q1 rfl
  have e3 : bQ aCW [.func (.func 94) (List.toArray []) (List.toArray [.pointer (some ⟨c1, 0, none⟩), .pointer (some ⟨c2, 0, none⟩)]), .func (.func 103) (List.toArray [vF lk]) (List.toArray [])] (Hp.mk H1.next H1.next H1.aC) = some (.tuple (List.toArray [.slice none 0 0, .bool false]), Hp.mk H1.next H1.next H1.aC) := bO e2 rfl
  unfold vF at e3
  rw [e3, aB, jM, bG (v := .slice none 0 0) rfl, bG (v := .bool false) rfl, aZ, aR, aH, if_pos (by decide)]
  refine ⟨_, _, rfl, ?_, fun _ => rfl, fun b e => by cases e⟩
  rw [show (aG [] H1.aC) = H1.aC from rfl, ← hro]
  exact gg
 | some b =>
  rw [hq] at e2 q1 q2
  obtain ⟨k, rfl, hk, ck⟩ := q2 b rfl
  obtain ⟨H2, W2, gH2, sH2, eH2, ek2⟩ := UF gH.wf e2 rfl g2
  unfold vF at ek2
  rw [ek2, bG (v := LQ k (gQ 0 b)) rfl, bG (v := .bool true) rfl, aZ, aR, aH, if_neg (by decide)]
  have hE : Hp.mk H2.next h0.ro (aG W2 H1.aC) = H2 := by rw [← hro]; exact eH2
  rw [hE]
  refine ⟨_, _, rfl, gg.trans gH2, (fun e => by cases e), fun b' e => ?_⟩
  cases e
  have hk' : H1.next ≤ k := hk
  exact ⟨k, rfl, by have := gg.next; omega, ck.keep fun o e => sH2 _ _ hk' e⟩
end Go.Proofs.Ytdpicdnpiihaaaa.K.L
open Go Go.bI
set_option maxRecDepth 100000
set_option linter.unusedVariables false
namespace Go.Proofs.Ytdpicdnpiihaaaa.K.L
theorem keptIn {h : Hp} (w : Wf h) {F : List Value → Hp → aF} {args : List Value} {h1 : Hp} {v : Value} {ns : List Int} (e : F args (dF h) = some (v, h1)) (g : aV (dF h) h1) (iv : qZ (dF h) h1 v ns) :
  ∃ H W, aV h H ∧ qZ h H v ns ∧ (Hp.mk H.next h.ro (aG W h.aC)) = H ∧
  ∀ k : Value → List (Nat × bY) → Nat → aF, (aK (bQ F args (Hp.mk h.next h.next h.aC)) fun v h12 => eP v h.next h12 fun w n => k v w n) = k v W H.next := by
 rcases iv with ⟨rfl, rfl⟩ | ⟨b, rfl, hle, hg⟩
 ·refine ⟨h, [], aV.refl w, .inl ⟨rfl, rfl⟩, rfl, fun k => ?_⟩
  have e3 : bQ F args (Hp.mk h.next h.next h.aC) = some (.slice none 0 0, Hp.mk h.next h.next h.aC) := bO e rfl
  rw [e3, aB, jM]
 ·obtain ⟨H, W, gH, sH, eH, ek⟩ := UF w e rfl g
  exact ⟨H, W, gH, .inr ⟨b, rfl, hle, sH _ _ hle hg⟩, eH, ek⟩
def jW (s : Rm) : Option (List Nat) := match leastOf s (kP s) with
 | none => none
 | some b => if CE (gK s (W0 s) (gQ 0 b)) then some b else none
theorem UI {s : Rm} {b : List Nat} (e : jW s = some b) : b ∈ kP s ∧ leastOf s (kP s) = some b ∧ CE (gK s (W0 s) (gQ 0 b)) = true := by
 unfold jW at e
 cases hq : leastOf s (kP s) with
 | none => rw [hq] at e; cases e
 | some g =>
  rw [hq] at e
  simp only at e
  split at e
  ·cases e
   rename_i c
   exact ⟨mD s (P := fun g => g ∈ kP s) (fun g hg => hg) _ hq, rfl, c⟩
  ·cases e
theorem aHH {h : Hp} (w : Wf h) {s : Rm} (F : nI s) {lo : Nat} {lk : List Value} (V : GD lo h s lk) :
  ∃ h' v, F64 [.agg (Array.mk lk), .int .i64 (nJ s.dR.length)] h = some (.tuple (List.toArray [v, .int .i64 (if (jW s).isSome then 0 else 9)]), h') ∧ aV h h' ∧ (jW s = none → v = .slice none 0 0) ∧ ∀ b, jW s = some b → ∃ k, v = LQ k (gQ 0 b) ∧ h.next ≤ k ∧ RJ h' k (gQ 0 b) := by
 have start : F64 [.agg (Array.mk lk), .int .i64 (nJ s.dR.length)] h = aMD (aN T64 999999) (.agg (Array.mk lk)) (nJ s.dR.length) h := rfl
 rw [start]
 unfold aMD
 rw [fF, bT]
 have g0 := aV.add w (.cells lk 71 none)
 have a0 : At (h.add (.cells lk 71 none)) (.pointer (some ⟨h.next, 0, none⟩)) lk := At.new
 have n0 : (h.add (.cells lk 71 none)).next = h.next + 1 := rfl
 generalize h.add (.cells lk 71 none) = h0 at g0 a0 n0 ⊢
 obtain ⟨h2', v, e2, g2', q1, q2⟩ := IU (h := dF h0) (fM g0.wf) F (V.sub g0.sub)
 obtain ⟨h2, e3, g2, o2⟩ := xU g0.wf e2 g2'
 rw [a0.eX (z := 5) V.len, e3, aB, bG (v := v) rfl]
 cases hq : leastOf s (kP s) with
 | none =>
  have hB : jW s = none := by unfold jW; rw [hq]
  rw [hB]
  rw [hq] at q1
  obtain rfl := q1 rfl
  rw [bG (v := .int .i64 9) rfl, aI, aR, cK, aH, if_pos (by decide)]
  exact ⟨_, _, rfl, g0.trans g2, fun _ => rfl, fun b e => by cases e⟩
 | some b =>
  rw [hq] at q2
  obtain ⟨k, rfl, hk, ck⟩ := q2 b rfl
  have hm : b ∈ kP s := mD s (P := fun g => g ∈ kP s) (fun g hg => hg) _ hq
  have ip := (oZ F hm).1
  have o3 : h2.aC = h2'.aC := o2 rfl
  have c2 : RJ h2 k (gQ 0 b) := ck.keep fun o e => by show h2.aC.get k = some o; rw [o3]; exact e
  obtain ⟨h5, e5⟩ := ZQ (h := dF h2) (fM g2.wf) F (V.sub fun i o e => g2.sub _ _ (g0.sub _ _ e)) (u := LQ k (gQ 0 b)) (l := gQ 0 b) c2.sl ip
  rw [bG (v := .int .i64 0) rfl, aI, aR, cK, aH, if_neg (by decide), (a0.sub g2.sub).eX (z := 5) V.len, bO e5 rfl, aB, aZ, aR, aH]
  have hk' : h0.next ≤ k := hk
  by_cases c : CE (gK s (W0 s) (gQ 0 b)) = true
  ·have hB : jW s = some b := by unfold jW; rw [hq]; exact if_pos c
   rw [hB, if_neg (by rw [c]; decide)]
   refine ⟨_, _, rfl, g0.trans g2, (fun e => by cases e), fun b' e => ?_⟩
   cases e
   exact ⟨k, rfl, by omega, c2⟩
  ·have hB : jW s = none := by unfold jW; rw [hq]; exact if_neg c
   rw [hB, if_pos (by simpa using c)]
   exact ⟨_, _, rfl, g0.trans g2, fun _ => rfl, fun b e => by cases e⟩
def jN (s : Rm) : List Int × Int × Int := if (fC s).2.2 ≠ 0 then ([], 0, (fC s).2.2) else match jW s with
 | none => ([], 0, 9)
 | some b => (wE b, iL s (gQ 0 b), 0)
theorem Z7 : ∀ (l : List Nat) (i : Nat), (gQ i l).map (fun c => (c.1 : Int)) = wE l
 | [], _ => rfl
 | f :: l, i => by
  show (f : Int) :: (gQ (i + 1) l).map _ = Int.ofNat f :: wE l
  rw [Z7 l]; rfl
theorem KA {h : Hp} (w : Wf h) {s : Rm} {r : List Value} (a : FU h s r) :
  ∃ h' v, F26 [.agg (Array.mk r)] h = some (.tuple (List.toArray [v, .int .i64 (jN s).2.1, .int .i64 (jN s).2.2]), h') ∧ aV h h' ∧ qZ h h' v (jN s).1 := by
 have start : F26 [.agg (Array.mk r)] h = aMH (aN T26 999999) (.agg (Array.mk r)) h := rfl
 rw [start]
 unfold aMH
 have hr4 := a.len
 rw [fF, bT]
 have g0 : aV h (h.add (.cells r 25 none)) := aV.add w _
 have a0 : At (h.add (.cells r 25 none)) (.pointer (some ⟨h.next, 0, none⟩)) r := At.new
 generalize h.add (.cells r 25 none) = h0 at g0 a0 ⊢
 obtain ⟨h2', lk, e2, gg, hl5, h1c, hlk⟩ := UJ (h := dF h0) (fM g0.wf) (a.sub g0.sub)
 obtain ⟨h2, e3, g2, o2⟩ := xU g0.wf e2 gg
 rw [a0.eX (z := 4) hr4, e3, aB, bG (v := .agg (Array.mk lk)) rfl, bG (v := .int .i64 (fC s).2.2) rfl, aI]
 obtain ⟨h4, p4, g4, a4, hk⟩ := l9 (ρ := Value × Hp) (z := 5) g2.wf 71 (c := zeroV) (l := lk) rfl hl5 h1c (fun _ _ => none)
 rw [show [(Value.slice none 0 0), (Value.slice none 0 0), (Value.slice none 0 0), (Value.slice none 0 0), (Value.map none)] = zeroV from rfl, hk, aR, cK, aH]
 have g4h : aV h h4 := (g0.trans g2).trans g4
 unfold jN
 by_cases e0 : (fC s).2.2 = 0
 case neg =>
  rw [if_pos (by simpa using e0), if_pos e0]
  exact ⟨h4, _, rfl, g4h, .inl ⟨rfl, rfl⟩⟩
 have F := rF e0
 obtain ⟨V2, T2⟩ := hlk e0
 have V4 := (aF8 (o2 (V2.loud _)) V2).sub g4.sub
 have as4 : At (Hp.mk h4.next h4.next h4.aC) p4 lk := a4
 have V4s : GD _ (dF h4) s lk := V4
 rw [if_neg (by simpa using e0), if_neg (by simpa using e0), as4.eX (z := 5) hl5, as4.eX (z := 5) hl5, CF (h := dF h4) F V4s, aM, aB, aI]
 obtain ⟨h5', v, e5, g5', q1, q2⟩ := aHH (h := dF h4) (fM g4.wf) F V4s
 cases hq : jW s with
 | none =>
  rw [hq] at q1 e5
  obtain rfl := q1 rfl
  have e6 : bQ F64 [.agg (Array.mk lk), .int .i64 (nJ s.dR.length)] (Hp.mk h4.next h4.next h4.aC) = some (.tuple (List.toArray [.slice none 0 0, .int .i64 9]), Hp.mk h4.next h4.next h4.aC) := bO e5 rfl
  rw [e6, aB, jM, bG (v := .slice none 0 0) rfl, bG (v := .int .i64 9) rfl, aI, aR, cK, aH, if_pos (by decide)]
  exact ⟨_, _, rfl, g4h, .inl ⟨rfl, rfl⟩⟩
 | some b =>
  rw [hq] at q2 e5
  obtain ⟨k, rfl, hk, ck⟩ := q2 b rfl
  have hm := (UI hq).1
  obtain ⟨ip, hlen, hx⟩ := oZ F hm
  obtain ⟨H5, W5, gH5, sH5, eH5, ek5⟩ := UF g4.wf e5 rfl g5'
  rw [ek5, bG (v := LQ k (gQ 0 b)) rfl, bG (v := .int .i64 0) rfl, aI, aR, cK, aH, if_neg (by decide), eH5]
  have hk' : h4.next ≤ k := hk
  have c5 : RJ H5 k (gQ 0 b) := ck.keep fun o e => sH5 _ _ hk' e
  have c5s : RJ (dF H5) k (gQ 0 b) := c5
  obtain ⟨h6, v6, e6, g6, i6⟩ := WY (h := dF H5) (fM gH5.wf) c5s.sl.rows (by rw [qM]; have := F.np; omega)
  obtain ⟨H6, W6, gH6, iH6, eH6, ek6⟩ := keptIn gH5.wf e6 g6 i6
  rw [ek6]
  have a6 : At (Hp.mk H6.next H6.next H5.aC) p4 lk := a4.sub gH5.sub
  rw [a6.eX (z := 5) hl5, eH6, zF F (V4.sub fun i o e => gH6.sub _ _ (gH5.sub _ _ e)) (c5.keep fun o e => gH6.sub _ _ e).sl.rows ip, aM, aB, aI]
  rw [Z7] at iH6
  exact ⟨_, _, rfl, (g4h.trans gH5).trans gH6, iH6.low (by have := (g4h.trans gH5).next; exact this)⟩
end Go.Proofs.Ytdpicdnpiihaaaa.K.L
open Go Go.bI
set_option maxRecDepth 100000
set_option linter.unusedVariables false
namespace Go.Proofs.Ytdpicdnpiihaaaa.K.L
theorem xV {F : List Value → Hp → aF} {args : List Value} {h h' : Hp} {v : Value} {ns : List Int} {x y : Int} (w : Wf h) (e : F args (dF h) = some (.tuple (List.toArray [v, .int .i64 x, .int .i64 y]), h')) (g : aV (dF h) h') (i : qZ (dF h) h' v ns) :
  ∃ h2, bQ F args h = some (.tuple (List.toArray [v, .int .i64 x, .int .i64 y]), h2) ∧ aV h h2 ∧ qZ h h2 v ns := by
 obtain ⟨h2, e2, g2, o2⟩ := xU w e g
 refine ⟨h2, e2, g2, ?_⟩
 rcases i with i | ⟨b, rfl, hle, hg⟩
 ·exact .inl i
 ·refine .inr ⟨b, rfl, hle, ?_⟩
  have := o2 rfl
  show h2.aC.get b = _
  rw [this]; exact hg
theorem DX {s : Rm} (F : nI s) {l : List (Nat × Nat)} (hl : QZ s l) : CE (gK s (W0 s) l) = true ↔ kD s l = 0 := by
 obtain ⟨b1, _⟩ := pQ F hl
 unfold kD
 generalize gK s (W0 s) l = W at b1 ⊢
 obtain ⟨a, b, c, d, rfl⟩ : ∃ a b c d, W = [a, b, c, d] := by
  match W, b1 with
  | [a, b, c, d], _ => exact ⟨a, b, c, d, rfl⟩
 rw [UD]
 unfold CE
 simp
end Go.Proofs.Ytdpicdnpiihaaaa.K.L
