/- Contracts of told functions: nearest, best. -/
import Derived.Test.YtdpicdnpiihaaaaAsS42
open Go Go.bG
set_option maxRecDepth 100000
set_option linter.unusedVariables false
namespace Go.Proofs.Ytdpicdnpiihaaaa.K.L
theorem aM8 (a b : Value) : jF env 135 (List.toArray [(0, .func (.func 102) (List.toArray [a]) (List.toArray [])), (1, .func (.func 54) (List.toArray [b]) (List.toArray []))]) = some (.agg (Array.mk [.func (.func 102) (List.toArray [a]) (List.toArray []), .func (.func 54) (List.toArray [b]) (List.toArray [])])) := by kernel_rfl
theorem uO.kept {h h1 H : Hp} {v : Value} {ns : List Int} (a : uO h h1 v ns) (s : ∀ i o, h.next ≤ i → h1.get i = some o → H.get i = some o) : uO h H v ns := by
 rcases a with a | ⟨b, e, hle, hg⟩
 ·exact .inl a
 ·exact .inr ⟨b, e, hle, s _ _ hle hg⟩
theorem VR {h : Hp} (w : Wf h) {s : Rm} (F : qE s) {lo : Nat} {lk : List Value} (V : E9 lo h s lk) :
  ∃ h' v, F76 [.agg (Array.mk lk), .int .i64 (mW s.bN.length)] h = some (.tuple (List.toArray [v, .int .i64 (if (leastOf s (sF s)).isSome then 0 else 9)]), h') ∧ aS h h' ∧ (leastOf s (sF s) = none → v = .slice none 0 0) ∧ ∀ b, leastOf s (sF s) = some b → ∃ k, v = LZ k (jM 0 b) ∧ h.next ≤ k ∧ VN h' k (jM 0 b) := by
 have start : F76 [.agg (Array.mk lk), .int .i64 (mW s.bN.length)] h = aKU (aK T76 999999) (.agg (Array.mk lk)) (mW s.bN.length) h := rfl
 rw [start]
 unfold aKU
 rw [fA, bK]
 have g0 := aS.add w (.cells lk 71 none)
 have a0 : At (h.add (.cells lk 71 none)) (.pointer (some ⟨h.next, 0, none⟩)) lk := At.new
 have n0 : (h.add (.cells lk 71 none)).next = h.next + 1 := rfl
 generalize h.add (.cells lk 71 none) = h0 at g0 a0 n0 ⊢
 have a1 : At (Hp.mk h0.next h0.next h0.aD) (.pointer (some ⟨h.next, 0, none⟩)) lk := a0
 obtain ⟨h1, c1, c2, vl, e1, g1, d1, l1, iv, d2, l2⟩ := aB5 (h := dI h0) (gJ g0.wf) (lk := lk) (np := s.bN.length) F.np
 obtain ⟨H1, W1, gH, sH, eH, ek⟩ := YS g0.wf e1 rfl g1
 rw [a1.eU (z := 5) V.len, ek]
 have a2 : At (Hp.mk H1.next H1.next h0.aD) (.pointer (some ⟨h.next, 0, none⟩)) lk := a0
 rw [a2.eU (z := 5) V.len, mX, a2.eU (z := 5) V.len, mX, aM8, aJ, mX, mX]
 have ob : aW W1 h0.aD = H1.aD := congrArg Hp.aD eH
 rw [show (aW [] (aW [] (aW [] (aW [] (aW W1 h0.aD))))) = H1.aD from ob]
 have V1 : E9 lo (dI H1) s lk := V.sub fun i o e => gH.sub _ _ (g0.sub _ _ e)
 have iv1 : uO (dI h0) (dI H1) vl (rJ s.bN.length) := iv.kept sH
 obtain ⟨h2, v, e2, g2, q1, q2⟩ := YY (h := dI H1) (gJ gH.wf) F V1 (c1 := c1) (c2 := c2) (sH _ _ l1 d1) iv1 (sH _ _ l2 d2)
 have gg := g0.trans gH
 have hro : H1.ro = h0.ro := gH.ro
 cases hq : leastOf s (sF s) with
 | none =>
  rw [hq] at e2 q1 q2
  obtain rfl := q1 rfl
  have e3 : cZ aBM [.func (.func 94) (List.toArray []) (List.toArray [.pointer (some ⟨c1, 0, none⟩), .pointer (some ⟨c2, 0, none⟩)]), .func (.func 103) (List.toArray [uM lk]) (List.toArray [])] (Hp.mk H1.next H1.next H1.aD) = some (.tuple (List.toArray [.slice none 0 0, .bool false]), Hp.mk H1.next H1.next H1.aD) := bR e2 rfl
  unfold uM at e3
  rw [e3, aB, mX, bM (v := .slice none 0 0) rfl, bM (v := .bool false) rfl, aU, aQ, aG, if_pos (by decide)]
  refine ⟨_, _, rfl, ?_, fun _ => rfl, fun b e => by cases e⟩
  rw [show (aW [] H1.aD) = H1.aD from rfl, ← hro]
  exact gg
 | some b =>
  rw [hq] at e2 q1 q2
  obtain ⟨k, rfl, hk, ck⟩ := q2 b rfl
  obtain ⟨H2, W2, gH2, sH2, eH2, ek2⟩ := YS gH.wf e2 rfl g2
  unfold uM at ek2
  rw [ek2, bM (v := LZ k (jM 0 b)) rfl, bM (v := .bool true) rfl, aU, aQ, aG, if_neg (by decide)]
  have hE : Hp.mk H2.next h0.ro (aW W2 H1.aD) = H2 := by rw [← hro]; exact eH2
  rw [hE]
  refine ⟨_, _, rfl, gg.trans gH2, (fun e => by cases e), fun b' e => ?_⟩
  cases e
  have hk' : H1.next ≤ k := hk
  exact ⟨k, rfl, by have := gg.next; omega, ck.keep fun o e => sH2 _ _ hk' e⟩
end Go.Proofs.Ytdpicdnpiihaaaa.K.L
open Go Go.bG
set_option maxRecDepth 100000
set_option linter.unusedVariables false
namespace Go.Proofs.Ytdpicdnpiihaaaa.K.L
theorem keptIn {h : Hp} (w : Wf h) {F : List Value → Hp → aF} {args : List Value} {h1 : Hp} {v : Value} {ns : List Int} (e : F args (dI h) = some (v, h1)) (g : aS (dI h) h1) (iv : uO (dI h) h1 v ns) :
  ∃ H W, aS h H ∧ uO h H v ns ∧ (Hp.mk H.next h.ro (aW W h.aD)) = H ∧
  ∀ k : Value → List (Nat × cB) → Nat → aF, (aO (cZ F args (Hp.mk h.next h.next h.aD)) fun v h12 => jG v h.next h12 fun w n => k v w n) = k v W H.next := by
 rcases iv with ⟨rfl, rfl⟩ | ⟨b, rfl, hle, hg⟩
 ·refine ⟨h, [], aS.refl w, .inl ⟨rfl, rfl⟩, rfl, fun k => ?_⟩
  have e3 : cZ F args (Hp.mk h.next h.next h.aD) = some (.slice none 0 0, Hp.mk h.next h.next h.aD) := bR e rfl
  rw [e3, aB, mX]
 ·obtain ⟨H, W, gH, sH, eH, ek⟩ := YS w e rfl g
  exact ⟨H, W, gH, .inr ⟨b, rfl, hle, sH _ _ hle hg⟩, eH, ek⟩
def qH (s : Rm) : Option (List Nat) := match leastOf s (sF s) with
 | none => none
 | some b => if vY (kK s (W0 s) (jM 0 b)) then some b else none
theorem JM {s : Rm} {b : List Nat} (e : qH s = some b) : b ∈ sF s ∧ leastOf s (sF s) = some b ∧ vY (kK s (W0 s) (jM 0 b)) = true := by
 unfold qH at e
 cases hq : leastOf s (sF s) with
 | none => rw [hq] at e; cases e
 | some g =>
  rw [hq] at e
  simp only at e
  split at e
  ·cases e
   rename_i c
   exact ⟨KS s (P := fun g => g ∈ sF s) (fun g hg => hg) _ hq, rfl, c⟩
  ·cases e
theorem aF0 {h : Hp} (w : Wf h) {s : Rm} (F : qE s) {lo : Nat} {lk : List Value} (V : E9 lo h s lk) :
  ∃ h' v, F64 [.agg (Array.mk lk), .int .i64 (mW s.bN.length)] h = some (.tuple (List.toArray [v, .int .i64 (if (qH s).isSome then 0 else 9)]), h') ∧ aS h h' ∧ (qH s = none → v = .slice none 0 0) ∧ ∀ b, qH s = some b → ∃ k, v = LZ k (jM 0 b) ∧ h.next ≤ k ∧ VN h' k (jM 0 b) := by
 have start : F64 [.agg (Array.mk lk), .int .i64 (mW s.bN.length)] h = aKW (aK T64 999999) (.agg (Array.mk lk)) (mW s.bN.length) h := rfl
 rw [start]
 unfold aKW
 rw [fA, bK]
 have g0 := aS.add w (.cells lk 71 none)
 have a0 : At (h.add (.cells lk 71 none)) (.pointer (some ⟨h.next, 0, none⟩)) lk := At.new
 have n0 : (h.add (.cells lk 71 none)).next = h.next + 1 := rfl
 generalize h.add (.cells lk 71 none) = h0 at g0 a0 n0 ⊢
 obtain ⟨h2', v, e2, g2', q1, q2⟩ := VR (h := dI h0) (gJ g0.wf) F (V.sub g0.sub)
 obtain ⟨h2, e3, g2, o2⟩ := qM g0.wf e2 g2'
 rw [a0.eU (z := 5) V.len, e3, aB, bM (v := v) rfl]
 cases hq : leastOf s (sF s) with
 | none =>
  have hB : qH s = none := by unfold qH; rw [hq]
  rw [hB]
  rw [hq] at q1
  obtain rfl := q1 rfl
  rw [bM (v := .int .i64 9) rfl, aH, aQ, bT, aG, if_pos (by decide)]
  exact ⟨_, _, rfl, g0.trans g2, fun _ => rfl, fun b e => by cases e⟩
 | some b =>
  rw [hq] at q2
  obtain ⟨k, rfl, hk, ck⟩ := q2 b rfl
  have hm : b ∈ sF s := KS s (P := fun g => g ∈ sF s) (fun g hg => hg) _ hq
  have ip := (vO F hm).1
  have o3 : h2.aD = h2'.aD := o2 rfl
  have c2 : VN h2 k (jM 0 b) := ck.keep fun o e => by show h2.aD.get k = some o; rw [o3]; exact e
  obtain ⟨h5, e5⟩ := YO (h := dI h2) (gJ g2.wf) F (V.sub fun i o e => g2.sub _ _ (g0.sub _ _ e)) (u := LZ k (jM 0 b)) (l := jM 0 b) c2.sl ip
  rw [bM (v := .int .i64 0) rfl, aH, aQ, bT, aG, if_neg (by decide), (a0.sub g2.sub).eU (z := 5) V.len, bR e5 rfl, aB, aU, aQ, aG]
  have hk' : h0.next ≤ k := hk
  by_cases c : vY (kK s (W0 s) (jM 0 b)) = true
  ·have hB : qH s = some b := by unfold qH; rw [hq]; exact if_pos c
   rw [hB, if_neg (by rw [c]; decide)]
   refine ⟨_, _, rfl, g0.trans g2, (fun e => by cases e), fun b' e => ?_⟩
   cases e
   exact ⟨k, rfl, by omega, c2⟩
  ·have hB : qH s = none := by unfold qH; rw [hq]; exact if_neg c
   rw [hB, if_pos (by simpa using c)]
   exact ⟨_, _, rfl, g0.trans g2, fun _ => rfl, fun b e => by cases e⟩
def SV (s : Rm) : List Int × Int × Int := if (gI s).2.2 ≠ 0 then ([], 0, (gI s).2.2) else match qH s with
 | none => ([], 0, 9)
 | some b => (vN b, j5 s (jM 0 b), 0)
theorem YZ : ∀ (l : List Nat) (i : Nat), (jM i l).map (fun c => (c.1 : Int)) = vN l
 | [], _ => rfl
 | f :: l, i => by
  show (f : Int) :: (jM (i + 1) l).map _ = Int.ofNat f :: vN l
  rw [YZ l]; rfl
theorem aF1 {h : Hp} (w : Wf h) {s : Rm} {r : List Value} (a : D7 h s r) :
  ∃ h' v, F26 [.agg (Array.mk r)] h = some (.tuple (List.toArray [v, .int .i64 (SV s).2.1, .int .i64 (SV s).2.2]), h') ∧ aS h h' ∧ uO h h' v (SV s).1 := by
 have start : F26 [.agg (Array.mk r)] h = aK0 (aK T26 999999) (.agg (Array.mk r)) h := rfl
 rw [start]
 unfold aK0
 have hr4 := a.len
 rw [fA, bK]
 have g0 : aS h (h.add (.cells r 25 none)) := aS.add w _
 have a0 : At (h.add (.cells r 25 none)) (.pointer (some ⟨h.next, 0, none⟩)) r := At.new
 generalize h.add (.cells r 25 none) = h0 at g0 a0 ⊢
 obtain ⟨h2', lk, e2, gg, hl5, h1c, hlk⟩ := SE (h := dI h0) (gJ g0.wf) (a.sub g0.sub)
 obtain ⟨h2, e3, g2, o2⟩ := qM g0.wf e2 gg
 rw [a0.eU (z := 4) hr4, e3, aB, bM (v := .agg (Array.mk lk)) rfl, bM (v := .int .i64 (gI s).2.2) rfl, aH]
 obtain ⟨h4, p4, g4, a4, hk⟩ := kJ (ρ := Value × Hp) (z := 5) g2.wf 71 (c := zeroV) (l := lk) rfl hl5 h1c (fun _ _ => none)
 rw [show [(Value.slice none 0 0), (Value.slice none 0 0), (Value.slice none 0 0), (Value.slice none 0 0), (Value.map none)] = zeroV from rfl, hk, aQ, bT, aG]
 have g4h : aS h h4 := (g0.trans g2).trans g4
 unfold SV
 by_cases e0 : (gI s).2.2 = 0
 case neg =>
  rw [if_pos (by simpa using e0), if_pos e0]
  exact ⟨h4, _, rfl, g4h, .inl ⟨rfl, rfl⟩⟩
 have F := yL e0
 obtain ⟨V2, T2⟩ := hlk e0
 have V4 := (Z6 (o2 (V2.loud _)) V2).sub g4.sub
 have as4 : At (Hp.mk h4.next h4.next h4.aD) p4 lk := a4
 have V4s : E9 _ (dI h4) s lk := V4
 rw [if_neg (by simpa using e0), if_neg (by simpa using e0), as4.eU (z := 5) hl5, as4.eU (z := 5) hl5, OY (h := dI h4) F V4s, aJ, aB, aH]
 obtain ⟨h5', v, e5, g5', q1, q2⟩ := aF0 (h := dI h4) (gJ g4.wf) F V4s
 cases hq : qH s with
 | none =>
  rw [hq] at q1 e5
  obtain rfl := q1 rfl
  have e6 : cZ F64 [.agg (Array.mk lk), .int .i64 (mW s.bN.length)] (Hp.mk h4.next h4.next h4.aD) = some (.tuple (List.toArray [.slice none 0 0, .int .i64 9]), Hp.mk h4.next h4.next h4.aD) := bR e5 rfl
  rw [e6, aB, mX, bM (v := .slice none 0 0) rfl, bM (v := .int .i64 9) rfl, aH, aQ, bT, aG, if_pos (by decide)]
  exact ⟨_, _, rfl, g4h, .inl ⟨rfl, rfl⟩⟩
 | some b =>
  rw [hq] at q2 e5
  obtain ⟨k, rfl, hk, ck⟩ := q2 b rfl
  have hm := (JM hq).1
  obtain ⟨ip, hlen, hx⟩ := vO F hm
  obtain ⟨H5, W5, gH5, sH5, eH5, ek5⟩ := YS g4.wf e5 rfl g5'
  rw [ek5, bM (v := LZ k (jM 0 b)) rfl, bM (v := .int .i64 0) rfl, aH, aQ, bT, aG, if_neg (by decide), eH5]
  have hk' : h4.next ≤ k := hk
  have c5 : VN H5 k (jM 0 b) := ck.keep fun o e => sH5 _ _ hk' e
  have c5s : VN (dI H5) k (jM 0 b) := c5
  obtain ⟨h6, v6, e6, g6, i6⟩ := VP (h := dI H5) (gJ gH5.wf) c5s.sl.rows (by rw [qU]; have := F.np; omega)
  obtain ⟨H6, W6, gH6, iH6, eH6, ek6⟩ := keptIn gH5.wf e6 g6 i6
  rw [ek6]
  have a6 : At (Hp.mk H6.next H6.next H5.aD) p4 lk := a4.sub gH5.sub
  rw [a6.eU (z := 5) hl5, eH6, yM F (V4.sub fun i o e => gH6.sub _ _ (gH5.sub _ _ e)) (c5.keep fun o e => gH6.sub _ _ e).sl.rows ip, aJ, aB, aH]
  rw [YZ] at iH6
  exact ⟨_, _, rfl, (g4h.trans gH5).trans gH6, iH6.low (by have := (g4h.trans gH5).next; exact this)⟩
end Go.Proofs.Ytdpicdnpiihaaaa.K.L
open Go Go.bG
set_option maxRecDepth 100000
set_option linter.unusedVariables false
namespace Go.Proofs.Ytdpicdnpiihaaaa.K.L
theorem aF2 {F : List Value → Hp → aF} {args : List Value} {h h' : Hp} {v : Value} {ns : List Int} {x y : Int} (w : Wf h) (e : F args (dI h) = some (.tuple (List.toArray [v, .int .i64 x, .int .i64 y]), h')) (g : aS (dI h) h') (i : uO (dI h) h' v ns) :
  ∃ h2, cZ F args h = some (.tuple (List.toArray [v, .int .i64 x, .int .i64 y]), h2) ∧ aS h h2 ∧ uO h h2 v ns := by
 obtain ⟨h2, e2, g2, o2⟩ := qM w e g
 refine ⟨h2, e2, g2, ?_⟩
 rcases i with i | ⟨b, rfl, hle, hg⟩
 ·exact .inl i
 ·refine .inr ⟨b, rfl, hle, ?_⟩
  have := o2 rfl
  show h2.aD.get b = _
  rw [this]; exact hg
theorem xF {s : Rm} (F : qE s) {l : List (Nat × Nat)} (hl : VG s l) : vY (kK s (W0 s) l) = true ↔ nY s l = 0 := by
 obtain ⟨b1, _⟩ := FD F hl
 unfold nY
 generalize kK s (W0 s) l = W at b1 ⊢
 obtain ⟨a, b, c, d, rfl⟩ : ∃ a b c d, W = [a, b, c, d] := by
  match W, b1 with
  | [a, b, c, d], _ => exact ⟨a, b, c, d, rfl⟩
 rw [JK]
 unfold vY
 simp
theorem aM9 (s : Rm) (l : List (Nat × Nat)) : 0 ≤ nY s l := OX _
theorem aQE {s : Rm} (F : qE s) (hB : qH s = none) {g : List Nat} (hg : g ∈ sF s) : vY (kK s (W0 s) (jM 0 g)) = false := by
 have ip := (vO F hg).1
 cases c : vY (kK s (W0 s) (jM 0 g)) with
 | false => rfl
 | true =>
  have l0 := (xF F ip).1 c
  rcases O5 s (FE s.bA.length s.bN.length []) with ⟨e, _⟩ | ⟨b, e, hb, hall⟩
  ·rw [show sF s = [] from e] at hg; cases hg
  ·have hk := (hall g hg).1
   have ipb := (vO F (g := b) hb).1
   have := aM9 s (jM 0 b)
   have lb : nY s (jM 0 b) = 0 := by unfold kLt at hk; omega
   have : qH s = some b := by
    unfold qH
    rw [show leastOf s (sF s) = some b from e]
    exact if_pos ((xF F ipb).2 lb)
   rw [hB] at this; cases this
theorem aQF {s : Rm} (F : qE s) {b : List Nat} (hB : qH s = some b) {g : List Nat} (hg : g ∈ sF s) (c : vY (kK s (W0 s) (jM 0 g)) = true) : j5 s (jM 0 b) < j5 s (jM 0 g) ∨ (j5 s (jM 0 b) = j5 s (jM 0 g) ∧ (g = b ∨ QE b g)) := by
 obtain ⟨hb, hl, cb⟩ := JM hB
 have l0 := (xF F (vO F hg).1).1 c
 have lb := (xF F (vO F hb).1).1 cb
 rcases O5 s (FE s.bA.length s.bN.length []) with ⟨e, _⟩ | ⟨b', e, hb', hall⟩
 ·rw [show sF s = [] from e] at hg; cases hg
 ·have : b' = b := by
   rw [show leastOf s (sF s) = leastOf s (onL s.bA.length s.bN.length []) from rfl, e] at hl
   exact Option.some.inj hl
  subst this
  obtain ⟨k1, k2⟩ := hall g hg
  unfold kLt at k1
  unfold kEq at k2
  by_cases q : j5 s (jM 0 b') < j5 s (jM 0 g)
  ·exact .inl q
  ·exact .inr ⟨by omega, k2 (by omega)⟩
end Go.Proofs.Ytdpicdnpiihaaaa.K.L
open Go Go.bG
set_option maxRecDepth 100000
set_option linter.unusedVariables false
namespace Go.Proofs.Ytdpicdnpiihaaaa.K.L
end Go.Proofs.Ytdpicdnpiihaaaa.K.L
open Go Go.bG
set_option maxRecDepth 100000
set_option linter.unusedVariables false
namespace Go.Proofs.Ytdpicdnpiihaaaa.K.L
theorem ce5 : Try.prog.cellsOf 5 = 1 := by kernel_rfl
theorem ki5 : aB9 Try.prog 5 = some .u8 := by kernel_rfl
theorem byte_of {h : Hp} {n : Nat} {r : List Value} (a : Arg Try.prog h (n + 1) 5 r) : ∃ b : Nat, r = aMZ b ∧ b ≤ 255 := by
 obtain ⟨i, e, w⟩ := a.int ki5
 have hm1 : IntKind.u8.min = 0 := by decide +kernel
 have hm2 : IntKind.u8.max = 255 := by decide +kernel
 have hb : 0 ≤ i ∧ i ≤ 255 := by
  simp [Lit.wf] at w
  omega
 exact ⟨i.toNat, by rw [e]; unfold aMZ; congr 2; omega, by omega⟩
end Go.Proofs.Ytdpicdnpiihaaaa.K.L
