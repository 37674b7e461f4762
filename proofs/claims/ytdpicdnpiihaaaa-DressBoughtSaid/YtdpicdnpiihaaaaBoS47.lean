/- Contracts of told functions: nearest, best. -/
import Derived.Test.YtdpicdnpiihaaaaBoS42
open Go Go.bK
set_option maxRecDepth 100000
set_option linter.unusedVariables false
namespace Go.Proofs.Ytdpicdnpiihaaaa.K.L
theorem aNN (a b : Value) : jQ env 135 (List.toArray [(0, .func (.func 102) (List.toArray [a]) (List.toArray [])), (1, .func (.func 54) (List.toArray [b]) (List.toArray []))]) = some (.agg (Array.mk [.func (.func 102) (List.toArray [a]) (List.toArray []), .func (.func 54) (List.toArray [b]) (List.toArray [])])) := by kernel_rfl
theorem qO.kept {h h1 H : Hp} {v : Value} {ns : List Int} (a : qO h h1 v ns) (s : ∀ i o, h.next ≤ i → h1.get i = some o → H.get i = some o) : qO h H v ns := by
 rcases a with a | ⟨b, e, hle, hg⟩
 ·exact .inl a
 ·exact .inr ⟨b, e, hle, s _ _ hle hg⟩
theorem IK {h : Hp} (w : Wf h) {s : Rm} (F : lJ s) {lo : Nat} {lk : List Value} (V : FR lo h s lk) :
  ∃ h' v, F76 [.agg (Array.mk lk), .int .i64 (mZ s.dF.length)] h = some (.tuple (List.toArray [v, .int .i64 (if (leastOf s (iR s)).isSome then 0 else 9)]), h') ∧ aV h h' ∧ (leastOf s (iR s) = none → v = .slice none 0 0) ∧ ∀ b, leastOf s (iR s) = some b → ∃ k, v = LD k (fK 0 b) ∧ h.next ≤ k ∧ QW h' k (fK 0 b) := by
 have start : F76 [.agg (Array.mk lk), .int .i64 (mZ s.dF.length)] h = aK8 (aK T76 999999) (.agg (Array.mk lk)) (mZ s.dF.length) h := rfl
 rw [start]
 unfold aK8
 rw [fA, bO]
 have g0 := aV.add w (.cells lk 71 none)
 have a0 : At (h.add (.cells lk 71 none)) (.pointer (some ⟨h.next, 0, none⟩)) lk := At.new
 have n0 : (h.add (.cells lk 71 none)).next = h.next + 1 := rfl
 generalize h.add (.cells lk 71 none) = h0 at g0 a0 n0 ⊢
 have a1 : At (Hp.mk h0.next h0.next h0.aC) (.pointer (some ⟨h.next, 0, none⟩)) lk := a0
 obtain ⟨h1, c1, c2, vl, e1, g1, d1, l1, iv, d2, l2⟩ := aCQ (h := bZ h0) (fB g0.wf) (lk := lk) (np := s.dF.length) F.np
 obtain ⟨H1, W1, gH, sH, eH, ek⟩ := LF g0.wf e1 rfl g1
 rw [a1.eU (z := 5) V.len, ek]
 have a2 : At (Hp.mk H1.next H1.next h0.aC) (.pointer (some ⟨h.next, 0, none⟩)) lk := a0
 rw [a2.eU (z := 5) V.len, kE, a2.eU (z := 5) V.len, kE, aNN, aJ, kE, kE]
 have ob : aP W1 h0.aC = H1.aC := congrArg Hp.aC eH
 rw [show (aP [] (aP [] (aP [] (aP [] (aP W1 h0.aC))))) = H1.aC from ob]
 have V1 : FR lo (bZ H1) s lk := V.sub fun i o e => gH.sub _ _ (g0.sub _ _ e)
 have iv1 : qO (bZ h0) (bZ H1) vl (sG s.dF.length) := iv.kept sH
 obtain ⟨h2, v, e2, g2, q1, q2⟩ := ZL (h := bZ H1) (fB gH.wf) F V1 (c1 := c1) (c2 := c2) (sH _ _ l1 d1) iv1 (sH _ _ l2 d2)
 have gg := g0.trans gH
 have hro : H1.ro = h0.ro := gH.ro
 cases hq : leastOf s (iR s) with
 | none =>
  rw [hq] at e2 q1 q2
  obtain rfl := q1 rfl
  have e3 : bV aB9 [.func (.func 94) (List.toArray []) (List.toArray [.pointer (some ⟨c1, 0, none⟩), .pointer (some ⟨c2, 0, none⟩)]), .func (.func 103) (List.toArray [vB lk]) (List.toArray [])] (Hp.mk H1.next H1.next H1.aC) = some (.tuple (List.toArray [.slice none 0 0, .bool false]), Hp.mk H1.next H1.next H1.aC) := bJ e2 rfl
  unfold vB at e3
  rw [e3, aB, kE, bH (v := .slice none 0 0) rfl, bH (v := .bool false) rfl, aW, aQ, aG, if_pos (by decide)]
  refine ⟨_, _, rfl, ?_, fun _ => rfl, fun b e => by cases e⟩
  rw [show (aP [] H1.aC) = H1.aC from rfl, ← hro]
  exact gg
 | some b =>
  rw [hq] at e2 q1 q2
  obtain ⟨k, rfl, hk, ck⟩ := q2 b rfl
  obtain ⟨H2, W2, gH2, sH2, eH2, ek2⟩ := LF gH.wf e2 rfl g2
  unfold vB at ek2
  rw [ek2, bH (v := LD k (fK 0 b)) rfl, bH (v := .bool true) rfl, aW, aQ, aG, if_neg (by decide)]
  have hE : Hp.mk H2.next h0.ro (aP W2 H1.aC) = H2 := by rw [← hro]; exact eH2
  rw [hE]
  refine ⟨_, _, rfl, gg.trans gH2, (fun e => by cases e), fun b' e => ?_⟩
  cases e
  have hk' : H1.next ≤ k := hk
  exact ⟨k, rfl, by have := gg.next; omega, ck.keep fun o e => sH2 _ _ hk' e⟩
end Go.Proofs.Ytdpicdnpiihaaaa.K.L
open Go Go.bK
set_option maxRecDepth 100000
set_option linter.unusedVariables false
namespace Go.Proofs.Ytdpicdnpiihaaaa.K.L
theorem keptIn {h : Hp} (w : Wf h) {F : List Value → Hp → aF} {args : List Value} {h1 : Hp} {v : Value} {ns : List Int} (e : F args (bZ h) = some (v, h1)) (g : aV (bZ h) h1) (iv : qO (bZ h) h1 v ns) :
  ∃ H W, aV h H ∧ qO h H v ns ∧ (Hp.mk H.next h.ro (aP W h.aC)) = H ∧
  ∀ k : Value → List (Nat × dG) → Nat → aF, (aN (bV F args (Hp.mk h.next h.next h.aC)) fun v h12 => iH v h.next h12 fun w n => k v w n) = k v W H.next := by
 rcases iv with ⟨rfl, rfl⟩ | ⟨b, rfl, hle, hg⟩
 ·refine ⟨h, [], aV.refl w, .inl ⟨rfl, rfl⟩, rfl, fun k => ?_⟩
  have e3 : bV F args (Hp.mk h.next h.next h.aC) = some (.slice none 0 0, Hp.mk h.next h.next h.aC) := bJ e rfl
  rw [e3, aB, kE]
 ·obtain ⟨H, W, gH, sH, eH, ek⟩ := LF w e rfl g
  exact ⟨H, W, gH, .inr ⟨b, rfl, hle, sH _ _ hle hg⟩, eH, ek⟩
def mI (s : Rm) : Option (List Nat) := match leastOf s (iR s) with
 | none => none
 | some b => if wM (gV s (W0 s) (fK 0 b)) then some b else none
theorem DN {s : Rm} {b : List Nat} (e : mI s = some b) : b ∈ iR s ∧ leastOf s (iR s) = some b ∧ wM (gV s (W0 s) (fK 0 b)) = true := by
 unfold mI at e
 cases hq : leastOf s (iR s) with
 | none => rw [hq] at e; cases e
 | some g =>
  rw [hq] at e
  simp only at e
  split at e
  ·cases e
   rename_i c
   exact ⟨kQ s (P := fun g => g ∈ iR s) (fun g hg => hg) _ hq, rfl, c⟩
  ·cases e
theorem aGN {h : Hp} (w : Wf h) {s : Rm} (F : lJ s) {lo : Nat} {lk : List Value} (V : FR lo h s lk) :
  ∃ h' v, F64 [.agg (Array.mk lk), .int .i64 (mZ s.dF.length)] h = some (.tuple (List.toArray [v, .int .i64 (if (mI s).isSome then 0 else 9)]), h') ∧ aV h h' ∧ (mI s = none → v = .slice none 0 0) ∧ ∀ b, mI s = some b → ∃ k, v = LD k (fK 0 b) ∧ h.next ≤ k ∧ QW h' k (fK 0 b) := by
 have start : F64 [.agg (Array.mk lk), .int .i64 (mZ s.dF.length)] h = aLA (aK T64 999999) (.agg (Array.mk lk)) (mZ s.dF.length) h := rfl
 rw [start]
 unfold aLA
 rw [fA, bO]
 have g0 := aV.add w (.cells lk 71 none)
 have a0 : At (h.add (.cells lk 71 none)) (.pointer (some ⟨h.next, 0, none⟩)) lk := At.new
 have n0 : (h.add (.cells lk 71 none)).next = h.next + 1 := rfl
 generalize h.add (.cells lk 71 none) = h0 at g0 a0 n0 ⊢
 obtain ⟨h2', v, e2, g2', q1, q2⟩ := IK (h := bZ h0) (fB g0.wf) F (V.sub g0.sub)
 obtain ⟨h2, e3, g2, o2⟩ := xR g0.wf e2 g2'
 rw [a0.eU (z := 5) V.len, e3, aB, bH (v := v) rfl]
 cases hq : leastOf s (iR s) with
 | none =>
  have hB : mI s = none := by unfold mI; rw [hq]
  rw [hB]
  rw [hq] at q1
  obtain rfl := q1 rfl
  rw [bH (v := .int .i64 9) rfl, aH, aQ, bI, aG, if_pos (by decide)]
  exact ⟨_, _, rfl, g0.trans g2, fun _ => rfl, fun b e => by cases e⟩
 | some b =>
  rw [hq] at q2
  obtain ⟨k, rfl, hk, ck⟩ := q2 b rfl
  have hm : b ∈ iR s := kQ s (P := fun g => g ∈ iR s) (fun g hg => hg) _ hq
  have ip := (kG F hm).1
  have o3 : h2.aC = h2'.aC := o2 rfl
  have c2 : QW h2 k (fK 0 b) := ck.keep fun o e => by show h2.aC.get k = some o; rw [o3]; exact e
  obtain ⟨h5, e5⟩ := ZA (h := bZ h2) (fB g2.wf) F (V.sub fun i o e => g2.sub _ _ (g0.sub _ _ e)) (u := LD k (fK 0 b)) (l := fK 0 b) c2.sl ip
  rw [bH (v := .int .i64 0) rfl, aH, aQ, bI, aG, if_neg (by decide), (a0.sub g2.sub).eU (z := 5) V.len, bJ e5 rfl, aB, aW, aQ, aG]
  have hk' : h0.next ≤ k := hk
  by_cases c : wM (gV s (W0 s) (fK 0 b)) = true
  ·have hB : mI s = some b := by unfold mI; rw [hq]; exact if_pos c
   rw [hB, if_neg (by rw [c]; decide)]
   refine ⟨_, _, rfl, g0.trans g2, (fun e => by cases e), fun b' e => ?_⟩
   cases e
   exact ⟨k, rfl, by omega, c2⟩
  ·have hB : mI s = none := by unfold mI; rw [hq]; exact if_neg c
   rw [hB, if_pos (by simpa using c)]
   exact ⟨_, _, rfl, g0.trans g2, fun _ => rfl, fun b e => by cases e⟩
def qD (s : Rm) : List Int × Int × Int := if (gK s).2.2 ≠ 0 then ([], 0, (gK s).2.2) else match mI s with
 | none => ([], 0, 9)
 | some b => (zL b, iP s (fK 0 b), 0)
theorem ZM : ∀ (l : List Nat) (i : Nat), (fK i l).map (fun c => (c.1 : Int)) = zL l
 | [], _ => rfl
 | f :: l, i => by
  show (f : Int) :: (fK (i + 1) l).map _ = Int.ofNat f :: zL l
  rw [ZM l]; rfl
theorem J4 {h : Hp} (w : Wf h) {s : Rm} {r : List Value} (a : DI h s r) :
  ∃ h' v, F26 [.agg (Array.mk r)] h = some (.tuple (List.toArray [v, .int .i64 (qD s).2.1, .int .i64 (qD s).2.2]), h') ∧ aV h h' ∧ qO h h' v (qD s).1 := by
 have start : F26 [.agg (Array.mk r)] h = aLE (aK T26 999999) (.agg (Array.mk r)) h := rfl
 rw [start]
 unfold aLE
 have hr4 := a.len
 rw [fA, bO]
 have g0 : aV h (h.add (.cells r 25 none)) := aV.add w _
 have a0 : At (h.add (.cells r 25 none)) (.pointer (some ⟨h.next, 0, none⟩)) r := At.new
 generalize h.add (.cells r 25 none) = h0 at g0 a0 ⊢
 obtain ⟨h2', lk, e2, gg, hl5, h1c, hlk⟩ := TR (h := bZ h0) (fB g0.wf) (a.sub g0.sub)
 obtain ⟨h2, e3, g2, o2⟩ := xR g0.wf e2 gg
 rw [a0.eU (z := 4) hr4, e3, aB, bH (v := .agg (Array.mk lk)) rfl, bH (v := .int .i64 (gK s).2.2) rfl, aH]
 obtain ⟨h4, p4, g4, a4, hk⟩ := lT (ρ := Value × Hp) (z := 5) g2.wf 71 (c := zeroV) (l := lk) rfl hl5 h1c (fun _ _ => none)
 rw [show [(Value.slice none 0 0), (Value.slice none 0 0), (Value.slice none 0 0), (Value.slice none 0 0), (Value.map none)] = zeroV from rfl, hk, aQ, bI, aG]
 have g4h : aV h h4 := (g0.trans g2).trans g4
 unfold qD
 by_cases e0 : (gK s).2.2 = 0
 case neg =>
  rw [if_pos (by simpa using e0), if_pos e0]
  exact ⟨h4, _, rfl, g4h, .inl ⟨rfl, rfl⟩⟩
 have F := rG e0
 obtain ⟨V2, T2⟩ := hlk e0
 have V4 := (aFC (o2 (V2.loud _)) V2).sub g4.sub
 have as4 : At (Hp.mk h4.next h4.next h4.aC) p4 lk := a4
 have V4s : FR _ (bZ h4) s lk := V4
 rw [if_neg (by simpa using e0), if_neg (by simpa using e0), as4.eU (z := 5) hl5, as4.eU (z := 5) hl5, BV (h := bZ h4) F V4s, aJ, aB, aH]
 obtain ⟨h5', v, e5, g5', q1, q2⟩ := aGN (h := bZ h4) (fB g4.wf) F V4s
 cases hq : mI s with
 | none =>
  rw [hq] at q1 e5
  obtain rfl := q1 rfl
  have e6 : bV F64 [.agg (Array.mk lk), .int .i64 (mZ s.dF.length)] (Hp.mk h4.next h4.next h4.aC) = some (.tuple (List.toArray [.slice none 0 0, .int .i64 9]), Hp.mk h4.next h4.next h4.aC) := bJ e5 rfl
  rw [e6, aB, kE, bH (v := .slice none 0 0) rfl, bH (v := .int .i64 9) rfl, aH, aQ, bI, aG, if_pos (by decide)]
  exact ⟨_, _, rfl, g4h, .inl ⟨rfl, rfl⟩⟩
 | some b =>
  rw [hq] at q2 e5
  obtain ⟨k, rfl, hk, ck⟩ := q2 b rfl
  have hm := (DN hq).1
  obtain ⟨ip, hlen, hx⟩ := kG F hm
  obtain ⟨H5, W5, ZZ, sH5, eH5, ek5⟩ := LF g4.wf e5 rfl g5'
  rw [ek5, bH (v := LD k (fK 0 b)) rfl, bH (v := .int .i64 0) rfl, aH, aQ, bI, aG, if_neg (by decide), eH5]
  have hk' : h4.next ≤ k := hk
  have c5 : QW H5 k (fK 0 b) := ck.keep fun o e => sH5 _ _ hk' e
  have c5s : QW (bZ H5) k (fK 0 b) := c5
  obtain ⟨h6, v6, e6, g6, i6⟩ := WJ (h := bZ H5) (fB ZZ.wf) c5s.sl.rows (by rw [rF]; have := F.np; omega)
  obtain ⟨H6, W6, gH6, iH6, eH6, ek6⟩ := keptIn ZZ.wf e6 g6 i6
  rw [ek6]
  have a6 : At (Hp.mk H6.next H6.next H5.aC) p4 lk := a4.sub ZZ.sub
  rw [a6.eU (z := 5) hl5, eH6, yZ F (V4.sub fun i o e => gH6.sub _ _ (ZZ.sub _ _ e)) (c5.keep fun o e => gH6.sub _ _ e).sl.rows ip, aJ, aB, aH]
  rw [ZM] at iH6
  exact ⟨_, _, rfl, (g4h.trans ZZ).trans gH6, iH6.low (by have := (g4h.trans ZZ).next; exact this)⟩
end Go.Proofs.Ytdpicdnpiihaaaa.K.L
open Go Go.bK
set_option maxRecDepth 100000
set_option linter.unusedVariables false
namespace Go.Proofs.Ytdpicdnpiihaaaa.K.L
theorem DR {F : List Value → Hp → aF} {args : List Value} {h h' : Hp} {v : Value} {ns : List Int} {x y : Int} (w : Wf h) (e : F args (bZ h) = some (.tuple (List.toArray [v, .int .i64 x, .int .i64 y]), h')) (g : aV (bZ h) h') (i : qO (bZ h) h' v ns) :
  ∃ h2, bV F args h = some (.tuple (List.toArray [v, .int .i64 x, .int .i64 y]), h2) ∧ aV h h2 ∧ qO h h2 v ns := by
 obtain ⟨h2, e2, g2, o2⟩ := xR w e g
 refine ⟨h2, e2, g2, ?_⟩
 rcases i with i | ⟨b, rfl, hle, hg⟩
 ·exact .inl i
 ·refine .inr ⟨b, rfl, hle, ?_⟩
  have := o2 rfl
  show h2.aC.get b = _
  rw [this]; exact hg
theorem nY {s : Rm} (F : lJ s) {l : List (Nat × Nat)} (hl : PG s l) : wM (gV s (W0 s) l) = true ↔ jP s l = 0 := by
 obtain ⟨b1, _⟩ := nK F hl
 unfold jP
 generalize gV s (W0 s) l = W at b1 ⊢
 obtain ⟨a, b, c, d, rfl⟩ : ∃ a b c d, W = [a, b, c, d] := by
  match W, b1 with
  | [a, b, c, d], _ => exact ⟨a, b, c, d, rfl⟩
 rw [TM]
 unfold wM
 simp
theorem aNO (s : Rm) (l : List (Nat × Nat)) : 0 ≤ jP s l := PN _
theorem aQZ {s : Rm} (F : lJ s) (hB : mI s = none) {g : List Nat} (hg : g ∈ iR s) : wM (gV s (W0 s) (fK 0 g)) = false := by
 have ip := (kG F hg).1
 cases c : wM (gV s (W0 s) (fK 0 g)) with
 | false => rfl
 | true =>
  have l0 := (nY F ip).1 c
  rcases vC s (qY s.dZ.length s.dF.length []) with ⟨e, _⟩ | ⟨b, e, hb, hall⟩
  ·rw [show iR s = [] from e] at hg; cases hg
  ·have hk := (hall g hg).1
   have ipb := (kG F (g := b) hb).1
   have := aNO s (fK 0 b)
   have lb : jP s (fK 0 b) = 0 := by unfold kLt at hk; omega
   have : mI s = some b := by
    unfold mI
    rw [show leastOf s (iR s) = some b from e]
    exact if_pos ((nY F ipb).2 lb)
   rw [hB] at this; cases this
theorem aQ0 {s : Rm} (F : lJ s) {b : List Nat} (hB : mI s = some b) {g : List Nat} (hg : g ∈ iR s) (c : wM (gV s (W0 s) (fK 0 g)) = true) : iP s (fK 0 b) < iP s (fK 0 g) ∨ (iP s (fK 0 b) = iP s (fK 0 g) ∧ (g = b ∨ QX b g)) := by
 obtain ⟨hb, hl, cb⟩ := DN hB
 have l0 := (nY F (kG F hg).1).1 c
 have lb := (nY F (kG F hb).1).1 cb
 rcases vC s (qY s.dZ.length s.dF.length []) with ⟨e, _⟩ | ⟨b', e, hb', hall⟩
 ·rw [show iR s = [] from e] at hg; cases hg
 ·have : b' = b := by
   rw [show leastOf s (iR s) = leastOf s (ZG s.dZ.length s.dF.length []) from rfl, e] at hl
   exact Option.some.inj hl
  subst this
  obtain ⟨k1, k2⟩ := hall g hg
  unfold kLt at k1
  unfold kEq at k2
  by_cases q : iP s (fK 0 b') < iP s (fK 0 g)
  ·exact .inl q
  ·exact .inr ⟨by omega, k2 (by omega)⟩
end Go.Proofs.Ytdpicdnpiihaaaa.K.L
open Go Go.bK
set_option maxRecDepth 100000
set_option linter.unusedVariables false
namespace Go.Proofs.Ytdpicdnpiihaaaa.K.L
end Go.Proofs.Ytdpicdnpiihaaaa.K.L
open Go Go.bK
set_option maxRecDepth 100000
set_option linter.unusedVariables false
namespace Go.Proofs.Ytdpicdnpiihaaaa.K.L
theorem bHA : vZ Try.prog 48 = none ∧ aGZ Try.prog 48 = none := ⟨by kernel_rfl, by kernel_rfl⟩
theorem bHB : Q0 Try.prog 48 = some 5 := by kernel_rfl
theorem ce5 : Try.prog.cellsOf 5 = 1 := by kernel_rfl
theorem ki5 : aCX Try.prog 5 = some .u8 := by kernel_rfl
theorem byte_of {h : Hp} {n : Nat} {r : List Value} (a : Arg Try.prog h (n + 1) 5 r) : ∃ b : Nat, r = K9 b ∧ b ≤ 255 := by
 obtain ⟨i, e, w⟩ := a.int ki5
 have hm1 : IntKind.u8.min = 0 := by decide +kernel
 have hm2 : IntKind.u8.max = 255 := by decide +kernel
 have hb : 0 ≤ i ∧ i ≤ 255 := by
  simp [Lit.wf] at w
  omega
 exact ⟨i.toNat, by rw [e]; unfold K9; congr 2; omega, by omega⟩
theorem aNP {h : Hp} {n : Nat} {v : Value} (a : Arg Try.prog h (n + 2) 48 [v]) : ∃ xs : List Nat, kR h 1 v (xs.map K9) ∧ ∀ x ∈ xs, x ≤ 255 := by
 obtain ⟨v1, rs1, e1, s1, h1⟩ := a.sl bHB ce5
 obtain ⟨l, rfl, q⟩ := II K9 (fun x => x ≤ 255) rs1 (fun r hr => byte_of (h1 r hr))
 simp at e1
 subst e1
 exact ⟨l, kR.of s1, q⟩
end Go.Proofs.Ytdpicdnpiihaaaa.K.L
