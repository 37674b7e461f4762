/- The law: Best's plan is allowed, costs what it says, and no other one costs less, or as much and comes before. -/
import Derived.Test.YtdpicdnpiihaaaaLeS44
open Go Go.bK
set_option maxRecDepth 100000
set_option linter.unusedVariables false
namespace Go.Proofs.Ytdpicdnpiihaaaa.K.L
theorem aHM {F : List Value → Hp → aJ} {args : List Value} {h h' : Hp} {v : Value} {ns : List Int} {x y : Int} (w : Wf h) (e : F args (bY h) = some (.tuple (List.toArray [v, .int .i64 x, .int .i64 y]), h')) (g : aR (bY h) h') (i : oL (bY h) h' v ns) :
  ∃ h2, dJ F args h = some (.tuple (List.toArray [v, .int .i64 x, .int .i64 y]), h2) ∧ aR h h2 ∧ oL h h2 v ns := by
 obtain ⟨h2, e2, g2, o2⟩ := qY w e g
 refine ⟨h2, e2, g2, ?_⟩
 rcases i with i | ⟨b, rfl, hle, hg⟩
 ·exact .inl i
 ·refine .inr ⟨b, rfl, hle, ?_⟩
  have := o2 rfl
  show h2.aF.get b = _
  rw [this]; exact hg
theorem vF : ∀ (l : List Nat) (i : Nat), tJ i (jP l) = jQ i l
 | [], _ => rfl
 | f :: l, i => by
  show ((Int.ofNat f).toNat, i) :: tJ (i + 1) (jP l) = (f, i) :: jQ (i + 1) l
  rw [vF l]; rfl
theorem D5 {s : Rm} (F : kY s) {l : List (Nat × Nat)} (hl : M5 s l) : nR (iQ s (W0 s) l) = true ↔ pX s l = 0 := by
 obtain ⟨b1, _⟩ := pG F hl
 unfold pX
 generalize iQ s (W0 s) l = W at b1 ⊢
 obtain ⟨a, b, c, d, rfl⟩ : ∃ a b c d, W = [a, b, c, d] := by
  match W, b1 with
  | [a, b, c, d], _ => exact ⟨a, b, c, d, rfl⟩
 rw [KF]
 unfold nR
 simp
theorem aPL (s : Rm) (l : List (Nat × Nat)) : 0 ≤ pX s l := QG _
theorem aSP {s : Rm} {P : List Int} (hl : P.length = s.bE.length) (hx : ∀ x ∈ P, 0 ≤ x ∧ x ≤ (s.bR.length : Int) - 1) (hn : P.Nodup) : ∃ g ∈ qP s, jP g = P := by
 refine ⟨P.map Int.toNat, (zF _ _ _ _).2 ⟨P.map Int.toNat, rfl, by simpa using hl, fun x h => ?_, ?_⟩, ?_⟩
 ·obtain ⟨y, hy, rfl⟩ := List.mem_map.1 h
  have := hx y hy
  exact ⟨by omega, by simp⟩
 ·refine List.pairwise_map.2 (hn.imp_of_mem fun {a b} ha hb hab e => hab ?_)
  have := hx a ha; have := hx b hb
  omega
 ·unfold jP
  rw [List.map_map]
  conv => rhs; rw [← List.map_id P]
  refine List.map_congr_left fun x h => ?_
  have := hx x h
  show Int.ofNat x.toNat = x
  simp; omega
theorem aHN {s : Rm} {g : List Nat} (hg : g ∈ qP s) : (jP g).Nodup := by
 obtain ⟨t, rfl, _, _, h⟩ := (zF _ _ _ _).1 hg
 exact List.pairwise_map.2 (h.imp fun hab e => hab (Int.ofNat.inj e))
theorem aPM {s : Rm} (e0 : (gD s).2.2 = 0) {g : List Nat} (hg : g ∈ qP s) : vB s (jP g) = 0 := by
 obtain ⟨_, hl, hx⟩ := qK (wD e0) hg
 unfold vB
 have hlen : (jP g).length = s.bE.length := by unfold jP; rw [List.length_map]; exact hl
 rw [if_neg (by simp [e0]), if_neg (by rw [hlen]; simp), if_neg, if_neg]
 ·rw [show FW (jP g) 0 (jP g) = false from by have := Z5 (aHN hg) _ 0 (Nat.zero_add _); rwa [List.drop_zero] at this]; simp
 ·simp only [Bool.not_eq_true', Bool.not_eq_false]
  rw [List.all_eq_true]
  intro x hxm
  obtain ⟨y, hy, rfl⟩ := List.mem_map.1 hxm
  have := hx y hy
  rw [oK]
  show 0 ≤ (y : Int) ∧ (y : Int) ≤ _
  omega
theorem aSQ {s : Rm} (F : kY s) (hB : qL s = none) {g : List Nat} (hg : g ∈ qP s) : nR (iQ s (W0 s) (jQ 0 g)) = false := by
 have ip := (qK F hg).1
 cases c : nR (iQ s (W0 s) (jQ 0 g)) with
 | false => rfl
 | true =>
  have l0 := (D5 F ip).1 c
  rcases QT s (GD s.bR.length s.bE.length []) with ⟨e, _⟩ | ⟨b, e, hb, hall⟩
  ·rw [show qP s = [] from e] at hg; cases hg
  ·have hk := (hall g hg).1
   have ipb := (qK F (g := b) hb).1
   have := aPL s (jQ 0 b)
   have lb : pX s (jQ 0 b) = 0 := by unfold kLt at hk; omega
   have : qL s = some b := by
    unfold qL
    rw [show leastOf s (qP s) = some b from e]
    exact if_pos ((D5 F ipb).2 lb)
   rw [hB] at this; cases this
theorem aSR {s : Rm} (F : kY s) {b : List Nat} (hB : qL s = some b) {g : List Nat} (hg : g ∈ qP s) (c : nR (iQ s (W0 s) (jQ 0 g)) = true) : jY s (jQ 0 b) < jY s (jQ 0 g) ∨ (jY s (jQ 0 b) = jY s (jQ 0 g) ∧ (g = b ∨ QR b g)) := by
 obtain ⟨hb, hl, cb⟩ := DZ hB
 have l0 := (D5 F (qK F hg).1).1 c
 have lb := (D5 F (qK F hb).1).1 cb
 rcases QT s (GD s.bR.length s.bE.length []) with ⟨e, _⟩ | ⟨b', e, hb', hall⟩
 ·rw [show qP s = [] from e] at hg; cases hg
 ·have : b' = b := by
   rw [show leastOf s (qP s) = leastOf s (onL s.bR.length s.bE.length []) from rfl, e] at hl
   exact Option.some.inj hl
  subst this
  obtain ⟨k1, k2⟩ := hall g hg
  unfold kLt at k1
  unfold kEq at k2
  by_cases q : jY s (jQ 0 b') < jY s (jQ 0 g)
  ·exact .inl q
  ·exact .inr ⟨by omega, k2 (by omega)⟩
theorem aSS {b g : List Nat} (h : g = b ∨ QR b g) : vE (jP g) (jP b) = false := by
 rcases h with rfl | h
 ·exact UN _
 ·exact UL _ _ h
end Go.Proofs.Ytdpicdnpiihaaaa.K.L
open Go Go.bK
set_option maxRecDepth 100000
set_option linter.unusedVariables false
namespace Go.Proofs.Ytdpicdnpiihaaaa.K.L
theorem a6M (n : Nat) (r2 r5 r8 : Value) (r6 : Int) (r9 : Bool) (h : Hp) : aI T8 (n + 1) 1 (AL.v r2 (AL.v r5 (AL.i r6 (AL.v r8 (AL.b r9 AL.n))))) h = aWS (aI T8 n) r2 r5 r6 r8 r9 h := rfl
theorem a6N (n : Nat) (r2 r5 r8 : Value) (r6 : Int) (r9 : Bool) (h : Hp) : aI T8 (n + 1) 2 (AL.v r2 (AL.v r5 (AL.i r6 (AL.v r8 (AL.b r9 AL.n))))) h = aWT (aI T8 n) r2 r5 r6 r8 r9 h := rfl
theorem a6O (n : Nat) (r2 r5 r8 : Value) (r6 r7 : Int) (r9 : Bool) (h : Hp) : aI T8 (n + 1) 3 (AL.v r2 (AL.v r5 (AL.i r6 (AL.i r7 (AL.v r8 (AL.b r9 AL.n)))))) h = aWU (aI T8 n) r2 r5 r6 r7 r8 r9 h := rfl
theorem aX8 {h : Hp} (w : Wf h) {s : Rm} (F : kY s) {r : List Value} (a : zC h s r) {p : Value} (ar : At h p r) {v vo : Value} {b : List Nat} {P : List Int} (hB : qL s = some b) (i : jC h 1 v ((jP b).map bB)) (io : jC h 1 vo (P.map bB)) (c : Bool)
  (hc : c = true → ∃ g ∈ qP s, jP g = P ∧ nR (iQ s (W0 s) (jQ 0 g)) = true) (n : Nat) :
  ∃ h', aI T8 (n + 1) 1 (AL.v p (AL.v v (AL.i (jY s (jQ 0 b)) (AL.v vo (AL.b c AL.n))))) h = some (.bool true, h') := by
 rw [a6M]
 unfold aWS
 rw [aP, aC]
 cases c with
 | false =>
  rw [if_pos (by decide), CE, aB, aS]
  exact ⟨_, rfl⟩
 | true =>
  obtain ⟨g, hg, rfl, ca⟩ := hc rfl
  obtain ⟨ip, hl, hx⟩ := qK F hg
  have np := F.np
  have hx' : ∀ x ∈ jP g, 0 ≤ x ∧ x ≤ (s.bR.length : Int) - 1 := fun x hxm => by
   obtain ⟨y, hy, rfl⟩ := List.mem_map.1 hxm
   have := hx y hy
   show 0 ≤ (y : Int) ∧ (y : Int) ≤ _
   omega
  have hlen : (jP g).length = s.bE.length := by unfold jP; rw [List.length_map]; exact hl
  have hlb : (jP b).length = s.bE.length := by unfold jP; rw [List.length_map]; exact (qK F (DZ hB).1).2.1
  obtain ⟨h2, e2⟩ := ZY (h := bY h) (eF w) F a io hx' hlen
  rw [vF] at e2
  have e3 := aZ e2 rfl
  rw [if_neg (by decide), ar.dL (z := 4) a.len, e3, aB, aG, aH, aN, aC]
  rcases aSR F hB hg ca with q | ⟨q1, q2⟩
  ·rw [if_pos (by simpa using q), CE, aB, aS]
   exact ⟨_, rfl⟩
  ·rw [if_neg (by rw [q1]; simp), ar.dL (z := 4) a.len, e3, aB, aG, aH, aY, aC, if_pos (by simp [q1]), aHH io.rows i.rows (by omega) (by omega), aSS q2, aK, aB, aS, aP, aC, if_pos (by decide), CE, aB, aS]
   exact ⟨_, rfl⟩
theorem aPN {h : Hp} (w : Wf h) {s : Rm} (e0 : (gD s).2.2 = 0) {r : List Value} (a : zC h s r) {p : Value} (ar : At h p r) {v vo : Value} {P : List Int} (i : jC h 1 v ((zP s).1.map bB)) (io : jC h 1 vo (P.map bB)) (c : Bool)
  (hc : c = true → ∃ g ∈ qP s, jP g = P ∧ nR (iQ s (W0 s) (jQ 0 g)) = true) (n : Nat) :
  ∃ h', aI T8 (n + 3) 3 (AL.v p (AL.v v (AL.i (zP s).2.1 (AL.i (zP s).2.2 (AL.v vo (AL.b c AL.n)))))) h = some (.bool true, h') := by
 have F := wD e0
 rw [a6O]
 unfold aWU
 unfold zP at i ⊢
 rw [if_neg (by simpa using e0)] at i ⊢
 cases hB : qL s with
 | none =>
  rw [hB] at i
  have cf : c = false := by
   cases c with
   | false => rfl
   | true =>
    obtain ⟨g, hg, _, ca⟩ := hc rfl
    rw [aSQ F hB hg] at ca; cases ca
  subst cf
  rw [aP, aY, aC, if_pos (by rfl), aH, aY, aC, if_pos (by rfl), i.rows.len, aH, aY, aC, if_pos (by rfl), aH, aY, aC, if_pos (by rfl), aP, aC, if_pos (by decide), CE, aB, aS]
  exact ⟨_, rfl⟩
 | some b =>
  rw [hB] at i
  replace i : jC h 1 v ((jP b).map bB) := i
  obtain ⟨hb, _, cb⟩ := DZ hB
  obtain ⟨ip, hl, hx⟩ := qK F hb
  have hx' : ∀ x ∈ jP b, 0 ≤ x ∧ x ≤ (s.bR.length : Int) - 1 := fun x hxm => by
   obtain ⟨y, hy, rfl⟩ := List.mem_map.1 hxm
   have := hx y hy
   show 0 ≤ (y : Int) ∧ (y : Int) ≤ _
   omega
  have hlen : (jP b).length = s.bE.length := by unfold jP; rw [List.length_map]; exact hl
  have pe := aPM e0 hb
  obtain ⟨h1, e1⟩ := aG8 (h := bY h) (eF w) a i
  obtain ⟨h2, e2⟩ := IZ (h := bY h) (eF w) F a i hx' hlen (by rw [vF]; exact ip)
  obtain ⟨h3, e3⟩ := ZY (h := bY h) (eF w) F a i hx' hlen
  obtain ⟨h4, e4⟩ := aG7 (h := bY h) (eF w) a i
  have pp : aFE s (jP b) = (jY s (jQ 0 b), 0) := by
   unfold aFE
   rw [pe, vF, cb, if_neg (by simp), if_neg (by simp)]
  rw [pp] at e4
  rw [vF] at e2 e3
  rw [cb] at e2
  rw [pe] at e1
  rw [aP, aY, aC, if_neg (by exact Bool.false_ne_true), ar.dL (z := 4) a.len, aZ e1 rfl, aB, aG, aP, aY, aC, if_neg (by decide), ar.dL (z := 4) a.len, aZ e2 rfl, aB, aS, aP, aC, if_neg (by decide), ar.dL (z := 4) a.len, aZ e3 rfl, aB, aG, aP, aY, aC, if_neg (by simp), a6N]
  unfold aWT
  rw [ar.dL (z := 4) a.len, aZ e4 rfl, aB]
  unfold lD
  rw [bP (v := .int .i64 (jY s (jQ 0 b))) rfl, aG, bP (v := .int .i64 0) rfl, aG, aP, aY, aC, if_neg (by decide), aP, aY, aC, if_neg (by simp)]
  exact aX8 w F a ar hB i io c hc n
theorem aST {h : Hp} (w : Wf h) {s : Rm} {r : List Value} (a : zC h s r) {v : Value} {xs : List Nat} (sl : jC h 1 v (xs.map EW)) (hx : ∀ x ∈ xs, x ≤ 255) : ∃ h', F8 [.agg (Array.mk r), v] h = some (.bool true, h') := by
 have start : F8 [.agg (Array.mk r), v] h = aWV (aI T8 999999) (.agg (Array.mk r)) v h := rfl
 rw [start]
 unfold aWV
 have hr4 := a.len
 rw [dN, aX]
 have g1 : aR h (h.add (.cells r 25 none)) := aR.add w _
 have a1 : At (h.add (.cells r 25 none)) (.pointer (some ⟨h.next, 0, none⟩)) r := At.new
 replace a := a.sub g1.sub
 replace sl := sl.sub g1.sub
 clear start
 generalize h.add (.cells r 25 none) = h1 at g1 a1 a sl ⊢
 generalize Value.pointer (some ⟨h.next, 0, none⟩) = p at a1 ⊢
 obtain ⟨h2', v2, e2, g2', i2'⟩ := aHL (h := bY h1) (eF g1.wf) a
 obtain ⟨h2, e3, g2, i2⟩ := aHM g1.wf e2 g2' i2'
 rw [a1.dL (z := 4) hr4, e3, aB, bP (v := v2) rfl, bP (v := .int .i64 (zP s).2.1) rfl, aG, bP (v := .int .i64 (zP s).2.2) rfl, aG]
 replace a := a.sub g2.sub
 replace a1 := a1.sub g2.sub
 replace sl := sl.sub g2.sub
 obtain ⟨h4, e4⟩ := aC9 (h := bY h2) (eF g2.wf) a
 rw [a1.dL (z := 4) hr4, aZ e4 rfl, aB, aS, aP, aC]
 by_cases e0 : (gD s).2.2 = 0
 case neg =>
  have be : zP s = ([], 0, (gD s).2.2) := by unfold zP; rw [if_pos e0]
  rw [be] at i2 ⊢
  rw [if_pos (by simpa using e0), aP, aY, aC, if_pos (by simpa using e0), i2.sl.rows.len, aH, aY, aC, if_pos (by rfl), aH, aY, aC, if_pos (by rfl), CE, aB, aS]
  exact ⟨_, rfl⟩
 have F := wD e0
 have nf := F.nf
 have np := F.np
 obtain ⟨h5', v5, P, e5, g5', i5', hl, nd, px⟩ := aO9 (h := bY h2) (eF g2.wf) F a sl hx
 obtain ⟨h5, e6, g5, i5⟩ := xR g2.wf e5 g5' i5'
 rw [if_neg (by rw [e0]; decide), a1.dL (z := 4) hr4, e6, aB, i5.sl.rows.len, List.length_map]
 replace a := a.sub g5.sub
 replace a1 := a1.sub g5.sub
 have i2s := (i2.sl).sub g5.sub
 have vp : ∃ vp, (∀ (ρ : Type) (k : Value → Option ρ), (aT 3 p fun v => aM h5 v k) = k vp) ∧ ∀ (ρ : Type) (k : Int → Option ρ), dB vp k = k (s.bE.length : Int) := by
  obtain ⟨vc, vo, vf, vp, rfl, sc, so, sf, sp, af, ap⟩ := a
  exact ⟨vp, fun ρ k => a1.pF 3 (x := vp) rfl k, fun ρ k => by rw [sp.rows.len, List.length_map]⟩
 obtain ⟨vp, l1, l2⟩ := vp
 rw [l1, l2, aH, aY, aC]
 by_cases c : P.length = s.bE.length
 case neg =>
  rw [if_neg (by simp; omega)]
  exact aPN g5.wf e0 a a1 i2s i5.sl false (fun h => by cases h) 999996
 obtain ⟨g, hg, rfl⟩ := aSP c px nd
 have ip := (qK F hg).1
 obtain ⟨h7, e7⟩ := IZ (h := bY h5) (eF g5.wf) F a i5.sl px c (by rw [vF]; exact ip)
 rw [vF] at e7
 rw [if_pos (by simp [c]), a1.dL (z := 4) hr4, aZ e7 rfl, aB, aS]
 exact aPN g5.wf e0 a a1 i2s i5.sl _ (fun h => ⟨g, hg, rfl, h⟩) 999996
end Go.Proofs.Ytdpicdnpiihaaaa.K.L
open Go Go.bK
set_option maxRecDepth 100000
set_option linter.unusedVariables false
namespace Go.Proofs.Ytdpicdnpiihaaaa.K.L
theorem bH0 : wF Try.prog 48 = none ∧ aH1 Try.prog 48 = none := ⟨by kernel_rfl, by kernel_rfl⟩
theorem bH1 : RL Try.prog 48 = some 5 := by kernel_rfl
theorem ce5 : Try.prog.cellsOf 5 = 1 := by kernel_rfl
theorem ki5 : aDK Try.prog 5 = some .u8 := by kernel_rfl
theorem byte_of {h : Hp} {n : Nat} {r : List Value} (a : Arg Try.prog h (n + 1) 5 r) : ∃ b : Nat, r = EW b ∧ b ≤ 255 := by
 obtain ⟨i, e, w⟩ := a.int ki5
 have hm1 : IntKind.u8.min = 0 := by decide +kernel
 have hm2 : IntKind.u8.max = 255 := by decide +kernel
 have hb : 0 ≤ i ∧ i ≤ 255 := by
  simp [Lit.wf] at w
  omega
 exact ⟨i.toNat, by rw [e]; unfold EW; congr 2; omega, by omega⟩
theorem aPO {h : Hp} {n : Nat} {v : Value} (a : Arg Try.prog h (n + 2) 48 [v]) : ∃ xs : List Nat, jC h 1 v (xs.map EW) ∧ ∀ x ∈ xs, x ≤ 255 := by
 obtain ⟨v1, rs1, e1, s1, h1⟩ := a.sl bH1 ce5
 obtain ⟨l, rfl, q⟩ := IW EW (fun x => x ≤ 255) rs1 (fun r hr => byte_of (h1 r hr))
 simp at e1
 subst e1
 exact ⟨l, jC.of s1, q⟩
end Go.Proofs.Ytdpicdnpiihaaaa.K.L
