/- Contracts of told functions: the reference's Left; hair told colour by colour is hair told change by change. -/
import Derived.Test.YtepepiajmdpiiaaPlS23
open Go Go.Eng
set_option maxRecDepth 100000
set_option linter.unusedVariables false
namespace Go.Proofs.Ytepepiajmdpiiaa.K.L
theorem NV {hb : Hp} (w : Wf hb) {s : Rm} (F : oU s) {p v vc vo vf vp : Value} (A : xN hb s (fV vc vo vf vp)) (so : jE hb 1 vo (s.bN.map bF)) (sf : jE hb 3 vf (s.dA.map Lk.row)) (sp : jE hb 3 vp (s.cB.map Lk.row)) (ar : At hb p (fV vc vo vf vp)) {pl : List Int} (sl : jE hb 1 v (pl.map bF)) (hx : ∀ x ∈ pl, 0 ≤ x ∧ x ≤ (s.dA.length : Int) - 1) (hl : pl.length = s.cB.length) :
  ∀ (m c n : Nat) (h : Hp) (x : Value) (ns : List Int), bA hb h → zI hb h x ns → ns.length = c → c + m = s.bN.length → 30 * m + 5 ≤ n →
  ∃ h' x', aK KF n 1 (AL.v v (AL.v p (AL.v x (AL.i (c : Int) AL.n)))) h = some (x', h') ∧ bA hb h' ∧ zI hb h' x' (ns ++ FE s (qF 0 pl) c (s.bN.drop c))
 | 0, c, n', h, x, ns, g, nm, hns, hc, hn => by
  obtain ⟨n, rfl⟩ : ∃ n, n' = n + 2 := ⟨n' - 2, by omega⟩
  rw [aKF]
  unfold XQ
  rw [(ar.sub g.sub).qB 1 (x := vo) rfl, so.rows.len, List.length_map, aM, aU, aH, if_neg (by simp; omega), aTQ, List.drop_of_length_le (by omega)]
  exact ⟨h, x, rfl, g, by rw [show FE s (qF 0 pl) c [] = [] from rfl, List.append_nil]; exact nm⟩
 | m + 1, c, n', h, x, ns, g, nm, hns, hc, hn => by
  obtain ⟨n, rfl⟩ : ∃ n, n' = n + 1 := ⟨n' - 1, by omega⟩
  have hc' : c < s.bN.length := by omega
  have no := F.no
  have np := F.np
  have ob := F.os _ (List.getElem_mem hc')
  obtain ⟨y, ey, ay, _⟩ := (so.sub g.sub).rows.at (i := c) (r := bF s.bN[c]) (by rw [List.getElem?_map, List.getElem?_eq_getElem hc']; rfl)
  rw [aKF]
  unfold XQ
  rw [(ar.sub g.sub).qB 1 (x := vo) rfl, so.rows.len, List.length_map, aM, aU, aH, if_pos (by simp; omega), (ar.sub g.sub).qB 1 (x := vo) rfl, ey, ay.gT (x := .int .i64 s.bN[c]) rfl, aJ, show (Int.ofNat 0) = ((0 : Nat) : Int) from rfl]
  obtain ⟨n2, h2, e2, l2, g2⟩ := QV F A sf sp ar sl hx hl x (c := c) (by omega) pl.length 0 n h s.bN[c] g (by omega) (by omega) (by omega) (by omega)
  rw [List.drop_zero] at e2
  obtain ⟨n3, rfl⟩ : ∃ n3, n2 = n3 + 2 := ⟨n2 - 2, by omega⟩
  rw [e2, aTO]
  unfold aDS
  obtain ⟨x3, h3, e3, g3, nm3⟩ := AZ w (g.trans g2) (nm.sub g2.sub) (by omega) (vN s (c : Int) s.bN[c] (qF 0 pl))
  rw [WQ, aG, e3, aG, aTP]
  unfold aDT
  rw [show Int.add (c : Int) (Int.ofNat 1) = ((c + 1 : Nat) : Int) from rfl, wrap64_in _ (by omega) (by omega)]
  obtain ⟨h4, x4, e4, g4, nm4⟩ := NV w F A so sf sp ar sl hx hl m (c + 1) n3 h3 x3 (ns ++ [vN s (c : Int) s.bN[c] (qF 0 pl)]) g3 nm3 (by simp; omega) (by omega) (by omega)
  refine ⟨h4, x4, e4, g4, ?_⟩
  rw [List.append_assoc] at nm4
  rw [List.drop_eq_getElem_cons hc']
  exact nm4
theorem QW {h : Hp} (w : Wf h) {s : Rm} (F : oU s) {r : List Value} (a : xN h s r) {v : Value} {pl : List Int} (sl : jE h 1 v (pl.map bF)) (hx : ∀ x ∈ pl, 0 ≤ x ∧ x ≤ (s.dA.length : Int) - 1) (hl : pl.length = s.cB.length) : ∃ h' v', F61 [.agg (Array.mk r), v] h = some (v', h') ∧ bA h h' ∧ zI h h' v' (FE s (qF 0 pl) 0 s.bN) := by
 have start : F61 [.agg (Array.mk r), v] h = aDU (aK KF 999999) (.agg (Array.mk r)) v h := rfl
 rw [start]
 unfold aDU
 rw [dS, bJ]
 have g1 : bA h (h.add (.cells r 25 none)) := bA.add w _
 have a1 : At (h.add (.cells r 25 none)) (.pointer (some ⟨h.next, 0, none⟩)) r := At.new
 replace a := a.sub g1.sub
 replace sl := sl.sub g1.sub
 have no := F.no
 clear start
 generalize h.add (.cells r 25 none) = h1 at g1 a1 a sl ⊢
 generalize Value.pointer (some ⟨h.next, 0, none⟩) = p at a1 ⊢
 obtain ⟨vc, vo, vf, vp, rfl, sc, so, sf, sp, af, aq⟩ := a
 have A : xN h1 s (fV vc vo vf vp) := ⟨vc, vo, vf, vp, rfl, sc, so, sf, sp, af, aq⟩
 obtain ⟨h', v', e, g, nm⟩ := NV g1.wf F A so sf sp a1 sl hx hl s.bN.length 0 999999 h1 (.slice none 0 0) [] (bA.refl g1.wf) (.inl ⟨rfl, rfl⟩) rfl (by omega) (by omega)
 rw [List.drop_zero, List.nil_append] at nm
 exact ⟨h', v', e, g1.trans g, nm.low g1.next⟩
theorem XT {W : List Int} {i d : Int} (hi : 0 ≤ i) (c : Nat) (hc : c < W.length) : (qH W i d)[c]? = some (W[c] + (if i = (c : Int) then d else 0)) := by
 unfold qH
 rw [List.getElem?_set]
 by_cases e : i.toNat = c
 ·rw [if_pos e, if_pos (by omega), if_pos (by omega)]
  rw [List.getD_eq_getElem?_getD, e, List.getElem?_eq_getElem hc, Option.getD_some]
 ·rw [if_neg e, if_neg (by omega), Int.add_zero, List.getElem?_eq_getElem hc]
theorem aGQ {s : Rm} (F : oU s) {ch : Nat × Nat} (h1 : ch.1 < s.dA.length) (h2 : ch.2 < s.cB.length) {W : List Int} {c : Nat} (hc : c < W.length) : (stepW s W ch)[c]? = some (W[c] + JS s (c : Int) ch) := by
 have hf : s.dA[ch.1]? = some s.dA[ch.1] := List.getElem?_eq_getElem h1
 have hq : s.cB[ch.2]? = some s.cB[ch.2] := List.getElem?_eq_getElem h2
 have e1 := F.fs _ (List.getElem_mem h1)
 have e2 := F.ps _ (List.getElem_mem h2)
 have hfh : qE s ch = eD s.dA[ch.1] := by unfold qE; rw [hf]; rfl
 have hph : zJ s ch = eD s.cB[ch.2] := by unfold zJ; rw [hq]; rfl
 unfold stepW JS
 cases x : hch s ch with
 | false => rw [if_neg (by simp), if_neg (by simp), Int.add_zero, List.getElem?_eq_getElem hc]
 | true =>
  have := aJ5 F hf hq
  rw [x, eq_comm, Bool.and_eq_true, decide_eq_true_iff, decide_eq_true_iff] at this
  have a1 := XT (W := W) (i := qE s ch) (d := sG s ch) (by omega) c hc
  have l1 : c < (qH W (qE s ch) (sG s ch)).length := by rw [zK]; exact hc
  have a2 := XT (W := qH W (qE s ch) (sG s ch)) (i := zJ s ch) (d := -(HY s ch)) (by omega) c l1
  rw [List.getElem?_eq_getElem l1] at a1
  rw [if_pos rfl, if_pos rfl, a2, Option.some.inj a1]
  congr 1
  by_cases d : zJ s ch = (c : Int)
  ·rw [if_pos d, if_pos d]; omega
  ·rw [if_neg d, if_neg d]; omega
theorem H6 {s : Rm} (F : oU s) {c : Nat} : ∀ (l : List (Nat × Nat)) (W : List Int), (∀ ch ∈ l, ch.1 < s.dA.length ∧ ch.2 < s.cB.length) → (hc : c < W.length) → (jY s W l)[c]? = some (vN s (c : Int) W[c] l)
 | [], W, _, hc => List.getElem?_eq_getElem hc
 | ch :: l, W, hl, hc => by
  obtain ⟨i1, i2⟩ := hl ch (.head _)
  have st := aGQ F i1 i2 hc
  have hs : c < (stepW s W ch).length := (List.getElem?_eq_some_iff.1 st).1
  have ih := H6 F l (stepW s W ch) (fun d hd => hl d (.tail _ hd)) hs
  rw [List.getElem?_eq_getElem hs] at st
  show (jY s (stepW s W ch) l)[c]? = _
  rw [ih, Option.some.inj st]
  rfl
theorem QX {s : Rm} {l : List (Nat × Nat)} : ∀ (os : List Int) (c k : Nat) (o : Int), os[k]? = some o → (FE s l c os)[k]? = some (vN s ((c + k : Nat) : Int) o l)
 | [], c, k, o, h => by simp at h
 | x :: os, c, 0, o, h => by simp at h; subst h; rfl
 | x :: os, c, k + 1, o, h => by
  show (FE s l (c + 1) os)[k]? = _
  rw [QX os (c + 1) k o (by simpa using h), show c + 1 + k = c + (k + 1) by omega]
theorem QY {s : Rm} {l : List (Nat × Nat)} : ∀ (os : List Int) (c : Nat), (FE s l c os).length = os.length
 | [], c => rfl
 | x :: os, c => by show (FE s l (c + 1) os).length + 1 = os.length + 1; rw [QY os]
theorem aDV {s : Rm} (F : oU s) {l : List (Nat × Nat)} (hl : InP s l) : FE s l 0 s.bN = (jY s (W0 s) l).take s.bN.length := by
 have no := F.no
 obtain ⟨w1, w2⟩ := aDE F
 obtain ⟨b1, _⟩ := pK F hl
 apply List.ext_getElem?
 intro i
 rw [List.getElem?_take]
 by_cases hi : i < s.bN.length
 ·rw [if_pos hi, QX s.bN 0 i s.bN[i] (List.getElem?_eq_getElem hi), H6 F l (W0 s) hl.2 (by omega), Nat.zero_add]
  congr 2
  unfold W0
  rw [List.getElem_append_left hi]
 ·rw [if_neg hi, List.getElem?_eq_none (by rw [QY]; omega)]
theorem NW {s : Rm} (F : oU s) {c : Nat} (hc : s.bN.length ≤ c) : ∀ (l : List (Nat × Nat)) (n : Int), (∀ ch ∈ l, ch.1 < s.dA.length ∧ ch.2 < s.cB.length) → vN s (c : Int) n l = n
 | [], n, _ => rfl
 | ch :: l, n, hl => by
  obtain ⟨i1, i2⟩ := hl ch (.head _)
  have hf : s.dA[ch.1]? = some s.dA[ch.1] := List.getElem?_eq_getElem i1
  have hq : s.cB[ch.2]? = some s.cB[ch.2] := List.getElem?_eq_getElem i2
  have e1 := F.fs _ (List.getElem_mem i1)
  have e2 := F.ps _ (List.getElem_mem i2)
  have hfh : qE s ch = eD s.dA[ch.1] := by unfold qE; rw [hf]; rfl
  have hph : zJ s ch = eD s.cB[ch.2] := by unfold zJ; rw [hq]; rfl
  have : JS s (c : Int) ch = 0 := by
   unfold JS
   rw [if_neg (show ¬ (qE s ch = (c : Int)) by omega), if_neg (show ¬ (zJ s ch = (c : Int)) by omega)]
   split <;> omega
  show vN s (c : Int) (n + JS s (c : Int) ch) l = n
  rw [this, Int.add_zero]
  exact NW F hc l n fun d hd => hl d (.tail _ hd)
theorem aA8 {s : Rm} (F : oU s) {l : List (Nat × Nat)} (hl : InP s l) : ∀ x ∈ (jY s (W0 s) l).drop s.bN.length, x = 0 := by
 intro x hx
 have no := F.no
 obtain ⟨w1, w2⟩ := aDE F
 obtain ⟨b1, _⟩ := pK F hl
 obtain ⟨k, hk, rfl⟩ := List.getElem_of_mem hx
 rw [List.length_drop, b1] at hk
 rw [List.getElem_drop]
 have g := H6 F l (W0 s) (c := s.bN.length + k) hl.2 (by omega)
 rw [List.getElem?_eq_getElem (by omega)] at g
 rw [Option.some.inj g, NW F (by omega) l _ hl.2]
 unfold W0
 rw [List.getElem_append_right (by omega), List.getElem_replicate]
theorem aGR {h : Hp} (w : Wf h) {s : Rm} {r : List Value} (a : xN h s r) {A7 : Value} {pl : List Int} (sl : jE h 1 A7 (pl.map bF)) : ∃ h' v', F23 [.agg (Array.mk r), A7] h = some (.tuple (List.toArray [v', .int .i64 (BS s pl).2]), h') ∧ bA h h' ∧ jE h' 1 v' ((BS s pl).1.map bF) := by
 have start : F23 [.agg (Array.mk r), A7] h = aDW (aK T23 999999) (.agg (Array.mk r)) A7 h := rfl
 rw [start]
 unfold aDW
 have hr4 := a.len
 rw [dS, bJ]
 have g1 : bA h (h.add (.cells r 25 none)) := bA.add w _
 have a1 : At (h.add (.cells r 25 none)) (.pointer (some ⟨h.next, 0, none⟩)) r := At.new
 replace a := a.sub g1.sub
 replace sl := sl.sub g1.sub
 clear start
 generalize h.add (.cells r 25 none) = h1 at g1 a1 a sl ⊢
 generalize Value.pointer (some ⟨h.next, 0, none⟩) = p at a1 ⊢
 obtain ⟨h2, e2⟩ := QU (h := fH h1) (fT g1.wf) a sl
 rw [a1.dX (z := 4) hr4, bS e2 rfl, aG, aJ, aT, bR, aH]
 unfold BS
 by_cases e0 : mF s pl = 0
 case neg =>
  rw [if_pos (by simpa using e0), if_pos e0]
  exact ⟨h1, _, rfl, g1, .inl ⟨rfl, rfl⟩⟩
 obtain ⟨_, F, l1, l2, ip, _⟩ := zM e0
 obtain ⟨h3, v3, e3, g3, n3⟩ := QW (h := fH h1) (fT g1.wf) F a sl l2 l1
 obtain ⟨h4, e4, g4, n4⟩ := sF g1.wf e3 g3 n3
 rw [if_neg (by simpa using e0), if_neg (by simpa using e0), a1.dX (z := 4) hr4, e4, aG]
 refine ⟨h4, v3, rfl, g1.trans g4, ?_⟩
 rw [aDV F ip] at n4
 exact n4.sl
end Go.Proofs.Ytepepiajmdpiiaa.K.L
