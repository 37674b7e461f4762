/- Contracts of told functions: the reference's Left; hair told colour by colour is hair told change by change. -/
import Derived.Test.YtdpicdnpiihaaaaLeS23
open Go Go.bK
set_option maxRecDepth 100000
set_option linter.unusedVariables false
namespace Go.Proofs.Ytdpicdnpiihaaaa.K.L
theorem QE {hb : Hp} (w : Wf hb) {s : Rm} (F : kY s) {p v vc vo vf vp : Value} (A : zC hb s (fP vc vo vf vp)) (so : jC hb 1 vo (s.bV.map bB)) (sf : jC hb 3 vf (s.bR.map Lk.row)) (sp : jC hb 3 vp (s.bE.map Lk.row)) (ar : At hb p (fP vc vo vf vp)) {pl : List Int} (sl : jC hb 1 v (pl.map bB)) (hx : ∀ x ∈ pl, 0 ≤ x ∧ x ≤ (s.bR.length : Int) - 1) (hl : pl.length = s.bE.length) :
  ∀ (m c n : Nat) (h : Hp) (x : Value) (ns : List Int), aR hb h → oL hb h x ns → ns.length = c → c + m = s.bV.length → 30 * m + 5 ≤ n →
  ∃ h' x', aI MI n 1 (AL.v v (AL.v p (AL.v x (AL.i (c : Int) AL.n)))) h = some (x', h') ∧ aR hb h' ∧ oL hb h' x' (ns ++ IX s (tJ 0 pl) c (s.bV.drop c))
 | 0, c, n', h, x, ns, g, nm, hns, hc, hn => by
  obtain ⟨n, rfl⟩ : ∃ n, n' = n + 2 := ⟨n' - 2, by omega⟩
  rw [aO0]
  unfold aE4
  rw [(ar.sub g.sub).pF 1 (x := vo) rfl, so.rows.len, List.length_map, aH, aN, aC, if_neg (by simp; omega), aXR, List.drop_of_length_le (by omega)]
  exact ⟨h, x, rfl, g, by rw [show IX s (tJ 0 pl) c [] = [] from rfl, List.append_nil]; exact nm⟩
 | m + 1, c, n', h, x, ns, g, nm, hns, hc, hn => by
  obtain ⟨n, rfl⟩ : ∃ n, n' = n + 1 := ⟨n' - 1, by omega⟩
  have hc' : c < s.bV.length := by omega
  have no := F.no
  have np := F.np
  have ob := F.os _ (List.getElem_mem hc')
  obtain ⟨y, ey, ay, _⟩ := (so.sub g.sub).rows.at (i := c) (r := bB s.bV[c]) (by rw [List.getElem?_map, List.getElem?_eq_getElem hc']; rfl)
  rw [aO0]
  unfold aE4
  rw [(ar.sub g.sub).pF 1 (x := vo) rfl, so.rows.len, List.length_map, aH, aN, aC, if_pos (by simp; omega), (ar.sub g.sub).pF 1 (x := vo) rfl, ey, ay.gL (x := .int .i64 s.bV[c]) rfl, aG, show (Int.ofNat 0) = ((0 : Nat) : Int) from rfl]
  obtain ⟨n2, h2, e2, l2, g2⟩ := UE F A sf sp ar sl hx hl x (c := c) (by omega) pl.length 0 n h s.bV[c] g (by omega) (by omega) (by omega) (by omega)
  rw [List.drop_zero] at e2
  obtain ⟨n3, rfl⟩ : ∃ n3, n2 = n3 + 2 := ⟨n2 - 2, by omega⟩
  rw [e2, aXP]
  unfold aNO
  obtain ⟨x3, h3, e3, g3, nm3⟩ := qX w (g.trans g2) (nm.sub g2.sub) (by omega) (xS s (c : Int) s.bV[c] (tJ 0 pl))
  rw [MJ, aB, e3, aB, aXQ]
  unfold aNN
  rw [show Int.add (c : Int) (Int.ofNat 1) = ((c + 1 : Nat) : Int) from rfl, wrap64_in _ (by omega) (by omega)]
  obtain ⟨h4, x4, e4, g4, nm4⟩ := QE w F A so sf sp ar sl hx hl m (c + 1) n3 h3 x3 (ns ++ [xS s (c : Int) s.bV[c] (tJ 0 pl)]) g3 nm3 (by simp; omega) (by omega) (by omega)
  refine ⟨h4, x4, e4, g4, ?_⟩
  rw [List.append_assoc] at nm4
  rw [List.drop_eq_getElem_cons hc']
  exact nm4
theorem aG9 {h : Hp} (w : Wf h) {s : Rm} (F : kY s) {r : List Value} (a : zC h s r) {v : Value} {pl : List Int} (sl : jC h 1 v (pl.map bB)) (hx : ∀ x ∈ pl, 0 ≤ x ∧ x ≤ (s.bR.length : Int) - 1) (hl : pl.length = s.bE.length) : ∃ h' v', F61 [.agg (Array.mk r), v] h = some (v', h') ∧ aR h h' ∧ oL h h' v' (IX s (tJ 0 pl) 0 s.bV) := by
 have start : F61 [.agg (Array.mk r), v] h = aNR (aI MI 999999) (.agg (Array.mk r)) v h := rfl
 rw [start]
 unfold aNR
 rw [dN, aX]
 have g1 : aR h (h.add (.cells r 25 none)) := aR.add w _
 have a1 : At (h.add (.cells r 25 none)) (.pointer (some ⟨h.next, 0, none⟩)) r := At.new
 replace a := a.sub g1.sub
 replace sl := sl.sub g1.sub
 have no := F.no
 clear start
 generalize h.add (.cells r 25 none) = h1 at g1 a1 a sl ⊢
 generalize Value.pointer (some ⟨h.next, 0, none⟩) = p at a1 ⊢
 obtain ⟨vc, vo, vf, vp, rfl, sc, so, sf, sp, af, aq⟩ := a
 have A : zC h1 s (fP vc vo vf vp) := ⟨vc, vo, vf, vp, rfl, sc, so, sf, sp, af, aq⟩
 obtain ⟨h', v', e, g, nm⟩ := QE g1.wf F A so sf sp a1 sl hx hl s.bV.length 0 999999 h1 (.slice none 0 0) [] (aR.refl g1.wf) (.inl ⟨rfl, rfl⟩) rfl (by omega) (by omega)
 rw [List.drop_zero, List.nil_append] at nm
 exact ⟨h', v', e, g1.trans g, nm.low g1.next⟩
theorem ZX {W : List Int} {i d : Int} (hi : 0 ≤ i) (c : Nat) (hc : c < W.length) : (sF W i d)[c]? = some (W[c] + (if i = (c : Int) then d else 0)) := by
 unfold sF
 rw [List.getElem?_set]
 by_cases e : i.toNat = c
 ·rw [if_pos e, if_pos (by omega), if_pos (by omega)]
  rw [List.getD_eq_getElem?_getD, e, List.getElem?_eq_getElem hc, Option.getD_some]
 ·rw [if_neg e, if_neg (by omega), Int.add_zero, List.getElem?_eq_getElem hc]
theorem aHA {s : Rm} (F : kY s) {ch : Nat × Nat} (h1 : ch.1 < s.bR.length) (h2 : ch.2 < s.bE.length) {W : List Int} {c : Nat} (hc : c < W.length) : (stepW s W ch)[c]? = some (W[c] + LP s (c : Int) ch) := by
 have hf : s.bR[ch.1]? = some s.bR[ch.1] := List.getElem?_eq_getElem h1
 have hq : s.bE[ch.2]? = some s.bE[ch.2] := List.getElem?_eq_getElem h2
 have e1 := F.fs _ (List.getElem_mem h1)
 have e2 := F.ps _ (List.getElem_mem h2)
 have hfh : rZ s ch = eU s.bR[ch.1] := by unfold rZ; rw [hf]; rfl
 have hph : CG s ch = eU s.bE[ch.2] := by unfold CG; rw [hq]; rfl
 unfold stepW LP
 cases x : hch s ch with
 | false => rw [if_neg (by simp), if_neg (by simp), Int.add_zero, List.getElem?_eq_getElem hc]
 | true =>
  have := aOR F hf hq
  rw [x, eq_comm, Bool.and_eq_true, decide_eq_true_iff, decide_eq_true_iff] at this
  have a1 := ZX (W := W) (i := rZ s ch) (d := vC s ch) (by omega) c hc
  have l1 : c < (sF W (rZ s ch) (vC s ch)).length := by rw [CJ]; exact hc
  have a2 := ZX (W := sF W (rZ s ch) (vC s ch)) (i := CG s ch) (d := -(KC s ch)) (by omega) c l1
  rw [List.getElem?_eq_getElem l1] at a1
  rw [if_pos rfl, if_pos rfl, a2, Option.some.inj a1]
  congr 1
  by_cases d : CG s ch = (c : Int)
  ·rw [if_pos d, if_pos d]; omega
  ·rw [if_neg d, if_neg d]; omega
theorem KD {s : Rm} (F : kY s) {c : Nat} : ∀ (l : List (Nat × Nat)) (W : List Int), (∀ ch ∈ l, ch.1 < s.bR.length ∧ ch.2 < s.bE.length) → (hc : c < W.length) → (iQ s W l)[c]? = some (xS s (c : Int) W[c] l)
 | [], W, _, hc => List.getElem?_eq_getElem hc
 | ch :: l, W, hl, hc => by
  obtain ⟨i1, i2⟩ := hl ch (.head _)
  have st := aHA F i1 i2 hc
  have hs : c < (stepW s W ch).length := (List.getElem?_eq_some_iff.1 st).1
  have ih := KD F l (stepW s W ch) (fun d hd => hl d (.tail _ hd)) hs
  rw [List.getElem?_eq_getElem hs] at st
  show (iQ s (stepW s W ch) l)[c]? = _
  rw [ih, Option.some.inj st]
  rfl
theorem UF {s : Rm} {l : List (Nat × Nat)} : ∀ (os : List Int) (c k : Nat) (o : Int), os[k]? = some o → (IX s l c os)[k]? = some (xS s ((c + k : Nat) : Int) o l)
 | [], c, k, o, h => by simp at h
 | x :: os, c, 0, o, h => by simp at h; subst h; rfl
 | x :: os, c, k + 1, o, h => by
  show (IX s l (c + 1) os)[k]? = _
  rw [UF os (c + 1) k o (by simpa using h), show c + 1 + k = c + (k + 1) by omega]
theorem UG {s : Rm} {l : List (Nat × Nat)} : ∀ (os : List Int) (c : Nat), (IX s l c os).length = os.length
 | [], c => rfl
 | x :: os, c => by show (IX s l (c + 1) os).length + 1 = os.length + 1; rw [UG os]
theorem aSJ {s : Rm} (F : kY s) {l : List (Nat × Nat)} (hl : M5 s l) : IX s l 0 s.bV = (iQ s (W0 s) l).take s.bV.length := by
 have no := F.no
 obtain ⟨w1, w2⟩ := aFD F
 obtain ⟨b1, _⟩ := pG F hl
 apply List.ext_getElem?
 intro i
 rw [List.getElem?_take]
 by_cases hi : i < s.bV.length
 ·rw [if_pos hi, UF s.bV 0 i s.bV[i] (List.getElem?_eq_getElem hi), KD F l (W0 s) hl.2 (by omega), Nat.zero_add]
  congr 2
  unfold W0
  rw [List.getElem_append_left hi]
 ·rw [if_neg hi, List.getElem?_eq_none (by rw [UG]; omega)]
theorem QF {s : Rm} (F : kY s) {c : Nat} (hc : s.bV.length ≤ c) : ∀ (l : List (Nat × Nat)) (n : Int), (∀ ch ∈ l, ch.1 < s.bR.length ∧ ch.2 < s.bE.length) → xS s (c : Int) n l = n
 | [], n, _ => rfl
 | ch :: l, n, hl => by
  obtain ⟨i1, i2⟩ := hl ch (.head _)
  have hf : s.bR[ch.1]? = some s.bR[ch.1] := List.getElem?_eq_getElem i1
  have hq : s.bE[ch.2]? = some s.bE[ch.2] := List.getElem?_eq_getElem i2
  have e1 := F.fs _ (List.getElem_mem i1)
  have e2 := F.ps _ (List.getElem_mem i2)
  have hfh : rZ s ch = eU s.bR[ch.1] := by unfold rZ; rw [hf]; rfl
  have hph : CG s ch = eU s.bE[ch.2] := by unfold CG; rw [hq]; rfl
  have : LP s (c : Int) ch = 0 := by
   unfold LP
   rw [if_neg (show ¬ (rZ s ch = (c : Int)) by omega), if_neg (show ¬ (CG s ch = (c : Int)) by omega)]
   split <;> omega
  show xS s (c : Int) (n + LP s (c : Int) ch) l = n
  rw [this, Int.add_zero]
  exact QF F hc l n fun d hd => hl d (.tail _ hd)
theorem aC7 {s : Rm} (F : kY s) {l : List (Nat × Nat)} (hl : M5 s l) : ∀ x ∈ (iQ s (W0 s) l).drop s.bV.length, x = 0 := by
 intro x hx
 have no := F.no
 obtain ⟨w1, w2⟩ := aFD F
 obtain ⟨b1, _⟩ := pG F hl
 obtain ⟨k, hk, rfl⟩ := List.getElem_of_mem hx
 rw [List.length_drop, b1] at hk
 rw [List.getElem_drop]
 have g := KD F l (W0 s) (c := s.bV.length + k) hl.2 (by omega)
 rw [List.getElem?_eq_getElem (by omega)] at g
 rw [Option.some.inj g, QF F (by omega) l _ hl.2]
 unfold W0
 rw [List.getElem_append_right (by omega), List.getElem_replicate]
end Go.Proofs.Ytdpicdnpiihaaaa.K.L
