/- Contracts of told functions: the reference's Hair. -/
import Derived.Test.YtepepiajmdpiiaaPlS22
open Go Go.Eng
set_option maxRecDepth 100000
set_option linter.unusedVariables false
namespace Go.Proofs.Ytepepiajmdpiiaa.K.L
def JS (s : Rm) (c : Int) (ch : Nat × Nat) : Int := if hch s ch then (if qE s ch = c then sG s ch else 0) - (if zJ s ch = c then HY s ch else 0) else 0
def vN (s : Rm) (c : Int) : Int → List (Nat × Nat) → Int
 | n, [] => n
 | n, ch :: l => vN s c (n + JS s c ch) l
def FE (s : Rm) (l : List (Nat × Nat)) : Nat → List Int → List Int
 | _, [] => []
 | c, o :: os => vN s (c : Int) o l :: FE s l (c + 1) os
theorem UH : ∀ (pl : List Int) (i k : Nat) (x : Int), pl[k]? = some x → (qF i pl)[k]? = some (x.toNat, i + k)
 | [], i, k, x, h => by simp at h
 | y :: l, i, 0, x, h => by simp at h; subst h; rfl
 | y :: l, i, k + 1, x, h => by
  show (qF (i + 1) l)[k]? = _
  rw [UH l (i + 1) k x (by simpa using h), show i + 1 + k = i + (k + 1) by omega]
theorem aKF (n : Nat) (v p x : Value) (c : Int) (h : Hp) : aK KF (n + 1) 1 (AL.v v (AL.v p (AL.v x (AL.i c AL.n)))) h = XQ (aK KF n) v p x c h := rfl
theorem aKG (n : Nat) (v p x : Value) (c a i : Int) (h : Hp) : aK KF (n + 1) 2 (AL.v v (AL.v p (AL.v x (AL.i c (AL.i a (AL.i i AL.n)))))) h = XR (aK KF n) v p x c a i h := rfl
theorem aTM (n : Nat) (v p x : Value) (c a i : Int) (q : Value) (h : Hp) : aK KF (n + 1) 3 (AL.v v (AL.v p (AL.v x (AL.i c (AL.i a (AL.i i (AL.v q AL.n))))))) h = aDQ (aK KF n) v p x c a i q h := rfl
theorem aTN (n : Nat) (v p x : Value) (c a i : Int) (h : Hp) : aK KF (n + 1) 4 (AL.v v (AL.v p (AL.v x (AL.i c (AL.i a (AL.i i AL.n)))))) h = aDR (aK KF n) v p x c a i h := rfl
theorem aTO (n : Nat) (v p x : Value) (c a : Int) (h : Hp) : aK KF (n + 1) 5 (AL.v v (AL.v p (AL.v x (AL.i c (AL.i a AL.n))))) h = aDS (aK KF n) v p x c a h := rfl
theorem aTP (n : Nat) (v p x : Value) (c : Int) (h : Hp) : aK KF (n + 1) 6 (AL.v v (AL.v p (AL.v x (AL.i c AL.n)))) h = aDT (aK KF n) v p x c h := rfl
theorem aTQ (n : Nat) (x : Value) (h : Hp) : aK KF (n + 1) 7 (AL.v x AL.n) h = some (x, h) := rfl
theorem QV {hb : Hp} {s : Rm} (F : oU s) {p v vc vo vf vp : Value} (A : xN hb s (fV vc vo vf vp)) (sf : jE hb 3 vf (s.dA.map Lk.row)) (sp : jE hb 3 vp (s.cB.map Lk.row)) (ar : At hb p (fV vc vo vf vp)) {pl : List Int} (sl : jE hb 1 v (pl.map bF)) (hx : ∀ x ∈ pl, 0 ≤ x ∧ x ≤ (s.dA.length : Int) - 1) (hl : pl.length = s.cB.length) (x : Value) {c : Nat} (hc : c < 4) :
  ∀ (m k n : Nat) (h : Hp) (acc : Int), bA hb h → k + m = pl.length → 3 * m + 1 ≤ n → -1000 - 100 * (k : Int) ≤ acc → acc ≤ 1000 + 100 * (k : Int) →
  ∃ n' h', aK KF n 2 (AL.v v (AL.v p (AL.v x (AL.i (c : Int) (AL.i acc (AL.i (k : Int) AL.n)))))) h = aK KF n' 5 (AL.v v (AL.v p (AL.v x (AL.i (c : Int) (AL.i (vN s (c : Int) acc ((qF 0 pl).drop k)) AL.n))))) h' ∧ n ≤ n' + 3 * m + 1 ∧ bA h h'
 | 0, k, n', h, acc, g, hk, hn, h0, h1 => by
  obtain ⟨n, rfl⟩ : ∃ n, n' = n + 1 := ⟨n' - 1, by omega⟩
  rw [aKG]
  unfold XR
  rw [(sl.sub g.sub).rows.len, List.length_map, aM, aU, aH, if_neg (by simp; omega), List.drop_of_length_le (by rw [xB]; omega)]
  exact ⟨n, h, rfl, by omega, bA.refl g.wf⟩
 | m + 1, k, n', h, acc, g, hk, hn, h0, h1 => by
  obtain ⟨n, rfl⟩ : ∃ n, n' = n + 3 := ⟨n' - 3, by omega⟩
  have np := F.np
  have hk' : k < pl.length := by omega
  have px := hx _ (List.getElem_mem hk')
  obtain ⟨i, ei⟩ : ∃ i : Nat, pl[k] = (i : Int) := ⟨(pl[k]).toNat, by omega⟩
  have hi : i < s.dA.length := by omega
  have hj : k < s.cB.length := by omega
  have hcg : (qF 0 pl)[k]? = some (i, k) := by rw [UH pl 0 k pl[k] (List.getElem?_eq_getElem hk'), ei, Int.toNat_natCast, Nat.zero_add]
  have hkl : k < (qF 0 pl).length := by rw [xB]; exact hk'
  have hce : (qF 0 pl)[k] = (i, k) := by rw [List.getElem?_eq_getElem hkl] at hcg; exact Option.some.inj hcg
  have hf : s.dA[(i, k).1]? = some s.dA[i] := List.getElem?_eq_getElem hi
  have hq : s.cB[(i, k).2]? = some s.cB[k] := List.getElem?_eq_getElem hj
  obtain ⟨y, ey, ay, _⟩ := (sl.sub g.sub).rows.at (i := k) (r := bF pl[k]) (by rw [List.getElem?_map, List.getElem?_eq_getElem hk']; rfl)
  obtain ⟨xf, exf, axf, lxf⟩ := (sf.sub g.sub).rows.at (i := i) (r := (s.dA[i]).row) (by rw [List.getElem?_map, List.getElem?_eq_getElem hi]; rfl)
  obtain ⟨xp, exp, axp, lxp⟩ := (sp.sub g.sub).rows.at (i := k) (r := (s.cB[k]).row) (by rw [List.getElem?_map, List.getElem?_eq_getElem hj]; rfl)
  have p1 : At (Hp.mk h.next h.next h.aI) p (fV vc vo vf vp) := ar.sub g.sub
  have y1 : At (Hp.mk h.next h.next h.aI) y (bF pl[k]) := ay
  have f1 : At (Hp.mk h.next h.next h.aI) xf (s.dA[i]).row := axf
  have q1 : At (Hp.mk h.next h.next h.aI) xp (s.cB[k]).row := axp
  obtain ⟨_, _, _, _, _, _, _, _, _, aff, apf⟩ := A.sub g.sub
  have lf := aff _ (List.getElem_mem hi)
  have lq := apf _ (List.getElem_mem hj)
  obtain ⟨h2, g2, a1, a2, hk2⟩ := NQ g.wf (l1 := (s.dA[i]).row) (l2 := (s.cB[k]).row) rfl rfl lf.one lq.one (fun w14 w16 b => (dN [] b || (dN [] b || (dN [] b || (dN [] b || (dN [] b || (dN [] b || (dN [] b || (dN [] b || (dN w14 b || (dN w16 b || false))))))))))) (fun x w => by
   have hh : dN [(h.next, x)] h.next = true := by unfold dN; simp
   simp only [hh, Bool.true_or, Bool.or_true])
  rw [aKG (n + 2)]
  unfold XR
  rw [(sl.sub g.sub).rows.len, List.length_map, aM, aU, aH, if_pos (by simp; omega), p1.qB 2 (x := vf) rfl, ey, y1.gT (x := .int .i64 pl[k]) rfl, aJ, ei, exf, f1.dX (z := 3) rfl, p1.qB 3 (x := vp) rfl, exp, q1.dX (z := 3) rfl, show [(Value.string (ByteArray.mk #[])), (Value.slice none 0 0), (Value.int .i64 (Int.ofNat 0))] = kU from rfl, hk2]
  have e1 := F.fs _ (List.getElem_mem hi)
  have e2 := F.ps _ (List.getElem_mem hj)
  have nc := F.nc
  have gb2 := g.trans g2
  obtain ⟨h3, v3, e3, g3, n3⟩ := NJ (h := fH h2) (fT g2.wf) (lf.sub g2.sub) (lq.sub g2.sub) (by omega) (by omega)
  obtain ⟨h4, e4, g4, n4⟩ := sF g2.wf e3 g3 n3
  rw [← G8 (s := s) (c := (i, k)) hf hq] at n4
  obtain ⟨k1, _⟩ := NG F (c := (i, k)) hi hj
  rw [a1.dX (z := 3) rfl, a2.dX (z := 3) rfl, e4, aG, show (Int.ofNat 0) = ((0 : Nat) : Int) from rfl, XP n4.rows ((0 : Nat) : Int) (by omega), aO, aG, bK, aT, aH, List.drop_eq_getElem_cons hkl, hce, show vN s (c : Int) acc ((i, k) :: (qF 0 pl).drop (k + 1)) = vN s (c : Int) (acc + JS s (c : Int) (i, k)) ((qF 0 pl).drop (k + 1)) from rfl]
  have gb4 := gb2.trans g4
  have gh4 := g2.trans g4
  have four : ∀ (nn : Nat) (a : Int), nn = n + 1 ∨ nn = n + 2 → -1000 - 100 * ((k + 1 : Nat) : Int) ≤ a → a ≤ 1000 + 100 * ((k + 1 : Nat) : Int) → ∃ n' h', aK KF nn 4 (AL.v v (AL.v p (AL.v x (AL.i (c : Int) (AL.i a (AL.i (k : Int) AL.n)))))) h4 = aK KF n' 5 (AL.v v (AL.v p (AL.v x (AL.i (c : Int) (AL.i (vN s (c : Int) a ((qF 0 pl).drop (k + 1))) AL.n))))) h' ∧ n + 3 ≤ n' + 3 * (m + 1) + 1 ∧ bA h h' := by
   intro nn a hnn ha hb
   obtain ⟨n1, rfl⟩ : ∃ n1, nn = n1 + 1 := ⟨nn - 1, by omega⟩
   rw [aTN]
   unfold aDR
   rw [show Int.add (k : Int) (Int.ofNat 1) = ((k + 1 : Nat) : Int) from rfl, wrap64_in _ (by omega) (by omega)]
   obtain ⟨n2, h5, r1, r2, r3⟩ := QV F A sf sp ar sl hx hl x hc m (k + 1) n1 h4 a gb4 (by omega) (by omega) ha hb
   exact ⟨n2, h5, r1, by omega, gh4.trans r3⟩
  have hd : (KA s (i, k)).contains ((0 : Nat) : Int) = hch s (i, k) := rfl
  have hfo : sG s (i, k) = (s.dA[i]).iM := by unfold sG; rw [hf]; rfl
  have hpo : HY s (i, k) = (s.cB[k]).iM := by unfold HY; rw [hq]; rfl
  have hfh : qE s (i, k) = eD s.dA[i] := by unfold qE; rw [hf]; rfl
  have hph : zJ s (i, k) = eD s.cB[k] := by unfold zJ; rw [hq]; rfl
  rw [hd]
  unfold JS
  rw [hfo, hpo, hfh, hph]
  cases ch : hch s (i, k) with
  | false =>
   rw [if_pos (by rfl), if_neg (by simp), Int.add_zero]
   exact four (n + 2) acc (.inr rfl) (by omega) (by omega)
  | true =>
  rw [if_neg (by simp), if_pos rfl]
  have hhf := AX (g := s.dA[i]) (k := s.costs.length - 1) (by omega)
  have hhq := AX (g := s.cB[k]) (k := s.costs.length - 1) (by omega)
  obtain ⟨z1, ez1, az1, _⟩ := (lf.sub gh4.sub).rows.at (i := 0) (r := bF (eD s.dA[i])) (by rw [List.getElem?_map, hhf]; rfl)
  obtain ⟨z2, ez2, az2, _⟩ := (lq.sub gh4.sub).rows.at (i := 0) (r := bF (eD s.cB[k])) (by rw [List.getElem?_map, hhq]; rfl)
  have b1 := a1.sub g4.sub
  have b2 := a2.sub g4.sub
  have three : ∀ (a : Int), -1000 - 100 * (k : Int) ≤ a → a ≤ 1000 + 100 * (k : Int) + 50 → ∃ n' h', aK KF (n + 2) 3 (AL.v v (AL.v p (AL.v x (AL.i (c : Int) (AL.i a (AL.i (k : Int) (AL.v (.pointer (some ⟨h.next + 1, 0, none⟩)) AL.n))))))) h4 = aK KF n' 5 (AL.v v (AL.v p (AL.v x (AL.i (c : Int) (AL.i (vN s (c : Int) (a - (if eD s.cB[k] = (c : Int) then (s.cB[k]).iM else 0)) ((qF 0 pl).drop (k + 1))) AL.n))))) h' ∧ n + 3 ≤ n' + 3 * (m + 1) + 1 ∧ bA h h' := by
   intro a ha hb
   rw [aTM (n + 1)]
   unfold aDQ
   rw [b2.qB 1 (x := (s.cB[k]).lv) rfl, show (Int.ofNat 0) = ((0 : Nat) : Int) from rfl, ez2, az2.gT (x := .int .i64 (eD s.cB[k])) rfl, aJ, aM, bR, aH]
   by_cases d : eD s.cB[k] = (c : Int)
   ·rw [if_pos (by simpa using d), if_pos d, b2.qB 2 (x := .int .i64 (s.cB[k]).iM) rfl, aJ, show Int.sub a (s.cB[k]).iM = a - (s.cB[k]).iM from rfl, wrap64_in _ (by omega) (by omega)]
    exact four (n + 1) _ (.inl rfl) (by omega) (by omega)
   ·rw [if_neg (by simpa using d), if_neg d, Int.sub_zero]
    exact four (n + 1) _ (.inl rfl) (by omega) (by omega)
  rw [b1.qB 1 (x := (s.dA[i]).lv) rfl, ez1, az1.gT (x := .int .i64 (eD s.dA[i])) rfl, aJ, aM, bR, aH]
  by_cases d : eD s.dA[i] = (c : Int)
  ·rw [if_pos (by simpa using d), if_pos d, b1.qB 2 (x := .int .i64 (s.dA[i]).iM) rfl, aJ, show Int.add acc (s.dA[i]).iM = acc + (s.dA[i]).iM from rfl, wrap64_in _ (by omega) (by omega), show acc + ((s.dA[i]).iM - if eD s.cB[k] = (c : Int) then (s.cB[k]).iM else 0) = acc + (s.dA[i]).iM - (if eD s.cB[k] = (c : Int) then (s.cB[k]).iM else 0) from by omega]
   exact three _ (by omega) (by omega)
  ·rw [if_neg (by simpa using d), if_neg d, show acc + ((0 : Int) - if eD s.cB[k] = (c : Int) then (s.cB[k]).iM else 0) = acc - (if eD s.cB[k] = (c : Int) then (s.cB[k]).iM else 0) from by omega]
   exact three _ (by omega) (by omega)
end Go.Proofs.Ytepepiajmdpiiaa.K.L
