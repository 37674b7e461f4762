/- Contracts of told functions: the reference's Hair. -/
import Derived.Test.YtdpicdnpiihaaaaLeS22
open Go Go.bK
set_option maxRecDepth 100000
set_option linter.unusedVariables false
namespace Go.Proofs.Ytdpicdnpiihaaaa.K.L
def LP (s : Rm) (c : Int) (ch : Nat × Nat) : Int := if hch s ch then (if rZ s ch = c then vC s ch else 0) - (if CG s ch = c then KC s ch else 0) else 0
def xS (s : Rm) (c : Int) : Int → List (Nat × Nat) → Int
 | n, [] => n
 | n, ch :: l => xS s c (n + LP s c ch) l
def IX (s : Rm) (l : List (Nat × Nat)) : Nat → List Int → List Int
 | _, [] => []
 | c, o :: os => xS s (c : Int) o l :: IX s l (c + 1) os
theorem WW : ∀ (pl : List Int) (i k : Nat) (x : Int), pl[k]? = some x → (tJ i pl)[k]? = some (x.toNat, i + k)
 | [], i, k, x, h => by simp at h
 | y :: l, i, 0, x, h => by simp at h; subst h; rfl
 | y :: l, i, k + 1, x, h => by
  show (tJ (i + 1) l)[k]? = _
  rw [WW l (i + 1) k x (by simpa using h), show i + 1 + k = i + (k + 1) by omega]
theorem aO0 (n : Nat) (v p x : Value) (c : Int) (h : Hp) : aI MI (n + 1) 1 (AL.v v (AL.v p (AL.v x (AL.i c AL.n)))) h = aE4 (aI MI n) v p x c h := rfl
theorem aO1 (n : Nat) (v p x : Value) (c a i : Int) (h : Hp) : aI MI (n + 1) 2 (AL.v v (AL.v p (AL.v x (AL.i c (AL.i a (AL.i i AL.n)))))) h = aE3 (aI MI n) v p x c a i h := rfl
theorem aXN (n : Nat) (v p x : Value) (c a i : Int) (q : Value) (h : Hp) : aI MI (n + 1) 3 (AL.v v (AL.v p (AL.v x (AL.i c (AL.i a (AL.i i (AL.v q AL.n))))))) h = aNQ (aI MI n) v p x c a i q h := rfl
theorem aXO (n : Nat) (v p x : Value) (c a i : Int) (h : Hp) : aI MI (n + 1) 4 (AL.v v (AL.v p (AL.v x (AL.i c (AL.i a (AL.i i AL.n)))))) h = aNP (aI MI n) v p x c a i h := rfl
theorem aXP (n : Nat) (v p x : Value) (c a : Int) (h : Hp) : aI MI (n + 1) 5 (AL.v v (AL.v p (AL.v x (AL.i c (AL.i a AL.n))))) h = aNO (aI MI n) v p x c a h := rfl
theorem aXQ (n : Nat) (v p x : Value) (c : Int) (h : Hp) : aI MI (n + 1) 6 (AL.v v (AL.v p (AL.v x (AL.i c AL.n)))) h = aNN (aI MI n) v p x c h := rfl
theorem aXR (n : Nat) (x : Value) (h : Hp) : aI MI (n + 1) 7 (AL.v x AL.n) h = some (x, h) := rfl
theorem UE {hb : Hp} {s : Rm} (F : kY s) {p v vc vo vf vp : Value} (A : zC hb s (fP vc vo vf vp)) (sf : jC hb 3 vf (s.bR.map Lk.row)) (sp : jC hb 3 vp (s.bE.map Lk.row)) (ar : At hb p (fP vc vo vf vp)) {pl : List Int} (sl : jC hb 1 v (pl.map bB)) (hx : ∀ x ∈ pl, 0 ≤ x ∧ x ≤ (s.bR.length : Int) - 1) (hl : pl.length = s.bE.length) (x : Value) {c : Nat} (hc : c < 4) :
  ∀ (m k n : Nat) (h : Hp) (acc : Int), aR hb h → k + m = pl.length → 3 * m + 1 ≤ n → -1000 - 100 * (k : Int) ≤ acc → acc ≤ 1000 + 100 * (k : Int) →
  ∃ n' h', aI MI n 2 (AL.v v (AL.v p (AL.v x (AL.i (c : Int) (AL.i acc (AL.i (k : Int) AL.n)))))) h = aI MI n' 5 (AL.v v (AL.v p (AL.v x (AL.i (c : Int) (AL.i (xS s (c : Int) acc ((tJ 0 pl).drop k)) AL.n))))) h' ∧ n ≤ n' + 3 * m + 1 ∧ aR h h'
 | 0, k, n', h, acc, g, hk, hn, h0, h1 => by
  obtain ⟨n, rfl⟩ : ∃ n, n' = n + 1 := ⟨n' - 1, by omega⟩
  rw [aO1]
  unfold aE3
  rw [(sl.sub g.sub).rows.len, List.length_map, aH, aN, aC, if_neg (by simp; omega), List.drop_of_length_le (by rw [zD]; omega)]
  exact ⟨n, h, rfl, by omega, aR.refl g.wf⟩
 | m + 1, k, n', h, acc, g, hk, hn, h0, h1 => by
  obtain ⟨n, rfl⟩ : ∃ n, n' = n + 3 := ⟨n' - 3, by omega⟩
  have np := F.np
  have hk' : k < pl.length := by omega
  have px := hx _ (List.getElem_mem hk')
  obtain ⟨i, ei⟩ : ∃ i : Nat, pl[k] = (i : Int) := ⟨(pl[k]).toNat, by omega⟩
  have hi : i < s.bR.length := by omega
  have hj : k < s.bE.length := by omega
  have hcg : (tJ 0 pl)[k]? = some (i, k) := by rw [WW pl 0 k pl[k] (List.getElem?_eq_getElem hk'), ei, Int.toNat_natCast, Nat.zero_add]
  have hkl : k < (tJ 0 pl).length := by rw [zD]; exact hk'
  have hce : (tJ 0 pl)[k] = (i, k) := by rw [List.getElem?_eq_getElem hkl] at hcg; exact Option.some.inj hcg
  have hf : s.bR[(i, k).1]? = some s.bR[i] := List.getElem?_eq_getElem hi
  have hq : s.bE[(i, k).2]? = some s.bE[k] := List.getElem?_eq_getElem hj
  obtain ⟨y, ey, ay, _⟩ := (sl.sub g.sub).rows.at (i := k) (r := bB pl[k]) (by rw [List.getElem?_map, List.getElem?_eq_getElem hk']; rfl)
  obtain ⟨xf, exf, axf, lxf⟩ := (sf.sub g.sub).rows.at (i := i) (r := (s.bR[i]).row) (by rw [List.getElem?_map, List.getElem?_eq_getElem hi]; rfl)
  obtain ⟨xp, exp, axp, lxp⟩ := (sp.sub g.sub).rows.at (i := k) (r := (s.bE[k]).row) (by rw [List.getElem?_map, List.getElem?_eq_getElem hj]; rfl)
  have p1 : At (Hp.mk h.next h.next h.aF) p (fP vc vo vf vp) := ar.sub g.sub
  have y1 : At (Hp.mk h.next h.next h.aF) y (bB pl[k]) := ay
  have f1 : At (Hp.mk h.next h.next h.aF) xf (s.bR[i]).row := axf
  have q1 : At (Hp.mk h.next h.next h.aF) xp (s.bE[k]).row := axp
  obtain ⟨_, _, _, _, _, _, _, _, _, aff, apf⟩ := A.sub g.sub
  have lf := aff _ (List.getElem_mem hi)
  have lq := apf _ (List.getElem_mem hj)
  obtain ⟨h2, g2, a1, a2, hk2⟩ := PY g.wf (l1 := (s.bR[i]).row) (l2 := (s.bE[k]).row) rfl rfl lf.one lq.one (fun w14 w16 b => (eY [] b || (eY [] b || (eY [] b || (eY [] b || (eY [] b || (eY [] b || (eY [] b || (eY [] b || (eY w14 b || (eY w16 b || false))))))))))) (fun x w => by
   have hh : eY [(h.next, x)] h.next = true := by unfold eY; simp
   simp only [hh, Bool.true_or, Bool.or_true])
  rw [aO1 (n + 2)]
  unfold aE3
  rw [(sl.sub g.sub).rows.len, List.length_map, aH, aN, aC, if_pos (by simp; omega), p1.pF 2 (x := vf) rfl, ey, y1.gL (x := .int .i64 pl[k]) rfl, aG, ei, exf, f1.dL (z := 3) rfl, p1.pF 3 (x := vp) rfl, exp, q1.dL (z := 3) rfl, show [(Value.string (ByteArray.mk #[])), (Value.slice none 0 0), (Value.int .i64 (Int.ofNat 0))] = lQ from rfl, hk2]
  have e1 := F.fs _ (List.getElem_mem hi)
  have e2 := F.ps _ (List.getElem_mem hj)
  have nc := F.nc
  have gb2 := g.trans g2
  obtain ⟨h3, v3, e3, g3, n3⟩ := PV (h := bY h2) (eF g2.wf) (lf.sub g2.sub) (lq.sub g2.sub) (by omega) (by omega)
  obtain ⟨h4, e4, g4, n4⟩ := xR g2.wf e3 g3 n3
  rw [← J8 (s := s) (c := (i, k)) hf hq] at n4
  obtain ⟨k1, _⟩ := PR F (c := (i, k)) hi hj
  rw [a1.dL (z := 3) rfl, a2.dL (z := 3) rfl, e4, aB, show (Int.ofNat 0) = ((0 : Nat) : Int) from rfl, ZW n4.rows ((0 : Nat) : Int) (by omega), aK, aB, aS, aP, aC, List.drop_eq_getElem_cons hkl, hce, show xS s (c : Int) acc ((i, k) :: (tJ 0 pl).drop (k + 1)) = xS s (c : Int) (acc + LP s (c : Int) (i, k)) ((tJ 0 pl).drop (k + 1)) from rfl]
  have gb4 := gb2.trans g4
  have gh4 := g2.trans g4
  have four : ∀ (nn : Nat) (a : Int), nn = n + 1 ∨ nn = n + 2 → -1000 - 100 * ((k + 1 : Nat) : Int) ≤ a → a ≤ 1000 + 100 * ((k + 1 : Nat) : Int) → ∃ n' h', aI MI nn 4 (AL.v v (AL.v p (AL.v x (AL.i (c : Int) (AL.i a (AL.i (k : Int) AL.n)))))) h4 = aI MI n' 5 (AL.v v (AL.v p (AL.v x (AL.i (c : Int) (AL.i (xS s (c : Int) a ((tJ 0 pl).drop (k + 1))) AL.n))))) h' ∧ n + 3 ≤ n' + 3 * (m + 1) + 1 ∧ aR h h' := by
   intro nn a hnn ha hb
   obtain ⟨n1, rfl⟩ : ∃ n1, nn = n1 + 1 := ⟨nn - 1, by omega⟩
   rw [aXO]
   unfold aNP
   rw [show Int.add (k : Int) (Int.ofNat 1) = ((k + 1 : Nat) : Int) from rfl, wrap64_in _ (by omega) (by omega)]
   obtain ⟨n2, h5, r1, r2, r3⟩ := UE F A sf sp ar sl hx hl x hc m (k + 1) n1 h4 a gb4 (by omega) (by omega) ha hb
   exact ⟨n2, h5, r1, by omega, gh4.trans r3⟩
  have hd : (MK s (i, k)).contains ((0 : Nat) : Int) = hch s (i, k) := rfl
  have hfo : vC s (i, k) = (s.bR[i]).iW := by unfold vC; rw [hf]; rfl
  have hpo : KC s (i, k) = (s.bE[k]).iW := by unfold KC; rw [hq]; rfl
  have hfh : rZ s (i, k) = eU s.bR[i] := by unfold rZ; rw [hf]; rfl
  have hph : CG s (i, k) = eU s.bE[k] := by unfold CG; rw [hq]; rfl
  rw [hd]
  unfold LP
  rw [hfo, hpo, hfh, hph]
  cases ch : hch s (i, k) with
  | false =>
   rw [if_pos (by rfl), if_neg (by simp), Int.add_zero]
   exact four (n + 2) acc (.inr rfl) (by omega) (by omega)
  | true =>
  rw [if_neg (by simp), if_pos rfl]
  have hhf := DX (g := s.bR[i]) (k := s.costs.length - 1) (by omega)
  have hhq := DX (g := s.bE[k]) (k := s.costs.length - 1) (by omega)
  obtain ⟨z1, ez1, az1, _⟩ := (lf.sub gh4.sub).rows.at (i := 0) (r := bB (eU s.bR[i])) (by rw [List.getElem?_map, hhf]; rfl)
  obtain ⟨z2, ez2, az2, _⟩ := (lq.sub gh4.sub).rows.at (i := 0) (r := bB (eU s.bE[k])) (by rw [List.getElem?_map, hhq]; rfl)
  have b1 := a1.sub g4.sub
  have b2 := a2.sub g4.sub
  have three : ∀ (a : Int), -1000 - 100 * (k : Int) ≤ a → a ≤ 1000 + 100 * (k : Int) + 50 → ∃ n' h', aI MI (n + 2) 3 (AL.v v (AL.v p (AL.v x (AL.i (c : Int) (AL.i a (AL.i (k : Int) (AL.v (.pointer (some ⟨h.next + 1, 0, none⟩)) AL.n))))))) h4 = aI MI n' 5 (AL.v v (AL.v p (AL.v x (AL.i (c : Int) (AL.i (xS s (c : Int) (a - (if eU s.bE[k] = (c : Int) then (s.bE[k]).iW else 0)) ((tJ 0 pl).drop (k + 1))) AL.n))))) h' ∧ n + 3 ≤ n' + 3 * (m + 1) + 1 ∧ aR h h' := by
   intro a ha hb
   rw [aXN (n + 1)]
   unfold aNQ
   rw [b2.pF 1 (x := (s.bE[k]).lv) rfl, show (Int.ofNat 0) = ((0 : Nat) : Int) from rfl, ez2, az2.gL (x := .int .i64 (eU s.bE[k])) rfl, aG, aH, aY, aC]
   by_cases d : eU s.bE[k] = (c : Int)
   ·rw [if_pos (by simpa using d), if_pos d, b2.pF 2 (x := .int .i64 (s.bE[k]).iW) rfl, aG, show Int.sub a (s.bE[k]).iW = a - (s.bE[k]).iW from rfl, wrap64_in _ (by omega) (by omega)]
    exact four (n + 1) _ (.inl rfl) (by omega) (by omega)
   ·rw [if_neg (by simpa using d), if_neg d, Int.sub_zero]
    exact four (n + 1) _ (.inl rfl) (by omega) (by omega)
  rw [b1.pF 1 (x := (s.bR[i]).lv) rfl, ez1, az1.gL (x := .int .i64 (eU s.bR[i])) rfl, aG, aH, aY, aC]
  by_cases d : eU s.bR[i] = (c : Int)
  ·rw [if_pos (by simpa using d), if_pos d, b1.pF 2 (x := .int .i64 (s.bR[i]).iW) rfl, aG, show Int.add acc (s.bR[i]).iW = acc + (s.bR[i]).iW from rfl, wrap64_in _ (by omega) (by omega), show acc + ((s.bR[i]).iW - if eU s.bE[k] = (c : Int) then (s.bE[k]).iW else 0) = acc + (s.bR[i]).iW - (if eU s.bE[k] = (c : Int) then (s.bE[k]).iW else 0) from by omega]
   exact three _ (by omega) (by omega)
  ·rw [if_neg (by simpa using d), if_neg d, show acc + ((0 : Int) - if eU s.bE[k] = (c : Int) then (s.bE[k]).iW else 0) = acc - (if eU s.bE[k] = (c : Int) then (s.bE[k]).iW else 0) from by omega]
   exact three _ (by omega) (by omega)
end Go.Proofs.Ytdpicdnpiihaaaa.K.L
