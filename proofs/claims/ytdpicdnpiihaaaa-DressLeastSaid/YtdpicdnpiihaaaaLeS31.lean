/- Contracts of told functions: everybody, sets.List, Compare, Or, figures, Less. -/
import Derived.Test.YtdpicdnpiihaaaaLeS29
open Go Go.bK
set_option maxRecDepth 100000
set_option linter.unusedVariables false
namespace Go.Proofs.Ytdpicdnpiihaaaa.K.L
def nD (n : Nat) : Int := (2 ^ n : Nat) - 1
theorem LQ {P : Nat → Prop} (h0 : P 0) (h1 : P 1) (h2 : P 2) (h3 : P 3) (h4 : P 4) (h5 : P 5) : ∀ n, n ≤ 5 → P n
 | 0, _ => h0
 | 1, _ => h1
 | 2, _ => h2
 | 3, _ => h3
 | 4, _ => h4
 | 5, _ => h5
 | n + 6, h => by omega
theorem a6F (n : Nat) (hn : n ≤ 5) : l8 env .shl 3 (.int .i64 (Int.ofNat 1)) (.int .i64 (n : Int)) = some (.int .i64 (nD n + 1)) :=
 LQ (P := fun n => l8 env .shl 3 (.int .i64 (Int.ofNat 1)) (.int .i64 (n : Int)) = some (.int .i64 (nD n + 1))) (by kernel_rfl) (by kernel_rfl) (by kernel_rfl) (by kernel_rfl) (by kernel_rfl) (by kernel_rfl) n hn
theorem aFG (n : Nat) (hn : n ≤ 5) : 0 ≤ nD n ∧ nD n ≤ 31 := LQ (P := fun n => 0 ≤ nD n ∧ nD n ≤ 31) (by decide) (by decide) (by decide) (by decide) (by decide) (by decide) n hn
theorem QL {h : Hp} {s : Rm} (F : kY s) {lo : Nat} {lk : List Value} (V : IQ lo h s lk) : F65 [.agg (Array.mk lk)] h = some (.int .i64 (nD s.bE.length)) := by
 obtain ⟨r, mb, hb, rfl, A, M, _⟩ := V
 obtain ⟨vc, vo, vf, vp, rfl, sc, so, sf, sp, _⟩ := A
 show plainO (aLU h (G.aI (T65 h) 999999) (.agg (Array.mk (fP vc vo vf vp ++ [.map (some mb)])))) = _
 unfold aLU
 rw [dN, j5]
 have hb5 := aFG _ F.np
 rw [oD _ _ 3 vp rfl, sp.rows.len, List.length_map]
 have e : VF (l8 env .shl 3 (.int .i64 (Int.ofNat 1)) (.int .i64 (s.bE.length : Int))) (.int .i64 (Int.ofNat 1)) (.int .i64 (s.bE.length : Int)) = some (.int .i64 (nD s.bE.length + 1)) := by
  rw [a6F _ F.np]
  have := F.np
  exact LQ (P := fun n => VF (some (.int .i64 (nD n + 1))) (.int .i64 (Int.ofNat 1)) (.int .i64 (n : Int)) = some (.int .i64 (nD n + 1))) (by kernel_rfl) (by kernel_rfl) (by kernel_rfl) (by kernel_rfl) (by kernel_rfl) (by kernel_rfl) _ this
 rw [e, CL, show Int.sub (nD s.bE.length + 1) (Int.ofNat 1) = nD s.bE.length from by show nD s.bE.length + 1 - 1 = _; omega, wrap64_in _ (by omega) (by omega)]
 rfl
theorem a6G (h : Hp) (n : Nat) (hn : n ≤ 5) : F97 [.int .u64 (nD n)] h = some (.int .i64 (n : Int)) :=
 LQ (P := fun n => F97 [.int .u64 (nD n)] h = some (.int .i64 (n : Int))) (by kernel_rfl) (by kernel_rfl) (by kernel_rfl) (by kernel_rfl) (by kernel_rfl) (by kernel_rfl) n hn
theorem a6H (h : Hp) (n k : Nat) (hn : n ≤ 5) (hk : k < n) : F98 [.int .i64 (nD n), .int .i64 (k : Int)] h = some (.bool true) := by
 have A : ∀ n, n ≤ 5 → ∀ k, k ≤ 5 → k < n → F98 [.int .i64 (nD n), .int .i64 (k : Int)] h = some (.bool true) := by
  refine LQ ?_ ?_ ?_ ?_ ?_ ?_ <;> (refine LQ ?_ ?_ ?_ ?_ ?_ ?_ <;> (intro hlt; first | (exact absurd hlt (by decide)) | kernel_rfl))
 exact A n hn k (by omega) hk
def sG (n : Nat) : List Int := (List.range n).map Int.ofNat
theorem Z8 (n : Nat) : sG (n + 1) = sG n ++ [(n : Int)] := by unfold sG; rw [List.range_succ, List.map_append]; rfl
theorem QM (n : Nat) : (sG n).length = n := by unfold sG; simp
theorem aPA (n : Nat) (a : Int) (v : Value) (l i : Int) (h : Hp) : aI T69 (n + 1) 1 (AL.i a (AL.v v (AL.i l (AL.i i AL.n)))) h = aEM (aI T69 n) a v l i h := rfl
theorem LU {hb : Hp} (w : Wf hb) {p : Nat} (hp : p ≤ 5) : ∀ (m i n : Nat) (h : Hp) (v : Value), aR hb h → oL hb h v (sG i) → i + m = p → m + 3 ≤ n →
  ∃ h' v', aI T69 n 1 (AL.i (nD p) (AL.v v (AL.i (p : Int) (AL.i (i : Int) AL.n)))) h = some (v', h') ∧ aR hb h' ∧ oL hb h' v' (sG p)
 | 0, i, n', h, v, g, nm, him, hn => by
  obtain ⟨n, rfl⟩ : ∃ n, n' = n + 2 := ⟨n' - 2, by omega⟩
  rw [aPA]
  unfold aEM
  rw [aH, aN, aC, if_neg (by simp; omega)]
  obtain rfl : i = p := by omega
  exact ⟨h, v, rfl, g, nm⟩
 | m + 1, i, n', h, v, g, nm, him, hn => by
  obtain ⟨n, rfl⟩ : ∃ n, n' = n + 1 := ⟨n' - 1, by omega⟩
  rw [aPA]
  unfold aEM
  rw [aH, aN, aC, if_pos (by simp; omega), a6H h p i hp (by omega), aK, aB, aS, aC, if_pos rfl, MJ, aB]
  obtain ⟨v2, h2, e2, g2, nm2⟩ := qX w g nm (by rw [QM]; omega) (i : Int)
  rw [e2, aB, show Int.add (i : Int) (Int.ofNat 1) = ((i + 1 : Nat) : Int) from rfl, wrap64_in _ (by omega) (by omega)]
  rw [← Z8] at nm2
  exact LU w hp m (i + 1) n h2 v2 g2 nm2 (by omega) (by omega)
theorem aHE {h : Hp} (w : Wf h) {p : Nat} (hp : p ≤ 5) : ∃ h' v', F69 [.int .i64 (nD p)] h = some (v', h') ∧ aR h h' ∧ oL h h' v' (sG p) := by
 have start : F69 [.int .i64 (nD p)] h = aL3 (aI T69 999999) (nD p) h := rfl
 rw [start]
 unfold aL3
 have hb5 := aFG _ hp
 have e : vU .u64 (nD p) = nD p := LQ (P := fun n => vU .u64 (nD n) = nD n) (by kernel_rfl) (by kernel_rfl) (by kernel_rfl) (by kernel_rfl) (by kernel_rfl) (by kernel_rfl) p hp
 rw [e, nK, a6G h p hp, aK, aB, aG]
 exact LU w hp p 0 999999 h (.slice none 0 0) (aR.refl w) (.inl ⟨rfl, rfl⟩) (by omega) (by omega)
def aDC (a b : Int) : Int := if a < b then -1 else if b < a then 1 else 0
theorem UK (h : Hp) (a b : Int) : aGU [.int .i64 a, .int .i64 b] h = some (.int .i64 (aDC a b)) := by
 have nan : ∀ x : Int, aGT [.int .i64 x] h = some (.bool false) := fun x => by
  show plainO (bS (mY x x) fun b0 => some (.bool b0)) = _
  rw [aP, aY]; simp; rfl
 show plainO (aCN h (G.aI (aLE h) 999999) a b) = _
 unfold aCN
 rw [nan a, aK, aS, nan b, aK, aS, aC, if_neg (by simp), aC, if_neg (by simp), aH, aN, aC]
 unfold aDC
 by_cases c : a < b
 ·rw [if_pos (by simpa using c), if_pos c]; rfl
 ·rw [if_neg (by simpa using c), if_neg c, aH, aN, aC]
  by_cases c2 : b < a
  ·rw [if_pos (by simpa using c2), if_pos c2]; rfl
  ·rw [if_neg (by simpa using c2), if_neg c2]; rfl
end Go.Proofs.Ytdpicdnpiihaaaa.K.L
open Go Go.bK
set_option maxRecDepth 100000
set_option linter.unusedVariables false
namespace Go.Proofs.Ytdpicdnpiihaaaa.K.L
theorem aFH (n : Nat) (a i : Int) (v : Value) (h : Hp) : aI PL (n + 1) 1 (AL.i a (AL.v v (AL.i i AL.n))) h = WJ (aI PL n) a v i h := rfl
theorem aFI (h : Hp) (n : Nat) (v : Value) (i : Nat) (hi : i < 4) {x : Int} (hx : jW env 87 v (.int .i64 (Int.ofNat i)) = some (.int .i64 x)) (hb : 0 ≤ x ∧ x ≤ 5000) {a : Int} (ha : 0 ≤ a ∧ a ≤ 100000) :
  aI PL (n + 1) 1 (AL.i a (AL.v v (AL.i (Int.ofNat i) AL.n))) h = aI PL n 1 (AL.i (a + x) (AL.v v (AL.i (Int.ofNat (i + 1)) AL.n))) h := by
 rw [aFH]
 unfold WJ
 rw [aH, aN, aC, if_pos (by simp; omega), hx, aK, aG, show Int.add a x = a + x from rfl, wrap64_in _ (by omega) (by omega), show Int.add (Int.ofNat i) (Int.ofNat 1) = Int.ofNat (i + 1) from rfl, wrap64_in _ (by simp; omega) (by simp; omega)]
theorem aXZ (h : Hp) (n : Nat) (v : Value) (a : Int) : aI PL (n + 2) 1 (AL.i a (AL.v v (AL.i (Int.ofNat 4) AL.n))) h = some (.int .i64 a, h) := by
 rw [aFH]
 unfold WJ
 rw [aH, aN, aC, if_neg (by simp)]
 rfl
def pX (s : Rm) (l : List (Nat × Nat)) : Int := EC (iQ s (W0 s) l)
theorem LV {h : Hp} (w : Wf h) {s : Rm} (F : kY s) {lo : Nat} {lk : List Value} (V : IQ lo h s lk) {u : Value} {l : List (Nat × Nat)} (sl : jC h 2 u (l.map gI)) (hl : M5 s l) : ∃ h', aCM [.agg (Array.mk lk), u] h = some (.int .i64 (pX s l), h') := by
 have start : aCM [.agg (Array.mk lk), u] h = aCL (aI PL 999999) (.agg (Array.mk lk)) u h := rfl
 rw [start]
 unfold aCL
 rw [dN, aX]
 have g0 : aR h (h.add (.cells lk 71 none)) := aR.add w _
 have a0 : At (h.add (.cells lk 71 none)) (.pointer (some ⟨h.next, 0, none⟩)) lk := At.new
 generalize h.add (.cells lk 71 none) = h0 at g0 a0 ⊢
 obtain ⟨h1, e1, g1⟩ := UC (h := bY h0) (eF g0.wf) F (V.sub g0.sub) (sl.sub g0.sub) hl
 obtain ⟨b1, b2⟩ := pG F hl
 have pl : kT (.agg (Array.mk ((iQ s (W0 s) l).map (Value.int .i64)))) = true := by
  rw [pK]
  show ((iQ s (W0 s) l).map (Value.int .i64)).all (eX 5) = true
  rw [List.all_map, List.all_eq_true]
  intro x _
  rfl
 rw [a0.dL (z := 5) V.len, aZ e1 pl, aB, UD _ b1 (fun x hx => by have := b2 x hx; omega), aK, aB]
 unfold pX
 generalize iQ s (W0 s) l = W at b1 b2 ⊢
 obtain ⟨a, b, c, d, rfl⟩ : ∃ a b c d, W = [a, b, c, d] := by
  match W, b1 with
  | [a, b, c, d], _ => exact ⟨a, b, c, d, rfl⟩
 have nn : ∀ x ∈ [a, b, c, d], 0 ≤ gG x ∧ gG x ≤ 5000 := fun x hx => by have := b2 x hx; unfold gG; omega
 have na := nn a (by simp); have nb := nn b (by simp); have nc := nn c (by simp); have nd := nn d (by simp)
 obtain ⟨i0, i1, i2, i3⟩ := ixW (gG a) (gG b) (gG c) (gG d)
 show ∃ h', aI PL 999999 1 (AL.i (Int.ofNat 0) (AL.v (.agg (Array.mk [.int .i64 (gG a), .int .i64 (gG b), .int .i64 (gG c), .int .i64 (gG d)])) (AL.i (Int.ofNat 0) AL.n))) h0 = some (.int .i64 (EC [a, b, c, d]), h')
 rw [aFI h0 999998 _ 0 (by omega) i0 na (a := Int.ofNat 0) (by simp), aFI h0 999997 _ 1 (by omega) i1 nb (by simp; omega), aFI h0 999996 _ 2 (by omega) i2 nc (by simp; omega), aFI h0 999995 _ 3 (by omega) i3 nd (by simp; omega), aXZ]
 refine ⟨h0, ?_⟩
 simp only [EC]
 have : Int.ofNat 0 + gG a + gG b + gG c + gG d = gG a + (gG b + (gG c + (gG d + 0))) := by
  show 0 + gG a + gG b + gG c + gG d = _
  omega
 rw [this]
def orZ (a b : Int) : Int := if a ≠ 0 then a else b
theorem aPB (h : Hp) {v : Value} (a b : Int) (r : bK.Rows h 1 v ([a, b].map bB)) : aLG [v] h = some (.int .i64 (orZ a b)) := by
 have st : ∀ (n : Nat) (z : Int) (v : Value) (k i : Int), G.aI (ZK h) (n + 1) 1 (aD.i z (aD.v v (aD.i k (aD.i i aD.n)))) = PM h (G.aI (ZK h) n) z v k i := fun _ _ _ _ _ => rfl
 have st2 : ∀ (n : Nat) (z : Int), G.aI (ZK h) (n + 1) 2 (aD.i z aD.n) = some (.int .i64 z) := fun _ _ => rfl
 show plainO (aCO h (G.aI (ZK h) 999999) v) = _
 unfold aCO
 obtain ⟨p, hp, ap, _⟩ := r.at (i := 0) (r := bB a) rfl
 obtain ⟨q, hq, aq, _⟩ := r.at (i := 1) (r := bB b) rfl
 rw [r.len, show ((([a, b].map bB).length : Nat) : Int) = 2 from rfl, st]
 unfold PM
 rw [aH, aN, aC, if_pos (by decide), show (Int.ofNat 0) = ((0 : Nat) : Int) from rfl, hp, ap.gL (x := .int .i64 a) rfl, aG, aP, aY, aC]
 unfold orZ
 by_cases c : a = 0
 ·rw [if_neg (by simp [c]), if_neg (by simp [c]), show Int.add ((0 : Nat) : Int) (Int.ofNat 1) = ((1 : Nat) : Int) from rfl, wrap64_in _ (by decide) (by decide), st]
  unfold PM
  rw [aH, aN, aC, if_pos (by decide), hq, aq.gL (x := .int .i64 b) rfl, aG, aP, aY, aC]
  by_cases c2 : b = 0
  ·rw [if_neg (by simp [c2]), show Int.add ((1 : Nat) : Int) (Int.ofNat 1) = ((2 : Nat) : Int) from rfl, wrap64_in _ (by decide) (by decide), st]
   unfold PM
   rw [aH, aN, aC, if_neg (by decide), st2, c2]
   rfl
  ·rw [if_pos (by simpa using c2)]; rfl
 ·rw [if_pos (by simpa using c), if_pos c]; rfl
def WY (s : Rm) (a b : List (Nat × Nat)) : Int := orZ (aDC (pX s a) (pX s b)) (aDC (jY s a) (jY s b))
def vD (lk : List Value) : Value := .agg (Array.mk [.func (.func 102) (List.toArray [.agg (Array.mk lk)]) (List.toArray []), .func (.func 54) (List.toArray [.agg (Array.mk lk)]) (List.toArray [])])
theorem call102 (lk : List Value) (u : Value) (h : Hp) : qQ IL (.func (.func 102) (List.toArray [.agg (Array.mk lk)]) (List.toArray [])) [u] h = dJ aCM [.agg (Array.mk lk), u] h := rfl
theorem call54 (lk : List Value) (u : Value) (h : Hp) : qQ IL (.func (.func 54) (List.toArray [.agg (Array.mk lk)]) (List.toArray [])) [u] h = bT (F54 [.agg (Array.mk lk), u] h) (fun v => some (v, h)) := rfl
theorem RI {h : Hp} (w : Wf h) {s : Rm} (F : kY s) {lo : Nat} {lk : List Value} (V : IQ lo h s lk) {u v : Value} {a b : List (Nat × Nat)} (sa : jC h 2 u (a.map gI)) (ha : M5 s a) (sb : jC h 2 v (b.map gI)) (hb : M5 s b) :
  ∃ h', aGV [vD lk, u, v] h = some (.int .i64 (WY s a b), h') ∧ aR h h' := by
 have start : aGV [vD lk, u, v] h = aCP (aI aLH 999999) (vD lk) u v h := rfl
 rw [start]
 unfold aCP vD
 rw [dN, aX]
 generalize hc : ([.func (.func 102) (List.toArray [.agg (Array.mk lk)]) (List.toArray []), .func (.func 54) (List.toArray [.agg (Array.mk lk)]) (List.toArray [])] : List Value) = cs
 have g0 : aR h (h.add (.cells cs 135 none)) := aR.add w _
 have a0 : At (h.add (.cells cs 135 none)) (.pointer (some ⟨h.next, 0, none⟩)) cs := At.new
 generalize h.add (.cells cs 135 none) = h0 at g0 a0 ⊢
 subst hc
 have az : At (bY h0) (.pointer (some ⟨h.next, 0, none⟩)) [.func (.func 102) (List.toArray [.agg (Array.mk lk)]) (List.toArray []), .func (.func 54) (List.toArray [.agg (Array.mk lk)]) (List.toArray [])] := a0
 have ws := eF g0.wf
 have Vs : IQ lo (bY h0) s lk := V.sub g0.sub
 have sas : jC (bY h0) 2 u (a.map gI) := sa.sub g0.sub
 have sbs : jC (bY h0) 2 v (b.map gI) := sb.sub g0.sub
 obtain ⟨h1, e1⟩ := LV ws F Vs sas ha
 obtain ⟨h2, e2⟩ := LV ws F Vs sbs hb
 have c1 : dJ aCM [.agg (Array.mk lk), u] (bY h0) = some (.int .i64 (pX s a), bY h0) := aZ e1 rfl
 have c2 : dJ aCM [.agg (Array.mk lk), v] (bY h0) = some (.int .i64 (pX s b), bY h0) := aZ e2 rfl
 rw [show (Hp.mk (Hp.next h0) (Hp.next h0) (Hp.aF h0)) = bY h0 from rfl, az.pF 0 (x := .func (.func 102) (List.toArray [.agg (Array.mk lk)]) (List.toArray [])) rfl, call102, c1, aB, aG,
  az.pF 0 (x := .func (.func 102) (List.toArray [.agg (Array.mk lk)]) (List.toArray [])) rfl, call102, c2, aB, aG, UK, aK, aB, aG,
  az.pF 1 (x := .func (.func 54) (List.toArray [.agg (Array.mk lk)]) (List.toArray [])) rfl, call54, zB F Vs sas.rows ha, aK, aB, aG,
  az.pF 1 (x := .func (.func 54) (List.toArray [.agg (Array.mk lk)]) (List.toArray [])) rfl, call54, show (Hp.mk (Hp.next h0) (Hp.ro h0) (Hp.aF h0)) = h0 from rfl, zB F (V.sub g0.sub) (sb.sub g0.sub).rows hb, aK, aB, aG, UK, aK, aB, aG, bHD, aB]
 have g1 : aR h0 (h0.add (.cells [.int .i64 (aDC (pX s a) (pX s b)), .int .i64 (aDC (jY s a) (jY s b))] 3 none)) := aR.add g0.wf _
 have two : ∀ x y : Int, bK.Rows (h0.add (.cells [.int .i64 x, .int .i64 y] 3 none)) 1 (.slice (some ⟨h0.next, 0, none⟩) 2 2) ([x, y].map bB) := fun x y => by
  refine jC.rows (.inr ⟨h0.next, _, 3, none, rfl, BS _ _, .inr rfl, fun i r hi => ?_⟩)
  cases i with
  | zero => simp at hi; subst hi; exact ⟨rfl, by simp, fun k x hx => by cases k with | zero => simpa [bB] using hx | succ k => simp [bB] at hx⟩
  | succ i => cases i with
   | zero => simp at hi; subst hi; exact ⟨rfl, by simp, fun k x hx => by cases k with | zero => simpa [bB] using hx | succ k => simp [bB] at hx⟩
   | succ i => simp at hi
 rw [aPB _ _ _ (two _ _), aK, aB, aG]
 exact ⟨_, rfl, g0.trans g1⟩
end Go.Proofs.Ytdpicdnpiihaaaa.K.L
