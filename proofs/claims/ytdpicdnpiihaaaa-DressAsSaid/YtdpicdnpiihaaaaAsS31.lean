/- Contracts of told functions: everybody, sets.List, Compare, Or, figures, Less. -/
import Derived.Test.YtdpicdnpiihaaaaAsS29
open Go Go.bG
set_option maxRecDepth 100000
set_option linter.unusedVariables false
namespace Go.Proofs.Ytdpicdnpiihaaaa.K.L
def mW (n : Nat) : Int := (2 ^ n : Nat) - 1
theorem KL {P : Nat → Prop} (h0 : P 0) (h1 : P 1) (h2 : P 2) (h3 : P 3) (h4 : P 4) (h5 : P 5) : ∀ n, n ≤ 5 → P n
 | 0, _ => h0
 | 1, _ => h1
 | 2, _ => h2
 | 3, _ => h3
 | 4, _ => h4
 | 5, _ => h5
 | n + 6, h => by omega
theorem a3K (n : Nat) (hn : n ≤ 5) : lG env .shl 3 (.int .i64 (Int.ofNat 1)) (.int .i64 (n : Int)) = some (.int .i64 (mW n + 1)) :=
 KL (P := fun n => lG env .shl 3 (.int .i64 (Int.ofNat 1)) (.int .i64 (n : Int)) = some (.int .i64 (mW n + 1))) (by kernel_rfl) (by kernel_rfl) (by kernel_rfl) (by kernel_rfl) (by kernel_rfl) (by kernel_rfl) n hn
theorem aDX (n : Nat) (hn : n ≤ 5) : 0 ≤ mW n ∧ mW n ≤ 31 := KL (P := fun n => 0 ≤ mW n ∧ mW n ≤ 31) (by decide) (by decide) (by decide) (by decide) (by decide) (by decide) n hn
theorem OY {h : Hp} {s : Rm} (F : qE s) {lo : Nat} {lk : List Value} (V : E9 lo h s lk) : F65 [.agg (Array.mk lk)] h = some (.int .i64 (mW s.bN.length)) := by
 obtain ⟨r, mb, hb, rfl, A, M, _⟩ := V
 obtain ⟨vc, vo, vf, vp, rfl, sc, so, sf, sp, _⟩ := A
 show plainO (aJ8 h (G.aK (T65 h) 999999) (.agg (Array.mk (eZ vc vo vf vp ++ [.map (some mb)])))) = _
 unfold aJ8
 rw [fA, jT]
 have hb5 := aDX _ F.np
 rw [nU _ _ 3 vp rfl, sp.rows.len, List.length_map]
 have e : TZ (lG env .shl 3 (.int .i64 (Int.ofNat 1)) (.int .i64 (s.bN.length : Int))) (.int .i64 (Int.ofNat 1)) (.int .i64 (s.bN.length : Int)) = some (.int .i64 (mW s.bN.length + 1)) := by
  rw [a3K _ F.np]
  have := F.np
  exact KL (P := fun n => TZ (some (.int .i64 (mW n + 1))) (.int .i64 (Int.ofNat 1)) (.int .i64 (n : Int)) = some (.int .i64 (mW n + 1))) (by kernel_rfl) (by kernel_rfl) (by kernel_rfl) (by kernel_rfl) (by kernel_rfl) (by kernel_rfl) _ this
 rw [e, BL, show Int.sub (mW s.bN.length + 1) (Int.ofNat 1) = mW s.bN.length from by show mW s.bN.length + 1 - 1 = _; omega, wrap64_in _ (by omega) (by omega)]
 rfl
theorem a3L (h : Hp) (n : Nat) (hn : n ≤ 5) : F97 [.int .u64 (mW n)] h = some (.int .i64 (n : Int)) :=
 KL (P := fun n => F97 [.int .u64 (mW n)] h = some (.int .i64 (n : Int))) (by kernel_rfl) (by kernel_rfl) (by kernel_rfl) (by kernel_rfl) (by kernel_rfl) (by kernel_rfl) n hn
theorem a3M (h : Hp) (n k : Nat) (hn : n ≤ 5) (hk : k < n) : F98 [.int .i64 (mW n), .int .i64 (k : Int)] h = some (.bool true) := by
 have A : ∀ n, n ≤ 5 → ∀ k, k ≤ 5 → k < n → F98 [.int .i64 (mW n), .int .i64 (k : Int)] h = some (.bool true) := by
  refine KL ?_ ?_ ?_ ?_ ?_ ?_ <;> (refine KL ?_ ?_ ?_ ?_ ?_ ?_ <;> (intro hlt; first | (exact absurd hlt (by decide)) | kernel_rfl))
 exact A n hn k (by omega) hk
def rJ (n : Nat) : List Int := (List.range n).map Int.ofNat
theorem YR (n : Nat) : rJ (n + 1) = rJ n ++ [(n : Int)] := by unfold rJ; rw [List.range_succ, List.map_append]; rfl
theorem OZ (n : Nat) : (rJ n).length = n := by unfold rJ; simp
theorem aM0 (n : Nat) (a : Int) (v : Value) (l i : Int) (h : Hp) : aK T69 (n + 1) 1 (AL.i a (AL.v v (AL.i l (AL.i i AL.n)))) h = aC8 (aK T69 n) a v l i h := rfl
theorem KM {hb : Hp} (w : Wf hb) {p : Nat} (hp : p ≤ 5) : ∀ (m i n : Nat) (h : Hp) (v : Value), aS hb h → uO hb h v (rJ i) → i + m = p → m + 3 ≤ n →
  ∃ h' v', aK T69 n 1 (AL.i (mW p) (AL.v v (AL.i (p : Int) (AL.i (i : Int) AL.n)))) h = some (v', h') ∧ aS hb h' ∧ uO hb h' v' (rJ p)
 | 0, i, n', h, v, g, nm, him, hn => by
  obtain ⟨n, rfl⟩ : ∃ n, n' = n + 2 := ⟨n' - 2, by omega⟩
  rw [aM0]
  unfold aC8
  rw [aM, aT, aG, if_neg (by simp; omega)]
  obtain rfl : i = p := by omega
  exact ⟨h, v, rfl, g, nm⟩
 | m + 1, i, n', h, v, g, nm, him, hn => by
  obtain ⟨n, rfl⟩ : ∃ n, n' = n + 1 := ⟨n' - 1, by omega⟩
  rw [aM0]
  unfold aC8
  rw [aM, aT, aG, if_pos (by simp; omega), a3M h p i hp (by omega), aJ, aB, aU, aG, if_pos rfl, VF, aB]
  obtain ⟨v2, h2, e2, g2, nm2⟩ := JL w g nm (by rw [OZ]; omega) (i : Int)
  rw [e2, aB, show Int.add (i : Int) (Int.ofNat 1) = ((i + 1 : Nat) : Int) from rfl, wrap64_in _ (by omega) (by omega)]
  rw [← YR] at nm2
  exact KM w hp m (i + 1) n h2 v2 g2 nm2 (by omega) (by omega)
theorem aFV {h : Hp} (w : Wf h) {p : Nat} (hp : p ≤ 5) : ∃ h' v', F69 [.int .i64 (mW p)] h = some (v', h') ∧ aS h h' ∧ uO h h' v' (rJ p) := by
 have start : F69 [.int .i64 (mW p)] h = aKH (aK T69 999999) (mW p) h := rfl
 rw [start]
 unfold aKH
 have hb5 := aDX _ hp
 have e : vD .u64 (mW p) = mW p := KL (P := fun n => vD .u64 (mW n) = mW n) (by kernel_rfl) (by kernel_rfl) (by kernel_rfl) (by kernel_rfl) (by kernel_rfl) (by kernel_rfl) p hp
 rw [e, nE, a3L h p hp, aJ, aB, aH]
 exact KM w hp p 0 999999 h (.slice none 0 0) (aS.refl w) (.inl ⟨rfl, rfl⟩) (by omega) (by omega)
def aB1 (a b : Int) : Int := if a < b then -1 else if b < a then 1 else 0
theorem SN (h : Hp) (a b : Int) : aFK [.int .i64 a, .int .i64 b] h = some (.int .i64 (aB1 a b)) := by
 have nan : ∀ x : Int, aFJ [.int .i64 x] h = some (.bool false) := fun x => by
  show plainO (bI (lD x x) fun b0 => some (.bool b0)) = _
  rw [aQ, bT]; simp; rfl
 show plainO (aBG h (G.aK (aJV h) 999999) a b) = _
 unfold aBG
 rw [nan a, aJ, aU, nan b, aJ, aU, aG, if_neg (by simp), aG, if_neg (by simp), aM, aT, aG]
 unfold aB1
 by_cases c : a < b
 ·rw [if_pos (by simpa using c), if_pos c]; rfl
 ·rw [if_neg (by simpa using c), if_neg c, aM, aT, aG]
  by_cases c2 : b < a
  ·rw [if_pos (by simpa using c2), if_pos c2]; rfl
  ·rw [if_neg (by simpa using c2), if_neg c2]; rfl
end Go.Proofs.Ytdpicdnpiihaaaa.K.L
open Go Go.bG
set_option maxRecDepth 100000
set_option linter.unusedVariables false
namespace Go.Proofs.Ytdpicdnpiihaaaa.K.L
theorem aDY (n : Nat) (a i : Int) (v : Value) (h : Hp) : aK OG (n + 1) 1 (AL.i a (AL.v v (AL.i i AL.n))) h = VA (aK OG n) a v i h := rfl
theorem aDZ (h : Hp) (n : Nat) (v : Value) (i : Nat) (hi : i < 4) {x : Int} (hx : jP env 87 v (.int .i64 (Int.ofNat i)) = some (.int .i64 x)) (hb : 0 ≤ x ∧ x ≤ 5000) {a : Int} (ha : 0 ≤ a ∧ a ≤ 100000) :
  aK OG (n + 1) 1 (AL.i a (AL.v v (AL.i (Int.ofNat i) AL.n))) h = aK OG n 1 (AL.i (a + x) (AL.v v (AL.i (Int.ofNat (i + 1)) AL.n))) h := by
 rw [aDY]
 unfold VA
 rw [aM, aT, aG, if_pos (by simp; omega), hx, aJ, aH, show Int.add a x = a + x from rfl, wrap64_in _ (by omega) (by omega), show Int.add (Int.ofNat i) (Int.ofNat 1) = Int.ofNat (i + 1) from rfl, wrap64_in _ (by simp; omega) (by simp; omega)]
theorem aU8 (h : Hp) (n : Nat) (v : Value) (a : Int) : aK OG (n + 2) 1 (AL.i a (AL.v v (AL.i (Int.ofNat 4) AL.n))) h = some (.int .i64 a, h) := by
 rw [aDY]
 unfold VA
 rw [aM, aT, aG, if_neg (by simp)]
 rfl
def nY (s : Rm) (l : List (Nat × Nat)) : Int := VL (kK s (W0 s) l)
theorem KO {h : Hp} (w : Wf h) {s : Rm} (F : qE s) {lo : Nat} {lk : List Value} (V : E9 lo h s lk) {u : Value} {l : List (Nat × Nat)} (sl : lF h 2 u (l.map fG)) (hl : VG s l) : ∃ h', aBF [.agg (Array.mk lk), u] h = some (.int .i64 (nY s l), h') := by
 have start : aBF [.agg (Array.mk lk), u] h = aBE (aK OG 999999) (.agg (Array.mk lk)) u h := rfl
 rw [start]
 unfold aBE
 rw [fA, bK]
 have g0 : aS h (h.add (.cells lk 71 none)) := aS.add w _
 have a0 : At (h.add (.cells lk 71 none)) (.pointer (some ⟨h.next, 0, none⟩)) lk := At.new
 generalize h.add (.cells lk 71 none) = h0 at g0 a0 ⊢
 obtain ⟨h1, e1, g1⟩ := SH (h := dI h0) (gJ g0.wf) F (V.sub g0.sub) (sl.sub g0.sub) hl
 obtain ⟨b1, b2⟩ := FD F hl
 have pl : kW (.agg (Array.mk ((kK s (W0 s) l).map (Value.int .i64)))) = true := by
  rw [o7]
  show ((kK s (W0 s) l).map (Value.int .i64)).all (fM 5) = true
  rw [List.all_map, List.all_eq_true]
  intro x _
  rfl
 rw [a0.eU (z := 5) V.len, bR e1 pl, aB, SI _ b1 (fun x hx => by have := b2 x hx; omega), aJ, aB]
 unfold nY
 generalize kK s (W0 s) l = W at b1 b2 ⊢
 obtain ⟨a, b, c, d, rfl⟩ : ∃ a b c d, W = [a, b, c, d] := by
  match W, b1 with
  | [a, b, c, d], _ => exact ⟨a, b, c, d, rfl⟩
 have nn : ∀ x ∈ [a, b, c, d], 0 ≤ iW x ∧ iW x ≤ 5000 := fun x hx => by have := b2 x hx; unfold iW; omega
 have na := nn a (by simp); have nb := nn b (by simp); have nc := nn c (by simp); have nd := nn d (by simp)
 obtain ⟨i0, i1, i2, i3⟩ := ixW (iW a) (iW b) (iW c) (iW d)
 show ∃ h', aK OG 999999 1 (AL.i (Int.ofNat 0) (AL.v (.agg (Array.mk [.int .i64 (iW a), .int .i64 (iW b), .int .i64 (iW c), .int .i64 (iW d)])) (AL.i (Int.ofNat 0) AL.n))) h0 = some (.int .i64 (VL [a, b, c, d]), h')
 rw [aDZ h0 999998 _ 0 (by omega) i0 na (a := Int.ofNat 0) (by simp), aDZ h0 999997 _ 1 (by omega) i1 nb (by simp; omega), aDZ h0 999996 _ 2 (by omega) i2 nc (by simp; omega), aDZ h0 999995 _ 3 (by omega) i3 nd (by simp; omega), aU8]
 refine ⟨h0, ?_⟩
 simp only [VL]
 have : Int.ofNat 0 + iW a + iW b + iW c + iW d = iW a + (iW b + (iW c + (iW d + 0))) := by
  show 0 + iW a + iW b + iW c + iW d = _
  omega
 rw [this]
def orZ (a b : Int) : Int := if a ≠ 0 then a else b
theorem aM1 (h : Hp) {v : Value} (a b : Int) (r : bG.Rows h 1 v ([a, b].map dD)) : aJX [v] h = some (.int .i64 (orZ a b)) := by
 have st : ∀ (n : Nat) (z : Int) (v : Value) (k i : Int), G.aK (YE h) (n + 1) 1 (aC.i z (aC.v v (aC.i k (aC.i i aC.n)))) = OH h (G.aK (YE h) n) z v k i := fun _ _ _ _ _ => rfl
 have st2 : ∀ (n : Nat) (z : Int), G.aK (YE h) (n + 1) 2 (aC.i z aC.n) = some (.int .i64 z) := fun _ _ => rfl
 show plainO (aBH h (G.aK (YE h) 999999) v) = _
 unfold aBH
 obtain ⟨p, hp, ap, _⟩ := r.at (i := 0) (r := dD a) rfl
 obtain ⟨q, hq, aq, _⟩ := r.at (i := 1) (r := dD b) rfl
 rw [r.len, show ((([a, b].map dD).length : Nat) : Int) = 2 from rfl, st]
 unfold OH
 rw [aM, aT, aG, if_pos (by decide), show (Int.ofNat 0) = ((0 : Nat) : Int) from rfl, hp, ap.jS (x := .int .i64 a) rfl, aH, aQ, bT, aG]
 unfold orZ
 by_cases c : a = 0
 ·rw [if_neg (by simp [c]), if_neg (by simp [c]), show Int.add ((0 : Nat) : Int) (Int.ofNat 1) = ((1 : Nat) : Int) from rfl, wrap64_in _ (by decide) (by decide), st]
  unfold OH
  rw [aM, aT, aG, if_pos (by decide), hq, aq.jS (x := .int .i64 b) rfl, aH, aQ, bT, aG]
  by_cases c2 : b = 0
  ·rw [if_neg (by simp [c2]), show Int.add ((1 : Nat) : Int) (Int.ofNat 1) = ((2 : Nat) : Int) from rfl, wrap64_in _ (by decide) (by decide), st]
   unfold OH
   rw [aM, aT, aG, if_neg (by decide), st2, c2]
   rfl
  ·rw [if_pos (by simpa using c2)]; rfl
 ·rw [if_pos (by simpa using c), if_pos c]; rfl
def VM (s : Rm) (a b : List (Nat × Nat)) : Int := orZ (aB1 (nY s a) (nY s b)) (aB1 (j5 s a) (j5 s b))
def uM (lk : List Value) : Value := .agg (Array.mk [.func (.func 102) (List.toArray [.agg (Array.mk lk)]) (List.toArray []), .func (.func 54) (List.toArray [.agg (Array.mk lk)]) (List.toArray [])])
theorem call102 (lk : List Value) (u : Value) (h : Hp) : qG GZ (.func (.func 102) (List.toArray [.agg (Array.mk lk)]) (List.toArray [])) [u] h = cZ aBF [.agg (Array.mk lk), u] h := rfl
theorem call54 (lk : List Value) (u : Value) (h : Hp) : qG GZ (.func (.func 54) (List.toArray [.agg (Array.mk lk)]) (List.toArray [])) [u] h = bP (F54 [.agg (Array.mk lk), u] h) (fun v => some (v, h)) := rfl
theorem QC {h : Hp} (w : Wf h) {s : Rm} (F : qE s) {lo : Nat} {lk : List Value} (V : E9 lo h s lk) {u v : Value} {a b : List (Nat × Nat)} (sa : lF h 2 u (a.map fG)) (ha : VG s a) (sb : lF h 2 v (b.map fG)) (hb : VG s b) :
  ∃ h', aFL [uM lk, u, v] h = some (.int .i64 (VM s a b), h') ∧ aS h h' := by
 have start : aFL [uM lk, u, v] h = aBI (aK aJY 999999) (uM lk) u v h := rfl
 rw [start]
 unfold aBI uM
 rw [fA, bK]
 generalize hc : ([.func (.func 102) (List.toArray [.agg (Array.mk lk)]) (List.toArray []), .func (.func 54) (List.toArray [.agg (Array.mk lk)]) (List.toArray [])] : List Value) = cs
 have g0 : aS h (h.add (.cells cs 135 none)) := aS.add w _
 have a0 : At (h.add (.cells cs 135 none)) (.pointer (some ⟨h.next, 0, none⟩)) cs := At.new
 generalize h.add (.cells cs 135 none) = h0 at g0 a0 ⊢
 subst hc
 have az : At (dI h0) (.pointer (some ⟨h.next, 0, none⟩)) [.func (.func 102) (List.toArray [.agg (Array.mk lk)]) (List.toArray []), .func (.func 54) (List.toArray [.agg (Array.mk lk)]) (List.toArray [])] := a0
 have ws := gJ g0.wf
 have Vs : E9 lo (dI h0) s lk := V.sub g0.sub
 have sas : lF (dI h0) 2 u (a.map fG) := sa.sub g0.sub
 have sbs : lF (dI h0) 2 v (b.map fG) := sb.sub g0.sub
 obtain ⟨h1, e1⟩ := KO ws F Vs sas ha
 obtain ⟨h2, e2⟩ := KO ws F Vs sbs hb
 have c1 : cZ aBF [.agg (Array.mk lk), u] (dI h0) = some (.int .i64 (nY s a), dI h0) := bR e1 rfl
 have c2 : cZ aBF [.agg (Array.mk lk), v] (dI h0) = some (.int .i64 (nY s b), dI h0) := bR e2 rfl
 rw [show (Hp.mk (Hp.next h0) (Hp.next h0) (Hp.aD h0)) = dI h0 from rfl, az.qL 0 (x := .func (.func 102) (List.toArray [.agg (Array.mk lk)]) (List.toArray [])) rfl, call102, c1, aB, aH,
  az.qL 0 (x := .func (.func 102) (List.toArray [.agg (Array.mk lk)]) (List.toArray [])) rfl, call102, c2, aB, aH, SN, aJ, aB, aH,
  az.qL 1 (x := .func (.func 54) (List.toArray [.agg (Array.mk lk)]) (List.toArray [])) rfl, call54, yM F Vs sas.rows ha, aJ, aB, aH,
  az.qL 1 (x := .func (.func 54) (List.toArray [.agg (Array.mk lk)]) (List.toArray [])) rfl, call54, show (Hp.mk (Hp.next h0) (Hp.ro h0) (Hp.aD h0)) = h0 from rfl, yM F (V.sub g0.sub) (sb.sub g0.sub).rows hb, aJ, aB, aH, SN, aJ, aB, aH, bFM, aB]
 have g1 : aS h0 (h0.add (.cells [.int .i64 (aB1 (nY s a) (nY s b)), .int .i64 (aB1 (j5 s a) (j5 s b))] 3 none)) := aS.add g0.wf _
 have two : ∀ x y : Int, bG.Rows (h0.add (.cells [.int .i64 x, .int .i64 y] 3 none)) 1 (.slice (some ⟨h0.next, 0, none⟩) 2 2) ([x, y].map dD) := fun x y => by
  refine lF.rows (.inr ⟨h0.next, _, 3, none, rfl, vL _ _, .inr rfl, fun i r hi => ?_⟩)
  cases i with
  | zero => simp at hi; subst hi; exact ⟨rfl, by simp, fun k x hx => by cases k with | zero => simpa [dD] using hx | succ k => simp [dD] at hx⟩
  | succ i => cases i with
   | zero => simp at hi; subst hi; exact ⟨rfl, by simp, fun k x hx => by cases k with | zero => simpa [dD] using hx | succ k => simp [dD] at hx⟩
   | succ i => simp at hi
 rw [aM1 _ _ _ (two _ _), aJ, aB, aH]
 exact ⟨_, rfl, g0.trans g1⟩
end Go.Proofs.Ytdpicdnpiihaaaa.K.L
