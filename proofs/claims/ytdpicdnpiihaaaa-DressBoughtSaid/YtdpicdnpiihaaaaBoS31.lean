/- Contracts of told functions: everybody, sets.List, Compare, Or, figures, Less. -/
import Derived.Test.YtdpicdnpiihaaaaBoS29
open Go Go.bK
set_option maxRecDepth 100000
set_option linter.unusedVariables false
namespace Go.Proofs.Ytdpicdnpiihaaaa.K.L
def mZ (n : Nat) : Int := (2 ^ n : Nat) - 1
theorem LA {P : Nat → Prop} (h0 : P 0) (h1 : P 1) (h2 : P 2) (h3 : P 3) (h4 : P 4) (h5 : P 5) : ∀ n, n ≤ 5 → P n
 | 0, _ => h0
 | 1, _ => h1
 | 2, _ => h2
 | 3, _ => h3
 | 4, _ => h4
 | 5, _ => h5
 | n + 6, h => by omega
theorem a4L (n : Nat) (hn : n ≤ 5) : lY env .shl 3 (.int .i64 (Int.ofNat 1)) (.int .i64 (n : Int)) = some (.int .i64 (mZ n + 1)) :=
 LA (P := fun n => lY env .shl 3 (.int .i64 (Int.ofNat 1)) (.int .i64 (n : Int)) = some (.int .i64 (mZ n + 1))) (by kernel_rfl) (by kernel_rfl) (by kernel_rfl) (by kernel_rfl) (by kernel_rfl) (by kernel_rfl) n hn
theorem aEL (n : Nat) (hn : n ≤ 5) : 0 ≤ mZ n ∧ mZ n ≤ 31 := LA (P := fun n => 0 ≤ mZ n ∧ mZ n ≤ 31) (by decide) (by decide) (by decide) (by decide) (by decide) (by decide) n hn
theorem BV {h : Hp} {s : Rm} (F : lJ s) {lo : Nat} {lk : List Value} (V : FR lo h s lk) : F65 [.agg (Array.mk lk)] h = some (.int .i64 (mZ s.dF.length)) := by
 obtain ⟨r, mb, hb, rfl, A, M, _⟩ := V
 obtain ⟨vc, vo, vf, vp, rfl, sc, so, sf, sp, _⟩ := A
 show plainO (aKM h (G.aK (T65 h) 999999) (.agg (Array.mk (bT vc vo vf vp ++ [.map (some mb)])))) = _
 unfold aKM
 rw [fA, j5]
 have hb5 := aEL _ F.np
 rw [oN _ _ 3 vp rfl, sp.rows.len, List.length_map]
 have e : U0 (lY env .shl 3 (.int .i64 (Int.ofNat 1)) (.int .i64 (s.dF.length : Int))) (.int .i64 (Int.ofNat 1)) (.int .i64 (s.dF.length : Int)) = some (.int .i64 (mZ s.dF.length + 1)) := by
  rw [a4L _ F.np]
  have := F.np
  exact LA (P := fun n => U0 (some (.int .i64 (mZ n + 1))) (.int .i64 (Int.ofNat 1)) (.int .i64 (n : Int)) = some (.int .i64 (mZ n + 1))) (by kernel_rfl) (by kernel_rfl) (by kernel_rfl) (by kernel_rfl) (by kernel_rfl) (by kernel_rfl) _ this
 rw [e, BU, show Int.sub (mZ s.dF.length + 1) (Int.ofNat 1) = mZ s.dF.length from by show mZ s.dF.length + 1 - 1 = _; omega, wrap64_in _ (by omega) (by omega)]
 rfl
theorem a4M (h : Hp) (n : Nat) (hn : n ≤ 5) : F97 [.int .u64 (mZ n)] h = some (.int .i64 (n : Int)) :=
 LA (P := fun n => F97 [.int .u64 (mZ n)] h = some (.int .i64 (n : Int))) (by kernel_rfl) (by kernel_rfl) (by kernel_rfl) (by kernel_rfl) (by kernel_rfl) (by kernel_rfl) n hn
theorem a4N (h : Hp) (n k : Nat) (hn : n ≤ 5) (hk : k < n) : F98 [.int .i64 (mZ n), .int .i64 (k : Int)] h = some (.bool true) := by
 have A : ∀ n, n ≤ 5 → ∀ k, k ≤ 5 → k < n → F98 [.int .i64 (mZ n), .int .i64 (k : Int)] h = some (.bool true) := by
  refine LA ?_ ?_ ?_ ?_ ?_ ?_ <;> (refine LA ?_ ?_ ?_ ?_ ?_ ?_ <;> (intro hlt; first | (exact absurd hlt (by decide)) | kernel_rfl))
 exact A n hn k (by omega) hk
def sG (n : Nat) : List Int := (List.range n).map Int.ofNat
theorem ZF (n : Nat) : sG (n + 1) = sG n ++ [(n : Int)] := by unfold sG; rw [List.range_succ, List.map_append]; rfl
theorem PO (n : Nat) : (sG n).length = n := by unfold sG; simp
theorem aNF (n : Nat) (a : Int) (v : Value) (l i : Int) (h : Hp) : aK T69 (n + 1) 1 (AL.i a (AL.v v (AL.i l (AL.i i AL.n)))) h = aDW (aK T69 n) a v l i h := rfl
theorem LB {hb : Hp} (w : Wf hb) {p : Nat} (hp : p ≤ 5) : ∀ (m i n : Nat) (h : Hp) (v : Value), aV hb h → qO hb h v (sG i) → i + m = p → m + 3 ≤ n →
  ∃ h' v', aK T69 n 1 (AL.i (mZ p) (AL.v v (AL.i (p : Int) (AL.i (i : Int) AL.n)))) h = some (v', h') ∧ aV hb h' ∧ qO hb h' v' (sG p)
 | 0, i, n', h, v, g, nm, him, hn => by
  obtain ⟨n, rfl⟩ : ∃ n, n' = n + 2 := ⟨n' - 2, by omega⟩
  rw [aNF]
  unfold aDW
  rw [aM, aU, aG, if_neg (by simp; omega)]
  obtain rfl : i = p := by omega
  exact ⟨h, v, rfl, g, nm⟩
 | m + 1, i, n', h, v, g, nm, him, hn => by
  obtain ⟨n, rfl⟩ : ∃ n, n' = n + 1 := ⟨n' - 1, by omega⟩
  rw [aNF]
  unfold aDW
  rw [aM, aU, aG, if_pos (by simp; omega), a4N h p i hp (by omega), aJ, aB, aW, aG, if_pos rfl, V7, aB]
  obtain ⟨v2, h2, e2, g2, nm2⟩ := xQ w g nm (by rw [PO]; omega) (i : Int)
  rw [e2, aB, show Int.add (i : Int) (Int.ofNat 1) = ((i + 1 : Nat) : Int) from rfl, wrap64_in _ (by omega) (by omega)]
  rw [← ZF] at nm2
  exact LB w hp m (i + 1) n h2 v2 g2 nm2 (by omega) (by omega)
theorem aGI {h : Hp} (w : Wf h) {p : Nat} (hp : p ≤ 5) : ∃ h' v', F69 [.int .i64 (mZ p)] h = some (v', h') ∧ aV h h' ∧ qO h h' v' (sG p) := by
 have start : F69 [.int .i64 (mZ p)] h = aKV (aK T69 999999) (mZ p) h := rfl
 rw [start]
 unfold aKV
 have hb5 := aEL _ hp
 have e : vQ .u64 (mZ p) = mZ p := LA (P := fun n => vQ .u64 (mZ n) = mZ n) (by kernel_rfl) (by kernel_rfl) (by kernel_rfl) (by kernel_rfl) (by kernel_rfl) (by kernel_rfl) p hp
 rw [e, nR, a4M h p hp, aJ, aB, aH]
 exact LB w hp p 0 999999 h (.slice none 0 0) (aV.refl w) (.inl ⟨rfl, rfl⟩) (by omega) (by omega)
def aCN (a b : Int) : Int := if a < b then -1 else if b < a then 1 else 0
theorem TN (h : Hp) (a b : Int) : aF6 [.int .i64 a, .int .i64 b] h = some (.int .i64 (aCN a b)) := by
 have nan : ∀ x : Int, aF5 [.int .i64 x] h = some (.bool false) := fun x => by
  show plainO (bE (kF x x) fun b0 => some (.bool b0)) = _
  rw [aQ, bI]; simp; rfl
 show plainO (aB3 h (G.aK (aJ7 h) 999999) a b) = _
 unfold aB3
 rw [nan a, aJ, aW, nan b, aJ, aW, aG, if_neg (by simp), aG, if_neg (by simp), aM, aU, aG]
 unfold aCN
 by_cases c : a < b
 ·rw [if_pos (by simpa using c), if_pos c]; rfl
 ·rw [if_neg (by simpa using c), if_neg c, aM, aU, aG]
  by_cases c2 : b < a
  ·rw [if_pos (by simpa using c2), if_pos c2]; rfl
  ·rw [if_neg (by simpa using c2), if_neg c2]; rfl
end Go.Proofs.Ytdpicdnpiihaaaa.K.L
open Go Go.bK
set_option maxRecDepth 100000
set_option linter.unusedVariables false
namespace Go.Proofs.Ytdpicdnpiihaaaa.K.L
theorem aEM (n : Nat) (a i : Int) (v : Value) (h : Hp) : aK O4 (n + 1) 1 (AL.i a (AL.v v (AL.i i AL.n))) h = VX (aK O4 n) a v i h := rfl
theorem aEN (h : Hp) (n : Nat) (v : Value) (i : Nat) (hi : i < 4) {x : Int} (hx : jU env 87 v (.int .i64 (Int.ofNat i)) = some (.int .i64 x)) (hb : 0 ≤ x ∧ x ≤ 5000) {a : Int} (ha : 0 ≤ a ∧ a ≤ 100000) :
  aK O4 (n + 1) 1 (AL.i a (AL.v v (AL.i (Int.ofNat i) AL.n))) h = aK O4 n 1 (AL.i (a + x) (AL.v v (AL.i (Int.ofNat (i + 1)) AL.n))) h := by
 rw [aEM]
 unfold VX
 rw [aM, aU, aG, if_pos (by simp; omega), hx, aJ, aH, show Int.add a x = a + x from rfl, wrap64_in _ (by omega) (by omega), show Int.add (Int.ofNat i) (Int.ofNat 1) = Int.ofNat (i + 1) from rfl, wrap64_in _ (by simp; omega) (by simp; omega)]
theorem aVR (h : Hp) (n : Nat) (v : Value) (a : Int) : aK O4 (n + 2) 1 (AL.i a (AL.v v (AL.i (Int.ofNat 4) AL.n))) h = some (.int .i64 a, h) := by
 rw [aEM]
 unfold VX
 rw [aM, aU, aG, if_neg (by simp)]
 rfl
def jP (s : Rm) (l : List (Nat × Nat)) : Int := zR (gV s (W0 s) l)
theorem LC {h : Hp} (w : Wf h) {s : Rm} (F : lJ s) {lo : Nat} {lk : List Value} (V : FR lo h s lk) {u : Value} {l : List (Nat × Nat)} (sl : kR h 2 u (l.map iB)) (hl : PG s l) : ∃ h', aB2 [.agg (Array.mk lk), u] h = some (.int .i64 (jP s l), h') := by
 have start : aB2 [.agg (Array.mk lk), u] h = aB1 (aK O4 999999) (.agg (Array.mk lk)) u h := rfl
 rw [start]
 unfold aB1
 rw [fA, bO]
 have g0 : aV h (h.add (.cells lk 71 none)) := aV.add w _
 have a0 : At (h.add (.cells lk 71 none)) (.pointer (some ⟨h.next, 0, none⟩)) lk := At.new
 generalize h.add (.cells lk 71 none) = h0 at g0 a0 ⊢
 obtain ⟨h1, e1, g1⟩ := J2 (h := bZ h0) (fB g0.wf) F (V.sub g0.sub) (sl.sub g0.sub) hl
 obtain ⟨b1, b2⟩ := nK F hl
 have pl : kT (.agg (Array.mk ((gV s (W0 s) l).map (Value.int .i64)))) = true := by
  rw [nP]
  show ((gV s (W0 s) l).map (Value.int .i64)).all (fO 5) = true
  rw [List.all_map, List.all_eq_true]
  intro x _
  rfl
 rw [a0.eU (z := 5) V.len, bJ e1 pl, aB, J3 _ b1 (fun x hx => by have := b2 x hx; omega), aJ, aB]
 unfold jP
 generalize gV s (W0 s) l = W at b1 b2 ⊢
 obtain ⟨a, b, c, d, rfl⟩ : ∃ a b c d, W = [a, b, c, d] := by
  match W, b1 with
  | [a, b, c, d], _ => exact ⟨a, b, c, d, rfl⟩
 have nn : ∀ x ∈ [a, b, c, d], 0 ≤ eX x ∧ eX x ≤ 5000 := fun x hx => by have := b2 x hx; unfold eX; omega
 have na := nn a (by simp); have nb := nn b (by simp); have nc := nn c (by simp); have nd := nn d (by simp)
 obtain ⟨i0, i1, i2, i3⟩ := ixW (eX a) (eX b) (eX c) (eX d)
 show ∃ h', aK O4 999999 1 (AL.i (Int.ofNat 0) (AL.v (.agg (Array.mk [.int .i64 (eX a), .int .i64 (eX b), .int .i64 (eX c), .int .i64 (eX d)])) (AL.i (Int.ofNat 0) AL.n))) h0 = some (.int .i64 (zR [a, b, c, d]), h')
 rw [aEN h0 999998 _ 0 (by omega) i0 na (a := Int.ofNat 0) (by simp), aEN h0 999997 _ 1 (by omega) i1 nb (by simp; omega), aEN h0 999996 _ 2 (by omega) i2 nc (by simp; omega), aEN h0 999995 _ 3 (by omega) i3 nd (by simp; omega), aVR]
 refine ⟨h0, ?_⟩
 simp only [zR]
 have : Int.ofNat 0 + eX a + eX b + eX c + eX d = eX a + (eX b + (eX c + (eX d + 0))) := by
  show 0 + eX a + eX b + eX c + eX d = _
  omega
 rw [this]
def orZ (a b : Int) : Int := if a ≠ 0 then a else b
theorem aNG (h : Hp) {v : Value} (a b : Int) (r : bK.Rows h 1 v ([a, b].map cZ)) : aJ9 [v] h = some (.int .i64 (orZ a b)) := by
 have st : ∀ (n : Nat) (z : Int) (v : Value) (k i : Int), G.aK (Y0 h) (n + 1) 1 (aD.i z (aD.v v (aD.i k (aD.i i aD.n)))) = O5 h (G.aK (Y0 h) n) z v k i := fun _ _ _ _ _ => rfl
 have st2 : ∀ (n : Nat) (z : Int), G.aK (Y0 h) (n + 1) 2 (aD.i z aD.n) = some (.int .i64 z) := fun _ _ => rfl
 show plainO (aB4 h (G.aK (Y0 h) 999999) v) = _
 unfold aB4
 obtain ⟨p, hp, ap, _⟩ := r.at (i := 0) (r := cZ a) rfl
 obtain ⟨q, hq, aq, _⟩ := r.at (i := 1) (r := cZ b) rfl
 rw [r.len, show ((([a, b].map cZ).length : Nat) : Int) = 2 from rfl, st]
 unfold O5
 rw [aM, aU, aG, if_pos (by decide), show (Int.ofNat 0) = ((0 : Nat) : Int) from rfl, hp, ap.jT (x := .int .i64 a) rfl, aH, aQ, bI, aG]
 unfold orZ
 by_cases c : a = 0
 ·rw [if_neg (by simp [c]), if_neg (by simp [c]), show Int.add ((0 : Nat) : Int) (Int.ofNat 1) = ((1 : Nat) : Int) from rfl, wrap64_in _ (by decide) (by decide), st]
  unfold O5
  rw [aM, aU, aG, if_pos (by decide), hq, aq.jT (x := .int .i64 b) rfl, aH, aQ, bI, aG]
  by_cases c2 : b = 0
  ·rw [if_neg (by simp [c2]), show Int.add ((1 : Nat) : Int) (Int.ofNat 1) = ((2 : Nat) : Int) from rfl, wrap64_in _ (by decide) (by decide), st]
   unfold O5
   rw [aM, aU, aG, if_neg (by decide), st2, c2]
   rfl
  ·rw [if_pos (by simpa using c2)]; rfl
 ·rw [if_pos (by simpa using c), if_pos c]; rfl
def WH (s : Rm) (a b : List (Nat × Nat)) : Int := orZ (aCN (jP s a) (jP s b)) (aCN (iP s a) (iP s b))
def vB (lk : List Value) : Value := .agg (Array.mk [.func (.func 102) (List.toArray [.agg (Array.mk lk)]) (List.toArray []), .func (.func 54) (List.toArray [.agg (Array.mk lk)]) (List.toArray [])])
theorem call102 (lk : List Value) (u : Value) (h : Hp) : qR H9 (.func (.func 102) (List.toArray [.agg (Array.mk lk)]) (List.toArray [])) [u] h = bV aB2 [.agg (Array.mk lk), u] h := rfl
theorem call54 (lk : List Value) (u : Value) (h : Hp) : qR H9 (.func (.func 54) (List.toArray [.agg (Array.mk lk)]) (List.toArray [])) [u] h = bS (F54 [.agg (Array.mk lk), u] h) (fun v => some (v, h)) := rfl
theorem QV {h : Hp} (w : Wf h) {s : Rm} (F : lJ s) {lo : Nat} {lk : List Value} (V : FR lo h s lk) {u v : Value} {a b : List (Nat × Nat)} (sa : kR h 2 u (a.map iB)) (ha : PG s a) (sb : kR h 2 v (b.map iB)) (hb : PG s b) :
  ∃ h', aF7 [vB lk, u, v] h = some (.int .i64 (WH s a b), h') ∧ aV h h' := by
 have start : aF7 [vB lk, u, v] h = aB5 (aK aKA 999999) (vB lk) u v h := rfl
 rw [start]
 unfold aB5 vB
 rw [fA, bO]
 generalize hc : ([.func (.func 102) (List.toArray [.agg (Array.mk lk)]) (List.toArray []), .func (.func 54) (List.toArray [.agg (Array.mk lk)]) (List.toArray [])] : List Value) = cs
 have g0 : aV h (h.add (.cells cs 135 none)) := aV.add w _
 have a0 : At (h.add (.cells cs 135 none)) (.pointer (some ⟨h.next, 0, none⟩)) cs := At.new
 generalize h.add (.cells cs 135 none) = h0 at g0 a0 ⊢
 subst hc
 have az : At (bZ h0) (.pointer (some ⟨h.next, 0, none⟩)) [.func (.func 102) (List.toArray [.agg (Array.mk lk)]) (List.toArray []), .func (.func 54) (List.toArray [.agg (Array.mk lk)]) (List.toArray [])] := a0
 have ws := fB g0.wf
 have Vs : FR lo (bZ h0) s lk := V.sub g0.sub
 have sas : kR (bZ h0) 2 u (a.map iB) := sa.sub g0.sub
 have sbs : kR (bZ h0) 2 v (b.map iB) := sb.sub g0.sub
 obtain ⟨h1, e1⟩ := LC ws F Vs sas ha
 obtain ⟨h2, e2⟩ := LC ws F Vs sbs hb
 have c1 : bV aB2 [.agg (Array.mk lk), u] (bZ h0) = some (.int .i64 (jP s a), bZ h0) := bJ e1 rfl
 have c2 : bV aB2 [.agg (Array.mk lk), v] (bZ h0) = some (.int .i64 (jP s b), bZ h0) := bJ e2 rfl
 rw [show (Hp.mk (Hp.next h0) (Hp.next h0) (Hp.aC h0)) = bZ h0 from rfl, az.vV 0 (x := .func (.func 102) (List.toArray [.agg (Array.mk lk)]) (List.toArray [])) rfl, call102, c1, aB, aH,
  az.vV 0 (x := .func (.func 102) (List.toArray [.agg (Array.mk lk)]) (List.toArray [])) rfl, call102, c2, aB, aH, TN, aJ, aB, aH,
  az.vV 1 (x := .func (.func 54) (List.toArray [.agg (Array.mk lk)]) (List.toArray [])) rfl, call54, yZ F Vs sas.rows ha, aJ, aB, aH,
  az.vV 1 (x := .func (.func 54) (List.toArray [.agg (Array.mk lk)]) (List.toArray [])) rfl, call54, show (Hp.mk (Hp.next h0) (Hp.ro h0) (Hp.aC h0)) = h0 from rfl, yZ F (V.sub g0.sub) (sb.sub g0.sub).rows hb, aJ, aB, aH, TN, aJ, aB, aH, bGP, aB]
 have g1 : aV h0 (h0.add (.cells [.int .i64 (aCN (jP s a) (jP s b)), .int .i64 (aCN (iP s a) (iP s b))] 3 none)) := aV.add g0.wf _
 have two : ∀ x y : Int, bK.Rows (h0.add (.cells [.int .i64 x, .int .i64 y] 3 none)) 1 (.slice (some ⟨h0.next, 0, none⟩) 2 2) ([x, y].map cZ) := fun x y => by
  refine kR.rows (.inr ⟨h0.next, _, 3, none, rfl, BM _ _, .inr rfl, fun i r hi => ?_⟩)
  cases i with
  | zero => simp at hi; subst hi; exact ⟨rfl, by simp, fun k x hx => by cases k with | zero => simpa [cZ] using hx | succ k => simp [cZ] at hx⟩
  | succ i => cases i with
   | zero => simp at hi; subst hi; exact ⟨rfl, by simp, fun k x hx => by cases k with | zero => simpa [cZ] using hx | succ k => simp [cZ] at hx⟩
   | succ i => simp at hi
 rw [aNG _ _ _ (two _ _), aJ, aB, aH]
 exact ⟨_, rfl, g0.trans g1⟩
end Go.Proofs.Ytdpicdnpiihaaaa.K.L
