/- Contracts of told functions: everybody, sets.List, Compare, Or, figures, Less. -/
import Derived.Test.YtdpicdnpiihaaaaOrS29
open Go Go.bI
set_option maxRecDepth 100000
set_option linter.unusedVariables false
namespace Go.Proofs.Ytdpicdnpiihaaaa.K.L
def nJ (n : Nat) : Int := (2 ^ n : Nat) - 1
theorem LK {P : Nat → Prop} (h0 : P 0) (h1 : P 1) (h2 : P 2) (h3 : P 3) (h4 : P 4) (h5 : P 5) : ∀ n, n ≤ 5 → P n
 | 0, _ => h0
 | 1, _ => h1
 | 2, _ => h2
 | 3, _ => h3
 | 4, _ => h4
 | 5, _ => h5
 | n + 6, h => by omega
theorem a6N (n : Nat) (hn : n ≤ 5) : mY env .shl 3 (.int .i64 (Int.ofNat 1)) (.int .i64 (n : Int)) = some (.int .i64 (nJ n + 1)) :=
 LK (P := fun n => mY env .shl 3 (.int .i64 (Int.ofNat 1)) (.int .i64 (n : Int)) = some (.int .i64 (nJ n + 1))) (by kernel_rfl) (by kernel_rfl) (by kernel_rfl) (by kernel_rfl) (by kernel_rfl) (by kernel_rfl) n hn
theorem aFD (n : Nat) (hn : n ≤ 5) : 0 ≤ nJ n ∧ nJ n ≤ 31 := LK (P := fun n => 0 ≤ nJ n ∧ nJ n ≤ 31) (by decide) (by decide) (by decide) (by decide) (by decide) (by decide) n hn
theorem CF {h : Hp} {s : Rm} (F : nI s) {lo : Nat} {lk : List Value} (V : GD lo h s lk) : F65 [.agg (Array.mk lk)] h = some (.int .i64 (nJ s.dR.length)) := by
 obtain ⟨r, mb, hb, rfl, A, M, _⟩ := V
 obtain ⟨vc, vo, vf, vp, rfl, sc, so, sf, sp, _⟩ := A
 show plainO (aLP h (G.aN (T65 h) 999999) (.agg (Array.mk (dO vc vo vf vp ++ [.map (some mb)])))) = _
 unfold aLP
 rw [fF, kI]
 have hb5 := aFD _ F.np
 rw [oP _ _ 3 vp rfl, sp.rows.len, List.length_map]
 have e : VI (mY env .shl 3 (.int .i64 (Int.ofNat 1)) (.int .i64 (s.dR.length : Int))) (.int .i64 (Int.ofNat 1)) (.int .i64 (s.dR.length : Int)) = some (.int .i64 (nJ s.dR.length + 1)) := by
  rw [a6N _ F.np]
  have := F.np
  exact LK (P := fun n => VI (some (.int .i64 (nJ n + 1))) (.int .i64 (Int.ofNat 1)) (.int .i64 (n : Int)) = some (.int .i64 (nJ n + 1))) (by kernel_rfl) (by kernel_rfl) (by kernel_rfl) (by kernel_rfl) (by kernel_rfl) (by kernel_rfl) _ this
 rw [e, ZV, show Int.sub (nJ s.dR.length + 1) (Int.ofNat 1) = nJ s.dR.length from by show nJ s.dR.length + 1 - 1 = _; omega, wrap64_in _ (by omega) (by omega)]
 rfl
theorem a6O (h : Hp) (n : Nat) (hn : n ≤ 5) : F97 [.int .u64 (nJ n)] h = some (.int .i64 (n : Int)) :=
 LK (P := fun n => F97 [.int .u64 (nJ n)] h = some (.int .i64 (n : Int))) (by kernel_rfl) (by kernel_rfl) (by kernel_rfl) (by kernel_rfl) (by kernel_rfl) (by kernel_rfl) n hn
theorem a6P (h : Hp) (n k : Nat) (hn : n ≤ 5) (hk : k < n) : F98 [.int .i64 (nJ n), .int .i64 (k : Int)] h = some (.bool true) := by
 have A : ∀ n, n ≤ 5 → ∀ k, k ≤ 5 → k < n → F98 [.int .i64 (nJ n), .int .i64 (k : Int)] h = some (.bool true) := by
  refine LK ?_ ?_ ?_ ?_ ?_ ?_ <;> (refine LK ?_ ?_ ?_ ?_ ?_ ?_ <;> (intro hlt; first | (exact absurd hlt (by decide)) | kernel_rfl))
 exact A n hn k (by omega) hk
def sJ (n : Nat) : List Int := (List.range n).map Int.ofNat
theorem ZY (n : Nat) : sJ (n + 1) = sJ n ++ [(n : Int)] := by unfold sJ; rw [List.range_succ, List.map_append]; rfl
theorem QA (n : Nat) : (sJ n).length = n := by unfold sJ; simp
theorem aOJ (n : Nat) (a : Int) (v : Value) (l i : Int) (h : Hp) : aN T69 (n + 1) 1 (AL.i a (AL.v v (AL.i l (AL.i i AL.n)))) h = aEL (aN T69 n) a v l i h := rfl
theorem LM {hb : Hp} (w : Wf hb) {p : Nat} (hp : p ≤ 5) : ∀ (m i n : Nat) (h : Hp) (v : Value), aV hb h → qZ hb h v (sJ i) → i + m = p → m + 3 ≤ n →
  ∃ h' v', aN T69 n 1 (AL.i (nJ p) (AL.v v (AL.i (p : Int) (AL.i (i : Int) AL.n)))) h = some (v', h') ∧ aV hb h' ∧ qZ hb h' v' (sJ p)
 | 0, i, n', h, v, g, nm, him, hn => by
  obtain ⟨n, rfl⟩ : ∃ n, n' = n + 2 := ⟨n' - 2, by omega⟩
  rw [aOJ]
  unfold aEL
  rw [aQ, aW, aH, if_neg (by simp; omega)]
  obtain rfl : i = p := by omega
  exact ⟨h, v, rfl, g, nm⟩
 | m + 1, i, n', h, v, g, nm, him, hn => by
  obtain ⟨n, rfl⟩ : ∃ n, n' = n + 1 := ⟨n' - 1, by omega⟩
  rw [aOJ]
  unfold aEL
  rw [aQ, aW, aH, if_pos (by simp; omega), a6P h p i hp (by omega), aM, aB, aZ, aH, if_pos rfl, WR, aB]
  obtain ⟨v2, h2, e2, g2, nm2⟩ := DW w g nm (by rw [QA]; omega) (i : Int)
  rw [e2, aB, show Int.add (i : Int) (Int.ofNat 1) = ((i + 1 : Nat) : Int) from rfl, wrap64_in _ (by omega) (by omega)]
  rw [← ZY] at nm2
  exact LM w hp m (i + 1) n h2 v2 g2 nm2 (by omega) (by omega)
theorem aHC {h : Hp} (w : Wf h) {p : Nat} (hp : p ≤ 5) : ∃ h' v', F69 [.int .i64 (nJ p)] h = some (v', h') ∧ aV h h' ∧ qZ h h' v' (sJ p) := by
 have start : F69 [.int .i64 (nJ p)] h = aLY (aN T69 999999) (nJ p) h := rfl
 rw [start]
 unfold aLY
 have hb5 := aFD _ hp
 have e : vT .u64 (nJ p) = nJ p := LK (P := fun n => vT .u64 (nJ n) = nJ n) (by kernel_rfl) (by kernel_rfl) (by kernel_rfl) (by kernel_rfl) (by kernel_rfl) (by kernel_rfl) p hp
 rw [e, nV, a6O h p hp, aM, aB, aI]
 exact LM w hp p 0 999999 h (.slice none 0 0) (aV.refl w) (.inl ⟨rfl, rfl⟩) (by omega) (by omega)
def aDC (a b : Int) : Int := if a < b then -1 else if b < a then 1 else 0
theorem UE (h : Hp) (a b : Int) : aG1 [.int .i64 a, .int .i64 b] h = some (.int .i64 (aDC a b)) := by
 have nan : ∀ x : Int, aG0 [.int .i64 x] h = some (.bool false) := fun x => by
  show plainO (bA (jV x x) fun b0 => some (.bool b0)) = _
  rw [aR, cK]; simp; rfl
 show plainO (aCQ h (G.aN (aLA h) 999999) a b) = _
 unfold aCQ
 rw [nan a, aM, aZ, nan b, aM, aZ, aH, if_neg (by simp), aH, if_neg (by simp), aQ, aW, aH]
 unfold aDC
 by_cases c : a < b
 ·rw [if_pos (by simpa using c), if_pos c]; rfl
 ·rw [if_neg (by simpa using c), if_neg c, aQ, aW, aH]
  by_cases c2 : b < a
  ·rw [if_pos (by simpa using c2), if_pos c2]; rfl
  ·rw [if_neg (by simpa using c2), if_neg c2]; rfl
end Go.Proofs.Ytdpicdnpiihaaaa.K.L
open Go Go.bI
set_option maxRecDepth 100000
set_option linter.unusedVariables false
namespace Go.Proofs.Ytdpicdnpiihaaaa.K.L
theorem aFE (n : Nat) (a i : Int) (v : Value) (h : Hp) : aN PL (n + 1) 1 (AL.i a (AL.v v (AL.i i AL.n))) h = WL (aN PL n) a v i h := rfl
theorem aFF (h : Hp) (n : Nat) (v : Value) (i : Nat) (hi : i < 4) {x : Int} (hx : kE env 87 v (.int .i64 (Int.ofNat i)) = some (.int .i64 x)) (hb : 0 ≤ x ∧ x ≤ 5000) {a : Int} (ha : 0 ≤ a ∧ a ≤ 100000) :
  aN PL (n + 1) 1 (AL.i a (AL.v v (AL.i (Int.ofNat i) AL.n))) h = aN PL n 1 (AL.i (a + x) (AL.v v (AL.i (Int.ofNat (i + 1)) AL.n))) h := by
 rw [aFE]
 unfold WL
 rw [aQ, aW, aH, if_pos (by simp; omega), hx, aM, aI, show Int.add a x = a + x from rfl, wrap64_in _ (by omega) (by omega), show Int.add (Int.ofNat i) (Int.ofNat 1) = Int.ofNat (i + 1) from rfl, wrap64_in _ (by simp; omega) (by simp; omega)]
theorem aWZ (h : Hp) (n : Nat) (v : Value) (a : Int) : aN PL (n + 2) 1 (AL.i a (AL.v v (AL.i (Int.ofNat 4) AL.n))) h = some (.int .i64 a, h) := by
 rw [aFE]
 unfold WL
 rw [aQ, aW, aH, if_neg (by simp)]
 rfl
def kD (s : Rm) (l : List (Nat × Nat)) : Int := IQ (gK s (W0 s) l)
theorem LP {h : Hp} (w : Wf h) {s : Rm} (F : nI s) {lo : Nat} {lk : List Value} (V : GD lo h s lk) {u : Value} {l : List (Nat × Nat)} (sl : lV h 2 u (l.map iG)) (hl : QZ s l) : ∃ h', aCP [.agg (Array.mk lk), u] h = some (.int .i64 (kD s l), h') := by
 have start : aCP [.agg (Array.mk lk), u] h = aCO (aN PL 999999) (.agg (Array.mk lk)) u h := rfl
 rw [start]
 unfold aCO
 rw [fF, bT]
 have g0 : aV h (h.add (.cells lk 71 none)) := aV.add w _
 have a0 : At (h.add (.cells lk 71 none)) (.pointer (some ⟨h.next, 0, none⟩)) lk := At.new
 generalize h.add (.cells lk 71 none) = h0 at g0 a0 ⊢
 obtain ⟨h1, e1, g1⟩ := J8 (h := dF h0) (fM g0.wf) F (V.sub g0.sub) (sl.sub g0.sub) hl
 obtain ⟨b1, b2⟩ := pQ F hl
 have pl : lD (.agg (Array.mk ((gK s (W0 s) l).map (Value.int .i64)))) = true := by
  rw [pV]
  show ((gK s (W0 s) l).map (Value.int .i64)).all (fU 5) = true
  rw [List.all_map, List.all_eq_true]
  intro x _
  rfl
 rw [a0.eX (z := 5) V.len, bO e1 pl, aB, J9 _ b1 (fun x hx => by have := b2 x hx; omega), aM, aB]
 unfold kD
 generalize gK s (W0 s) l = W at b1 b2 ⊢
 obtain ⟨a, b, c, d, rfl⟩ : ∃ a b c d, W = [a, b, c, d] := by
  match W, b1 with
  | [a, b, c, d], _ => exact ⟨a, b, c, d, rfl⟩
 have nn : ∀ x ∈ [a, b, c, d], 0 ≤ fP x ∧ fP x ≤ 5000 := fun x hx => by have := b2 x hx; unfold fP; omega
 have na := nn a (by simp); have nb := nn b (by simp); have nc := nn c (by simp); have nd := nn d (by simp)
 obtain ⟨i0, i1, i2, i3⟩ := ixW (fP a) (fP b) (fP c) (fP d)
 show ∃ h', aN PL 999999 1 (AL.i (Int.ofNat 0) (AL.v (.agg (Array.mk [.int .i64 (fP a), .int .i64 (fP b), .int .i64 (fP c), .int .i64 (fP d)])) (AL.i (Int.ofNat 0) AL.n))) h0 = some (.int .i64 (IQ [a, b, c, d]), h')
 rw [aFF h0 999998 _ 0 (by omega) i0 na (a := Int.ofNat 0) (by simp), aFF h0 999997 _ 1 (by omega) i1 nb (by simp; omega), aFF h0 999996 _ 2 (by omega) i2 nc (by simp; omega), aFF h0 999995 _ 3 (by omega) i3 nd (by simp; omega), aWZ]
 refine ⟨h0, ?_⟩
 simp only [IQ]
 have : Int.ofNat 0 + fP a + fP b + fP c + fP d = fP a + (fP b + (fP c + (fP d + 0))) := by
  show 0 + fP a + fP b + fP c + fP d = _
  omega
 rw [this]
def orZ (a b : Int) : Int := if a ≠ 0 then a else b
theorem aOK (h : Hp) {v : Value} (a b : Int) (r : bI.Rows h 1 v ([a, b].map cZ)) : aLC [v] h = some (.int .i64 (orZ a b)) := by
 have st : ∀ (n : Nat) (z : Int) (v : Value) (k i : Int), G.aN (ZH h) (n + 1) 1 (aD.i z (aD.v v (aD.i k (aD.i i aD.n)))) = PM h (G.aN (ZH h) n) z v k i := fun _ _ _ _ _ => rfl
 have st2 : ∀ (n : Nat) (z : Int), G.aN (ZH h) (n + 1) 2 (aD.i z aD.n) = some (.int .i64 z) := fun _ _ => rfl
 show plainO (aCR h (G.aN (ZH h) 999999) v) = _
 unfold aCR
 obtain ⟨p, hp, ap, _⟩ := r.at (i := 0) (r := cZ a) rfl
 obtain ⟨q, hq, aq, _⟩ := r.at (i := 1) (r := cZ b) rfl
 rw [r.len, show ((([a, b].map cZ).length : Nat) : Int) = 2 from rfl, st]
 unfold PM
 rw [aQ, aW, aH, if_pos (by decide), show (Int.ofNat 0) = ((0 : Nat) : Int) from rfl, hp, ap.j6 (x := .int .i64 a) rfl, aI, aR, cK, aH]
 unfold orZ
 by_cases c : a = 0
 ·rw [if_neg (by simp [c]), if_neg (by simp [c]), show Int.add ((0 : Nat) : Int) (Int.ofNat 1) = ((1 : Nat) : Int) from rfl, wrap64_in _ (by decide) (by decide), st]
  unfold PM
  rw [aQ, aW, aH, if_pos (by decide), hq, aq.j6 (x := .int .i64 b) rfl, aI, aR, cK, aH]
  by_cases c2 : b = 0
  ·rw [if_neg (by simp [c2]), show Int.add ((1 : Nat) : Int) (Int.ofNat 1) = ((2 : Nat) : Int) from rfl, wrap64_in _ (by decide) (by decide), st]
   unfold PM
   rw [aQ, aW, aH, if_neg (by decide), st2, c2]
   rfl
  ·rw [if_pos (by simpa using c2)]; rfl
 ·rw [if_pos (by simpa using c), if_pos c]; rfl
def MG (s : Rm) (a b : List (Nat × Nat)) : Int := orZ (aDC (kD s a) (kD s b)) (aDC (iL s a) (iL s b))
def vF (lk : List Value) : Value := .agg (Array.mk [.func (.func 102) (List.toArray [.agg (Array.mk lk)]) (List.toArray []), .func (.func 54) (List.toArray [.agg (Array.mk lk)]) (List.toArray [])])
theorem call102 (lk : List Value) (u : Value) (h : Hp) : qP IJ (.func (.func 102) (List.toArray [.agg (Array.mk lk)]) (List.toArray [])) [u] h = bQ aCP [.agg (Array.mk lk), u] h := rfl
theorem call54 (lk : List Value) (u : Value) (h : Hp) : qP IJ (.func (.func 54) (List.toArray [.agg (Array.mk lk)]) (List.toArray [])) [u] h = bR (F54 [.agg (Array.mk lk), u] h) (fun v => some (v, h)) := rfl
theorem RI {h : Hp} (w : Wf h) {s : Rm} (F : nI s) {lo : Nat} {lk : List Value} (V : GD lo h s lk) {u v : Value} {a b : List (Nat × Nat)} (sa : lV h 2 u (a.map iG)) (ha : QZ s a) (sb : lV h 2 v (b.map iG)) (hb : QZ s b) :
  ∃ h', aG2 [vF lk, u, v] h = some (.int .i64 (MG s a b), h') ∧ aV h h' := by
 have start : aG2 [vF lk, u, v] h = aCS (aN aLD 999999) (vF lk) u v h := rfl
 rw [start]
 unfold aCS vF
 rw [fF, bT]
 generalize hc : ([.func (.func 102) (List.toArray [.agg (Array.mk lk)]) (List.toArray []), .func (.func 54) (List.toArray [.agg (Array.mk lk)]) (List.toArray [])] : List Value) = cs
 have g0 : aV h (h.add (.cells cs 135 none)) := aV.add w _
 have a0 : At (h.add (.cells cs 135 none)) (.pointer (some ⟨h.next, 0, none⟩)) cs := At.new
 generalize h.add (.cells cs 135 none) = h0 at g0 a0 ⊢
 subst hc
 have az : At (dF h0) (.pointer (some ⟨h.next, 0, none⟩)) [.func (.func 102) (List.toArray [.agg (Array.mk lk)]) (List.toArray []), .func (.func 54) (List.toArray [.agg (Array.mk lk)]) (List.toArray [])] := a0
 have ws := fM g0.wf
 have Vs : GD lo (dF h0) s lk := V.sub g0.sub
 have sas : lV (dF h0) 2 u (a.map iG) := sa.sub g0.sub
 have sbs : lV (dF h0) 2 v (b.map iG) := sb.sub g0.sub
 obtain ⟨h1, e1⟩ := LP ws F Vs sas ha
 obtain ⟨h2, e2⟩ := LP ws F Vs sbs hb
 have c1 : bQ aCP [.agg (Array.mk lk), u] (dF h0) = some (.int .i64 (kD s a), dF h0) := bO e1 rfl
 have c2 : bQ aCP [.agg (Array.mk lk), v] (dF h0) = some (.int .i64 (kD s b), dF h0) := bO e2 rfl
 rw [show (Hp.mk (Hp.next h0) (Hp.next h0) (Hp.aC h0)) = dF h0 from rfl, az.wP 0 (x := .func (.func 102) (List.toArray [.agg (Array.mk lk)]) (List.toArray [])) rfl, call102, c1, aB, aI,
  az.wP 0 (x := .func (.func 102) (List.toArray [.agg (Array.mk lk)]) (List.toArray [])) rfl, call102, c2, aB, aI, UE, aM, aB, aI,
  az.wP 1 (x := .func (.func 54) (List.toArray [.agg (Array.mk lk)]) (List.toArray [])) rfl, call54, zF F Vs sas.rows ha, aM, aB, aI,
  az.wP 1 (x := .func (.func 54) (List.toArray [.agg (Array.mk lk)]) (List.toArray [])) rfl, call54, show (Hp.mk (Hp.next h0) (Hp.ro h0) (Hp.aC h0)) = h0 from rfl, zF F (V.sub g0.sub) (sb.sub g0.sub).rows hb, aM, aB, aI, UE, aM, aB, aI, bIK, aB]
 have g1 : aV h0 (h0.add (.cells [.int .i64 (aDC (kD s a) (kD s b)), .int .i64 (aDC (iL s a) (iL s b))] 3 none)) := aV.add g0.wf _
 have two : ∀ x y : Int, bI.Rows (h0.add (.cells [.int .i64 x, .int .i64 y] 3 none)) 1 (.slice (some ⟨h0.next, 0, none⟩) 2 2) ([x, y].map cZ) := fun x y => by
  refine lV.rows (.inr ⟨h0.next, _, 3, none, rfl, BP _ _, .inr rfl, fun i r hi => ?_⟩)
  cases i with
  | zero => simp at hi; subst hi; exact ⟨rfl, by simp, fun k x hx => by cases k with | zero => simpa [cZ] using hx | succ k => simp [cZ] at hx⟩
  | succ i => cases i with
   | zero => simp at hi; subst hi; exact ⟨rfl, by simp, fun k x hx => by cases k with | zero => simpa [cZ] using hx | succ k => simp [cZ] at hx⟩
   | succ i => simp at hi
 rw [aOK _ _ _ (two _ _), aM, aB, aI]
 exact ⟨_, rfl, g0.trans g1⟩
end Go.Proofs.Ytdpicdnpiihaaaa.K.L
