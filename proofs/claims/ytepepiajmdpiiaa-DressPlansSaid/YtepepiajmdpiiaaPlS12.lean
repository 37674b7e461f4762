/- Contracts of told functions: the reference's Check. -/
import Derived.Test.YtepepiajmdpiiaaPlS11
open Go Go.Eng
set_option maxRecDepth 100000
set_option linter.unusedVariables false
namespace Go.Proofs.Ytepepiajmdpiiaa.K.L
theorem aJL (h : Hp) (n : Nat) (v : Value) (a i : Int) : G.aK (T50 h) (n + 1) 1 (aC.v v (aC.i a (aC.i i aC.n))) = WU h (G.aK (T50 h) n) v a i := rfl
theorem zH {h : Hp} {v : Value} {l : List Int} (sl : jE h 1 v (l.map bF)) (most : Int) (hlen : l.length ≤ 900) : ∀ (m i n : Nat), i + m = l.length → m + 2 ≤ n → G.aK (T50 h) n 1 (aC.v v (aC.i most (aC.i (i : Int) aC.n))) = some (jU (kZ (fun _ n => KC most n) l i (l.drop i)))
 | 0, i, n', him, hn => by
  obtain ⟨n, rfl⟩ : ∃ n, n' = n + 2 := ⟨n' - 2, by omega⟩
  rw [aJL]
  unfold WU
  rw [sl.rows.len, List.length_map, aM, aU, aH, if_neg (by simp; omega), List.drop_of_length_le (by omega)]
  rfl
 | m + 1, i, n', him, hn => by
  obtain ⟨n, rfl⟩ : ∃ n, n' = n + 1 := ⟨n' - 1, by omega⟩
  have hi : i < l.length := by omega
  obtain ⟨q, hq, aq, _⟩ := sl.rows.at (i := i) (r := bF l[i]) (by rw [List.getElem?_map, List.getElem?_eq_getElem hi]; rfl)
  rw [aJL]
  unfold WU
  rw [sl.rows.len, List.length_map, aM, aU, aH, if_pos (by simp; omega), hq, aq.gT (x := .int .i64 l[i]) rfl, aJ, show (Int.ofNat 0) = (0 : Int) from rfl, AV, aO, bK, aT, aH, List.drop_eq_getElem_cons hi]
  unfold kZ
  cases c : oF 0 most l[i] with
  | false =>
   have e : KC most l[i] = 7 := by unfold KC; rw [c]; rfl
   rw [if_pos (by rfl), e, if_neg (by decide)]; rfl
  | true =>
   have e : KC most l[i] = 0 := by unfold KC; rw [c]; rfl
   rw [if_neg (by simp), e, if_pos rfl, show Int.add (i : Int) (Int.ofNat 1) = ((i + 1 : Nat) : Int) from rfl, wrap64_in _ (by omega) (by omega)]
   exact zH sl most hlen m (i + 1) n (by omega) (by omega)
theorem E8 {h : Hp} {v : Value} {l : List Int} (sl : jE h 1 v (l.map bF)) {many : Int} (most : Int) (hm : many ≤ 900) : F50 [v, .int .i64 many, .int .i64 most] h = some (jU (lQ many most l)) := by
 show plainO (aCN h (G.aK (T50 h) 999999) v many most) = _
 unfold aCN lQ jB
 rw [sl.rows.len, List.length_map, show (Int.ofNat 1) = (1 : Int) from rfl, AV, aO, bK, aT, aH]
 by_cases c : l.length = 0
 ·have : oF 1 many (l.length : Int) = false := by rw [c]; rfl
  rw [this, if_pos (by rfl), if_pos c]; rfl
 by_cases c2 : many < (l.length : Int)
 ·have : oF 1 many (l.length : Int) = false := by
   cases e : oF 1 many (l.length : Int) with
   | false => rfl
   | true => have := oV.1 e; omega
  rw [this, if_pos (by rfl), if_neg c, if_pos c2]; rfl
 rw [oV.2 (show (1 : Int) ≤ (l.length : Int) ∧ (l.length : Int) ≤ many by omega), if_neg (by simp), if_neg c, if_neg c2, show (Int.ofNat 0) = ((0 : Nat) : Int) from rfl, zH sl most (by omega) l.length 0 999999 (by omega) (by omega), List.drop_zero]
 rfl
def okB (any : Bool) (hi n : Int) : Bool := (any && decide (n = -1)) || oF 0 hi n
def low (any : Bool) : Int := if any then -1 else 0
theorem aJM {any : Bool} {hi n : Int} (h : -1 ≤ hi) : okB any hi n = oF (low any) hi n := by
 rw [Bool.eq_iff_iff, oV]
 unfold okB low
 cases any with
 | false => simp only [Bool.false_and, Bool.false_or, Bool.false_eq_true, if_false]; exact oV
 | true =>
  simp only [Bool.true_and, if_true, Bool.or_eq_true, decide_eq_true_iff]
  rw [oV]; omega
theorem aJN (h : Hp) (n : Nat) (b : Bool) (i : Int) (a c d e f g : Value) (k : Int) : G.aK (BN h) (n + 1) 1 (aC.b b (aC.i i (aC.v a (aC.v c (aC.v d (aC.v e (aC.v f (aC.v g (aC.i k aC.n))))))))) = WV h (G.aK (BN h) n) b i a c d e f g k := rfl
theorem aJO (h : Hp) (n : Nat) (b : Bool) (i : Int) (b2 : Bool) (a c d e f g : Value) (k : Int) : G.aK (BN h) (n + 1) 2 (aC.b b (aC.i i (aC.b b2 (aC.v a (aC.v c (aC.v d (aC.v e (aC.v f (aC.v g (aC.i k aC.n)))))))))) = WW h (G.aK (BN h) n) b i b2 a c d e f g k := rfl
theorem aJP (h : Hp) (n : Nat) (b : Bool) (i : Int) (a c d e f g : Value) (k : Int) : G.aK (BN h) (n + 1) 3 (aC.b b (aC.i i (aC.v a (aC.v c (aC.v d (aC.v e (aC.v f (aC.v g (aC.i k aC.n))))))))) = WX h (G.aK (BN h) n) b i a c d e f g k := rfl
theorem aSV (h : Hp) (n : Nat) (b : Bool) (f g : Value) (k : Int) : G.aK (BN h) (n + 1) 8 (aC.b b (aC.v f (aC.v g (aC.i k aC.n)))) = aCO h (G.aK (BN h) n) b f g k := rfl
theorem aJQ (h : Hp) (n : Nat) (b : Bool) (i : Int) (f g : Value) (k : Int) : G.aK (BN h) (n + 1) 4 (aC.b b (aC.i i (aC.v f (aC.v g (aC.i k aC.n))))) = WY h (G.aK (BN h) n) b i f g k := rfl
theorem aSW (h : Hp) (n : Nat) (b : Bool) (i : Int) (b2 : Bool) (f g : Value) (k : Int) : G.aK (BN h) (n + 1) 5 (aC.b b (aC.i i (aC.b b2 (aC.v f (aC.v g (aC.i k aC.n)))))) = aCP h (G.aK (BN h) n) b i b2 f g k := rfl
theorem aSX (h : Hp) (n : Nat) (b : Bool) (i : Int) (f g : Value) (k : Int) : G.aK (BN h) (n + 1) 6 (aC.b b (aC.i i (aC.v f (aC.v g (aC.i k aC.n))))) = aCQ h (G.aK (BN h) n) b i f g k := rfl
theorem aSY (h : Hp) (n : Nat) (f g : Value) (k : Int) : G.aK (BN h) (n + 1) 7 (aC.v f (aC.v g (aC.i k aC.n))) = aCR h (G.aK (BN h) n) f g k := rfl
section
variable {h : Hp} {g : Lk} (a : E9 h g) (any : Bool)
include a
theorem aP3 {i : Nat} (hi : i < g.lk.length) (n : Nat) (c d e f m : Value) (k : Int) : G.aK (BN h) (n + 1) 1 (aC.b any (aC.i (i : Int) (aC.v c (aC.v d (aC.v e (aC.v f (aC.v m (aC.v g.lv (aC.i k aC.n))))))))) = G.aK (BN h) n 2 (aC.b any (aC.i (i : Int) (aC.b (any && decide (g.lk[i] = -1)) (aC.v c (aC.v d (aC.v e (aC.v f (aC.v m (aC.v g.lv (aC.i k aC.n)))))))))) := by
 obtain ⟨q, hq, aq, _⟩ := a.rows.at (i := i) (r := bF g.lk[i]) (by rw [List.getElem?_map, List.getElem?_eq_getElem hi]; rfl)
 rw [aJN]
 unfold WV
 rw [a.rows.len, List.length_map, aM, aU, aH, if_pos (by simp; omega), aH]
 cases any with
 | false => rw [if_neg (by simp), Bool.false_and]
 | true => rw [if_pos rfl, hq, aq.gT (x := .int .i64 g.lk[i]) rfl, aJ, aM, bR, Bool.true_and]; rfl
variable (hlen : g.lk.length ≤ 100)
include hlen
theorem aP4 {i : Nat} (h0 : 0 < i) (n : Nat) (c d e f m : Value) (k : Int) : ∀ (j i : Nat), 0 < i → i + j = g.lk.length → G.aK (BN h) (n + 3 * j + 1) 1 (aC.b any (aC.i (i : Int) (aC.v c (aC.v d (aC.v e (aC.v f (aC.v m (aC.v g.lv (aC.i k aC.n))))))))) = G.aK (BN h) n 8 (aC.b any (aC.v m (aC.v g.lv (aC.i k aC.n))))
 | 0, i, hi0, hij => by
  rw [Nat.mul_zero, Nat.add_zero, aJN]
  unfold WV
  rw [a.rows.len, List.length_map, aM, aU, aH, if_neg (by simp; omega)]
 | j + 1, i, hi0, hij => by
  rw [show n + 3 * (j + 1) + 1 = (n + 3 * j + 1 + 1 + 1) + 1 by omega, aP3 a any (by omega), aJO]
  unfold WW
  rw [aM, bR, aH, if_neg (by simp; omega), aJP]
  unfold WX
  rw [show Int.add (i : Int) (Int.ofNat 1) = ((i + 1 : Nat) : Int) from rfl, wrap64_in _ (by omega) (by omega)]
  exact aP4 h0 n c d e f m k j (i + 1) (by omega) (by omega)
theorem aP5 (n : Nat) (m : Value) : ∀ (j i : Nat), i + j = g.lk.length → G.aK (BN h) (n + 3 * j + 2) 4 (aC.b any (aC.i (i : Int) (aC.v m (aC.v g.lv (aC.i g.iM aC.n))))) = some (.int .i64 (if (g.lk.drop i).all (okB any 5) && oF 0 50 g.iM then 0 else 7))
 | 0, i, hij => by
  rw [Nat.mul_zero, Nat.add_zero, aJQ]
  unfold WY
  rw [a.rows.len, List.length_map, aM, aU, aH, if_neg (by simp; omega), aSY, List.drop_of_length_le (by omega)]
  unfold aCR
  rw [show (Int.ofNat 0) = (0 : Int) from rfl, show (Int.ofNat 50) = (50 : Int) from rfl, AV, aO, bK, aT, aH]
  cases c : oF 0 50 g.iM <;> rfl
 | j + 1, i, hij => by
  have hi : i < g.lk.length := by omega
  obtain ⟨q, hq, aq, _⟩ := a.rows.at (i := i) (r := bF g.lk[i]) (by rw [List.getElem?_map, List.getElem?_eq_getElem hi]; rfl)
  have ih := aP5 n m j (i + 1) (by omega)
  have next : G.aK (BN h) (n + 3 * j + 2 + 1) 6 (aC.b any (aC.i (i : Int) (aC.v m (aC.v g.lv (aC.i g.iM aC.n))))) = some (.int .i64 (if (g.lk.drop (i + 1)).all (okB any 5) && oF 0 50 g.iM then 0 else 7)) := by
   rw [aSX]
   unfold aCQ
   rw [show Int.add (i : Int) (Int.ofNat 1) = ((i + 1 : Nat) : Int) from rfl, wrap64_in _ (by omega) (by omega)]
   exact ih
  have five : ∀ b : Bool, G.aK (BN h) (n + 3 * j + 2 + 1 + 1) 5 (aC.b any (aC.i (i : Int) (aC.b b (aC.v m (aC.v g.lv (aC.i g.iM aC.n)))))) = some (.int .i64 (if (b || oF 0 5 g.lk[i]) && (g.lk.drop (i + 1)).all (okB any 5) && oF 0 50 g.iM then 0 else 7)) := by
   intro b
   rw [aSW]
   unfold aCP
   rw [aT, aH]
   cases b with
   | true => rw [if_neg (by simp), next]; simp
   | false =>
    rw [if_pos (by rfl), hq, aq.gT (x := .int .i64 g.lk[i]) rfl, aJ, show (Int.ofNat 0) = (0 : Int) from rfl, show (Int.ofNat 5) = (5 : Int) from rfl, AV, aO, bK, aT, aH]
    cases c : oF 0 5 g.lk[i] with
    | false => rw [if_pos (by rfl)]; simp
    | true => rw [if_neg (by simp), next]; simp
  rw [show n + 3 * (j + 1) + 2 = (n + 3 * j + 2 + 1 + 1) + 1 by omega, aJQ]
  unfold WY
  rw [a.rows.len, List.length_map, aM, aU, aH, if_pos (by simp; omega), aH, List.drop_eq_getElem_cons hi, List.all_cons]
  unfold okB
  cases any with
  | false => rw [if_neg (by simp), five, Bool.false_and]; rfl
  | true => rw [if_pos rfl, hq, aq.gT (x := .int .i64 g.lk[i]) rfl, aJ, aM, bR, five, Bool.true_and]; rfl
end
def aCS (nc no : Nat) (any : Bool) (g : Lk) : Int := if (g.lk.length : Int) ≠ (nc : Int) then 3 else if !(okB any ((no : Int) - 1) (eD g)) then 4 else if g.lk.tail.all (okB any 5) && oF 0 50 g.iM then 0 else 7
theorem aAS {h : Hp} {vc vo vf vp : Value} {rc ro : List (List Value)} (sc : jE h 1 vc rc) (so : jE h 1 vo ro) {nc no : Nat} (ec : rc.length = nc) (eo : ro.length = no) (hc : 0 < nc ∧ nc ≤ 100) (ho : no ≤ 100) (any : Bool) (g : Lk) (a : E9 h g) :
  F89 [.agg (Array.mk (fV vc vo vf vp)), .agg (Array.mk g.row), .bool any] h = some (.int .i64 (aCS nc no any g)) := by
 show plainO (aCT h (G.aK (BN h) 999999) (.agg (Array.mk (fV vc vo vf vp))) (.agg (Array.mk g.row)) any) = _
 unfold aCT aCS
 rw [dS, dS, j6, j6, oO _ _ 1 g.lv rfl, a.rows.len, List.length_map, oO _ _ 0 vc rfl, sc.rows.len, ec, aT, bR, aH]
 by_cases c : (g.lk.length : Int) = (nc : Int)
 case neg => rw [if_pos (by simpa using c), if_pos c]; rfl
 rw [if_neg (by simpa using c), if_neg (by simpa using c)]
 have hlen : g.lk.length ≤ 100 := by omega
 obtain ⟨k, ek⟩ : ∃ k, g.lk.length = k + 1 := ⟨g.lk.length - 1, by omega⟩
 have hh := AX ek
 have h0 : g.lk[0]'(by omega) = eD g := by rw [List.getElem?_eq_getElem (by omega)] at hh; simpa using hh
 obtain ⟨q, hq, aq, _⟩ := a.rows.at (i := 0) (r := bF (eD g)) (by rw [List.getElem?_map, hh]; rfl)
 obtain ⟨N, hN⟩ : ∃ N, 999999 = (N + 3 * k + 2 + 1) + 3 * k + 1 + 1 + 1 + 1 := ⟨999999 - 6 * k - 7, by omega⟩
 have unc : ∀ (R : Option Value) (w : Nat), w = 999999 → (G.aK (BN h) w 1 (aC.b any (aC.i (Int.ofNat 0) (aC.v vc (aC.v vo (aC.v vf (aC.v vp (aC.v (.string g.nm) (aC.v g.lv (aC.i g.iM aC.n))))))))) = R) → plainO (G.aK (BN h) 999999 1 (aC.b any (aC.i (Int.ofNat 0) (aC.v vc (aC.v vo (aC.v vf (aC.v vp (aC.v (.string g.nm) (aC.v g.lv (aC.i g.iM aC.n)))))))))) = plainO R := by
  intro R w e e2; rw [← e, e2]
 have fin : (G.aK (BN h) ((N + 3 * k + 2 + 1) + 3 * k + 1 + 1 + 1 + 1) 1 (aC.b any (aC.i (Int.ofNat 0) (aC.v vc (aC.v vo (aC.v vf (aC.v vp (aC.v (.string g.nm) (aC.v g.lv (aC.i g.iM aC.n)))))))))) = some (.int .i64 (if !(okB any ((no : Int) - 1) (eD g)) then 4 else if g.lk.tail.all (okB any 5) && oF 0 50 g.iM then 0 else 7)) := by
  have three : G.aK (BN h) ((N + 3 * k + 2 + 1) + 3 * k + 1 + 1) 3 (aC.b any (aC.i (Int.ofNat 0) (aC.v vc (aC.v vo (aC.v vf (aC.v vp (aC.v (.string g.nm) (aC.v g.lv (aC.i g.iM aC.n))))))))) = some (.int .i64 (if g.lk.tail.all (okB any 5) && oF 0 50 g.iM then 0 else 7)) := by
   rw [aJP]
   unfold WX
   rw [show Int.add (Int.ofNat 0) (Int.ofNat 1) = ((1 : Nat) : Int) from rfl, wrap64_in _ (by omega) (by omega), aP4 a any hlen (i := 1) (by omega) (N + 3 * k + 2 + 1) vc vo vf vp (.string g.nm) g.iM k 1 (by omega) (by omega), aSV]
   unfold aCO
   rw [show (Int.ofNat 1) = ((1 : Nat) : Int) from rfl, aP5 a any hlen N (.string g.nm) k 1 (by omega), List.drop_one]
  rw [show (Int.ofNat 0) = ((0 : Nat) : Int) from rfl, aP3 a any (by omega), aJO]
  unfold WW
  rw [aM, bR, aH, if_pos (by simp), aT, aH, h0]
  unfold okB
  cases x1 : (any && decide (eD g = -1)) with
  | true => rw [if_neg (by simp), Bool.true_or, if_neg (by simp)]; exact three
  | false =>
   rw [if_pos (by rfl), Bool.false_or, hq, aq.gT (x := .int .i64 (eD g)) rfl, aJ, so.rows.len, eo, show Int.sub (no : Int) (Int.ofNat 1) = (no : Int) - 1 from rfl, wrap64_in _ (by omega) (by omega), show (Int.ofNat 0) = (0 : Int) from rfl, AV, aO, bK, aT, aH]
   cases x2 : oF 0 ((no : Int) - 1) (eD g) with
   | false => rw [if_pos (by rfl), if_pos (by rfl)]; rfl
   | true => rw [if_neg (by simp), if_neg (by simp)]; exact three
 refine (unc _ _ hN.symm fin).trans ?_
 rfl
end Go.Proofs.Ytepepiajmdpiiaa.K.L
