/- Contracts of told functions: the reference's Check. -/
import Derived.Test.YtepepiajmdpiiaaHaS11
open Go Go.Eng
set_option maxRecDepth 100000
set_option linter.unusedVariables false
namespace Go.Proofs.Ytepepiajmdpiiaa.K.L
theorem aIV (h : Hp) (n : Nat) (v : Value) (a i : Int) : G.aP (T50 h) (n + 1) 1 (aD.v v (aD.i a (aD.i i aD.n))) = WI h (G.aP (T50 h) n) v a i := rfl
theorem zM {h : Hp} {v : Value} {l : List Int} (sl : jZ h 1 v (l.map dL)) (most : Int) (hlen : l.length ≤ 900) : ∀ (m i n : Nat), i + m = l.length → m + 2 ≤ n → G.aP (T50 h) n 1 (aD.v v (aD.i most (aD.i (i : Int) aD.n))) = some (kY (lH (fun _ n => KA most n) l i (l.drop i)))
 | 0, i, n', him, hn => by
  obtain ⟨n, rfl⟩ : ∃ n, n' = n + 2 := ⟨n' - 2, by omega⟩
  rw [aIV]
  unfold WI
  rw [sl.rows.len, List.length_map, aU, bE, aJ, if_neg (by simp; omega), List.drop_of_length_le (by omega)]
  rfl
 | m + 1, i, n', him, hn => by
  obtain ⟨n, rfl⟩ : ∃ n, n' = n + 1 := ⟨n' - 1, by omega⟩
  have hi : i < l.length := by omega
  obtain ⟨q, hq, aq, _⟩ := sl.rows.at (i := i) (r := dL l[i]) (by rw [List.getElem?_map, List.getElem?_eq_getElem hi]; rfl)
  rw [aIV]
  unfold WI
  rw [sl.rows.len, List.length_map, aU, bE, aJ, if_pos (by simp; omega), hq, aq.jT (x := .int .i64 l[i]) rfl, aO, show (Int.ofNat 0) = (0 : Int) from rfl, FF, aR, bV, aZ, aJ, List.drop_eq_getElem_cons hi]
  unfold lH
  cases c : oU 0 most l[i] with
  | false =>
   have e : KA most l[i] = 7 := by unfold KA; rw [c]; rfl
   rw [if_pos (by rfl), e, if_neg (by decide)]; rfl
  | true =>
   have e : KA most l[i] = 0 := by unfold KA; rw [c]; rfl
   rw [if_neg (by simp), e, if_pos rfl, show Int.add (i : Int) (Int.ofNat 1) = ((i + 1 : Nat) : Int) from rfl, wrap64_in _ (by omega) (by omega)]
   exact zM sl most hlen m (i + 1) n (by omega) (by omega)
theorem FH {h : Hp} {v : Value} {l : List Int} (sl : jZ h 1 v (l.map dL)) {many : Int} (most : Int) (hm : many ≤ 900) : F50 [v, .int .i64 many, .int .i64 most] h = some (kY (lZ many most l)) := by
 show plainO (aB8 h (G.aP (T50 h) 999999) v many most) = _
 unfold aB8 lZ jD
 rw [sl.rows.len, List.length_map, show (Int.ofNat 1) = (1 : Int) from rfl, FF, aR, bV, aZ, aJ]
 by_cases c : l.length = 0
 ·have : oU 1 many (l.length : Int) = false := by rw [c]; rfl
  rw [this, if_pos (by rfl), if_pos c]; rfl
 by_cases c2 : many < (l.length : Int)
 ·have : oU 1 many (l.length : Int) = false := by
   cases e : oU 1 many (l.length : Int) with
   | false => rfl
   | true => have := nL.1 e; omega
  rw [this, if_pos (by rfl), if_neg c, if_pos c2]; rfl
 rw [nL.2 (show (1 : Int) ≤ (l.length : Int) ∧ (l.length : Int) ≤ many by omega), if_neg (by simp), if_neg c, if_neg c2, show (Int.ofNat 0) = ((0 : Nat) : Int) from rfl, zM sl most (by omega) l.length 0 999999 (by omega) (by omega), List.drop_zero]
 rfl
def okB (any : Bool) (hi n : Int) : Bool := (any && decide (n = -1)) || oU 0 hi n
def low (any : Bool) : Int := if any then -1 else 0
theorem aIW {any : Bool} {hi n : Int} (h : -1 ≤ hi) : okB any hi n = oU (low any) hi n := by
 rw [Bool.eq_iff_iff, nL]
 unfold okB low
 cases any with
 | false => simp only [Bool.false_and, Bool.false_or, Bool.false_eq_true, if_false]; exact nL
 | true =>
  simp only [Bool.true_and, if_true, Bool.or_eq_true, decide_eq_true_iff]
  rw [nL]; omega
theorem aIX (h : Hp) (n : Nat) (b : Bool) (i : Int) (a c d e f g : Value) (k : Int) : G.aP (BS h) (n + 1) 1 (aD.b b (aD.i i (aD.v a (aD.v c (aD.v d (aD.v e (aD.v f (aD.v g (aD.i k aD.n))))))))) = WJ h (G.aP (BS h) n) b i a c d e f g k := rfl
theorem aIY (h : Hp) (n : Nat) (b : Bool) (i : Int) (b2 : Bool) (a c d e f g : Value) (k : Int) : G.aP (BS h) (n + 1) 2 (aD.b b (aD.i i (aD.b b2 (aD.v a (aD.v c (aD.v d (aD.v e (aD.v f (aD.v g (aD.i k aD.n)))))))))) = WK h (G.aP (BS h) n) b i b2 a c d e f g k := rfl
theorem aIZ (h : Hp) (n : Nat) (b : Bool) (i : Int) (a c d e f g : Value) (k : Int) : G.aP (BS h) (n + 1) 3 (aD.b b (aD.i i (aD.v a (aD.v c (aD.v d (aD.v e (aD.v f (aD.v g (aD.i k aD.n))))))))) = WL h (G.aP (BS h) n) b i a c d e f g k := rfl
theorem aS3 (h : Hp) (n : Nat) (b : Bool) (f g : Value) (k : Int) : G.aP (BS h) (n + 1) 8 (aD.b b (aD.v f (aD.v g (aD.i k aD.n)))) = aB9 h (G.aP (BS h) n) b f g k := rfl
theorem aI0 (h : Hp) (n : Nat) (b : Bool) (i : Int) (f g : Value) (k : Int) : G.aP (BS h) (n + 1) 4 (aD.b b (aD.i i (aD.v f (aD.v g (aD.i k aD.n))))) = WM h (G.aP (BS h) n) b i f g k := rfl
theorem aS4 (h : Hp) (n : Nat) (b : Bool) (i : Int) (b2 : Bool) (f g : Value) (k : Int) : G.aP (BS h) (n + 1) 5 (aD.b b (aD.i i (aD.b b2 (aD.v f (aD.v g (aD.i k aD.n)))))) = aCA h (G.aP (BS h) n) b i b2 f g k := rfl
theorem aS5 (h : Hp) (n : Nat) (b : Bool) (i : Int) (f g : Value) (k : Int) : G.aP (BS h) (n + 1) 6 (aD.b b (aD.i i (aD.v f (aD.v g (aD.i k aD.n))))) = aCB h (G.aP (BS h) n) b i f g k := rfl
theorem aS6 (h : Hp) (n : Nat) (f g : Value) (k : Int) : G.aP (BS h) (n + 1) 7 (aD.v f (aD.v g (aD.i k aD.n))) = aCC h (G.aP (BS h) n) f g k := rfl
section
variable {h : Hp} {g : Lk} (a : OB h g) (any : Bool)
include a
theorem aO0 {i : Nat} (hi : i < g.lk.length) (n : Nat) (c d e f m : Value) (k : Int) : G.aP (BS h) (n + 1) 1 (aD.b any (aD.i (i : Int) (aD.v c (aD.v d (aD.v e (aD.v f (aD.v m (aD.v g.lv (aD.i k aD.n))))))))) = G.aP (BS h) n 2 (aD.b any (aD.i (i : Int) (aD.b (any && decide (g.lk[i] = -1)) (aD.v c (aD.v d (aD.v e (aD.v f (aD.v m (aD.v g.lv (aD.i k aD.n)))))))))) := by
 obtain ⟨q, hq, aq, _⟩ := a.rows.at (i := i) (r := dL g.lk[i]) (by rw [List.getElem?_map, List.getElem?_eq_getElem hi]; rfl)
 rw [aIX]
 unfold WJ
 rw [a.rows.len, List.length_map, aU, bE, aJ, if_pos (by simp; omega), aJ]
 cases any with
 | false => rw [if_neg (by simp), Bool.false_and]
 | true => rw [if_pos rfl, hq, aq.jT (x := .int .i64 g.lk[i]) rfl, aO, aU, dO, Bool.true_and]; rfl
variable (hlen : g.lk.length ≤ 100)
include hlen
theorem aO1 {i : Nat} (h0 : 0 < i) (n : Nat) (c d e f m : Value) (k : Int) : ∀ (j i : Nat), 0 < i → i + j = g.lk.length → G.aP (BS h) (n + 3 * j + 1) 1 (aD.b any (aD.i (i : Int) (aD.v c (aD.v d (aD.v e (aD.v f (aD.v m (aD.v g.lv (aD.i k aD.n))))))))) = G.aP (BS h) n 8 (aD.b any (aD.v m (aD.v g.lv (aD.i k aD.n))))
 | 0, i, hi0, hij => by
  rw [Nat.mul_zero, Nat.add_zero, aIX]
  unfold WJ
  rw [a.rows.len, List.length_map, aU, bE, aJ, if_neg (by simp; omega)]
 | j + 1, i, hi0, hij => by
  rw [show n + 3 * (j + 1) + 1 = (n + 3 * j + 1 + 1 + 1) + 1 by omega, aO0 a any (by omega), aIY]
  unfold WK
  rw [aU, dO, aJ, if_neg (by simp; omega), aIZ]
  unfold WL
  rw [show Int.add (i : Int) (Int.ofNat 1) = ((i + 1 : Nat) : Int) from rfl, wrap64_in _ (by omega) (by omega)]
  exact aO1 h0 n c d e f m k j (i + 1) (by omega) (by omega)
theorem aO2 (n : Nat) (m : Value) : ∀ (j i : Nat), i + j = g.lk.length → G.aP (BS h) (n + 3 * j + 2) 4 (aD.b any (aD.i (i : Int) (aD.v m (aD.v g.lv (aD.i g.iR aD.n))))) = some (.int .i64 (if (g.lk.drop i).all (okB any 5) && oU 0 50 g.iR then 0 else 7))
 | 0, i, hij => by
  rw [Nat.mul_zero, Nat.add_zero, aI0]
  unfold WM
  rw [a.rows.len, List.length_map, aU, bE, aJ, if_neg (by simp; omega), aS6, List.drop_of_length_le (by omega)]
  unfold aCC
  rw [show (Int.ofNat 0) = (0 : Int) from rfl, show (Int.ofNat 50) = (50 : Int) from rfl, FF, aR, bV, aZ, aJ]
  cases c : oU 0 50 g.iR <;> rfl
 | j + 1, i, hij => by
  have hi : i < g.lk.length := by omega
  obtain ⟨q, hq, aq, _⟩ := a.rows.at (i := i) (r := dL g.lk[i]) (by rw [List.getElem?_map, List.getElem?_eq_getElem hi]; rfl)
  have ih := aO2 n m j (i + 1) (by omega)
  have next : G.aP (BS h) (n + 3 * j + 2 + 1) 6 (aD.b any (aD.i (i : Int) (aD.v m (aD.v g.lv (aD.i g.iR aD.n))))) = some (.int .i64 (if (g.lk.drop (i + 1)).all (okB any 5) && oU 0 50 g.iR then 0 else 7)) := by
   rw [aS5]
   unfold aCB
   rw [show Int.add (i : Int) (Int.ofNat 1) = ((i + 1 : Nat) : Int) from rfl, wrap64_in _ (by omega) (by omega)]
   exact ih
  have five : ∀ b : Bool, G.aP (BS h) (n + 3 * j + 2 + 1 + 1) 5 (aD.b any (aD.i (i : Int) (aD.b b (aD.v m (aD.v g.lv (aD.i g.iR aD.n)))))) = some (.int .i64 (if (b || oU 0 5 g.lk[i]) && (g.lk.drop (i + 1)).all (okB any 5) && oU 0 50 g.iR then 0 else 7)) := by
   intro b
   rw [aS4]
   unfold aCA
   rw [aZ, aJ]
   cases b with
   | true => rw [if_neg (by simp), next]; simp
   | false =>
    rw [if_pos (by rfl), hq, aq.jT (x := .int .i64 g.lk[i]) rfl, aO, show (Int.ofNat 0) = (0 : Int) from rfl, show (Int.ofNat 5) = (5 : Int) from rfl, FF, aR, bV, aZ, aJ]
    cases c : oU 0 5 g.lk[i] with
    | false => rw [if_pos (by rfl)]; simp
    | true => rw [if_neg (by simp), next]; simp
  rw [show n + 3 * (j + 1) + 2 = (n + 3 * j + 2 + 1 + 1) + 1 by omega, aI0]
  unfold WM
  rw [a.rows.len, List.length_map, aU, bE, aJ, if_pos (by simp; omega), aJ, List.drop_eq_getElem_cons hi, List.all_cons]
  unfold okB
  cases any with
  | false => rw [if_neg (by simp), five, Bool.false_and]; rfl
  | true => rw [if_pos rfl, hq, aq.jT (x := .int .i64 g.lk[i]) rfl, aO, aU, dO, five, Bool.true_and]; rfl
end
def aCD (nc no : Nat) (any : Bool) (g : Lk) : Int := if (g.lk.length : Int) ≠ (nc : Int) then 3 else if !(okB any ((no : Int) - 1) (eU g)) then 4 else if g.lk.tail.all (okB any 5) && oU 0 50 g.iR then 0 else 7
theorem aAF {h : Hp} {vc vo vf vp : Value} {rc ro : List (List Value)} (sc : jZ h 1 vc rc) (so : jZ h 1 vo ro) {nc no : Nat} (ec : rc.length = nc) (eo : ro.length = no) (hc : 0 < nc ∧ nc ≤ 100) (ho : no ≤ 100) (any : Bool) (g : Lk) (a : OB h g) :
  F89 [.agg (Array.mk (iF vc vo vf vp)), .agg (Array.mk g.row), .bool any] h = some (.int .i64 (aCD nc no any g)) := by
 show plainO (aCE h (G.aP (BS h) 999999) (.agg (Array.mk (iF vc vo vf vp))) (.agg (Array.mk g.row)) any) = _
 unfold aCE aCD
 rw [iT, iT, lQ, lQ, sG _ _ 1 g.lv rfl, a.rows.len, List.length_map, sG _ _ 0 vc rfl, sc.rows.len, ec, aZ, dO, aJ]
 by_cases c : (g.lk.length : Int) = (nc : Int)
 case neg => rw [if_pos (by simpa using c), if_pos c]; rfl
 rw [if_neg (by simpa using c), if_neg (by simpa using c)]
 have hlen : g.lk.length ≤ 100 := by omega
 obtain ⟨k, ek⟩ : ∃ k, g.lk.length = k + 1 := ⟨g.lk.length - 1, by omega⟩
 have hh := BA ek
 have h0 : g.lk[0]'(by omega) = eU g := by rw [List.getElem?_eq_getElem (by omega)] at hh; simpa using hh
 obtain ⟨q, hq, aq, _⟩ := a.rows.at (i := 0) (r := dL (eU g)) (by rw [List.getElem?_map, hh]; rfl)
 obtain ⟨N, hN⟩ : ∃ N, 999999 = (N + 3 * k + 2 + 1) + 3 * k + 1 + 1 + 1 + 1 := ⟨999999 - 6 * k - 7, by omega⟩
 have unc : ∀ (R : Option Value) (w : Nat), w = 999999 → (G.aP (BS h) w 1 (aD.b any (aD.i (Int.ofNat 0) (aD.v vc (aD.v vo (aD.v vf (aD.v vp (aD.v (.string g.nm) (aD.v g.lv (aD.i g.iR aD.n))))))))) = R) → plainO (G.aP (BS h) 999999 1 (aD.b any (aD.i (Int.ofNat 0) (aD.v vc (aD.v vo (aD.v vf (aD.v vp (aD.v (.string g.nm) (aD.v g.lv (aD.i g.iR aD.n)))))))))) = plainO R := by
  intro R w e e2; rw [← e, e2]
 have fin : (G.aP (BS h) ((N + 3 * k + 2 + 1) + 3 * k + 1 + 1 + 1 + 1) 1 (aD.b any (aD.i (Int.ofNat 0) (aD.v vc (aD.v vo (aD.v vf (aD.v vp (aD.v (.string g.nm) (aD.v g.lv (aD.i g.iR aD.n)))))))))) = some (.int .i64 (if !(okB any ((no : Int) - 1) (eU g)) then 4 else if g.lk.tail.all (okB any 5) && oU 0 50 g.iR then 0 else 7)) := by
  have three : G.aP (BS h) ((N + 3 * k + 2 + 1) + 3 * k + 1 + 1) 3 (aD.b any (aD.i (Int.ofNat 0) (aD.v vc (aD.v vo (aD.v vf (aD.v vp (aD.v (.string g.nm) (aD.v g.lv (aD.i g.iR aD.n))))))))) = some (.int .i64 (if g.lk.tail.all (okB any 5) && oU 0 50 g.iR then 0 else 7)) := by
   rw [aIZ]
   unfold WL
   rw [show Int.add (Int.ofNat 0) (Int.ofNat 1) = ((1 : Nat) : Int) from rfl, wrap64_in _ (by omega) (by omega), aO1 a any hlen (i := 1) (by omega) (N + 3 * k + 2 + 1) vc vo vf vp (.string g.nm) g.iR k 1 (by omega) (by omega), aS3]
   unfold aB9
   rw [show (Int.ofNat 1) = ((1 : Nat) : Int) from rfl, aO2 a any hlen N (.string g.nm) k 1 (by omega), List.drop_one]
  rw [show (Int.ofNat 0) = ((0 : Nat) : Int) from rfl, aO0 a any (by omega), aIY]
  unfold WK
  rw [aU, dO, aJ, if_pos (by simp), aZ, aJ, h0]
  unfold okB
  cases x1 : (any && decide (eU g = -1)) with
  | true => rw [if_neg (by simp), Bool.true_or, if_neg (by simp)]; exact three
  | false =>
   rw [if_pos (by rfl), Bool.false_or, hq, aq.jT (x := .int .i64 (eU g)) rfl, aO, so.rows.len, eo, show Int.sub (no : Int) (Int.ofNat 1) = (no : Int) - 1 from rfl, wrap64_in _ (by omega) (by omega), show (Int.ofNat 0) = (0 : Int) from rfl, FF, aR, bV, aZ, aJ]
   cases x2 : oU 0 ((no : Int) - 1) (eU g) with
   | false => rw [if_pos (by rfl), if_pos (by rfl)]; rfl
   | true => rw [if_neg (by simp), if_neg (by simp)]; exact three
 refine (unc _ _ hN.symm fin).trans ?_
 rfl
end Go.Proofs.Ytepepiajmdpiiaa.K.L
