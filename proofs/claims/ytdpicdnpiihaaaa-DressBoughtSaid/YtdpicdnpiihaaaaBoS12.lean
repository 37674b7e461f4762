/- Contracts of told functions: the reference's Check. -/
import Derived.Test.YtdpicdnpiihaaaaBoS11
open Go Go.bK
set_option maxRecDepth 100000
set_option linter.unusedVariables false
namespace Go.Proofs.Ytdpicdnpiihaaaa.K.L
theorem aMW (h : Hp) (n : Nat) (v : Value) (a i : Int) : G.aK (T50 h) (n + 1) 1 (aD.v v (aD.i a (aD.i i aD.n))) = aD2 h (G.aK (T50 h) n) v a i := rfl
theorem BR {h : Hp} {v : Value} {l : List Int} (sl : kR h 1 v (l.map cZ)) (most : Int) (hlen : l.length ≤ 900) : ∀ (m i n : Nat), i + m = l.length → m + 2 ≤ n → G.aK (T50 h) n 1 (aD.v v (aD.i most (aD.i (i : Int) aD.n))) = some (lS (l8 (fun _ n => LZ most n) l i (l.drop i)))
 | 0, i, n', him, hn => by
  obtain ⟨n, rfl⟩ : ∃ n, n' = n + 2 := ⟨n' - 2, by omega⟩
  rw [aMW]
  unfold aD2
  rw [sl.rows.len, List.length_map, aM, aU, aG, if_neg (by simp; omega), List.drop_of_length_le (by omega)]
  rfl
 | m + 1, i, n', him, hn => by
  obtain ⟨n, rfl⟩ : ∃ n, n' = n + 1 := ⟨n' - 1, by omega⟩
  have hi : i < l.length := by omega
  obtain ⟨q, hq, aq, _⟩ := sl.rows.at (i := i) (r := cZ l[i]) (by rw [List.getElem?_map, List.getElem?_eq_getElem hi]; rfl)
  rw [aMW]
  unfold aD2
  rw [sl.rows.len, List.length_map, aM, aU, aG, if_pos (by simp; omega), hq, aq.jT (x := .int .i64 l[i]) rfl, aH, show (Int.ofNat 0) = (0 : Int) from rfl, IC, aJ, aW, aQ, aG, List.drop_eq_getElem_cons hi]
  unfold l8
  cases c : rZ 0 most l[i] with
  | false =>
   have e : LZ most l[i] = 7 := by unfold LZ; rw [c]; rfl
   rw [if_pos (by rfl), e, if_neg (by decide)]; rfl
  | true =>
   have e : LZ most l[i] = 0 := by unfold LZ; rw [c]; rfl
   rw [if_neg (by simp), e, if_pos rfl, show Int.add (i : Int) (Int.ofNat 1) = ((i + 1 : Nat) : Int) from rfl, wrap64_in _ (by omega) (by omega)]
   exact BR sl most hlen m (i + 1) n (by omega) (by omega)
theorem IE {h : Hp} {v : Value} {l : List Int} (sl : kR h 1 v (l.map cZ)) {many : Int} (most : Int) (hm : many ≤ 900) : F50 [v, .int .i64 many, .int .i64 most] h = some (lS (mY many most l)) := by
 show plainO (aLH h (G.aK (T50 h) 999999) v many most) = _
 unfold aLH mY jO
 rw [sl.rows.len, List.length_map, show (Int.ofNat 1) = (1 : Int) from rfl, IC, aJ, aW, aQ, aG]
 by_cases c : l.length = 0
 ·have : rZ 1 many (l.length : Int) = false := by rw [c]; rfl
  rw [this, if_pos (by rfl), if_pos c]; rfl
 by_cases c2 : many < (l.length : Int)
 ·have : rZ 1 many (l.length : Int) = false := by
   cases e : rZ 1 many (l.length : Int) with
   | false => rfl
   | true => have := sW.1 e; omega
  rw [this, if_pos (by rfl), if_neg c, if_pos c2]; rfl
 rw [sW.2 (show (1 : Int) ≤ (l.length : Int) ∧ (l.length : Int) ≤ many by omega), if_neg (by simp), if_neg c, if_neg c2, show (Int.ofNat 0) = ((0 : Nat) : Int) from rfl, BR sl most (by omega) l.length 0 999999 (by omega) (by omega), List.drop_zero]
 rfl
def okB (any : Bool) (hi n : Int) : Bool := (any && decide (n = -1)) || rZ 0 hi n
def low (any : Bool) : Int := if any then -1 else 0
theorem aMX {any : Bool} {hi n : Int} (h : -1 ≤ hi) : okB any hi n = rZ (low any) hi n := by
 rw [Bool.eq_iff_iff, sW]
 unfold okB low
 cases any with
 | false => simp only [Bool.false_and, Bool.false_or, Bool.false_eq_true, if_false]; exact sW
 | true =>
  simp only [Bool.true_and, if_true, Bool.or_eq_true, decide_eq_true_iff]
  rw [sW]; omega
theorem aMY (h : Hp) (n : Nat) (b : Bool) (i : Int) (a c d e f g : Value) (k : Int) : G.aK (EH h) (n + 1) 1 (aD.b b (aD.i i (aD.v a (aD.v c (aD.v d (aD.v e (aD.v f (aD.v g (aD.i k aD.n))))))))) = aD6 h (G.aK (EH h) n) b i a c d e f g k := rfl
theorem aMZ (h : Hp) (n : Nat) (b : Bool) (i : Int) (b2 : Bool) (a c d e f g : Value) (k : Int) : G.aK (EH h) (n + 1) 2 (aD.b b (aD.i i (aD.b b2 (aD.v a (aD.v c (aD.v d (aD.v e (aD.v f (aD.v g (aD.i k aD.n)))))))))) = aD5 h (G.aK (EH h) n) b i b2 a c d e f g k := rfl
theorem aM0 (h : Hp) (n : Nat) (b : Bool) (i : Int) (a c d e f g : Value) (k : Int) : G.aK (EH h) (n + 1) 3 (aD.b b (aD.i i (aD.v a (aD.v c (aD.v d (aD.v e (aD.v f (aD.v g (aD.i k aD.n))))))))) = aD4 h (G.aK (EH h) n) b i a c d e f g k := rfl
theorem aVE (h : Hp) (n : Nat) (b : Bool) (f g : Value) (k : Int) : G.aK (EH h) (n + 1) 8 (aD.b b (aD.v f (aD.v g (aD.i k aD.n)))) = aLU h (G.aK (EH h) n) b f g k := rfl
theorem aM1 (h : Hp) (n : Nat) (b : Bool) (i : Int) (f g : Value) (k : Int) : G.aK (EH h) (n + 1) 4 (aD.b b (aD.i i (aD.v f (aD.v g (aD.i k aD.n))))) = aD3 h (G.aK (EH h) n) b i f g k := rfl
theorem aVF (h : Hp) (n : Nat) (b : Bool) (i : Int) (b2 : Bool) (f g : Value) (k : Int) : G.aK (EH h) (n + 1) 5 (aD.b b (aD.i i (aD.b b2 (aD.v f (aD.v g (aD.i k aD.n)))))) = aLT h (G.aK (EH h) n) b i b2 f g k := rfl
theorem aVG (h : Hp) (n : Nat) (b : Bool) (i : Int) (f g : Value) (k : Int) : G.aK (EH h) (n + 1) 6 (aD.b b (aD.i i (aD.v f (aD.v g (aD.i k aD.n))))) = aLS h (G.aK (EH h) n) b i f g k := rfl
theorem aVH (h : Hp) (n : Nat) (f g : Value) (k : Int) : G.aK (EH h) (n + 1) 7 (aD.v f (aD.v g (aD.i k aD.n))) = aLR h (G.aK (EH h) n) f g k := rfl
section
variable {h : Hp} {g : Lk} (a : PI h g) (any : Bool)
include a
theorem aSV {i : Nat} (hi : i < g.lk.length) (n : Nat) (c d e f m : Value) (k : Int) : G.aK (EH h) (n + 1) 1 (aD.b any (aD.i (i : Int) (aD.v c (aD.v d (aD.v e (aD.v f (aD.v m (aD.v g.lv (aD.i k aD.n))))))))) = G.aK (EH h) n 2 (aD.b any (aD.i (i : Int) (aD.b (any && decide (g.lk[i] = -1)) (aD.v c (aD.v d (aD.v e (aD.v f (aD.v m (aD.v g.lv (aD.i k aD.n)))))))))) := by
 obtain ⟨q, hq, aq, _⟩ := a.rows.at (i := i) (r := cZ g.lk[i]) (by rw [List.getElem?_map, List.getElem?_eq_getElem hi]; rfl)
 rw [aMY]
 unfold aD6
 rw [a.rows.len, List.length_map, aM, aU, aG, if_pos (by simp; omega), aG]
 cases any with
 | false => rw [if_neg (by simp), Bool.false_and]
 | true => rw [if_pos rfl, hq, aq.jT (x := .int .i64 g.lk[i]) rfl, aH, aM, bI, Bool.true_and]; rfl
variable (hlen : g.lk.length ≤ 100)
include hlen
theorem aSW {i : Nat} (h0 : 0 < i) (n : Nat) (c d e f m : Value) (k : Int) : ∀ (j i : Nat), 0 < i → i + j = g.lk.length → G.aK (EH h) (n + 3 * j + 1) 1 (aD.b any (aD.i (i : Int) (aD.v c (aD.v d (aD.v e (aD.v f (aD.v m (aD.v g.lv (aD.i k aD.n))))))))) = G.aK (EH h) n 8 (aD.b any (aD.v m (aD.v g.lv (aD.i k aD.n))))
 | 0, i, hi0, hij => by
  rw [Nat.mul_zero, Nat.add_zero, aMY]
  unfold aD6
  rw [a.rows.len, List.length_map, aM, aU, aG, if_neg (by simp; omega)]
 | j + 1, i, hi0, hij => by
  rw [show n + 3 * (j + 1) + 1 = (n + 3 * j + 1 + 1 + 1) + 1 by omega, aSV a any (by omega), aMZ]
  unfold aD5
  rw [aM, bI, aG, if_neg (by simp; omega), aM0]
  unfold aD4
  rw [show Int.add (i : Int) (Int.ofNat 1) = ((i + 1 : Nat) : Int) from rfl, wrap64_in _ (by omega) (by omega)]
  exact aSW h0 n c d e f m k j (i + 1) (by omega) (by omega)
theorem aSX (n : Nat) (m : Value) : ∀ (j i : Nat), i + j = g.lk.length → G.aK (EH h) (n + 3 * j + 2) 4 (aD.b any (aD.i (i : Int) (aD.v m (aD.v g.lv (aD.i g.kZ aD.n))))) = some (.int .i64 (if (g.lk.drop i).all (okB any 5) && rZ 0 50 g.kZ then 0 else 7))
 | 0, i, hij => by
  rw [Nat.mul_zero, Nat.add_zero, aM1]
  unfold aD3
  rw [a.rows.len, List.length_map, aM, aU, aG, if_neg (by simp; omega), aVH, List.drop_of_length_le (by omega)]
  unfold aLR
  rw [show (Int.ofNat 0) = (0 : Int) from rfl, show (Int.ofNat 50) = (50 : Int) from rfl, IC, aJ, aW, aQ, aG]
  cases c : rZ 0 50 g.kZ <;> rfl
 | j + 1, i, hij => by
  have hi : i < g.lk.length := by omega
  obtain ⟨q, hq, aq, _⟩ := a.rows.at (i := i) (r := cZ g.lk[i]) (by rw [List.getElem?_map, List.getElem?_eq_getElem hi]; rfl)
  have ih := aSX n m j (i + 1) (by omega)
  have next : G.aK (EH h) (n + 3 * j + 2 + 1) 6 (aD.b any (aD.i (i : Int) (aD.v m (aD.v g.lv (aD.i g.kZ aD.n))))) = some (.int .i64 (if (g.lk.drop (i + 1)).all (okB any 5) && rZ 0 50 g.kZ then 0 else 7)) := by
   rw [aVG]
   unfold aLS
   rw [show Int.add (i : Int) (Int.ofNat 1) = ((i + 1 : Nat) : Int) from rfl, wrap64_in _ (by omega) (by omega)]
   exact ih
  have five : ∀ b : Bool, G.aK (EH h) (n + 3 * j + 2 + 1 + 1) 5 (aD.b any (aD.i (i : Int) (aD.b b (aD.v m (aD.v g.lv (aD.i g.kZ aD.n)))))) = some (.int .i64 (if (b || rZ 0 5 g.lk[i]) && (g.lk.drop (i + 1)).all (okB any 5) && rZ 0 50 g.kZ then 0 else 7)) := by
   intro b
   rw [aVF]
   unfold aLT
   rw [aQ, aG]
   cases b with
   | true => rw [if_neg (by simp), next]; simp
   | false =>
    rw [if_pos (by rfl), hq, aq.jT (x := .int .i64 g.lk[i]) rfl, aH, show (Int.ofNat 0) = (0 : Int) from rfl, show (Int.ofNat 5) = (5 : Int) from rfl, IC, aJ, aW, aQ, aG]
    cases c : rZ 0 5 g.lk[i] with
    | false => rw [if_pos (by rfl)]; simp
    | true => rw [if_neg (by simp), next]; simp
  rw [show n + 3 * (j + 1) + 2 = (n + 3 * j + 2 + 1 + 1) + 1 by omega, aM1]
  unfold aD3
  rw [a.rows.len, List.length_map, aM, aU, aG, if_pos (by simp; omega), aG, List.drop_eq_getElem_cons hi, List.all_cons]
  unfold okB
  cases any with
  | false => rw [if_neg (by simp), five, Bool.false_and]; rfl
  | true => rw [if_pos rfl, hq, aq.jT (x := .int .i64 g.lk[i]) rfl, aH, aM, bI, five, Bool.true_and]; rfl
end
def aED (nc no : Nat) (any : Bool) (g : Lk) : Int := if (g.lk.length : Int) ≠ (nc : Int) then 3 else if !(okB any ((no : Int) - 1) (gG g)) then 4 else if g.lk.tail.all (okB any 5) && rZ 0 50 g.kZ then 0 else 7
theorem aCF {h : Hp} {vc vo vf vp : Value} {rc ro : List (List Value)} (sc : kR h 1 vc rc) (so : kR h 1 vo ro) {nc no : Nat} (ec : rc.length = nc) (eo : ro.length = no) (hc : 0 < nc ∧ nc ≤ 100) (ho : no ≤ 100) (any : Bool) (g : Lk) (a : PI h g) :
  F89 [.agg (Array.mk (bT vc vo vf vp)), .agg (Array.mk g.row), .bool any] h = some (.int .i64 (aED nc no any g)) := by
 show plainO (aLV h (G.aK (EH h) 999999) (.agg (Array.mk (bT vc vo vf vp))) (.agg (Array.mk g.row)) any) = _
 unfold aLV aED
 rw [fA, fA, j5, j5, oN _ _ 1 g.lv rfl, a.rows.len, List.length_map, oN _ _ 0 vc rfl, sc.rows.len, ec, aQ, bI, aG]
 by_cases c : (g.lk.length : Int) = (nc : Int)
 case neg => rw [if_pos (by simpa using c), if_pos c]; rfl
 rw [if_neg (by simpa using c), if_neg (by simpa using c)]
 have hlen : g.lk.length ≤ 100 := by omega
 obtain ⟨k, ek⟩ : ∃ k, g.lk.length = k + 1 := ⟨g.lk.length - 1, by omega⟩
 have hh := MP ek
 have h0 : g.lk[0]'(by omega) = gG g := by rw [List.getElem?_eq_getElem (by omega)] at hh; simpa using hh
 obtain ⟨q, hq, aq, _⟩ := a.rows.at (i := 0) (r := cZ (gG g)) (by rw [List.getElem?_map, hh]; rfl)
 obtain ⟨N, hN⟩ : ∃ N, 999999 = (N + 3 * k + 2 + 1) + 3 * k + 1 + 1 + 1 + 1 := ⟨999999 - 6 * k - 7, by omega⟩
 have unc : ∀ (R : Option Value) (w : Nat), w = 999999 → (G.aK (EH h) w 1 (aD.b any (aD.i (Int.ofNat 0) (aD.v vc (aD.v vo (aD.v vf (aD.v vp (aD.v (.string g.nm) (aD.v g.lv (aD.i g.kZ aD.n))))))))) = R) → plainO (G.aK (EH h) 999999 1 (aD.b any (aD.i (Int.ofNat 0) (aD.v vc (aD.v vo (aD.v vf (aD.v vp (aD.v (.string g.nm) (aD.v g.lv (aD.i g.kZ aD.n)))))))))) = plainO R := by
  intro R w e e2; rw [← e, e2]
 have fin : (G.aK (EH h) ((N + 3 * k + 2 + 1) + 3 * k + 1 + 1 + 1 + 1) 1 (aD.b any (aD.i (Int.ofNat 0) (aD.v vc (aD.v vo (aD.v vf (aD.v vp (aD.v (.string g.nm) (aD.v g.lv (aD.i g.kZ aD.n)))))))))) = some (.int .i64 (if !(okB any ((no : Int) - 1) (gG g)) then 4 else if g.lk.tail.all (okB any 5) && rZ 0 50 g.kZ then 0 else 7)) := by
  have three : G.aK (EH h) ((N + 3 * k + 2 + 1) + 3 * k + 1 + 1) 3 (aD.b any (aD.i (Int.ofNat 0) (aD.v vc (aD.v vo (aD.v vf (aD.v vp (aD.v (.string g.nm) (aD.v g.lv (aD.i g.kZ aD.n))))))))) = some (.int .i64 (if g.lk.tail.all (okB any 5) && rZ 0 50 g.kZ then 0 else 7)) := by
   rw [aM0]
   unfold aD4
   rw [show Int.add (Int.ofNat 0) (Int.ofNat 1) = ((1 : Nat) : Int) from rfl, wrap64_in _ (by omega) (by omega), aSW a any hlen (i := 1) (by omega) (N + 3 * k + 2 + 1) vc vo vf vp (.string g.nm) g.kZ k 1 (by omega) (by omega), aVE]
   unfold aLU
   rw [show (Int.ofNat 1) = ((1 : Nat) : Int) from rfl, aSX a any hlen N (.string g.nm) k 1 (by omega), List.drop_one]
  rw [show (Int.ofNat 0) = ((0 : Nat) : Int) from rfl, aSV a any (by omega), aMZ]
  unfold aD5
  rw [aM, bI, aG, if_pos (by simp), aQ, aG, h0]
  unfold okB
  cases x1 : (any && decide (gG g = -1)) with
  | true => rw [if_neg (by simp), Bool.true_or, if_neg (by simp)]; exact three
  | false =>
   rw [if_pos (by rfl), Bool.false_or, hq, aq.jT (x := .int .i64 (gG g)) rfl, aH, so.rows.len, eo, show Int.sub (no : Int) (Int.ofNat 1) = (no : Int) - 1 from rfl, wrap64_in _ (by omega) (by omega), show (Int.ofNat 0) = (0 : Int) from rfl, IC, aJ, aW, aQ, aG]
   cases x2 : rZ 0 ((no : Int) - 1) (gG g) with
   | false => rw [if_pos (by rfl), if_pos (by rfl)]; rfl
   | true => rw [if_neg (by simp), if_neg (by simp)]; exact three
 refine (unc _ _ hN.symm fin).trans ?_
 rfl
end Go.Proofs.Ytdpicdnpiihaaaa.K.L
