/- Contracts of told functions: the reference's Check. -/
import Derived.Test.YtdpicdnpiihaaaaAsS11
open Go Go.bG
set_option maxRecDepth 100000
set_option linter.unusedVariables false
namespace Go.Proofs.Ytdpicdnpiihaaaa.K.L
theorem aMF (h : Hp) (n : Nat) (v : Value) (a i : Int) : G.aK (T50 h) (n + 1) 1 (aC.v v (aC.i a (aC.i i aC.n))) = aDF h (G.aK (T50 h) n) v a i := rfl
theorem BI {h : Hp} {v : Value} {l : List Int} (sl : lF h 1 v (l.map dD)) (most : Int) (hlen : l.length ≤ 900) : ∀ (m i n : Nat), i + m = l.length → m + 2 ≤ n → G.aK (T50 h) n 1 (aC.v v (aC.i most (aC.i (i : Int) aC.n))) = some (lK (kS (fun _ n => K7 most n) l i (l.drop i)))
 | 0, i, n', him, hn => by
  obtain ⟨n, rfl⟩ : ∃ n, n' = n + 2 := ⟨n' - 2, by omega⟩
  rw [aMF]
  unfold aDF
  rw [sl.rows.len, List.length_map, aM, aT, aG, if_neg (by simp; omega), List.drop_of_length_le (by omega)]
  rfl
 | m + 1, i, n', him, hn => by
  obtain ⟨n, rfl⟩ : ∃ n, n' = n + 1 := ⟨n' - 1, by omega⟩
  have hi : i < l.length := by omega
  obtain ⟨q, hq, aq, _⟩ := sl.rows.at (i := i) (r := dD l[i]) (by rw [List.getElem?_map, List.getElem?_eq_getElem hi]; rfl)
  rw [aMF]
  unfold aDF
  rw [sl.rows.len, List.length_map, aM, aT, aG, if_pos (by simp; omega), hq, aq.jS (x := .int .i64 l[i]) rfl, aH, show (Int.ofNat 0) = (0 : Int) from rfl, G7, aJ, aU, aQ, aG, List.drop_eq_getElem_cons hi]
  unfold kS
  cases c : pK 0 most l[i] with
  | false =>
   have e : K7 most l[i] = 7 := by unfold K7; rw [c]; rfl
   rw [if_pos (by rfl), e, if_neg (by decide)]; rfl
  | true =>
   have e : K7 most l[i] = 0 := by unfold K7; rw [c]; rfl
   rw [if_neg (by simp), e, if_pos rfl, show Int.add (i : Int) (Int.ofNat 1) = ((i + 1 : Nat) : Int) from rfl, wrap64_in _ (by omega) (by omega)]
   exact BI sl most hlen m (i + 1) n (by omega) (by omega)
theorem G8 {h : Hp} {v : Value} {l : List Int} (sl : lF h 1 v (l.map dD)) {many : Int} (most : Int) (hm : many ≤ 900) : F50 [v, .int .i64 many, .int .i64 most] h = some (lK (lM many most l)) := by
 show plainO (aK3 h (G.aK (T50 h) 999999) v many most) = _
 unfold aK3 lM iM
 rw [sl.rows.len, List.length_map, show (Int.ofNat 1) = (1 : Int) from rfl, G7, aJ, aU, aQ, aG]
 by_cases c : l.length = 0
 ·have : pK 1 many (l.length : Int) = false := by rw [c]; rfl
  rw [this, if_pos (by rfl), if_pos c]; rfl
 by_cases c2 : many < (l.length : Int)
 ·have : pK 1 many (l.length : Int) = false := by
   cases e : pK 1 many (l.length : Int) with
   | false => rfl
   | true => have := kI.1 e; omega
  rw [this, if_pos (by rfl), if_neg c, if_pos c2]; rfl
 rw [kI.2 (show (1 : Int) ≤ (l.length : Int) ∧ (l.length : Int) ≤ many by omega), if_neg (by simp), if_neg c, if_neg c2, show (Int.ofNat 0) = ((0 : Nat) : Int) from rfl, BI sl most (by omega) l.length 0 999999 (by omega) (by omega), List.drop_zero]
 rfl
def okB (any : Bool) (hi n : Int) : Bool := (any && decide (n = -1)) || pK 0 hi n
def low (any : Bool) : Int := if any then -1 else 0
theorem aMG {any : Bool} {hi n : Int} (h : -1 ≤ hi) : okB any hi n = pK (low any) hi n := by
 rw [Bool.eq_iff_iff, kI]
 unfold okB low
 cases any with
 | false => simp only [Bool.false_and, Bool.false_or, Bool.false_eq_true, if_false]; exact kI
 | true =>
  simp only [Bool.true_and, if_true, Bool.or_eq_true, decide_eq_true_iff]
  rw [kI]; omega
theorem aMH (h : Hp) (n : Nat) (b : Bool) (i : Int) (a c d e f g : Value) (k : Int) : G.aK (D6 h) (n + 1) 1 (aC.b b (aC.i i (aC.v a (aC.v c (aC.v d (aC.v e (aC.v f (aC.v g (aC.i k aC.n))))))))) = aDJ h (G.aK (D6 h) n) b i a c d e f g k := rfl
theorem aMI (h : Hp) (n : Nat) (b : Bool) (i : Int) (b2 : Bool) (a c d e f g : Value) (k : Int) : G.aK (D6 h) (n + 1) 2 (aC.b b (aC.i i (aC.b b2 (aC.v a (aC.v c (aC.v d (aC.v e (aC.v f (aC.v g (aC.i k aC.n)))))))))) = aDI h (G.aK (D6 h) n) b i b2 a c d e f g k := rfl
theorem aMJ (h : Hp) (n : Nat) (b : Bool) (i : Int) (a c d e f g : Value) (k : Int) : G.aK (D6 h) (n + 1) 3 (aC.b b (aC.i i (aC.v a (aC.v c (aC.v d (aC.v e (aC.v f (aC.v g (aC.i k aC.n))))))))) = aDH h (G.aK (D6 h) n) b i a c d e f g k := rfl
theorem aUT (h : Hp) (n : Nat) (b : Bool) (f g : Value) (k : Int) : G.aK (D6 h) (n + 1) 8 (aC.b b (aC.v f (aC.v g (aC.i k aC.n)))) = aLG h (G.aK (D6 h) n) b f g k := rfl
theorem aMK (h : Hp) (n : Nat) (b : Bool) (i : Int) (f g : Value) (k : Int) : G.aK (D6 h) (n + 1) 4 (aC.b b (aC.i i (aC.v f (aC.v g (aC.i k aC.n))))) = aDG h (G.aK (D6 h) n) b i f g k := rfl
theorem aUU (h : Hp) (n : Nat) (b : Bool) (i : Int) (b2 : Bool) (f g : Value) (k : Int) : G.aK (D6 h) (n + 1) 5 (aC.b b (aC.i i (aC.b b2 (aC.v f (aC.v g (aC.i k aC.n)))))) = aLF h (G.aK (D6 h) n) b i b2 f g k := rfl
theorem aUV (h : Hp) (n : Nat) (b : Bool) (i : Int) (f g : Value) (k : Int) : G.aK (D6 h) (n + 1) 6 (aC.b b (aC.i i (aC.v f (aC.v g (aC.i k aC.n))))) = aLE h (G.aK (D6 h) n) b i f g k := rfl
theorem aUW (h : Hp) (n : Nat) (f g : Value) (k : Int) : G.aK (D6 h) (n + 1) 7 (aC.v f (aC.v g (aC.i k aC.n))) = aLD h (G.aK (D6 h) n) f g k := rfl
section
variable {h : Hp} {g : Lk} (a : PY h g) (any : Bool)
include a
theorem aR9 {i : Nat} (hi : i < g.lk.length) (n : Nat) (c d e f m : Value) (k : Int) : G.aK (D6 h) (n + 1) 1 (aC.b any (aC.i (i : Int) (aC.v c (aC.v d (aC.v e (aC.v f (aC.v m (aC.v g.lv (aC.i k aC.n))))))))) = G.aK (D6 h) n 2 (aC.b any (aC.i (i : Int) (aC.b (any && decide (g.lk[i] = -1)) (aC.v c (aC.v d (aC.v e (aC.v f (aC.v m (aC.v g.lv (aC.i k aC.n)))))))))) := by
 obtain ⟨q, hq, aq, _⟩ := a.rows.at (i := i) (r := dD g.lk[i]) (by rw [List.getElem?_map, List.getElem?_eq_getElem hi]; rfl)
 rw [aMH]
 unfold aDJ
 rw [a.rows.len, List.length_map, aM, aT, aG, if_pos (by simp; omega), aG]
 cases any with
 | false => rw [if_neg (by simp), Bool.false_and]
 | true => rw [if_pos rfl, hq, aq.jS (x := .int .i64 g.lk[i]) rfl, aH, aM, bT, Bool.true_and]; rfl
variable (hlen : g.lk.length ≤ 100)
include hlen
theorem aSA {i : Nat} (h0 : 0 < i) (n : Nat) (c d e f m : Value) (k : Int) : ∀ (j i : Nat), 0 < i → i + j = g.lk.length → G.aK (D6 h) (n + 3 * j + 1) 1 (aC.b any (aC.i (i : Int) (aC.v c (aC.v d (aC.v e (aC.v f (aC.v m (aC.v g.lv (aC.i k aC.n))))))))) = G.aK (D6 h) n 8 (aC.b any (aC.v m (aC.v g.lv (aC.i k aC.n))))
 | 0, i, hi0, hij => by
  rw [Nat.mul_zero, Nat.add_zero, aMH]
  unfold aDJ
  rw [a.rows.len, List.length_map, aM, aT, aG, if_neg (by simp; omega)]
 | j + 1, i, hi0, hij => by
  rw [show n + 3 * (j + 1) + 1 = (n + 3 * j + 1 + 1 + 1) + 1 by omega, aR9 a any (by omega), aMI]
  unfold aDI
  rw [aM, bT, aG, if_neg (by simp; omega), aMJ]
  unfold aDH
  rw [show Int.add (i : Int) (Int.ofNat 1) = ((i + 1 : Nat) : Int) from rfl, wrap64_in _ (by omega) (by omega)]
  exact aSA h0 n c d e f m k j (i + 1) (by omega) (by omega)
theorem aSB (n : Nat) (m : Value) : ∀ (j i : Nat), i + j = g.lk.length → G.aK (D6 h) (n + 3 * j + 2) 4 (aC.b any (aC.i (i : Int) (aC.v m (aC.v g.lv (aC.i g.kT aC.n))))) = some (.int .i64 (if (g.lk.drop i).all (okB any 5) && pK 0 50 g.kT then 0 else 7))
 | 0, i, hij => by
  rw [Nat.mul_zero, Nat.add_zero, aMK]
  unfold aDG
  rw [a.rows.len, List.length_map, aM, aT, aG, if_neg (by simp; omega), aUW, List.drop_of_length_le (by omega)]
  unfold aLD
  rw [show (Int.ofNat 0) = (0 : Int) from rfl, show (Int.ofNat 50) = (50 : Int) from rfl, G7, aJ, aU, aQ, aG]
  cases c : pK 0 50 g.kT <;> rfl
 | j + 1, i, hij => by
  have hi : i < g.lk.length := by omega
  obtain ⟨q, hq, aq, _⟩ := a.rows.at (i := i) (r := dD g.lk[i]) (by rw [List.getElem?_map, List.getElem?_eq_getElem hi]; rfl)
  have ih := aSB n m j (i + 1) (by omega)
  have next : G.aK (D6 h) (n + 3 * j + 2 + 1) 6 (aC.b any (aC.i (i : Int) (aC.v m (aC.v g.lv (aC.i g.kT aC.n))))) = some (.int .i64 (if (g.lk.drop (i + 1)).all (okB any 5) && pK 0 50 g.kT then 0 else 7)) := by
   rw [aUV]
   unfold aLE
   rw [show Int.add (i : Int) (Int.ofNat 1) = ((i + 1 : Nat) : Int) from rfl, wrap64_in _ (by omega) (by omega)]
   exact ih
  have five : ∀ b : Bool, G.aK (D6 h) (n + 3 * j + 2 + 1 + 1) 5 (aC.b any (aC.i (i : Int) (aC.b b (aC.v m (aC.v g.lv (aC.i g.kT aC.n)))))) = some (.int .i64 (if (b || pK 0 5 g.lk[i]) && (g.lk.drop (i + 1)).all (okB any 5) && pK 0 50 g.kT then 0 else 7)) := by
   intro b
   rw [aUU]
   unfold aLF
   rw [aQ, aG]
   cases b with
   | true => rw [if_neg (by simp), next]; simp
   | false =>
    rw [if_pos (by rfl), hq, aq.jS (x := .int .i64 g.lk[i]) rfl, aH, show (Int.ofNat 0) = (0 : Int) from rfl, show (Int.ofNat 5) = (5 : Int) from rfl, G7, aJ, aU, aQ, aG]
    cases c : pK 0 5 g.lk[i] with
    | false => rw [if_pos (by rfl)]; simp
    | true => rw [if_neg (by simp), next]; simp
  rw [show n + 3 * (j + 1) + 2 = (n + 3 * j + 2 + 1 + 1) + 1 by omega, aMK]
  unfold aDG
  rw [a.rows.len, List.length_map, aM, aT, aG, if_pos (by simp; omega), aG, List.drop_eq_getElem_cons hi, List.all_cons]
  unfold okB
  cases any with
  | false => rw [if_neg (by simp), five, Bool.false_and]; rfl
  | true => rw [if_pos rfl, hq, aq.jS (x := .int .i64 g.lk[i]) rfl, aH, aM, bT, five, Bool.true_and]; rfl
end
def aDR (nc no : Nat) (any : Bool) (g : Lk) : Int := if (g.lk.length : Int) ≠ (nc : Int) then 3 else if !(okB any ((no : Int) - 1) (gU g)) then 4 else if g.lk.tail.all (okB any 5) && pK 0 50 g.kT then 0 else 7
theorem aBT {h : Hp} {vc vo vf vp : Value} {rc ro : List (List Value)} (sc : lF h 1 vc rc) (so : lF h 1 vo ro) {nc no : Nat} (ec : rc.length = nc) (eo : ro.length = no) (hc : 0 < nc ∧ nc ≤ 100) (ho : no ≤ 100) (any : Bool) (g : Lk) (a : PY h g) :
  F89 [.agg (Array.mk (eZ vc vo vf vp)), .agg (Array.mk g.row), .bool any] h = some (.int .i64 (aDR nc no any g)) := by
 show plainO (aLH h (G.aK (D6 h) 999999) (.agg (Array.mk (eZ vc vo vf vp))) (.agg (Array.mk g.row)) any) = _
 unfold aLH aDR
 rw [fA, fA, jT, jT, nU _ _ 1 g.lv rfl, a.rows.len, List.length_map, nU _ _ 0 vc rfl, sc.rows.len, ec, aQ, bT, aG]
 by_cases c : (g.lk.length : Int) = (nc : Int)
 case neg => rw [if_pos (by simpa using c), if_pos c]; rfl
 rw [if_neg (by simpa using c), if_neg (by simpa using c)]
 have hlen : g.lk.length ≤ 100 := by omega
 obtain ⟨k, ek⟩ : ∃ k, g.lk.length = k + 1 := ⟨g.lk.length - 1, by omega⟩
 have hh := LW ek
 have h0 : g.lk[0]'(by omega) = gU g := by rw [List.getElem?_eq_getElem (by omega)] at hh; simpa using hh
 obtain ⟨q, hq, aq, _⟩ := a.rows.at (i := 0) (r := dD (gU g)) (by rw [List.getElem?_map, hh]; rfl)
 obtain ⟨N, hN⟩ : ∃ N, 999999 = (N + 3 * k + 2 + 1) + 3 * k + 1 + 1 + 1 + 1 := ⟨999999 - 6 * k - 7, by omega⟩
 have unc : ∀ (R : Option Value) (w : Nat), w = 999999 → (G.aK (D6 h) w 1 (aC.b any (aC.i (Int.ofNat 0) (aC.v vc (aC.v vo (aC.v vf (aC.v vp (aC.v (.string g.nm) (aC.v g.lv (aC.i g.kT aC.n))))))))) = R) → plainO (G.aK (D6 h) 999999 1 (aC.b any (aC.i (Int.ofNat 0) (aC.v vc (aC.v vo (aC.v vf (aC.v vp (aC.v (.string g.nm) (aC.v g.lv (aC.i g.kT aC.n)))))))))) = plainO R := by
  intro R w e e2; rw [← e, e2]
 have fin : (G.aK (D6 h) ((N + 3 * k + 2 + 1) + 3 * k + 1 + 1 + 1 + 1) 1 (aC.b any (aC.i (Int.ofNat 0) (aC.v vc (aC.v vo (aC.v vf (aC.v vp (aC.v (.string g.nm) (aC.v g.lv (aC.i g.kT aC.n)))))))))) = some (.int .i64 (if !(okB any ((no : Int) - 1) (gU g)) then 4 else if g.lk.tail.all (okB any 5) && pK 0 50 g.kT then 0 else 7)) := by
  have three : G.aK (D6 h) ((N + 3 * k + 2 + 1) + 3 * k + 1 + 1) 3 (aC.b any (aC.i (Int.ofNat 0) (aC.v vc (aC.v vo (aC.v vf (aC.v vp (aC.v (.string g.nm) (aC.v g.lv (aC.i g.kT aC.n))))))))) = some (.int .i64 (if g.lk.tail.all (okB any 5) && pK 0 50 g.kT then 0 else 7)) := by
   rw [aMJ]
   unfold aDH
   rw [show Int.add (Int.ofNat 0) (Int.ofNat 1) = ((1 : Nat) : Int) from rfl, wrap64_in _ (by omega) (by omega), aSA a any hlen (i := 1) (by omega) (N + 3 * k + 2 + 1) vc vo vf vp (.string g.nm) g.kT k 1 (by omega) (by omega), aUT]
   unfold aLG
   rw [show (Int.ofNat 1) = ((1 : Nat) : Int) from rfl, aSB a any hlen N (.string g.nm) k 1 (by omega), List.drop_one]
  rw [show (Int.ofNat 0) = ((0 : Nat) : Int) from rfl, aR9 a any (by omega), aMI]
  unfold aDI
  rw [aM, bT, aG, if_pos (by simp), aQ, aG, h0]
  unfold okB
  cases x1 : (any && decide (gU g = -1)) with
  | true => rw [if_neg (by simp), Bool.true_or, if_neg (by simp)]; exact three
  | false =>
   rw [if_pos (by rfl), Bool.false_or, hq, aq.jS (x := .int .i64 (gU g)) rfl, aH, so.rows.len, eo, show Int.sub (no : Int) (Int.ofNat 1) = (no : Int) - 1 from rfl, wrap64_in _ (by omega) (by omega), show (Int.ofNat 0) = (0 : Int) from rfl, G7, aJ, aU, aQ, aG]
   cases x2 : pK 0 ((no : Int) - 1) (gU g) with
   | false => rw [if_pos (by rfl), if_pos (by rfl)]; rfl
   | true => rw [if_neg (by simp), if_neg (by simp)]; exact three
 refine (unc _ _ hN.symm fin).trans ?_
 rfl
end Go.Proofs.Ytdpicdnpiihaaaa.K.L
