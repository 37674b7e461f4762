/- Contracts of told functions: the reference's Check. -/
import Derived.Test.YtdpicdnpiihaaaaOrS11
open Go Go.bI
set_option maxRecDepth 100000
set_option linter.unusedVariables false
namespace Go.Proofs.Ytdpicdnpiihaaaa.K.L
theorem aN1 (h : Hp) (n : Nat) (v : Value) (a i : Int) : G.aN (T50 h) (n + 1) 1 (aD.v v (aD.i a (aD.i i aD.n))) = aER h (G.aN (T50 h) n) v a i := rfl
theorem BV {h : Hp} {v : Value} {l : List Int} (sl : lV h 1 v (l.map cZ)) (most : Int) (hlen : l.length ≤ 900) : ∀ (m i n : Nat), i + m = l.length → m + 2 ≤ n → G.aN (T50 h) n 1 (aD.v v (aD.i most (aD.i (i : Int) aD.n))) = some (lZ (kT (fun _ n => MF most n) l i (l.drop i)))
 | 0, i, n', him, hn => by
  obtain ⟨n, rfl⟩ : ∃ n, n' = n + 2 := ⟨n' - 2, by omega⟩
  rw [aN1]
  unfold aER
  rw [sl.rows.len, List.length_map, aQ, aW, aH, if_neg (by simp; omega), List.drop_of_length_le (by omega)]
  rfl
 | m + 1, i, n', him, hn => by
  obtain ⟨n, rfl⟩ : ∃ n, n' = n + 1 := ⟨n' - 1, by omega⟩
  have hi : i < l.length := by omega
  obtain ⟨q, hq, aq, _⟩ := sl.rows.at (i := i) (r := cZ l[i]) (by rw [List.getElem?_map, List.getElem?_eq_getElem hi]; rfl)
  rw [aN1]
  unfold aER
  rw [sl.rows.len, List.length_map, aQ, aW, aH, if_pos (by simp; omega), hq, aq.j6 (x := .int .i64 l[i]) rfl, aI, show (Int.ofNat 0) = (0 : Int) from rfl, IM, aM, aZ, aR, aH, List.drop_eq_getElem_cons hi]
  unfold kT
  cases c : rY 0 most l[i] with
  | false =>
   have e : MF most l[i] = 7 := by unfold MF; rw [c]; rfl
   rw [if_pos (by rfl), e, if_neg (by decide)]; rfl
  | true =>
   have e : MF most l[i] = 0 := by unfold MF; rw [c]; rfl
   rw [if_neg (by simp), e, if_pos rfl, show Int.add (i : Int) (Int.ofNat 1) = ((i + 1 : Nat) : Int) from rfl, wrap64_in _ (by omega) (by omega)]
   exact BV sl most hlen m (i + 1) n (by omega) (by omega)
theorem IP {h : Hp} {v : Value} {l : List Int} (sl : lV h 1 v (l.map cZ)) {many : Int} (most : Int) (hm : many ≤ 900) : F50 [v, .int .i64 many, .int .i64 most] h = some (lZ (l8 many most l)) := by
 show plainO (aML h (G.aN (T50 h) 999999) v many most) = _
 unfold aML l8 iP
 rw [sl.rows.len, List.length_map, show (Int.ofNat 1) = (1 : Int) from rfl, IM, aM, aZ, aR, aH]
 by_cases c : l.length = 0
 ·have : rY 1 many (l.length : Int) = false := by rw [c]; rfl
  rw [this, if_pos (by rfl), if_pos c]; rfl
 by_cases c2 : many < (l.length : Int)
 ·have : rY 1 many (l.length : Int) = false := by
   cases e : rY 1 many (l.length : Int) with
   | false => rfl
   | true => have := tC.1 e; omega
  rw [this, if_pos (by rfl), if_neg c, if_pos c2]; rfl
 rw [tC.2 (show (1 : Int) ≤ (l.length : Int) ∧ (l.length : Int) ≤ many by omega), if_neg (by simp), if_neg c, if_neg c2, show (Int.ofNat 0) = ((0 : Nat) : Int) from rfl, BV sl most (by omega) l.length 0 999999 (by omega) (by omega), List.drop_zero]
 rfl
def okB (any : Bool) (hi n : Int) : Bool := (any && decide (n = -1)) || rY 0 hi n
def low (any : Bool) : Int := if any then -1 else 0
theorem aN2 {any : Bool} {hi n : Int} (h : -1 ≤ hi) : okB any hi n = rY (low any) hi n := by
 rw [Bool.eq_iff_iff, tC]
 unfold okB low
 cases any with
 | false => simp only [Bool.false_and, Bool.false_or, Bool.false_eq_true, if_false]; exact tC
 | true =>
  simp only [Bool.true_and, if_true, Bool.or_eq_true, decide_eq_true_iff]
  rw [tC]; omega
theorem aN3 (h : Hp) (n : Nat) (b : Bool) (i : Int) (a c d e f g : Value) (k : Int) : G.aN (EO h) (n + 1) 1 (aD.b b (aD.i i (aD.v a (aD.v c (aD.v d (aD.v e (aD.v f (aD.v g (aD.i k aD.n))))))))) = aEV h (G.aN (EO h) n) b i a c d e f g k := rfl
theorem aN4 (h : Hp) (n : Nat) (b : Bool) (i : Int) (b2 : Bool) (a c d e f g : Value) (k : Int) : G.aN (EO h) (n + 1) 2 (aD.b b (aD.i i (aD.b b2 (aD.v a (aD.v c (aD.v d (aD.v e (aD.v f (aD.v g (aD.i k aD.n)))))))))) = aEU h (G.aN (EO h) n) b i b2 a c d e f g k := rfl
theorem aN5 (h : Hp) (n : Nat) (b : Bool) (i : Int) (a c d e f g : Value) (k : Int) : G.aN (EO h) (n + 1) 3 (aD.b b (aD.i i (aD.v a (aD.v c (aD.v d (aD.v e (aD.v f (aD.v g (aD.i k aD.n))))))))) = aET h (G.aN (EO h) n) b i a c d e f g k := rfl
theorem aWM (h : Hp) (n : Nat) (b : Bool) (f g : Value) (k : Int) : G.aN (EO h) (n + 1) 8 (aD.b b (aD.v f (aD.v g (aD.i k aD.n)))) = aMY h (G.aN (EO h) n) b f g k := rfl
theorem aN6 (h : Hp) (n : Nat) (b : Bool) (i : Int) (f g : Value) (k : Int) : G.aN (EO h) (n + 1) 4 (aD.b b (aD.i i (aD.v f (aD.v g (aD.i k aD.n))))) = aES h (G.aN (EO h) n) b i f g k := rfl
theorem aWN (h : Hp) (n : Nat) (b : Bool) (i : Int) (b2 : Bool) (f g : Value) (k : Int) : G.aN (EO h) (n + 1) 5 (aD.b b (aD.i i (aD.b b2 (aD.v f (aD.v g (aD.i k aD.n)))))) = aMX h (G.aN (EO h) n) b i b2 f g k := rfl
theorem aWO (h : Hp) (n : Nat) (b : Bool) (i : Int) (f g : Value) (k : Int) : G.aN (EO h) (n + 1) 6 (aD.b b (aD.i i (aD.v f (aD.v g (aD.i k aD.n))))) = aMW h (G.aN (EO h) n) b i f g k := rfl
theorem aWP (h : Hp) (n : Nat) (f g : Value) (k : Int) : G.aN (EO h) (n + 1) 7 (aD.v f (aD.v g (aD.i k aD.n))) = aMV h (G.aN (EO h) n) f g k := rfl
section
variable {h : Hp} {g : Lk} (a : LD h g) (any : Bool)
include a
theorem aT1 {i : Nat} (hi : i < g.lk.length) (n : Nat) (c d e f m : Value) (k : Int) : G.aN (EO h) (n + 1) 1 (aD.b any (aD.i (i : Int) (aD.v c (aD.v d (aD.v e (aD.v f (aD.v m (aD.v g.lv (aD.i k aD.n))))))))) = G.aN (EO h) n 2 (aD.b any (aD.i (i : Int) (aD.b (any && decide (g.lk[i] = -1)) (aD.v c (aD.v d (aD.v e (aD.v f (aD.v m (aD.v g.lv (aD.i k aD.n)))))))))) := by
 obtain ⟨q, hq, aq, _⟩ := a.rows.at (i := i) (r := cZ g.lk[i]) (by rw [List.getElem?_map, List.getElem?_eq_getElem hi]; rfl)
 rw [aN3]
 unfold aEV
 rw [a.rows.len, List.length_map, aQ, aW, aH, if_pos (by simp; omega), aH]
 cases any with
 | false => rw [if_neg (by simp), Bool.false_and]
 | true => rw [if_pos rfl, hq, aq.j6 (x := .int .i64 g.lk[i]) rfl, aI, aQ, cK, Bool.true_and]; rfl
variable (hlen : g.lk.length ≤ 100)
include hlen
theorem aT2 {i : Nat} (h0 : 0 < i) (n : Nat) (c d e f m : Value) (k : Int) : ∀ (j i : Nat), 0 < i → i + j = g.lk.length → G.aN (EO h) (n + 3 * j + 1) 1 (aD.b any (aD.i (i : Int) (aD.v c (aD.v d (aD.v e (aD.v f (aD.v m (aD.v g.lv (aD.i k aD.n))))))))) = G.aN (EO h) n 8 (aD.b any (aD.v m (aD.v g.lv (aD.i k aD.n))))
 | 0, i, hi0, hij => by
  rw [Nat.mul_zero, Nat.add_zero, aN3]
  unfold aEV
  rw [a.rows.len, List.length_map, aQ, aW, aH, if_neg (by simp; omega)]
 | j + 1, i, hi0, hij => by
  rw [show n + 3 * (j + 1) + 1 = (n + 3 * j + 1 + 1 + 1) + 1 by omega, aT1 a any (by omega), aN4]
  unfold aEU
  rw [aQ, cK, aH, if_neg (by simp; omega), aN5]
  unfold aET
  rw [show Int.add (i : Int) (Int.ofNat 1) = ((i + 1 : Nat) : Int) from rfl, wrap64_in _ (by omega) (by omega)]
  exact aT2 h0 n c d e f m k j (i + 1) (by omega) (by omega)
theorem aT3 (n : Nat) (m : Value) : ∀ (j i : Nat), i + j = g.lk.length → G.aN (EO h) (n + 3 * j + 2) 4 (aD.b any (aD.i (i : Int) (aD.v m (aD.v g.lv (aD.i g.lJ aD.n))))) = some (.int .i64 (if (g.lk.drop i).all (okB any 5) && rY 0 50 g.lJ then 0 else 7))
 | 0, i, hij => by
  rw [Nat.mul_zero, Nat.add_zero, aN6]
  unfold aES
  rw [a.rows.len, List.length_map, aQ, aW, aH, if_neg (by simp; omega), aWP, List.drop_of_length_le (by omega)]
  unfold aMV
  rw [show (Int.ofNat 0) = (0 : Int) from rfl, show (Int.ofNat 50) = (50 : Int) from rfl, IM, aM, aZ, aR, aH]
  cases c : rY 0 50 g.lJ <;> rfl
 | j + 1, i, hij => by
  have hi : i < g.lk.length := by omega
  obtain ⟨q, hq, aq, _⟩ := a.rows.at (i := i) (r := cZ g.lk[i]) (by rw [List.getElem?_map, List.getElem?_eq_getElem hi]; rfl)
  have ih := aT3 n m j (i + 1) (by omega)
  have next : G.aN (EO h) (n + 3 * j + 2 + 1) 6 (aD.b any (aD.i (i : Int) (aD.v m (aD.v g.lv (aD.i g.lJ aD.n))))) = some (.int .i64 (if (g.lk.drop (i + 1)).all (okB any 5) && rY 0 50 g.lJ then 0 else 7)) := by
   rw [aWO]
   unfold aMW
   rw [show Int.add (i : Int) (Int.ofNat 1) = ((i + 1 : Nat) : Int) from rfl, wrap64_in _ (by omega) (by omega)]
   exact ih
  have five : ∀ b : Bool, G.aN (EO h) (n + 3 * j + 2 + 1 + 1) 5 (aD.b any (aD.i (i : Int) (aD.b b (aD.v m (aD.v g.lv (aD.i g.lJ aD.n)))))) = some (.int .i64 (if (b || rY 0 5 g.lk[i]) && (g.lk.drop (i + 1)).all (okB any 5) && rY 0 50 g.lJ then 0 else 7)) := by
   intro b
   rw [aWN]
   unfold aMX
   rw [aR, aH]
   cases b with
   | true => rw [if_neg (by simp), next]; simp
   | false =>
    rw [if_pos (by rfl), hq, aq.j6 (x := .int .i64 g.lk[i]) rfl, aI, show (Int.ofNat 0) = (0 : Int) from rfl, show (Int.ofNat 5) = (5 : Int) from rfl, IM, aM, aZ, aR, aH]
    cases c : rY 0 5 g.lk[i] with
    | false => rw [if_pos (by rfl)]; simp
    | true => rw [if_neg (by simp), next]; simp
  rw [show n + 3 * (j + 1) + 2 = (n + 3 * j + 2 + 1 + 1) + 1 by omega, aN6]
  unfold aES
  rw [a.rows.len, List.length_map, aQ, aW, aH, if_pos (by simp; omega), aH, List.drop_eq_getElem_cons hi, List.all_cons]
  unfold okB
  cases any with
  | false => rw [if_neg (by simp), five, Bool.false_and]; rfl
  | true => rw [if_pos rfl, hq, aq.j6 (x := .int .i64 g.lk[i]) rfl, aI, aQ, cK, five, Bool.true_and]; rfl
end
def aE4 (nc no : Nat) (any : Bool) (g : Lk) : Int := if (g.lk.length : Int) ≠ (nc : Int) then 3 else if !(okB any ((no : Int) - 1) (gM g)) then 4 else if g.lk.tail.all (okB any 5) && rY 0 50 g.lJ then 0 else 7
theorem aC3 {h : Hp} {vc vo vf vp : Value} {rc ro : List (List Value)} (sc : lV h 1 vc rc) (so : lV h 1 vo ro) {nc no : Nat} (ec : rc.length = nc) (eo : ro.length = no) (hc : 0 < nc ∧ nc ≤ 100) (ho : no ≤ 100) (any : Bool) (g : Lk) (a : LD h g) :
  F89 [.agg (Array.mk (dO vc vo vf vp)), .agg (Array.mk g.row), .bool any] h = some (.int .i64 (aE4 nc no any g)) := by
 show plainO (aMZ h (G.aN (EO h) 999999) (.agg (Array.mk (dO vc vo vf vp))) (.agg (Array.mk g.row)) any) = _
 unfold aMZ aE4
 rw [fF, fF, kI, kI, oP _ _ 1 g.lv rfl, a.rows.len, List.length_map, oP _ _ 0 vc rfl, sc.rows.len, ec, aR, cK, aH]
 by_cases c : (g.lk.length : Int) = (nc : Int)
 case neg => rw [if_pos (by simpa using c), if_pos c]; rfl
 rw [if_neg (by simpa using c), if_neg (by simpa using c)]
 have hlen : g.lk.length ≤ 100 := by omega
 obtain ⟨k, ek⟩ : ∃ k, g.lk.length = k + 1 := ⟨g.lk.length - 1, by omega⟩
 have hh := M3 ek
 have h0 : g.lk[0]'(by omega) = gM g := by rw [List.getElem?_eq_getElem (by omega)] at hh; simpa using hh
 obtain ⟨q, hq, aq, _⟩ := a.rows.at (i := 0) (r := cZ (gM g)) (by rw [List.getElem?_map, hh]; rfl)
 obtain ⟨N, hN⟩ : ∃ N, 999999 = (N + 3 * k + 2 + 1) + 3 * k + 1 + 1 + 1 + 1 := ⟨999999 - 6 * k - 7, by omega⟩
 have unc : ∀ (R : Option Value) (w : Nat), w = 999999 → (G.aN (EO h) w 1 (aD.b any (aD.i (Int.ofNat 0) (aD.v vc (aD.v vo (aD.v vf (aD.v vp (aD.v (.string g.nm) (aD.v g.lv (aD.i g.lJ aD.n))))))))) = R) → plainO (G.aN (EO h) 999999 1 (aD.b any (aD.i (Int.ofNat 0) (aD.v vc (aD.v vo (aD.v vf (aD.v vp (aD.v (.string g.nm) (aD.v g.lv (aD.i g.lJ aD.n)))))))))) = plainO R := by
  intro R w e e2; rw [← e, e2]
 have fin : (G.aN (EO h) ((N + 3 * k + 2 + 1) + 3 * k + 1 + 1 + 1 + 1) 1 (aD.b any (aD.i (Int.ofNat 0) (aD.v vc (aD.v vo (aD.v vf (aD.v vp (aD.v (.string g.nm) (aD.v g.lv (aD.i g.lJ aD.n)))))))))) = some (.int .i64 (if !(okB any ((no : Int) - 1) (gM g)) then 4 else if g.lk.tail.all (okB any 5) && rY 0 50 g.lJ then 0 else 7)) := by
  have three : G.aN (EO h) ((N + 3 * k + 2 + 1) + 3 * k + 1 + 1) 3 (aD.b any (aD.i (Int.ofNat 0) (aD.v vc (aD.v vo (aD.v vf (aD.v vp (aD.v (.string g.nm) (aD.v g.lv (aD.i g.lJ aD.n))))))))) = some (.int .i64 (if g.lk.tail.all (okB any 5) && rY 0 50 g.lJ then 0 else 7)) := by
   rw [aN5]
   unfold aET
   rw [show Int.add (Int.ofNat 0) (Int.ofNat 1) = ((1 : Nat) : Int) from rfl, wrap64_in _ (by omega) (by omega), aT2 a any hlen (i := 1) (by omega) (N + 3 * k + 2 + 1) vc vo vf vp (.string g.nm) g.lJ k 1 (by omega) (by omega), aWM]
   unfold aMY
   rw [show (Int.ofNat 1) = ((1 : Nat) : Int) from rfl, aT3 a any hlen N (.string g.nm) k 1 (by omega), List.drop_one]
  rw [show (Int.ofNat 0) = ((0 : Nat) : Int) from rfl, aT1 a any (by omega), aN4]
  unfold aEU
  rw [aQ, cK, aH, if_pos (by simp), aR, aH, h0]
  unfold okB
  cases x1 : (any && decide (gM g = -1)) with
  | true => rw [if_neg (by simp), Bool.true_or, if_neg (by simp)]; exact three
  | false =>
   rw [if_pos (by rfl), Bool.false_or, hq, aq.j6 (x := .int .i64 (gM g)) rfl, aI, so.rows.len, eo, show Int.sub (no : Int) (Int.ofNat 1) = (no : Int) - 1 from rfl, wrap64_in _ (by omega) (by omega), show (Int.ofNat 0) = (0 : Int) from rfl, IM, aM, aZ, aR, aH]
   cases x2 : rY 0 ((no : Int) - 1) (gM g) with
   | false => rw [if_pos (by rfl), if_pos (by rfl)]; rfl
   | true => rw [if_neg (by simp), if_neg (by simp)]; exact three
 refine (unc _ _ hN.symm fin).trans ?_
 rfl
end Go.Proofs.Ytdpicdnpiihaaaa.K.L
