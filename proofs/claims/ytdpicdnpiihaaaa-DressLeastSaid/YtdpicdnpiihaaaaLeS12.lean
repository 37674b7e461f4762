/- Contracts of told functions: the reference's Check. -/
import Derived.Test.YtdpicdnpiihaaaaLeS11
open Go Go.bK
set_option maxRecDepth 100000
set_option linter.unusedVariables false
namespace Go.Proofs.Ytdpicdnpiihaaaa.K.L
theorem aN9 (h : Hp) (n : Nat) (v : Value) (a i : Int) : G.aI (T50 h) (n + 1) 1 (aD.v v (aD.i a (aD.i i aD.n))) = aES h (G.aI (T50 h) n) v a i := rfl
theorem CB {h : Hp} {v : Value} {l : List Int} (sl : jC h 1 v (l.map bB)) (most : Int) (hlen : l.length ≤ 900) : ∀ (m i n : Nat), i + m = l.length → m + 2 ≤ n → G.aI (T50 h) n 1 (aD.v v (aD.i most (aD.i (i : Int) aD.n))) = some (lD (lX (fun _ n => ML most n) l i (l.drop i)))
 | 0, i, n', him, hn => by
  obtain ⟨n, rfl⟩ : ∃ n, n' = n + 2 := ⟨n' - 2, by omega⟩
  rw [aN9]
  unfold aES
  rw [sl.rows.len, List.length_map, aH, aN, aC, if_neg (by simp; omega), List.drop_of_length_le (by omega)]
  rfl
 | m + 1, i, n', him, hn => by
  obtain ⟨n, rfl⟩ : ∃ n, n' = n + 1 := ⟨n' - 1, by omega⟩
  have hi : i < l.length := by omega
  obtain ⟨q, hq, aq, _⟩ := sl.rows.at (i := i) (r := bB l[i]) (by rw [List.getElem?_map, List.getElem?_eq_getElem hi]; rfl)
  rw [aN9]
  unfold aES
  rw [sl.rows.len, List.length_map, aH, aN, aC, if_pos (by simp; omega), hq, aq.gL (x := .int .i64 l[i]) rfl, aG, show (Int.ofNat 0) = (0 : Int) from rfl, DW, aK, aS, aP, aC, List.drop_eq_getElem_cons hi]
  unfold lX
  cases c : qC 0 most l[i] with
  | false =>
   have e : ML most l[i] = 7 := by unfold ML; rw [c]; rfl
   rw [if_pos (by rfl), e, if_neg (by decide)]; rfl
  | true =>
   have e : ML most l[i] = 0 := by unfold ML; rw [c]; rfl
   rw [if_neg (by simp), e, if_pos rfl, show Int.add (i : Int) (Int.ofNat 1) = ((i + 1 : Nat) : Int) from rfl, wrap64_in _ (by omega) (by omega)]
   exact CB sl most hlen m (i + 1) n (by omega) (by omega)
theorem IR {h : Hp} {v : Value} {l : List Int} (sl : jC h 1 v (l.map bB)) {many : Int} (most : Int) (hm : many ≤ 900) : F50 [v, .int .i64 many, .int .i64 most] h = some (lD (mQ many most l)) := by
 show plainO (aMP h (G.aI (T50 h) 999999) v many most) = _
 unfold aMP mQ jO
 rw [sl.rows.len, List.length_map, show (Int.ofNat 1) = (1 : Int) from rfl, DW, aK, aS, aP, aC]
 by_cases c : l.length = 0
 ·have : qC 1 many (l.length : Int) = false := by rw [c]; rfl
  rw [this, if_pos (by rfl), if_pos c]; rfl
 by_cases c2 : many < (l.length : Int)
 ·have : qC 1 many (l.length : Int) = false := by
   cases e : qC 1 many (l.length : Int) with
   | false => rfl
   | true => have := oK.1 e; omega
  rw [this, if_pos (by rfl), if_neg c, if_pos c2]; rfl
 rw [oK.2 (show (1 : Int) ≤ (l.length : Int) ∧ (l.length : Int) ≤ many by omega), if_neg (by simp), if_neg c, if_neg c2, show (Int.ofNat 0) = ((0 : Nat) : Int) from rfl, CB sl most (by omega) l.length 0 999999 (by omega) (by omega), List.drop_zero]
 rfl
def okB (any : Bool) (hi n : Int) : Bool := (any && decide (n = -1)) || qC 0 hi n
def low (any : Bool) : Int := if any then -1 else 0
theorem aOA {any : Bool} {hi n : Int} (h : -1 ≤ hi) : okB any hi n = qC (low any) hi n := by
 rw [Bool.eq_iff_iff, oK]
 unfold okB low
 cases any with
 | false => simp only [Bool.false_and, Bool.false_or, Bool.false_eq_true, if_false]; exact oK
 | true =>
  simp only [Bool.true_and, if_true, Bool.or_eq_true, decide_eq_true_iff]
  rw [oK]; omega
theorem aOB (h : Hp) (n : Nat) (b : Bool) (i : Int) (a c d e f g : Value) (k : Int) : G.aI (EP h) (n + 1) 1 (aD.b b (aD.i i (aD.v a (aD.v c (aD.v d (aD.v e (aD.v f (aD.v g (aD.i k aD.n))))))))) = aEW h (G.aI (EP h) n) b i a c d e f g k := rfl
theorem aOC (h : Hp) (n : Nat) (b : Bool) (i : Int) (b2 : Bool) (a c d e f g : Value) (k : Int) : G.aI (EP h) (n + 1) 2 (aD.b b (aD.i i (aD.b b2 (aD.v a (aD.v c (aD.v d (aD.v e (aD.v f (aD.v g (aD.i k aD.n)))))))))) = aEV h (G.aI (EP h) n) b i b2 a c d e f g k := rfl
theorem aOD (h : Hp) (n : Nat) (b : Bool) (i : Int) (a c d e f g : Value) (k : Int) : G.aI (EP h) (n + 1) 3 (aD.b b (aD.i i (aD.v a (aD.v c (aD.v d (aD.v e (aD.v f (aD.v g (aD.i k aD.n))))))))) = aEU h (G.aI (EP h) n) b i a c d e f g k := rfl
theorem aW2 (h : Hp) (n : Nat) (b : Bool) (f g : Value) (k : Int) : G.aI (EP h) (n + 1) 8 (aD.b b (aD.v f (aD.v g (aD.i k aD.n)))) = aM2 h (G.aI (EP h) n) b f g k := rfl
theorem aOE (h : Hp) (n : Nat) (b : Bool) (i : Int) (f g : Value) (k : Int) : G.aI (EP h) (n + 1) 4 (aD.b b (aD.i i (aD.v f (aD.v g (aD.i k aD.n))))) = aET h (G.aI (EP h) n) b i f g k := rfl
theorem aW3 (h : Hp) (n : Nat) (b : Bool) (i : Int) (b2 : Bool) (f g : Value) (k : Int) : G.aI (EP h) (n + 1) 5 (aD.b b (aD.i i (aD.b b2 (aD.v f (aD.v g (aD.i k aD.n)))))) = aM1 h (G.aI (EP h) n) b i b2 f g k := rfl
theorem aW4 (h : Hp) (n : Nat) (b : Bool) (i : Int) (f g : Value) (k : Int) : G.aI (EP h) (n + 1) 6 (aD.b b (aD.i i (aD.v f (aD.v g (aD.i k aD.n))))) = aM0 h (G.aI (EP h) n) b i f g k := rfl
theorem aW5 (h : Hp) (n : Nat) (f g : Value) (k : Int) : G.aI (EP h) (n + 1) 7 (aD.v f (aD.v g (aD.i k aD.n))) = aMZ h (G.aI (EP h) n) f g k := rfl
section
variable {h : Hp} {g : Lk} (a : IU h g) (any : Bool)
include a
theorem aUI {i : Nat} (hi : i < g.lk.length) (n : Nat) (c d e f m : Value) (k : Int) : G.aI (EP h) (n + 1) 1 (aD.b any (aD.i (i : Int) (aD.v c (aD.v d (aD.v e (aD.v f (aD.v m (aD.v g.lv (aD.i k aD.n))))))))) = G.aI (EP h) n 2 (aD.b any (aD.i (i : Int) (aD.b (any && decide (g.lk[i] = -1)) (aD.v c (aD.v d (aD.v e (aD.v f (aD.v m (aD.v g.lv (aD.i k aD.n)))))))))) := by
 obtain ⟨q, hq, aq, _⟩ := a.rows.at (i := i) (r := bB g.lk[i]) (by rw [List.getElem?_map, List.getElem?_eq_getElem hi]; rfl)
 rw [aOB]
 unfold aEW
 rw [a.rows.len, List.length_map, aH, aN, aC, if_pos (by simp; omega), aC]
 cases any with
 | false => rw [if_neg (by simp), Bool.false_and]
 | true => rw [if_pos rfl, hq, aq.gL (x := .int .i64 g.lk[i]) rfl, aG, aH, aY, Bool.true_and]; rfl
variable (hlen : g.lk.length ≤ 100)
include hlen
theorem aUJ {i : Nat} (h0 : 0 < i) (n : Nat) (c d e f m : Value) (k : Int) : ∀ (j i : Nat), 0 < i → i + j = g.lk.length → G.aI (EP h) (n + 3 * j + 1) 1 (aD.b any (aD.i (i : Int) (aD.v c (aD.v d (aD.v e (aD.v f (aD.v m (aD.v g.lv (aD.i k aD.n))))))))) = G.aI (EP h) n 8 (aD.b any (aD.v m (aD.v g.lv (aD.i k aD.n))))
 | 0, i, hi0, hij => by
  rw [Nat.mul_zero, Nat.add_zero, aOB]
  unfold aEW
  rw [a.rows.len, List.length_map, aH, aN, aC, if_neg (by simp; omega)]
 | j + 1, i, hi0, hij => by
  rw [show n + 3 * (j + 1) + 1 = (n + 3 * j + 1 + 1 + 1) + 1 by omega, aUI a any (by omega), aOC]
  unfold aEV
  rw [aH, aY, aC, if_neg (by simp; omega), aOD]
  unfold aEU
  rw [show Int.add (i : Int) (Int.ofNat 1) = ((i + 1 : Nat) : Int) from rfl, wrap64_in _ (by omega) (by omega)]
  exact aUJ h0 n c d e f m k j (i + 1) (by omega) (by omega)
theorem aUK (n : Nat) (m : Value) : ∀ (j i : Nat), i + j = g.lk.length → G.aI (EP h) (n + 3 * j + 2) 4 (aD.b any (aD.i (i : Int) (aD.v m (aD.v g.lv (aD.i g.iW aD.n))))) = some (.int .i64 (if (g.lk.drop i).all (okB any 5) && qC 0 50 g.iW then 0 else 7))
 | 0, i, hij => by
  rw [Nat.mul_zero, Nat.add_zero, aOE]
  unfold aET
  rw [a.rows.len, List.length_map, aH, aN, aC, if_neg (by simp; omega), aW5, List.drop_of_length_le (by omega)]
  unfold aMZ
  rw [show (Int.ofNat 0) = (0 : Int) from rfl, show (Int.ofNat 50) = (50 : Int) from rfl, DW, aK, aS, aP, aC]
  cases c : qC 0 50 g.iW <;> rfl
 | j + 1, i, hij => by
  have hi : i < g.lk.length := by omega
  obtain ⟨q, hq, aq, _⟩ := a.rows.at (i := i) (r := bB g.lk[i]) (by rw [List.getElem?_map, List.getElem?_eq_getElem hi]; rfl)
  have ih := aUK n m j (i + 1) (by omega)
  have next : G.aI (EP h) (n + 3 * j + 2 + 1) 6 (aD.b any (aD.i (i : Int) (aD.v m (aD.v g.lv (aD.i g.iW aD.n))))) = some (.int .i64 (if (g.lk.drop (i + 1)).all (okB any 5) && qC 0 50 g.iW then 0 else 7)) := by
   rw [aW4]
   unfold aM0
   rw [show Int.add (i : Int) (Int.ofNat 1) = ((i + 1 : Nat) : Int) from rfl, wrap64_in _ (by omega) (by omega)]
   exact ih
  have five : ∀ b : Bool, G.aI (EP h) (n + 3 * j + 2 + 1 + 1) 5 (aD.b any (aD.i (i : Int) (aD.b b (aD.v m (aD.v g.lv (aD.i g.iW aD.n)))))) = some (.int .i64 (if (b || qC 0 5 g.lk[i]) && (g.lk.drop (i + 1)).all (okB any 5) && qC 0 50 g.iW then 0 else 7)) := by
   intro b
   rw [aW3]
   unfold aM1
   rw [aP, aC]
   cases b with
   | true => rw [if_neg (by simp), next]; simp
   | false =>
    rw [if_pos (by rfl), hq, aq.gL (x := .int .i64 g.lk[i]) rfl, aG, show (Int.ofNat 0) = (0 : Int) from rfl, show (Int.ofNat 5) = (5 : Int) from rfl, DW, aK, aS, aP, aC]
    cases c : qC 0 5 g.lk[i] with
    | false => rw [if_pos (by rfl)]; simp
    | true => rw [if_neg (by simp), next]; simp
  rw [show n + 3 * (j + 1) + 2 = (n + 3 * j + 2 + 1 + 1) + 1 by omega, aOE]
  unfold aET
  rw [a.rows.len, List.length_map, aH, aN, aC, if_pos (by simp; omega), aC, List.drop_eq_getElem_cons hi, List.all_cons]
  unfold okB
  cases any with
  | false => rw [if_neg (by simp), five, Bool.false_and]; rfl
  | true => rw [if_pos rfl, hq, aq.gL (x := .int .i64 g.lk[i]) rfl, aG, aH, aY, five, Bool.true_and]; rfl
end
def aE9 (nc no : Nat) (any : Bool) (g : Lk) : Int := if (g.lk.length : Int) ≠ (nc : Int) then 3 else if !(okB any ((no : Int) - 1) (eU g)) then 4 else if g.lk.tail.all (okB any 5) && qC 0 50 g.iW then 0 else 7
theorem aCZ {h : Hp} {vc vo vf vp : Value} {rc ro : List (List Value)} (sc : jC h 1 vc rc) (so : jC h 1 vo ro) {nc no : Nat} (ec : rc.length = nc) (eo : ro.length = no) (hc : 0 < nc ∧ nc ≤ 100) (ho : no ≤ 100) (any : Bool) (g : Lk) (a : IU h g) :
  F89 [.agg (Array.mk (fP vc vo vf vp)), .agg (Array.mk g.row), .bool any] h = some (.int .i64 (aE9 nc no any g)) := by
 show plainO (aM3 h (G.aI (EP h) 999999) (.agg (Array.mk (fP vc vo vf vp))) (.agg (Array.mk g.row)) any) = _
 unfold aM3 aE9
 rw [dN, dN, j5, j5, oD _ _ 1 g.lv rfl, a.rows.len, List.length_map, oD _ _ 0 vc rfl, sc.rows.len, ec, aP, aY, aC]
 by_cases c : (g.lk.length : Int) = (nc : Int)
 case neg => rw [if_pos (by simpa using c), if_pos c]; rfl
 rw [if_neg (by simpa using c), if_neg (by simpa using c)]
 have hlen : g.lk.length ≤ 100 := by omega
 obtain ⟨k, ek⟩ : ∃ k, g.lk.length = k + 1 := ⟨g.lk.length - 1, by omega⟩
 have hh := DX ek
 have h0 : g.lk[0]'(by omega) = eU g := by rw [List.getElem?_eq_getElem (by omega)] at hh; simpa using hh
 obtain ⟨q, hq, aq, _⟩ := a.rows.at (i := 0) (r := bB (eU g)) (by rw [List.getElem?_map, hh]; rfl)
 obtain ⟨N, hN⟩ : ∃ N, 999999 = (N + 3 * k + 2 + 1) + 3 * k + 1 + 1 + 1 + 1 := ⟨999999 - 6 * k - 7, by omega⟩
 have unc : ∀ (R : Option Value) (w : Nat), w = 999999 → (G.aI (EP h) w 1 (aD.b any (aD.i (Int.ofNat 0) (aD.v vc (aD.v vo (aD.v vf (aD.v vp (aD.v (.string g.nm) (aD.v g.lv (aD.i g.iW aD.n))))))))) = R) → plainO (G.aI (EP h) 999999 1 (aD.b any (aD.i (Int.ofNat 0) (aD.v vc (aD.v vo (aD.v vf (aD.v vp (aD.v (.string g.nm) (aD.v g.lv (aD.i g.iW aD.n)))))))))) = plainO R := by
  intro R w e e2; rw [← e, e2]
 have fin : (G.aI (EP h) ((N + 3 * k + 2 + 1) + 3 * k + 1 + 1 + 1 + 1) 1 (aD.b any (aD.i (Int.ofNat 0) (aD.v vc (aD.v vo (aD.v vf (aD.v vp (aD.v (.string g.nm) (aD.v g.lv (aD.i g.iW aD.n)))))))))) = some (.int .i64 (if !(okB any ((no : Int) - 1) (eU g)) then 4 else if g.lk.tail.all (okB any 5) && qC 0 50 g.iW then 0 else 7)) := by
  have three : G.aI (EP h) ((N + 3 * k + 2 + 1) + 3 * k + 1 + 1) 3 (aD.b any (aD.i (Int.ofNat 0) (aD.v vc (aD.v vo (aD.v vf (aD.v vp (aD.v (.string g.nm) (aD.v g.lv (aD.i g.iW aD.n))))))))) = some (.int .i64 (if g.lk.tail.all (okB any 5) && qC 0 50 g.iW then 0 else 7)) := by
   rw [aOD]
   unfold aEU
   rw [show Int.add (Int.ofNat 0) (Int.ofNat 1) = ((1 : Nat) : Int) from rfl, wrap64_in _ (by omega) (by omega), aUJ a any hlen (i := 1) (by omega) (N + 3 * k + 2 + 1) vc vo vf vp (.string g.nm) g.iW k 1 (by omega) (by omega), aW2]
   unfold aM2
   rw [show (Int.ofNat 1) = ((1 : Nat) : Int) from rfl, aUK a any hlen N (.string g.nm) k 1 (by omega), List.drop_one]
  rw [show (Int.ofNat 0) = ((0 : Nat) : Int) from rfl, aUI a any (by omega), aOC]
  unfold aEV
  rw [aH, aY, aC, if_pos (by simp), aP, aC, h0]
  unfold okB
  cases x1 : (any && decide (eU g = -1)) with
  | true => rw [if_neg (by simp), Bool.true_or, if_neg (by simp)]; exact three
  | false =>
   rw [if_pos (by rfl), Bool.false_or, hq, aq.gL (x := .int .i64 (eU g)) rfl, aG, so.rows.len, eo, show Int.sub (no : Int) (Int.ofNat 1) = (no : Int) - 1 from rfl, wrap64_in _ (by omega) (by omega), show (Int.ofNat 0) = (0 : Int) from rfl, DW, aK, aS, aP, aC]
   cases x2 : qC 0 ((no : Int) - 1) (eU g) with
   | false => rw [if_pos (by rfl), if_pos (by rfl)]; rfl
   | true => rw [if_neg (by simp), if_neg (by simp)]; exact three
 refine (unc _ _ hN.symm fin).trans ?_
 rfl
end Go.Proofs.Ytdpicdnpiihaaaa.K.L
