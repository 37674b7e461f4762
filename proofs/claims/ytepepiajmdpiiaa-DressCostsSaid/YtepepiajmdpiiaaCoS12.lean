/- Contracts of told functions: the reference's Check. -/
import Derived.Test.YtepepiajmdpiiaaCoS11
open Go Go.Eng
set_option maxRecDepth 100000
set_option linter.unusedVariables false
namespace Go.Proofs.Ytepepiajmdpiiaa.K.L
theorem st50_1 (h : Hp) (n : Nat) (v : Value) (a i : Int) : G.rec' (T50 h) (n + 1) 1 (PAL.v v (PAL.i a (PAL.i i PAL.n))) = P50x1 h (G.rec' (T50 h) n) v a i := rfl
theorem st50_2 (h : Hp) (n : Nat) : G.rec' (T50 h) (n + 1) 2 PAL.n = some (pairV (0, 0)) := rfl
theorem numbers50_loop {h : Hp} {v : Value} {l : List Int} (sl : SlA h 1 v (l.map inRow)) (most : Int) (hlen : l.length ≤ 900) : ∀ (m i n : Nat), i + m = l.length → m + 2 ≤ n → G.rec' (T50 h) n 1 (PAL.v v (PAL.i most (PAL.i (i : Int) PAL.n))) = some (pairV (firstE (fun _ n => numE most n) l i (l.drop i)))
  | 0, i, n', him, hn => by
    obtain ⟨n, rfl⟩ : ∃ n, n' = n + 2 := ⟨n' - 2, by omega⟩
    rw [st50_1]
    unfold P50x1
    rw [sl.rows.len, List.length_map, boolZ_eq, ltZ_dec, ifB_if, if_neg (by simp; omega), List.drop_of_length_le (by omega)]
    rfl
  | m + 1, i, n', him, hn => by
    obtain ⟨n, rfl⟩ : ∃ n, n' = n + 1 := ⟨n' - 1, by omega⟩
    have hi : i < l.length := by omega
    obtain ⟨q, hq, aq, _⟩ := sl.rows.at (i := i) (r := inRow l[i]) (by rw [List.getElem?_map, List.getElem?_eq_getElem hi]; rfl)
    rw [st50_1]
    unfold P50x1
    rw [sl.rows.len, List.length_map, boolZ_eq, ltZ_dec, ifB_if, if_pos (by simp; omega), hq, aq.load1 (x := .int .i64 l[i]) rfl, intK_int, show (Int.ofNat 0) = (0 : Int) from rfl, in55_at, optK_some', boolK_bool, boolN_eq, ifB_if, List.drop_eq_getElem_cons hi]
    unfold firstE
    cases c : inB 0 most l[i] with
    | false =>
      have e : numE most l[i] = 7 := by unfold numE; rw [c]; rfl
      rw [if_pos (by rfl), e, if_neg (by decide)]; rfl
    | true =>
      have e : numE most l[i] = 0 := by unfold numE; rw [c]; rfl
      rw [if_neg (by simp), e, if_pos rfl, show Int.add (i : Int) (Int.ofNat 1) = ((i + 1 : Nat) : Int) from rfl, wrap64_in _ (by omega) (by omega)]
      exact numbers50_loop sl most hlen m (i + 1) n (by omega) (by omega)
theorem numbers50_at {h : Hp} {v : Value} {l : List Int} (sl : SlA h 1 v (l.map inRow)) {many : Int} (most : Int) (hm : many ≤ 900) : F50 [v, .int .i64 many, .int .i64 most] h = some (pairV (numsE many most l)) := by
  show plainO (P50x0 h (G.rec' (T50 h) 999999) v many most) = _
  unfold P50x0 numsE listE
  rw [sl.rows.len, List.length_map, show (Int.ofNat 1) = (1 : Int) from rfl, in55_at, optK_some', boolK_bool, boolN_eq, ifB_if]
  by_cases c : l.length = 0
  · have : inB 1 many (l.length : Int) = false := by rw [c]; rfl
    rw [this, if_pos (by rfl), if_pos c]; rfl
  by_cases c2 : many < (l.length : Int)
  · have : inB 1 many (l.length : Int) = false := by
      cases e : inB 1 many (l.length : Int) with
      | false => rfl
      | true => have := inB_iff.1 e; omega
    rw [this, if_pos (by rfl), if_neg c, if_pos c2]; rfl
  rw [inB_iff.2 (show (1 : Int) ≤ (l.length : Int) ∧ (l.length : Int) ≤ many by omega), if_neg (by simp), if_neg c, if_neg c2, show (Int.ofNat 0) = ((0 : Nat) : Int) from rfl, numbers50_loop sl most (by omega) l.length 0 999999 (by omega) (by omega), List.drop_zero]
  rfl
def okB (any : Bool) (hi n : Int) : Bool := (any && decide (n = -1)) || inB 0 hi n
def low (any : Bool) : Int := if any then -1 else 0
theorem okB_eq {any : Bool} {hi n : Int} (h : -1 ≤ hi) : okB any hi n = inB (low any) hi n := by
  rw [Bool.eq_iff_iff, inB_iff]
  unfold okB low
  cases any with
  | false => simp only [Bool.false_and, Bool.false_or, Bool.false_eq_true, if_false]; exact inB_iff
  | true =>
    simp only [Bool.true_and, if_true, Bool.or_eq_true, decide_eq_true_iff]
    rw [inB_iff]; omega
theorem st89_1 (h : Hp) (n : Nat) (b : Bool) (i : Int) (a c d e f g : Value) (k : Int) : G.rec' (T89 h) (n + 1) 1 (PAL.b b (PAL.i i (PAL.v a (PAL.v c (PAL.v d (PAL.v e (PAL.v f (PAL.v g (PAL.i k PAL.n))))))))) = P89x1 h (G.rec' (T89 h) n) b i a c d e f g k := rfl
theorem st89_2 (h : Hp) (n : Nat) (b : Bool) (i : Int) (b2 : Bool) (a c d e f g : Value) (k : Int) : G.rec' (T89 h) (n + 1) 2 (PAL.b b (PAL.i i (PAL.b b2 (PAL.v a (PAL.v c (PAL.v d (PAL.v e (PAL.v f (PAL.v g (PAL.i k PAL.n)))))))))) = P89x2 h (G.rec' (T89 h) n) b i b2 a c d e f g k := rfl
theorem st89_3 (h : Hp) (n : Nat) (b : Bool) (i : Int) (a c d e f g : Value) (k : Int) : G.rec' (T89 h) (n + 1) 3 (PAL.b b (PAL.i i (PAL.v a (PAL.v c (PAL.v d (PAL.v e (PAL.v f (PAL.v g (PAL.i k PAL.n))))))))) = P89x3 h (G.rec' (T89 h) n) b i a c d e f g k := rfl
theorem st89_8 (h : Hp) (n : Nat) (b : Bool) (f g : Value) (k : Int) : G.rec' (T89 h) (n + 1) 8 (PAL.b b (PAL.v f (PAL.v g (PAL.i k PAL.n)))) = P89x8 h (G.rec' (T89 h) n) b f g k := rfl
theorem st89_4 (h : Hp) (n : Nat) (b : Bool) (i : Int) (f g : Value) (k : Int) : G.rec' (T89 h) (n + 1) 4 (PAL.b b (PAL.i i (PAL.v f (PAL.v g (PAL.i k PAL.n))))) = P89x4 h (G.rec' (T89 h) n) b i f g k := rfl
theorem st89_5 (h : Hp) (n : Nat) (b : Bool) (i : Int) (b2 : Bool) (f g : Value) (k : Int) : G.rec' (T89 h) (n + 1) 5 (PAL.b b (PAL.i i (PAL.b b2 (PAL.v f (PAL.v g (PAL.i k PAL.n)))))) = P89x5 h (G.rec' (T89 h) n) b i b2 f g k := rfl
theorem st89_6 (h : Hp) (n : Nat) (b : Bool) (i : Int) (f g : Value) (k : Int) : G.rec' (T89 h) (n + 1) 6 (PAL.b b (PAL.i i (PAL.v f (PAL.v g (PAL.i k PAL.n))))) = P89x6 h (G.rec' (T89 h) n) b i f g k := rfl
theorem st89_7 (h : Hp) (n : Nat) (f g : Value) (k : Int) : G.rec' (T89 h) (n + 1) 7 (PAL.v f (PAL.v g (PAL.i k PAL.n))) = P89x7 h (G.rec' (T89 h) n) f g k := rfl
section
variable {h : Hp} {g : Lk} (a : LkA h g) (any : Bool)
include a
theorem free1 {i : Nat} (hi : i < g.lk.length) (n : Nat) (c d e f m : Value) (k : Int) : G.rec' (T89 h) (n + 1) 1 (PAL.b any (PAL.i (i : Int) (PAL.v c (PAL.v d (PAL.v e (PAL.v f (PAL.v m (PAL.v g.lv (PAL.i k PAL.n))))))))) = G.rec' (T89 h) n 2 (PAL.b any (PAL.i (i : Int) (PAL.b (any && decide (g.lk[i] = -1)) (PAL.v c (PAL.v d (PAL.v e (PAL.v f (PAL.v m (PAL.v g.lv (PAL.i k PAL.n)))))))))) := by
  obtain ⟨q, hq, aq, _⟩ := a.rows.at (i := i) (r := inRow g.lk[i]) (by rw [List.getElem?_map, List.getElem?_eq_getElem hi]; rfl)
  rw [st89_1]
  unfold P89x1
  rw [a.rows.len, List.length_map, boolZ_eq, ltZ_dec, ifB_if, if_pos (by simp; omega), ifB_if]
  cases any with
  | false => rw [if_neg (by simp), Bool.false_and]
  | true => rw [if_pos rfl, hq, aq.load1 (x := .int .i64 g.lk[i]) rfl, intK_int, boolZ_eq, eqZ_dec, Bool.true_and]; rfl
variable (hlen : g.lk.length ≤ 100)
include hlen
theorem pass1 {i : Nat} (h0 : 0 < i) (n : Nat) (c d e f m : Value) (k : Int) : ∀ (j i : Nat), 0 < i → i + j = g.lk.length → G.rec' (T89 h) (n + 3 * j + 1) 1 (PAL.b any (PAL.i (i : Int) (PAL.v c (PAL.v d (PAL.v e (PAL.v f (PAL.v m (PAL.v g.lv (PAL.i k PAL.n))))))))) = G.rec' (T89 h) n 8 (PAL.b any (PAL.v m (PAL.v g.lv (PAL.i k PAL.n))))
  | 0, i, hi0, hij => by
    rw [Nat.mul_zero, Nat.add_zero, st89_1]
    unfold P89x1
    rw [a.rows.len, List.length_map, boolZ_eq, ltZ_dec, ifB_if, if_neg (by simp; omega)]
  | j + 1, i, hi0, hij => by
    rw [show n + 3 * (j + 1) + 1 = (n + 3 * j + 1 + 1 + 1) + 1 by omega, free1 a any (by omega), st89_2]
    unfold P89x2
    rw [boolZ_eq, eqZ_dec, ifB_if, if_neg (by simp; omega), st89_3]
    unfold P89x3
    rw [show Int.add (i : Int) (Int.ofNat 1) = ((i + 1 : Nat) : Int) from rfl, wrap64_in _ (by omega) (by omega)]
    exact pass1 h0 n c d e f m k j (i + 1) (by omega) (by omega)
theorem pass4 (n : Nat) (m : Value) : ∀ (j i : Nat), i + j = g.lk.length → G.rec' (T89 h) (n + 3 * j + 2) 4 (PAL.b any (PAL.i (i : Int) (PAL.v m (PAL.v g.lv (PAL.i g.hair PAL.n))))) = some (.int .i64 (if (g.lk.drop i).all (okB any 5) && inB 0 50 g.hair then 0 else 7))
  | 0, i, hij => by
    rw [Nat.mul_zero, Nat.add_zero, st89_4]
    unfold P89x4
    rw [a.rows.len, List.length_map, boolZ_eq, ltZ_dec, ifB_if, if_neg (by simp; omega), st89_7, List.drop_of_length_le (by omega)]
    unfold P89x7
    rw [show (Int.ofNat 0) = (0 : Int) from rfl, show (Int.ofNat 50) = (50 : Int) from rfl, in55_at, optK_some', boolK_bool, boolN_eq, ifB_if]
    cases c : inB 0 50 g.hair <;> rfl
  | j + 1, i, hij => by
    have hi : i < g.lk.length := by omega
    obtain ⟨q, hq, aq, _⟩ := a.rows.at (i := i) (r := inRow g.lk[i]) (by rw [List.getElem?_map, List.getElem?_eq_getElem hi]; rfl)
    have ih := pass4 n m j (i + 1) (by omega)
    have next : G.rec' (T89 h) (n + 3 * j + 2 + 1) 6 (PAL.b any (PAL.i (i : Int) (PAL.v m (PAL.v g.lv (PAL.i g.hair PAL.n))))) = some (.int .i64 (if (g.lk.drop (i + 1)).all (okB any 5) && inB 0 50 g.hair then 0 else 7)) := by
      rw [st89_6]
      unfold P89x6
      rw [show Int.add (i : Int) (Int.ofNat 1) = ((i + 1 : Nat) : Int) from rfl, wrap64_in _ (by omega) (by omega)]
      exact ih
    have five : ∀ b : Bool, G.rec' (T89 h) (n + 3 * j + 2 + 1 + 1) 5 (PAL.b any (PAL.i (i : Int) (PAL.b b (PAL.v m (PAL.v g.lv (PAL.i g.hair PAL.n)))))) = some (.int .i64 (if (b || inB 0 5 g.lk[i]) && (g.lk.drop (i + 1)).all (okB any 5) && inB 0 50 g.hair then 0 else 7)) := by
      intro b
      rw [st89_5]
      unfold P89x5
      rw [boolN_eq, ifB_if]
      cases b with
      | true => rw [if_neg (by simp), next]; simp
      | false =>
        rw [if_pos (by rfl), hq, aq.load1 (x := .int .i64 g.lk[i]) rfl, intK_int, show (Int.ofNat 0) = (0 : Int) from rfl, show (Int.ofNat 5) = (5 : Int) from rfl, in55_at, optK_some', boolK_bool, boolN_eq, ifB_if]
        cases c : inB 0 5 g.lk[i] with
        | false => rw [if_pos (by rfl)]; simp
        | true => rw [if_neg (by simp), next]; simp
    rw [show n + 3 * (j + 1) + 2 = (n + 3 * j + 2 + 1 + 1) + 1 by omega, st89_4]
    unfold P89x4
    rw [a.rows.len, List.length_map, boolZ_eq, ltZ_dec, ifB_if, if_pos (by simp; omega), ifB_if, List.drop_eq_getElem_cons hi, List.all_cons]
    unfold okB
    cases any with
    | false => rw [if_neg (by simp), five, Bool.false_and]; rfl
    | true => rw [if_pos rfl, hq, aq.load1 (x := .int .i64 g.lk[i]) rfl, intK_int, boolZ_eq, eqZ_dec, five, Bool.true_and]; rfl
end
def lookX (nc no : Nat) (any : Bool) (g : Lk) : Int := if (g.lk.length : Int) ≠ (nc : Int) then 3 else if !(okB any ((no : Int) - 1) (hair0 g)) then 4 else if g.lk.tail.all (okB any 5) && inB 0 50 g.hair then 0 else 7
theorem looks89_at {h : Hp} {vc vo vf vp : Value} {rc ro : List (List Value)} (sc : SlA h 1 vc rc) (so : SlA h 1 vo ro) {nc no : Nat} (ec : rc.length = nc) (eo : ro.length = no) (hc : 0 < nc ∧ nc ≤ 100) (ho : no ≤ 100) (any : Bool) (g : Lk) (a : LkA h g) :
    F89 [.agg (Array.mk (rmRow vc vo vf vp)), .agg (Array.mk g.row), .bool any] h = some (.int .i64 (lookX nc no any g)) := by
  show plainO (P89x0 h (G.rec' (T89 h) 999999) (.agg (Array.mk (rmRow vc vo vf vp))) (.agg (Array.mk g.row)) any) = _
  unfold P89x0 lookX
  rw [rowCells, rowCells, forceL_eq, forceL_eq, nthR_get _ _ 1 g.lv rfl, a.rows.len, List.length_map, nthR_get _ _ 0 vc rfl, sc.rows.len, ec, boolN_eq, eqZ_dec, ifB_if]
  by_cases c : (g.lk.length : Int) = (nc : Int)
  case neg => rw [if_pos (by simpa using c), if_pos c]; rfl
  rw [if_neg (by simpa using c), if_neg (by simpa using c)]
  have hlen : g.lk.length ≤ 100 := by omega
  obtain ⟨k, ek⟩ : ∃ k, g.lk.length = k + 1 := ⟨g.lk.length - 1, by omega⟩
  have hh := head_at ek
  have h0 : g.lk[0]'(by omega) = hair0 g := by rw [List.getElem?_eq_getElem (by omega)] at hh; simpa using hh
  obtain ⟨q, hq, aq, _⟩ := a.rows.at (i := 0) (r := inRow (hair0 g)) (by rw [List.getElem?_map, hh]; rfl)
  obtain ⟨N, hN⟩ : ∃ N, 999999 = (N + 3 * k + 2 + 1) + 3 * k + 1 + 1 + 1 + 1 := ⟨999999 - 6 * k - 7, by omega⟩
  have unc : ∀ (R : Option Value) (w : Nat), w = 999999 → (G.rec' (T89 h) w 1 (PAL.b any (PAL.i (Int.ofNat 0) (PAL.v vc (PAL.v vo (PAL.v vf (PAL.v vp (PAL.v (.string g.nm) (PAL.v g.lv (PAL.i g.hair PAL.n))))))))) = R) → plainO (G.rec' (T89 h) 999999 1 (PAL.b any (PAL.i (Int.ofNat 0) (PAL.v vc (PAL.v vo (PAL.v vf (PAL.v vp (PAL.v (.string g.nm) (PAL.v g.lv (PAL.i g.hair PAL.n)))))))))) = plainO R := by
    intro R w e e2; rw [← e, e2]
  have fin : (G.rec' (T89 h) ((N + 3 * k + 2 + 1) + 3 * k + 1 + 1 + 1 + 1) 1 (PAL.b any (PAL.i (Int.ofNat 0) (PAL.v vc (PAL.v vo (PAL.v vf (PAL.v vp (PAL.v (.string g.nm) (PAL.v g.lv (PAL.i g.hair PAL.n)))))))))) = some (.int .i64 (if !(okB any ((no : Int) - 1) (hair0 g)) then 4 else if g.lk.tail.all (okB any 5) && inB 0 50 g.hair then 0 else 7)) := by
    have three : G.rec' (T89 h) ((N + 3 * k + 2 + 1) + 3 * k + 1 + 1) 3 (PAL.b any (PAL.i (Int.ofNat 0) (PAL.v vc (PAL.v vo (PAL.v vf (PAL.v vp (PAL.v (.string g.nm) (PAL.v g.lv (PAL.i g.hair PAL.n))))))))) = some (.int .i64 (if g.lk.tail.all (okB any 5) && inB 0 50 g.hair then 0 else 7)) := by
      rw [st89_3]
      unfold P89x3
      rw [show Int.add (Int.ofNat 0) (Int.ofNat 1) = ((1 : Nat) : Int) from rfl, wrap64_in _ (by omega) (by omega), pass1 a any hlen (i := 1) (by omega) (N + 3 * k + 2 + 1) vc vo vf vp (.string g.nm) g.hair k 1 (by omega) (by omega), st89_8]
      unfold P89x8
      rw [show (Int.ofNat 1) = ((1 : Nat) : Int) from rfl, pass4 a any hlen N (.string g.nm) k 1 (by omega), List.drop_one]
    rw [show (Int.ofNat 0) = ((0 : Nat) : Int) from rfl, free1 a any (by omega), st89_2]
    unfold P89x2
    rw [boolZ_eq, eqZ_dec, ifB_if, if_pos (by simp), boolN_eq, ifB_if, h0]
    unfold okB
    cases x1 : (any && decide (hair0 g = -1)) with
    | true => rw [if_neg (by simp), Bool.true_or, if_neg (by simp)]; exact three
    | false =>
      rw [if_pos (by rfl), Bool.false_or, hq, aq.load1 (x := .int .i64 (hair0 g)) rfl, intK_int, so.rows.len, eo, show Int.sub (no : Int) (Int.ofNat 1) = (no : Int) - 1 from rfl, wrap64_in _ (by omega) (by omega), show (Int.ofNat 0) = (0 : Int) from rfl, in55_at, optK_some', boolK_bool, boolN_eq, ifB_if]
      cases x2 : inB 0 ((no : Int) - 1) (hair0 g) with
      | false => rw [if_pos (by rfl), if_pos (by rfl)]; rfl
      | true => rw [if_neg (by simp), if_neg (by simp)]; exact three
  refine (unc _ _ hN.symm fin).trans ?_
  rfl
end Go.Proofs.Ytepepiajmdpiiaa.K.L
