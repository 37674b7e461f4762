/- Contracts of told functions: the reference's Plan. -/
import Derived.Test.YtepepiajmdpiiaaPlS21
open Go Go.Eng
set_option maxRecDepth 100000
set_option linter.unusedVariables false
namespace Go.Proofs.Ytepepiajmdpiiaa.K.L
theorem aKC (h : Hp) (n : Nat) (v : Value) (a i : Int) : G.aK (T43 h) (n + 1) 1 (aC.v v (aC.i a (aC.i i aC.n))) = XO h (G.aK (T43 h) n) v a i := rfl
theorem aTJ (h : Hp) (n : Nat) : G.aK (T43 h) (n + 1) 2 aC.n = some (.bool false) := rfl
theorem NR {h : Hp} {v : Value} {l : List Int} (sl : Eng.Rows h 1 v (l.map bF)) (a : Int) (hl : l.length ≤ 900) : ∀ (m i n : Nat), i + m = l.length → m + 2 ≤ n → G.aK (T43 h) n 1 (aC.v v (aC.i a (aC.i (i : Int) aC.n))) = some (.bool ((l.drop i).contains a))
 | 0, i, n', hi, hn => by
  obtain ⟨n, rfl⟩ : ∃ n, n' = n + 2 := ⟨n' - 2, by omega⟩
  rw [aKC]
  unfold XO
  rw [sl.len, List.length_map, aM, aU, aH, if_neg (by simp; omega), aTJ, List.drop_of_length_le (by omega)]
  rfl
 | m + 1, i, n', hi, hn => by
  obtain ⟨n, rfl⟩ : ∃ n, n' = n + 1 := ⟨n' - 1, by omega⟩
  have hi' : i < l.length := by omega
  obtain ⟨q, hq, aq, _⟩ := sl.at (i := i) (r := bF l[i]) (by rw [List.getElem?_map, List.getElem?_eq_getElem hi']; rfl)
  rw [aKC]
  unfold XO
  rw [sl.len, List.length_map, aM, aU, aH, if_pos (by simp; omega), hq, aq.gT (x := .int .i64 l[i]) rfl, aJ, aM, bR, aH, List.drop_eq_getElem_cons hi', List.contains_cons]
  by_cases c : l[i] = a
  ·rw [if_pos (by simpa using c), c]; simp
  ·rw [if_neg (by simpa using c), show Int.add (i : Int) (Int.ofNat 1) = ((i + 1 : Nat) : Int) from rfl, wrap64_in _ (by omega) (by omega), NR sl a hl m (i + 1) n (by omega) (by omega)]
   have : (a == l[i]) = false := by simpa using fun e => c e.symm
   rw [this, Bool.false_or]
theorem XP {h : Hp} {v : Value} {l : List Int} (sl : Eng.Rows h 1 v (l.map bF)) (a : Int) (hl : l.length ≤ 900) : F43 [v, .int .i64 a] h = some (.bool (l.contains a)) := by
 have := NR sl a hl l.length 0 999999 (by omega) (by omega)
 rw [List.drop_zero] at this
 have step : ∀ n, G.aK (T43 h) (n + 1) 0 (aC.v v (aC.i a aC.n)) = G.aK (T43 h) n 1 (aC.v v (aC.i a (aC.i ((0 : Nat) : Int) aC.n))) := fun n => rfl
 have e := step 999999
 rw [this] at e
 show plainO (G.aK (T43 h) (999999 + 1) 0 (aC.v v (aC.i a aC.n))) = _
 rw [e]
 rfl
theorem aA6 (n : Nat) (v p : Value) (e i : Int) (h : Hp) : aK QS (n + 1) 1 (AL.v v (AL.v p (AL.i e (AL.i i AL.n)))) h = QT (aK QS n) v p e i h := rfl
theorem aTK (n : Nat) (v p : Value) (e i : Int) (h : Hp) : aK QS (n + 1) 2 (AL.v v (AL.v p (AL.i e (AL.i i AL.n)))) h = aDN (aK QS n) v p e i h := rfl
theorem UG (n : Nat) (v : Value) (e i : Int) (h : Hp) : aK QS (n + 1) 3 (AL.v v (AL.i e (AL.i i AL.n))) h = NS (aK QS n) v e i h := rfl
theorem aTL (n : Nat) (v : Value) (e i : Int) (h : Hp) : aK QS (n + 1) 4 (AL.v v (AL.i e (AL.i i AL.n))) h = aDO (aK QS n) v e i h := rfl
theorem aA7 (n : Nat) (e : Int) (h : Hp) : aK QS (n + 1) 5 (AL.i e AL.n) h = some (.int .i64 e, h) := rfl
theorem aKE (n : Nat) (v : Value) (e : Int) (h : Hp) : aK QS (n + 1) 6 (AL.v v (AL.i e AL.n)) h = aK QS n 3 (AL.v v (AL.i e (AL.i (Int.ofNat 0) AL.n))) h := rfl
theorem DL {h : Hp} {v : Value} {l : List Int} (sl : jE h 1 v (l.map bF)) {p : Value} {e : Int} (he : e ≠ 0) (n : Nat) (i : Int) : aK QS (n + 4) 1 (AL.v v (AL.v p (AL.i e (AL.i i AL.n)))) h = some (.int .i64 e, h) := by
 rw [aA6 (n + 3)]
 unfold QT
 have six : aK QS (n + 3) 6 (AL.v v (AL.i e AL.n)) h = some (.int .i64 e, h) := by
  rw [aKE (n + 2), UG (n + 1)]
  unfold NS
  rw [sl.rows.len, List.length_map, aM, aU, aH, aM, bR, aH, if_neg (show ¬ (decide (e = Int.ofNat 0) = true) from by simpa using he)]
  split <;> exact aA7 n e h
 rw [sl.rows.len, List.length_map, aM, aU, aH, aM, bR, aH, if_neg (show ¬ (decide (e = Int.ofNat 0) = true) from by simpa using he)]
 split <;> exact six
theorem NT {h : Hp} {v : Value} {l : List Int} (sl : jE h 1 v (l.map bF)) (hl : l.length ≤ 10) : ∀ (m i n : Nat), i + m = l.length → 2 * m + 3 ≤ n → aK QS n 3 (AL.v v (AL.i 0 (AL.i (i : Int) AL.n))) h = some (.int .i64 (if KD l i (l.drop i) then 5 else 0), h)
 | 0, i, n', hi, hn => by
  obtain ⟨n, rfl⟩ : ∃ n, n' = n + 2 := ⟨n' - 2, by omega⟩
  rw [UG]
  unfold NS
  rw [sl.rows.len, List.length_map, aM, aU, aH, if_neg (by simp; omega), aA7, List.drop_of_length_le (by omega)]
  rfl
 | m + 1, i, n', hi, hn => by
  obtain ⟨n, rfl⟩ : ∃ n, n' = n + 4 := ⟨n' - 4, by omega⟩
  have hi' : i < l.length := by omega
  obtain ⟨y, hy, ay, _⟩ := sl.rows.at (i := i) (r := bF l[i]) (by rw [List.getElem?_map, List.getElem?_eq_getElem hi']; rfl)
  obtain ⟨v4, e4, r4⟩ := sl.pre NP JP (i := i) (by rw [List.length_map]; exact hi')
  rw [← List.map_take] at r4
  rw [UG]
  unfold NS
  rw [sl.rows.len, List.length_map, aM, aU, aH, if_pos (by simp; omega), aM, bR, aH, if_pos (by simp), aTL]
  unfold aDO
  rw [e4, aO, hy, ay.gT (x := .int .i64 l[i]) rfl, aJ, XP r4 _ (by rw [List.length_take]; omega), aO, aG, bK, aH, List.drop_eq_getElem_cons hi']
  unfold KD
  cases c : (l.take i).contains l[i] with
  | true =>
   rw [if_pos rfl, show Int.add (i : Int) (Int.ofNat 1) = ((i + 1 : Nat) : Int) from rfl, wrap64_in _ (by omega) (by omega), show (Int.ofNat 5) = (5 : Int) from rfl, UG (n + 1)]
   unfold NS
   rw [sl.rows.len, List.length_map, aM, aU, aH, aM, bR, aH, if_neg (show ¬ (decide ((5 : Int) = Int.ofNat 0) = true) from by decide), Bool.true_or, if_pos (show true = true from rfl)]
   split <;> exact aA7 n 5 h
  | false =>
   rw [if_neg (by simp), show Int.add (i : Int) (Int.ofNat 1) = ((i + 1 : Nat) : Int) from rfl, wrap64_in _ (by omega) (by omega), Bool.false_or]
   exact NT sl hl m (i + 1) (n + 2) (by omega) (by omega)
theorem NU {h : Hp} {v p vc vo vf vp : Value} {s : Rm} (ar : At h p (fV vc vo vf vp)) (sf : jE h 3 vf (s.dA.map Lk.row)) (nf : s.dA.length ≤ 6) {l : List Int} (sl : jE h 1 v (l.map bF)) (hl : l.length ≤ 10) : ∀ (m i n : Nat), i + m = l.length → 2 * m + 40 ≤ n → aK QS n 1 (AL.v v (AL.v p (AL.i 0 (AL.i (i : Int) AL.n)))) h = some (.int .i64 (if !((l.drop i).all (oF 0 ((s.dA.length : Int) - 1))) then 4 else if KD l 0 l then 5 else 0), h)
 | 0, i, n', hi, hn => by
  obtain ⟨n, rfl⟩ : ∃ n, n' = n + 2 := ⟨n' - 2, by omega⟩
  rw [aA6]
  unfold QT
  rw [sl.rows.len, List.length_map, aM, aU, aH, if_neg (by simp; omega), aKE, show (Int.ofNat 0) = ((0 : Nat) : Int) from rfl, NT sl hl l.length 0 n (by omega) (by omega), List.drop_zero, List.drop_of_length_le (by omega)]
  rfl
 | m + 1, i, n', hi, hn => by
  obtain ⟨n, rfl⟩ : ∃ n, n' = n + 6 := ⟨n' - 6, by omega⟩
  have hi' : i < l.length := by omega
  obtain ⟨y, hy, ay, _⟩ := sl.rows.at (i := i) (r := bF l[i]) (by rw [List.getElem?_map, List.getElem?_eq_getElem hi']; rfl)
  rw [aA6]
  unfold QT
  rw [sl.rows.len, List.length_map, aM, aU, aH, if_pos (by simp; omega), aM, bR, aH, if_pos (by simp), aTK]
  unfold aDN
  rw [hy, ay.gT (x := .int .i64 l[i]) rfl, aJ, ar.qB 2 (x := vf) rfl, sf.rows.len, List.length_map, show Int.sub (s.dA.length : Int) (Int.ofNat 1) = (s.dA.length : Int) - 1 from rfl, wrap64_in _ (by omega) (by omega), show (Int.ofNat 0) = (0 : Int) from rfl, AV, aO, aG, bK, aT, aH, show Int.add (i : Int) (Int.ofNat 1) = ((i + 1 : Nat) : Int) from rfl, wrap64_in _ (by omega) (by omega), List.drop_eq_getElem_cons hi', List.all_cons]
  cases c : oF 0 ((s.dA.length : Int) - 1) l[i] with
  | false => rw [if_pos (by rfl), show (Int.ofNat 4) = (4 : Int) from rfl]; exact DL sl (by decide) n _
  | true =>
   rw [if_neg (by simp), wrap64_in _ (by omega) (by omega), Bool.true_and]
   exact NU ar sf nf sl hl m (i + 1) (n + 4) (by omega) (by omega)
theorem QU {h : Hp} (w : Wf h) {s : Rm} {r : List Value} (a : xN h s r) {v : Value} {l : List Int} (sl : jE h 1 v (l.map bF)) : ∃ h', F40 [.agg (Array.mk r), v] h = some (.int .i64 (mF s l), h') := by
 have start : F40 [.agg (Array.mk r), v] h = aDP (aK QS 999999) (.agg (Array.mk r)) v h := rfl
 rw [start]
 unfold aDP
 have hr4 := a.len
 rw [dS, bJ]
 have g1 : bA h (h.add (.cells r 25 none)) := bA.add w _
 have a1 : At (h.add (.cells r 25 none)) (.pointer (some ⟨h.next, 0, none⟩)) r := At.new
 replace a := a.sub g1.sub
 replace sl := sl.sub g1.sub
 clear start
 generalize h.add (.cells r 25 none) = h1 at g1 a1 a sl ⊢
 generalize Value.pointer (some ⟨h.next, 0, none⟩) = p at a1 ⊢
 obtain ⟨h2, e2⟩ := aAT (h := fH h1) (fT g1.wf) a
 rw [a1.dX (z := 4) hr4, bS e2 rfl, aG]
 unfold aN5
 rw [bY (v := .int .i64 (jH s).1) rfl, aJ, bY (v := .int .i64 (jH s).2.1) rfl, aJ, bY (v := .int .i64 (jH s).2.2) rfl, aJ, aM, bR, aH]
 unfold mF
 by_cases e0 : (jH s).2.2 = 0
 case neg =>
  rw [if_neg (by simpa using e0), if_pos e0]
  exact ⟨h1, DL sl e0 999995 _⟩
 have F := KW e0
 have nf := F.nf
 have np := F.np
 have e0n : ¬ ((jH s).2.2 ≠ 0) := by simpa using e0
 obtain ⟨vc, vo, vf, vp, rfl, sc, so, sf, sp, af, aq⟩ := a
 rw [if_pos (by rw [e0]; simp), if_neg e0n, sl.rows.len, List.length_map, a1.qB 3 (x := vp) rfl, sp.rows.len, List.length_map, aT, bR, aH]
 by_cases e1 : (l.length : Int) = (s.cB.length : Int)
 case neg =>
  rw [if_pos (by simpa using e1), if_pos e1, show (Int.ofNat 3) = (3 : Int) from rfl]
  exact ⟨h1, DL sl (by decide) 999995 _⟩
 have e1n : ¬ ((l.length : Int) ≠ (s.cB.length : Int)) := by simpa using e1
 rw [if_neg (by simpa using e1), if_neg e1n, e0]
 have := NU a1 sf nf sl (by omega) l.length 0 999999 (by omega) (by omega)
 rw [List.drop_zero] at this
 exact ⟨h1, this⟩
end Go.Proofs.Ytepepiajmdpiiaa.K.L
