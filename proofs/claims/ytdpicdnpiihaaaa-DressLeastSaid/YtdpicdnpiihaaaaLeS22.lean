/- Contracts of told functions: the reference's Plan. -/
import Derived.Test.YtdpicdnpiihaaaaLeS21
open Go Go.bK
set_option maxRecDepth 100000
set_option linter.unusedVariables false
namespace Go.Proofs.Ytdpicdnpiihaaaa.K.L
theorem aOY (h : Hp) (n : Nat) (v : Value) (a i : Int) : G.aI (T43 h) (n + 1) 1 (aD.v v (aD.i a (aD.i i aD.n))) = aE2 h (G.aI (T43 h) n) v a i := rfl
theorem aXK (h : Hp) (n : Nat) : G.aI (T43 h) (n + 1) 2 aD.n = some (.bool false) := rfl
theorem QA {h : Hp} {v : Value} {l : List Int} (sl : bK.Rows h 1 v (l.map bB)) (a : Int) (hl : l.length ≤ 900) : ∀ (m i n : Nat), i + m = l.length → m + 2 ≤ n → G.aI (T43 h) n 1 (aD.v v (aD.i a (aD.i (i : Int) aD.n))) = some (.bool ((l.drop i).contains a))
 | 0, i, n', hi, hn => by
  obtain ⟨n, rfl⟩ : ∃ n, n' = n + 2 := ⟨n' - 2, by omega⟩
  rw [aOY]
  unfold aE2
  rw [sl.len, List.length_map, aH, aN, aC, if_neg (by simp; omega), aXK, List.drop_of_length_le (by omega)]
  rfl
 | m + 1, i, n', hi, hn => by
  obtain ⟨n, rfl⟩ : ∃ n, n' = n + 1 := ⟨n' - 1, by omega⟩
  have hi' : i < l.length := by omega
  obtain ⟨q, hq, aq, _⟩ := sl.at (i := i) (r := bB l[i]) (by rw [List.getElem?_map, List.getElem?_eq_getElem hi']; rfl)
  rw [aOY]
  unfold aE2
  rw [sl.len, List.length_map, aH, aN, aC, if_pos (by simp; omega), hq, aq.gL (x := .int .i64 l[i]) rfl, aG, aH, aY, aC, List.drop_eq_getElem_cons hi', List.contains_cons]
  by_cases c : l[i] = a
  ·rw [if_pos (by simpa using c), c]; simp
  ·rw [if_neg (by simpa using c), show Int.add (i : Int) (Int.ofNat 1) = ((i + 1 : Nat) : Int) from rfl, wrap64_in _ (by omega) (by omega), QA sl a hl m (i + 1) n (by omega) (by omega)]
   have : (a == l[i]) = false := by simpa using fun e => c e.symm
   rw [this, Bool.false_or]
theorem ZW {h : Hp} {v : Value} {l : List Int} (sl : bK.Rows h 1 v (l.map bB)) (a : Int) (hl : l.length ≤ 900) : F43 [v, .int .i64 a] h = some (.bool (l.contains a)) := by
 have := QA sl a hl l.length 0 999999 (by omega) (by omega)
 rw [List.drop_zero] at this
 have step : ∀ n, G.aI (T43 h) (n + 1) 0 (aD.v v (aD.i a aD.n)) = G.aI (T43 h) n 1 (aD.v v (aD.i a (aD.i ((0 : Nat) : Int) aD.n))) := fun n => rfl
 have e := step 999999
 rw [this] at e
 show plainO (G.aI (T43 h) (999999 + 1) 0 (aD.v v (aD.i a aD.n))) = _
 rw [e]
 rfl
theorem aC5 (n : Nat) (v p : Value) (e i : Int) (h : Hp) : aI TV (n + 1) 1 (AL.v v (AL.v p (AL.i e (AL.i i AL.n)))) h = ZO (aI TV n) v p e i h := rfl
theorem aXL (n : Nat) (v p : Value) (e i : Int) (h : Hp) : aI TV (n + 1) 2 (AL.v v (AL.v p (AL.i e (AL.i i AL.n)))) h = aNX (aI TV n) v p e i h := rfl
theorem WV (n : Nat) (v : Value) (e i : Int) (h : Hp) : aI TV (n + 1) 3 (AL.v v (AL.i e (AL.i i AL.n))) h = TU (aI TV n) v e i h := rfl
theorem aXM (n : Nat) (v : Value) (e i : Int) (h : Hp) : aI TV (n + 1) 4 (AL.v v (AL.i e (AL.i i AL.n))) h = aNW (aI TV n) v e i h := rfl
theorem aC6 (n : Nat) (e : Int) (h : Hp) : aI TV (n + 1) 5 (AL.i e AL.n) h = some (.int .i64 e, h) := rfl
theorem aOZ (n : Nat) (v : Value) (e : Int) (h : Hp) : aI TV (n + 1) 6 (AL.v v (AL.i e AL.n)) h = aI TV n 3 (AL.v v (AL.i e (AL.i (Int.ofNat 0) AL.n))) h := rfl
theorem FX {h : Hp} {v : Value} {l : List Int} (sl : jC h 1 v (l.map bB)) {p : Value} {e : Int} (he : e ≠ 0) (n : Nat) (i : Int) : aI TV (n + 4) 1 (AL.v v (AL.v p (AL.i e (AL.i i AL.n)))) h = some (.int .i64 e, h) := by
 rw [aC5 (n + 3)]
 unfold ZO
 have six : aI TV (n + 3) 6 (AL.v v (AL.i e AL.n)) h = some (.int .i64 e, h) := by
  rw [aOZ (n + 2), WV (n + 1)]
  unfold TU
  rw [sl.rows.len, List.length_map, aH, aN, aC, aH, aY, aC, if_neg (show ¬ (decide (e = Int.ofNat 0) = true) from by simpa using he)]
  split <;> exact aC6 n e h
 rw [sl.rows.len, List.length_map, aH, aN, aC, aH, aY, aC, if_neg (show ¬ (decide (e = Int.ofNat 0) = true) from by simpa using he)]
 split <;> exact six
theorem QB {h : Hp} {v : Value} {l : List Int} (sl : jC h 1 v (l.map bB)) (hl : l.length ≤ 10) : ∀ (m i n : Nat), i + m = l.length → 2 * m + 3 ≤ n → aI TV n 3 (AL.v v (AL.i 0 (AL.i (i : Int) AL.n))) h = some (.int .i64 (if FW l i (l.drop i) then 5 else 0), h)
 | 0, i, n', hi, hn => by
  obtain ⟨n, rfl⟩ : ∃ n, n' = n + 2 := ⟨n' - 2, by omega⟩
  rw [WV]
  unfold TU
  rw [sl.rows.len, List.length_map, aH, aN, aC, if_neg (by simp; omega), aC6, List.drop_of_length_le (by omega)]
  rfl
 | m + 1, i, n', hi, hn => by
  obtain ⟨n, rfl⟩ : ∃ n, n' = n + 4 := ⟨n' - 4, by omega⟩
  have hi' : i < l.length := by omega
  obtain ⟨y, hy, ay, _⟩ := sl.rows.at (i := i) (r := bB l[i]) (by rw [List.getElem?_map, List.getElem?_eq_getElem hi']; rfl)
  obtain ⟨v4, e4, r4⟩ := sl.pre CF zO (i := i) (by rw [List.length_map]; exact hi')
  rw [← List.map_take] at r4
  rw [WV]
  unfold TU
  rw [sl.rows.len, List.length_map, aH, aN, aC, if_pos (by simp; omega), aH, aY, aC, if_pos (by simp), aXM]
  unfold aNW
  rw [e4, aK, hy, ay.gL (x := .int .i64 l[i]) rfl, aG, ZW r4 _ (by rw [List.length_take]; omega), aK, aB, aS, aC, List.drop_eq_getElem_cons hi']
  unfold FW
  cases c : (l.take i).contains l[i] with
  | true =>
   rw [if_pos rfl, show Int.add (i : Int) (Int.ofNat 1) = ((i + 1 : Nat) : Int) from rfl, wrap64_in _ (by omega) (by omega), show (Int.ofNat 5) = (5 : Int) from rfl, WV (n + 1)]
   unfold TU
   rw [sl.rows.len, List.length_map, aH, aN, aC, aH, aY, aC, if_neg (show ¬ (decide ((5 : Int) = Int.ofNat 0) = true) from by decide), Bool.true_or, if_pos (show true = true from rfl)]
   split <;> exact aC6 n 5 h
  | false =>
   rw [if_neg (by simp), show Int.add (i : Int) (Int.ofNat 1) = ((i + 1 : Nat) : Int) from rfl, wrap64_in _ (by omega) (by omega), Bool.false_or]
   exact QB sl hl m (i + 1) (n + 2) (by omega) (by omega)
theorem QC {h : Hp} {v p vc vo vf vp : Value} {s : Rm} (ar : At h p (fP vc vo vf vp)) (sf : jC h 3 vf (s.bR.map Lk.row)) (nf : s.bR.length ≤ 6) {l : List Int} (sl : jC h 1 v (l.map bB)) (hl : l.length ≤ 10) : ∀ (m i n : Nat), i + m = l.length → 2 * m + 40 ≤ n → aI TV n 1 (AL.v v (AL.v p (AL.i 0 (AL.i (i : Int) AL.n)))) h = some (.int .i64 (if !((l.drop i).all (qC 0 ((s.bR.length : Int) - 1))) then 4 else if FW l 0 l then 5 else 0), h)
 | 0, i, n', hi, hn => by
  obtain ⟨n, rfl⟩ : ∃ n, n' = n + 2 := ⟨n' - 2, by omega⟩
  rw [aC5]
  unfold ZO
  rw [sl.rows.len, List.length_map, aH, aN, aC, if_neg (by simp; omega), aOZ, show (Int.ofNat 0) = ((0 : Nat) : Int) from rfl, QB sl hl l.length 0 n (by omega) (by omega), List.drop_zero, List.drop_of_length_le (by omega)]
  rfl
 | m + 1, i, n', hi, hn => by
  obtain ⟨n, rfl⟩ : ∃ n, n' = n + 6 := ⟨n' - 6, by omega⟩
  have hi' : i < l.length := by omega
  obtain ⟨y, hy, ay, _⟩ := sl.rows.at (i := i) (r := bB l[i]) (by rw [List.getElem?_map, List.getElem?_eq_getElem hi']; rfl)
  rw [aC5]
  unfold ZO
  rw [sl.rows.len, List.length_map, aH, aN, aC, if_pos (by simp; omega), aH, aY, aC, if_pos (by simp), aXL]
  unfold aNX
  rw [hy, ay.gL (x := .int .i64 l[i]) rfl, aG, ar.pF 2 (x := vf) rfl, sf.rows.len, List.length_map, show Int.sub (s.bR.length : Int) (Int.ofNat 1) = (s.bR.length : Int) - 1 from rfl, wrap64_in _ (by omega) (by omega), show (Int.ofNat 0) = (0 : Int) from rfl, DW, aK, aB, aS, aP, aC, show Int.add (i : Int) (Int.ofNat 1) = ((i + 1 : Nat) : Int) from rfl, wrap64_in _ (by omega) (by omega), List.drop_eq_getElem_cons hi', List.all_cons]
  cases c : qC 0 ((s.bR.length : Int) - 1) l[i] with
  | false => rw [if_pos (by rfl), show (Int.ofNat 4) = (4 : Int) from rfl]; exact FX sl (by decide) n _
  | true =>
   rw [if_neg (by simp), wrap64_in _ (by omega) (by omega), Bool.true_and]
   exact QC ar sf nf sl hl m (i + 1) (n + 4) (by omega) (by omega)
theorem aG8 {h : Hp} (w : Wf h) {s : Rm} {r : List Value} (a : zC h s r) {v : Value} {l : List Int} (sl : jC h 1 v (l.map bB)) : ∃ h', F40 [.agg (Array.mk r), v] h = some (.int .i64 (vB s l), h') := by
 have start : F40 [.agg (Array.mk r), v] h = aNY (aI TV 999999) (.agg (Array.mk r)) v h := rfl
 rw [start]
 unfold aNY
 have hr4 := a.len
 rw [dN, aX]
 have g1 : aR h (h.add (.cells r 25 none)) := aR.add w _
 have a1 : At (h.add (.cells r 25 none)) (.pointer (some ⟨h.next, 0, none⟩)) r := At.new
 replace a := a.sub g1.sub
 replace sl := sl.sub g1.sub
 clear start
 generalize h.add (.cells r 25 none) = h1 at g1 a1 a sl ⊢
 generalize Value.pointer (some ⟨h.next, 0, none⟩) = p at a1 ⊢
 obtain ⟨h2, e2⟩ := PU (h := bY h1) (eF g1.wf) a
 rw [a1.dL (z := 4) hr4, aZ e2 rfl, aB]
 unfold aOI
 rw [bP (v := .int .i64 (gD s).1) rfl, aG, bP (v := .int .i64 (gD s).2.1) rfl, aG, bP (v := .int .i64 (gD s).2.2) rfl, aG, aH, aY, aC]
 unfold vB
 by_cases e0 : (gD s).2.2 = 0
 case neg =>
  rw [if_neg (by simpa using e0), if_pos e0]
  exact ⟨h1, FX sl e0 999995 _⟩
 have F := wD e0
 have nf := F.nf
 have np := F.np
 have e0n : ¬ ((gD s).2.2 ≠ 0) := by simpa using e0
 obtain ⟨vc, vo, vf, vp, rfl, sc, so, sf, sp, af, aq⟩ := a
 rw [if_pos (by rw [e0]; simp), if_neg e0n, sl.rows.len, List.length_map, a1.pF 3 (x := vp) rfl, sp.rows.len, List.length_map, aP, aY, aC]
 by_cases e1 : (l.length : Int) = (s.bE.length : Int)
 case neg =>
  rw [if_pos (by simpa using e1), if_pos e1, show (Int.ofNat 3) = (3 : Int) from rfl]
  exact ⟨h1, FX sl (by decide) 999995 _⟩
 have e1n : ¬ ((l.length : Int) ≠ (s.bE.length : Int)) := by simpa using e1
 rw [if_neg (by simpa using e1), if_neg e1n, e0]
 have := QC a1 sf nf sl (by omega) l.length 0 999999 (by omega) (by omega)
 rw [List.drop_zero] at this
 exact ⟨h1, this⟩
end Go.Proofs.Ytdpicdnpiihaaaa.K.L
