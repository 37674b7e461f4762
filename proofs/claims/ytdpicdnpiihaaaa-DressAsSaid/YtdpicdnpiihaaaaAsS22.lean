/- Contracts of told functions: the reference's Plan. -/
import Derived.Test.YtdpicdnpiihaaaaAsS21
open Go Go.bG
set_option maxRecDepth 100000
set_option linter.unusedVariables false
namespace Go.Proofs.Ytdpicdnpiihaaaa.K.L
theorem aMW (h : Hp) (n : Nat) (v : Value) (a i : Int) : G.aK (T43 h) (n + 1) 1 (aC.v v (aC.i a (aC.i i aC.n))) = aDM h (G.aK (T43 h) n) v a i := rfl
theorem aU6 (h : Hp) (n : Nat) : G.aK (T43 h) (n + 1) 2 aC.n = some (.bool false) := rfl
theorem OW {h : Hp} {v : Value} {l : List Int} (sl : bG.Rows h 1 v (l.map dD)) (a : Int) (hl : l.length ≤ 900) : ∀ (m i n : Nat), i + m = l.length → m + 2 ≤ n → G.aK (T43 h) n 1 (aC.v v (aC.i a (aC.i (i : Int) aC.n))) = some (.bool ((l.drop i).contains a))
 | 0, i, n', hi, hn => by
  obtain ⟨n, rfl⟩ : ∃ n, n' = n + 2 := ⟨n' - 2, by omega⟩
  rw [aMW]
  unfold aDM
  rw [sl.len, List.length_map, aM, aT, aG, if_neg (by simp; omega), aU6, List.drop_of_length_le (by omega)]
  rfl
 | m + 1, i, n', hi, hn => by
  obtain ⟨n, rfl⟩ : ∃ n, n' = n + 1 := ⟨n' - 1, by omega⟩
  have hi' : i < l.length := by omega
  obtain ⟨q, hq, aq, _⟩ := sl.at (i := i) (r := dD l[i]) (by rw [List.getElem?_map, List.getElem?_eq_getElem hi']; rfl)
  rw [aMW]
  unfold aDM
  rw [sl.len, List.length_map, aM, aT, aG, if_pos (by simp; omega), hq, aq.jS (x := .int .i64 l[i]) rfl, aH, aM, bT, aG, List.drop_eq_getElem_cons hi', List.contains_cons]
  by_cases c : l[i] = a
  ·rw [if_pos (by simpa using c), c]; simp
  ·rw [if_neg (by simpa using c), show Int.add (i : Int) (Int.ofNat 1) = ((i + 1 : Nat) : Int) from rfl, wrap64_in _ (by omega) (by omega), OW sl a hl m (i + 1) n (by omega) (by omega)]
   have : (a == l[i]) = false := by simpa using fun e => c e.symm
   rw [this, Bool.false_or]
theorem aMX {h : Hp} {v : Value} {l : List Int} (sl : bG.Rows h 1 v (l.map dD)) (a : Int) (hl : l.length ≤ 900) : F43 [v, .int .i64 a] h = some (.bool (l.contains a)) := by
 have := OW sl a hl l.length 0 999999 (by omega) (by omega)
 rw [List.drop_zero] at this
 have step : ∀ n, G.aK (T43 h) (n + 1) 0 (aC.v v (aC.i a aC.n)) = G.aK (T43 h) n 1 (aC.v v (aC.i a (aC.i ((0 : Nat) : Int) aC.n))) := fun n => rfl
 have e := step 999999
 rw [this] at e
 show plainO (G.aK (T43 h) (999999 + 1) 0 (aC.v v (aC.i a aC.n))) = _
 rw [e]
 rfl
end Go.Proofs.Ytdpicdnpiihaaaa.K.L
