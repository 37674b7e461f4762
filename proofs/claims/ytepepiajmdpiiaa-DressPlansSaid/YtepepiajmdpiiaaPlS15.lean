/- Contracts of told functions: the reference's Cost; the law. -/
import Derived.Test.YtepepiajmdpiiaaPlS14
open Go Go.Eng
set_option maxRecDepth 100000
set_option linter.unusedVariables false
namespace Go.Proofs.Ytepepiajmdpiiaa.K.L
theorem aJZ (h : Hp) (n : Nat) (a b : Value) (c : Bool) (i : Int) : G.aK (T20 h) (n + 1) 1 (aC.v a (aC.v b (aC.b c (aC.i i aC.n)))) = XB h (G.aK (T20 h) n) a b c i := rfl
theorem aS8 (h : Hp) (n : Nat) (a b : Value) (i : Int) : G.aK (T20 h) (n + 1) 2 (aC.v a (aC.v b (aC.i i aC.n))) = aC1 h (G.aK (T20 h) n) a b i := rfl
theorem aS9 (h : Hp) (n : Nat) (c : Bool) : G.aK (T20 h) (n + 1) 3 (aC.b c aC.n) = some (.bool c) := rfl
theorem JN {h : Hp} {a b : Value} {l : List Int} (ra : Eng.Rows h 1 a (l.map bF)) (rb : Eng.Rows h 1 b (l.map bF)) (hl : l.length ≤ 900) : ∀ (m i n : Nat), i + m = l.length → 2 * m + 2 ≤ n → G.aK (T20 h) n 1 (aC.v a (aC.v b (aC.b true (aC.i (i : Int) aC.n)))) = some (.bool true)
 | 0, i, n', hi, hn => by
  obtain ⟨n, rfl⟩ : ∃ n, n' = n + 2 := ⟨n' - 2, by omega⟩
  rw [aJZ]
  unfold XB
  rw [aH, if_pos rfl, ra.len, List.length_map, aM, aU, aH, if_neg (by simp; omega), aS9]
 | m + 1, i, n', hi, hn => by
  obtain ⟨n, rfl⟩ : ∃ n, n' = n + 2 := ⟨n' - 2, by omega⟩
  have hi' : i < l.length := by omega
  have hg : (l.map bF)[i]? = some (bF l[i]) := by rw [List.getElem?_map, List.getElem?_eq_getElem hi']; rfl
  obtain ⟨p, hp, ap, _⟩ := ra.at hg
  obtain ⟨q, hq, aq, _⟩ := rb.at hg
  rw [aJZ]
  unfold XB
  rw [aH, if_pos rfl, ra.len, List.length_map, aM, aU, aH, if_pos (by simp; omega), aS8]
  unfold aC1
  rw [hp, ap.gT (x := .int .i64 l[i]) rfl, aJ, hq, aq.gT (x := .int .i64 l[i]) rfl, aJ, aM, bR, decide_eq_true rfl, show Int.add (i : Int) (Int.ofNat 1) = ((i + 1 : Nat) : Int) from rfl, wrap64_in _ (by omega) (by omega)]
  exact JN ra rb hl m (i + 1) n (by omega) (by omega)
theorem aGH {h : Hp} {a b : Value} {l : List Int} (ra : Eng.Rows h 1 a (l.map bF)) (rb : Eng.Rows h 1 b (l.map bF)) (hl : l.length ≤ 900) : F20 [a, b] h = some (.bool true) := by
 show plainO (aC2 h (G.aK (T20 h) 999999) a b) = _
 unfold aC2
 rw [ra.len, List.length_map, rb.len, List.length_map, aM, bR, decide_eq_true rfl]
 have := JN ra rb hl l.length 0 999999 (by omega) (by omega)
 exact congrArg plainO this
theorem aJ1 {ρ : Type} (h : Hp) (k : Value → Option ρ) : dG (aGI [] h) k = k (.bool true) := rfl
end Go.Proofs.Ytepepiajmdpiiaa.K.L
