/- Contracts of told functions: rows that grow; openPlan. -/
import Derived.Test.YtdpicdnpiihaaaaBoS16
open Go Go.bK
set_option maxRecDepth 100000
set_option linter.unusedVariables false
namespace Go.Proofs.Ytdpicdnpiihaaaa.K.L
def RwA (hb h : Hp) (z : Nat) (el : TypeId) (v : Value) (n : Nat) (c : List Value) : Prop := (v = .slice none 0 0 ∧ n = 0 ∧ c = []) ∨ ∃ b, v = .slice (some ⟨b, 0, none⟩) n n ∧ hb.next ≤ b ∧ h.get b = some (.cells c el (some z))
theorem xP : ∀ l : List (Nat × Nat), (l.flatMap iB).length = l.length * 2
 | [] => rfl
 | c :: l => by
  rw [List.flatMap_cons, List.length_append, xP l]
  show 2 + l.length * 2 = (l.length + 1) * 2
  omega
theorem flat_get : ∀ (l : List (Nat × Nat)) (i : Nat) (c : Nat × Nat), l[i]? = some c → ∀ (k : Nat) (x : Value), (iB c)[k]? = some x → (l.flatMap iB)[i * 2 + k]? = some x
 | [], i, c, h, _, _, _ => by simp at h
 | d :: l, 0, c, h, k, x, hx => by
  simp at h; subst h
  have : k < (iB d).length := (List.getElem?_eq_some_iff.1 hx).1
  rw [List.flatMap_cons, Nat.zero_mul, Nat.zero_add, List.getElem?_append_left this]; exact hx
 | d :: l, i + 1, c, h, k, x, hx => by
  rw [List.flatMap_cons, List.getElem?_append_right (by show 2 ≤ (i + 1) * 2 + k; omega), show (i + 1) * 2 + k - (iB d).length = i * 2 + k by show (i + 1) * 2 + k - 2 = _; omega]
  exact flat_get l i c (by simpa using h) k x hx
theorem RwA.ch {hb h : Hp} {v : Value} {l : List (Nat × Nat)} (a : RwA hb h 2 76 v l.length (l.flatMap iB)) : kR h 2 v (l.map iB) := by
 rcases a with ⟨h1, h2, _⟩ | ⟨b, h1, _, h3⟩
 ·rw [List.eq_nil_of_length_eq_zero h2]; exact .inl ⟨h1, rfl⟩
 ·refine .inr ⟨b, _, 76, some 2, by rw [List.length_map]; exact h1, h3, .inl rfl, fun i r hi => ?_⟩
  rw [List.getElem?_map] at hi
  cases hx : l[i]? with
  | none => rw [hx] at hi; cases hi
  | some c =>
   rw [hx] at hi
   cases hi
   have := (List.getElem?_eq_some_iff.1 hx).1
   exact ⟨rfl, by rw [xP]; omega, flat_get l i c hx⟩
theorem aM8 : gI env 79 = some (.slice 76) := by kernel_rfl
theorem aEE : (env.ty.get 76).map (fun ti => ti.info.bytes) = some 16 := by kernel_rfl
theorem aM9 : (nE env 76).map (fun z => Nat.beq z.cells.size 2) = some true := by kernel_rfl
theorem aEF (h : Hp) (n : Nat) (v : Value) (a k i : Int) : G.aK (VW h) (n + 1) 1 (aD.v v (aD.i a (aD.i k (aD.i i aD.n)))) = VV h (G.aK (VW h) n) v a k i := rfl
theorem aQP (h : Hp) (n : Nat) : G.aK (VW h) (n + 1) 2 aD.n = some (.int .i64 (-1)) := rfl
theorem EJ {h : Hp} {v : Value} {l : List Int} (sl : bK.Rows h 1 v (l.map cZ)) (a : Int) (hl : l.length ≤ 900) : ∀ (m i n : Nat), i + m = l.length → m + 2 ≤ n → ∃ x : Int, G.aK (VW h) n 1 (aD.v v (aD.i a (aD.i (l.length : Int) (aD.i (i : Int) aD.n)))) = some (.int .i64 x) ∧ decide (x < 0) = !((l.drop i).contains a)
 | 0, i, n', hi, hn => by
  obtain ⟨n, rfl⟩ : ∃ n, n' = n + 2 := ⟨n' - 2, by omega⟩
  rw [aEF]
  unfold VV
  rw [aM, aU, aG, if_neg (by simp; omega), aQP, List.drop_of_length_le (by omega)]
  exact ⟨-1, rfl, rfl⟩
 | m + 1, i, n', hi, hn => by
  obtain ⟨n, rfl⟩ : ∃ n, n' = n + 1 := ⟨n' - 1, by omega⟩
  have hi' : i < l.length := by omega
  obtain ⟨q, hq, aq, _⟩ := sl.at (i := i) (r := cZ l[i]) (by rw [List.getElem?_map, List.getElem?_eq_getElem hi']; rfl)
  rw [aEF]
  unfold VV
  rw [aM, aU, aG, if_pos (by simp; omega), hq, aq.jT (x := .int .i64 l[i]) rfl, aH, aM, bI, aG, List.drop_eq_getElem_cons hi', List.contains_cons]
  by_cases c : a = l[i]
  ·rw [if_pos (by simpa using c)]
   exact ⟨(i : Int), rfl, by rw [c]; simp⟩
  ·rw [if_neg (by simpa using c), show Int.add (i : Int) (Int.ofNat 1) = ((i + 1 : Nat) : Int) from rfl, wrap64_in _ (by omega) (by omega)]
   obtain ⟨x, e1, e2⟩ := EJ sl a hl m (i + 1) n (by omega) (by omega)
   exact ⟨x, e1, by rw [e2]; simp [c]⟩
theorem QT {h : Hp} {v : Value} {l : List Int} (sl : bK.Rows h 1 v (l.map cZ)) (a : Int) (hl : l.length ≤ 900) : F90 [v, .int .i64 a] h = some (.bool (l.contains a)) := by
 obtain ⟨x, e1, e2⟩ := EJ sl a hl l.length 0 999999 (by omega) (by omega)
 have e3 : aJV [v, .int .i64 a] h = some (.int .i64 x) := by
  show plainO (aB0 h (G.aK (VW h) 999999) v a) = _
  unfold aB0
  rw [sl.len, List.length_map, show (Int.ofNat 0) = ((0 : Nat) : Int) from rfl, e1]
  rfl
 show plainO (aJW h (G.aK (T90 h) 999999) v a) = _
 unfold aJW
 rw [e3, aJ, aH, aQ, aU, show (Int.ofNat 0) = (0 : Int) from rfl, e2, List.drop_zero, Bool.not_not]
 rfl
end Go.Proofs.Ytdpicdnpiihaaaa.K.L
