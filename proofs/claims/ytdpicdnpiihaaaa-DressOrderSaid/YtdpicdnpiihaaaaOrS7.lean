/- Contracts of told functions: what is changed; open. -/
import Derived.Test.YtdpicdnpiihaaaaOrS6
open Go Go.bI
set_option maxRecDepth 100000
set_option linter.unusedVariables false
namespace Go.Proofs.Ytdpicdnpiihaaaa.K.L
def jZ : Nat → List Int → List Int → List Int
 | i, a :: l, b :: m => if b ≠ -1 ∧ b ≠ a then (i : Int) :: jZ (i + 1) l m else jZ (i + 1) l m
 | _, _, _ => []
theorem PR : ∀ (l m : List Int) (i : Nat), (jZ i l m).length ≤ m.length
 | [], m, i => by cases m <;> simp [jZ]
 | a :: l, [], i => by simp [jZ]
 | a :: l, b :: m, i => by
  have := PR l m (i + 1)
  unfold jZ
  by_cases c : b ≠ -1 ∧ b ≠ a
  ·rw [if_pos c]; simp; exact this
  ·rw [if_neg c]; simp; omega
theorem J6 : ∀ (l m : List Int) (i : Nat) (x : Int), x ∈ jZ i l m → ∃ k : Nat, x = (k : Int) ∧ i ≤ k ∧ k < i + m.length
 | [], m, i, x, h => by cases m <;> simp [jZ] at h
 | a :: l, [], i, x, h => by simp [jZ] at h
 | a :: l, b :: m, i, x, h => by
  have ih := J6 l m (i + 1) x
  unfold jZ at h
  by_cases c : b ≠ -1 ∧ b ≠ a
  ·rw [if_pos c] at h
   rcases List.mem_cons.1 h with rfl | h
   ·exact ⟨i, rfl, by omega, by simp⟩
   ·obtain ⟨k, h1, h2, h3⟩ := ih h
    exact ⟨k, h1, by omega, by simp; omega⟩
  ·rw [if_neg c] at h
   obtain ⟨k, h1, h2, h3⟩ := ih h
   exact ⟨k, h1, by omega, by simp; omega⟩
theorem aOS (n : Nat) (a b c : Value) (i j : Int) (h : Hp) : aN T93 (n + 1) 1 (AL.v a (AL.v b (AL.v c (AL.i i (AL.i j AL.n))))) h = aED (aN T93 n) a b c i j h := rfl
theorem CJ {hb : Hp} (w : Wf hb) {va vb : Value} {ls ms : List Int} (sa : lV hb 1 va (ls.map cZ)) (sb : lV hb 1 vb (ms.map cZ)) (hl : ms.length ≤ ls.length) (hm : ms.length ≤ 50) : ∀ (m i n : Nat) (h : Hp) (v : Value) (ns : List Int), aV hb h → qZ hb h v ns → ns.length ≤ i → i + m = ms.length → m + 3 ≤ n →
  ∃ h' v', aN T93 n 1 (AL.v va (AL.v v (AL.v vb (AL.i (ms.length : Int) (AL.i (i : Int) AL.n))))) h = some (v', h') ∧ aV hb h' ∧ qZ hb h' v' (ns ++ jZ i (ls.drop i) (ms.drop i))
 | 0, i, n', h, v, ns, g, nm, hni, him, hn => by
  obtain ⟨n, rfl⟩ : ∃ n, n' = n + 2 := ⟨n' - 2, by omega⟩
  rw [aOS]
  unfold aED
  rw [aQ, aW, aH, if_neg (by simp; omega), List.drop_of_length_le (show ms.length ≤ i by omega)]
  refine ⟨h, v, rfl, g, ?_⟩
  rw [show jZ i (ls.drop i) [] = [] from by cases ls.drop i <;> rfl, List.append_nil]; exact nm
 | m + 1, i, n', h, v, ns, g, nm, hni, him, hn => by
  obtain ⟨n, rfl⟩ : ∃ n, n' = n + 1 := ⟨n' - 1, by omega⟩
  have hi : i < ms.length := by omega
  have hi2 : i < ls.length := by omega
  obtain ⟨q, hq, aq, _⟩ := (sb.sub g.sub).rows.at (i := i) (r := cZ ms[i]) (by rw [List.getElem?_map, List.getElem?_eq_getElem hi]; rfl)
  obtain ⟨p, hp, ap, _⟩ := (sa.sub g.sub).rows.at (i := i) (r := cZ ls[i]) (by rw [List.getElem?_map, List.getElem?_eq_getElem hi2]; rfl)
  have next : ∀ (h2 : Hp) (v2 : Value) (ns2 : List Int), aV hb h2 → qZ hb h2 v2 ns2 → ns2.length ≤ i + 1 → ∃ h' v', (wrap64 (Int.add (i : Int) (Int.ofNat 1)) fun i12 => aN T93 n 1 (AL.v va (AL.v v2 (AL.v vb (AL.i (ms.length : Int) (AL.i i12 AL.n))))) h2) = some (v', h') ∧ aV hb h' ∧ qZ hb h' v' (ns2 ++ jZ (i + 1) (ls.drop (i + 1)) (ms.drop (i + 1))) := by
   intro h2 v2 ns2 g2 nm2 hl2
   rw [show Int.add (i : Int) (Int.ofNat 1) = ((i + 1 : Nat) : Int) from rfl, wrap64_in _ (by omega) (by omega)]
   exact CJ w sa sb hl hm m (i + 1) n h2 v2 ns2 g2 nm2 hl2 (by omega) (by omega)
  rw [aOS]
  unfold aED
  rw [aQ, aW, aH, if_pos (by simp; omega), hq, aq.j6 (x := .int .i64 ms[i]) rfl, aI, aR, cK, aH, List.drop_eq_getElem_cons hi, List.drop_eq_getElem_cons hi2]
  unfold jZ
  by_cases c1 : ms[i] = -1
  ·rw [if_neg (by rw [c1]; simp), if_neg (by simp [c1])]
   exact next h v ns g nm (by omega)
  rw [if_pos (by simpa using c1), hp, ap.j6 (x := .int .i64 ls[i]) rfl, aI, aR, cK, aH]
  by_cases c2 : ms[i] = ls[i]
  ·rw [if_neg (by rw [c2]; simp), if_neg (by simp [c2])]
   exact next h v ns g nm (by omega)
  rw [if_pos (by simpa using c2), if_pos ⟨c1, c2⟩, WR, aB]
  obtain ⟨v2, h2, hap, g2, nm2⟩ := DW w g nm (by omega) (i : Int)
  rw [hap, aB]
  obtain ⟨h', v', e1, e2, e3⟩ := next h2 v2 (ns ++ [(i : Int)]) g2 nm2 (by simp; omega)
  refine ⟨h', v', e1, e2, ?_⟩
  rw [List.append_assoc] at e3
  exact e3
theorem W9 {h : Hp} (w : Wf h) {va vb : Value} {ls ms : List Int} (sa : lV h 1 va (ls.map cZ)) (sb : lV h 1 vb (ms.map cZ)) (hl : ms.length ≤ ls.length) (hm : ms.length ≤ 50) :
  ∃ h' v', F93 [va, vb] h = some (v', h') ∧ aV h h' ∧ qZ h h' v' (jZ 0 ls ms) := by
 have start : F93 [va, vb] h = aKP (aN T93 999999) va vb h := rfl
 rw [start]
 unfold aKP
 rw [sb.rows.len, List.length_map]
 obtain ⟨h', v', e1, e2, e3⟩ := CJ w sa sb hl hm ms.length 0 999999 h (.slice none 0 0) [] (aV.refl w) (.inl ⟨rfl, rfl⟩) (by simp) (by omega) (by omega)
 rw [List.drop_zero, List.drop_zero, List.nil_append] at e3
 exact ⟨h', v', e1, e2, e3⟩
end Go.Proofs.Ytdpicdnpiihaaaa.K.L
