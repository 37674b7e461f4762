/- A catalogue is true, in the code's words and in the reference's: the same. -/
import Derived.Test.YtgjdokjoejhepaaGreatDoorTrS24
open Go Go.bP
set_option maxRecDepth 100000
set_option linter.unusedVariables false
namespace Go.Proofs.YtgjdokjoejhepaaGreatDoor.K.L
theorem aQ8 (cnt : List Nat) (x y : Nat) (hx : x < cnt.length) : (bump cnt x).getD y 0 = cnt.getD y 0 + (if x = y then 1 else 0) := by
 unfold bump
 rw [List.getD_eq_getElem?_getD, List.getD_eq_getElem?_getD, List.getD_eq_getElem?_getD, List.getElem?_set]
 by_cases h : x = y
 ·subst h
  rw [if_pos rfl, if_pos hx, if_pos rfl]; rfl
 ·rw [if_neg h, if_neg h]; rfl
theorem V6 : ∀ (l : List Nat) (cnt : List Nat) (y : Nat), cnt.length = 6 → (∀ x ∈ l, x < 6) → (l.foldl bump cnt).getD y 0 = cnt.getD y 0 + l.count y
 | [], cnt, y, _, _ => by simp
 | x :: l, cnt, y, h6, hl => by
  rw [List.foldl_cons, V6 l (bump cnt x) y (by rw [QW]; exact h6) (fun z hz => hl z (List.mem_cons_of_mem _ hz)), aQ8 cnt x y (by have := hl x (List.mem_cons_self ..); omega), List.count_cons]
  by_cases h : x = y
  ·subst h; simp; omega
  ·rw [if_neg h, if_neg (by simpa using h)]; omega
def lQ (c : List En) : List Nat := c.flatMap kG
theorem V7 : ∀ (c : List En) (cnt : List Nat), c.foldl zL cnt = (lQ c).foldl bump cnt
 | [], cnt => rfl
 | e :: c, cnt => by
  have : lQ (e :: c) = kG e ++ lQ c := by unfold lQ; rw [List.flatMap_cons]
  rw [List.foldl_cons, V7 c, this, List.foldl_append]; rfl
theorem aUK (s : Sh) (cnt : List Nat) (x y : Nat) (hx : x < cnt.length) : (oG s cnt x).getD y 0 = if x = y ∧ lW s.ts x = true then 1 else cnt.getD y 0 := by
 unfold oG
 by_cases hs : lW s.ts x = true
 ·rw [if_pos hs, List.getD_eq_getElem?_getD, List.getD_eq_getElem?_getD, List.getElem?_set]
  by_cases h : x = y
  ·subst h; rw [if_pos rfl, if_pos hx, if_pos ⟨rfl, hs⟩]; rfl
  ·rw [if_neg h, if_neg (fun hh => h hh.1)]
 ·rw [if_neg hs, if_neg (fun hh => hs hh.2)]
theorem aCG (s : Sh) : ∀ (l : List Nat) (cnt : List Nat) (y : Nat), cnt.length = 6 → (∀ x ∈ l, x < 6) → (l.foldl (oG s) cnt).getD y 0 = if y ∈ l ∧ lW s.ts y = true then 1 else cnt.getD y 0
 | [], cnt, y, _, _ => by simp
 | x :: l, cnt, y, h6, hl => by
  rw [List.foldl_cons, aCG s l (oG s cnt x) y (by rw [FL]; exact h6) (fun z hz => hl z (List.mem_cons_of_mem _ hz)), aUK s cnt x y (by have := hl x (List.mem_cons_self ..); omega)]
  by_cases h1 : y ∈ l ∧ lW s.ts y = true
  ·rw [if_pos h1, if_pos ⟨List.mem_cons_of_mem _ h1.1, h1.2⟩]
  ·rw [if_neg h1]
   by_cases h2 : x = y ∧ lW s.ts x = true
   ·obtain ⟨rfl, h3⟩ := h2
    rw [if_pos ⟨rfl, h3⟩, if_pos ⟨List.mem_cons_self .., h3⟩]
   ·rw [if_neg h2, if_neg]
    rintro ⟨h3, h4⟩
    rcases List.mem_cons.1 h3 with h5 | h5
    ·subst h5; exact h2 ⟨rfl, h4⟩
    ·exact h1 ⟨h5, h4⟩
theorem aUL {c d : List Nat} (hc : c.length = 6) (hd : d.length = 6) (h : ∀ y < 6, c.getD y 0 = d.getD y 0) : c = d := by
 apply List.ext_getElem (by omega)
 intro i h1 h2
 have := h i (by omega)
 rw [List.getD_eq_getElem?_getD, List.getD_eq_getElem?_getD, List.getElem?_eq_getElem h1, List.getElem?_eq_getElem h2] at this
 exact this
theorem aCH (y : Nat) : jO.getD y 0 = 0 := by
 rw [List.getD_eq_getElem?_getD]
 cases h : jO[y]? with
 | none => rfl
 | some x =>
  have := List.mem_of_getElem? h
  simp [jO] at this
  simp [this]
theorem counts_iff {s : Sh} (f : mZ s) {c : List En} (hl : ∀ x ∈ lQ c, x < s.aU.length ∧ lW s.ts x = true) : c.foldl zL jO = vV s ↔ (lQ c).Nodup ∧ ∀ x < s.aU.length, lW s.ts x = true → x ∈ lQ c := by
 have f6 := f.aU
 have g1 : ∀ y, (c.foldl zL jO).getD y 0 = (lQ c).count y := fun y => by
  rw [V7, V6 _ _ y rfl (fun x hx => by have := (hl x hx).1; omega), aCH, Nat.zero_add]
 have g2 : ∀ y, (vV s).getD y 0 = if y < s.aU.length ∧ lW s.ts y = true then 1 else 0 := fun y => by
  unfold vV
  rw [aCG s _ _ y rfl (fun x hx => by have := List.mem_range.1 hx; omega), aCH]
  simp only [List.mem_range]
 constructor
 ·intro h
  have e : ∀ y, (lQ c).count y = if y < s.aU.length ∧ lW s.ts y = true then 1 else 0 := fun y => by rw [← g1, ← g2, h]
  refine ⟨List.nodup_iff_count.2 fun y => ?_, fun x hx hs => ?_⟩
  ·rw [e y]; split <;> omega
  ·have := e x
   rw [if_pos ⟨hx, hs⟩] at this
   exact List.count_pos_iff.1 (by omega)
 ·rintro ⟨h1, h2⟩
  refine aUL (rU c) (FM s) fun y hy => ?_
  rw [g1, g2]
  by_cases hc : y < s.aU.length ∧ lW s.ts y = true
  ·rw [if_pos hc]
   have p1 := List.nodup_iff_count.1 h1 y
   have p2 := List.count_pos_iff.2 (h2 y hc.1 hc.2)
   omega
  ·rw [if_neg hc]
   exact List.count_eq_zero.2 fun hm => hc (hl y hm)
end Go.Proofs.YtgjdokjoejhepaaGreatDoor.K.L
