/- What an entry says, in the code's words and in the reference's: the same. -/
import Derived.Test.YtgjdokjoejhepaaGreatDoorTrS23
open Go Go.bP
set_option maxRecDepth 100000
set_option linter.unusedVariables false
namespace Go.Proofs.YtgjdokjoejhepaaGreatDoor.K.L
theorem aQ3 : ∀ t < 64, ∀ x < 6, (!(decide (Nat.land t (2 ^ x) = 0))) = Nat.testBit t x := by decide +kernel
theorem aQ4 : ∀ t < 64, ∀ x < 6, ∀ y < 6, (!(decide (Nat.land t (2 ^ x ||| 2 ^ y) = 0))) = (Nat.testBit t x || Nat.testBit t y) := by decide +kernel
theorem BX {α : Type} {f g : α → Bool} : ∀ {l : List α}, (∀ t ∈ l, f t = g t) → l.all f = l.all g
 | [], _ => rfl
 | x :: l, h => by rw [List.all_cons, List.all_cons, h x (List.mem_cons_self ..), BX fun t ht => h t (List.mem_cons_of_mem _ ht)]
theorem aCF {α : Type} {f g : α → Bool} : ∀ {l : List α}, (∀ t ∈ l, f t = g t) → l.any f = l.any g
 | [], _ => rfl
 | x :: l, h => by rw [List.any_cons, List.any_cons, h x (List.mem_cons_self ..), aCF fun t ht => h t (List.mem_cons_of_mem _ ht)]
theorem NQ {α : Type} {f : α → Bool} : ∀ {l : List α}, (!(l.any f)) = l.all fun t => !(f t)
 | [] => rfl
 | x :: l => by rw [List.any_cons, List.all_cons, Bool.not_or, NQ]
theorem xE {s : Sh} (x : Nat) : lW s.ts x = nC s.ts [(x : Int)] := by
 unfold lW nC
 apply aCF
 intro t ht
 simp [KQ, IX]
section
variable {s : Sh} (f : mZ s)
include f
theorem I5 {x : Nat} (hx : x < 6) : oU s.ts ((2 ^ x : Nat) : Int) = kH s.ts [(x : Int)] := by
 unfold oU kH
 rw [NQ]
 apply BX
 intro t ht
 have := f.small t ht
 rw [show (((2 ^ x : Nat) : Int)).toNat = 2 ^ x from rfl, aQ3 t.toNat (by omega) x hx]
 simp [KQ, IX]
theorem aQ5 {x y : Nat} (hx : x < 6) (hy : y < 6) : oU s.ts ((2 ^ x ||| 2 ^ y : Nat) : Int) = kH s.ts [(x : Int), (y : Int)] := by
 unfold oU kH
 rw [NQ]
 apply BX
 intro t ht
 have := f.small t ht
 rw [show (((2 ^ x ||| 2 ^ y : Nat) : Int)).toNat = 2 ^ x ||| 2 ^ y from rfl, aQ4 t.toNat (by omega) x hx y hy]
 simp [KQ, IX]
theorem aQ6 {x y : Nat} (hx : x < 6) (hy : y < 6) : KL s x y = (decide ((x : Int) < (y : Int)) && KS s x y) := by
 unfold KL KS
 rw [I5 f hx, I5 f hy, aQ5 f hx hy]
 by_cases c : x < y
 ·rw [decide_eq_true c, decide_eq_true (show (x : Int) < y by omega), decide_eq_true (show x ≠ y by omega)]
  simp only [Bool.true_and]
 ·rw [decide_eq_false c, decide_eq_false (show ¬ (x : Int) < y by omega), Bool.false_and, Bool.false_and]
theorem aI3 (e : En) : rF s e = Q5 s e := by
 unfold rF Q5 IV
 have f6 := f.aU
 cases ha : oZ 0 ((s.aU.length : Int) - 1) e.a with
 | false => rw [Bool.false_and, Bool.false_and]
 | true =>
 cases hb : oZ 0 ((s.aU.length : Int) - 1) e.b with
 | false => rw [Bool.false_and, Bool.false_and, Bool.and_false]
 | true =>
 obtain ⟨a0, a1⟩ := jH.1 ha
 obtain ⟨b0, b1⟩ := jH.1 hb
 simp only [Bool.true_and]
 obtain ⟨x, hx⟩ : ∃ x : Nat, e.a = (x : Int) := ⟨e.a.toNat, by omega⟩
 obtain ⟨y, hy⟩ : ∃ y : Nat, e.b = (y : Int) := ⟨e.b.toNat, by omega⟩
 have x6 : x < 6 := by omega
 have y6 : y < 6 := by omega
 unfold aQ1
 rw [hx, hy, Int.toNat_natCast, Int.toNat_natCast]
 by_cases c0 : e.says = 0
 ·rw [if_pos c0, c0, show oZ 0 2 0 = true from rfl, Bool.true_and]
  show (decide ((y : Int) = 0) && oU s.ts ((2 ^ x : Nat) : Int)) = _
  rw [I5 f x6]
 rw [if_neg c0]
 by_cases c1 : e.says = 1
 ·rw [if_pos c1, c1, show oZ 0 2 1 = true from rfl, Bool.true_and]
  show KL s x y = _
  rw [aQ6 f x6 y6]
 rw [if_neg c1]
 by_cases c2 : e.says = 2
 ·rw [if_pos c2, c2, show oZ 0 2 2 = true from rfl, Bool.true_and]
  show (decide ((y : Int) = 0) && (lW s.ts x && !(oU s.ts ((2 ^ x : Nat) : Int)))) = _
  rw [I5 f x6, xE, Bool.and_comm (nC s.ts [(x : Int)])]
 rw [if_neg c2]
 cases h : oZ 0 2 e.says with
 | false => rw [Bool.false_and]
 | true => have := jH.1 h; omega
theorem aQ7 : ∀ (c : List En) (p : Option Int), uC s p c = Y5 s p c
 | [], _ => rfl
 | e :: c, p => by unfold uC Y5; rw [aI3 f, aQ7 c]
end
end Go.Proofs.YtgjdokjoejhepaaGreatDoor.K.L
