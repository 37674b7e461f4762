/- A room whose persons are its figures: it has no error, and Best costs nothing. -/
import Derived.Test.YtdpicdnpiihaaaaAsS47
import Derived.Test.YtdpicdnpiihaaaaAsToldQ
open Go Go.bG
set_option maxRecDepth 100000
set_option linter.unusedVariables false
namespace Go.Proofs.Ytdpicdnpiihaaaa.K.L
def L6 (s : Rm) : Rm := { s with bN := s.bA.take (min s.bA.length 5) }
theorem aD5 (s : Rm) : (L6 s).bN.length = min s.bA.length 5 := by
 show (s.bA.take (min s.bA.length 5)).length = _
 rw [List.length_take]; omega
theorem Y4 {α : Type} (f : List α → α → Int) (all : List α) : ∀ (l : List α) (i : Nat), all.drop i = l → (∀ j (hj : j < all.length), i ≤ j → f (all.take j) all[j] = 0) → kS f all i l = (0, 0)
 | [], i, _, _ => rfl
 | g :: l, i, hd, h => by
  have hi : i < all.length := by
   by_cases c : i < all.length
   ·exact c
   ·rw [List.drop_of_length_le (by omega)] at hd; cases hd
  rw [List.drop_eq_getElem_cons hi] at hd
  injection hd with e1 e2
  unfold kS
  rw [if_pos (by rw [← e1]; exact h i hi (Nat.le_refl _))]
  exact Y4 f all l (i + 1) e2 fun j hj hij => h j hj (by omega)
theorem aF5 {nc no : Nat} {prev : List Lk} {g : Lk} (h : iV nc no 0 prev g = 0) : iV nc no (-1) prev g = 0 := by
 obtain ⟨a1, a2, a3, a4⟩ := look_ok h
 unfold iV at h ⊢
 cases x0 : vM g.nm.data.toList with
 | false => rw [x0] at h; simp at h
 | true =>
 cases x1 : prev.any (fun x => mE x.nm g.nm) with
 | true => rw [x0, x1] at h; simp at h
 | false =>
 have y2 : pK (-1) ((no : Int) - 1) (gU g) = true := kI.2 (by omega)
 have y3 : g.lk.tail.all (pK (-1) 5) = true := List.all_eq_true.2 fun x hx => kI.2 (by have := a3 x hx; omega)
 have y4 : pK 0 50 g.kT = true := kI.2 (by omega)
 rw [y2, y3, y4]
 simp [a1]
theorem aVL {s : Rm} (h : (gI s).2.2 = 0) : (gI (L6 s)).2.2 = 0 := by
 unfold gI at h ⊢
 by_cases c1 : (lM 4 100 s.costs).2 = 0
 case neg => rw [if_pos c1] at h; exact absurd h c1
 by_cases c2 : (lM 4 50 s.dW).2 = 0
 case neg => rw [if_neg (by simpa using c1), if_pos c2] at h; exact absurd h c2
 by_cases c3 : (iM 6 (iV s.costs.length s.dW.length 0) s.bA).2 = 0
 case neg => rw [if_neg (by simpa using c1), if_neg (by simpa using c2), if_pos c3] at h; exact absurd h c3
 have c4 : (iM 5 (iV s.costs.length s.dW.length (-1)) (s.bA.take (min s.bA.length 5))).2 = 0 := by
  unfold iM
  rw [if_neg (by rw [List.length_take]; omega), Y4 _ _ _ 0 (List.drop_zero ..) fun j hj _ => ?_]
  rw [List.length_take] at hj
  have := aF5 (CY c3 j (by omega))
  rw [List.take_take, Nat.min_eq_left (by omega), List.getElem_take]
  exact this
 rw [show (L6 s).costs = s.costs from rfl, show (L6 s).dW = s.dW from rfl, show (L6 s).bA = s.bA from rfl, show (L6 s).bN = s.bA.take (min s.bA.length 5) from rfl]
 rw [if_neg (by simpa using c1), if_neg (by simpa using c2), if_neg (by simpa using c3), if_neg (by simpa using c4)]
theorem PE : ∀ (l : List Int) (i : Nat), gF i l l = []
 | [], _ => rfl
 | a :: l, i => by
  unfold gF
  rw [if_neg (by simp)]
  exact PE l (i + 1)
theorem S9 {s : Rm} : ∀ (l : List (Nat × Nat)), (∀ c ∈ l, zG s c = []) → j5 s l = 0 ∧ ∀ W, kK s W l = W
 | [], _ => ⟨rfl, fun _ => rfl⟩
 | c :: l, h => by
  obtain ⟨a, b⟩ := S9 l fun d hd => h d (.tail _ hd)
  have hc := h c (.head _)
  refine ⟨?_, fun W => ?_⟩
  ·show kR s.costs (zG s c) + j5 s l = 0
   rw [hc, a]; rfl
  ·show kK s (stepW s W c) l = W
   rw [show stepW s W c = W from by unfold stepW hch; rw [hc]; rfl]
   exact b W
theorem TA {s : Rm} (F : qE s) : ∀ l : List (Nat × Nat), 0 ≤ j5 s l
 | [] => Int.le_refl 0
 | c :: l => by
  have := TA F l
  have := (CR F.cs (zG s c)).1
  show 0 ≤ kR s.costs (zG s c) + j5 s l
  omega
theorem aD6 : ∀ (l : List Nat) (i : Nat) (c : Nat × Nat), c ∈ jM i l → ∃ j, c.2 = i + j ∧ l[j]? = some c.1
 | [], _, _, h => by cases h
 | f :: l, i, c, h => by
  unfold jM at h
  rcases List.mem_cons.1 h with rfl | h
  ·exact ⟨0, rfl, rfl⟩
  ·obtain ⟨j, h1, h2⟩ := aD6 l (i + 1) c h
   exact ⟨j + 1, by omega, h2⟩
theorem aQI {s : Rm} (h : (gI s).2.2 = 0) : ∃ b, SV (L6 s) = (vN b, 0, 0) ∧ b.length = (L6 s).bN.length := by
 have e0 := aVL h
 have F := yL e0
 have hk := aD5 s
 have fl : (L6 s).bA.length = s.bA.length := rfl
 have hm : List.range (L6 s).bN.length ∈ sF (L6 s) := (CV _ _ _ _).2 ⟨List.range (L6 s).bN.length, rfl, List.length_range, fun x hx => ⟨by rw [List.mem_range] at hx; omega, by simp⟩, List.nodup_range⟩
 have kz : ∀ c ∈ jM 0 (List.range (L6 s).bN.length), zG (L6 s) c = [] := fun c hc => by
  obtain ⟨j, h1, h2⟩ := aD6 _ _ _ hc
  obtain ⟨hj, h3⟩ := List.getElem?_eq_some_iff.1 h2
  rw [List.length_range] at hj
  rw [List.getElem_range] at h3
  have hjs : j < s.bA.length := by omega
  have e1 : (L6 s).bA[c.1]? = some s.bA[j] := by rw [← h3]; exact List.getElem?_eq_getElem hjs
  have e2 : (L6 s).bN[c.2]? = some s.bA[j] := by
   rw [h1, Nat.zero_add]
   show (s.bA.take (min s.bA.length 5))[j]? = _
   rw [List.getElem?_take, if_pos (by omega)]; exact List.getElem?_eq_getElem hjs
  rw [BG e1 e2]
  exact PE _ _
 obtain ⟨pz, lz⟩ := S9 (s := L6 s) _ kz
 have ca : vY (kK (L6 s) (W0 (L6 s)) (jM 0 (List.range (L6 s).bN.length))) = true := by
  rw [xF F (vO F hm).1]
  unfold nY
  rw [lz, JK]
  intro x hx
  unfold W0 at hx
  rcases List.mem_append.1 hx with hx | hx
  ·have := F.os x hx
   unfold iW; omega
  ·rw [(List.mem_replicate.1 hx).2]; rfl
 cases hB : qH (L6 s) with
 | none => rw [aQE F hB hm] at ca; cases ca
 | some b =>
  have hb := JM hB
  have pc : j5 (L6 s) (jM 0 b) = 0 := by
   have := TA F (jM 0 b)
   rcases aQF F hB hm ca with q | q <;> omega
  refine ⟨b, ?_, (vO F hb.1).2.1⟩
  unfold SV
  rw [if_neg (by simpa using e0), hB]
  show (vN b, j5 (L6 s) (jM 0 b), (0 : Int)) = _
  rw [pc]
theorem TB : ∀ (l m : List Int) (j i : Nat) (a b : Int), l[i]? = some a → m[i]? = some b → ((gF j l m).contains ((j + i : Nat) : Int)) = decide (b ≠ -1 ∧ b ≠ a)
 | [], _, _, _, _, _, h, _ => by simp at h
 | _ :: _, [], _, _, _, _, _, h => by simp at h
 | x :: l, y :: m, j, 0, a, b, h1, h2 => by
  simp at h1 h2
  subst h1; subst h2
  have no : (gF (j + 1) l m).contains ((j + 0 : Nat) : Int) = false := by
   cases c : (gF (j + 1) l m).contains ((j + 0 : Nat) : Int) with
   | false => rfl
   | true =>
    obtain ⟨k, e, h3, _⟩ := CS l m (j + 1) _ (by simpa using c)
    omega
  unfold gF
  by_cases c : y ≠ -1 ∧ y ≠ x
  ·rw [if_pos c, decide_eq_true c, List.contains_cons]
   simp
  ·rw [if_neg c, decide_eq_false c]; exact no
 | x :: l, y :: m, j, i + 1, a, b, h1, h2 => by
  have ih := TB l m (j + 1) i a b (by simpa using h1) (by simpa using h2)
  rw [show j + 1 + i = j + (i + 1) by omega] at ih
  unfold gF
  by_cases c : y ≠ -1 ∧ y ≠ x
  ·rw [if_pos c, List.contains_cons, ih]
   have : (((j + (i + 1) : Nat) : Int) == (j : Int)) = false := by simp; omega
   rw [this, Bool.false_or]
  ·rw [if_neg c]; exact ih
theorem PG : ∀ (l m : List Int) (j : Nat), (∀ i : Nat, i < l.length → i < m.length → ∃ a b, l[i]? = some a ∧ m[i]? = some b ∧ ¬ (b ≠ -1 ∧ b ≠ a)) → gF j l m = []
 | [], m, _, _ => by cases m <;> rfl
 | x :: l, [], _, _ => rfl
 | x :: l, y :: m, j, h => by
  obtain ⟨a, b, h1, h2, h3⟩ := h 0 (by simp) (by simp)
  simp at h1 h2
  subst h1; subst h2
  unfold gF
  rw [if_neg h3]
  exact PG l m (j + 1) fun i h1 h2 => by
   obtain ⟨a, b, g1, g2, g3⟩ := h (i + 1) (by simpa using h1) (by simpa using h2)
   exact ⟨a, b, by simpa using g1, by simpa using g2, g3⟩
end Go.Proofs.Ytdpicdnpiihaaaa.K.L
