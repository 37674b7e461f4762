/- Contracts of told functions: the reference's Left; hair told colour by colour is hair told change by change. -/
import Derived.Test.YtepepiajmdpiiaaHaS23
open Go Go.Eng
set_option maxRecDepth 100000
set_option linter.unusedVariables false
namespace Go.Proofs.Ytepepiajmdpiiaa.K.L
theorem W9 {W : List Int} {i d : Int} (hi : 0 ≤ i) (c : Nat) (hc : c < W.length) : (qF W i d)[c]? = some (W[c] + (if i = (c : Int) then d else 0)) := by
 unfold qF
 rw [List.getElem?_set]
 by_cases e : i.toNat = c
 ·rw [if_pos e, if_pos (by omega), if_pos (by omega)]
  rw [List.getD_eq_getElem?_getD, e, List.getElem?_eq_getElem hc, Option.getD_some]
 ·rw [if_neg e, if_neg (by omega), Int.add_zero, List.getElem?_eq_getElem hc]
theorem aF5 {s : Rm} (F : qK s) {ch : Nat × Nat} (h1 : ch.1 < s.cK.length) (h2 : ch.2 < s.dB.length) {W : List Int} {c : Nat} (hc : c < W.length) : (stepW s W ch)[c]? = some (W[c] + QI s (c : Int) ch) := by
 have hf : s.cK[ch.1]? = some s.cK[ch.1] := List.getElem?_eq_getElem h1
 have hq : s.dB[ch.2]? = some s.dB[ch.2] := List.getElem?_eq_getElem h2
 have e1 := F.fs _ (List.getElem_mem h1)
 have e2 := F.ps _ (List.getElem_mem h2)
 have hfh : qG s ch = eU s.cK[ch.1] := by unfold qG; rw [hf]; rfl
 have hph : zO s ch = eU s.dB[ch.2] := by unfold zO; rw [hq]; rfl
 unfold stepW QI
 cases x : hch s ch with
 | false => rw [if_neg (by simp), if_neg (by simp), Int.add_zero, List.getElem?_eq_getElem hc]
 | true =>
  have := aAK F hf hq
  rw [x, eq_comm, Bool.and_eq_true, decide_eq_true_iff, decide_eq_true_iff] at this
  have a1 := W9 (W := W) (i := qG s ch) (d := qH s ch) (by omega) c hc
  have l1 : c < (qF W (qG s ch) (qH s ch)).length := by rw [sK]; exact hc
  have a2 := W9 (W := qF W (qG s ch) (qH s ch)) (i := zO s ch) (d := -(BI s ch)) (by omega) c l1
  rw [List.getElem?_eq_getElem l1] at a1
  rw [if_pos rfl, if_pos rfl, a2, Option.some.inj a1]
  congr 1
  by_cases d : zO s ch = (c : Int)
  ·rw [if_pos d, if_pos d]; omega
  ·rw [if_neg d, if_neg d]; omega
theorem QJ {s : Rm} (F : qK s) {c : Nat} : ∀ (l : List (Nat × Nat)) (W : List Int), (∀ ch ∈ l, ch.1 < s.cK.length ∧ ch.2 < s.dB.length) → (hc : c < W.length) → (mM s W l)[c]? = some (aC0 s (c : Int) W[c] l)
 | [], W, _, hc => List.getElem?_eq_getElem hc
 | ch :: l, W, hl, hc => by
  obtain ⟨i1, i2⟩ := hl ch (.head _)
  have st := aF5 F i1 i2 hc
  have hs : c < (stepW s W ch).length := (List.getElem?_eq_some_iff.1 st).1
  have ih := QJ F l (stepW s W ch) (fun d hd => hl d (.tail _ hd)) hs
  rw [List.getElem?_eq_getElem hs] at st
  show (mM s (stepW s W ch) l)[c]? = _
  rw [ih, Option.some.inj st]
  rfl
theorem NL {s : Rm} (F : qK s) {c : Nat} (hc : s.bH.length ≤ c) : ∀ (l : List (Nat × Nat)) (n : Int), (∀ ch ∈ l, ch.1 < s.cK.length ∧ ch.2 < s.dB.length) → aC0 s (c : Int) n l = n
 | [], n, _ => rfl
 | ch :: l, n, hl => by
  obtain ⟨i1, i2⟩ := hl ch (.head _)
  have hf : s.cK[ch.1]? = some s.cK[ch.1] := List.getElem?_eq_getElem i1
  have hq : s.dB[ch.2]? = some s.dB[ch.2] := List.getElem?_eq_getElem i2
  have e1 := F.fs _ (List.getElem_mem i1)
  have e2 := F.ps _ (List.getElem_mem i2)
  have hfh : qG s ch = eU s.cK[ch.1] := by unfold qG; rw [hf]; rfl
  have hph : zO s ch = eU s.dB[ch.2] := by unfold zO; rw [hq]; rfl
  have : QI s (c : Int) ch = 0 := by
   unfold QI
   rw [if_neg (show ¬ (qG s ch = (c : Int)) by omega), if_neg (show ¬ (zO s ch = (c : Int)) by omega)]
   split <;> omega
  show aC0 s (c : Int) (n + QI s (c : Int) ch) l = n
  rw [this, Int.add_zero]
  exact NL F hc l n fun d hd => hl d (.tail _ hd)
theorem aAN {s : Rm} (F : qK s) {l : List (Nat × Nat)} (hl : InP s l) : ∀ x ∈ (mM s (W0 s) l).drop s.bH.length, x = 0 := by
 intro x hx
 have no := F.no
 obtain ⟨w1, w2⟩ := aCV F
 obtain ⟨b1, _⟩ := DW F hl
 obtain ⟨k, hk, rfl⟩ := List.getElem_of_mem hx
 rw [List.length_drop, b1] at hk
 rw [List.getElem_drop]
 have g := QJ F l (W0 s) (c := s.bH.length + k) hl.2 (by omega)
 rw [List.getElem?_eq_getElem (by omega)] at g
 rw [Option.some.inj g, NL F (by omega) l _ hl.2]
 unfold W0
 rw [List.getElem_append_right (by omega), List.getElem_replicate]
end Go.Proofs.Ytepepiajmdpiiaa.K.L
