/- Contracts of told functions: the reference's Left; hair told colour by colour is hair told change by change. -/
import Derived.Test.YtdpicdnpiihaaaaBoS23
open Go Go.bK
set_option maxRecDepth 100000
set_option linter.unusedVariables false
namespace Go.Proofs.Ytdpicdnpiihaaaa.K.L
theorem ZB {W : List Int} {i d : Int} (hi : 0 ≤ i) (c : Nat) (hc : c < W.length) : (qX W i d)[c]? = some (W[c] + (if i = (c : Int) then d else 0)) := by
 unfold qX
 rw [List.getElem?_set]
 by_cases e : i.toNat = c
 ·rw [if_pos e, if_pos (by omega), if_pos (by omega)]
  rw [List.getD_eq_getElem?_getD, e, List.getElem?_eq_getElem hc, Option.getD_some]
 ·rw [if_neg e, if_neg (by omega), Int.add_zero, List.getElem?_eq_getElem hc]
theorem aGE {s : Rm} (F : lJ s) {ch : Nat × Nat} (h1 : ch.1 < s.dZ.length) (h2 : ch.2 < s.dF.length) {W : List Int} {c : Nat} (hc : c < W.length) : (stepW s W ch)[c]? = some (W[c] + TJ s (c : Int) ch) := by
 have hf : s.dZ[ch.1]? = some s.dZ[ch.1] := List.getElem?_eq_getElem h1
 have hq : s.dF[ch.2]? = some s.dF[ch.2] := List.getElem?_eq_getElem h2
 have e1 := F.fs _ (List.getElem_mem h1)
 have e2 := F.ps _ (List.getElem_mem h2)
 have hfh : sZ s ch = gG s.dZ[ch.1] := by unfold sZ; rw [hf]; rfl
 have hph : FN s ch = gG s.dF[ch.2] := by unfold FN; rw [hq]; rfl
 unfold stepW TJ
 cases x : hch s ch with
 | false => rw [if_neg (by simp), if_neg (by simp), Int.add_zero, List.getElem?_eq_getElem hc]
 | true =>
  have := aNA F hf hq
  rw [x, eq_comm, Bool.and_eq_true, decide_eq_true_iff, decide_eq_true_iff] at this
  have a1 := ZB (W := W) (i := sZ s ch) (d := wK s ch) (by omega) c hc
  have l1 : c < (qX W (sZ s ch) (wK s ch)).length := by rw [sD]; exact hc
  have a2 := ZB (W := qX W (sZ s ch) (wK s ch)) (i := FN s ch) (d := -(PK s ch)) (by omega) c l1
  rw [List.getElem?_eq_getElem l1] at a1
  rw [if_pos rfl, if_pos rfl, a2, Option.some.inj a1]
  congr 1
  by_cases d : FN s ch = (c : Int)
  ·rw [if_pos d, if_pos d]; omega
  ·rw [if_neg d, if_neg d]; omega
theorem TK {s : Rm} (F : lJ s) {c : Nat} : ∀ (l : List (Nat × Nat)) (W : List Int), (∀ ch ∈ l, ch.1 < s.dZ.length ∧ ch.2 < s.dF.length) → (hc : c < W.length) → (gV s W l)[c]? = some (aEK s (c : Int) W[c] l)
 | [], W, _, hc => List.getElem?_eq_getElem hc
 | ch :: l, W, hl, hc => by
  obtain ⟨i1, i2⟩ := hl ch (.head _)
  have st := aGE F i1 i2 hc
  have hs : c < (stepW s W ch).length := (List.getElem?_eq_some_iff.1 st).1
  have ih := TK F l (stepW s W ch) (fun d hd => hl d (.tail _ hd)) hs
  rw [List.getElem?_eq_getElem hs] at st
  show (gV s (stepW s W ch) l)[c]? = _
  rw [ih, Option.some.inj st]
  rfl
theorem PM {s : Rm} (F : lJ s) {c : Nat} (hc : s.bF.length ≤ c) : ∀ (l : List (Nat × Nat)) (n : Int), (∀ ch ∈ l, ch.1 < s.dZ.length ∧ ch.2 < s.dF.length) → aEK s (c : Int) n l = n
 | [], n, _ => rfl
 | ch :: l, n, hl => by
  obtain ⟨i1, i2⟩ := hl ch (.head _)
  have hf : s.dZ[ch.1]? = some s.dZ[ch.1] := List.getElem?_eq_getElem i1
  have hq : s.dF[ch.2]? = some s.dF[ch.2] := List.getElem?_eq_getElem i2
  have e1 := F.fs _ (List.getElem_mem i1)
  have e2 := F.ps _ (List.getElem_mem i2)
  have hfh : sZ s ch = gG s.dZ[ch.1] := by unfold sZ; rw [hf]; rfl
  have hph : FN s ch = gG s.dF[ch.2] := by unfold FN; rw [hq]; rfl
  have : TJ s (c : Int) ch = 0 := by
   unfold TJ
   rw [if_neg (show ¬ (sZ s ch = (c : Int)) by omega), if_neg (show ¬ (FN s ch = (c : Int)) by omega)]
   split <;> omega
  show aEK s (c : Int) (n + TJ s (c : Int) ch) l = n
  rw [this, Int.add_zero]
  exact PM F hc l n fun d hd => hl d (.tail _ hd)
theorem aCM {s : Rm} (F : lJ s) {l : List (Nat × Nat)} (hl : PG s l) : ∀ x ∈ (gV s (W0 s) l).drop s.bF.length, x = 0 := by
 intro x hx
 have no := F.no
 obtain ⟨w1, w2⟩ := aEI F
 obtain ⟨b1, _⟩ := nK F hl
 obtain ⟨k, hk, rfl⟩ := List.getElem_of_mem hx
 rw [List.length_drop, b1] at hk
 rw [List.getElem_drop]
 have g := TK F l (W0 s) (c := s.bF.length + k) hl.2 (by omega)
 rw [List.getElem?_eq_getElem (by omega)] at g
 rw [Option.some.inj g, PM F (by omega) l _ hl.2]
 unfold W0
 rw [List.getElem_append_right (by omega), List.getElem_replicate]
end Go.Proofs.Ytdpicdnpiihaaaa.K.L
