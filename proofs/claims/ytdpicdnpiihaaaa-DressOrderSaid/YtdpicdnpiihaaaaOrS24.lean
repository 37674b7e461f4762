/- Contracts of told functions: the reference's Left; hair told colour by colour is hair told change by change. -/
import Derived.Test.YtdpicdnpiihaaaaOrS23
open Go Go.bI
set_option maxRecDepth 100000
set_option linter.unusedVariables false
namespace Go.Proofs.Ytdpicdnpiihaaaa.K.L
theorem ZR {W : List Int} {i d : Int} (hi : 0 ≤ i) (c : Nat) (hc : c < W.length) : (qX W i d)[c]? = some (W[c] + (if i = (c : Int) then d else 0)) := by
 unfold qX
 rw [List.getElem?_set]
 by_cases e : i.toNat = c
 ·rw [if_pos e, if_pos (by omega), if_pos (by omega)]
  rw [List.getD_eq_getElem?_getD, e, List.getElem?_eq_getElem hc, Option.getD_some]
 ·rw [if_neg e, if_neg (by omega), Int.add_zero, List.getElem?_eq_getElem hc]
theorem aG9 {s : Rm} (F : nI s) {ch : Nat × Nat} (h1 : ch.1 < s.bP.length) (h2 : ch.2 < s.dR.length) {W : List Int} {c : Nat} (hc : c < W.length) : (stepW s W ch)[c]? = some (W[c] + UA s (c : Int) ch) := by
 have hf : s.bP[ch.1]? = some s.bP[ch.1] := List.getElem?_eq_getElem h1
 have hq : s.dR[ch.2]? = some s.dR[ch.2] := List.getElem?_eq_getElem h2
 have e1 := F.fs _ (List.getElem_mem h1)
 have e2 := F.ps _ (List.getElem_mem h2)
 have hfh : qY s ch = gM s.bP[ch.1] := by unfold qY; rw [hf]; rfl
 have hph : BX s ch = gM s.dR[ch.2] := by unfold BX; rw [hq]; rfl
 unfold stepW UA
 cases x : hch s ch with
 | false => rw [if_neg (by simp), if_neg (by simp), Int.add_zero, List.getElem?_eq_getElem hc]
 | true =>
  have := aOF F hf hq
  rw [x, eq_comm, Bool.and_eq_true, decide_eq_true_iff, decide_eq_true_iff] at this
  have a1 := ZR (W := W) (i := qY s ch) (d := tF s ch) (by omega) c hc
  have l1 : c < (qX W (qY s ch) (tF s ch)).length := by rw [rZ]; exact hc
  have a2 := ZR (W := qX W (qY s ch) (tF s ch)) (i := BX s ch) (d := -(J7 s ch)) (by omega) c l1
  rw [List.getElem?_eq_getElem l1] at a1
  rw [if_pos rfl, if_pos rfl, a2, Option.some.inj a1]
  congr 1
  by_cases d : BX s ch = (c : Int)
  ·rw [if_pos d, if_pos d]; omega
  ·rw [if_neg d, if_neg d]; omega
theorem UB {s : Rm} (F : nI s) {c : Nat} : ∀ (l : List (Nat × Nat)) (W : List Int), (∀ ch ∈ l, ch.1 < s.bP.length ∧ ch.2 < s.dR.length) → (hc : c < W.length) → (gK s W l)[c]? = some (aFB s (c : Int) W[c] l)
 | [], W, _, hc => List.getElem?_eq_getElem hc
 | ch :: l, W, hl, hc => by
  obtain ⟨i1, i2⟩ := hl ch (.head _)
  have st := aG9 F i1 i2 hc
  have hs : c < (stepW s W ch).length := (List.getElem?_eq_some_iff.1 st).1
  have ih := UB F l (stepW s W ch) (fun d hd => hl d (.tail _ hd)) hs
  rw [List.getElem?_eq_getElem hs] at st
  show (gK s (stepW s W ch) l)[c]? = _
  rw [ih, Option.some.inj st]
  rfl
theorem PY {s : Rm} (F : nI s) {c : Nat} (hc : s.bW.length ≤ c) : ∀ (l : List (Nat × Nat)) (n : Int), (∀ ch ∈ l, ch.1 < s.bP.length ∧ ch.2 < s.dR.length) → aFB s (c : Int) n l = n
 | [], n, _ => rfl
 | ch :: l, n, hl => by
  obtain ⟨i1, i2⟩ := hl ch (.head _)
  have hf : s.bP[ch.1]? = some s.bP[ch.1] := List.getElem?_eq_getElem i1
  have hq : s.dR[ch.2]? = some s.dR[ch.2] := List.getElem?_eq_getElem i2
  have e1 := F.fs _ (List.getElem_mem i1)
  have e2 := F.ps _ (List.getElem_mem i2)
  have hfh : qY s ch = gM s.bP[ch.1] := by unfold qY; rw [hf]; rfl
  have hph : BX s ch = gM s.dR[ch.2] := by unfold BX; rw [hq]; rfl
  have : UA s (c : Int) ch = 0 := by
   unfold UA
   rw [if_neg (show ¬ (qY s ch = (c : Int)) by omega), if_neg (show ¬ (BX s ch = (c : Int)) by omega)]
   split <;> omega
  show aFB s (c : Int) (n + UA s (c : Int) ch) l = n
  rw [this, Int.add_zero]
  exact PY F hc l n fun d hd => hl d (.tail _ hd)
theorem aDB {s : Rm} (F : nI s) {l : List (Nat × Nat)} (hl : QZ s l) : ∀ x ∈ (gK s (W0 s) l).drop s.bW.length, x = 0 := by
 intro x hx
 have no := F.no
 obtain ⟨w1, w2⟩ := aFA F
 obtain ⟨b1, _⟩ := pQ F hl
 obtain ⟨k, hk, rfl⟩ := List.getElem_of_mem hx
 rw [List.length_drop, b1] at hk
 rw [List.getElem_drop]
 have g := UB F l (W0 s) (c := s.bW.length + k) hl.2 (by omega)
 rw [List.getElem?_eq_getElem (by omega)] at g
 rw [Option.some.inj g, PY F (by omega) l _ hl.2]
 unfold W0
 rw [List.getElem_append_right (by omega), List.getElem_replicate]
end Go.Proofs.Ytdpicdnpiihaaaa.K.L
