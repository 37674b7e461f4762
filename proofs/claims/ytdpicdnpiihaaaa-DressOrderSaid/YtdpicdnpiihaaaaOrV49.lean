/- What more ounces change: what a plan lacks. -/
import Derived.Test.YtdpicdnpiihaaaaOrV48
open Go Go.bI
set_option maxRecDepth 100000
set_option linter.unusedVariables false
namespace Go.Proofs.Ytdpicdnpiihaaaa.K.L
def more (s : Rm) (D : List Int) : Rm := { s with bW := sF s.bW D }
def aAD (s : Rm) (D : List Int) : List Int := D ++ List.replicate (4 - s.bW.length) 0
def lK : List Int → Int
 | [] => 0
 | x :: l => x + lK l
theorem QO : ∀ a b : List Int, lK (a ++ b) = lK a + lK b
 | [], b => by show lK b = 0 + lK b; omega
 | x :: a, b => by show x + lK (a ++ b) = x + lK a + lK b; rw [QO a b]; omega
theorem UN : ∀ n : Nat, lK (List.replicate n 0) = 0
 | 0 => rfl
 | n + 1 => by rw [List.replicate_succ]; show 0 + lK _ = 0; rw [UN n]; rfl
theorem aOY (s : Rm) (D : List Int) : lK (aAD s D) = lK D := by unfold aAD; rw [QO, UN]; omega
theorem aOZ (a b : List Int) (h : a.length = b.length) : (sF a b).length = a.length := by unfold sF; rw [List.length_zipWith]; omega
theorem aR8 {s : Rm} {D : List Int} (h : D.length = s.bW.length) : W0 (more s D) = sF (W0 s) (aAD s D) := by
 unfold W0 aAD
 show sF s.bW D ++ List.replicate (4 - (sF s.bW D).length) 0 = _
 rw [aOZ _ _ h.symm]
 unfold sF
 rw [List.zipWith_append h.symm, List.zipWith_replicate]
 simp
theorem aAE : ∀ (W D : List Int) (n : Nat) (d : Int), W.length = D.length → (sF W D).set n ((sF W D).getD n 0 + d) = sF (W.set n (W.getD n 0 + d)) D
 | [], [], n, d, _ => rfl
 | [], _ :: _, _, _, h => by simp at h
 | _ :: _, [], _, _, h => by simp at h
 | x :: W, y :: D, 0, d, h => by
  show (x + y + d) :: sF W D = (x + d + y) :: sF W D
  rw [show x + y + d = x + d + y by omega]
 | x :: W, y :: D, n + 1, d, h => by
  show (x + y) :: (sF W D).set n ((sF W D).getD n 0 + d) = (x + y) :: sF (W.set n (W.getD n 0 + d)) D
  rw [aAE W D n d (by simpa using h)]
theorem UO {W D : List Int} (i d : Int) (h : W.length = D.length) : qX (sF W D) i d = sF (qX W i d) D := aAE W D i.toNat d h
theorem QR {s : Rm} {D : List Int} : ∀ (l : List (Nat × Nat)) (W : List Int), W.length = D.length → gK s (sF W D) l = sF (gK s W l) D
 | [], _, _ => rfl
 | c :: l, W, h => by
  show gK s (stepW s (sF W D) c) l = sF (gK s (stepW s W c) l) D
  have : stepW s (sF W D) c = sF (stepW s W c) D := by
   unfold stepW
   cases hch s c with
   | false => rfl
   | true =>
    rw [if_pos rfl, if_pos rfl, UO _ _ h, UO _ _ (by rw [rZ]; exact h)]
  rw [this]
  refine QR l _ ?_
  unfold stepW
  cases hch s c with
  | false => exact h
  | true => rw [if_pos rfl, rZ, rZ]; exact h
theorem QS {s : Rm} {D : List Int} : ∀ (l : List (Nat × Nat)) (W : List Int), gK (more s D) W l = gK s W l
 | [], _ => rfl
 | c :: l, W => QS l (stepW s W c)
theorem aHK {s : Rm} (F : nI s) {D : List Int} (h : D.length = s.bW.length) (l : List (Nat × Nat)) : kD (more s D) l = IQ (sF (gK s (W0 s) l) (aAD s D)) := by
 unfold kD
 rw [QS, aR8 h, QR]
 rw [(aFA F).1]
 unfold aAD
 rw [List.length_append, List.length_replicate, h]
 have := F.no
 omega
theorem UQ : ∀ X : List Int, IQ (sF X (X.map fP)) = 0
 | [] => rfl
 | x :: X => by
  show fP (x + fP x) + IQ (sF X (X.map fP)) = 0
  rw [UQ X]
  unfold fP; omega
theorem UR : ∀ X : List Int, lK (X.map fP) = IQ X
 | [] => rfl
 | x :: X => by
  show fP x + lK (X.map fP) = fP x + IQ X
  rw [UR X]
def FV (s : Rm) (l : List (Nat × Nat)) : List Int := ((gK s (W0 s) l).map fP).take s.bW.length
theorem aAF {s : Rm} (F : nI s) {l : List (Nat × Nat)} (hl : QZ s l) : aAD s (FV s l) = (gK s (W0 s) l).map fP := by
 obtain ⟨b1, _⟩ := pQ F hl
 have no := F.no
 unfold aAD FV
 conv => rhs; rw [← List.take_append_drop s.bW.length ((gK s (W0 s) l).map fP)]
 congr 1
 symm
 rw [List.eq_replicate_iff]
 refine ⟨by rw [List.length_drop, List.length_map, b1], fun x hx => ?_⟩
 rw [← List.map_drop] at hx
 obtain ⟨y, hy, rfl⟩ := List.mem_map.1 hx
 rw [aDB F hl y hy]; rfl
theorem aFK {s : Rm} (F : nI s) {l : List (Nat × Nat)} (hl : QZ s l) : (FV s l).length = s.bW.length ∧ (∀ x ∈ FV s l, 0 ≤ x ∧ x ≤ 2000) ∧ lK (FV s l) = kD s l ∧ kD (more s (FV s l)) l = 0 := by
 obtain ⟨b1, b2⟩ := pQ F hl
 have no := F.no
 have len : (FV s l).length = s.bW.length := by unfold FV; rw [List.length_take, List.length_map, b1]; omega
 refine ⟨len, fun x hx => ?_, ?_, ?_⟩
 ·unfold FV at hx
  obtain ⟨y, hy, rfl⟩ := List.mem_map.1 (List.mem_of_mem_take hx)
  have := b2 y hy
  unfold fP; omega
 ·rw [← aOY s, aAF F hl, UR]; rfl
 ·rw [aHK F len, aAF F hl, UQ]
theorem aAG {s : Rm} (e0 : (fC s).2.2 = 0) {b : List Nat} (hb : leastOf s (kP s) = some b) : sD s = (FV s (gQ 0 b), iL s (gQ 0 b), 0) ∧ ((kD s (gQ 0 b) = 0 ∧ (jN s).2.1 = iL s (gQ 0 b) ∧ (jN s).2.2 = 0) ∨ (kD s (gQ 0 b) ≠ 0 ∧ (jN s).2.2 = 9)) := by
 have F := rF e0
 have hm : b ∈ kP s := mD s (P := fun g => g ∈ kP s) (fun g hg => hg) _ hb
 have ip := (oZ F hm).1
 refine ⟨?_, ?_⟩
 ·unfold sD
  rw [if_neg (by simpa using e0), hb]
  rfl
 ·unfold jN
  rw [if_neg (by simpa using e0)]
  by_cases c : CE (gK s (W0 s) (gQ 0 b)) = true
  ·have hB : jW s = some b := by unfold jW; rw [hb]; exact if_pos c
   rw [hB]
   exact .inl ⟨(DX F ip).1 c, rfl, rfl⟩
  ·have hB : jW s = none := by unfold jW; rw [hb]; exact if_neg c
   rw [hB]
   exact .inr ⟨fun q => c ((DX F ip).2 q), rfl⟩
end Go.Proofs.Ytdpicdnpiihaaaa.K.L
