/- What more ounces change: what a plan lacks. -/
import Derived.Test.YtdpicdnpiihaaaaBoV48
open Go Go.bK
set_option maxRecDepth 100000
set_option linter.unusedVariables false
namespace Go.Proofs.Ytdpicdnpiihaaaa.K.L
def more (s : Rm) (D : List Int) : Rm := { s with bF := l9 s.bF D }
def QY (s : Rm) (D : List Int) : List Int := D ++ List.replicate (4 - s.bF.length) 0
def mJ : List Int → Int
 | [] => 0
 | x :: l => x + mJ l
theorem PZ : ∀ a b : List Int, mJ (a ++ b) = mJ a + mJ b
 | [], b => by show mJ b = 0 + mJ b; omega
 | x :: a, b => by show x + mJ (a ++ b) = x + mJ a + mJ b; rw [PZ a b]; omega
theorem TU : ∀ n : Nat, mJ (List.replicate n 0) = 0
 | 0 => rfl
 | n + 1 => by rw [List.replicate_succ]; show 0 + mJ _ = 0; rw [TU n]; rfl
theorem ZR (s : Rm) (D : List Int) : mJ (QY s D) = mJ D := by unfold QY; rw [PZ, TU]; omega
theorem aNY (a b : List Int) (h : a.length = b.length) : (l9 a b).length = a.length := by unfold l9; rw [List.length_zipWith]; omega
theorem aQ3 {s : Rm} {D : List Int} (h : D.length = s.bF.length) : W0 (more s D) = l9 (W0 s) (QY s D) := by
 unfold W0 QY
 show l9 s.bF D ++ List.replicate (4 - (l9 s.bF D).length) 0 = _
 rw [aNY _ _ h.symm]
 unfold l9
 rw [List.zipWith_append h.symm, List.zipWith_replicate]
 simp
theorem ZU : ∀ (W D : List Int) (n : Nat) (d : Int), W.length = D.length → (l9 W D).set n ((l9 W D).getD n 0 + d) = l9 (W.set n (W.getD n 0 + d)) D
 | [], [], n, d, _ => rfl
 | [], _ :: _, _, _, h => by simp at h
 | _ :: _, [], _, _, h => by simp at h
 | x :: W, y :: D, 0, d, h => by
  show (x + y + d) :: l9 W D = (x + d + y) :: l9 W D
  rw [show x + y + d = x + d + y by omega]
 | x :: W, y :: D, n + 1, d, h => by
  show (x + y) :: (l9 W D).set n ((l9 W D).getD n 0 + d) = (x + y) :: l9 (W.set n (W.getD n 0 + d)) D
  rw [ZU W D n d (by simpa using h)]
theorem TV {W D : List Int} (i d : Int) (h : W.length = D.length) : qX (l9 W D) i d = l9 (qX W i d) D := ZU W D i.toNat d h
theorem QA {s : Rm} {D : List Int} : ∀ (l : List (Nat × Nat)) (W : List Int), W.length = D.length → gV s (l9 W D) l = l9 (gV s W l) D
 | [], _, _ => rfl
 | c :: l, W, h => by
  show gV s (stepW s (l9 W D) c) l = l9 (gV s (stepW s W c) l) D
  have : stepW s (l9 W D) c = l9 (stepW s W c) D := by
   unfold stepW
   cases hch s c with
   | false => rfl
   | true =>
    rw [if_pos rfl, if_pos rfl, TV _ _ h, TV _ _ (by rw [sD]; exact h)]
  rw [this]
  refine QA l _ ?_
  unfold stepW
  cases hch s c with
  | false => exact h
  | true => rw [if_pos rfl, sD, sD]; exact h
theorem QB {s : Rm} {D : List Int} : ∀ (l : List (Nat × Nat)) (W : List Int), gV (more s D) W l = gV s W l
 | [], _ => rfl
 | c :: l, W => QB l (stepW s W c)
theorem zB {s : Rm} {D : List Int} : ∀ (l : List (Nat × Nat)), iP (more s D) l = iP s l
 | [] => rfl
 | c :: l => by
  show pM s.costs (V8 s c) + iP (more s D) l = pM s.costs (V8 s c) + iP s l
  rw [zB l]
theorem TW {s : Rm} (F : lJ s) {D : List Int} (h : D.length = s.bF.length) (l : List (Nat × Nat)) : jP (more s D) l = zR (l9 (gV s (W0 s) l) (QY s D)) := by
 unfold jP
 rw [QB, aQ3 h, QA]
 rw [(aEI F).1]
 unfold QY
 rw [List.length_append, List.length_replicate, h]
 have := F.no
 omega
theorem TY : ∀ (X P : List Int), X.length = P.length → (∀ p ∈ P, 0 ≤ p) → zR X ≤ zR (l9 X P) + mJ P
 | [], [], _, _ => Int.le_refl 0
 | [], _ :: _, h, _ => by simp at h
 | _ :: _, [], h, _ => by simp at h
 | x :: X, p :: P, h, hp => by
  have ih := TY X P (by simpa using h) fun q hq => hp q (.tail _ hq)
  have := hp p (.head _)
  show eX x + zR X ≤ eX (x + p) + zR (l9 X P) + (p + mJ P)
  have : eX x ≤ eX (x + p) + p := by unfold eX; omega
  omega
theorem TZ : ∀ X : List Int, zR (l9 X (X.map eX)) = 0
 | [] => rfl
 | x :: X => by
  show eX (x + eX x) + zR (l9 X (X.map eX)) = 0
  rw [TZ X]
  unfold eX; omega
theorem UA : ∀ X : List Int, mJ (X.map eX) = zR X
 | [] => rfl
 | x :: X => by
  show eX x + mJ (X.map eX) = eX x + zR X
  rw [UA X]
def nZ (s : Rm) (l : List (Nat × Nat)) : List Int := ((gV s (W0 s) l).map eX).take s.bF.length
theorem ZV {s : Rm} (F : lJ s) {l : List (Nat × Nat)} (hl : PG s l) : QY s (nZ s l) = (gV s (W0 s) l).map eX := by
 obtain ⟨b1, _⟩ := nK F hl
 have no := F.no
 unfold QY nZ
 conv => rhs; rw [← List.take_append_drop s.bF.length ((gV s (W0 s) l).map eX)]
 congr 1
 symm
 rw [List.eq_replicate_iff]
 refine ⟨by rw [List.length_drop, List.length_map, b1], fun x hx => ?_⟩
 rw [← List.map_drop] at hx
 obtain ⟨y, hy, rfl⟩ := List.mem_map.1 hx
 rw [aCM F hl y hy]; rfl
theorem IP {s : Rm} (F : lJ s) {l : List (Nat × Nat)} (hl : PG s l) : (nZ s l).length = s.bF.length ∧ (∀ x ∈ nZ s l, 0 ≤ x ∧ x ≤ 2000) ∧ mJ (nZ s l) = jP s l ∧ jP (more s (nZ s l)) l = 0 := by
 obtain ⟨b1, b2⟩ := nK F hl
 have no := F.no
 have len : (nZ s l).length = s.bF.length := by unfold nZ; rw [List.length_take, List.length_map, b1]; omega
 refine ⟨len, fun x hx => ?_, ?_, ?_⟩
 ·unfold nZ at hx
  obtain ⟨y, hy, rfl⟩ := List.mem_map.1 (List.mem_of_mem_take hx)
  have := b2 y hy
  unfold eX; omega
 ·rw [← ZR s, ZV F hl, UA]; rfl
 ·rw [TW F len, ZV F hl, TZ]
theorem aES {s : Rm} (F : lJ s) {D : List Int} (h : D.length = s.bF.length) (hD : ∀ x ∈ D, 0 ≤ x) {l : List (Nat × Nat)} (hl : PG s l) : jP s l ≤ jP (more s D) l + mJ D := by
 obtain ⟨b1, _⟩ := nK F hl
 have no := F.no
 rw [TW F h, ← ZR s]
 refine TY _ _ ?_ fun p hp => ?_
 ·rw [b1]; unfold QY; rw [List.length_append, List.length_replicate, h]; omega
 ·unfold QY at hp
  rcases List.mem_append.1 hp with q | q
  ·exact hD p q
  ·rw [(List.mem_replicate.1 q).2]; decide
theorem least_le {s : Rm} {b : List Nat} (hb : leastOf s (iR s) = some b) {g : List Nat} (hg : g ∈ iR s) : ¬ kLt s g b := by
 rcases vC s (qY s.dZ.length s.dF.length []) with ⟨e, _⟩ | ⟨b', e, _, hall⟩
 ·rw [show iR s = [] from e] at hg; cases hg
 ·rw [show leastOf s (iR s) = leastOf s (ZG s.dZ.length s.dF.length []) from rfl, e] at hb
  cases hb
  exact (hall g hg).1
theorem aGP {s : Rm} (F : lJ s) {b : List Nat} (hb : leastOf s (iR s) = some b) (e : (gK (more s (nZ s (fK 0 b)))).2.2 = 0) : ∃ bb, qD (more s (nZ s (fK 0 b))) = (bb, iP s (fK 0 b), 0) := by
 have hm : b ∈ iR s := kQ s (P := fun g => g ∈ iR s) (fun g hg => hg) _ hb
 have ip := (kG F hm).1
 obtain ⟨l1, l2, l3, l4⟩ := IP F ip
 have F' := rG e
 have hm' : b ∈ iR (more s (nZ s (fK 0 b))) := hm
 have ca := (nY F' (kG F' hm').1).2 l4
 cases hB : mI (more s (nZ s (fK 0 b))) with
 | none => rw [aQZ F' hB hm'] at ca; cases ca
 | some b' =>
  obtain ⟨m1, m2, m3⟩ := DN hB
  have m1s : b' ∈ iR s := m1
  have z := (nY F' (kG F' m1).1).1 m3
  have le := aES F l1 (fun x hx => (l2 x hx).1) (kG F m1s).1
  have nk := least_le hb m1s
  have bi := aQ0 F' hB hm' ca
  rw [zB, zB] at bi
  have eq : iP s (fK 0 b') = iP s (fK 0 b) := by
   unfold kLt at nk
   rcases bi with q | q <;> omega
  refine ⟨zL b', ?_⟩
  unfold qD
  rw [if_neg (by simpa using e), hB]
  show (zL b', iP (more s (nZ s (fK 0 b))) (fK 0 b'), (0 : Int)) = _
  rw [zB, eq]
theorem aNZ {s : Rm} (F : lJ s) {b : List Nat} (hb : leastOf s (iR s) = some b) {D : List Int} (hl : D.length = s.bF.length) (hD : ∀ x ∈ D, 0 ≤ x) (hlt : mJ D < jP s (fK 0 b)) (e : (gK (more s D)).2.2 = 0) : qD (more s D) = ([], 0, 9) := by
 have F' := rG e
 unfold qD
 rw [if_neg (by simpa using e)]
 cases hB : mI (more s D) with
 | none => rfl
 | some b' =>
  exfalso
  obtain ⟨m1, m2, m3⟩ := DN hB
  have m1s : b' ∈ iR s := m1
  have z := (nY F' (kG F' m1).1).1 m3
  have le := aES F hl hD (kG F m1s).1
  have nk := least_le hb m1s
  unfold kLt at nk
  omega
theorem ZW {s : Rm} (e0 : (gK s).2.2 = 0) {b : List Nat} (hb : leastOf s (iR s) = some b) : L8 s = (nZ s (fK 0 b), iP s (fK 0 b), 0) ∧ ((jP s (fK 0 b) = 0 ∧ (qD s).2.1 = iP s (fK 0 b) ∧ (qD s).2.2 = 0) ∨ (jP s (fK 0 b) ≠ 0 ∧ (qD s).2.2 = 9)) := by
 have F := rG e0
 have hm : b ∈ iR s := kQ s (P := fun g => g ∈ iR s) (fun g hg => hg) _ hb
 have ip := (kG F hm).1
 refine ⟨?_, ?_⟩
 ·unfold L8
  rw [if_neg (by simpa using e0), hb]
  rfl
 ·unfold qD
  rw [if_neg (by simpa using e0)]
  by_cases c : wM (gV s (W0 s) (fK 0 b)) = true
  ·have hB : mI s = some b := by unfold mI; rw [hb]; exact if_pos c
   rw [hB]
   exact .inl ⟨(nY F ip).1 c, rfl, rfl⟩
  ·have hB : mI s = none := by unfold mI; rw [hb]; exact if_neg c
   rw [hB]
   exact .inr ⟨fun q => c ((nY F ip).2 q), rfl⟩
theorem QC {s : Rm} (e0 : (gK s).2.2 = 0) : leastOf s (iR s) = none ↔ s.dZ.length < s.dF.length := by
 constructor
 ·intro h
  by_cases c : s.dZ.length < s.dF.length
  ·exact c
  ·exfalso
   have hm : List.range s.dF.length ∈ iR s := (zA _ _ _ _).2 ⟨List.range s.dF.length, rfl, List.length_range, fun x hx => ⟨by rw [List.mem_range] at hx; omega, by simp⟩, List.nodup_range⟩
   rcases vC s (qY s.dZ.length s.dF.length []) with ⟨e, _⟩ | ⟨b', e, _, _⟩
   ·rw [show iR s = [] from e] at hm; cases hm
   ·rw [show leastOf s (iR s) = leastOf s (ZG s.dZ.length s.dF.length []) from rfl, e] at h; cases h
 ·intro c
  rcases vC s (qY s.dZ.length s.dF.length []) with ⟨_, e⟩ | ⟨b', _, hb, _⟩
  ·exact e
  ·exfalso
   obtain ⟨t, _, h1, h2, h3⟩ := (zA _ _ _ _).1 hb
   have : t.length ≤ (List.range s.dZ.length).length := List.Nodup.length_le_of_subset h3 fun x hx => List.mem_range.2 (h2 x hx).1
   rw [List.length_range] at this
   omega
end Go.Proofs.Ytdpicdnpiihaaaa.K.L
