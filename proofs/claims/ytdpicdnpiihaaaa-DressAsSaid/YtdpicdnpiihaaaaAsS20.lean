/- Contracts of told functions: left, list, lack, allows. -/
import Derived.Test.YtdpicdnpiihaaaaAsS19
import Derived.Test.YtdpicdnpiihaaaaAsEngC
open Go Go.bG
set_option maxRecDepth 100000
set_option linter.unusedVariables false
namespace Go.Proofs.Ytdpicdnpiihaaaa.K.L
theorem aSE : gB env 87 = some (.array 4 3) := by kernel_rfl
theorem aMU {h : Hp} {v : Value} {l : List Int} (sl : lF h 1 v (l.map dD)) (hl : 0 < l.length) : ∃ b, v = .slice (some ⟨b, 0, none⟩) l.length l.length ∧ fO h ⟨b, 0, none⟩ l.length = some (l.map (Value.int .i64)) := by
 rcases sl with ⟨_, h2⟩ | ⟨b, c, t, k, h1, h2, _, h3⟩
 ·simp at h2; rw [h2] at hl; simp at hl
 ·rw [List.length_map] at h1
  refine ⟨b, h1, ?_⟩
  have hc : l.length ≤ c.length := by
   have := (h3 (l.length - 1) (dD l[l.length - 1]) (by rw [List.getElem?_map, List.getElem?_eq_getElem (by omega)]; rfl)).2.1
   omega
  have e : c.take l.length = l.map (Value.int .i64) := by
   apply List.ext_getElem?
   intro i
   rw [List.getElem?_take, List.getElem?_map]
   by_cases hi : i < l.length
   ·rw [if_pos hi, List.getElem?_eq_getElem hi]
    have := (h3 i (dD l[i]) (by rw [List.getElem?_map, List.getElem?_eq_getElem hi]; rfl)).2.2 0 (.int .i64 l[i]) rfl
    rw [Nat.mul_one, Nat.add_zero] at this
    rw [this]; rfl
   ·rw [if_neg hi, List.getElem?_eq_none (by omega)]; rfl
  unfold fO
  simp only [h2, List.drop_zero, e]
  rw [List.length_map, Nat.beq_refl]
  rfl
theorem aFS {h : Hp} {b : Nat} {c : List Value} {t : TypeId} (hg : h.get b = some (.cells c t none)) {n : Nat} (hn : n ≤ 4) (hi : Option Value) (hh : (hi = none ∧ n = 4) ∨ hi = some (.int .i64 (n : Int))) : gY env h 87 (.pointer (some ⟨b, 0, none⟩)) none hi none = some (.slice (some ⟨b, 0, none⟩) n 4) := by
 have hb : kE none hi 4 4 = some (0, n) := by
  unfold kE
  rcases hh with ⟨rfl, rfl⟩ | rfl
  ·rfl
  ·rw [show ((n : Nat) : Int) = Int.ofNat n from rfl]
   simp only [uU, Option.bind_some]
   rw [show Nat.ble n 4 = true from by rw [Nat.ble_eq]; omega]
   rfl
 have hr : mF h b = some none := by unfold mF; rw [hg]
 unfold gY
 simp only [aSE, Option.bind_some]
 rw [show addrOf (.pointer (some ⟨b, 0, none⟩)) = some ⟨b, 0, none⟩ from rfl]
 simp only [Option.bind_some, hr, Option.isNone_none, ok?, YM, hb]
 rfl
def W0 (s : Rm) : List Int := s.dW ++ List.replicate (4 - s.dW.length) 0
theorem aP7 {h : Hp} {v : Value} {l : List Int} (sl : lF h 1 v (l.map dD)) (hl : 0 < l.length ∧ l.length ≤ 4) {b : Nat} (hg : h.get b = some (.cells rQ 87 none)) (hro : h.ro ≤ b) :
  copyV env h #[22, 22] (List.toArray [.slice (some ⟨b, 0, none⟩) 4 4, v]) = some (.int .i64 (l.length : Int), h.upd b (.cells ((l ++ List.replicate (4 - l.length) 0).map (Value.int .i64)) 87 none)) := by
 obtain ⟨b', rfl, hc⟩ := aMU sl hl.1
 obtain ⟨x, l', e⟩ : ∃ x l', l = x :: l' := by cases l with | nil => simp at hl | cons x l' => exact ⟨x, l', rfl⟩
 have hm : Nat.min l.length 4 = l.length := by show min l.length 4 = _; omega
 have hz : rQ.drop l.length = (List.replicate (4 - l.length) (0 : Int)).map (Value.int .i64) := by
  have : l.length = 1 ∨ l.length = 2 ∨ l.length = 3 ∨ l.length = 4 := by omega
  rcases this with h | h | h | h <;> (rw [h]; rfl)
 have hp : putCells h ⟨b, 0, none⟩ (l.map (Value.int .i64)) = some (h.upd b (.cells ((l ++ List.replicate (4 - l.length) 0).map (Value.int .i64)) 87 none)) := by
  unfold putCells
  simp only [ok?, hg]
  rw [show Nat.ble h.ro b = true from by rw [Nat.ble_eq]; exact hro]
  simp only
  rw [show Nat.ble (0 + (l.map (Value.int .i64)).length) rQ.length = true from by rw [Nat.ble_eq, List.length_map, Nat.zero_add]; exact hl.2, YI, List.length_map, Nat.zero_add, hz, List.map_append]
  rfl
 unfold copyV
 rw [show (#[22, 22] : Array TypeId)[0]? = some 22 from rfl, show (List.toArray [Value.slice (some ⟨b, 0, none⟩) 4 4, .slice (some ⟨b', 0, none⟩) l.length l.length])[0]? = some (.slice (some ⟨b, 0, none⟩) 4 4) from rfl, show (List.toArray [Value.slice (some ⟨b, 0, none⟩) 4 4, .slice (some ⟨b', 0, none⟩) l.length l.length])[1]? = some (.slice (some ⟨b', 0, none⟩) l.length l.length) from rfl]
 simp only [Option.bind_some, aDW, YM, CZ, hm]
 rw [show rT h l.length 1 (.slice (some ⟨b', 0, none⟩) l.length l.length) = some (l.map (Value.int .i64)) from by show fO h ⟨b', 0, none⟩ (l.length * 1) = _; rw [Nat.mul_one]; exact hc]
 simp only [Option.bind_some]
 rw [e] at hp ⊢
 simp only [List.map_cons] at hp ⊢
 rw [hp]
 rfl
theorem aSF {s : Rm} (F : qE s) : (W0 s).length = 4 ∧ ∀ x ∈ W0 s, -50 ≤ x ∧ x ≤ 50 := by
 have no := F.no
 refine ⟨by unfold W0; rw [List.length_append, List.length_replicate]; omega, fun x hx => ?_⟩
 unfold W0 at hx
 rcases List.mem_append.1 hx with hx | hx
 ·have := F.os x hx; omega
 ·have := (List.mem_replicate.1 hx).2; omega
theorem SH {h : Hp} (w : Wf h) {s : Rm} (F : qE s) {lo : Nat} {lk : List Value} (V : E9 lo h s lk) {u : Value} {l : List (Nat × Nat)} (sl : lF h 2 u (l.map fG)) (hl : VG s l) : ∃ h', F60 [.agg (Array.mk lk), u] h = some (.agg (Array.mk ((kK s (W0 s) l).map (Value.int .i64))), h') ∧ aS h h' := by
 have start : F60 [.agg (Array.mk lk), u] h = aJO (aK T60 999999) (.agg (Array.mk lk)) u h := rfl
 rw [start]
 unfold aJO
 have l10 := hl.1
 rw [fA, bK, bK, show [(Value.int .i64 (Int.ofNat 0)), (Value.int .i64 (Int.ofNat 0)), (Value.int .i64 (Int.ofNat 0)), (Value.int .i64 (Int.ofNat 0))] = rQ from rfl]
 have g0 : aS h (h.add (.cells lk 71 none)) := aS.add w _
 have a0 : At (h.add (.cells lk 71 none)) (.pointer (some ⟨h.next, 0, none⟩)) lk := At.new
 generalize h.add (.cells lk 71 none) = h0 at g0 a0 ⊢
 have g1 : aS h (h0.add (.cells rQ 87 none)) := g0.trans (aS.add g0.wf _)
 have a1 : At (h0.add (.cells rQ 87 none)) (.pointer (some ⟨h.next, 0, none⟩)) lk := aDQ g0.wf a0 _
 have c1 : (h0.add (.cells rQ 87 none)).get h0.next = some (.cells rQ 87 none) := by rw [bO, if_pos rfl]
 have n0 := g0.next
 generalize h0.next = b4 at c1 n0 ⊢
 generalize h0.add (.cells rQ 87 none) = h1 at g1 a1 c1 ⊢
 generalize Value.pointer (some ⟨h.next, 0, none⟩) = p at a1 ⊢
 rw [bK]
 have c2 : (h1.add (.cells rQ 87 none)).get h1.next = some (.cells rQ 87 none) := by rw [bO, if_pos rfl]
 have g2 := aS.add g1.wf (.cells rQ 87 none)
 have V1 := V.sub g1.sub
 have V1c := V1
 obtain ⟨r, mb, hbm, hlr, A, M, hlo⟩ := V1c
 obtain ⟨q5, hq5, aq5⟩ := (a1.sub g2.sub).part 0 4 (by rw [V1.len]; decide)
 replace aq5 : At (h1.add (.cells rQ 87 none)) q5 r := by rw [hlr] at aq5; rw [List.drop_zero, List.take_append_of_le_length (by rw [A.len]; omega), List.take_of_length_le (by rw [A.len]; omega)] at aq5; exact aq5
 obtain ⟨vc, vo, vf, vp, rfl, sc, so, sf, sp, af, aqq⟩ := A
 obtain ⟨W0l, W0b⟩ := aSF F
 have ro2 : (h1.add (.cells rQ 87 none)).ro ≤ h1.next := by rw [EX]; exact g1.wf.1
 rw [aFS c2 (n := 4) (by omega) none (.inl ⟨rfl, rfl⟩), aJ, hq5, aq5.qL 1 (x := vo) rfl, aP7 (so.sub g2.sub) F.no c2 ro2, aB, (sl.sub g1.sub).rows.len, List.length_map, show (Int.ofNat 0) = ((0 : Nat) : Int) from rfl]
 obtain ⟨h', e, g⟩ := KJ w g1 F V1 a1 n0 c1 (b5 := h1.next) (Nat.le_refl _) (sl.sub g1.sub) hl l.length 0 999999 ((h1.add (.cells rQ 87 none)).upd h1.next (.cells ((W0 s).map (Value.int .i64)) 87 none)) (W0 s) (aS.upd g1.wf g2 (Nat.le_refl _) (by rw [kZ]; omega) _) (by rw [cO, if_pos rfl]) W0l (fun x hx => by have := W0b x hx; omega) (by omega) (by omega)
 rw [List.drop_zero] at e
 exact ⟨h', e, g⟩
end Go.Proofs.Ytdpicdnpiihaaaa.K.L
