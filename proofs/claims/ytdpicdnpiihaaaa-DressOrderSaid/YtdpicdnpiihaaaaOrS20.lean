/- Contracts of told functions: left, list, lack, allows. -/
import Derived.Test.YtdpicdnpiihaaaaOrS19
import Derived.Test.YtdpicdnpiihaaaaOrEngC
open Go Go.bI
set_option maxRecDepth 100000
set_option linter.unusedVariables false
namespace Go.Proofs.Ytdpicdnpiihaaaa.K.L
theorem aT5 : gL env 87 = some (.array 4 3) := by kernel_rfl
theorem aOH {h : Hp} {v : Value} {l : List Int} (sl : lV h 1 v (l.map cZ)) (hl : 0 < l.length) : ∃ b, v = .slice (some ⟨b, 0, none⟩) l.length l.length ∧ eY h ⟨b, 0, none⟩ l.length = some (l.map (Value.int .i64)) := by
 rcases sl with ⟨_, h2⟩ | ⟨b, c, t, k, h1, h2, _, h3⟩
 ·simp at h2; rw [h2] at hl; simp at hl
 ·rw [List.length_map] at h1
  refine ⟨b, h1, ?_⟩
  have hc : l.length ≤ c.length := by
   have := (h3 (l.length - 1) (cZ l[l.length - 1]) (by rw [List.getElem?_map, List.getElem?_eq_getElem (by omega)]; rfl)).2.1
   omega
  have e : c.take l.length = l.map (Value.int .i64) := by
   apply List.ext_getElem?
   intro i
   rw [List.getElem?_take, List.getElem?_map]
   by_cases hi : i < l.length
   ·rw [if_pos hi, List.getElem?_eq_getElem hi]
    have := (h3 i (cZ l[i]) (by rw [List.getElem?_map, List.getElem?_eq_getElem hi]; rfl)).2.2 0 (.int .i64 l[i]) rfl
    rw [Nat.mul_one, Nat.add_zero] at this
    rw [this]; rfl
   ·rw [if_neg hi, List.getElem?_eq_none (by omega)]; rfl
  unfold eY
  simp only [h2, List.drop_zero, e]
  rw [List.length_map, Nat.beq_refl]
  rfl
theorem TZ {h : Hp} {b : Nat} {c : List Value} {t : TypeId} (hg : h.get b = some (.cells c t none)) {n : Nat} (hn : n ≤ 4) (hi : Option Value) (hh : (hi = none ∧ n = 4) ∨ hi = some (.int .i64 (n : Int))) : jG env h 87 (.pointer (some ⟨b, 0, none⟩)) none hi none = some (.slice (some ⟨b, 0, none⟩) n 4) := by
 have hb : mG none hi 4 4 = some (0, n) := by
  unfold mG
  rcases hh with ⟨rfl, rfl⟩ | rfl
  ·rfl
  ·rw [show ((n : Nat) : Int) = Int.ofNat n from rfl]
   simp only [xC, Option.bind_some]
   rw [show Nat.ble n 4 = true from by rw [Nat.ble_eq]; omega]
   rfl
 have hr : kG h b = some none := by unfold kG; rw [hg]
 unfold jG
 simp only [aT5, Option.bind_some]
 rw [show addrOf (.pointer (some ⟨b, 0, none⟩)) = some ⟨b, 0, none⟩ from rfl]
 simp only [Option.bind_some, hr, Option.isNone_none, ok?, LH, hb]
 rfl
def W0 (s : Rm) : List Int := s.bW ++ List.replicate (4 - s.bW.length) 0
theorem aRY {h : Hp} {v : Value} {l : List Int} (sl : lV h 1 v (l.map cZ)) (hl : 0 < l.length ∧ l.length ≤ 4) {b : Nat} (hg : h.get b = some (.cells sN 87 none)) (hro : h.ro ≤ b) :
  copyV env h #[22, 22] (List.toArray [.slice (some ⟨b, 0, none⟩) 4 4, v]) = some (.int .i64 (l.length : Int), h.upd b (.cells ((l ++ List.replicate (4 - l.length) 0).map (Value.int .i64)) 87 none)) := by
 obtain ⟨b', rfl, hc⟩ := aOH sl hl.1
 obtain ⟨x, l', e⟩ : ∃ x l', l = x :: l' := by cases l with | nil => simp at hl | cons x l' => exact ⟨x, l', rfl⟩
 have hm : Nat.min l.length 4 = l.length := by show min l.length 4 = _; omega
 have hz : sN.drop l.length = (List.replicate (4 - l.length) (0 : Int)).map (Value.int .i64) := by
  have : l.length = 1 ∨ l.length = 2 ∨ l.length = 3 ∨ l.length = 4 := by omega
  rcases this with h | h | h | h <;> (rw [h]; rfl)
 have hp : putCells h ⟨b, 0, none⟩ (l.map (Value.int .i64)) = some (h.upd b (.cells ((l ++ List.replicate (4 - l.length) 0).map (Value.int .i64)) 87 none)) := by
  unfold putCells
  simp only [ok?, hg]
  rw [show Nat.ble h.ro b = true from by rw [Nat.ble_eq]; exact hro]
  simp only
  rw [show Nat.ble (0 + (l.map (Value.int .i64)).length) sN.length = true from by rw [Nat.ble_eq, List.length_map, Nat.zero_add]; exact hl.2, ZL, List.length_map, Nat.zero_add, hz, List.map_append]
  rfl
 unfold copyV
 rw [show (#[22, 22] : Array TypeId)[0]? = some 22 from rfl, show (List.toArray [Value.slice (some ⟨b, 0, none⟩) 4 4, .slice (some ⟨b', 0, none⟩) l.length l.length])[0]? = some (.slice (some ⟨b, 0, none⟩) 4 4) from rfl, show (List.toArray [Value.slice (some ⟨b, 0, none⟩) 4 4, .slice (some ⟨b', 0, none⟩) l.length l.length])[1]? = some (.slice (some ⟨b', 0, none⟩) l.length l.length) from rfl]
 simp only [Option.bind_some, PW, LH, wH, hm]
 rw [show qH h l.length 1 (.slice (some ⟨b', 0, none⟩) l.length l.length) = some (l.map (Value.int .i64)) from by show eY h ⟨b', 0, none⟩ (l.length * 1) = _; rw [Nat.mul_one]; exact hc]
 simp only [Option.bind_some]
 rw [e] at hp ⊢
 simp only [List.map_cons] at hp ⊢
 rw [hp]
 rfl
theorem aFA {s : Rm} (F : nI s) : (W0 s).length = 4 ∧ ∀ x ∈ W0 s, -50 ≤ x ∧ x ≤ 50 := by
 have no := F.no
 refine ⟨by unfold W0; rw [List.length_append, List.length_replicate]; omega, fun x hx => ?_⟩
 unfold W0 at hx
 rcases List.mem_append.1 hx with hx | hx
 ·have := F.os x hx; omega
 ·have := (List.mem_replicate.1 hx).2; omega
theorem J8 {h : Hp} (w : Wf h) {s : Rm} (F : nI s) {lo : Nat} {lk : List Value} (V : GD lo h s lk) {u : Value} {l : List (Nat × Nat)} (sl : lV h 2 u (l.map iG)) (hl : QZ s l) : ∃ h', F60 [.agg (Array.mk lk), u] h = some (.agg (Array.mk ((gK s (W0 s) l).map (Value.int .i64))), h') ∧ aV h h' := by
 have start : F60 [.agg (Array.mk lk), u] h = aK3 (aN T60 999999) (.agg (Array.mk lk)) u h := rfl
 rw [start]
 unfold aK3
 have l10 := hl.1
 rw [fF, bT, bT, show [(Value.int .i64 (Int.ofNat 0)), (Value.int .i64 (Int.ofNat 0)), (Value.int .i64 (Int.ofNat 0)), (Value.int .i64 (Int.ofNat 0))] = sN from rfl]
 have g0 : aV h (h.add (.cells lk 71 none)) := aV.add w _
 have a0 : At (h.add (.cells lk 71 none)) (.pointer (some ⟨h.next, 0, none⟩)) lk := At.new
 generalize h.add (.cells lk 71 none) = h0 at g0 a0 ⊢
 have g1 : aV h (h0.add (.cells sN 87 none)) := g0.trans (aV.add g0.wf _)
 have a1 : At (h0.add (.cells sN 87 none)) (.pointer (some ⟨h.next, 0, none⟩)) lk := aE8 g0.wf a0 _
 have c1 : (h0.add (.cells sN 87 none)).get h0.next = some (.cells sN 87 none) := by rw [bD, if_pos rfl]
 have n0 := g0.next
 generalize h0.next = b4 at c1 n0 ⊢
 generalize h0.add (.cells sN 87 none) = h1 at g1 a1 c1 ⊢
 generalize Value.pointer (some ⟨h.next, 0, none⟩) = p at a1 ⊢
 rw [bT]
 have c2 : (h1.add (.cells sN 87 none)).get h1.next = some (.cells sN 87 none) := by rw [bD, if_pos rfl]
 have g2 := aV.add g1.wf (.cells sN 87 none)
 have V1 := V.sub g1.sub
 have V1c := V1
 obtain ⟨r, mb, hbm, hlr, A, M, hlo⟩ := V1c
 obtain ⟨q5, hq5, ZM⟩ := (a1.sub g2.sub).part 0 4 (by rw [V1.len]; decide)
 replace ZM : At (h1.add (.cells sN 87 none)) q5 r := by rw [hlr] at ZM; rw [List.drop_zero, List.take_append_of_le_length (by rw [A.len]; omega), List.take_of_length_le (by rw [A.len]; omega)] at ZM; exact ZM
 obtain ⟨vc, vo, vf, vp, rfl, sc, so, sf, sp, af, aqq⟩ := A
 obtain ⟨W0l, W0b⟩ := aFA F
 have ro2 : (h1.add (.cells sN 87 none)).ro ≤ h1.next := by rw [FN]; exact g1.wf.1
 rw [TZ c2 (n := 4) (by omega) none (.inl ⟨rfl, rfl⟩), aM, hq5, ZM.wP 1 (x := vo) rfl, aRY (so.sub g2.sub) F.no c2 ro2, aB, (sl.sub g1.sub).rows.len, List.length_map, show (Int.ofNat 0) = ((0 : Nat) : Int) from rfl]
 obtain ⟨h', e, g⟩ := LG w g1 F V1 a1 n0 c1 (b5 := h1.next) (Nat.le_refl _) (sl.sub g1.sub) hl l.length 0 999999 ((h1.add (.cells sN 87 none)).upd h1.next (.cells ((W0 s).map (Value.int .i64)) 87 none)) (W0 s) (aV.upd g1.wf g2 (Nat.le_refl _) (by rw [kZ]; omega) _) (by rw [bL, if_pos rfl]) W0l (fun x hx => by have := W0b x hx; omega) (by omega) (by omega)
 rw [List.drop_zero] at e
 exact ⟨h', e, g⟩
theorem aRZ (a : Option Addr) (n c : Nat) (ha : a.isSome = true) : qQ env .eql 22 (Operand.tmp 3) (Operand.const (Value.slice none 0 0)) (.slice a n c) (.slice none 0 0) = some (.bool false) := by
 cases a with
 | none => cases ha
 | some a => kernel_rfl
theorem noI (h : Hp) : aU env h 22 0 (List.toArray []) = some (.slice (some ⟨h.next, 0, none⟩) 0 0, h.add (.cells [] 3 none)) := by kernel_rfl
theorem aDA {h : Hp} (w : Wf h) {b n c : Nat} {W : List Int} {t : TypeId} (hg : h.get b = some (.cells (W.map (Value.int .i64)) t none)) (hn : 0 < n ∧ n ≤ W.length) (hn4 : n ≤ 100) : ∃ h' v', F91 [.slice (some ⟨b, 0, none⟩) n c] h = some (v', h') ∧ aV h h' ∧ qZ h h' v' (W.take n) := by
 have start : F91 [.slice (some ⟨b, 0, none⟩) n c] h = aLG (aN T91 999999) (.slice (some ⟨b, 0, none⟩) n c) h := rfl
 rw [start]
 unfold aLG
 rw [aRZ _ _ _ rfl, aM, aZ, aH, if_neg (by simp), noI, aB]
 have g1 := aV.add w (.cells [] 3 none)
 have hg1 := g1.sub _ _ hg
 have c1 : (h.add (.cells [] 3 none)).get h.next = some (.cells [] 3 none) := by rw [bD, if_pos rfl]
 obtain ⟨ti, hti⟩ : ∃ ti, env.ty.get 3 = some ti := by
  cases e : env.ty.get 3 with
  | none => have := CB; rw [e] at this; cases this
  | some ti => exact ⟨ti, rfl⟩
 have hb3 : ti.info.bytes = 8 := by have := CB; rw [hti] at this; simpa using this
 obtain ⟨z, hz⟩ : ∃ z, jR env 3 = some z := by
  cases e : jR env 3 with
  | none => have := LJ; rw [e] at this; cases this
  | some z => exact ⟨z, rfl⟩
 have hzs : Nat.beq z.cells.size 1 = true := by have := LJ; rw [hz] at this; simpa using this
 have hsrc : qH (h.add (.cells [] 3 none)) n 1 (.slice (some ⟨b, 0, none⟩) n c) = some ((W.take n).map (Value.int .i64)) := by
  show eY _ ⟨b, 0, none⟩ (n * 1) = _
  unfold eY
  simp only [hg1, List.drop_zero, Nat.mul_one]
  rw [← List.map_take, List.length_map, List.length_take, Nat.min_eq_left hn.2, Nat.beq_refl]
  rfl
 have hre : kG (h.add (.cells [] 3 none)) h.next = some none := by unfold kG; rw [c1]
 have hold : eY (h.add (.cells [] 3 none)) ⟨h.next, 0, none⟩ (0 * 1) = some [] := iH c1 rfl
 have res : cB env (h.add (.cells [] 3 none)) #[22, 22] (List.toArray [.slice (some ⟨h.next, 0, none⟩) 0 0, .slice (some ⟨b, 0, none⟩) n c]) = some (.slice (some ⟨h.next + 1, 0, none⟩) n n, (h.add (.cells [] 3 none)).add (.cells ((W.take n).map (Value.int .i64)) 3 (some 1))) := by
  unfold cB
  rw [show (#[22, 22] : Array TypeId)[0]? = some 22 from rfl, show (#[22, 22] : Array TypeId)[1]? = some 22 from rfl, show (List.toArray [Value.slice (some ⟨h.next, 0, none⟩) 0 0, .slice (some ⟨b, 0, none⟩) n c])[0]? = some (.slice (some ⟨h.next, 0, none⟩) 0 0) from rfl, show (List.toArray [Value.slice (some ⟨h.next, 0, none⟩) 0 0, .slice (some ⟨b, 0, none⟩) n c])[1]? = some (.slice (some ⟨b, 0, none⟩) n c) from rfl]
  simp only [Option.bind_some, PW, LH, hti, hz, wH, hb3]
  rw [show (Nat.blt 0 1 && Nat.blt 0 8 && Nat.ble 8 65536 && Nat.beq z.cells.size 1) = true from by rw [hzs]; rfl]
  simp only [ok?, hre, Option.bind_some]
  rw [show Nat.ble ((0 + n) * 8) 1099511627776 = true from by rw [Nat.ble_eq]; omega, show Nat.ble (0 + n) 0 = false from by cases e : Nat.ble (0 + n) 0 with | false => rfl | true => rw [Nat.ble_eq] at e; omega]
  simp only [hold, hsrc, Option.bind_some, Nat.zero_add]
  rfl
 rw [res, aB]
 refine ⟨_, _, rfl, g1.trans (aV.add g1.wf _), .inr ⟨h.next + 1, ?_, by omega, by rw [bD, if_pos (show h.next + 1 = (h.add (.cells [] 3 none)).next from rfl)]⟩⟩
 rw [List.length_take, Nat.min_eq_left hn.2]
theorem aG8 {h : Hp} (w : Wf h) {s : Rm} (F : nI s) {lo : Nat} {lk : List Value} (V : GD lo h s lk) {W : List Int} (hW : W.length = 4) : ∃ h' v', F59 [.agg (Array.mk lk), .agg (Array.mk (W.map (Value.int .i64)))] h = some (v', h') ∧ aV h h' ∧ qZ h h' v' (W.take s.bW.length) := by
 have start : F59 [.agg (Array.mk lk), .agg (Array.mk (W.map (Value.int .i64)))] h = aLI (aN T59 999999) (.agg (Array.mk lk)) (.agg (Array.mk (W.map (Value.int .i64)))) h := rfl
 rw [start]
 unfold aLI
 rw [fF, fF, bT, bT]
 have g0 : aV h (h.add (.cells lk 71 none)) := aV.add w _
 have a0 : At (h.add (.cells lk 71 none)) (.pointer (some ⟨h.next, 0, none⟩)) lk := At.new
 generalize h.add (.cells lk 71 none) = h0 at g0 a0 ⊢
 have g1 : aV h (h0.add (.cells (W.map (Value.int .i64)) 87 none)) := g0.trans (aV.add g0.wf _)
 have a1 : At (h0.add (.cells (W.map (Value.int .i64)) 87 none)) (.pointer (some ⟨h.next, 0, none⟩)) lk := aE8 g0.wf a0 _
 have c1 : (h0.add (.cells (W.map (Value.int .i64)) 87 none)).get h0.next = some (.cells (W.map (Value.int .i64)) 87 none) := by rw [bD, if_pos rfl]
 generalize h0.next = b5 at c1 ⊢
 generalize h0.add (.cells (W.map (Value.int .i64)) 87 none) = h1 at g1 a1 c1 ⊢
 have V1 := V.sub g1.sub
 have V1c := V1
 obtain ⟨r, mb, hbm, hlr, A, M, hlo⟩ := V1c
 obtain ⟨q5, hq5, ZM⟩ := a1.part 0 4 (by rw [V1.len]; decide)
 replace ZM : At h1 q5 r := by rw [hlr] at ZM; rw [List.drop_zero, List.take_append_of_le_length (by rw [A.len]; omega), List.take_of_length_le (by rw [A.len]; omega)] at ZM; exact ZM
 obtain ⟨vc, vo, vf, vp, rfl, sc, so, sf, sp, af, aqq⟩ := A
 have no := F.no
 rw [hq5, ZM.wP 1 (x := vo) rfl, so.rows.len, List.length_map, TZ c1 (n := s.bW.length) (by omega) _ (.inr rfl), aM]
 obtain ⟨h2, v2, e2, g2, i2⟩ := aDA (h := dF h1) (fM g1.wf) (c := 4) c1 (n := s.bW.length) (by omega) (by omega)
 obtain ⟨h3, e3, g3, i3⟩ := PX g1.wf e2 g2 i2
 rw [e3, aB]
 exact ⟨h3, v2, rfl, g1.trans g3, i3.low g1.next⟩
end Go.Proofs.Ytdpicdnpiihaaaa.K.L
