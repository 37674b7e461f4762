/- Contracts of told functions: openPerson, costs, Cost. -/
import Derived.Test.YtdpicdnpiihaaaaAsS9
open Go Go.bG
set_option maxRecDepth 100000
set_option linter.unusedVariables false
namespace Go.Proofs.Ytdpicdnpiihaaaa.K.L
theorem OO (h : Hp) {n g : Int} (hn : 0 ≤ n ∧ n ≤ 9000000000000000000) : F53 [.int .i64 n, .slice (some ⟨h.next, 0, none⟩) 1 1] (h.add (.cells [.int .i64 g] 3 none)) = some (.bool (pK 0 (n - 1) g)) := by
 have step : F53 [.int .i64 n, .slice (some ⟨h.next, 0, none⟩) 1 1] (h.add (.cells [.int .i64 g] 3 none)) = plainO (aJC (h.add (.cells [.int .i64 g] 3 none)) (G.aK (T53 (h.add (.cells [.int .i64 g] 3 none))) 999999) n (.slice (some ⟨h.next, 0, none⟩) 1 1)) := rfl
 rw [step]
 unfold aJC
 rw [show Int.sub n (Int.ofNat 1) = n - 1 from rfl, wrap64_in _ (by omega) (by omega), show (Int.ofNat 0) = (0 : Int) from rfl, LV, aJ, aU]
 rfl
theorem Z6 {lo : Nat} {h h' : Hp} (e : h'.aD = h.aD) {s : Rm} {l : List Value} (a : E9 lo h s l) : E9 lo h' s l := a.sub fun i o x => by show h'.aD.get i = some o; rw [e]; exact x
theorem E9.loud {lo : Nat} {h : Hp} {s : Rm} {l : List Value} (a : E9 lo h s l) (e : Int) : kW (.tuple (List.toArray [.agg (Array.mk l), .int .i64 e])) = false := by
 obtain ⟨r, mb, hb, rfl, A, _⟩ := a
 obtain ⟨vc, vo, vf, vp, rfl, h1, h2, h3, h4, _⟩ := A
 rw [o7]
 show List.all [.agg (Array.mk (eZ vc vo vf vp ++ [.map (some mb)])), .int .i64 e] (fM 5) = false
 show (List.all (eZ vc vo vf vp ++ [.map (some mb)]) (fM 4) && _) = false
 rw [List.all_append, show List.all [Value.map (some mb)] (fM 4) = false from rfl, Bool.and_false, Bool.false_and]
def JJ (s : Rm) (p : Int) : Int := if (gI s).2.2 ≠ 0 then (gI s).2.2 else if !(pK 0 ((s.bN.length : Int) - 1) p) then 4 else 0
theorem aFO {h : Hp} (w : Wf h) {s : Rm} {r : List Value} (a : D7 h s r) (p : Int) : ∃ h' lk, F52 [.agg (Array.mk r), .int .i64 p] h = some (.tuple (List.toArray [.agg (Array.mk lk), .int .i64 (JJ s p)]), h') ∧ aS h h' ∧ lk.length = 5 ∧ lk.all oneCell = true ∧ (JJ s p = 0 → E9 h.next h' s lk ∧ lk.take 4 = r) := by
 have start : F52 [.agg (Array.mk r), .int .i64 p] h = aJE (aK T52 999999) (.agg (Array.mk r)) p h := rfl
 rw [start]
 unfold aJE
 have hr4 := a.len
 rw [fA, bK, bK]
 have g0 : aS h (h.add (.cells r 25 none)) := aS.add w _
 have a0 : At (h.add (.cells r 25 none)) (.pointer (some ⟨h.next, 0, none⟩)) r := At.new
 generalize h.add (.cells r 25 none) = h0 at g0 a0 ⊢
 have g1 : aS h (h0.add (.cells zeroV 71 none)) := g0.trans (aS.add g0.wf _)
 have a1 : At (h0.add (.cells zeroV 71 none)) (.pointer (some ⟨h.next, 0, none⟩)) r := aDQ g0.wf a0 _
 have c1 : (h0.add (.cells zeroV 71 none)).get h0.next = some (.cells zeroV 71 none) := by rw [bO, if_pos rfl]
 rw [show [(Value.slice none 0 0), (Value.slice none 0 0), (Value.slice none 0 0), (Value.slice none 0 0), (Value.map none)] = zeroV from rfl]
 have n0 := g0.next
 generalize h0.next = b1 at c1 n0 ⊢
 generalize h0.add (.cells zeroV 71 none) = h1 at g1 a1 c1 ⊢
 obtain ⟨h2', lk, e2, gg, hl5, h1c, hlk⟩ := SE (h := dI h1) (gJ g1.wf) (a.sub g1.sub)
 obtain ⟨h2, e3, g2, o2⟩ := qM g1.wf e2 gg
 rw [a1.eU (z := 4) hr4, e3, aB, bM (v := .agg (Array.mk lk)) rfl, bM (v := .int .i64 (gI s).2.2) rfl, aH, bK]
 have g3 : aS h (h2.add (.cells zeroV 71 none)) := (g1.trans g2).trans (aS.add g2.wf _)
 have g3' : aS h1 (h2.add (.cells zeroV 71 none)) := g2.trans (aS.add g2.wf _)
 have c3 : (h2.add (.cells zeroV 71 none)).get h2.next = some (.cells zeroV 71 none) := by rw [bO, if_pos rfl]
 have hb2 := (g1.trans g2).next
 have lt1 := g2.wf.2 _ _ (g2.sub _ _ c1)
 obtain ⟨h4, g4, a4, k4, o4⟩ := qN (z := 5) (l := lk) g2.wf (aS.add g2.wf (.cells zeroV 71 none)) (b := h2.next) (Nat.le_refl _) c3 rfl hl5 h1c
 have g4h : aS h h4 := (g1.trans g2).trans g4
 rw [k4, aQ, bT, aG]
 have c4 : h4.get b1 = some (.cells zeroV 71 none) := g4.sub _ _ (g2.sub _ _ c1)
 unfold JJ
 have fail : ∀ (h5 : Hp), aS h4 h5 → ∃ h6, (∀ e : Int, (bP (jF env 71 (List.toArray [])) fun v10 => dZ 5 h5 (.pointer (some ⟨b1, 0, none⟩)) v10 fun h11 => aX 5 h11 (.pointer (some ⟨b1, 0, none⟩)) fun v12 => some (Value.tuple (List.toArray [v12, (Value.int .i64 e)]), h11)) = some (.tuple (List.toArray [.agg (Array.mk zeroV), .int .i64 e]), h6)) ∧ aS h h6 := by
  intro h5 g5
  obtain ⟨h6, g6, a6, k6, _⟩ := qN (z := 5) (l := zeroV) w (g4h.trans g5) (b := b1) n0 (g5.sub _ _ c4) rfl rfl rfl
  exact ⟨h6, fun e => by rw [aMB, aJ, k6, a6.eU (z := 5) rfl], g6⟩
 by_cases e0 : (gI s).2.2 = 0
 case neg =>
  obtain ⟨h6, k6, g6⟩ := fail h4 (aS.refl g4.wf)
  rw [if_pos (by simpa using e0), if_pos e0, k6]
  exact ⟨h6, zeroV, rfl, g6, rfl, rfl, fun e => absurd e e0⟩
 have F := yL e0
 have np := F.np
 obtain ⟨V2, T2⟩ := hlk e0
 have V4 : E9 h1.next h4 s lk := (Z6 (o2 (V2.loud _)) V2).sub g4.sub
 obtain ⟨r', mb, hb, hlr, A, M, hlo⟩ := V4
 have hr' : r' = r := by
  rw [hlr, List.take_append_of_le_length (by rw [A.len]; omega), List.take_of_length_le (by rw [A.len]; omega)] at T2
  exact T2
 subst hr'
 obtain ⟨q4, hq4, aq4⟩ := a4.part 0 4 (by rw [hl5]; decide)
 replace aq4 : At h4 q4 r' := by rw [hlr] at aq4; rw [List.drop_zero, List.take_append_of_le_length (by rw [A.len]; omega), List.take_of_length_le (by rw [A.len]; omega)] at aq4; exact aq4
 obtain ⟨vc, vo, vf, vp, rfl, sc, so, sf, sp, af, ap⟩ := A
 rw [if_neg (by simpa using e0), if_neg (by simpa using e0), hq4, aq4.qL 3 (x := vp) rfl, sp.rows.len, List.length_map, VF, aB, OO _ (by omega), aJ, aB, aU, aQ, aG]
 have g5 := aS.add g4.wf (.cells [.int .i64 p] 3 none)
 have a5 := a4.sub g5.sub
 generalize h4.add (.cells [.int .i64 p] 3 none) = h5 at g5 a5 ⊢
 cases c : pK 0 ((s.bN.length : Int) - 1) p with
 | false =>
  obtain ⟨h6, k6, g6⟩ := fail h5 g5
  rw [if_pos (by rfl), if_pos (by rfl), show (Int.ofNat 4) = (4 : Int) from rfl, k6]
  exact ⟨h6, zeroV, rfl, g6, rfl, rfl, fun e => absurd e (by decide)⟩
 | true =>
  rw [if_neg (by simp), if_neg (by simp), a5.eU (z := 5) hl5]
  obtain ⟨h6, g6, a6, k6, o6⟩ := qN (z := 5) (l := lk) w (g4h.trans g5) (b := b1) n0 (g5.sub _ _ c4) rfl hl5 h1c
  rw [k6, a6.eU (z := 5) hl5]
  have A6 : D7 h s (eZ vc vo vf vp) := a
  refine ⟨h6, lk, rfl, g6, hl5, h1c, fun _ => ⟨?_, T2⟩⟩
  have bOD := g1.wf.2 _ _ c1
  refine ⟨_, mb, hb, hlr, A6.sub g6.sub, PX.but o6 ?_ (by omega) (M.sub g5.sub), by have := g1.next; omega⟩
  intro e
  obtain ⟨es, m1, _⟩ := M
  rw [e, c4] at m1; cases m1
end Go.Proofs.Ytdpicdnpiihaaaa.K.L
