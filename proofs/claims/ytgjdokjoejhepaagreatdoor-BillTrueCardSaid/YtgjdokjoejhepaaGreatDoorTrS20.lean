/- Contracts of told functions: whether an entry holds (the reference). -/
import Derived.Test.YtgjdokjoejhepaaGreatDoorTrS19
open Go Go.bP
set_option maxRecDepth 100000
set_option linter.unusedVariables false
namespace Go.Proofs.YtgjdokjoejhepaaGreatDoor.K.L
def aQ1 (s : Sh) (e : En) : Bool := if e.says = 0 then (decide (e.b = 0) && kH s.ts [e.a]) else if e.says = 1 then (decide (e.a < e.b) && KS s e.a.toNat e.b.toNat) else if e.says = 2 then (decide (e.b = 0) && (!(kH s.ts [e.a]) && nC s.ts [e.a])) else false
def Q5 (s : Sh) (e : En) : Bool := oZ 0 (s.aU.length - 1) e.a && (oZ 0 (s.aU.length - 1) e.b && aQ1 s e)
theorem aLD {h : Hp} (w : Wf h) {s : Sh} {r : List Value} (a : yX h s r) (f : mZ s) (e : En) {p q : Value} (ap : At h p r) (aq : At h q e.row) (a0 : 0 ≤ e.a) (a1 : e.a < s.aU.length) (b0 : 0 ≤ e.b) (b1 : e.b < s.aU.length) (S : Sg) : ∃ h', YU S p q h = some (.bool (aQ1 s e), h') := by
 unfold YU aQ1
 have f6 := f.aU
 have t6 := f.six
 have t0 : ∀ t ∈ s.ts, 0 ≤ t := fun t ht => (f.small t ht).1
 have hr3 := a.len
 obtain ⟨vf, vt, hrow, sf, st⟩ := id a
 have stA : ∀ {h' : Hp}, Wf h' → bE h h' → ∀ o, bP.Rows (h'.add o) 1 vt (s.ts.map dH) := fun w' g' o => ((st.sub g'.sub).sub (bE.add w' o).sub).rows
 rw [aq.lK 0 (x := .int .i64 e.says) rfl, aK, aN, dJ, aI]
 by_cases c0 : e.says = 0
 ·rw [if_pos (by simpa using c0), if_pos c0, aq.lK 2 (x := .int .i64 e.b) rfl, aK, aN, dJ, aI]
  by_cases d0 : e.b = 0
  ·rw [if_pos (by simpa using d0), decide_eq_true d0, Bool.true_and, ap.fF (z := 3) hr3, aq.lK 1 (x := .int .i64 e.a) rfl, aK, vT, aD, hrow]
   have e1 := IY (c := s.lines) (vf := vf) (vt := vt) (ts := s.ts) h [e.a] 1 rfl (stA w (bE.refl w) _) (by omega) t0 (by omega) (by simp; omega)
   rw [show VC [.agg (Array.mk (eT s.lines vf vt)), .slice (some ⟨h.next, 0, none⟩) 1 1] (h.add (.cells [.int .i64 e.a] 3 none)) = _ from e1, aM, aD, aO]
   exact ⟨_, rfl⟩
  ·rw [if_neg (by simpa using d0), decide_eq_false d0, Bool.false_and]
   exact ⟨_, rfl⟩
 rw [if_neg (by simpa using c0), if_neg c0, aN, dJ, aI]
 by_cases c1 : e.says = 1
 ·rw [if_pos (by simpa using c1), if_pos c1, aq.lK 1 (x := .int .i64 e.a) rfl, aK, aq.lK 2 (x := .int .i64 e.b) rfl, aK, aN, bA, aI]
  by_cases d0 : e.a < e.b
  ·have hs := aCC (h := bK h) (fZ w) a f e.a.toNat e.b.toNat (by omega) (by omega)
   rw [Int.toNat_of_nonneg a0, Int.toNat_of_nonneg b0] at hs
   obtain ⟨h', hs⟩ := hs
   rw [if_pos (by simpa using d0), decide_eq_true d0, Bool.true_and, ap.fF (z := 3) hr3, aq.lK 1 (x := .int .i64 e.a) rfl, aK, aq.lK 2 (x := .int .i64 e.b) rfl, aK, bD hs rfl, aD, aO]
   exact ⟨_, rfl⟩
  ·rw [if_neg (by simpa using d0), decide_eq_false d0, Bool.false_and]
   exact ⟨_, rfl⟩
 rw [if_neg (by simpa using c1), if_neg c1, aN, dJ, aI]
 by_cases c2 : e.says = 2
 case neg =>
  rw [if_neg (by simpa using c2), if_neg c2]
  exact ⟨_, rfl⟩
 rw [if_pos (by simpa using c2), if_pos c2, aq.lK 2 (x := .int .i64 e.b) rfl, aK, aN, dJ, aI]
 by_cases d0 : e.b = 0
 case neg =>
  rw [if_neg (by simpa using d0), decide_eq_false d0, Bool.false_and]
  exact ⟨_, rfl⟩
 have e1 := IY (c := s.lines) (vf := vf) (vt := vt) (ts := s.ts) h [e.a] 1 rfl (stA w (bE.refl w) _) (by omega) t0 (by omega) (by simp; omega)
 have g1 := bE.add w (.cells [.int .i64 e.a] 3 none)
 have e2 := aCB (c := s.lines) (vf := vf) (vt := vt) (ts := s.ts) (h.add (.cells [.int .i64 e.a] 3 none)) [e.a] 1 rfl (stA g1.wf g1 _) (by omega) t0 (by omega) (by simp; omega)
 rw [if_pos (by simpa using d0), decide_eq_true d0, Bool.true_and, ap.fF (z := 3) hr3, aq.lK 1 (x := .int .i64 e.a) rfl, aK, vT, aD]
 have ap1 := ap.sub g1.sub
 have aq1 := aq.sub g1.sub
 rw [hrow] at ap1
 rw [hrow, show VC [.agg (Array.mk (eT s.lines vf vt)), .slice (some ⟨h.next, 0, none⟩) 1 1] (h.add (.cells [.int .i64 e.a] 3 none)) = _ from e1, aM, aD, aO, aX, aI]
 cases c3 : kH s.ts [e.a] with
 | true =>
  rw [if_neg (by simp)]
  exact ⟨_, rfl⟩
 | false =>
  rw [if_pos (by rfl), ap1.fF (z := 3) rfl, aq1.lK 1 (x := .int .i64 e.a) rfl, aK, vT, aD,
   show F52 [.agg (Array.mk (eT s.lines vf vt)), .slice (some ⟨(h.add (.cells [.int .i64 e.a] 3 none)).next, 0, none⟩) 1 1] ((h.add (.cells [.int .i64 e.a] 3 none)).add (.cells [.int .i64 e.a] 3 none)) = _ from e2, aM, aD, aO]
  exact ⟨_, rfl⟩
theorem aCE {h : Hp} (w : Wf h) {s : Sh} {r : List Value} (a : yX h s r) (f : mZ s) (e : En) : ∃ h', aQC [.agg (Array.mk r), .agg (Array.mk e.row)] h = some (.bool (Q5 s e), h') := by
 have start : aQC [.agg (Array.mk r), .agg (Array.mk e.row)] h = YV (aP aK3 999999) (.agg (Array.mk r)) (.agg (Array.mk e.row)) h := rfl
 rw [start]
 unfold YV Q5
 have f6 := f.aU
 rw [fQ, fQ, bL, bL]
 have g0 : bE h (h.add (.cells r 25 none)) := bE.add w _
 have a0 : At (h.add (.cells r 25 none)) (.pointer (some ⟨h.next, 0, none⟩)) r := At.new
 generalize h.add (.cells r 25 none) = h0 at g0 a0 ⊢
 have g1' := bE.add g0.wf (.cells e.row 57 none)
 have g1 := g0.trans g1'
 have a1 := a0.sub g1'.sub
 have b1 : At (h0.add (.cells e.row 57 none)) (.pointer (some ⟨h0.next, 0, none⟩)) e.row := At.new
 generalize h0.add (.cells e.row 57 none) = h1 at g1 a1 b1 ⊢
 have sh := a.sub g1.sub
 generalize Value.pointer (some ⟨h.next, 0, none⟩) = p at a1 ⊢
 generalize Value.pointer (some ⟨h0.next, 0, none⟩) = q at b1 ⊢
 obtain ⟨vf, vt, hrow, sf, st⟩ := id sh
 rw [a1.lK 1 (x := vf) (by rw [hrow]; rfl), sf.rows.len, List.length_map, show Int.sub (s.aU.length : Int) (Int.ofNat 1) = (s.aU.length : Int) - 1 from rfl, wrap64_in _ (by omega) (by omega), b1.lK 1 (x := .int .i64 e.a) rfl, aK, vF, aM, aD, aO, aX, aI, show (Int.ofNat 0) = (0 : Int) from rfl]
 cases ha : oZ 0 ((s.aU.length : Int) - 1) e.a with
 | false => rw [if_pos (by rfl)]; exact ⟨_, rfl⟩
 | true =>
  rw [if_neg (by simp), b1.lK 2 (x := .int .i64 e.b) rfl, aK, vF, aM, aD, aO, aX, aI]
  cases hb : oZ 0 ((s.aU.length : Int) - 1) e.b with
  | false => rw [if_pos (by rfl)]; exact ⟨_, rfl⟩
  | true =>
   obtain ⟨x1, x2⟩ := jH.1 ha
   obtain ⟨y1, y2⟩ := jH.1 hb
   rw [if_neg (by simp), Bool.true_and, Bool.true_and]
   exact aLD g1.wf sh f e a1 b1 x1 (by omega) y1 (by omega) (aP aK3 999998)
end Go.Proofs.YtgjdokjoejhepaaGreatDoor.K.L
