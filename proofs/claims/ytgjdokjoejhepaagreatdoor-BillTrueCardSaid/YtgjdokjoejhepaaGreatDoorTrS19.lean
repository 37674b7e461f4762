/- Contracts of told functions: what an entry can say, and whether it holds (the reference). -/
import Derived.Test.YtgjdokjoejhepaaGreatDoorTrS18
open Go Go.bP
set_option maxRecDepth 100000
set_option linter.unusedVariables false
namespace Go.Proofs.YtgjdokjoejhepaaGreatDoor.K.L
theorem IY (h : Hp) {c : Int} {vf vt : Value} {ts : List Int} (l : List Int) (n : Nat) (hn : l.length = n) (st : bP.Rows (h.add (.cells (l.map (Value.int .i64)) 3 none)) 1 vt (ts.map dH)) (hts : ts.length ≤ 900000) (h0 : ∀ t ∈ ts, 0 ≤ t) (hlen : n ≤ 900000) (hl : ∀ x ∈ l, 0 ≤ x ∧ x ≤ 60) :
  VC [.agg (Array.mk [.int .i64 c, vf, vt]), .slice (some ⟨h.next, 0, none⟩) n n] (h.add (.cells (l.map (Value.int .i64)) 3 none)) = some (.bool (kH ts l)) := aCA st hts h0 (IZ h l n hn) (by omega) hl
theorem aCB (h : Hp) {c : Int} {vf vt : Value} {ts : List Int} (l : List Int) (n : Nat) (hn : l.length = n) (st : bP.Rows (h.add (.cells (l.map (Value.int .i64)) 3 none)) 1 vt (ts.map dH)) (hts : ts.length ≤ 900000) (h0 : ∀ t ∈ ts, 0 ≤ t) (hlen : n ≤ 900000) (hl : ∀ x ∈ l, 0 ≤ x ∧ x ≤ 60) :
  F52 [.agg (Array.mk [.int .i64 c, vf, vt]), .slice (some ⟨h.next, 0, none⟩) n n] (h.add (.cells (l.map (Value.int .i64)) 3 none)) = some (.bool (nC ts l)) := aLB st hts h0 (IZ h l n hn) (by omega) hl
def KS (s : Sh) (x y : Nat) : Bool := decide (x ≠ y) && (decide (KU s x = KU s y) && (!(kH s.ts [(x : Int)]) && (!(kH s.ts [(y : Int)]) && kH s.ts [(x : Int), (y : Int)])))
theorem aCC {h : Hp} (w : Wf h) {s : Sh} {r : List Value} (a : yX h s r) (f : mZ s) (x y : Nat) (hx : x < s.aU.length) (hy : y < s.aU.length) : ∃ h', aQA [.agg (Array.mk r), .int .i64 (x : Int), .int .i64 (y : Int)] h = some (.bool (KS s x y), h') := by
 have start : aQA [.agg (Array.mk r), .int .i64 (x : Int), .int .i64 (y : Int)] h = YT (aP aP9 999999) (.agg (Array.mk r)) (x : Int) (y : Int) h := rfl
 rw [start]
 unfold YT KS
 have f6 := f.aU
 have t6 := f.six
 have t0 : ∀ t ∈ s.ts, 0 ≤ t := fun t ht => (f.small t ht).1
 have hr3 := a.len
 rw [fQ, bL]
 have g0 : bE h (h.add (.cells r 25 none)) := bE.add w _
 have a0 : At (h.add (.cells r 25 none)) (.pointer (some ⟨h.next, 0, none⟩)) r := At.new
 generalize h.add (.cells r 25 none) = h0 at g0 a0 ⊢
 have sh := a.sub g0.sub
 generalize Value.pointer (some ⟨h.next, 0, none⟩) = p at a0 ⊢
 obtain ⟨vf, vt, hrow, sf, st⟩ := id sh
 rw [aX, dJ, aI]
 by_cases c1 : x = y
 case pos =>
  rw [if_neg (by simp [c1])]
  simp only [bS]
  exact ⟨_, by simp [c1]; rfl⟩
 have aS := oH a0
 obtain ⟨q0, hq0, aq0⟩ := aS.part 0 3 (by rw [hr3]; decide)
 have aq : At (bK h0) p (eT s.lines vf vt) := by rw [← hrow]; exact aS
 have hgx : (s.aU.map Fg.row)[x]? = some (s.aU[x]).row := by rw [List.getElem?_map, List.getElem?_eq_getElem hx]; rfl
 have hgy : (s.aU.map Fg.row)[y]? = some (s.aU[y]).row := by rw [List.getElem?_map, List.getElem?_eq_getElem hy]; rfl
 obtain ⟨qx, hqx, ax, _⟩ := sf.rows.at hgx
 obtain ⟨qy, hqy, ay, _⟩ := sf.rows.at hgy
 rw [if_pos (by simp; omega), aq.lK 1 (x := vf) rfl, hqx, (oH ax).lK 2 (x := .int .i64 (s.aU[x]).room) rfl, aK, aq.lK 1 (x := vf) rfl, hqy, (oH ay).lK 2 (x := .int .i64 (s.aU[y]).room) rfl, aK, aN, dJ, aI, NN hx, NN hy]
 by_cases c2 : (s.aU[x]).room = (s.aU[y]).room
 case neg =>
  rw [if_neg (by simpa using c2)]
  simp only [bS]
  exact ⟨_, by simp [c2]; rfl⟩
 have st1 := (st.sub (bE.add g0.wf (.cells [.int .i64 (x : Int)] 3 none)).sub).rows
 have e1 : VC [.agg (Array.mk (eT s.lines vf vt)), .slice (some ⟨Hp.next h0, 0, none⟩) 1 1] (Hp.mk (Hp.next h0 + 1) (Hp.next h0 + 1) (aF [(Hp.next h0, aW.cells [.int .i64 (x : Int)] 3 none)] (Hp.aJ h0))) = some (.bool (kH s.ts [(x : Int)])) := IY ⟨h0.next, h0.next + 1, h0.aJ⟩ [(x : Int)] 1 rfl st1 (by omega) t0 (by omega) (by simp; omega)
 have w1 := g0.wf.add (.cells [.int .i64 (x : Int)] 3 none)
 have b1 := a0.sub (bE.add g0.wf (.cells [.int .i64 (x : Int)] 3 none)).sub
 rw [if_pos (by simpa using c2), aS.fF (z := 3) hr3, vT, aD, rD, hrow,
  show VC [.agg (Array.mk (eT s.lines vf vt)), .slice (some ⟨(Hp.mk (Hp.next h0) (Hp.next h0) T.nil).next, 0, none⟩) 1 1] (Hp.mk (Hp.next h0 + 1) (Hp.next h0 + 1) (aF [(Hp.next h0, aW.cells [.int .i64 (x : Int)] 3 none)] (Hp.aJ h0))) = _ from e1, aM, aD, aO, aX, aI]
 cases c3 : kH s.ts [(x : Int)] with
 | true =>
  rw [if_neg (by simp)]
  simp only [bS]
  exact ⟨_, by simp; rfl⟩
 | false =>
 have st2 := ((st.sub (bE.add g0.wf (.cells [.int .i64 (x : Int)] 3 none)).sub).sub (bE.add w1 (.cells [.int .i64 (y : Int)] 3 none)).sub).rows
 have e3 : VC [.agg (Array.mk (eT s.lines vf vt)), .slice (some ⟨Hp.next h0 + 1, 0, none⟩) 1 1] (Hp.mk (Hp.next h0 + 1 + 1) (Hp.next h0 + 1 + 1) (aF [(Hp.next h0 + 1, aW.cells [.int .i64 (y : Int)] 3 none)] (aF [(Hp.next h0, aW.cells [.int .i64 (x : Int)] 3 none)] (Hp.aJ h0)))) = some (.bool (kH s.ts [(y : Int)])) := IY ⟨h0.next + 1, h0.next + 1 + 1, aF [(Hp.next h0, aW.cells [.int .i64 (x : Int)] 3 none)] (Hp.aJ h0)⟩ [(y : Int)] 1 rfl st2 (by omega) t0 (by omega) (by simp; omega)
 have w2 := w1.add (.cells [.int .i64 (y : Int)] 3 none)
 have b2 := b1.sub (bE.add w1 (.cells [.int .i64 (y : Int)] 3 none)).sub
 have l1 : ∀ (ρ : Type) (k : Value → Option ρ), bQ 3 (Hp.mk (Hp.next h0 + 1) (Hp.next h0 + 1) (aF [(Hp.next h0, aW.cells [.int .i64 (x : Int)] 3 none)] (Hp.aJ h0))) p k = k (.agg (Array.mk (eT s.lines vf vt))) := fun ρ k => by rw [← hrow]; exact (oH b1).fF (z := 3) hr3 k
 rw [if_pos (by rfl), l1, vT, aD, rD,
  show VC [.agg (Array.mk (eT s.lines vf vt)), .slice (some ⟨(Hp.mk (Hp.next h0 + 1) (Hp.next h0 + 1) T.nil).next, 0, none⟩) 1 1] (Hp.mk (Hp.next h0 + 1 + 1) (Hp.next h0 + 1 + 1) (aF [(Hp.next h0 + 1, aW.cells [.int .i64 (y : Int)] 3 none)] (aF [(Hp.next h0, aW.cells [.int .i64 (x : Int)] 3 none)] (Hp.aJ h0)))) = _ from e3, aM, aD, aO, aX, aI]
 cases c4 : kH s.ts [(y : Int)] with
 | true =>
  rw [if_neg (by simp)]
  simp only [bS]
  exact ⟨_, by simp; rfl⟩
 | false =>
 have st3 := (((st.sub (bE.add g0.wf (.cells [.int .i64 (x : Int)] 3 none)).sub).sub (bE.add w1 (.cells [.int .i64 (y : Int)] 3 none)).sub).sub (bE.add w2 (.cells [.int .i64 (x : Int), .int .i64 (y : Int)] 3 none)).sub).rows
 have e5 : VC [.agg (Array.mk (eT s.lines vf vt)), .slice (some ⟨Hp.next h0 + 1 + 1, 0, none⟩) 2 2] (Hp.mk (Hp.next h0 + 1 + 1 + 1) (Hp.ro h0) (aF [(Hp.next h0 + 1 + 1, aW.cells [.int .i64 (x : Int), .int .i64 (y : Int)] 3 none)] (aF [(Hp.next h0 + 1, aW.cells [.int .i64 (y : Int)] 3 none)] (aF [(Hp.next h0, aW.cells [.int .i64 (x : Int)] 3 none)] (Hp.aJ h0))))) = some (.bool (kH s.ts [(x : Int), (y : Int)])) := IY ⟨h0.next + 1 + 1, h0.ro, aF [(Hp.next h0 + 1, aW.cells [.int .i64 (y : Int)] 3 none)] (aF [(Hp.next h0, aW.cells [.int .i64 (x : Int)] 3 none)] (Hp.aJ h0))⟩ [(x : Int), (y : Int)] 2 rfl st3 (by omega) t0 (by omega) (by simp; omega)
 have l2 : ∀ (ρ : Type) (k : Value → Option ρ), bQ 3 (Hp.mk (Hp.next h0 + 1 + 1) (Hp.next h0 + 1 + 1) (aF [(Hp.next h0 + 1, aW.cells [.int .i64 (y : Int)] 3 none)] (aF [(Hp.next h0, aW.cells [.int .i64 (x : Int)] 3 none)] (Hp.aJ h0)))) p k = k (.agg (Array.mk (eT s.lines vf vt))) := fun ρ k => by rw [← hrow]; exact (oH b2).fF (z := 3) hr3 k
 rw [if_pos (by rfl), l2, a1N, aD, rD,
  show VC [.agg (Array.mk (eT s.lines vf vt)), .slice (some ⟨(Hp.mk (Hp.next h0 + 1 + 1) (Hp.next h0 + 1 + 1) T.nil).next, 0, none⟩) 2 2] (Hp.mk (Hp.next h0 + 1 + 1 + 1) (Hp.ro h0) (aF [(Hp.next h0 + 1 + 1, aW.cells [.int .i64 (x : Int), .int .i64 (y : Int)] 3 none)] (aF [(Hp.next h0 + 1, aW.cells [.int .i64 (y : Int)] 3 none)] (aF [(Hp.next h0, aW.cells [.int .i64 (x : Int)] 3 none)] (Hp.aJ h0))))) = _ from e5, aM, aD, aO]
 exact ⟨_, by simp [c1, c2]; rfl⟩
end Go.Proofs.YtgjdokjoejhepaaGreatDoor.K.L
