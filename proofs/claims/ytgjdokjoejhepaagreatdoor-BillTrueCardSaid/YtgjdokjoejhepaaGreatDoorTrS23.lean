/- Contracts of told functions: the reference's True; what an entry says, both ways. -/
import Derived.Test.YtgjdokjoejhepaaGreatDoorTrS22
open Go Go.bP
set_option maxRecDepth 100000
set_option linter.unusedVariables false
namespace Go.Proofs.YtgjdokjoejhepaaGreatDoor.K.L
def V5 (s : Sh) (c : List En) : Bool × Int := if (fT s).2.2 ≠ 0 then (false, (fT s).2.2) else (Q8 s c, 0)
theorem aLE {h : Hp} (w : Wf h) {s : Sh} {r : List Value} (a : yX h s r) {v : Value} {c : List En} (hc : bP.Rows h 3 v (c.map En.row)) : ∃ h', F21 [.agg (Array.mk r), v] h = some (MH (V5 s c), h') := by
 have start : F21 [.agg (Array.mk r), v] h = aIL (aP T21 999999) (.agg (Array.mk r)) v h := rfl
 rw [start]
 unfold aIL V5
 have hr3 := a.len
 rw [fQ, bL]
 have g0 : bE h (h.add (.cells r 25 none)) := bE.add w _
 have a0 : At (h.add (.cells r 25 none)) (.pointer (some ⟨h.next, 0, none⟩)) r := At.new
 generalize h.add (.cells r 25 none) = h0 at g0 a0 ⊢
 have sh := a.sub g0.sub
 obtain ⟨h2, e2⟩ := FP (h := bK h0) (fZ g0.wf) sh
 rw [a0.fF (z := 3) hr3, bD e2 rfl, aD]
 unfold SN
 rw [eP (v := .int .i64 (fT s).1) rfl, aK, eP (v := .int .i64 (fT s).2.1) rfl, aK, eP (v := .int .i64 (fT s).2.2) rfl, aK, aX, dJ, aI]
 by_cases e0 : (fT s).2.2 = 0
 case neg =>
  rw [if_pos (by simpa using e0), if_pos e0]
  exact ⟨_, rfl⟩
 have F := BV e0
 rw [if_neg (by simpa using e0), if_neg (by simpa using e0), a0.fF (z := 3) hr3]
 obtain ⟨h5, e5⟩ := aFI (h := bK h0) (fZ g0.wf) sh F (hc.sub g0.sub)
 rw [bD e5 rfl, aD, aO]
 exact ⟨_, rfl⟩
end Go.Proofs.YtgjdokjoejhepaaGreatDoor.K.L
