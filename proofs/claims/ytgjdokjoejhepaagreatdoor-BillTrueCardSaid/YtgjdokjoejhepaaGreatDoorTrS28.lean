/- The law: Check, Surely and True are the reference's. -/
import Derived.Test.YtgjdokjoejhepaaGreatDoorTrS27
open Go Go.bP
set_option maxRecDepth 100000
set_option linter.unusedVariables false
namespace Go.Proofs.YtgjdokjoejhepaaGreatDoor.K.L
theorem bMI (xo yo : Operand) (a b : Bool) : nG env .eql 4 xo yo (.bool a) (.bool b) = some (.bool (a == b)) := by
 cases a <;> cases b <;> rfl
theorem bMJ (xo yo : Operand) (a b : Bool) : nG env .neq 4 xo yo (.bool a) (.bool b) = some (.bool (a != b)) := by
 cases a <;> cases b <;> rfl
theorem bB7 (m : Nat) (n : Int) (v p : Value) (h : Hp) : aP T3 (m + 1) 2 (AL.i n (AL.v v (AL.v p AL.n))) h = aTO (aP T3 m) n v p h := rfl
theorem bB8 (m : Nat) (v p : Value) (h : Hp) : aP T3 (m + 1) 1 (AL.v v (AL.v p AL.n)) h = aTN (aP T3 m) v p h := rfl
theorem aLI {s : Sh} (c : List En) : EE s c = V5 s c := by
 by_cases h : (fT s).2.2 = 0
 ·exact true_eq (BV h) c h
 ·unfold EE V5; rw [if_pos h, if_pos h]
theorem aUM {h : Hp} (w : Wf h) {s : Sh} {r : List Value} (a : yX h s r) (n : Int) {v : Value} {c : List En} (hc : bP.Rows h 3 v (c.map En.row)) : ∃ h', F3 [.agg (Array.mk r), .int .i64 n, v] h = some (.bool true, h') := by
 have start : F3 [.agg (Array.mk r), .int .i64 n, v] h = aTP (aP T3 999999) (.agg (Array.mk r)) n v h := rfl
 rw [start]
 unfold aTP
 have hr3 := a.len
 rw [fQ, bL]
 have g0 : bE h (h.add (.cells r 25 none)) := bE.add w _
 have a0 : At (h.add (.cells r 25 none)) (.pointer (some ⟨h.next, 0, none⟩)) r := At.new
 generalize h.add (.cells r 25 none) = h0 at g0 a0 ⊢
 generalize Value.pointer (some ⟨h.next, 0, none⟩) = p at a0 ⊢
 have sh := a.sub g0.sub
 have hc0 := hc.sub g0.sub
 have ws := fZ g0.wf
 obtain ⟨k1, e1⟩ := RB (h := bK h0) ws sh
 obtain ⟨k2, e2⟩ := FP (h := bK h0) ws sh
 obtain ⟨k3, e3⟩ := aCM (h := bK h0) ws sh n
 obtain ⟨k4, e4⟩ := aCL (h := bK h0) ws sh n
 obtain ⟨k5, e5⟩ := aLA (h := bK h0) ws sh hc0
 obtain ⟨k6, e6⟩ := aLE (h := bK h0) ws sh hc0
 rw [← aLI] at e6
 have L : ∀ (ρ : Type) (k : Value → Option ρ), bQ 3 h0 p k = k (.agg (Array.mk r)) := fun ρ k => a0.fF (z := 3) hr3 k
 rw [L, bD e1 rfl, aD]
 unfold SN
 rw [eP (v := .int .i64 (fT s).1) rfl, aK, eP (v := .int .i64 (fT s).2.1) rfl, aK, eP (v := .int .i64 (fT s).2.2) rfl, aK, L, bD e2 rfl, aD]
 unfold SN
 rw [eP (v := .int .i64 (fT s).1) rfl, aK, eP (v := .int .i64 (fT s).2.1) rfl, aK, eP (v := .int .i64 (fT s).2.2) rfl, aK,
  aX, dJ, aI, if_neg (by simp), aX, dJ, aI, if_neg (by simp), aX, dJ, aI, if_neg (by simp), bB7]
 unfold aTO
 rw [L, bD e3 rfl, aD]
 unfold MH
 rw [eP (v := .bool (ML s n).1) rfl, aO, eP (v := .int .i64 (ML s n).2) rfl, aK, L, bD e4 rfl, aD]
 unfold MH
 rw [eP (v := .bool (ML s n).1) rfl, aO, eP (v := .int .i64 (ML s n).2) rfl, aK, bMJ, aM, aO, aI, if_neg (by simp), aX, dJ, aI, if_neg (by simp), bB8]
 unfold aTN
 rw [L, bD e5 rfl, aD]
 unfold MH
 rw [eP (v := .bool (EE s c).1) rfl, aO, eP (v := .int .i64 (EE s c).2) rfl, aK, L, bD e6 rfl, aD]
 unfold MH
 rw [eP (v := .bool (EE s c).1) rfl, aO, eP (v := .int .i64 (EE s c).2) rfl, aK, bMI, aM, aO, aI, if_pos (by simp), aN, dJ, aI, if_pos (by simp),
  show aO1 [] h0 = some (.bool true) from rfl, aM, aD, aO]
 exact ⟨_, rfl⟩
end Go.Proofs.YtgjdokjoejhepaaGreatDoor.K.L
