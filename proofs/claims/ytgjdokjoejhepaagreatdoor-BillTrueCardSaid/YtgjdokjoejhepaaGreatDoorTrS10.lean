/- Contracts of told functions: the entries of a figure, yielded. -/
import Derived.Test.YtgjdokjoejhepaaGreatDoorTrS9
import Derived.Test.YtgjdokjoejhepaaGreatDoorTrEngD
open Go Go.bP Go.bP.Y
set_option maxRecDepth 100000
set_option linter.unusedVariables false
namespace Go.Proofs.YtgjdokjoejhepaaGreatDoor.K.L
def fv (f : Nat) (v : Value) : Value := .func (.func f) #[v] #[]
def SF (v : Value) : List Value := [fv 161 v, fv 162 v, fv 163 v, fv 164 v, fv 165 v, fv 166 v]
theorem QV (f g : Nat) (v w : Value) : lN env 180 (List.toArray [(0, .func (.func f) (List.toArray [v]) (List.toArray [])), (1, .func (.func g) (List.toArray [w]) (List.toArray []))]) = some (.agg (Array.mk [fv f v, fv g w])) := by kernel_rfl
theorem aQQ (a b c d e f : Nat) (v : Value) : lN env 181 (List.toArray [(0, .agg (Array.mk [fv a v, fv b v])), (1, .agg (Array.mk [fv c v, fv d v])), (2, .agg (Array.mk [fv e v, fv f v]))]) = some (.agg (Array.mk [fv a v, fv b v, fv c v, fv d v, fv e v, fv f v])) := by kernel_rfl
theorem SG {h : Hp} (w : Wf h) {r : List Value} (hr3 : r.length = 3) : ∃ h', aPW [.agg (Array.mk r)] h = some (.agg (Array.mk (SF (.agg (Array.mk r)))), h') ∧ bE h h' := by
 have start : aPW [.agg (Array.mk r)] h = YG (aP aPV 999999) (.agg (Array.mk r)) h := rfl
 rw [start]
 unfold YG
 rw [fQ, bL, bL]
 have g0 : bE h (h.add (.cells r 88 none)) := bE.add w _
 have a0 : At (h.add (.cells r 88 none)) (.pointer (some ⟨h.next, 0, none⟩)) r := At.new
 generalize h.add (.cells r 88 none) = h0 at g0 a0 ⊢
 have g1 : bE h (h0.add (.cells [Value.nilFunc, Value.nilFunc, Value.nilFunc, Value.nilFunc, Value.nilFunc, Value.nilFunc] 181 none)) := g0.trans (bE.add g0.wf _)
 have a1 := VW g0.wf a0 (.cells [Value.nilFunc, Value.nilFunc, Value.nilFunc, Value.nilFunc, Value.nilFunc, Value.nilFunc] 181 none)
 have c1 : (h0.add (.cells [Value.nilFunc, Value.nilFunc, Value.nilFunc, Value.nilFunc, Value.nilFunc, Value.nilFunc] 181 none)).get h0.next = some (.cells [Value.nilFunc, Value.nilFunc, Value.nilFunc, Value.nilFunc, Value.nilFunc, Value.nilFunc] 181 none) := by rw [dM, if_pos rfl]
 generalize h0.add (.cells [Value.nilFunc, Value.nilFunc, Value.nilFunc, Value.nilFunc, Value.nilFunc, Value.nilFunc] 181 none) = h1 at g1 a1 c1 ⊢
 obtain ⟨h5, g5, a5, k5, _⟩ := xD (z := 6) (l := SF (.agg (Array.mk r))) w g1 (b := h0.next) (by have := g0.next; omega) c1 rfl rfl rfl
 rw [a1.fF (z := 3) hr3, a1.fF (z := 3) hr3, QV, aM, a1.fF (z := 3) hr3, a1.fF (z := 3) hr3, QV, aM, a1.fF (z := 3) hr3, a1.fF (z := 3) hr3, QV, aM, aQQ, aM]
 show ∃ h', (iY 6 h1 (.pointer (some ⟨h0.next, 0, none⟩)) (.agg (Array.mk (SF (.agg (Array.mk r))))) _) = _ ∧ _
 rw [k5, a5.fF (z := 6) rfl]
 exact ⟨h5, rfl, g5⟩
theorem aQR (v : Value) : ∀ k : Nat, k < 3 → mX env 181 (.agg (Array.mk (SF v))) (.int .i64 (k : Int)) = some (.agg (Array.mk [fv (161 + 2 * k) v, fv (162 + 2 * k) v]))
 | 0, _ => by kernel_rfl
 | 1, _ => by kernel_rfl
 | 2, _ => by kernel_rfl
 | n + 3, h => absurd h (by omega)
def a1H (k x b : Int) : Value := .agg (Array.mk [.int .i64 k, .int .i64 x, .int .i64 b])
theorem aUE (k x b : Int) : lN env 57 (List.toArray [(0, (Value.int .i64 k)), (1, (Value.int .i64 x)), (2, (Value.int .i64 b))]) = some (a1H k x b) := by kernel_rfl
def aB1 (s : Sh) (k x b : Nat) : Bool := match k with
 | 0 => decide ((b : Int) = 0) && oU s.ts ((2 ^ x : Nat) : Int)
 | 1 => KL s x b
 | _ => decide ((b : Int) = 0) && (lW s.ts x && !(oU s.ts ((2 ^ x : Nat) : Int)))
theorem a1I {h : Hp} (w : Wf h) {s : Sh} {r : List Value} (a : yX h s r) (f : mZ s) (x b : Nat) (hx : x < s.aU.length) (hb : b < s.aU.length) (yf : YF) : ∀ k : Nat, k < 3 → IJ qX yf (fv (161 + 2 * k) (.agg (Array.mk r))) [.int .i64 (x : Int), .int .i64 (b : Int)] h = some (.bool (aB1 s k x b), h)
 | 0, _ => by
  obtain ⟨h9, e9⟩ := SH (h := bK h) (fZ w) a f x (by have := f.aU; omega) (b : Int)
  rw [show IJ qX yf (fv (161 + 2 * 0) (.agg (Array.mk r))) [.int .i64 (x : Int), .int .i64 (b : Int)] h = dR aPQ [.agg (Array.mk r), .int .i64 (x : Int), .int .i64 (b : Int)] h from rfl]
  exact bD e9 rfl
 | 1, _ => by
  obtain ⟨h9, e9⟩ := aB2 (h := bK h) (fZ w) a f x b hx hb
  rw [show IJ qX yf (fv (161 + 2 * 1) (.agg (Array.mk r))) [.int .i64 (x : Int), .int .i64 (b : Int)] h = dR aPS [.agg (Array.mk r), .int .i64 (x : Int), .int .i64 (b : Int)] h from rfl]
  exact bD e9 rfl
 | 2, _ => by
  obtain ⟨h9, e9⟩ := aB3 (h := bK h) (fZ w) a f x (by have := f.aU; omega) (b : Int)
  rw [show IJ qX yf (fv (161 + 2 * 2) (.agg (Array.mk r))) [.int .i64 (x : Int), .int .i64 (b : Int)] h = dR aPU [.agg (Array.mk r), .int .i64 (x : Int), .int .i64 (b : Int)] h from rfl]
  exact bD e9 rfl
 | n + 3, h => absurd h (by omega)
end Go.Proofs.YtgjdokjoejhepaaGreatDoor.K.L
