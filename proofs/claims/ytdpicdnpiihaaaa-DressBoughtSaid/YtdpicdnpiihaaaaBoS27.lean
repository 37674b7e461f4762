/- Contracts of told functions: valid, turn; slices cut and joined. -/
import Derived.Test.YtdpicdnpiihaaaaBoS26
open Go Go.bK
set_option maxRecDepth 100000
set_option linter.unusedVariables false
namespace Go.Proofs.Ytdpicdnpiihaaaa.K.L
theorem FO {h : Hp} (w : Wf h) {s : Rm} {r : List Value} (a : DI h s r) : ∃ h', F37 [.agg (Array.mk r)] h = some (.bool (decide ((gK s).2.2 = 0)), h') := by
 have start : F37 [.agg (Array.mk r)] h = aL4 (aK T37 999999) (.agg (Array.mk r)) h := rfl
 rw [start]
 unfold aL4
 have hr4 := a.len
 rw [fA, bO]
 have g0 := aV.add w (.cells r 25 none)
 have a0 : At (h.add (.cells r 25 none)) (.pointer (some ⟨h.next, 0, none⟩)) r := At.new
 obtain ⟨h2, e2⟩ := aCG (h := bZ (h.add (.cells r 25 none))) (fB g0.wf) (a.sub g0.sub)
 rw [a0.eU (z := 4) hr4, bJ e2 rfl, aB]
 unfold aQN
 rw [bH (v := .int .i64 (gK s).1) rfl, aH, bH (v := .int .i64 (gK s).2.1) rfl, aH, bH (v := .int .i64 (gK s).2.2) rfl, aH, aM, bI]
 exact ⟨_, rfl⟩
theorem aNE {a b : Int} (h0 : 0 ≤ a) (hb : 0 < b) : lY env .rem 3 (.int .i64 a) (.int .i64 b) = some (.int .i64 (a % b)) := by
 unfold lY qP
 rw [show FV .rem (.int .i64 a) (.int .i64 b) = none from rfl]
 simp only
 rw [eZ rfl]
 simp only [Op.intDiv]
 rw [if_neg (by omega)]
 rw [Int.tmod_eq_emod_of_nonneg h0]
 rfl
theorem BU {ρ : Type} {k : IntKind} {a : Int} (f : Int → Option ρ) : rT k (some (.int k a)) f = f a := by
 show aS k (.int k a) f = _
 exact aH k a f
def K9 (n : Nat) : List Value := [.int .u8 (n : Int)]
theorem aGF {h : Hp} {v : Value} {xs : List Nat} (sl : bK.Rows h 1 v (xs.map K9)) (hb : ∀ x ∈ xs, x ≤ 255) (n : Nat) : ∃ t : Nat, F46 [v, .int .i64 (n : Int)] h = some (.int .i64 (t : Int)) ∧ t ≤ 255 := by
 show ∃ t : Nat, plainO (aL5 h (G.aK (T46 h) 999999) v (n : Int)) = _ ∧ _
 unfold aL5
 rw [sl.len, List.length_map, aM, bI, aG]
 by_cases c : xs.length = 0
 ·rw [if_pos (by simp [c])]; exact ⟨0, rfl, by omega⟩
 ·have hlt : n % xs.length < xs.length := Nat.mod_lt _ (by omega)
  obtain ⟨q, hq, aq, _⟩ := sl.at (i := n % xs.length) (r := K9 xs[n % xs.length]) (by rw [List.getElem?_map, List.getElem?_eq_getElem hlt]; rfl)
  have b := hb _ (List.getElem_mem hlt)
  rw [if_neg (by simpa using c), sl.len, List.length_map, aNE (by omega) (by omega), BU, show ((n : Int) % (xs.length : Int)) = ((n % xs.length : Nat) : Int) from (Int.natCast_emod _ _).symm, hq, aq.jT (x := .int .u8 (xs[n % xs.length] : Int)) rfl, aH, wrap64_in _ (by omega) (by omega)]
  exact ⟨_, rfl, b⟩
end Go.Proofs.Ytdpicdnpiihaaaa.K.L
