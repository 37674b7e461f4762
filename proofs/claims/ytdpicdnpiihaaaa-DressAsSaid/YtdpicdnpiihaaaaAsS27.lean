/- Contracts of told functions: valid, turn; slices cut and joined. -/
import Derived.Test.YtdpicdnpiihaaaaAsS26
open Go Go.bG
set_option maxRecDepth 100000
set_option linter.unusedVariables false
namespace Go.Proofs.Ytdpicdnpiihaaaa.K.L
theorem aB0 {h : Hp} (w : Wf h) {s : Rm} {r : List Value} (a : D7 h s r) : ∃ h', F37 [.agg (Array.mk r)] h = some (.bool (decide ((gI s).2.2 = 0)), h') := by
 have start : F37 [.agg (Array.mk r)] h = aLQ (aK T37 999999) (.agg (Array.mk r)) h := rfl
 rw [start]
 unfold aLQ
 have hr4 := a.len
 rw [fA, bK]
 have g0 := aS.add w (.cells r 25 none)
 have a0 : At (h.add (.cells r 25 none)) (.pointer (some ⟨h.next, 0, none⟩)) r := At.new
 obtain ⟨h2, e2⟩ := aBU (h := dI (h.add (.cells r 25 none))) (gJ g0.wf) (a.sub g0.sub)
 rw [a0.eU (z := 4) hr4, bR e2 rfl, aB]
 unfold aP4
 rw [bM (v := .int .i64 (gI s).1) rfl, aH, bM (v := .int .i64 (gI s).2.1) rfl, aH, bM (v := .int .i64 (gI s).2.2) rfl, aH, aM, bT]
 exact ⟨_, rfl⟩
theorem aMY {a b : Int} (h0 : 0 ≤ a) (hb : 0 < b) : lG env .rem 3 (.int .i64 a) (.int .i64 b) = some (.int .i64 (a % b)) := by
 unfold lG pR
 rw [show FK .rem (.int .i64 a) (.int .i64 b) = none from rfl]
 simp only
 rw [eT rfl]
 simp only [Op.intDiv]
 rw [if_neg (by omega)]
 rw [Int.tmod_eq_emod_of_nonneg h0]
 rfl
theorem BL {ρ : Type} {k : IntKind} {a : Int} (f : Int → Option ρ) : qF k (some (.int k a)) f = f a := by
 show aR k (.int k a) f = _
 exact aH k a f
def aMZ (n : Nat) : List Value := [.int .u8 (n : Int)]
end Go.Proofs.Ytdpicdnpiihaaaa.K.L
