/- Contracts of told functions: the reference's Hair. -/
import Derived.Test.YtepepiajmdpiiaaHaS22
open Go Go.Eng
set_option maxRecDepth 100000
set_option linter.unusedVariables false
namespace Go.Proofs.Ytepepiajmdpiiaa.K.L
def QI (s : Rm) (c : Int) (ch : Nat × Nat) : Int := if hch s ch then (if qG s ch = c then qH s ch else 0) - (if zO s ch = c then BI s ch else 0) else 0
def aC0 (s : Rm) (c : Int) : Int → List (Nat × Nat) → Int
 | n, [] => n
 | n, ch :: l => aC0 s c (n + QI s c ch) l
theorem aC1 : ∀ (pl : List Int) (i k : Nat) (x : Int), pl[k]? = some x → (BZ i pl)[k]? = some (x.toNat, i + k)
 | [], i, k, x, h => by simp at h
 | y :: l, i, 0, x, h => by simp at h; subst h; rfl
 | y :: l, i, k + 1, x, h => by
  show (BZ (i + 1) l)[k]? = _
  rw [aC1 l (i + 1) k x (by simpa using h), show i + 1 + k = i + (k + 1) by omega]
end Go.Proofs.Ytepepiajmdpiiaa.K.L
