/- The arguments of the laws: a plan. -/
import Derived.Test.YtepepiajmdpiiaaPlS25
open Go Go.Eng
set_option maxRecDepth 100000
set_option linter.unusedVariables false
namespace Go.Proofs.Ytepepiajmdpiiaa.K.L
theorem bCA : tZ Try.prog 22 = none ∧ aHH Try.prog 22 = none := ⟨by kernel_rfl, by kernel_rfl⟩
theorem aOK {h : Hp} {n : Nat} {v : Value} (a : Arg Try.prog h (n + 2) 22 [v]) : ∃ l : List Int, jE h 1 v (l.map bF) := by
 obtain ⟨v1, rs1, e1, s1, h1⟩ := a.sl aN7 ce3
 obtain ⟨l, rfl⟩ := DW bF rs1 (fun r hr => aC3 (h1 r hr))
 simp at e1
 subst e1
 exact ⟨l, jE.of s1⟩
end Go.Proofs.Ytepepiajmdpiiaa.K.L
