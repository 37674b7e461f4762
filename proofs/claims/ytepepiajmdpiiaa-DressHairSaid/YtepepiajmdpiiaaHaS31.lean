/- The arguments of the laws: numbers of a byte. -/
import Derived.Test.YtepepiajmdpiiaaHaS30
open Go Go.Eng
set_option maxRecDepth 100000
set_option linter.unusedVariables false
namespace Go.Proofs.Ytepepiajmdpiiaa.K.L
theorem bCZ : uF Try.prog 48 = none ∧ aGV Try.prog 48 = none := ⟨by kernel_rfl, by kernel_rfl⟩
theorem bC0 : OO Try.prog 48 = some 5 := by kernel_rfl
theorem ce5 : Try.prog.cellsOf 5 = 1 := by kernel_rfl
theorem ki5 : aA8 Try.prog 5 = some .u8 := by kernel_rfl
theorem byte_of {h : Hp} {n : Nat} {r : List Value} (a : Arg Try.prog h (n + 1) 5 r) : ∃ b : Nat, r = CE b ∧ b ≤ 255 := by
 obtain ⟨i, e, w⟩ := a.int ki5
 have hm1 : IntKind.u8.min = 0 := by decide +kernel
 have hm2 : IntKind.u8.max = 255 := by decide +kernel
 have hb : 0 ≤ i ∧ i ≤ 255 := by
  simp [Lit.wf] at w
  omega
 exact ⟨i.toNat, by rw [e]; unfold CE; congr 2; omega, by omega⟩
theorem aJO {h : Hp} {n : Nat} {v : Value} (a : Arg Try.prog h (n + 2) 48 [v]) : ∃ xs : List Nat, jZ h 1 v (xs.map CE) ∧ ∀ x ∈ xs, x ≤ 255 := by
 obtain ⟨v1, rs1, e1, s1, h1⟩ := a.sl bC0 ce5
 obtain ⟨l, rfl, q⟩ := FJ CE (fun x => x ≤ 255) rs1 (fun r hr => byte_of (h1 r hr))
 simp at e1
 subst e1
 exact ⟨l, jZ.of s1, q⟩
end Go.Proofs.Ytepepiajmdpiiaa.K.L
