/-
  An evaluator of the code, proved sound.
-/
import Derived.Test.YtepepiajmdpiiaaHaEngC
set_option linter.unusedVariables false
/-
  Long loops cut at their heads: what a loop answers from a told state is kept; the evaluator takes it there.
-/
namespace Go.Eng
noncomputable section
abbrev iV (n : Nat) : Value := .int .i64 (.ofNat n)
abbrev sV (b o n c : Nat) : Value := .slice (some ⟨b, o, none⟩) n c
abbrev gV (l : List Value) : Value := .agg ⟨l⟩
end
theorem Step.less {base nt : Nat} {ρ uQ : Ren} {h h1 h2 : Hp} {w w1 : World} (s : Step base ρ h w uQ h1 w1) (hn : h2.next = h1.next) (hr : h2.ro = h1.ro) (sub : ∀ i o, h2.get i = some o → ∃ o', h1.get i = some o' ∧ YQ nt o' o = true) : Step base ρ h w uQ h2 w1 := by
 refine ⟨s.ext, ⟨?_, ?_, ?_, ?_, ?_⟩, s.keep, s.news, ?_, s.size, by rw [hr]; exact s.ro, by rw [hn]; exact s.next, s.os, s.tape, s.output⟩
 ·intro i o hi
  obtain ⟨o', g1, g2⟩ := sub i o hi
  obtain ⟨im, O, k1, k2, k3⟩ := s.rel.obj i o' g1
  exact ⟨im, O, k1, k2, YR g2 k3⟩
 ·intro i j im jm o p hi hj e1 e2 hne hb
  obtain ⟨o', g1, _⟩ := sub i o hi
  obtain ⟨p', g2, _⟩ := sub j p hj
  exact s.rel.inj i j im jm o' p' g1 g2 e1 e2 hne hb
 ·intro i im hi; rw [hn]; exact s.rel.dom i im hi
 ·rw [hr]; exact s.rel.iJ
 ·rw [hr, hn]; exact s.rel.j5
 ·intro i o hi ho
  obtain ⟨o', g1, _⟩ := sub i o ho
  exact s.olds i o' hi g1
end Go.Eng
