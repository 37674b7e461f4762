/- Contracts of told functions: the reference's Cost; the law. -/
import Derived.Test.YtepepiajmdpiiaaHaS14
open Go Go.Eng
set_option maxRecDepth 100000
set_option linter.unusedVariables false
namespace Go.Proofs.Ytepepiajmdpiiaa.K.L
theorem NE {ρ : Type} (h : Hp) (k : Value → Option ρ) : cO (TQ [] h) k = k (.bool true) := rfl
end Go.Proofs.Ytepepiajmdpiiaa.K.L
