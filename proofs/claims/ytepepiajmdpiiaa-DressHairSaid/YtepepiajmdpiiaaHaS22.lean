/- Contracts of told functions: the reference's Plan. -/
import Derived.Test.YtepepiajmdpiiaaHaS21
open Go Go.Eng
set_option maxRecDepth 100000
set_option linter.unusedVariables false
namespace Go.Proofs.Ytepepiajmdpiiaa.K.L
end Go.Proofs.Ytepepiajmdpiiaa.K.L
