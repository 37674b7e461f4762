/- The arguments of the laws: a plan. -/
import Derived.Test.YtepepiajmdpiiaaHaS25
open Go Go.Eng
set_option maxRecDepth 100000
set_option linter.unusedVariables false
namespace Go.Proofs.Ytepepiajmdpiiaa.K.L
end Go.Proofs.Ytepepiajmdpiiaa.K.L
