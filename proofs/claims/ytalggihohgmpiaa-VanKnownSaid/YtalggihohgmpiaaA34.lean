/- Calls, evaluated. -/
import Derived.Test.YtalggihohgmpiaaKeptA
open Go Go.Eng
set_option maxRecDepth 1000000
set_option linter.unusedVariables false
namespace Go.Proofs.Ytalggihohgmpiaa.K
theorem eA414 : retR (run (cbVA orcA413) 100000 (.call 37 aA414.toArray (hpAt 492 hA414))) vA414 1000000 nA414 = true := by kernel_rfl
theorem eA415 : retR (run (cbVA orcA414) 100000 (.call 37 aA415.toArray (hpAt 493 hA415))) vA415 1000000 nA415 = true := by kernel_rfl
theorem eA416 : retR (run (cbVA orcA415) 100000 (.call 37 aA416.toArray (hpAt 495 hA416))) vA416 1000000 nA416 = true := by kernel_rfl
theorem eA417 : retR (run (cbVA orcA416) 100000 (.call 37 aA417.toArray (hpAt 497 hA417))) vA417 1000000 nA417 = true := by kernel_rfl
theorem eA420 : retR (run (cbVA orcA419) 100000 (.call 37 aA420.toArray (hpAt 349 hA420))) vA420 1000000 nA420 = true := by kernel_rfl
end Go.Proofs.Ytalggihohgmpiaa.K
