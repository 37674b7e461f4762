/- Calls, evaluated. -/
import Derived.Test.YtgjdokjoejhepaaGreatDoorTrKeptA
open Go Go.bP
set_option maxRecDepth 1000000
set_option linter.unusedVariables false
namespace Go.Proofs.YtgjdokjoejhepaaGreatDoor.K
theorem eA0 : vL (vN (bBB) 100000 (.call 66 aA0.toArray (hpAt 9 hA0))) vA0 1000000 nA0 = true := by kernel_rfl
theorem eA1 : vL (vN (bBC) 100000 (.call 66 aA1.toArray (hpAt 9 hA1))) vA1 1000000 nA1 = true := by kernel_rfl
theorem eA2 : vL (vN (bBD) 100000 (.call 23 aA2.toArray (hpAt 5 hA2))) vA2 160 nA2 = true := by kernel_rfl
end Go.Proofs.YtgjdokjoejhepaaGreatDoor.K
