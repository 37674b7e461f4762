/- Calls, evaluated. -/
import Derived.Test.YtgjdokjoejhepaaGreatDoorTrKeptA
open Go Go.bP
set_option maxRecDepth 1000000
set_option linter.unusedVariables false
namespace Go.Proofs.YtgjdokjoejhepaaGreatDoor.K
theorem eA9 : vL (vN (bBK) 100000 (.call 134 aA9.toArray (hpAt 231 hA9))) vA9 1000000 nA9 = true := by kernel_rfl
theorem bLA : vL (vN (aW8) 100000 (.call 134 aTV.toArray (hpAt 252 aTT))) aTU 1000000 bBL = true := by kernel_rfl
theorem bLB : vL (vN (aW9) 100000 (.call 134 aTY.toArray (hpAt 259 aTW))) aTX 1000000 bBM = true := by kernel_rfl
end Go.Proofs.YtgjdokjoejhepaaGreatDoor.K
