/- Calls, evaluated. -/
import Derived.Test.YtgjdokjoejhepaaGreatDoorTrKeptA
open Go Go.bP
set_option maxRecDepth 1000000
set_option linter.unusedVariables false
namespace Go.Proofs.YtgjdokjoejhepaaGreatDoor.K
theorem eA3 : vL (vN (bBE) 100000 (.call 77 aA3.toArray (hpAt 169 hA3))) vA3 200 nA3 = true := by kernel_rfl
theorem eA4 : vL (vN (bBF) 100000 (.call 77 aA4.toArray (hpAt 208 hA4))) vA4 239 nA4 = true := by kernel_rfl
theorem eA5 : vL (vN (bBG) 100000 (.call 77 aA5.toArray (hpAt 209 hA5))) vA5 240 nA5 = true := by kernel_rfl
end Go.Proofs.YtgjdokjoejhepaaGreatDoor.K
