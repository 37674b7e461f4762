/- Calls, evaluated. -/
import Derived.Test.YtgjdokjoejhepaaGreatDoorTrKeptA
open Go Go.bP
set_option maxRecDepth 1000000
set_option linter.unusedVariables false
namespace Go.Proofs.YtgjdokjoejhepaaGreatDoor.K
theorem eA6 : vL (vN (bBH) 100000 (.call 82 aA6.toArray (hpAt 208 hA6))) vA6 1000000 nA6 = true := by kernel_rfl
theorem eA7 : vL (vN (bBI) 100000 (.call 134 aA7.toArray (hpAt 215 hA7))) vA7 1000000 nA7 = true := by kernel_rfl
theorem eA8 : vL (vN (bBJ) 100000 (.call 134 aA8.toArray (hpAt 220 hA8))) vA8 1000000 nA8 = true := by kernel_rfl
end Go.Proofs.YtgjdokjoejhepaaGreatDoor.K
