/- Calls, evaluated. -/
import Derived.Test.YtgjdokjoejhepaaGreatDoorTrKeptA
open Go Go.bP
set_option maxRecDepth 1000000
set_option linter.unusedVariables false
namespace Go.Proofs.YtgjdokjoejhepaaGreatDoor.K
theorem bLI : vL (vN (aXG) 100000 (.call 84 a1E.toArray (hpAt 205 a1B))) a1D 295 a1C = true := by kernel_rfl
end Go.Proofs.YtgjdokjoejhepaaGreatDoor.K
