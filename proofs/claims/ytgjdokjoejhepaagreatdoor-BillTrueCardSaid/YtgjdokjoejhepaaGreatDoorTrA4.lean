/- Calls, evaluated. -/
import Derived.Test.YtgjdokjoejhepaaGreatDoorTrKeptA
open Go Go.bP
set_option maxRecDepth 1000000
set_option linter.unusedVariables false
namespace Go.Proofs.YtgjdokjoejhepaaGreatDoor.K
theorem bLC : vL (vN (aXA) 100000 (.call 134 aT1.toArray (hpAt 264 aTZ))) aT0 1000000 bBN = true := by kernel_rfl
theorem bLD : vL (vN (aXB) 100000 (.call 134 aT4.toArray (hpAt 277 aT2))) aT3 1000000 bBO = true := by kernel_rfl
theorem bLE : vL (vN (aXC) 100000 (.call 134 aT7.toArray (hpAt 292 aT5))) aT6 1000000 bBP = true := by kernel_rfl
end Go.Proofs.YtgjdokjoejhepaaGreatDoor.K
