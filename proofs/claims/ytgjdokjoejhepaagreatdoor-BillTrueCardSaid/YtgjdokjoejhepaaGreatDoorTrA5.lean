/- Calls, evaluated. -/
import Derived.Test.YtgjdokjoejhepaaGreatDoorTrKeptA
open Go Go.bP
set_option maxRecDepth 1000000
set_option linter.unusedVariables false
namespace Go.Proofs.YtgjdokjoejhepaaGreatDoor.K
theorem bLF : vL (vN (aXD) 100000 (.call 66 aUA.toArray (hpAt 295 aT8))) aT9 1000000 bBQ = true := by kernel_rfl
theorem bLG : vL (vN (aXE) 100000 (.call 77 a1A.toArray (hpAt 296 a07))) a09 327 a08 = true := by kernel_rfl
theorem bLH : vL (vN (aXF) 100000 (.call 82 aUD.toArray (hpAt 295 aUB))) aUC 1000000 bBR = true := by kernel_rfl
end Go.Proofs.YtgjdokjoejhepaaGreatDoor.K
