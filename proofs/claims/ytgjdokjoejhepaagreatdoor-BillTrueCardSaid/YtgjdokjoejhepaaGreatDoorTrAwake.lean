/- Awake, evaluated, the kept answers taken. -/
import Derived.Test.YtgjdokjoejhepaaGreatDoorTrChainA
open Go Go.bP
set_option maxRecDepth 1000000
namespace Go.Proofs.YtgjdokjoejhepaaGreatDoor.K
theorem a1F : isV (vN CXA 100000 (.call 22 #[] h00)) true = true := by kernel_rfl
theorem aZN : dS Tryz.prog 22 (N9 (.bool true)) := aAT (dU bL9 100000) a1F
end Go.Proofs.YtgjdokjoejhepaaGreatDoor.K
