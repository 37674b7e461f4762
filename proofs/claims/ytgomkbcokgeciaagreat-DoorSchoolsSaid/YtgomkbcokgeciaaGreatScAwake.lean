/- Awake, evaluated, the kept answers taken. -/
import Derived.Test.YtgomkbcokgeciaaGreatScChainA
open Go Go.bR
set_option maxRecDepth 1000000
namespace Go.Proofs.YtgomkbcokgeciaaGreat.K
theorem bCJ : isV (IU CXA 100000 (.call 21 #[] h00)) true = true := by kernel_rfl
theorem a96 : bO Tryz.prog 21 (OQ (.bool true)) := aCN (fZ bUU 100000) bCJ
end Go.Proofs.YtgomkbcokgeciaaGreat.K
