/- Calls, evaluated. -/
import Derived.Test.YtgomkbcokgeciaaGreatScKeptA
open Go Go.bR
set_option maxRecDepth 1000000
set_option linter.unusedVariables false
namespace Go.Proofs.YtgomkbcokgeciaaGreat.K
theorem bJ0 : lU (.exit 0) 60 1034 9 aHL aHM Y7 (mY aZB aT4 100000 (.code (dI Tryz.f113 0) none 60 (zH 60 774 9 a3U a3V aHN))) = true := by kernel_rfl
theorem bJ1 : lU (.exit 0) 60 1034 9 aHL aHM Y7 (mY aZB aT5 100000 (.code (dI Tryz.f113 0) none 60 (zH 60 396 9 a3X a3Y aHO))) = true := by kernel_rfl
end Go.Proofs.YtgomkbcokgeciaaGreat.K
