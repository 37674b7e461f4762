/- Awake, evaluated. -/
import Derived.Test.YtdpicdnpiihaaaaLeLib
open Go Go.bK
set_option maxRecDepth 1000000
namespace Go.Proofs.Ytdpicdnpiihaaaa.K
theorem aWX : isV (run CX 100000 (.call 21 #[] h00)) true = true := by kernel_rfl
theorem aWA : gB Try.prog 21 (ND (.bool true)) := aAT okX aWX
end Go.Proofs.Ytdpicdnpiihaaaa.K
