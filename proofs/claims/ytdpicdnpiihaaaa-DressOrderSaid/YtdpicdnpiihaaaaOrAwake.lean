/- Awake, evaluated. -/
import Derived.Test.YtdpicdnpiihaaaaOrLib
open Go Go.bI
set_option maxRecDepth 1000000
namespace Go.Proofs.Ytdpicdnpiihaaaa.K
theorem aWH : isV (run CX 100000 (.call 21 #[] h00)) true = true := by kernel_rfl
theorem aVT : fV Try.prog 21 (ND (.bool true)) := aAX okX aWH
end Go.Proofs.Ytdpicdnpiihaaaa.K
