/- Awake, evaluated. -/
import Derived.Test.YtdpicdnpiihaaaaAsLib
open Go Go.bG
set_option maxRecDepth 1000000
namespace Go.Proofs.Ytdpicdnpiihaaaa.K
theorem aUN : isV (run CX 100000 (.call 21 #[] h00)) true = true := by kernel_rfl
theorem aT3 : fT Try.prog 21 (MF (.bool true)) := ZG okX aUN
end Go.Proofs.Ytdpicdnpiihaaaa.K
