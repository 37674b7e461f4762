/- Awake, evaluated. -/
import Derived.Test.YtdpicdnpiihaaaaBoLib
open Go Go.bK
set_option maxRecDepth 1000000
namespace Go.Proofs.Ytdpicdnpiihaaaa.K
theorem aU9 : isV (run CX 100000 (.call 21 #[] h00)) true = true := by kernel_rfl
theorem aUN : fZ Try.prog 21 (MX (.bool true)) := aAA okX aU9
end Go.Proofs.Ytdpicdnpiihaaaa.K
