/- Contracts of told functions: the reference's Plan. -/
import Derived.Test.YtdpicdnpiihaaaaOrS21
open Go Go.bI
set_option maxRecDepth 100000
set_option linter.unusedVariables false
namespace Go.Proofs.Ytdpicdnpiihaaaa.K.L
end Go.Proofs.Ytdpicdnpiihaaaa.K.L
