/- Contracts of told functions: any plan of a room. -/
import Derived.Test.YtdpicdnpiihaaaaOrS27
open Go Go.bI
set_option maxRecDepth 100000
set_option linter.unusedVariables false
namespace Go.Proofs.Ytdpicdnpiihaaaa.K.L
end Go.Proofs.Ytdpicdnpiihaaaa.K.L
