/- Contracts of told functions: the reference's Hair. -/
import Derived.Test.YtdpicdnpiihaaaaAsS22
open Go Go.bG
set_option maxRecDepth 100000
set_option linter.unusedVariables false
namespace Go.Proofs.Ytdpicdnpiihaaaa.K.L
end Go.Proofs.Ytdpicdnpiihaaaa.K.L
