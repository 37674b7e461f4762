/- Contracts of told functions: the reference's Hair. -/
import Derived.Test.YtdpicdnpiihaaaaOrS22
open Go Go.bI
set_option maxRecDepth 100000
set_option linter.unusedVariables false
namespace Go.Proofs.Ytdpicdnpiihaaaa.K.L
def UA (s : Rm) (c : Int) (ch : Nat × Nat) : Int := if hch s ch then (if qY s ch = c then tF s ch else 0) - (if BX s ch = c then J7 s ch else 0) else 0
def aFB (s : Rm) (c : Int) : Int → List (Nat × Nat) → Int
 | n, [] => n
 | n, ch :: l => aFB s c (n + UA s c ch) l
end Go.Proofs.Ytdpicdnpiihaaaa.K.L
