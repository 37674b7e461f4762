/- Contracts of told functions: the reference's Hair. -/
import Derived.Test.YtdpicdnpiihaaaaBoS22
open Go Go.bK
set_option maxRecDepth 100000
set_option linter.unusedVariables false
namespace Go.Proofs.Ytdpicdnpiihaaaa.K.L
def TJ (s : Rm) (c : Int) (ch : Nat × Nat) : Int := if hch s ch then (if sZ s ch = c then wK s ch else 0) - (if FN s ch = c then PK s ch else 0) else 0
def aEK (s : Rm) (c : Int) : Int → List (Nat × Nat) → Int
 | n, [] => n
 | n, ch :: l => aEK s c (n + TJ s c ch) l
end Go.Proofs.Ytdpicdnpiihaaaa.K.L
