/- Kept answers, one upon the other. -/
import Derived.Test.YtegcnkcbmbcdkaaKeptB
open Go Go.Eng
set_option maxRecDepth 1000000
set_option linter.unusedVariables false
namespace Go.Proofs.Ytegcnkcbmbcdkaa.K
theorem okXB : CXB.Ok := ⟨okLib.env, okLib.fn, okLib.orc, okLib.mixed⟩
end Go.Proofs.Ytegcnkcbmbcdkaa.K
