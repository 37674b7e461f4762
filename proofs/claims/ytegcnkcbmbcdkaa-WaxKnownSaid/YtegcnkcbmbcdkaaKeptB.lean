/- Kept answers: what they are. -/
import Derived.Test.YtegcnkcbmbcdkaaLib
open Go Go.Eng
set_option maxRecDepth 1000000
set_option linter.unusedVariables false
namespace Go.Proofs.Ytegcnkcbmbcdkaa.K
noncomputable def CXB : Cfg := { CX with orc := orcLib }
end Go.Proofs.Ytegcnkcbmbcdkaa.K
