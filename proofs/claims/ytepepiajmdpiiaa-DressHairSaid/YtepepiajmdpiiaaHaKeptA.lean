/- Kept answers: what they are. -/
import Derived.Test.YtepepiajmdpiiaaHaLib
open Go Go.Eng
set_option maxRecDepth 1000000
set_option linter.unusedVariables false
namespace Go.Proofs.Ytepepiajmdpiiaa.K
noncomputable def cbA0 : dM := { CX with orc := orcLib }
noncomputable def hA0 : List (Nat × bC) := [(1, (.cells [(iV 4), (iV 6), (iV 10)] 3 none)), (2, (.cells [(iV 0), (iV 2)] 3 none)), (9, (.cells [(.string (ByteArray.mk #[97, 100, 97])), (sV 3 0 3 3), (iV 3), (.string (ByteArray.mk #[98, 101, 110])), (sV 5 0 3 3), (iV 2), (.string (ByteArray.mk #[99, 121])), (sV 7 0 3 3), (iV 4)] 59 none)), (3, (.cells [(iV 0), (iV 1), (iV 0)] 3 none)), (5, (.cells [(iV 1), (iV 1), (iV 2)] 3 none)), (7, (.cells [(iV 0), (iV 0), (iV 2)] 3 none)), (16, (.cells [(.string (ByteArray.mk #[107, 105, 110, 103])), (sV 10 0 3 3), (iV 3), (.string (ByteArray.mk #[110, 117, 110])), (sV 12 0 3 3), (iV 2), (.string (ByteArray.mk #[106, 117, 100, 103, 101])), (sV 14 0 3 3), (iV 2)] 59 none)), (10, (.cells [(iV 1), (.int .i64 (.negSucc 0)), (iV 2)] 3 none)), (12, (.cells [(iV 0), (iV 1), (iV 1)] 3 none)), (14, (.cells [(iV 1), (iV 0), (iV 2)] 3 none))]
noncomputable def nA0 : List (Nat × bC) := [(265, (.cells [(iV 1), (iV 0), (iV 2)] 3 (some 1)))]
noncomputable def vA0 : Value := (.tuple ⟨[(sV 265 0 3 3), (iV 14), (iV 0)]⟩)
noncomputable def aA0 : List Value := [(gV [(sV 1 0 3 3), (sV 2 0 2 2), (sV 9 0 3 3), (sV 16 0 3 3)])]
noncomputable def orcA0 := aFA 26 aA0 hA0 144 vA0 nA0 266 orcLib
noncomputable def cbA1 : dM := { CX with orc := orcA0 }
noncomputable def hA1 : List (Nat × bC) := [(18, (.cells [(iV 4), (iV 6), (iV 10)] 3 none)), (19, (.cells [(iV 0), (iV 1)] 3 none)), (26, (.cells [(.string (ByteArray.mk #[97, 100, 97])), (sV 20 0 3 3), (iV 3), (.string (ByteArray.mk #[98, 101, 110])), (sV 22 0 3 3), (iV 2), (.string (ByteArray.mk #[99, 121])), (sV 24 0 3 3), (iV 4)] 59 none)), (20, (.cells [(iV 0), (iV 1), (iV 0)] 3 none)), (22, (.cells [(iV 1), (iV 1), (iV 2)] 3 none)), (24, (.cells [(iV 0), (iV 0), (iV 2)] 3 none)), (33, (.cells [(.string (ByteArray.mk #[107, 105, 110, 103])), (sV 27 0 3 3), (iV 3), (.string (ByteArray.mk #[110, 117, 110])), (sV 29 0 3 3), (iV 2), (.string (ByteArray.mk #[106, 117, 100, 103, 101])), (sV 31 0 3 3), (iV 2)] 59 none)), (27, (.cells [(iV 1), (.int .i64 (.negSucc 0)), (iV 2)] 3 none)), (29, (.cells [(iV 0), (iV 1), (iV 1)] 3 none)), (31, (.cells [(iV 1), (iV 0), (iV 2)] 3 none))]
noncomputable def nA1 : List (Nat × bC) := []
noncomputable def vA1 : Value := (.tuple ⟨[(.slice none 0 0), (iV 0), (iV 9)]⟩)
noncomputable def aA1 : List Value := [(gV [(sV 18 0 3 3), (sV 19 0 2 2), (sV 26 0 3 3), (sV 33 0 3 3)])]
noncomputable def orcA1 := aMJ 26 (memoL aA1 hA1 vA1) orcA0
noncomputable def cbA2 : dM := { CX with orc := orcA1 }
noncomputable def hA2 : List (Nat × bC) := [(1, (.cells [(iV 4), (iV 6), (iV 10)] 3 none)), (2, (.cells [(iV 0), (iV 2)] 3 none)), (9, (.cells [(.string (ByteArray.mk #[97, 100, 97])), (sV 3 0 3 3), (iV 3), (.string (ByteArray.mk #[98, 101, 110])), (sV 5 0 3 3), (iV 2), (.string (ByteArray.mk #[99, 121])), (sV 7 0 3 3), (iV 4)] 59 none)), (3, (.cells [(iV 0), (iV 1), (iV 0)] 3 none)), (5, (.cells [(iV 1), (iV 1), (iV 2)] 3 none)), (7, (.cells [(iV 0), (iV 0), (iV 2)] 3 none)), (16, (.cells [(.string (ByteArray.mk #[107, 105, 110, 103])), (sV 10 0 3 3), (iV 3), (.string (ByteArray.mk #[110, 117, 110])), (sV 12 0 3 3), (iV 2), (.string (ByteArray.mk #[106, 117, 100, 103, 101])), (sV 14 0 3 3), (iV 2)] 59 none)), (10, (.cells [(iV 1), (.int .i64 (.negSucc 0)), (iV 2)] 3 none)), (12, (.cells [(iV 0), (iV 1), (iV 1)] 3 none)), (14, (.cells [(iV 1), (iV 0), (iV 2)] 3 none))]
noncomputable def nA2 : List (Nat × bC) := [(452, (.cells [(iV 2)] 3 (some 1)))]
noncomputable def vA2 : Value := (.tuple ⟨[(sV 452 0 1 1), (iV 0)]⟩)
noncomputable def aA2 : List Value := [(gV [(sV 1 0 3 3), (sV 2 0 2 2), (sV 9 0 3 3), (sV 16 0 3 3)]), (iV 2)]
noncomputable def orcA2 := aFA 28 aA2 hA2 266 vA2 nA2 453 orcA1
noncomputable def cbA3 : dM := { CX with orc := orcA2 }
noncomputable def hA3 : List (Nat × bC) := [(1, (.cells [(iV 4), (iV 6), (iV 10)] 3 none)), (2, (.cells [(iV 0), (iV 2)] 3 none)), (9, (.cells [(.string (ByteArray.mk #[97, 100, 97])), (sV 3 0 3 3), (iV 3), (.string (ByteArray.mk #[98, 101, 110])), (sV 5 0 3 3), (iV 2), (.string (ByteArray.mk #[99, 121])), (sV 7 0 3 3), (iV 4)] 59 none)), (3, (.cells [(iV 0), (iV 1), (iV 0)] 3 none)), (5, (.cells [(iV 1), (iV 1), (iV 2)] 3 none)), (7, (.cells [(iV 0), (iV 0), (iV 2)] 3 none)), (16, (.cells [(.string (ByteArray.mk #[107, 105, 110, 103])), (sV 10 0 3 3), (iV 3), (.string (ByteArray.mk #[110, 117, 110])), (sV 12 0 3 3), (iV 2), (.string (ByteArray.mk #[106, 117, 100, 103, 101])), (sV 14 0 3 3), (iV 2)] 59 none)), (10, (.cells [(iV 1), (.int .i64 (.negSucc 0)), (iV 2)] 3 none)), (12, (.cells [(iV 0), (iV 1), (iV 1)] 3 none)), (14, (.cells [(iV 1), (iV 0), (iV 2)] 3 none))]
noncomputable def nA3 : List (Nat × bC) := []
noncomputable def vA3 : Value := (.tuple ⟨[(iV 10), (iV 0)]⟩)
noncomputable def aA3 : List Value := [(gV [(sV 1 0 3 3), (sV 2 0 2 2), (sV 9 0 3 3), (sV 16 0 3 3)]), (iV 1)]
noncomputable def orcA3 := aMJ 30 (memoL aA3 hA3 vA3) orcA2
noncomputable def cbA4 : dM := { CX with orc := orcA3 }
noncomputable def hA4 : List (Nat × bC) := [(18, (.cells [(iV 4), (iV 6), (iV 10)] 3 none)), (19, (.cells [(iV 0), (iV 1)] 3 none)), (26, (.cells [(.string (ByteArray.mk #[97, 100, 97])), (sV 20 0 3 3), (iV 3), (.string (ByteArray.mk #[98, 101, 110])), (sV 22 0 3 3), (iV 2), (.string (ByteArray.mk #[99, 121])), (sV 24 0 3 3), (iV 4)] 59 none)), (20, (.cells [(iV 0), (iV 1), (iV 0)] 3 none)), (22, (.cells [(iV 1), (iV 1), (iV 2)] 3 none)), (24, (.cells [(iV 0), (iV 0), (iV 2)] 3 none)), (33, (.cells [(.string (ByteArray.mk #[107, 105, 110, 103])), (sV 27 0 3 3), (iV 3), (.string (ByteArray.mk #[110, 117, 110])), (sV 29 0 3 3), (iV 2), (.string (ByteArray.mk #[106, 117, 100, 103, 101])), (sV 31 0 3 3), (iV 2)] 59 none)), (27, (.cells [(iV 1), (.int .i64 (.negSucc 0)), (iV 2)] 3 none)), (29, (.cells [(iV 0), (iV 1), (iV 1)] 3 none)), (31, (.cells [(iV 1), (iV 0), (iV 2)] 3 none))]
noncomputable def nA4 : List (Nat × bC) := [(497, (.cells [(iV 0)] 3 (some 1)))]
noncomputable def vA4 : Value := (.tuple ⟨[(sV 497 0 1 1), (iV 0)]⟩)
noncomputable def aA4 : List Value := [(gV [(sV 18 0 3 3), (sV 19 0 2 2), (sV 26 0 3 3), (sV 33 0 3 3)])]
noncomputable def orcA4 := aFA 32 aA4 hA4 453 vA4 nA4 498 orcA3
noncomputable def cbA5 : dM := { CX with orc := orcA4 }
noncomputable def hA5 : List (Nat × bC) := [(18, (.cells [(iV 4), (iV 6), (iV 10)] 3 none)), (19, (.cells [(iV 0), (iV 1)] 3 none)), (26, (.cells [(.string (ByteArray.mk #[97, 100, 97])), (sV 20 0 3 3), (iV 3), (.string (ByteArray.mk #[98, 101, 110])), (sV 22 0 3 3), (iV 2), (.string (ByteArray.mk #[99, 121])), (sV 24 0 3 3), (iV 4)] 59 none)), (20, (.cells [(iV 0), (iV 1), (iV 0)] 3 none)), (22, (.cells [(iV 1), (iV 1), (iV 2)] 3 none)), (24, (.cells [(iV 0), (iV 0), (iV 2)] 3 none)), (33, (.cells [(.string (ByteArray.mk #[107, 105, 110, 103])), (sV 27 0 3 3), (iV 3), (.string (ByteArray.mk #[110, 117, 110])), (sV 29 0 3 3), (iV 2), (.string (ByteArray.mk #[106, 117, 100, 103, 101])), (sV 31 0 3 3), (iV 2)] 59 none)), (27, (.cells [(iV 1), (.int .i64 (.negSucc 0)), (iV 2)] 3 none)), (29, (.cells [(iV 0), (iV 1), (iV 1)] 3 none)), (31, (.cells [(iV 1), (iV 0), (iV 2)] 3 none))]
noncomputable def nA5 : List (Nat × bC) := [(613, (.cells [(iV 0), (iV 1)] 3 (some 1)))]
noncomputable def vA5 : Value := (.tuple ⟨[(sV 613 0 2 2), (iV 14), (iV 0)]⟩)
noncomputable def aA5 : List Value := [(gV [(sV 18 0 3 3), (sV 19 0 2 2), (sV 26 0 3 3), (sV 33 0 3 3)])]
noncomputable def orcA5 := aFA 34 aA5 hA5 498 vA5 nA5 614 orcA4
noncomputable def CXA : dM := { CX with orc := orcA5 }
end Go.Proofs.Ytepepiajmdpiiaa.K
