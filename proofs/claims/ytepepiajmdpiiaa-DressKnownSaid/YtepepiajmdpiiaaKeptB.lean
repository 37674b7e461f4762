/- Kept answers: what they are. -/
import Derived.Test.YtepepiajmdpiiaaLib
open Go Go.Eng
set_option maxRecDepth 1000000
set_option linter.unusedVariables false
namespace Go.Proofs.Ytepepiajmdpiiaa.K
noncomputable def cbB0 : Cfg := { CX with orc := orcLib }
noncomputable def hB0 : List (Nat × AObj) := [(1, (.cells [(iV 4), (iV 6), (iV 10)] 3 none)), (2, (.cells [(iV 0), (iV 2)] 3 none)), (9, (.cells [(.string (ByteArray.mk #[97, 100, 97])), (sV 3 0 3 3), (iV 3), (.string (ByteArray.mk #[98, 101, 110])), (sV 5 0 3 3), (iV 2), (.string (ByteArray.mk #[99, 121])), (sV 7 0 3 3), (iV 4)] 59 none)), (3, (.cells [(iV 0), (iV 1), (iV 0)] 3 none)), (5, (.cells [(iV 1), (iV 1), (iV 2)] 3 none)), (7, (.cells [(iV 0), (iV 0), (iV 2)] 3 none)), (16, (.cells [(.string (ByteArray.mk #[107, 105, 110, 103])), (sV 10 0 3 3), (iV 3), (.string (ByteArray.mk #[110, 117, 110])), (sV 12 0 3 3), (iV 2), (.string (ByteArray.mk #[106, 117, 100, 103, 101])), (sV 14 0 3 3), (iV 2)] 59 none)), (10, (.cells [(iV 1), (.int .i64 (.negSucc 0)), (iV 2)] 3 none)), (12, (.cells [(iV 0), (iV 1), (iV 1)] 3 none)), (14, (.cells [(iV 1), (iV 0), (iV 2)] 3 none))]
noncomputable def nB0 : List (Nat × AObj) := []
noncomputable def vB0 : Value := (.tuple ⟨[(iV 0), (iV 0)]⟩)
noncomputable def aB0 : List Value := [(gV [(sV 1 0 3 3), (sV 2 0 2 2), (sV 9 0 3 3), (sV 16 0 3 3)]), (iV 0)]
noncomputable def orcB0 := orcM 30 (memoL aB0 hB0 vB0) orcLib
noncomputable def cbB1 : Cfg := { CX with orc := orcB0 }
noncomputable def hB1 : List (Nat × AObj) := [(1, (.cells [(iV 4), (iV 6), (iV 10)] 3 none)), (2, (.cells [(iV 0), (iV 2)] 3 none)), (9, (.cells [(.string (ByteArray.mk #[97, 100, 97])), (sV 3 0 3 3), (iV 3), (.string (ByteArray.mk #[98, 101, 110])), (sV 5 0 3 3), (iV 2), (.string (ByteArray.mk #[99, 121])), (sV 7 0 3 3), (iV 4)] 59 none)), (3, (.cells [(iV 0), (iV 1), (iV 0)] 3 none)), (5, (.cells [(iV 1), (iV 1), (iV 2)] 3 none)), (7, (.cells [(iV 0), (iV 0), (iV 2)] 3 none)), (16, (.cells [(.string (ByteArray.mk #[107, 105, 110, 103])), (sV 10 0 3 3), (iV 3), (.string (ByteArray.mk #[110, 117, 110])), (sV 12 0 3 3), (iV 2), (.string (ByteArray.mk #[106, 117, 100, 103, 101])), (sV 14 0 3 3), (iV 2)] 59 none)), (10, (.cells [(iV 1), (.int .i64 (.negSucc 0)), (iV 2)] 3 none)), (12, (.cells [(iV 0), (iV 1), (iV 1)] 3 none)), (14, (.cells [(iV 1), (iV 0), (iV 2)] 3 none))]
noncomputable def nB1 : List (Nat × AObj) := []
noncomputable def vB1 : Value := (.tuple ⟨[(iV 4), (iV 0)]⟩)
noncomputable def aB1 : List Value := [(gV [(sV 1 0 3 3), (sV 2 0 2 2), (sV 9 0 3 3), (sV 16 0 3 3)]), (iV 2)]
noncomputable def orcB1 := orcM 30 (memoL aB1 hB1 vB1) orcB0
noncomputable def cbB2 : Cfg := { CX with orc := orcB1 }
noncomputable def hB2 : List (Nat × AObj) := [(1, (.cells [(iV 4), (iV 6), (iV 10)] 3 none)), (2, (.cells [(iV 0), (iV 2)] 3 none)), (9, (.cells [(.string (ByteArray.mk #[97, 100, 97])), (sV 3 0 3 3), (iV 3), (.string (ByteArray.mk #[98, 101, 110])), (sV 5 0 3 3), (iV 2), (.string (ByteArray.mk #[99, 121])), (sV 7 0 3 3), (iV 4)] 59 none)), (3, (.cells [(iV 0), (iV 1), (iV 0)] 3 none)), (5, (.cells [(iV 1), (iV 1), (iV 2)] 3 none)), (7, (.cells [(iV 0), (iV 0), (iV 2)] 3 none)), (16, (.cells [(.string (ByteArray.mk #[107, 105, 110, 103])), (sV 10 0 3 3), (iV 3), (.string (ByteArray.mk #[110, 117, 110])), (sV 12 0 3 3), (iV 2), (.string (ByteArray.mk #[106, 117, 100, 103, 101])), (sV 14 0 3 3), (iV 2)] 59 none)), (10, (.cells [(iV 1), (.int .i64 (.negSucc 0)), (iV 2)] 3 none)), (12, (.cells [(iV 0), (iV 1), (iV 1)] 3 none)), (14, (.cells [(iV 1), (iV 0), (iV 2)] 3 none))]
noncomputable def nB2 : List (Nat × AObj) := []
noncomputable def vB2 : Value := (.tuple ⟨[(.slice none 0 0), (iV 0)]⟩)
noncomputable def aB2 : List Value := [(gV [(sV 1 0 3 3), (sV 2 0 2 2), (sV 9 0 3 3), (sV 16 0 3 3)])]
noncomputable def orcB2 := orcM 32 (memoL aB2 hB2 vB2) orcB1
noncomputable def cbB3 : Cfg := { CX with orc := orcB2 }
noncomputable def hB3 : List (Nat × AObj) := [(1, (.cells [(iV 4), (iV 6), (iV 10)] 3 none)), (2, (.cells [(iV 0), (iV 2)] 3 none)), (9, (.cells [(.string (ByteArray.mk #[97, 100, 97])), (sV 3 0 3 3), (iV 3), (.string (ByteArray.mk #[98, 101, 110])), (sV 5 0 3 3), (iV 2), (.string (ByteArray.mk #[99, 121])), (sV 7 0 3 3), (iV 4)] 59 none)), (3, (.cells [(iV 0), (iV 1), (iV 0)] 3 none)), (5, (.cells [(iV 1), (iV 1), (iV 2)] 3 none)), (7, (.cells [(iV 0), (iV 0), (iV 2)] 3 none)), (16, (.cells [(.string (ByteArray.mk #[107, 105, 110, 103])), (sV 10 0 3 3), (iV 3), (.string (ByteArray.mk #[110, 117, 110])), (sV 12 0 3 3), (iV 2), (.string (ByteArray.mk #[106, 117, 100, 103, 101])), (sV 14 0 3 3), (iV 2)] 59 none)), (10, (.cells [(iV 1), (.int .i64 (.negSucc 0)), (iV 2)] 3 none)), (12, (.cells [(iV 0), (iV 1), (iV 1)] 3 none)), (14, (.cells [(iV 1), (iV 0), (iV 2)] 3 none))]
noncomputable def nB3 : List (Nat × AObj) := [(241, (.cells [(iV 0), (iV 0)] 3 (some 1)))]
noncomputable def vB3 : Value := (.tuple ⟨[(sV 241 0 2 2), (iV 14), (iV 0)]⟩)
noncomputable def aB3 : List Value := [(gV [(sV 1 0 3 3), (sV 2 0 2 2), (sV 9 0 3 3), (sV 16 0 3 3)])]
noncomputable def orcB3 := orcL 34 aB3 hB3 126 vB3 nB3 242 orcB2
noncomputable def CXB : Cfg := { CX with orc := orcB3 }
end Go.Proofs.Ytepepiajmdpiiaa.K
