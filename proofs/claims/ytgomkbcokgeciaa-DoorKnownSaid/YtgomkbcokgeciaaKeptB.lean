/- Kept answers: what they are. -/
import Derived.Test.YtgomkbcokgeciaaLib
open Go Go.Eng
set_option maxRecDepth 1000000
set_option linter.unusedVariables false
namespace Go.Proofs.Ytgomkbcokgeciaa.K
noncomputable def yDB0 : Nat × AObj := (1, (.cells [(.string (ByteArray.mk #[99, 104, 97, 109, 98, 101, 114])), (iV 6), (iV 20)] 44 none))
noncomputable def yDB1 : Nat × AObj := (7, (.cells [(sV 2 0 1 1), (iV 40), (iV 2), (sV 3 0 1 1), (iV 408), (sV 4 0 2 2), (iV 30), (iV 0), (sV 5 0 1 1), (iV 198), (.slice none 0 0), (iV 5), (iV 0), (sV 6 0 1 1), (iV 114)] 53 none))
noncomputable def yDB2 : Nat × AObj := (2, (.cells [(.string (ByteArray.mk #[112, 97, 114, 105, 115, 104])), (iV 27)] 46 none))
noncomputable def yDB3 : Nat × AObj := (3, (.cells [(iV 18), (iV 3)] 49 none))
noncomputable def yDB4 : Nat × AObj := (4, (.cells [(.string (ByteArray.mk #[110, 111, 114, 116, 104])), (iV 14), (.string (ByteArray.mk #[115, 111, 117, 116, 104])), (iV 12)] 46 none))
noncomputable def yDB5 : Nat × AObj := (5, (.cells [(iV 25), (iV 1)] 49 none))
noncomputable def yDB6 : Nat × AObj := (6, (.cells [(iV 2), (iV 0)] 49 none))
noncomputable def cbB0 : Cfg := { CX with orc := orcLib }
noncomputable def hB0 : List (Nat × AObj) := [yDB0, yDB1, yDB2, yDB3, yDB4, yDB5, yDB6]
noncomputable def nB0 : List (Nat × AObj) := []
noncomputable def vB0 : Value := (.tuple ⟨[(gV [(iV 42), (iV 72)]), (iV 0)]⟩)
noncomputable def aB0 : List Value := [(gV [(iV 12), (sV 1 0 1 1), (sV 7 0 3 3)]), (iV 2)]
noncomputable def orcB0 := orcM 7 (memoL aB0 hB0 vB0) orcLib
noncomputable def cbB1 : Cfg := { CX with orc := orcB0 }
noncomputable def hB1 : List (Nat × AObj) := [yDB0, yDB1, yDB2, yDB3, yDB4, yDB5, yDB6]
noncomputable def nB1 : List (Nat × AObj) := []
noncomputable def vB1 : Value := (.tuple ⟨[(.map none), (iV 8)]⟩)
noncomputable def aB1 : List Value := [(gV [(iV 12), (sV 1 0 1 1), (sV 7 0 3 3), (.slice none 0 0), (iV 5), (iV 0), (sV 6 0 1 1), (iV 114)])]
noncomputable def orcB1 := orcM 48 (memoL aB1 hB1 vB1) orcB0
noncomputable def cbB2 : Cfg := { CX with orc := orcB1 }
noncomputable def hB2 : List (Nat × AObj) := [yDB0, yDB1, yDB2, yDB3, yDB4, yDB5, yDB6, (21, (.cells [(iV 18), (iV 33)] 49 none))]
noncomputable def nB2 : List (Nat × AObj) := []
noncomputable def vB2 : Value := (.bool true)
noncomputable def aB2 : List Value := [(gV [(iV 12), (sV 1 0 1 1), (sV 7 0 3 3), (sV 2 0 1 1), (iV 40), (iV 32), (sV 21 0 1 1), (iV 408)]), (.func (.func 21) ⟨[(iV 0)]⟩ ⟨[]⟩)]
noncomputable def orcB2 := orcM 31 (memoL aB2 hB2 vB2) orcB1
noncomputable def cbB3 : Cfg := { CX with orc := orcB2 }
noncomputable def hB3 : List (Nat × AObj) := [yDB0, yDB1, yDB2, yDB3, yDB4, yDB5, yDB6, (21, (.cells [(iV 18), (iV 18)] 49 none))]
noncomputable def nB3 : List (Nat × AObj) := []
noncomputable def vB3 : Value := (.bool true)
noncomputable def aB3 : List Value := [(gV [(iV 12), (sV 1 0 1 1), (sV 7 0 3 3), (sV 2 0 1 1), (iV 40), (iV 17), (sV 21 0 1 1), (iV 408)]), (.func (.func 21) ⟨[(iV 0)]⟩ ⟨[]⟩)]
noncomputable def orcB3 := orcM 31 (memoL aB3 hB3 vB3) orcB2
noncomputable def cbB4 : Cfg := { CX with orc := orcB3 }
noncomputable def hB4 : List (Nat × AObj) := [yDB0, yDB1, yDB2, yDB3, yDB4, yDB5, yDB6, (21, (.cells [(iV 18), (iV 10)] 49 none))]
noncomputable def nB4 : List (Nat × AObj) := []
noncomputable def vB4 : Value := (.bool true)
noncomputable def aB4 : List Value := [(gV [(iV 12), (sV 1 0 1 1), (sV 7 0 3 3), (sV 2 0 1 1), (iV 40), (iV 9), (sV 21 0 1 1), (iV 408)]), (.func (.func 21) ⟨[(iV 0)]⟩ ⟨[]⟩)]
noncomputable def orcB4 := orcM 31 (memoL aB4 hB4 vB4) orcB3
noncomputable def cbB5 : Cfg := { CX with orc := orcB4 }
noncomputable def hB5 : List (Nat × AObj) := [yDB0, yDB1, yDB2, yDB3, yDB4, yDB5, yDB6, (21, (.cells [(iV 18), (iV 6)] 49 none))]
noncomputable def nB5 : List (Nat × AObj) := []
noncomputable def vB5 : Value := (.bool true)
noncomputable def aB5 : List Value := [(gV [(iV 12), (sV 1 0 1 1), (sV 7 0 3 3), (sV 2 0 1 1), (iV 40), (iV 5), (sV 21 0 1 1), (iV 408)]), (.func (.func 21) ⟨[(iV 0)]⟩ ⟨[]⟩)]
noncomputable def orcB5 := orcM 31 (memoL aB5 hB5 vB5) orcB4
noncomputable def cbB6 : Cfg := { CX with orc := orcB5 }
noncomputable def hB6 : List (Nat × AObj) := [yDB0, yDB1, yDB2, yDB3, yDB4, yDB5, yDB6, (21, (.cells [(iV 18), (iV 4)] 49 none))]
noncomputable def nB6 : List (Nat × AObj) := []
noncomputable def vB6 : Value := (.bool true)
noncomputable def aB6 : List Value := [(gV [(iV 12), (sV 1 0 1 1), (sV 7 0 3 3), (sV 2 0 1 1), (iV 40), (iV 3), (sV 21 0 1 1), (iV 408)]), (.func (.func 21) ⟨[(iV 0)]⟩ ⟨[]⟩)]
noncomputable def orcB6 := orcM 31 (memoL aB6 hB6 vB6) orcB5
noncomputable def cbB7 : Cfg := { CX with orc := orcB6 }
noncomputable def hB7 : List (Nat × AObj) := [yDB0, yDB1, yDB2, yDB3, yDB4, yDB5, yDB6, (21, (.cells [(iV 18), (iV 3)] 49 none))]
noncomputable def nB7 : List (Nat × AObj) := []
noncomputable def vB7 : Value := (.bool true)
noncomputable def aB7 : List Value := [(gV [(iV 12), (sV 1 0 1 1), (sV 7 0 3 3), (sV 2 0 1 1), (iV 40), (iV 2), (sV 21 0 1 1), (iV 408)]), (.func (.func 21) ⟨[(iV 0)]⟩ ⟨[]⟩)]
noncomputable def orcB7 := orcM 31 (memoL aB7 hB7 vB7) orcB6
noncomputable def CXB : Cfg := { CX with orc := orcB7 }
end Go.Proofs.Ytgomkbcokgeciaa.K
