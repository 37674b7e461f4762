/- Kept answers: what they are. -/
import Derived.Test.YtalggihohgmpiaaLib
open Go Go.Eng
set_option maxRecDepth 1000000
set_option linter.unusedVariables false
namespace Go.Proofs.Ytalggihohgmpiaa.K
abbrev kiVB (n : Nat) : Value := Value.int .i64 (Int.ofNat n)
noncomputable def lwVB0 : Value := (.agg ⟨[(.slice (some ⟨3, 0, none⟩) 2 2), kiVB 2, kiVB 10, (.slice (some ⟨4, 0, none⟩) 4 4), (.slice (some ⟨5, 0, none⟩) 1 1)]⟩)
noncomputable def cbB0 : Cfg := { CX with orc := orcE }
noncomputable def hB0 : List (Nat × AObj) := [(3, (.cells [(.string (ByteArray.mk #[114, 101, 100])), kiVB 5, kiVB 100, (.slice (some ⟨1, 0, none⟩) 2 2), (.string (ByteArray.mk #[98, 108, 117, 101])), kiVB 4, kiVB 160, (.slice (some ⟨2, 0, none⟩) 2 2)] 46 none)), (1, (.cells [kiVB 60, kiVB 80, kiVB 30, kiVB 50] 42 none)), (2, (.cells [kiVB 50, kiVB 60, kiVB 30, kiVB 40] 42 none)), (4, (.cells [(.string (ByteArray.mk #[104, 101, 97, 100, 115])), kiVB 2, kiVB 0, kiVB 190, (.string (ByteArray.mk #[119, 105, 103, 115])), kiVB 1, kiVB 1, kiVB 250, (.string (ByteArray.mk #[119, 97, 120])), kiVB 3, kiVB 0, kiVB 230, (.string (ByteArray.mk #[103, 108, 97, 115, 115])), kiVB 2, kiVB 1, kiVB 240] 48 none)), (5, (.cells [kiVB 0, kiVB 2] 50 none)), (7, (.cells [kiVB 0, kiVB 0, kiVB 1, kiVB 0] 3 none))]
noncomputable def nB0 : List (Nat × AObj) := [(16, (.cells [kiVB 0, kiVB 0] 3 none))]
noncomputable def vB0 : Value := (.tuple ⟨[(.slice (some ⟨16, 0, none⟩) 2 2), kiVB 0]⟩)
noncomputable def aB0 : List Value := [lwVB0, (.slice (some ⟨7, 0, none⟩) 4 4), kiVB 1]
noncomputable def orcB0 := orcL 5 aB0 hB0 8 vB0 nB0 18 orcE
noncomputable def cbB1 : Cfg := { CX with orc := orcB0 }
noncomputable def hB1 : List (Nat × AObj) := [(3, (.cells [(.string (ByteArray.mk #[114, 101, 100])), kiVB 5, kiVB 100, (.slice (some ⟨1, 0, none⟩) 2 2), (.string (ByteArray.mk #[98, 108, 117, 101])), kiVB 4, kiVB 160, (.slice (some ⟨2, 0, none⟩) 2 2)] 46 none)), (1, (.cells [kiVB 60, kiVB 80, kiVB 30, kiVB 50] 42 none)), (2, (.cells [kiVB 50, kiVB 60, kiVB 30, kiVB 40] 42 none)), (4, (.cells [(.string (ByteArray.mk #[104, 101, 97, 100, 115])), kiVB 2, kiVB 0, kiVB 190, (.string (ByteArray.mk #[119, 105, 103, 115])), kiVB 1, kiVB 1, kiVB 250, (.string (ByteArray.mk #[119, 97, 120])), kiVB 3, kiVB 0, kiVB 230, (.string (ByteArray.mk #[103, 108, 97, 115, 115])), kiVB 2, kiVB 1, kiVB 240] 48 none)), (5, (.cells [kiVB 0, kiVB 2] 50 none)), (18, (.cells [kiVB 0, kiVB 0, kiVB 1, kiVB 0] 3 none))]
noncomputable def nB1 : List (Nat × AObj) := [(29, (.cells [kiVB 210, kiVB 220, kiVB 240, kiVB 260] 42 none))]
noncomputable def vB1 : Value := (.tuple ⟨[(.slice (some ⟨29, 0, none⟩) 2 2), kiVB 0]⟩)
noncomputable def aB1 : List Value := [lwVB0, (.slice (some ⟨18, 0, none⟩) 4 4), kiVB 1]
noncomputable def orcB1 := orcL 7 aB1 hB1 19 vB1 nB1 30 orcB0
noncomputable def cbB2 : Cfg := { CX with orc := orcB1 }
noncomputable def hB2 : List (Nat × AObj) := [(3, (.cells [(.string (ByteArray.mk #[114, 101, 100])), kiVB 5, kiVB 100, (.slice (some ⟨1, 0, none⟩) 2 2), (.string (ByteArray.mk #[98, 108, 117, 101])), kiVB 4, kiVB 160, (.slice (some ⟨2, 0, none⟩) 2 2)] 46 none)), (1, (.cells [kiVB 60, kiVB 80, kiVB 30, kiVB 50] 42 none)), (2, (.cells [kiVB 50, kiVB 60, kiVB 30, kiVB 40] 42 none)), (4, (.cells [(.string (ByteArray.mk #[104, 101, 97, 100, 115])), kiVB 2, kiVB 0, kiVB 190, (.string (ByteArray.mk #[119, 105, 103, 115])), kiVB 1, kiVB 1, kiVB 250, (.string (ByteArray.mk #[119, 97, 120])), kiVB 3, kiVB 0, kiVB 230, (.string (ByteArray.mk #[103, 108, 97, 115, 115])), kiVB 2, kiVB 1, kiVB 240] 48 none)), (5, (.cells [kiVB 0, kiVB 2] 50 none)), (30, (.cells [kiVB 0, kiVB 0, kiVB 1, kiVB 0] 3 none))]
noncomputable def nB2 : List (Nat × AObj) := []
noncomputable def vB2 : Value := (.tuple ⟨[kiVB 1, kiVB 0]⟩)
noncomputable def aB2 : List Value := [lwVB0, (.slice (some ⟨30, 0, none⟩) 4 4), kiVB 1]
noncomputable def orcB2 := orcP 8 (memoL aB2 hB2 vB2) orcB1
noncomputable def cbB3 : Cfg := { CX with orc := orcB2 }
noncomputable def hB3 : List (Nat × AObj) := [(3, (.cells [(.string (ByteArray.mk #[114, 101, 100])), kiVB 5, kiVB 100, (.slice (some ⟨1, 0, none⟩) 2 2), (.string (ByteArray.mk #[98, 108, 117, 101])), kiVB 4, kiVB 160, (.slice (some ⟨2, 0, none⟩) 2 2)] 46 none)), (1, (.cells [kiVB 60, kiVB 80, kiVB 30, kiVB 50] 42 none)), (2, (.cells [kiVB 50, kiVB 60, kiVB 30, kiVB 40] 42 none)), (4, (.cells [(.string (ByteArray.mk #[104, 101, 97, 100, 115])), kiVB 2, kiVB 0, kiVB 190, (.string (ByteArray.mk #[119, 105, 103, 115])), kiVB 1, kiVB 1, kiVB 250, (.string (ByteArray.mk #[119, 97, 120])), kiVB 3, kiVB 0, kiVB 230, (.string (ByteArray.mk #[103, 108, 97, 115, 115])), kiVB 2, kiVB 1, kiVB 240] 48 none)), (5, (.cells [kiVB 0, kiVB 2] 50 none)), (31, (.cells [kiVB 0, kiVB 0, kiVB 1, kiVB 0] 3 none))]
noncomputable def nB3 : List (Nat × AObj) := [(45, (.cells [kiVB 170, kiVB 170, kiVB 220, kiVB 240] 42 none))]
noncomputable def vB3 : Value := (.tuple ⟨[(.slice (some ⟨45, 0, none⟩) 2 2), kiVB 0]⟩)
noncomputable def aB3 : List Value := [lwVB0, (.slice (some ⟨31, 0, none⟩) 4 4), kiVB 0, kiVB 0, kiVB 170]
noncomputable def orcB3 := orcL 9 aB3 hB3 32 vB3 nB3 46 orcB2
noncomputable def CXB : Cfg := { CX with orc := orcB3 }
end Go.Proofs.Ytalggihohgmpiaa.K
