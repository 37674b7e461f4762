/- Kept answers: what they are. -/
import Derived.Test.YtaegcofpbihmhaaLib
open Go Go.Eng
set_option maxRecDepth 1000000
set_option linter.unusedVariables false
namespace Go.Proofs.Ytaegcofpbihmhaa.K
noncomputable def cbA0 : Cfg := { CX with orc := orcE }
noncomputable def hA0 : List (Nat × AObj) := [(1, (.cells [(.string (ByteArray.mk #[114, 101, 100])), ki 3, (.bool true), ki 90, ki 10, ki 3, ki 20, ki 100, (.string (ByteArray.mk #[98, 108, 117, 101])), ki 1, (.bool false), ki 0, ki 0, ki 0, ki 0, ki 0, (.string (ByteArray.mk #[103, 111, 108, 100])), ki 7, (.bool true), ki 120, ki 5, ki 8, ki 0, ki 60] 54 none)), (2, (.cells [(.string (ByteArray.mk #[113, 117, 101, 101, 110])), ki 50, ki 59, ki 2, (.string (ByteArray.mk #[98, 105, 115, 104, 111, 112])), ki 20, ki 80, ki 1, (.string (ByteArray.mk #[108, 97, 100, 121])), ki 45, ki 50, ki 4] 63 none)), (3, (.cells [ki 40, ki 150] 57 none))]
noncomputable def nA0 : List (Nat × AObj) := [(1149, (.cells [ki 0, ki 1, ki 2, ki 0] 3 (some 1)))]
noncomputable def vA0 : Value := (.tuple ⟨[(.slice (some ⟨1149, 0, none⟩) 3 3), ki 0]⟩)
noncomputable def aA0 : List Value := [(.agg ⟨[(.slice (some ⟨1, 0, none⟩) 3 3), (.slice (some ⟨2, 0, none⟩) 3 3), ki 100, (.slice (some ⟨3, 0, none⟩) 1 1)]⟩), ki 1]
noncomputable def orcA0 := orcL 14 aA0 hA0 12 vA0 nA0 1151 orcE
noncomputable def cbA1 : Cfg := { CX with orc := orcA0 }
noncomputable def hA1 : List (Nat × AObj) := [(1, (.cells [(.string (ByteArray.mk #[114, 101, 100])), ki 3, (.bool true), ki 90, ki 10, ki 3, ki 20, ki 100, (.string (ByteArray.mk #[98, 108, 117, 101])), ki 1, (.bool false), ki 0, ki 0, ki 0, ki 0, ki 0, (.string (ByteArray.mk #[103, 111, 108, 100])), ki 7, (.bool true), ki 120, ki 5, ki 8, ki 0, ki 60] 54 none)), (2, (.cells [(.string (ByteArray.mk #[113, 117, 101, 101, 110])), ki 50, ki 59, ki 2, (.string (ByteArray.mk #[98, 105, 115, 104, 111, 112])), ki 20, ki 80, ki 1, (.string (ByteArray.mk #[108, 97, 100, 121])), ki 45, ki 50, ki 4] 63 none)), (3, (.cells [ki 40, ki 150] 57 none)), (1151, (.cells [ki 0, ki 1, ki 0, ki 1, ki 0, ki 0, ki 2, ki 2, ki 0] 48 none))]
noncomputable def nA1 : List (Nat × AObj) := []
noncomputable def vA1 : Value := (.tuple ⟨[ki 102, ki 0]⟩)
noncomputable def aA1 : List Value := [(.agg ⟨[(.slice (some ⟨1, 0, none⟩) 3 3), (.slice (some ⟨2, 0, none⟩) 3 3), ki 100, (.slice (some ⟨3, 0, none⟩) 1 1)]⟩), (.slice (some ⟨1151, 0, none⟩) 3 3), ki 45]
noncomputable def orcA1 := orcP 19 (memoL aA1 hA1 vA1) orcA0
noncomputable def cbA2 : Cfg := { CX with orc := orcA1 }
noncomputable def hA2 : List (Nat × AObj) := [(1, (.cells [(.string (ByteArray.mk #[114, 101, 100])), ki 3, (.bool true), ki 90, ki 10, ki 3, ki 20, ki 100, (.string (ByteArray.mk #[98, 108, 117, 101])), ki 1, (.bool false), ki 0, ki 0, ki 0, ki 0, ki 0, (.string (ByteArray.mk #[103, 111, 108, 100])), ki 7, (.bool true), ki 120, ki 5, ki 8, ki 0, ki 60] 54 none)), (2, (.cells [(.string (ByteArray.mk #[113, 117, 101, 101, 110])), ki 50, ki 59, ki 2, (.string (ByteArray.mk #[98, 105, 115, 104, 111, 112])), ki 20, ki 80, ki 1, (.string (ByteArray.mk #[108, 97, 100, 121])), ki 45, ki 50, ki 4] 63 none)), (3, (.cells [ki 40, ki 150] 57 none)), (1152, (.cells [ki 0, ki 1, ki 0, ki 1, ki 0, ki 0, ki 2, ki 2, ki 0] 48 none))]
noncomputable def nA2 : List (Nat × AObj) := []
noncomputable def vA2 : Value := (.tuple ⟨[ki 0, ki 4]⟩)
noncomputable def aA2 : List Value := [(.agg ⟨[(.slice (some ⟨1, 0, none⟩) 3 3), (.slice (some ⟨2, 0, none⟩) 3 3), ki 100, (.slice (some ⟨3, 0, none⟩) 1 1)]⟩), (.slice (some ⟨1152, 0, none⟩) 3 3)]
noncomputable def orcA2 := orcP 51 (memoL aA2 hA2 vA2) orcA1
noncomputable def cbA3 : Cfg := { CX with orc := orcA2 }
noncomputable def hA3 : List (Nat × AObj) := [(6, (.cells [(.string (ByteArray.mk #[114, 101, 100])), ki 3, (.bool true), ki 90, ki 10, ki 3, ki 20, ki 100, (.string (ByteArray.mk #[98, 108, 117, 101])), ki 1, (.bool false), ki 0, ki 0, ki 0, ki 0, ki 0, (.string (ByteArray.mk #[103, 111, 108, 100])), ki 7, (.bool true), ki 120, ki 5, ki 8, ki 0, ki 60] 54 none)), (7, (.cells [(.string (ByteArray.mk #[113, 117, 101, 101, 110])), ki 50, ki 59, ki 2, (.string (ByteArray.mk #[98, 105, 115, 104, 111, 112])), ki 20, ki 80, ki 1, (.string (ByteArray.mk #[108, 97, 100, 121])), ki 45, ki 50, ki 4] 63 none)), (1153, (.cells [ki 0, ki 1, ki 0, ki 1, ki 0, ki 0, ki 2, ki 2, ki 0] 48 none))]
noncomputable def nA3 : List (Nat × AObj) := []
noncomputable def vA3 : Value := (.tuple ⟨[ki 0, ki 0]⟩)
noncomputable def aA3 : List Value := [(.agg ⟨[(.slice (some ⟨6, 0, none⟩) 3 3), (.slice (some ⟨7, 0, none⟩) 3 3), ki 20, (.slice none 0 0)]⟩), (.slice (some ⟨1153, 0, none⟩) 3 3)]
noncomputable def orcA3 := orcP 51 (memoL aA3 hA3 vA3) orcA2
noncomputable def cbA4 : Cfg := { CX with orc := orcA3 }
noncomputable def hA4 : List (Nat × AObj) := [(1, (.cells [(.string (ByteArray.mk #[114, 101, 100])), ki 3, (.bool true), ki 90, ki 10, ki 3, ki 20, ki 100, (.string (ByteArray.mk #[98, 108, 117, 101])), ki 1, (.bool false), ki 0, ki 0, ki 0, ki 0, ki 0, (.string (ByteArray.mk #[103, 111, 108, 100])), ki 7, (.bool true), ki 120, ki 5, ki 8, ki 0, ki 60] 54 none)), (2, (.cells [(.string (ByteArray.mk #[113, 117, 101, 101, 110])), ki 50, ki 59, ki 2, (.string (ByteArray.mk #[98, 105, 115, 104, 111, 112])), ki 20, ki 80, ki 1, (.string (ByteArray.mk #[108, 97, 100, 121])), ki 45, ki 50, ki 4] 63 none)), (3, (.cells [ki 40, ki 150] 57 none))]
noncomputable def nA4 : List (Nat × AObj) := [(1160, (.map [((.agg ⟨[ki 0, ki 1, ki 2]⟩), (ki 78)), ((.agg ⟨[ki 0, ki 1, (.int .i64 (.negSucc 0))]⟩), (ki 30)), ((.agg ⟨[ki 0, (.int .i64 (.negSucc 0)), ki 2]⟩), (ki 78)), ((.agg ⟨[ki 0, (.int .i64 (.negSucc 0)), (.int .i64 (.negSucc 0))]⟩), (ki 30)), ((.agg ⟨[ki 2, ki 0, (.int .i64 (.negSucc 0))]⟩), (ki 180)), ((.agg ⟨[ki 2, ki 1, (.int .i64 (.negSucc 0))]⟩), (ki 80)), ((.agg ⟨[ki 2, (.int .i64 (.negSucc 0)), (.int .i64 (.negSucc 0))]⟩), (ki 80)), ((.agg ⟨[(.int .i64 (.negSucc 0)), ki 0, ki 2]⟩), (ki 148)), ((.agg ⟨[(.int .i64 (.negSucc 0)), ki 0, (.int .i64 (.negSucc 0))]⟩), (ki 100)), ((.agg ⟨[(.int .i64 (.negSucc 0)), ki 1, ki 2]⟩), (ki 48)), ((.agg ⟨[(.int .i64 (.negSucc 0)), ki 1, (.int .i64 (.negSucc 0))]⟩), (ki 0)), ((.agg ⟨[(.int .i64 (.negSucc 0)), (.int .i64 (.negSucc 0)), ki 2]⟩), (ki 48)), ((.agg ⟨[(.int .i64 (.negSucc 0)), (.int .i64 (.negSucc 0)), (.int .i64 (.negSucc 0))]⟩), (ki 0))]))]
noncomputable def vA4 : Value := (.map (some 1160))
noncomputable def aA4 : List Value := [(.agg ⟨[(.slice (some ⟨1, 0, none⟩) 3 3), (.slice (some ⟨2, 0, none⟩) 3 3), ki 100, (.slice (some ⟨3, 0, none⟩) 1 1), (.bool false), ki 0, (.func (.func 96) ⟨[]⟩ ⟨[]⟩), (.func (.func 97) ⟨[]⟩ ⟨[]⟩), (.bool true), ki 364, (.func (.func 98) ⟨[]⟩ ⟨[]⟩), (.func (.func 99) ⟨[]⟩ ⟨[]⟩), (.bool true), ki 0, (.func (.func 100) ⟨[]⟩ ⟨[]⟩), (.func (.func 101) ⟨[]⟩ ⟨[]⟩)]⟩)]
noncomputable def orcA4 := orcL 57 aA4 hA4 1159 vA4 nA4 4884 orcA3
noncomputable def cbA5 : Cfg := { CX with orc := orcA4 }
noncomputable def hA5 : List (Nat × AObj) := [(1, (.cells [(.string (ByteArray.mk #[114, 101, 100])), ki 3, (.bool true), ki 90, ki 10, ki 3, ki 20, ki 100, (.string (ByteArray.mk #[98, 108, 117, 101])), ki 1, (.bool false), ki 0, ki 0, ki 0, ki 0, ki 0, (.string (ByteArray.mk #[103, 111, 108, 100])), ki 7, (.bool true), ki 120, ki 5, ki 8, ki 0, ki 60] 54 none)), (2, (.cells [(.string (ByteArray.mk #[113, 117, 101, 101, 110])), ki 50, ki 59, ki 2, (.string (ByteArray.mk #[98, 105, 115, 104, 111, 112])), ki 20, ki 80, ki 1, (.string (ByteArray.mk #[108, 97, 100, 121])), ki 45, ki 50, ki 4] 63 none)), (3, (.cells [ki 40, ki 150] 57 none)), (1160, (.map [((.agg ⟨[ki 0, ki 1, ki 2]⟩), (ki 78)), ((.agg ⟨[ki 0, ki 1, (.int .i64 (.negSucc 0))]⟩), (ki 30)), ((.agg ⟨[ki 0, (.int .i64 (.negSucc 0)), ki 2]⟩), (ki 78)), ((.agg ⟨[ki 0, (.int .i64 (.negSucc 0)), (.int .i64 (.negSucc 0))]⟩), (ki 30)), ((.agg ⟨[ki 2, ki 0, (.int .i64 (.negSucc 0))]⟩), (ki 180)), ((.agg ⟨[ki 2, ki 1, (.int .i64 (.negSucc 0))]⟩), (ki 80)), ((.agg ⟨[ki 2, (.int .i64 (.negSucc 0)), (.int .i64 (.negSucc 0))]⟩), (ki 80)), ((.agg ⟨[(.int .i64 (.negSucc 0)), ki 0, ki 2]⟩), (ki 148)), ((.agg ⟨[(.int .i64 (.negSucc 0)), ki 0, (.int .i64 (.negSucc 0))]⟩), (ki 100)), ((.agg ⟨[(.int .i64 (.negSucc 0)), ki 1, ki 2]⟩), (ki 48)), ((.agg ⟨[(.int .i64 (.negSucc 0)), ki 1, (.int .i64 (.negSucc 0))]⟩), (ki 0)), ((.agg ⟨[(.int .i64 (.negSucc 0)), (.int .i64 (.negSucc 0)), ki 2]⟩), (ki 48)), ((.agg ⟨[(.int .i64 (.negSucc 0)), (.int .i64 (.negSucc 0)), (.int .i64 (.negSucc 0))]⟩), (ki 0))]))]
noncomputable def nA5 : List (Nat × AObj) := []
noncomputable def vA5 : Value := (.agg ⟨[ki 0, ki 78]⟩)
noncomputable def aA5 : List Value := [(.agg ⟨[(.slice (some ⟨1, 0, none⟩) 3 3), (.slice (some ⟨2, 0, none⟩) 3 3), ki 100, (.slice (some ⟨3, 0, none⟩) 1 1), (.bool false), ki 0, (.func (.func 96) ⟨[]⟩ ⟨[]⟩), (.func (.func 97) ⟨[]⟩ ⟨[]⟩), (.bool true), ki 364, (.func (.func 98) ⟨[]⟩ ⟨[]⟩), (.func (.func 99) ⟨[]⟩ ⟨[]⟩), (.bool true), ki 0, (.func (.func 100) ⟨[]⟩ ⟨[]⟩), (.func (.func 101) ⟨[]⟩ ⟨[]⟩)]⟩), (.map (some 1160))]
noncomputable def tA5x0w0 : Value := (.tuple ⟨[(.bool true), (.agg ⟨[ki 2, (.int .i64 (.negSucc 0)), (.int .i64 (.negSucc 0))]⟩), ki 80]⟩)
noncomputable def tA5x0w1 : Value := (.tuple ⟨[(.bool true), (.agg ⟨[(.int .i64 (.negSucc 0)), (.int .i64 (.negSucc 0)), (.int .i64 (.negSucc 0))]⟩), ki 0]⟩)
noncomputable def tA5x0w2 : Value := (.tuple ⟨[(.bool true), (.agg ⟨[ki 2, ki 1, (.int .i64 (.negSucc 0))]⟩), ki 80]⟩)
noncomputable def tA5x0w3 : Value := (.agg ⟨[(.int .i64 (.negSucc 0)), ki 0, (.int .i64 (.negSucc 0))]⟩)
noncomputable def tA5x0w4 : Value := (.func (.yield 4892) ⟨[]⟩ ⟨[]⟩)
noncomputable def tA5x0w5 : Value := (.tuple ⟨[(.bool true), (.agg ⟨[ki 0, ki 1, (.int .i64 (.negSucc 0))]⟩), ki 30]⟩)
noncomputable def tA5x0w6 : Value := (.agg ⟨[(.int .i64 (.negSucc 0)), ki 1, (.int .i64 (.negSucc 0))]⟩)
noncomputable def tA5x0w7 : Value := (.pointer (some ⟨4894, 0, none⟩))
noncomputable def tA5x0w8 : Value := (.tuple ⟨[(.agg ⟨[(.int .i64 (.negSucc 0)), ki 0, ki 2]⟩), ki 148]⟩)
noncomputable def tA5x0w9 : Value := (.tuple ⟨[(.agg ⟨[ki 2, ki 0, (.int .i64 (.negSucc 0))]⟩), ki 180]⟩)
noncomputable def tA5x0w10 : Value := (.agg ⟨[ki 2, ki 0, (.int .i64 (.negSucc 0))]⟩)
noncomputable def tA5x0w11 : Value := (.tuple ⟨[(.agg ⟨[(.int .i64 (.negSucc 0)), ki 1, ki 2]⟩), ki 48]⟩)
noncomputable def tA5x0w12 : Value := (.agg ⟨[ki 2, ki 0]⟩)
noncomputable def tA5x0w13 : Value := (.tuple ⟨[(.agg ⟨[ki 2, ki 1, (.int .i64 (.negSucc 0))]⟩), ki 80]⟩)
noncomputable def tA5x0w14 : Value := (.agg ⟨[ki 2, ki 30]⟩)
noncomputable def tA5x0w15 : Value := (.agg ⟨[(.int .i64 (.negSucc 0)), ki 0, ki 2]⟩)
noncomputable def tA5x0w16 : Value := (.agg ⟨[ki 1, ki 78]⟩)
noncomputable def tA5x0w17 : Value := (.agg ⟨[ki 2, ki 100]⟩)
noncomputable def tA5x0w18 : Value := (.agg ⟨[ki 1, ki 80]⟩)
noncomputable def tA5x0w19 : Value := (.tuple ⟨[(.agg ⟨[(.int .i64 (.negSucc 0)), ki 0, (.int .i64 (.negSucc 0))]⟩), ki 100]⟩)
noncomputable def tA5x0w20 : Value := (.tuple ⟨[(.agg ⟨[ki 0, (.int .i64 (.negSucc 0)), ki 2]⟩), ki 78]⟩)
noncomputable def tA5x0w21 : Value := (.tuple ⟨[(.agg ⟨[(.int .i64 (.negSucc 0)), (.int .i64 (.negSucc 0)), (.int .i64 (.negSucc 0))]⟩), ki 0]⟩)
noncomputable def tA5x0w22 : Value := (.tuple ⟨[(.bool true), (.agg ⟨[(.int .i64 (.negSucc 0)), ki 0, (.int .i64 (.negSucc 0))]⟩), ki 100]⟩)
noncomputable def tA5x0w23 : Value := (.tuple ⟨[(.agg ⟨[ki 0, (.int .i64 (.negSucc 0)), (.int .i64 (.negSucc 0))]⟩), ki 30]⟩)
noncomputable def tA5x0w24 : Value := (.tuple ⟨[(.bool true), (.agg ⟨[(.int .i64 (.negSucc 0)), (.int .i64 (.negSucc 0)), ki 2]⟩), ki 48]⟩)
noncomputable def tA5x0w25 : Value := (.tuple ⟨[(.bool true), (.agg ⟨[ki 0, (.int .i64 (.negSucc 0)), (.int .i64 (.negSucc 0))]⟩), ki 30]⟩)
noncomputable def tA5x0w26 : Value := (.agg ⟨[ki 1, ki 180]⟩)
noncomputable def tA5x0w27 : Value := (.agg ⟨[ki 0, (.int .i64 (.negSucc 0)), ki 2]⟩)
noncomputable def tA5x0w28 : Value := (.agg ⟨[(.slice (some ⟨1, 0, none⟩) 3 3), (.slice (some ⟨2, 0, none⟩) 3 3), ki 100, (.slice (some ⟨3, 0, none⟩) 1 1), (.bool false), ki 0, (.func (.func 96) ⟨[]⟩ ⟨[]⟩), (.func (.func 97) ⟨[]⟩ ⟨[]⟩), (.bool true), ki 364, (.func (.func 98) ⟨[]⟩ ⟨[]⟩), (.func (.func 99) ⟨[]⟩ ⟨[]⟩), (.bool true), ki 0, (.func (.func 100) ⟨[]⟩ ⟨[]⟩), (.func (.func 101) ⟨[]⟩ ⟨[]⟩)]⟩)
noncomputable def tA5x0w29 : Value := (.agg ⟨[(.int .i64 (.negSucc 0)), ki 1, ki 2]⟩)
noncomputable def tA5x0w30 : Value := (.agg ⟨[ki 0, ki 1, (.int .i64 (.negSucc 0))]⟩)
noncomputable def tA5x0w31 : Value := (.agg ⟨[ki 0, (.int .i64 (.negSucc 0)), (.int .i64 (.negSucc 0))]⟩)
noncomputable def tA5x0w32 : Value := (.agg ⟨[ki 1, ki 30]⟩)
noncomputable def tA5x0w33 : Value := (.agg ⟨[ki 2, ki 48]⟩)
noncomputable def tA5x0w34 : Value := (.agg ⟨[(.int .i64 (.negSucc 0)), (.int .i64 (.negSucc 0)), ki 2]⟩)
noncomputable def tA5x0w35 : Value := (.agg ⟨[ki 0, ki 1, ki 2]⟩)
noncomputable def tA5x0w36 : Value := (.agg ⟨[ki 3, ki 0]⟩)
noncomputable def tA5x0w37 : Value := (.tuple ⟨[(.agg ⟨[(.int .i64 (.negSucc 0)), (.int .i64 (.negSucc 0)), ki 2]⟩), ki 48]⟩)
noncomputable def tA5x0w38 : Value := (.agg ⟨[ki 1, ki 48]⟩)
noncomputable def tA5x0w39 : Value := (.tuple ⟨[(.bool true), (.agg ⟨[(.int .i64 (.negSucc 0)), ki 0, ki 2]⟩), ki 148]⟩)
noncomputable def tA5x0w40 : Value := (.agg ⟨[ki 2, ki 80]⟩)
noncomputable def tA5x0w41 : Value := (.agg ⟨[ki 1, ki 148]⟩)
noncomputable def tA5x0w42 : Value := (.agg ⟨[(.int .i64 (.negSucc 0)), (.int .i64 (.negSucc 0)), (.int .i64 (.negSucc 0))]⟩)
noncomputable def tA5x0w43 : Value := (.tuple ⟨[(.bool true), (.agg ⟨[(.int .i64 (.negSucc 0)), ki 1, (.int .i64 (.negSucc 0))]⟩), ki 0]⟩)
noncomputable def tA5x0w44 : Value := (.tuple ⟨[(.bool true), (.agg ⟨[ki 2, ki 0, (.int .i64 (.negSucc 0))]⟩), ki 180]⟩)
noncomputable def tA5x0w45 : Value := (.tuple ⟨[(.bool true), (.agg ⟨[(.int .i64 (.negSucc 0)), ki 1, ki 2]⟩), ki 48]⟩)
noncomputable def tA5x0w46 : Value := (.tuple ⟨[(.agg ⟨[ki 2, (.int .i64 (.negSucc 0)), (.int .i64 (.negSucc 0))]⟩), ki 80]⟩)
noncomputable def tA5x0w47 : Value := (.agg ⟨[ki 2, (.int .i64 (.negSucc 0)), (.int .i64 (.negSucc 0))]⟩)
noncomputable def tA5x0w48 : Value := (.agg ⟨[ki 2, ki 1, (.int .i64 (.negSucc 0))]⟩)
noncomputable def tA5x0w49 : Value := (.tuple ⟨[(.agg ⟨[(.int .i64 (.negSucc 0)), ki 1, (.int .i64 (.negSucc 0))]⟩), ki 0]⟩)
noncomputable def tA5x0w50 : Value := (.tuple ⟨[(.agg ⟨[ki 0, ki 1, (.int .i64 (.negSucc 0))]⟩), ki 30]⟩)
noncomputable def tA5x0w51 : Value := (.tuple ⟨[(.bool true), (.agg ⟨[ki 0, (.int .i64 (.negSucc 0)), ki 2]⟩), ki 78]⟩)
noncomputable def rw0 (v0 : Value) (v1 : Value) (v2 : Value) (v3 : Value) (v4 : Value) (v5 : Value) (v6 : AObj) : LTabS := ⟨[(0, none), (1, none), (2, none), (4, some tA5x0w7), (5, some v0), (6, none), (7, none), (8, some v1), (9, some (.bool true)), (10, some v2), (11, some v3), (12, some v0), (13, some tA5x0w4), (14, some tA5x0w28), (15, some v3), (16, some v4), (17, some v0), (18, some v5), (19, some (.bool true)), (20, some (.bool false))], [(4884, none), (4885, none), (4886, none), (4887, none), (4888, none), (4889, some v6), (4890, some (.cells [(.bool true)] 4 none)), (4891, none), (4892, none)], 1⟩
noncomputable def z (b : List Nat) (l : List Nat) : List (Nat × List Nat) := l.map fun a => (a, b)
noncomputable def tA5x0 : LTab := ⟨4893, 1160, [1, 2, 3, 1160], [⟨[(0, none), (1, none), (2, none), (6, none), (7, none)], [(4884, none), (4885, none), (4886, none), (4887, none), (4888, none), (4889, none), (4890, none), (4891, none), (4892, none)], 0⟩,
  rw0 (ki 78) (.tuple ⟨[(.bool true), (.agg ⟨[ki 0, ki 1, ki 2]⟩), ki 78]⟩) (.tuple ⟨[(.agg ⟨[ki 0, ki 1, ki 2]⟩), ki 78]⟩) tA5x0w35 (ki 0) (.agg ⟨[ki 0, ki 78]⟩) (.cells [ki 0, ki 78] 109 none),
  rw0 (ki 30) tA5x0w5 tA5x0w50 tA5x0w30 (ki 1) tA5x0w32 (.cells [ki 1, ki 30] 109 none),
  rw0 (ki 78) tA5x0w51 tA5x0w20 tA5x0w27 (ki 1) tA5x0w16 (.cells [ki 1, ki 78] 109 none),
  rw0 (ki 30) tA5x0w25 tA5x0w23 tA5x0w31 (ki 2) tA5x0w14 (.cells [ki 2, ki 30] 109 none),
  rw0 (ki 180) tA5x0w44 tA5x0w9 tA5x0w10 (ki 1) tA5x0w26 (.cells [ki 1, ki 180] 109 none),
  rw0 (ki 80) tA5x0w2 tA5x0w13 tA5x0w48 (ki 1) tA5x0w18 (.cells [ki 1, ki 80] 109 none),
  rw0 (ki 80) tA5x0w0 tA5x0w46 tA5x0w47 (ki 2) tA5x0w40 (.cells [ki 2, ki 80] 109 none),
  rw0 (ki 148) tA5x0w39 tA5x0w8 tA5x0w15 (ki 1) tA5x0w41 (.cells [ki 1, ki 148] 109 none),
  rw0 (ki 100) tA5x0w22 tA5x0w19 tA5x0w3 (ki 2) tA5x0w17 (.cells [ki 2, ki 100] 109 none),
  rw0 (ki 48) tA5x0w45 tA5x0w11 tA5x0w29 (ki 1) tA5x0w38 (.cells [ki 1, ki 48] 109 none),
  rw0 (ki 0) tA5x0w43 tA5x0w49 tA5x0w6 (ki 2) tA5x0w12 (.cells [ki 2, ki 0] 109 none),
  rw0 (ki 48) tA5x0w24 tA5x0w37 tA5x0w34 (ki 2) tA5x0w33 (.cells [ki 2, ki 48] 109 none),
  rw0 (ki 0) tA5x0w1 tA5x0w21 tA5x0w42 (ki 3) tA5x0w36 (.cells [ki 3, ki 0] 109 none),
  rw0 (ki 30) tA5x0w5 tA5x0w50 tA5x0w30 (ki 1) tA5x0w32 (.cells [ki 0, ki 78] 109 none),
  rw0 (ki 78) tA5x0w51 tA5x0w20 tA5x0w27 (ki 1) tA5x0w16 (.cells [ki 0, ki 78] 109 none),
  rw0 (ki 30) tA5x0w25 tA5x0w23 tA5x0w31 (ki 2) tA5x0w14 (.cells [ki 0, ki 78] 109 none),
  rw0 (ki 180) tA5x0w44 tA5x0w9 tA5x0w10 (ki 1) tA5x0w26 (.cells [ki 0, ki 78] 109 none),
  rw0 (ki 80) tA5x0w2 tA5x0w13 tA5x0w48 (ki 1) tA5x0w18 (.cells [ki 0, ki 78] 109 none),
  rw0 (ki 80) tA5x0w0 tA5x0w46 tA5x0w47 (ki 2) tA5x0w40 (.cells [ki 0, ki 78] 109 none),
  rw0 (ki 148) tA5x0w39 tA5x0w8 tA5x0w15 (ki 1) tA5x0w41 (.cells [ki 0, ki 78] 109 none),
  rw0 (ki 100) tA5x0w22 tA5x0w19 tA5x0w3 (ki 2) tA5x0w17 (.cells [ki 0, ki 78] 109 none),
  rw0 (ki 48) tA5x0w45 tA5x0w11 tA5x0w29 (ki 1) tA5x0w38 (.cells [ki 0, ki 78] 109 none),
  rw0 (ki 0) tA5x0w43 tA5x0w49 tA5x0w6 (ki 2) tA5x0w12 (.cells [ki 0, ki 78] 109 none),
  rw0 (ki 48) tA5x0w24 tA5x0w37 tA5x0w34 (ki 2) tA5x0w33 (.cells [ki 0, ki 78] 109 none),
  rw0 (ki 0) tA5x0w1 tA5x0w21 tA5x0w42 (ki 3) tA5x0w36 (.cells [ki 0, ki 78] 109 none),
  rw0 (ki 78) tA5x0w51 tA5x0w20 tA5x0w27 (ki 1) tA5x0w16 (.cells [ki 1, ki 30] 109 none),
  rw0 (ki 30) tA5x0w25 tA5x0w23 tA5x0w31 (ki 2) tA5x0w14 (.cells [ki 1, ki 30] 109 none),
  rw0 (ki 180) tA5x0w44 tA5x0w9 tA5x0w10 (ki 1) tA5x0w26 (.cells [ki 1, ki 30] 109 none),
  rw0 (ki 80) tA5x0w2 tA5x0w13 tA5x0w48 (ki 1) tA5x0w18 (.cells [ki 1, ki 30] 109 none),
  rw0 (ki 80) tA5x0w0 tA5x0w46 tA5x0w47 (ki 2) tA5x0w40 (.cells [ki 1, ki 30] 109 none),
  rw0 (ki 148) tA5x0w39 tA5x0w8 tA5x0w15 (ki 1) tA5x0w41 (.cells [ki 1, ki 30] 109 none),
  rw0 (ki 100) tA5x0w22 tA5x0w19 tA5x0w3 (ki 2) tA5x0w17 (.cells [ki 1, ki 30] 109 none),
  rw0 (ki 48) tA5x0w45 tA5x0w11 tA5x0w29 (ki 1) tA5x0w38 (.cells [ki 1, ki 30] 109 none),
  rw0 (ki 0) tA5x0w43 tA5x0w49 tA5x0w6 (ki 2) tA5x0w12 (.cells [ki 1, ki 30] 109 none),
  rw0 (ki 48) tA5x0w24 tA5x0w37 tA5x0w34 (ki 2) tA5x0w33 (.cells [ki 1, ki 30] 109 none),
  rw0 (ki 0) tA5x0w1 tA5x0w21 tA5x0w42 (ki 3) tA5x0w36 (.cells [ki 1, ki 30] 109 none),
  rw0 (ki 30) tA5x0w25 tA5x0w23 tA5x0w31 (ki 2) tA5x0w14 (.cells [ki 1, ki 78] 109 none),
  rw0 (ki 180) tA5x0w44 tA5x0w9 tA5x0w10 (ki 1) tA5x0w26 (.cells [ki 1, ki 78] 109 none),
  rw0 (ki 80) tA5x0w2 tA5x0w13 tA5x0w48 (ki 1) tA5x0w18 (.cells [ki 1, ki 78] 109 none),
  rw0 (ki 80) tA5x0w0 tA5x0w46 tA5x0w47 (ki 2) tA5x0w40 (.cells [ki 1, ki 78] 109 none),
  rw0 (ki 148) tA5x0w39 tA5x0w8 tA5x0w15 (ki 1) tA5x0w41 (.cells [ki 1, ki 78] 109 none),
  rw0 (ki 100) tA5x0w22 tA5x0w19 tA5x0w3 (ki 2) tA5x0w17 (.cells [ki 1, ki 78] 109 none),
  rw0 (ki 0) tA5x0w43 tA5x0w49 tA5x0w6 (ki 2) tA5x0w12 (.cells [ki 1, ki 78] 109 none),
  rw0 (ki 48) tA5x0w24 tA5x0w37 tA5x0w34 (ki 2) tA5x0w33 (.cells [ki 1, ki 78] 109 none),
  rw0 (ki 0) tA5x0w1 tA5x0w21 tA5x0w42 (ki 3) tA5x0w36 (.cells [ki 1, ki 78] 109 none),
  rw0 (ki 80) tA5x0w0 tA5x0w46 tA5x0w47 (ki 2) tA5x0w40 (.cells [ki 2, ki 30] 109 none),
  rw0 (ki 100) tA5x0w22 tA5x0w19 tA5x0w3 (ki 2) tA5x0w17 (.cells [ki 2, ki 30] 109 none),
  rw0 (ki 48) tA5x0w24 tA5x0w37 tA5x0w34 (ki 2) tA5x0w33 (.cells [ki 2, ki 30] 109 none),
  rw0 (ki 0) tA5x0w1 tA5x0w21 tA5x0w42 (ki 3) tA5x0w36 (.cells [ki 2, ki 30] 109 none),
  rw0 (ki 30) tA5x0w25 tA5x0w23 tA5x0w31 (ki 2) tA5x0w14 (.cells [ki 1, ki 180] 109 none),
  rw0 (ki 80) tA5x0w0 tA5x0w46 tA5x0w47 (ki 2) tA5x0w40 (.cells [ki 1, ki 180] 109 none),
  rw0 (ki 100) tA5x0w22 tA5x0w19 tA5x0w3 (ki 2) tA5x0w17 (.cells [ki 1, ki 180] 109 none),
  rw0 (ki 0) tA5x0w43 tA5x0w49 tA5x0w6 (ki 2) tA5x0w12 (.cells [ki 1, ki 180] 109 none),
  rw0 (ki 48) tA5x0w24 tA5x0w37 tA5x0w34 (ki 2) tA5x0w33 (.cells [ki 1, ki 180] 109 none),
  rw0 (ki 0) tA5x0w1 tA5x0w21 tA5x0w42 (ki 3) tA5x0w36 (.cells [ki 1, ki 180] 109 none),
  rw0 (ki 30) tA5x0w25 tA5x0w23 tA5x0w31 (ki 2) tA5x0w14 (.cells [ki 1, ki 80] 109 none),
  rw0 (ki 180) tA5x0w44 tA5x0w9 tA5x0w10 (ki 1) tA5x0w26 (.cells [ki 1, ki 80] 109 none),
  rw0 (ki 80) tA5x0w0 tA5x0w46 tA5x0w47 (ki 2) tA5x0w40 (.cells [ki 1, ki 80] 109 none),
  rw0 (ki 148) tA5x0w39 tA5x0w8 tA5x0w15 (ki 1) tA5x0w41 (.cells [ki 1, ki 80] 109 none),
  rw0 (ki 100) tA5x0w22 tA5x0w19 tA5x0w3 (ki 2) tA5x0w17 (.cells [ki 1, ki 80] 109 none),
  rw0 (ki 0) tA5x0w43 tA5x0w49 tA5x0w6 (ki 2) tA5x0w12 (.cells [ki 1, ki 80] 109 none),
  rw0 (ki 48) tA5x0w24 tA5x0w37 tA5x0w34 (ki 2) tA5x0w33 (.cells [ki 1, ki 80] 109 none),
  rw0 (ki 0) tA5x0w1 tA5x0w21 tA5x0w42 (ki 3) tA5x0w36 (.cells [ki 1, ki 80] 109 none),
  rw0 (ki 100) tA5x0w22 tA5x0w19 tA5x0w3 (ki 2) tA5x0w17 (.cells [ki 2, ki 80] 109 none),
  rw0 (ki 0) tA5x0w1 tA5x0w21 tA5x0w42 (ki 3) tA5x0w36 (.cells [ki 2, ki 80] 109 none),
  rw0 (ki 30) tA5x0w25 tA5x0w23 tA5x0w31 (ki 2) tA5x0w14 (.cells [ki 1, ki 148] 109 none),
  rw0 (ki 180) tA5x0w44 tA5x0w9 tA5x0w10 (ki 1) tA5x0w26 (.cells [ki 1, ki 148] 109 none),
  rw0 (ki 80) tA5x0w0 tA5x0w46 tA5x0w47 (ki 2) tA5x0w40 (.cells [ki 1, ki 148] 109 none),
  rw0 (ki 100) tA5x0w22 tA5x0w19 tA5x0w3 (ki 2) tA5x0w17 (.cells [ki 1, ki 148] 109 none),
  rw0 (ki 0) tA5x0w43 tA5x0w49 tA5x0w6 (ki 2) tA5x0w12 (.cells [ki 1, ki 148] 109 none),
  rw0 (ki 48) tA5x0w24 tA5x0w37 tA5x0w34 (ki 2) tA5x0w33 (.cells [ki 1, ki 148] 109 none),
  rw0 (ki 0) tA5x0w1 tA5x0w21 tA5x0w42 (ki 3) tA5x0w36 (.cells [ki 1, ki 148] 109 none),
  rw0 (ki 0) tA5x0w1 tA5x0w21 tA5x0w42 (ki 3) tA5x0w36 (.cells [ki 2, ki 100] 109 none),
  rw0 (ki 78) tA5x0w51 tA5x0w20 tA5x0w27 (ki 1) tA5x0w16 (.cells [ki 1, ki 48] 109 none),
  rw0 (ki 30) tA5x0w25 tA5x0w23 tA5x0w31 (ki 2) tA5x0w14 (.cells [ki 1, ki 48] 109 none),
  rw0 (ki 180) tA5x0w44 tA5x0w9 tA5x0w10 (ki 1) tA5x0w26 (.cells [ki 1, ki 48] 109 none),
  rw0 (ki 80) tA5x0w2 tA5x0w13 tA5x0w48 (ki 1) tA5x0w18 (.cells [ki 1, ki 48] 109 none),
  rw0 (ki 80) tA5x0w0 tA5x0w46 tA5x0w47 (ki 2) tA5x0w40 (.cells [ki 1, ki 48] 109 none),
  rw0 (ki 148) tA5x0w39 tA5x0w8 tA5x0w15 (ki 1) tA5x0w41 (.cells [ki 1, ki 48] 109 none),
  rw0 (ki 100) tA5x0w22 tA5x0w19 tA5x0w3 (ki 2) tA5x0w17 (.cells [ki 1, ki 48] 109 none),
  rw0 (ki 0) tA5x0w43 tA5x0w49 tA5x0w6 (ki 2) tA5x0w12 (.cells [ki 1, ki 48] 109 none),
  rw0 (ki 48) tA5x0w24 tA5x0w37 tA5x0w34 (ki 2) tA5x0w33 (.cells [ki 1, ki 48] 109 none),
  rw0 (ki 0) tA5x0w1 tA5x0w21 tA5x0w42 (ki 3) tA5x0w36 (.cells [ki 1, ki 48] 109 none),
  rw0 (ki 30) tA5x0w25 tA5x0w23 tA5x0w31 (ki 2) tA5x0w14 (.cells [ki 2, ki 0] 109 none),
  rw0 (ki 80) tA5x0w0 tA5x0w46 tA5x0w47 (ki 2) tA5x0w40 (.cells [ki 2, ki 0] 109 none),
  rw0 (ki 100) tA5x0w22 tA5x0w19 tA5x0w3 (ki 2) tA5x0w17 (.cells [ki 2, ki 0] 109 none),
  rw0 (ki 48) tA5x0w24 tA5x0w37 tA5x0w34 (ki 2) tA5x0w33 (.cells [ki 2, ki 0] 109 none),
  rw0 (ki 0) tA5x0w1 tA5x0w21 tA5x0w42 (ki 3) tA5x0w36 (.cells [ki 2, ki 0] 109 none),
  rw0 (ki 80) tA5x0w0 tA5x0w46 tA5x0w47 (ki 2) tA5x0w40 (.cells [ki 2, ki 48] 109 none),
  rw0 (ki 100) tA5x0w22 tA5x0w19 tA5x0w3 (ki 2) tA5x0w17 (.cells [ki 2, ki 48] 109 none),
  rw0 (ki 0) tA5x0w1 tA5x0w21 tA5x0w42 (ki 3) tA5x0w36 (.cells [ki 2, ki 48] 109 none)],
  [(z [4894] [1, 2, 3, 4, 5, 6, 7, 8, 9, 10, 11, 12, 13]), (z [4895] [1, 14, 15, 16, 17, 18, 19, 20, 21, 22, 23, 24, 25]), (z [4895] [1, 2, 26, 27, 28, 29, 30, 31, 32, 33, 34, 35, 36]), (z [4895] [1, 2, 3, 37, 38, 39, 40, 41, 42, 10, 43, 44, 45]), (z [4895] [1, 2, 3, 4, 5, 6, 46, 8, 47, 10, 11, 48, 49]), (z [4895] [1, 2, 3, 50, 5, 6, 51, 8, 52, 10, 53, 54, 55]), (z [4895] [1, 2, 3, 56, 57, 6, 58, 59, 60, 10, 61, 62, 63]), (z [4895] [1, 2, 3, 4, 5, 6, 7, 8, 64, 10, 11, 12, 65]), (z [4895] [1, 2, 3, 66, 67, 6, 68, 8, 69, 10, 70, 71, 72]), (z [4895] [1, 2, 3, 4, 5, 6, 7, 8, 9, 10, 11, 12, 73]), (z [4895] [1, 2, 74, 75, 76, 77, 78, 79, 80, 10, 81, 82, 83]), (z [4895] [1, 2, 3, 84, 5, 6, 85, 8, 86, 10, 11, 87, 88]), (z [4895] [1, 2, 3, 4, 5, 6, 89, 8, 90, 10, 11, 12, 91]), (z [4895] [1, 2, 3, 4, 5, 6, 7, 8, 9, 10, 11, 12, 13]), (z [4895] [1, 14, 15, 16, 17, 18, 19, 20, 21, 22, 23, 24, 25]), (z [4895] [1, 14, 15, 16, 17, 18, 19, 20, 21, 22, 23, 24, 25]), (z [4895] [1, 14, 15, 16, 17, 18, 19, 20, 21, 22, 23, 24, 25]), (z [4895] [1, 14, 15, 16, 17, 18, 19, 20, 21, 22, 23, 24, 25]), (z [4895] [1, 14, 15, 16, 17, 18, 19, 20, 21, 22, 23, 24, 25]), (z [4895] [1, 14, 15, 16, 17, 18, 19, 20, 21, 22, 23, 24, 25]), (z [4895] [1, 14, 15, 16, 17, 18, 19, 20, 21, 22, 23, 24, 25]), (z [4895] [1, 14, 15, 16, 17, 18, 19, 20, 21, 22, 23, 24, 25]), (z [4895] [1, 14, 15, 16, 17, 18, 19, 20, 21, 22, 23, 24, 25]), (z [4895] [1, 14, 15, 16, 17, 18, 19, 20, 21, 22, 23, 24, 25]), (z [4895] [1, 14, 15, 16, 17, 18, 19, 20, 21, 22, 23, 24, 25]), (z [4895] [1, 14, 15, 16, 17, 18, 19, 20, 21, 22, 23, 24, 25]), (z [4895] [1, 2, 26, 27, 28, 29, 30, 31, 32, 33, 34, 35, 36]), (z [4895] [1, 2, 26, 27, 28, 29, 30, 31, 32, 33, 34, 35, 36]), (z [4895] [1, 2, 26, 27, 28, 29, 30, 31, 32, 33, 34, 35, 36]), (z [4895] [1, 2, 26, 27, 28, 29, 30, 31, 32, 33, 34, 35, 36]), (z [4895] [1, 2, 26, 27, 28, 29, 30, 31, 32, 33, 34, 35, 36]), (z [4895] [1, 2, 26, 27, 28, 29, 30, 31, 32, 33, 34, 35, 36]), (z [4895] [1, 2, 26, 27, 28, 29, 30, 31, 32, 33, 34, 35, 36]), (z [4895] [1, 2, 26, 27, 28, 29, 30, 31, 32, 33, 34, 35, 36]), (z [4895] [1, 2, 26, 27, 28, 29, 30, 31, 32, 33, 34, 35, 36]), (z [4895] [1, 2, 26, 27, 28, 29, 30, 31, 32, 33, 34, 35, 36]), (z [4895] [1, 2, 26, 27, 28, 29, 30, 31, 32, 33, 34, 35, 36]), (z [4895] [1, 2, 3, 37, 38, 39, 40, 41, 42, 10, 43, 44, 45]), (z [4895] [1, 2, 3, 37, 38, 39, 40, 41, 42, 10, 43, 44, 45]), (z [4895] [1, 2, 3, 37, 38, 39, 40, 41, 42, 10, 43, 44, 45]), (z [4895] [1, 2, 3, 37, 38, 39, 40, 41, 42, 10, 43, 44, 45]), (z [4895] [1, 2, 3, 37, 38, 39, 40, 41, 42, 10, 43, 44, 45]), (z [4895] [1, 2, 3, 37, 38, 39, 40, 41, 42, 10, 43, 44, 45]), (z [4895] [1, 2, 3, 37, 38, 39, 40, 41, 42, 10, 43, 44, 45]), (z [4895] [1, 2, 3, 37, 38, 39, 40, 41, 42, 10, 43, 44, 45]), (z [4895] [1, 2, 3, 37, 38, 39, 40, 41, 42, 10, 43, 44, 45]), (z [4895] [1, 2, 3, 4, 5, 6, 46, 8, 47, 10, 11, 48, 49]), (z [4895] [1, 2, 3, 4, 5, 6, 46, 8, 47, 10, 11, 48, 49]), (z [4895] [1, 2, 3, 4, 5, 6, 46, 8, 47, 10, 11, 48, 49]), (z [4895] [1, 2, 3, 4, 5, 6, 46, 8, 47, 10, 11, 48, 49]), (z [4895] [1, 2, 3, 50, 5, 6, 51, 8, 52, 10, 53, 54, 55]), (z [4895] [1, 2, 3, 50, 5, 6, 51, 8, 52, 10, 53, 54, 55]), (z [4895] [1, 2, 3, 50, 5, 6, 51, 8, 52, 10, 53, 54, 55]), (z [4895] [1, 2, 3, 50, 5, 6, 51, 8, 52, 10, 53, 54, 55]), (z [4895] [1, 2, 3, 50, 5, 6, 51, 8, 52, 10, 53, 54, 55]), (z [4895] [1, 2, 3, 50, 5, 6, 51, 8, 52, 10, 53, 54, 55]), (z [4895] [1, 2, 3, 56, 57, 6, 58, 59, 60, 10, 61, 62, 63]), (z [4895] [1, 2, 3, 56, 57, 6, 58, 59, 60, 10, 61, 62, 63]), (z [4895] [1, 2, 3, 56, 57, 6, 58, 59, 60, 10, 61, 62, 63]), (z [4895] [1, 2, 3, 56, 57, 6, 58, 59, 60, 10, 61, 62, 63]), (z [4895] [1, 2, 3, 56, 57, 6, 58, 59, 60, 10, 61, 62, 63]), (z [4895] [1, 2, 3, 56, 57, 6, 58, 59, 60, 10, 61, 62, 63]), (z [4895] [1, 2, 3, 56, 57, 6, 58, 59, 60, 10, 61, 62, 63]), (z [4895] [1, 2, 3, 56, 57, 6, 58, 59, 60, 10, 61, 62, 63]), (z [4895] [1, 2, 3, 4, 5, 6, 7, 8, 64, 10, 11, 12, 65]), (z [4895] [1, 2, 3, 4, 5, 6, 7, 8, 64, 10, 11, 12, 65]), (z [4895] [1, 2, 3, 66, 67, 6, 68, 8, 69, 10, 70, 71, 72]), (z [4895] [1, 2, 3, 66, 67, 6, 68, 8, 69, 10, 70, 71, 72]), (z [4895] [1, 2, 3, 66, 67, 6, 68, 8, 69, 10, 70, 71, 72]), (z [4895] [1, 2, 3, 66, 67, 6, 68, 8, 69, 10, 70, 71, 72]), (z [4895] [1, 2, 3, 66, 67, 6, 68, 8, 69, 10, 70, 71, 72]), (z [4895] [1, 2, 3, 66, 67, 6, 68, 8, 69, 10, 70, 71, 72]), (z [4895] [1, 2, 3, 66, 67, 6, 68, 8, 69, 10, 70, 71, 72]), (z [4895] [1, 2, 3, 4, 5, 6, 7, 8, 9, 10, 11, 12, 73]), (z [4895] [1, 2, 74, 75, 76, 77, 78, 79, 80, 10, 81, 82, 83]), (z [4895] [1, 2, 74, 75, 76, 77, 78, 79, 80, 10, 81, 82, 83]), (z [4895] [1, 2, 74, 75, 76, 77, 78, 79, 80, 10, 81, 82, 83]), (z [4895] [1, 2, 74, 75, 76, 77, 78, 79, 80, 10, 81, 82, 83]), (z [4895] [1, 2, 74, 75, 76, 77, 78, 79, 80, 10, 81, 82, 83]), (z [4895] [1, 2, 74, 75, 76, 77, 78, 79, 80, 10, 81, 82, 83]), (z [4895] [1, 2, 74, 75, 76, 77, 78, 79, 80, 10, 81, 82, 83]), (z [4895] [1, 2, 74, 75, 76, 77, 78, 79, 80, 10, 81, 82, 83]), (z [4895] [1, 2, 74, 75, 76, 77, 78, 79, 80, 10, 81, 82, 83]), (z [4895] [1, 2, 74, 75, 76, 77, 78, 79, 80, 10, 81, 82, 83]), (z [4895] [1, 2, 3, 84, 5, 6, 85, 8, 86, 10, 11, 87, 88]), (z [4895] [1, 2, 3, 84, 5, 6, 85, 8, 86, 10, 11, 87, 88]), (z [4895] [1, 2, 3, 84, 5, 6, 85, 8, 86, 10, 11, 87, 88]), (z [4895] [1, 2, 3, 84, 5, 6, 85, 8, 86, 10, 11, 87, 88]), (z [4895] [1, 2, 3, 84, 5, 6, 85, 8, 86, 10, 11, 87, 88]), (z [4895] [1, 2, 3, 4, 5, 6, 89, 8, 90, 10, 11, 12, 91]), (z [4895] [1, 2, 3, 4, 5, 6, 89, 8, 90, 10, 11, 12, 91]), (z [4895] [1, 2, 3, 4, 5, 6, 89, 8, 90, 10, 11, 12, 91])], [0, 1, 2, 3, 4, 5, 6, 7, 8, 9, 10, 11, 12, 0, 1, 1, 1, 1, 1, 1, 1, 1, 1, 1, 1, 1, 2, 2, 2, 2, 2, 2, 2, 2, 2, 2, 2, 3, 3, 3, 3, 3, 3, 3, 3, 3, 4, 4, 4, 4, 5, 5, 5, 5, 5, 5, 6, 6, 6, 6, 6, 6, 6, 6, 7, 7, 8, 8, 8, 8, 8, 8, 8, 9, 10, 10, 10, 10, 10, 10, 10, 10, 10, 10, 11, 11, 11, 11, 11, 12, 12, 12], [[1, 2, 3, 4, 5, 6, 7, 8, 9, 10, 11, 12, 0], [1, 1, 1, 1, 1, 1, 1, 1, 1, 1, 1, 1, 1], [1, 2, 2, 2, 2, 2, 2, 2, 2, 2, 2, 2, 2], [1, 2, 3, 3, 3, 3, 3, 3, 3, 10, 3, 3, 3], [1, 2, 3, 4, 5, 6, 4, 8, 4, 10, 11, 4, 4], [1, 2, 3, 5, 5, 6, 5, 8, 5, 10, 5, 5, 5], [1, 2, 3, 6, 6, 6, 6, 6, 6, 10, 6, 6, 6], [1, 2, 3, 4, 5, 6, 7, 8, 7, 10, 11, 12, 7], [1, 2, 3, 8, 8, 6, 8, 8, 8, 10, 8, 8, 8], [1, 2, 3, 4, 5, 6, 7, 8, 9, 10, 11, 12, 9], [1, 2, 10, 10, 10, 10, 10, 10, 10, 10, 10, 10, 10], [1, 2, 3, 11, 5, 6, 11, 8, 11, 10, 11, 11, 11], [1, 2, 3, 4, 5, 6, 12, 8, 12, 10, 11, 12, 12]]⟩
noncomputable def uA5x0 : List (Nat × Value) := [(0, (.func (.yield 4892) ⟨[]⟩ ⟨[]⟩)), (1, (.pointer (some ⟨4885, 0, none⟩))), (2, (.pointer (some ⟨4884, 0, none⟩))), (6, (.map (some 1160))), (7, (.pointer (some ⟨4893, 0, none⟩)))]
noncomputable def bA5x0 : List (Nat × AObj) := [(1, (.cells [(.string (ByteArray.mk #[114, 101, 100])), ki 3, (.bool true), ki 90, ki 10, ki 3, ki 20, ki 100, (.string (ByteArray.mk #[98, 108, 117, 101])), ki 1, (.bool false), ki 0, ki 0, ki 0, ki 0, ki 0, (.string (ByteArray.mk #[103, 111, 108, 100])), ki 7, (.bool true), ki 120, ki 5, ki 8, ki 0, ki 60] 54 none)), (2, (.cells [(.string (ByteArray.mk #[113, 117, 101, 101, 110])), ki 50, ki 59, ki 2, (.string (ByteArray.mk #[98, 105, 115, 104, 111, 112])), ki 20, ki 80, ki 1, (.string (ByteArray.mk #[108, 97, 100, 121])), ki 45, ki 50, ki 4] 63 none)), (3, (.cells [ki 40, ki 150] 57 none)), (1160, (.map [((.agg ⟨[ki 0, ki 1, ki 2]⟩), (ki 78)), ((.agg ⟨[ki 0, ki 1, (.int .i64 (.negSucc 0))]⟩), (ki 30)), ((.agg ⟨[ki 0, (.int .i64 (.negSucc 0)), ki 2]⟩), (ki 78)), ((.agg ⟨[ki 0, (.int .i64 (.negSucc 0)), (.int .i64 (.negSucc 0))]⟩), (ki 30)), ((.agg ⟨[ki 2, ki 0, (.int .i64 (.negSucc 0))]⟩), (ki 180)), ((.agg ⟨[ki 2, ki 1, (.int .i64 (.negSucc 0))]⟩), (ki 80)), ((.agg ⟨[ki 2, (.int .i64 (.negSucc 0)), (.int .i64 (.negSucc 0))]⟩), (ki 80)), ((.agg ⟨[(.int .i64 (.negSucc 0)), ki 0, ki 2]⟩), (ki 148)), ((.agg ⟨[(.int .i64 (.negSucc 0)), ki 0, (.int .i64 (.negSucc 0))]⟩), (ki 100)), ((.agg ⟨[(.int .i64 (.negSucc 0)), ki 1, ki 2]⟩), (ki 48)), ((.agg ⟨[(.int .i64 (.negSucc 0)), ki 1, (.int .i64 (.negSucc 0))]⟩), (ki 0)), ((.agg ⟨[(.int .i64 (.negSucc 0)), (.int .i64 (.negSucc 0)), ki 2]⟩), (ki 48)), ((.agg ⟨[(.int .i64 (.negSucc 0)), (.int .i64 (.negSucc 0)), (.int .i64 (.negSucc 0))]⟩), (ki 0))])), (4884, (.cells [(.slice (some ⟨1, 0, none⟩) 3 3), (.slice (some ⟨2, 0, none⟩) 3 3), ki 100, (.slice (some ⟨3, 0, none⟩) 1 1), (.bool false), ki 0, (.func (.func 96) ⟨[]⟩ ⟨[]⟩), (.func (.func 97) ⟨[]⟩ ⟨[]⟩), (.bool true), ki 364, (.func (.func 98) ⟨[]⟩ ⟨[]⟩), (.func (.func 99) ⟨[]⟩ ⟨[]⟩), (.bool true), ki 0, (.func (.func 100) ⟨[]⟩ ⟨[]⟩), (.func (.func 101) ⟨[]⟩ ⟨[]⟩)] 85 none)), (4885, (.cells [(.map (some 1160))] 111 none)), (4886, (.cells [ki 0, ki 0] 109 none)), (4887, (.cells [(.func (.func 83) ⟨[]⟩ ⟨[]⟩)] 145 none)), (4888, (.cells [ki 0, ki 0] 109 none)), (4889, (.cells [ki 0, ki 0] 109 none)), (4890, (.cells [(.bool false)] 4 none)), (4891, (.defs true)), (4892, (rangeObj Try.f82 23 [(0, (.func (.func 81) ⟨[]⟩ ⟨[(.pointer (some ⟨4885, 0, none⟩)), (.pointer (some ⟨4884, 0, none⟩))]⟩)), (1, (.func (.func 83) ⟨[]⟩ ⟨[]⟩)), (3, (.pointer (some ⟨4887, 0, none⟩))), (4, (.pointer (some ⟨4888, 0, none⟩))), (5, (.bool false)), (6, (.pointer (some ⟨4889, 0, none⟩))), (7, (.pointer (some ⟨4890, 0, none⟩))), (9, (.func (.func 81) ⟨[]⟩ ⟨[(.pointer (some ⟨4885, 0, none⟩)), (.pointer (some ⟨4884, 0, none⟩))]⟩))] 4891)), (4893, (.miter (some 1160) 13 []))]
noncomputable def sA5x0 : S := stOf 21 4894 4884 uA5x0 bA5x0
noncomputable def rA5x0 : List R := (endsC cbA5 (run cbA5 100000) none 21 tA5x0 (loopOf Try.f81) sA5x0).getD []
noncomputable def lA5 : Lp := (lpOr (lpP (loopOf Try.f81) none 21 4894 4884 uA5x0 bA5x0 rA5x0) (lpC cbA5 (run cbA5 100000)))
noncomputable def orcA5 := orcP 56 (memoL aA5 hA5 vA5) orcA4
noncomputable def cbA6 : Cfg := { CX with orc := orcA5 }
noncomputable def hA6 : List (Nat × AObj) := [(1, (.cells [(.string (ByteArray.mk #[114, 101, 100])), ki 3, (.bool true), ki 90, ki 10, ki 3, ki 20, ki 100, (.string (ByteArray.mk #[98, 108, 117, 101])), ki 1, (.bool false), ki 0, ki 0, ki 0, ki 0, ki 0, (.string (ByteArray.mk #[103, 111, 108, 100])), ki 7, (.bool true), ki 120, ki 5, ki 8, ki 0, ki 60] 54 none)), (2, (.cells [(.string (ByteArray.mk #[113, 117, 101, 101, 110])), ki 50, ki 59, ki 2, (.string (ByteArray.mk #[98, 105, 115, 104, 111, 112])), ki 20, ki 80, ki 1, (.string (ByteArray.mk #[108, 97, 100, 121])), ki 45, ki 50, ki 4] 63 none)), (3, (.cells [ki 40, ki 150] 57 none))]
noncomputable def nA6 : List (Nat × AObj) := [(4885, (.cells [ki 0, ki 2, ki 0, ki 1, ki 0, ki 0, ki 2, ki 2, ki 0] 48 none))]
noncomputable def vA6 : Value := (.tuple ⟨[(.slice (some ⟨4885, 0, none⟩) 3 3), ki 0, ki 78, ki 0]⟩)
noncomputable def aA6 : List Value := [(.agg ⟨[(.slice (some ⟨1, 0, none⟩) 3 3), (.slice (some ⟨2, 0, none⟩) 3 3), ki 100, (.slice (some ⟨3, 0, none⟩) 1 1)]⟩)]
noncomputable def lA6 : Lp := (lpC cbA6 (run cbA6 100000))
noncomputable def orcA6 := orcL 21 aA6 hA6 1154 vA6 nA6 8381 orcA5
noncomputable def cbA7 : Cfg := { CX with orc := orcA6 }
noncomputable def hA7 : List (Nat × AObj) := [(6, (.cells [(.string (ByteArray.mk #[114, 101, 100])), ki 3, (.bool true), ki 90, ki 10, ki 3, ki 20, ki 100, (.string (ByteArray.mk #[98, 108, 117, 101])), ki 1, (.bool false), ki 0, ki 0, ki 0, ki 0, ki 0, (.string (ByteArray.mk #[103, 111, 108, 100])), ki 7, (.bool true), ki 120, ki 5, ki 8, ki 0, ki 60] 54 none)), (7, (.cells [(.string (ByteArray.mk #[113, 117, 101, 101, 110])), ki 50, ki 59, ki 2, (.string (ByteArray.mk #[98, 105, 115, 104, 111, 112])), ki 20, ki 80, ki 1, (.string (ByteArray.mk #[108, 97, 100, 121])), ki 45, ki 50, ki 4] 63 none))]
noncomputable def nA7 : List (Nat × AObj) := [(8387, (.map [((.agg ⟨[(.int .i64 (.negSucc 0)), ki 1, (.int .i64 (.negSucc 0))]⟩), (ki 0)), ((.agg ⟨[(.int .i64 (.negSucc 0)), (.int .i64 (.negSucc 0)), (.int .i64 (.negSucc 0))]⟩), (ki 0))]))]
noncomputable def vA7 : Value := (.map (some 8387))
noncomputable def aA7 : List Value := [(.agg ⟨[(.slice (some ⟨6, 0, none⟩) 3 3), (.slice (some ⟨7, 0, none⟩) 3 3), ki 20, (.slice none 0 0), (.bool false), ki 0, (.func (.func 96) ⟨[]⟩ ⟨[]⟩), (.func (.func 97) ⟨[]⟩ ⟨[]⟩), (.bool true), ki 364, (.func (.func 98) ⟨[]⟩ ⟨[]⟩), (.func (.func 99) ⟨[]⟩ ⟨[]⟩), (.bool true), ki 0, (.func (.func 100) ⟨[]⟩ ⟨[]⟩), (.func (.func 101) ⟨[]⟩ ⟨[]⟩)]⟩)]
noncomputable def orcA7 := orcL 57 aA7 hA7 8386 vA7 nA7 11798 orcA6
noncomputable def cbA8 : Cfg := { CX with orc := orcA7 }
noncomputable def hA8 : List (Nat × AObj) := [(6, (.cells [(.string (ByteArray.mk #[114, 101, 100])), ki 3, (.bool true), ki 90, ki 10, ki 3, ki 20, ki 100, (.string (ByteArray.mk #[98, 108, 117, 101])), ki 1, (.bool false), ki 0, ki 0, ki 0, ki 0, ki 0, (.string (ByteArray.mk #[103, 111, 108, 100])), ki 7, (.bool true), ki 120, ki 5, ki 8, ki 0, ki 60] 54 none)), (7, (.cells [(.string (ByteArray.mk #[113, 117, 101, 101, 110])), ki 50, ki 59, ki 2, (.string (ByteArray.mk #[98, 105, 115, 104, 111, 112])), ki 20, ki 80, ki 1, (.string (ByteArray.mk #[108, 97, 100, 121])), ki 45, ki 50, ki 4] 63 none)), (8387, (.map [((.agg ⟨[(.int .i64 (.negSucc 0)), ki 1, (.int .i64 (.negSucc 0))]⟩), (ki 0)), ((.agg ⟨[(.int .i64 (.negSucc 0)), (.int .i64 (.negSucc 0)), (.int .i64 (.negSucc 0))]⟩), (ki 0))]))]
noncomputable def nA8 : List (Nat × AObj) := []
noncomputable def vA8 : Value := (.agg ⟨[ki 2, ki 0]⟩)
noncomputable def aA8 : List Value := [(.agg ⟨[(.slice (some ⟨6, 0, none⟩) 3 3), (.slice (some ⟨7, 0, none⟩) 3 3), ki 20, (.slice none 0 0), (.bool false), ki 0, (.func (.func 96) ⟨[]⟩ ⟨[]⟩), (.func (.func 97) ⟨[]⟩ ⟨[]⟩), (.bool true), ki 364, (.func (.func 98) ⟨[]⟩ ⟨[]⟩), (.func (.func 99) ⟨[]⟩ ⟨[]⟩), (.bool true), ki 0, (.func (.func 100) ⟨[]⟩ ⟨[]⟩), (.func (.func 101) ⟨[]⟩ ⟨[]⟩)]⟩), (.map (some 8387))]
noncomputable def lA8 : Lp := (lpC cbA8 (run cbA8 100000))
noncomputable def orcA8 := orcP 56 (memoL aA8 hA8 vA8) orcA7
noncomputable def cbA9 : Cfg := { CX with orc := orcA8 }
noncomputable def hA9 : List (Nat × AObj) := [(6, (.cells [(.string (ByteArray.mk #[114, 101, 100])), ki 3, (.bool true), ki 90, ki 10, ki 3, ki 20, ki 100, (.string (ByteArray.mk #[98, 108, 117, 101])), ki 1, (.bool false), ki 0, ki 0, ki 0, ki 0, ki 0, (.string (ByteArray.mk #[103, 111, 108, 100])), ki 7, (.bool true), ki 120, ki 5, ki 8, ki 0, ki 60] 54 none)), (7, (.cells [(.string (ByteArray.mk #[113, 117, 101, 101, 110])), ki 50, ki 59, ki 2, (.string (ByteArray.mk #[98, 105, 115, 104, 111, 112])), ki 20, ki 80, ki 1, (.string (ByteArray.mk #[108, 97, 100, 121])), ki 45, ki 50, ki 4] 63 none))]
noncomputable def nA9 : List (Nat × AObj) := [(11799, (.cells [(.int .i64 (.negSucc 0)), ki 0, ki 0, ki 1, ki 0, ki 0, (.int .i64 (.negSucc 0)), ki 0, ki 0] 48 none))]
noncomputable def vA9 : Value := (.tuple ⟨[(.slice (some ⟨11799, 0, none⟩) 3 3), ki 2, ki 0, ki 0]⟩)
noncomputable def aA9 : List Value := [(.agg ⟨[(.slice (some ⟨6, 0, none⟩) 3 3), (.slice (some ⟨7, 0, none⟩) 3 3), ki 20, (.slice none 0 0)]⟩)]
noncomputable def lA9 : Lp := (lpC cbA9 (run cbA9 100000))
noncomputable def orcA9 := orcL 21 aA9 hA9 8381 vA9 nA9 15191 orcA8
noncomputable def cbA10 : Cfg := { CX with orc := orcA9 }
noncomputable def hA10 : List (Nat × AObj) := [(6, (.cells [(.string (ByteArray.mk #[114, 101, 100])), ki 3, (.bool true), ki 90, ki 10, ki 3, ki 20, ki 100, (.string (ByteArray.mk #[98, 108, 117, 101])), ki 1, (.bool false), ki 0, ki 0, ki 0, ki 0, ki 0, (.string (ByteArray.mk #[103, 111, 108, 100])), ki 7, (.bool true), ki 120, ki 5, ki 8, ki 0, ki 60] 54 none)), (7, (.cells [(.string (ByteArray.mk #[113, 117, 101, 101, 110])), ki 50, ki 59, ki 2, (.string (ByteArray.mk #[98, 105, 115, 104, 111, 112])), ki 20, ki 80, ki 1, (.string (ByteArray.mk #[108, 97, 100, 121])), ki 45, ki 50, ki 4] 63 none))]
noncomputable def nA10 : List (Nat × AObj) := [(15196, (.map [((.agg ⟨[(.int .i64 (.negSucc 0)), ki 1, (.int .i64 (.negSucc 0))]⟩), (ki 0)), ((.agg ⟨[(.int .i64 (.negSucc 0)), (.int .i64 (.negSucc 0)), (.int .i64 (.negSucc 0))]⟩), (ki 0))]))]
noncomputable def vA10 : Value := (.map (some 15196))
noncomputable def aA10 : List Value := [(.agg ⟨[(.slice (some ⟨6, 0, none⟩) 3 3), (.slice (some ⟨7, 0, none⟩) 3 3), ki 20, (.slice none 0 0), (.bool false), ki 0, (.func (.func 96) ⟨[]⟩ ⟨[]⟩), (.func (.func 97) ⟨[]⟩ ⟨[]⟩), (.bool true), ki 364, (.func (.func 98) ⟨[]⟩ ⟨[]⟩), (.func (.func 99) ⟨[]⟩ ⟨[]⟩), (.bool true), ki 0, (.func (.func 100) ⟨[]⟩ ⟨[]⟩), (.func (.func 101) ⟨[]⟩ ⟨[]⟩)]⟩)]
noncomputable def orcA10 := orcL 57 aA10 hA10 15195 vA10 nA10 18607 orcA9
noncomputable def cbA11 : Cfg := { CX with orc := orcA10 }
noncomputable def hA11 : List (Nat × AObj) := [(6, (.cells [(.string (ByteArray.mk #[114, 101, 100])), ki 3, (.bool true), ki 90, ki 10, ki 3, ki 20, ki 100, (.string (ByteArray.mk #[98, 108, 117, 101])), ki 1, (.bool false), ki 0, ki 0, ki 0, ki 0, ki 0, (.string (ByteArray.mk #[103, 111, 108, 100])), ki 7, (.bool true), ki 120, ki 5, ki 8, ki 0, ki 60] 54 none)), (7, (.cells [(.string (ByteArray.mk #[113, 117, 101, 101, 110])), ki 50, ki 59, ki 2, (.string (ByteArray.mk #[98, 105, 115, 104, 111, 112])), ki 20, ki 80, ki 1, (.string (ByteArray.mk #[108, 97, 100, 121])), ki 45, ki 50, ki 4] 63 none))]
noncomputable def nA11 : List (Nat × AObj) := [(18631, (.cells [ki 0, ki 2] 3 (some 1))), (18633, (.cells [ki 0, ki 2] 3 (some 1)))]
noncomputable def vA11 : Value := (.tuple ⟨[(.slice (some ⟨18631, 0, none⟩) 2 2), (.slice (some ⟨18633, 0, none⟩) 2 2), ki 0]⟩)
noncomputable def aA11 : List Value := [(.agg ⟨[(.slice (some ⟨6, 0, none⟩) 3 3), (.slice (some ⟨7, 0, none⟩) 3 3), ki 20, (.slice none 0 0)]⟩)]
noncomputable def lA11 : Lp := (lpC cbA11 (run cbA11 100000))
noncomputable def orcA11 := orcL 27 aA11 hA11 15191 vA11 nA11 18634 orcA10
noncomputable def cbA12 : Cfg := { CX with orc := orcA11 }
noncomputable def hA12 : List (Nat × AObj) := [(6, (.cells [(.string (ByteArray.mk #[114, 101, 100])), ki 3, (.bool true), ki 90, ki 10, ki 3, ki 20, ki 100, (.string (ByteArray.mk #[98, 108, 117, 101])), ki 1, (.bool false), ki 0, ki 0, ki 0, ki 0, ki 0, (.string (ByteArray.mk #[103, 111, 108, 100])), ki 7, (.bool true), ki 120, ki 5, ki 8, ki 0, ki 60] 54 none)), (7, (.cells [(.string (ByteArray.mk #[113, 117, 101, 101, 110])), ki 50, ki 59, ki 2, (.string (ByteArray.mk #[98, 105, 115, 104, 111, 112])), ki 20, ki 80, ki 1, (.string (ByteArray.mk #[108, 97, 100, 121])), ki 45, ki 50, ki 4] 63 none))]
noncomputable def nA12 : List (Nat × AObj) := []
noncomputable def vA12 : Value := (.tuple ⟨[ki 58, ki 0]⟩)
noncomputable def aA12 : List Value := [(.agg ⟨[(.slice (some ⟨6, 0, none⟩) 3 3), (.slice (some ⟨7, 0, none⟩) 3 3), ki 20, (.slice none 0 0)]⟩)]
noncomputable def lA12 : Lp := (lpC cbA12 (run cbA12 100000))
noncomputable def orcA12 := orcP 28 (memoL aA12 hA12 vA12) orcA11
noncomputable def cbA13 : Cfg := { CX with orc := orcA12 }
noncomputable def hA13 : List (Nat × AObj) := [(1, (.cells [(.string (ByteArray.mk #[114, 101, 100])), ki 3, (.bool true), ki 90, ki 10, ki 3, ki 20, ki 100, (.string (ByteArray.mk #[98, 108, 117, 101])), ki 1, (.bool false), ki 0, ki 0, ki 0, ki 0, ki 0, (.string (ByteArray.mk #[103, 111, 108, 100])), ki 7, (.bool true), ki 120, ki 5, ki 8, ki 0, ki 60] 54 none)), (2, (.cells [(.string (ByteArray.mk #[113, 117, 101, 101, 110])), ki 50, ki 59, ki 2, (.string (ByteArray.mk #[98, 105, 115, 104, 111, 112])), ki 20, ki 80, ki 1, (.string (ByteArray.mk #[108, 97, 100, 121])), ki 45, ki 50, ki 4] 63 none)), (3, (.cells [ki 40, ki 150] 57 none)), (18634, (.cells [ki 0, ki 1, ki 0, ki 1, ki 0, ki 0, ki 2, ki 2, ki 0] 48 none))]
noncomputable def nA13 : List (Nat × AObj) := [(18648, (.cells [ki 2] 3 (some 1)))]
noncomputable def vA13 : Value := (.tuple ⟨[(.slice (some ⟨18648, 0, none⟩) 1 1), ki 0]⟩)
noncomputable def aA13 : List Value := [(.agg ⟨[(.slice (some ⟨1, 0, none⟩) 3 3), (.slice (some ⟨2, 0, none⟩) 3 3), ki 100, (.slice (some ⟨3, 0, none⟩) 1 1)]⟩), (.slice (some ⟨18634, 0, none⟩) 3 3)]
noncomputable def orcA13 := orcL 52 aA13 hA13 18635 vA13 nA13 18649 orcA12
noncomputable def CXA : Cfg := { CX with orc := orcA13 }
end Go.Proofs.Ytaegcofpbihmhaa.K
