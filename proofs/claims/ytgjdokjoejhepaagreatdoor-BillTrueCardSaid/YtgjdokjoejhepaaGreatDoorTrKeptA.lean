/- Kept answers: what they are. -/
import Derived.Test.YtgjdokjoejhepaaGreatDoorTrLib
open Go Go.bP
set_option maxRecDepth 1000000
set_option linter.unusedVariables false
namespace Go.Proofs.YtgjdokjoejhepaaGreatDoor.K
noncomputable def yU : Nat × aW := (1, (.cells [(.string (ByteArray.mk #[97, 100, 97])), (.string (ByteArray.mk #[113, 117, 101, 101, 110])), (iV 0), (iV 5), (.string (ByteArray.mk #[98, 101, 110])), (.string (ByteArray.mk #[107, 105, 110, 103])), (iV 0), (iV 4), (.string (ByteArray.mk #[99, 121])), (.string (ByteArray.mk #[99, 108, 111, 119, 110])), (iV 0), (iV 3), (.string (ByteArray.mk #[100, 111, 116])), (.string (ByteArray.mk #[106, 117, 100, 103, 101])), (iV 1), (iV 6), (.string (ByteArray.mk #[101, 108, 105])), (.string (ByteArray.mk #[110, 117, 110])), (iV 1), (iV 2)] 76 none))
noncomputable def yV : Nat × aW := (2, (.cells [(iV 11), (iV 29), (iV 7)] 3 none))
noncomputable def aK4 : Nat × aW := (3, (.cells [(iV 0), (iV 0), (iV 0), (iV 1), (iV 1), (iV 2), (iV 2), (iV 3), (iV 0), (iV 2), (iV 4), (iV 0)] 57 none))
noncomputable def aTS : Nat × aW := (294, (.cells [(iV 0), (iV 0), (iV 0), (iV 1), (iV 1), (iV 2), (iV 2), (iV 3), (iV 0), (iV 2), (iV 4), (iV 0)] 57 (some 3)))
noncomputable def bBB : cB := { CX with fJ := QU }
noncomputable def hA0 : List (Nat × aW) := [yU, yV, aK4]
noncomputable def nA0 : List (Nat × aW) := []
noncomputable def vA0 : Value := (.bool true)
noncomputable def aA0 : List Value := [(gV [(iV 14), (sV 1 0 5 5), (sV 2 0 3 3)]), (sV 3 0 4 4)]
noncomputable def aIN := EW 66 (kP aA0 hA0 vA0) QU
noncomputable def bBC : cB := { CX with fJ := aIN }
noncomputable def hA1 : List (Nat × aW) := [yU, yV, aK4]
noncomputable def nA1 : List (Nat × aW) := []
noncomputable def vA1 : Value := (.bool false)
noncomputable def aA1 : List Value := [(gV [(iV 14), (sV 1 0 5 5), (sV 2 0 3 3)]), (sV 3 0 3 4)]
noncomputable def aIO := EW 66 (kP aA1 hA1 vA1) aIN
noncomputable def bBD : cB := { CX with fJ := aIO }
noncomputable def hA2 : List (Nat × aW) := [yU, yV]
noncomputable def nA2 : List (Nat × aW) := [(89, (.cells [(iV 0), (iV 0), (iV 0), (iV 1), (iV 1), (iV 2), (iV 2), (iV 3), (iV 0), (iV 2), (iV 4), (iV 0)] 57 none))]
noncomputable def vA2 : Value := (.tuple ⟨[(sV 89 0 4 4), (iV 2), (iV 0)]⟩)
noncomputable def aA2 : List Value := [(gV [(iV 14), (sV 1 0 5 5), (sV 2 0 3 3)])]
noncomputable def aIP := Z7 23 aA2 hA2 5 vA2 nA2 160 aIO
noncomputable def bBE : cB := { CX with fJ := aIP }
noncomputable def hA3 : List (Nat × aW) := [yU, yV, aK4]
noncomputable def nA3 : List (Nat × aW) := [(197, (.cells [(iV 0), (iV 2)] 3 (some 1)))]
noncomputable def vA3 : Value := (gV [(sV 197 0 2 2), (iV 0)])
noncomputable def aA3 : List Value := [(gV [(iV 14), (sV 1 0 5 5), (sV 2 0 3 3), (sV 3 0 4 4)]), (.func (.func 78) ⟨[]⟩ ⟨[]⟩)]
noncomputable def aIQ := Z7 77 aA3 hA3 169 vA3 nA3 200 aIP
noncomputable def bBF : cB := { CX with fJ := aIQ }
noncomputable def hA4 : List (Nat × aW) := [yU, yV, aK4]
noncomputable def nA4 : List (Nat × aW) := [(236, (.cells [(iV 0), (iV 2)] 3 (some 1)))]
noncomputable def vA4 : Value := (gV [(sV 236 0 2 2), (iV 0)])
noncomputable def aA4 : List Value := [(gV [(iV 14), (sV 1 0 5 5), (sV 2 0 3 3), (sV 3 0 4 4)]), (.func (.func 80) ⟨[]⟩ ⟨[]⟩)]
noncomputable def aIR := Z7 77 aA4 hA4 208 vA4 nA4 239 aIQ
noncomputable def bBG : cB := { CX with fJ := aIR }
noncomputable def hA5 : List (Nat × aW) := [yU, yV, aK4]
noncomputable def nA5 : List (Nat × aW) := [(237, (.cells [(iV 0), (iV 2)] 3 (some 1)))]
noncomputable def vA5 : Value := (gV [(sV 237 0 2 2), (iV 0)])
noncomputable def aA5 : List Value := [(gV [(iV 14), (sV 1 0 5 5), (sV 2 0 3 3), (sV 3 0 4 4)]), (.func (.func 78) ⟨[]⟩ ⟨[]⟩)]
noncomputable def aIS := Z7 77 aA5 hA5 209 vA5 nA5 240 aIR
noncomputable def bBH : cB := { CX with fJ := aIS }
noncomputable def hA6 : List (Nat × aW) := [yU, yV, aK4]
noncomputable def nA6 : List (Nat × aW) := []
noncomputable def vA6 : Value := (.string (ByteArray.mk #[112, 97, 103, 101, 32, 49, 10, 114, 111, 111, 109, 32, 48, 10, 49, 32, 105, 115, 32, 97, 100, 97, 32, 97, 115, 32, 113, 117, 101, 101, 110, 10, 50, 32, 105, 115, 32, 98, 101, 110, 32, 97, 115, 32, 107, 105, 110, 103, 32, 111, 114, 32, 99, 121, 32, 97, 115, 32, 99, 108, 111, 119, 110, 10, 112, 97, 103, 101, 32, 50, 10, 114, 111, 111, 109, 32, 49, 10, 51, 32, 109, 97, 121, 32, 98, 101, 32, 100, 111, 116, 32, 97, 115, 32, 106, 117, 100, 103, 101, 10, 52, 32, 109, 97, 121, 32, 98, 101, 32, 101, 108, 105, 32, 97, 115, 32, 110, 117, 110, 10]))
noncomputable def aA6 : List Value := [(gV [(iV 14), (sV 1 0 5 5), (sV 2 0 3 3), (sV 3 0 4 4)])]
noncomputable def aIT := EW 82 (kP aA6 hA6 vA6) aIS
noncomputable def bBI : cB := { CX with fJ := aIT }
noncomputable def hA7 : List (Nat × aW) := [yU, yV, (214, (.cells [(.string (ByteArray.mk #[112, 97, 103, 101])), (.string (ByteArray.mk #[49]))] 9 (some 1)))]
noncomputable def nA7 : List (Nat × aW) := []
noncomputable def vA7 : Value := (.tuple ⟨[(gV [(iV 0), (iV 0), (iV 0)]), (.bool false)]⟩)
noncomputable def aA7 : List Value := [(gV [(iV 14), (sV 1 0 5 5), (sV 2 0 3 3)]), (sV 214 1 1 1)]
noncomputable def aIU := EW 134 (kP aA7 hA7 vA7) aIT
noncomputable def bBJ : cB := { CX with fJ := aIU }
noncomputable def hA8 : List (Nat × aW) := [yU, yV, (219, (.cells [(.string (ByteArray.mk #[114, 111, 111, 109])), (.string (ByteArray.mk #[48]))] 9 (some 1)))]
noncomputable def nA8 : List (Nat × aW) := []
noncomputable def vA8 : Value := (.tuple ⟨[(gV [(iV 0), (iV 0), (iV 0)]), (.bool false)]⟩)
noncomputable def aA8 : List Value := [(gV [(iV 14), (sV 1 0 5 5), (sV 2 0 3 3)]), (sV 219 1 1 1)]
noncomputable def aIV := EW 134 (kP aA8 hA8 vA8) aIU
noncomputable def bBK : cB := { CX with fJ := aIV }
noncomputable def hA9 : List (Nat × aW) := [yU, yV, (230, (.cells [(.string (ByteArray.mk #[49])), (.string (ByteArray.mk #[105, 115])), (.string (ByteArray.mk #[97, 100, 97])), (.string (ByteArray.mk #[97, 115])), (.string (ByteArray.mk #[113, 117, 101, 101, 110]))] 9 (some 1)))]
noncomputable def nA9 : List (Nat × aW) := []
noncomputable def vA9 : Value := (.tuple ⟨[(gV [(iV 0), (iV 0), (iV 0)]), (.bool true)]⟩)
noncomputable def aA9 : List Value := [(gV [(iV 14), (sV 1 0 5 5), (sV 2 0 3 3)]), (sV 230 1 4 4)]
noncomputable def aIW := EW 134 (kP aA9 hA9 vA9) aIV
noncomputable def aW8 : cB := { CX with fJ := aIW }
noncomputable def aTT : List (Nat × aW) := [yU, yV, (251, (.cells [(.string (ByteArray.mk #[50])), (.string (ByteArray.mk #[105, 115])), (.string (ByteArray.mk #[98, 101, 110])), (.string (ByteArray.mk #[97, 115])), (.string (ByteArray.mk #[107, 105, 110, 103])), (.string (ByteArray.mk #[111, 114])), (.string (ByteArray.mk #[99, 121])), (.string (ByteArray.mk #[97, 115])), (.string (ByteArray.mk #[99, 108, 111, 119, 110]))] 9 (some 1)))]
noncomputable def bBL : List (Nat × aW) := []
noncomputable def aTU : Value := (.tuple ⟨[(gV [(iV 1), (iV 1), (iV 2)]), (.bool true)]⟩)
noncomputable def aTV : List Value := [(gV [(iV 14), (sV 1 0 5 5), (sV 2 0 3 3)]), (sV 251 1 8 8)]
noncomputable def YW := EW 134 (kP aTV aTT aTU) aIW
noncomputable def aW9 : cB := { CX with fJ := YW }
noncomputable def aTW : List (Nat × aW) := [yU, yV, (258, (.cells [(.string (ByteArray.mk #[112, 97, 103, 101])), (.string (ByteArray.mk #[50]))] 9 (some 1)))]
noncomputable def bBM : List (Nat × aW) := []
noncomputable def aTX : Value := (.tuple ⟨[(gV [(iV 0), (iV 0), (iV 0)]), (.bool false)]⟩)
noncomputable def aTY : List Value := [(gV [(iV 14), (sV 1 0 5 5), (sV 2 0 3 3)]), (sV 258 1 1 1)]
noncomputable def YX := EW 134 (kP aTY aTW aTX) YW
noncomputable def aXA : cB := { CX with fJ := YX }
noncomputable def aTZ : List (Nat × aW) := [yU, yV, (263, (.cells [(.string (ByteArray.mk #[114, 111, 111, 109])), (.string (ByteArray.mk #[49]))] 9 (some 1)))]
noncomputable def bBN : List (Nat × aW) := []
noncomputable def aT0 : Value := (.tuple ⟨[(gV [(iV 0), (iV 0), (iV 0)]), (.bool false)]⟩)
noncomputable def aT1 : List Value := [(gV [(iV 14), (sV 1 0 5 5), (sV 2 0 3 3)]), (sV 263 1 1 1)]
noncomputable def YY := EW 134 (kP aT1 aTZ aT0) YX
noncomputable def aXB : cB := { CX with fJ := YY }
noncomputable def aT2 : List (Nat × aW) := [yU, yV, (276, (.cells [(.string (ByteArray.mk #[51])), (.string (ByteArray.mk #[109, 97, 121])), (.string (ByteArray.mk #[98, 101])), (.string (ByteArray.mk #[100, 111, 116])), (.string (ByteArray.mk #[97, 115])), (.string (ByteArray.mk #[106, 117, 100, 103, 101]))] 9 (some 1)))]
noncomputable def bBO : List (Nat × aW) := []
noncomputable def aT3 : Value := (.tuple ⟨[(gV [(iV 2), (iV 3), (iV 0)]), (.bool true)]⟩)
noncomputable def aT4 : List Value := [(gV [(iV 14), (sV 1 0 5 5), (sV 2 0 3 3)]), (sV 276 1 5 5)]
noncomputable def YZ := EW 134 (kP aT4 aT2 aT3) YY
noncomputable def aXC : cB := { CX with fJ := YZ }
noncomputable def aT5 : List (Nat × aW) := [yU, yV, (291, (.cells [(.string (ByteArray.mk #[52])), (.string (ByteArray.mk #[109, 97, 121])), (.string (ByteArray.mk #[98, 101])), (.string (ByteArray.mk #[101, 108, 105])), (.string (ByteArray.mk #[97, 115])), (.string (ByteArray.mk #[110, 117, 110]))] 9 (some 1)))]
noncomputable def bBP : List (Nat × aW) := []
noncomputable def aT6 : Value := (.tuple ⟨[(gV [(iV 2), (iV 4), (iV 0)]), (.bool true)]⟩)
noncomputable def aT7 : List Value := [(gV [(iV 14), (sV 1 0 5 5), (sV 2 0 3 3)]), (sV 291 1 5 5)]
noncomputable def Y0 := EW 134 (kP aT7 aT5 aT6) YZ
noncomputable def aXD : cB := { CX with fJ := Y0 }
noncomputable def aT8 : List (Nat × aW) := [yU, yV, aTS]
noncomputable def bBQ : List (Nat × aW) := []
noncomputable def aT9 : Value := (.bool true)
noncomputable def aUA : List Value := [(gV [(iV 14), (sV 1 0 5 5), (sV 2 0 3 3)]), (sV 294 0 4 4)]
noncomputable def Y1 := EW 66 (kP aUA aT8 aT9) Y0
noncomputable def aXE : cB := { CX with fJ := Y1 }
noncomputable def a07 : List (Nat × aW) := [yU, yV, aTS]
noncomputable def a08 : List (Nat × aW) := [(324, (.cells [(iV 0), (iV 2)] 3 (some 1)))]
noncomputable def a09 : Value := (gV [(sV 324 0 2 2), (iV 0)])
noncomputable def a1A : List Value := [(gV [(iV 14), (sV 1 0 5 5), (sV 2 0 3 3), (sV 294 0 4 4)]), (.func (.func 78) ⟨[]⟩ ⟨[]⟩)]
noncomputable def Y2 := Z7 77 a1A a07 296 a09 a08 327 Y1
noncomputable def aXF : cB := { CX with fJ := Y2 }
noncomputable def aUB : List (Nat × aW) := [yU, yV, aTS]
noncomputable def bBR : List (Nat × aW) := []
noncomputable def aUC : Value := (.string (ByteArray.mk #[112, 97, 103, 101, 32, 49, 10, 114, 111, 111, 109, 32, 48, 10, 49, 32, 105, 115, 32, 97, 100, 97, 32, 97, 115, 32, 113, 117, 101, 101, 110, 10, 50, 32, 105, 115, 32, 98, 101, 110, 32, 97, 115, 32, 107, 105, 110, 103, 32, 111, 114, 32, 99, 121, 32, 97, 115, 32, 99, 108, 111, 119, 110, 10, 112, 97, 103, 101, 32, 50, 10, 114, 111, 111, 109, 32, 49, 10, 51, 32, 109, 97, 121, 32, 98, 101, 32, 100, 111, 116, 32, 97, 115, 32, 106, 117, 100, 103, 101, 10, 52, 32, 109, 97, 121, 32, 98, 101, 32, 101, 108, 105, 32, 97, 115, 32, 110, 117, 110, 10]))
noncomputable def aUD : List Value := [(gV [(iV 14), (sV 1 0 5 5), (sV 2 0 3 3), (sV 294 0 4 4)])]
noncomputable def Y3 := EW 82 (kP aUD aUB aUC) Y2
noncomputable def aXG : cB := { CX with fJ := Y3 }
noncomputable def a1B : List (Nat × aW) := [yU, yV]
noncomputable def a1C : List (Nat × aW) := [aTS]
noncomputable def a1D : Value := (.tuple ⟨[(sV 294 0 4 4), (.bool true)]⟩)
noncomputable def a1E : List Value := [(gV [(iV 14), (sV 1 0 5 5), (sV 2 0 3 3)]), (.string (ByteArray.mk #[112, 97, 103, 101, 32, 49, 10, 114, 111, 111, 109, 32, 48, 10, 49, 32, 105, 115, 32, 97, 100, 97, 32, 97, 115, 32, 113, 117, 101, 101, 110, 10, 50, 32, 105, 115, 32, 98, 101, 110, 32, 97, 115, 32, 107, 105, 110, 103, 32, 111, 114, 32, 99, 121, 32, 97, 115, 32, 99, 108, 111, 119, 110, 10, 112, 97, 103, 101, 32, 50, 10, 114, 111, 111, 109, 32, 49, 10, 51, 32, 109, 97, 121, 32, 98, 101, 32, 100, 111, 116, 32, 97, 115, 32, 106, 117, 100, 103, 101, 10, 52, 32, 109, 97, 121, 32, 98, 101, 32, 101, 108, 105, 32, 97, 115, 32, 110, 117, 110, 10]))]
noncomputable def aQE := Z7 84 a1E a1B 205 a1D a1C 295 Y3
noncomputable def CXA : cB := { CX with fJ := aQE }
end Go.Proofs.YtgjdokjoejhepaaGreatDoor.K
