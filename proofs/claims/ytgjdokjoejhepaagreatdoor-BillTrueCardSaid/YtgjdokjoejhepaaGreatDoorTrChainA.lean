/- Kept answers, one upon the other. -/
import Derived.Test.YtgjdokjoejhepaaGreatDoorTrA0
import Derived.Test.YtgjdokjoejhepaaGreatDoorTrA1
import Derived.Test.YtgjdokjoejhepaaGreatDoorTrA2
import Derived.Test.YtgjdokjoejhepaaGreatDoorTrA3
import Derived.Test.YtgjdokjoejhepaaGreatDoorTrA4
import Derived.Test.YtgjdokjoejhepaaGreatDoorTrA5
import Derived.Test.YtgjdokjoejhepaaGreatDoorTrA6
open Go Go.bP
set_option maxRecDepth 1000000
set_option linter.unusedVariables false
namespace Go.Proofs.YtgjdokjoejhepaaGreatDoor.K
theorem bLJ : bBB.Ok := ⟨IU.env, IU.fn, IU.fJ, IU.mixed⟩
theorem cA0 : j5 Tryz.prog 66 aA0 9 hA0 (tK vA0 1000000 nA0) := fK (dU bLJ 100000) eA0
theorem pA0 : dS Tryz.prog 66 (kP aA0 hA0 vA0) := iJ (by kernel_rfl) (by kernel_rfl) (by kernel_rfl) cA0
theorem aQF : (cfg aIN).Ok := mQ (C := cfg QU) IU pA0
theorem bLK : bBC.Ok := ⟨aQF.env, aQF.fn, aQF.fJ, aQF.mixed⟩
theorem cA1 : j5 Tryz.prog 66 aA1 9 hA1 (tK vA1 1000000 nA1) := fK (dU bLK 100000) eA1
theorem pA1 : dS Tryz.prog 66 (kP aA1 hA1 vA1) := iJ (by kernel_rfl) (by kernel_rfl) (by kernel_rfl) cA1
theorem aQG : (cfg aIO).Ok := mQ (C := cfg aIN) aQF pA1
theorem bLL : bBD.Ok := ⟨aQG.env, aQG.fn, aQG.fJ, aQG.mixed⟩
theorem cA2 : j5 Tryz.prog 23 aA2 5 hA2 (tK vA2 160 nA2) := fK (dU bLL 100000) eA2
theorem aQH : (cfg aIP).Ok := DC (C := cfg aIO) aQG (by kernel_rfl) (by kernel_rfl) (by kernel_rfl) cA2
theorem bLM : bBE.Ok := ⟨aQH.env, aQH.fn, aQH.fJ, aQH.mixed⟩
theorem cA3 : j5 Tryz.prog 77 aA3 169 hA3 (tK vA3 200 nA3) := fK (dU bLM 100000) eA3
theorem aQI : (cfg aIQ).Ok := DC (C := cfg aIP) aQH (by kernel_rfl) (by kernel_rfl) (by kernel_rfl) cA3
theorem bLN : bBF.Ok := ⟨aQI.env, aQI.fn, aQI.fJ, aQI.mixed⟩
theorem cA4 : j5 Tryz.prog 77 aA4 208 hA4 (tK vA4 239 nA4) := fK (dU bLN 100000) eA4
theorem aQJ : (cfg aIR).Ok := DC (C := cfg aIQ) aQI (by kernel_rfl) (by kernel_rfl) (by kernel_rfl) cA4
theorem bLO : bBG.Ok := ⟨aQJ.env, aQJ.fn, aQJ.fJ, aQJ.mixed⟩
theorem cA5 : j5 Tryz.prog 77 aA5 209 hA5 (tK vA5 240 nA5) := fK (dU bLO 100000) eA5
theorem aQK : (cfg aIS).Ok := DC (C := cfg aIR) aQJ (by kernel_rfl) (by kernel_rfl) (by kernel_rfl) cA5
theorem bLP : bBH.Ok := ⟨aQK.env, aQK.fn, aQK.fJ, aQK.mixed⟩
theorem cA6 : j5 Tryz.prog 82 aA6 208 hA6 (tK vA6 1000000 nA6) := fK (dU bLP 100000) eA6
theorem pA6 : dS Tryz.prog 82 (kP aA6 hA6 vA6) := iJ (by kernel_rfl) (by kernel_rfl) (by kernel_rfl) cA6
theorem aQL : (cfg aIT).Ok := mQ (C := cfg aIS) aQK pA6
theorem bLQ : bBI.Ok := ⟨aQL.env, aQL.fn, aQL.fJ, aQL.mixed⟩
theorem cA7 : j5 Tryz.prog 134 aA7 215 hA7 (tK vA7 1000000 nA7) := fK (dU bLQ 100000) eA7
theorem pA7 : dS Tryz.prog 134 (kP aA7 hA7 vA7) := iJ (by kernel_rfl) (by kernel_rfl) (by kernel_rfl) cA7
theorem aQM : (cfg aIU).Ok := mQ (C := cfg aIT) aQL pA7
theorem bLR : bBJ.Ok := ⟨aQM.env, aQM.fn, aQM.fJ, aQM.mixed⟩
theorem cA8 : j5 Tryz.prog 134 aA8 220 hA8 (tK vA8 1000000 nA8) := fK (dU bLR 100000) eA8
theorem pA8 : dS Tryz.prog 134 (kP aA8 hA8 vA8) := iJ (by kernel_rfl) (by kernel_rfl) (by kernel_rfl) cA8
theorem aQN : (cfg aIV).Ok := mQ (C := cfg aIU) aQM pA8
theorem bLS : bBK.Ok := ⟨aQN.env, aQN.fn, aQN.fJ, aQN.mixed⟩
theorem cA9 : j5 Tryz.prog 134 aA9 231 hA9 (tK vA9 1000000 nA9) := fK (dU bLS 100000) eA9
theorem pA9 : dS Tryz.prog 134 (kP aA9 hA9 vA9) := iJ (by kernel_rfl) (by kernel_rfl) (by kernel_rfl) cA9
theorem aQO : (cfg aIW).Ok := mQ (C := cfg aIV) aQN pA9
theorem bBS : aW8.Ok := ⟨aQO.env, aQO.fn, aQO.fJ, aQO.mixed⟩
theorem bLT : j5 Tryz.prog 134 aTV 252 aTT (tK aTU 1000000 bBL) := fK (dU bBS 100000) bLA
theorem bLU : dS Tryz.prog 134 (kP aTV aTT aTU) := iJ (by kernel_rfl) (by kernel_rfl) (by kernel_rfl) bLT
theorem aBT : (cfg YW).Ok := mQ (C := cfg aIW) aQO bLU
theorem bBT : aW9.Ok := ⟨aBT.env, aBT.fn, aBT.fJ, aBT.mixed⟩
theorem bLV : j5 Tryz.prog 134 aTY 259 aTW (tK aTX 1000000 bBM) := fK (dU bBT 100000) bLB
theorem bLW : dS Tryz.prog 134 (kP aTY aTW aTX) := iJ (by kernel_rfl) (by kernel_rfl) (by kernel_rfl) bLV
theorem aBU : (cfg YX).Ok := mQ (C := cfg YW) aBT bLW
theorem bBU : aXA.Ok := ⟨aBU.env, aBU.fn, aBU.fJ, aBU.mixed⟩
theorem bLX : j5 Tryz.prog 134 aT1 264 aTZ (tK aT0 1000000 bBN) := fK (dU bBU 100000) bLC
theorem bLY : dS Tryz.prog 134 (kP aT1 aTZ aT0) := iJ (by kernel_rfl) (by kernel_rfl) (by kernel_rfl) bLX
theorem aBV : (cfg YY).Ok := mQ (C := cfg YX) aBU bLY
theorem bBV : aXB.Ok := ⟨aBV.env, aBV.fn, aBV.fJ, aBV.mixed⟩
theorem bLZ : j5 Tryz.prog 134 aT4 277 aT2 (tK aT3 1000000 bBO) := fK (dU bBV 100000) bLD
theorem bL0 : dS Tryz.prog 134 (kP aT4 aT2 aT3) := iJ (by kernel_rfl) (by kernel_rfl) (by kernel_rfl) bLZ
theorem aBW : (cfg YZ).Ok := mQ (C := cfg YY) aBV bL0
theorem bBW : aXC.Ok := ⟨aBW.env, aBW.fn, aBW.fJ, aBW.mixed⟩
theorem bL1 : j5 Tryz.prog 134 aT7 292 aT5 (tK aT6 1000000 bBP) := fK (dU bBW 100000) bLE
theorem bL2 : dS Tryz.prog 134 (kP aT7 aT5 aT6) := iJ (by kernel_rfl) (by kernel_rfl) (by kernel_rfl) bL1
theorem aBX : (cfg Y0).Ok := mQ (C := cfg YZ) aBW bL2
theorem bBX : aXD.Ok := ⟨aBX.env, aBX.fn, aBX.fJ, aBX.mixed⟩
theorem bL3 : j5 Tryz.prog 66 aUA 295 aT8 (tK aT9 1000000 bBQ) := fK (dU bBX 100000) bLF
theorem bL4 : dS Tryz.prog 66 (kP aUA aT8 aT9) := iJ (by kernel_rfl) (by kernel_rfl) (by kernel_rfl) bL3
theorem aBY : (cfg Y1).Ok := mQ (C := cfg Y0) aBX bL4
theorem bBY : aXE.Ok := ⟨aBY.env, aBY.fn, aBY.fJ, aBY.mixed⟩
theorem bL5 : j5 Tryz.prog 77 a1A 296 a07 (tK a09 327 a08) := fK (dU bBY 100000) bLG
theorem aBZ : (cfg Y2).Ok := DC (C := cfg Y1) aBY (by kernel_rfl) (by kernel_rfl) (by kernel_rfl) bL5
theorem bBZ : aXF.Ok := ⟨aBZ.env, aBZ.fn, aBZ.fJ, aBZ.mixed⟩
theorem bL6 : j5 Tryz.prog 82 aUD 295 aUB (tK aUC 1000000 bBR) := fK (dU bBZ 100000) bLH
theorem bL7 : dS Tryz.prog 82 (kP aUD aUB aUC) := iJ (by kernel_rfl) (by kernel_rfl) (by kernel_rfl) bL6
theorem aB0 : (cfg Y3).Ok := mQ (C := cfg Y2) aBZ bL7
theorem bB0 : aXG.Ok := ⟨aB0.env, aB0.fn, aB0.fJ, aB0.mixed⟩
theorem bL8 : j5 Tryz.prog 84 a1E 205 a1B (tK a1D 295 a1C) := fK (dU bB0 100000) bLI
theorem aIX : (cfg aQE).Ok := DC (C := cfg Y3) aB0 (by kernel_rfl) (by kernel_rfl) (by kernel_rfl) bL8
theorem bL9 : CXA.Ok := ⟨aIX.env, aIX.fn, aIX.fJ, aIX.mixed⟩
end Go.Proofs.YtgjdokjoejhepaaGreatDoor.K
