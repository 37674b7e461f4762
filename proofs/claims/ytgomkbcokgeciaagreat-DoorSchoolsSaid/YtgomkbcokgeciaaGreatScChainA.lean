/- Kept answers, one upon the other. -/
import Derived.Test.YtgomkbcokgeciaaGreatScA0
import Derived.Test.YtgomkbcokgeciaaGreatScA1
import Derived.Test.YtgomkbcokgeciaaGreatScA2
import Derived.Test.YtgomkbcokgeciaaGreatScA3
import Derived.Test.YtgomkbcokgeciaaGreatScA4
import Derived.Test.YtgomkbcokgeciaaGreatScA5
import Derived.Test.YtgomkbcokgeciaaGreatScA6
import Derived.Test.YtgomkbcokgeciaaGreatScA7
import Derived.Test.YtgomkbcokgeciaaGreatScA8
import Derived.Test.YtgomkbcokgeciaaGreatScA9
import Derived.Test.YtgomkbcokgeciaaGreatScA10
import Derived.Test.YtgomkbcokgeciaaGreatScA11
import Derived.Test.YtgomkbcokgeciaaGreatScA12
import Derived.Test.YtgomkbcokgeciaaGreatScA13
import Derived.Test.YtgomkbcokgeciaaGreatScA14
import Derived.Test.YtgomkbcokgeciaaGreatScA15
import Derived.Test.YtgomkbcokgeciaaGreatScA16
import Derived.Test.YtgomkbcokgeciaaGreatScA17
import Derived.Test.YtgomkbcokgeciaaGreatScA18
import Derived.Test.YtgomkbcokgeciaaGreatScA19
import Derived.Test.YtgomkbcokgeciaaGreatScA20
import Derived.Test.YtgomkbcokgeciaaGreatScA21
import Derived.Test.YtgomkbcokgeciaaGreatScA22
import Derived.Test.YtgomkbcokgeciaaGreatScA23
import Derived.Test.YtgomkbcokgeciaaGreatScA24
import Derived.Test.YtgomkbcokgeciaaGreatScA25
import Derived.Test.YtgomkbcokgeciaaGreatScA26
import Derived.Test.YtgomkbcokgeciaaGreatScA27
import Derived.Test.YtgomkbcokgeciaaGreatScA28
open Go Go.bR
set_option maxRecDepth 1000000
set_option linter.unusedVariables false
namespace Go.Proofs.YtgomkbcokgeciaaGreat.K
theorem bCA : aZB.Ok := ⟨I6.env, I6.fn, I6.gB, I6.mixed⟩
theorem a5A : nQ Tryz.prog a3W := jZ (j4 (bD bCA (fun _ _ _ _ _ e => by cases e) 100000) bJ0)
theorem bJ5 : nQ Tryz.prog a3Z := jZ (j4 (bD bCA (bV a5A (fun _ _ _ _ _ e => by cases e)) 100000) bJ1)
theorem cA0 : gI Tryz.prog 19 aA0 9 hA0 (nU vA0 1000000 nA0) := dN (bD bCA (bV bJ5 (bV a5A (fun _ _ _ _ _ e => by cases e))) 100000) eA0
theorem pA0 : bO Tryz.prog 19 (eP aA0 hA0 vA0) := bU (by kernel_rfl) (by kernel_rfl) (by kernel_rfl) cA0
theorem aV5 : (cfg aK5).Ok := gU (C := cfg RJ) I6 pA0
theorem bTV : bJI.Ok := ⟨aV5.env, aV5.fn, aV5.gB, aV5.mixed⟩
theorem cA1 : gI Tryz.prog 19 aA1 10 hA1 (nU vA1 1000000 nA1) := dN (fZ bTV 100000) eA1
theorem pA1 : bO Tryz.prog 19 (eP aA1 hA1 vA1) := bU (by kernel_rfl) (by kernel_rfl) (by kernel_rfl) cA1
theorem aV6 : (cfg aK6).Ok := gU (C := cfg aK5) aV5 pA1
theorem bJ6 : bBI.Ok := ⟨aV6.env, aV6.fn, aV6.gB, aV6.mixed⟩
theorem bJ7 : nQ Tryz.prog a4C := jZ (j4 (bD bJ6 (fun _ _ _ _ _ e => by cases e) 100000) bJ3)
theorem cA2 : gI Tryz.prog 88 aA2 22 hA2 (nU vA2 602 nA2) := dN (bD bJ6 (bV bJ7 (fun _ _ _ _ _ e => by cases e)) 100000) eA2
theorem aV7 : (cfg aK7).Ok := XM (C := cfg aK6) aV6 (by kernel_rfl) (by kernel_rfl) (by kernel_rfl) cA2
theorem a0R : aT9.Ok := ⟨aV7.env, aV7.fn, aV7.gB, aV7.mixed⟩
theorem cA3 : gI Tryz.prog 82 aA3 603 hA3 (nU vA3 1000000 nA3) := rG (qU a0R (fP a0R 100000) ndP (IB a0R (fP a0R 100000)) 100000) eA3
theorem pA3 : bO Tryz.prog 82 (eP aA3 hA3 vA3) := bU (by kernel_rfl) (by kernel_rfl) (by kernel_rfl) cA3
theorem aV8 : (cfg aK8).Ok := gU (C := cfg aK7) aV7 pA3
theorem a0S : aUA.Ok := ⟨aV8.env, aV8.fn, aV8.gB, aV8.mixed⟩
theorem cA4 : gI Tryz.prog 83 aA4 605 hA4 (nU vA4 1000000 nA4) := rG (qU a0S (fP a0S 100000) ndP (IB a0S (fP a0S 100000)) 100000) eA4
theorem pA4 : bO Tryz.prog 83 (eP aA4 hA4 vA4) := bU (by kernel_rfl) (by kernel_rfl) (by kernel_rfl) cA4
theorem aV9 : (cfg aK9).Ok := gU (C := cfg aK8) aV8 pA4
theorem bJ8 : bBK.Ok := ⟨aV9.env, aV9.fn, aV9.gB, aV9.mixed⟩
theorem bJ9 : nQ Tryz.prog a4F := jZ (j4 (bD bJ8 (fun _ _ _ _ _ e => by cases e) 100000) bJ4)
theorem cA5 : gI Tryz.prog 88 aA5 618 hA5 (nU vA5 1198 nA5) := dN (bD bJ8 (bV bJ9 (fun _ _ _ _ _ e => by cases e)) 100000) eA5
theorem aWA : (cfg aLA).Ok := XM (C := cfg aK9) aV9 (by kernel_rfl) (by kernel_rfl) (by kernel_rfl) cA5
theorem aOD : CG.Ok := ⟨aWA.env, aWA.fn, aWA.gB, aWA.mixed⟩
theorem aWB (i : Nat) (hi : i < 36) : aNP CG (run CG 100000) none 50 SS (nN Tryz.f25) MU i = true := by
 by_cases h0 : i < 12
 ·exact xM aV1 i (by omega) (by omega)
 by_cases h1 : i < 24
 ·exact xM aV2 i (by omega) (by omega)
 by_cases h2 : i < 36
 ·exact xM aV3 i (by omega) (by omega)
 omega
theorem bCB : WpC Tryz.prog (nN Tryz.f25) none 50 MU a4I := Q3 aOD (fP aOD 100000) bB6 (fun i hi => aWB i hi) (U8 bB7)
theorem cA6 : gI Tryz.prog 25 aA6 606 hA6 (nU vA6 1000000 nA6) := rG (qU aOD (fP aOD 100000) ndP (bV (aQL bCB) (IB aOD (fP aOD 100000))) 100000) eA6
theorem pA6 : bO Tryz.prog 25 (eP aA6 hA6 vA6) := bU (by kernel_rfl) (by kernel_rfl) (by kernel_rfl) cA6
theorem aWC : (cfg aLB).Ok := gU (C := cfg aLA) aWA pA6
theorem aOE : K9.Ok := ⟨aWC.env, aWC.fn, aWC.gB, aWC.mixed⟩
theorem aWD (i : Nat) (hi : i < 12) : aNP K9 (run K9 100000) none 65 aD0 (nN Tryz.f27) V9 i = true := by
 by_cases h0 : i < 12
 ·exact xM aV4 i (by omega) (by omega)
 omega
theorem bCC : WpC Tryz.prog (nN Tryz.f27) none 65 V9 a4L := Q3 aOE (fP aOE 100000) bB8 (fun i hi => aWD i hi) (U8 bB9)
theorem cA7 : gI Tryz.prog 27 aA7 608 hA7 (nU vA7 1000000 nA7) := rG (qU aOE (fP aOE 100000) ndP (bV (aQL bCC) (IB aOE (fP aOE 100000))) 100000) eA7
theorem pA7 : bO Tryz.prog 27 (eP aA7 hA7 vA7) := bU (by kernel_rfl) (by kernel_rfl) (by kernel_rfl) cA7
theorem aWE : (cfg aLH).Ok := gU (C := cfg aLB) aWC pA7
theorem bKA : bBM.Ok := ⟨aWE.env, aWE.fn, aWE.gB, aWE.mixed⟩
theorem bKB : nQ Tryz.prog a4O := jZ (j4 (bD bKA (fun _ _ _ _ _ e => by cases e) 100000) bJ2)
theorem cA8 : gI Tryz.prog 88 aA8 620 hA8 (nU vA8 1200 nA8) := dN (bD bKA (bV bKB (fun _ _ _ _ _ e => by cases e)) 100000) eA8
theorem aWF : (cfg aLI).Ok := XM (C := cfg aLH) aWE (by kernel_rfl) (by kernel_rfl) (by kernel_rfl) cA8
theorem a0T : aUH.Ok := ⟨aWF.env, aWF.fn, aWF.gB, aWF.mixed⟩
theorem cA9 : gI Tryz.prog 82 aA9 1201 hA9 (nU vA9 1000000 nA9) := rG (qU a0T (fP a0T 100000) ndP (IB a0T (fP a0T 100000)) 100000) eA9
theorem pA9 : bO Tryz.prog 82 (eP aA9 hA9 vA9) := bU (by kernel_rfl) (by kernel_rfl) (by kernel_rfl) cA9
theorem aWG : (cfg aLJ).Ok := gU (C := cfg aLI) aWF pA9
theorem bKC : a4P.Ok := ⟨aWG.env, aWG.fn, aWG.gB, aWG.mixed⟩
theorem bTW : gI Tryz.prog 93 aZE 621 aZC (nU aZD 1000000 bJJ) := dN (fZ bKC 100000) bTE
theorem bTX : bO Tryz.prog 93 (eP aZE aZC aZD) := bU (by kernel_rfl) (by kernel_rfl) (by kernel_rfl) bTW
theorem aD9 : (cfg ZE).Ok := gU (C := cfg aLJ) aWG bTX
theorem bKD : a4Q.Ok := ⟨aD9.env, aD9.fn, aD9.gB, aD9.mixed⟩
theorem bTY : gI Tryz.prog 93 aZH 621 aZF (nU aZG 1000000 bJK) := dN (fZ bKD 100000) bTF
theorem bTZ : bO Tryz.prog 93 (eP aZH aZF aZG) := bU (by kernel_rfl) (by kernel_rfl) (by kernel_rfl) bTY
theorem aEA : (cfg ZF).Ok := gU (C := cfg ZE) aD9 bTZ
theorem bKE : a4R.Ok := ⟨aEA.env, aEA.fn, aEA.gB, aEA.mixed⟩
theorem bT0 : gI Tryz.prog 93 aZK 621 aZI (nU aZJ 1000000 bJL) := dN (fZ bKE 100000) bTG
theorem bT1 : bO Tryz.prog 93 (eP aZK aZI aZJ) := bU (by kernel_rfl) (by kernel_rfl) (by kernel_rfl) bT0
theorem aEB : (cfg ZG).Ok := gU (C := cfg ZF) aEA bT1
theorem bKF : a4S.Ok := ⟨aEB.env, aEB.fn, aEB.gB, aEB.mixed⟩
theorem bT2 : gI Tryz.prog 93 aZN 621 aZL (nU aZM 1000000 bJM) := dN (fZ bKF 100000) bTH
theorem bT3 : bO Tryz.prog 93 (eP aZN aZL aZM) := bU (by kernel_rfl) (by kernel_rfl) (by kernel_rfl) bT2
theorem aEC : (cfg ZH).Ok := gU (C := cfg ZG) aEB bT3
theorem bKG : a4T.Ok := ⟨aEC.env, aEC.fn, aEC.gB, aEC.mixed⟩
theorem bT4 : gI Tryz.prog 93 aZQ 621 aZO (nU aZP 1000000 bJN) := dN (fZ bKG 100000) bTI
theorem bT5 : bO Tryz.prog 93 (eP aZQ aZO aZP) := bU (by kernel_rfl) (by kernel_rfl) (by kernel_rfl) bT4
theorem aED : (cfg ZI).Ok := gU (C := cfg ZH) aEC bT5
theorem bKH : a4U.Ok := ⟨aED.env, aED.fn, aED.gB, aED.mixed⟩
theorem bT6 : gI Tryz.prog 93 aZT 621 aZR (nU aZS 1000000 bJO) := dN (fZ bKH 100000) bTJ
theorem bT7 : bO Tryz.prog 93 (eP aZT aZR aZS) := bU (by kernel_rfl) (by kernel_rfl) (by kernel_rfl) bT6
theorem aEE : (cfg ZJ).Ok := gU (C := cfg ZI) aED bT7
theorem aL2 : aD3.Ok := ⟨aEE.env, aEE.fn, aEE.gB, aEE.mixed⟩
theorem aHV : nQ Tryz.prog aUK := jZ (j4 (bD aL2 (fun _ _ _ _ _ e => by cases e) 100000) bBO)
theorem aWH : nQ Tryz.prog aUN := jZ (j4 (bD aL2 (bV aHV (fun _ _ _ _ _ e => by cases e)) 100000) bBP)
theorem bCD : nQ Tryz.prog aUQ := jZ (j4 (bD aL2 (bV aWH (bV aHV (fun _ _ _ _ _ e => by cases e))) 100000) bBQ)
theorem bT8 : gI Tryz.prog 93 aZW 621 aZU (nU aZV 1000000 bJP) := dN (bD aL2 (bV bCD (bV aWH (bV aHV (fun _ _ _ _ _ e => by cases e)))) 100000) bTK
theorem bT9 : bO Tryz.prog 93 (eP aZW aZU aZV) := bU (by kernel_rfl) (by kernel_rfl) (by kernel_rfl) bT8
theorem aEF : (cfg ZO).Ok := gU (C := cfg ZJ) aEE bT9
theorem aL3 : aD4.Ok := ⟨aEF.env, aEF.fn, aEF.gB, aEF.mixed⟩
theorem aHW : nQ Tryz.prog aUT := jZ (j4 (bD aL3 (fun _ _ _ _ _ e => by cases e) 100000) bBR)
theorem aWI : nQ Tryz.prog aUW := jZ (j4 (bD aL3 (bV aHW (fun _ _ _ _ _ e => by cases e)) 100000) bBS)
theorem bCE : nQ Tryz.prog aUZ := jZ (j4 (bD aL3 (bV aWI (bV aHW (fun _ _ _ _ _ e => by cases e))) 100000) bBT)
theorem bUA : gI Tryz.prog 93 aZZ 621 aZX (nU aZY 1000000 bJQ) := dN (bD aL3 (bV bCE (bV aWI (bV aHW (fun _ _ _ _ _ e => by cases e)))) 100000) bTL
theorem bUB : bO Tryz.prog 93 (eP aZZ aZX aZY) := bU (by kernel_rfl) (by kernel_rfl) (by kernel_rfl) bUA
theorem aEG : (cfg ZU).Ok := gU (C := cfg ZO) aEF bUB
theorem aL4 : aD5.Ok := ⟨aEG.env, aEG.fn, aEG.gB, aEG.mixed⟩
theorem aHX : nQ Tryz.prog aU2 := jZ (j4 (bD aL4 (fun _ _ _ _ _ e => by cases e) 100000) bBU)
theorem aWJ : nQ Tryz.prog aU5 := jZ (j4 (bD aL4 (bV aHX (fun _ _ _ _ _ e => by cases e)) 100000) bBV)
theorem bCF : nQ Tryz.prog aU8 := jZ (j4 (bD aL4 (bV aWJ (bV aHX (fun _ _ _ _ _ e => by cases e))) 100000) bBW)
theorem bUC : gI Tryz.prog 93 aZ2 621 aZ0 (nU aZ1 1000000 bJR) := dN (bD aL4 (bV bCF (bV aWJ (bV aHX (fun _ _ _ _ _ e => by cases e)))) 100000) bTM
theorem bUD : bO Tryz.prog 93 (eP aZ2 aZ0 aZ1) := bU (by kernel_rfl) (by kernel_rfl) (by kernel_rfl) bUC
theorem aEH : (cfg ZZ).Ok := gU (C := cfg ZU) aEG bUD
theorem aL5 : aD6.Ok := ⟨aEH.env, aEH.fn, aEH.gB, aEH.mixed⟩
theorem aHY : nQ Tryz.prog aVB := jZ (j4 (bD aL5 (fun _ _ _ _ _ e => by cases e) 100000) bBX)
theorem aWK : nQ Tryz.prog aVE := jZ (j4 (bD aL5 (bV aHY (fun _ _ _ _ _ e => by cases e)) 100000) bBY)
theorem bCG : nQ Tryz.prog aVH := jZ (j4 (bD aL5 (bV aWK (bV aHY (fun _ _ _ _ _ e => by cases e))) 100000) bBZ)
theorem bUE : gI Tryz.prog 93 aZ5 621 aZ3 (nU aZ4 1000000 bJS) := dN (bD aL5 (bV bCG (bV aWK (bV aHY (fun _ _ _ _ _ e => by cases e)))) 100000) bTN
theorem bUF : bO Tryz.prog 93 (eP aZ5 aZ3 aZ4) := bU (by kernel_rfl) (by kernel_rfl) (by kernel_rfl) bUE
theorem aEI : (cfg Z7).Ok := gU (C := cfg ZZ) aEH bUF
theorem aL6 : aD7.Ok := ⟨aEI.env, aEI.fn, aEI.gB, aEI.mixed⟩
theorem aHZ : nQ Tryz.prog aVK := jZ (j4 (bD aL6 (fun _ _ _ _ _ e => by cases e) 100000) bB0)
theorem aWL : nQ Tryz.prog aVN := jZ (j4 (bD aL6 (bV aHZ (fun _ _ _ _ _ e => by cases e)) 100000) bB1)
theorem bCH : nQ Tryz.prog aVQ := jZ (j4 (bD aL6 (bV aWL (bV aHZ (fun _ _ _ _ _ e => by cases e))) 100000) bB2)
theorem bUG : gI Tryz.prog 93 aZ8 621 aZ6 (nU aZ7 1000000 bJT) := dN (bD aL6 (bV bCH (bV aWL (bV aHZ (fun _ _ _ _ _ e => by cases e)))) 100000) bTO
theorem bUH : bO Tryz.prog 93 (eP aZ8 aZ6 aZ7) := bU (by kernel_rfl) (by kernel_rfl) (by kernel_rfl) bUG
theorem aEJ : (cfg aAC).Ok := gU (C := cfg Z7) aEI bUH
theorem bKI : a4V.Ok := ⟨aEJ.env, aEJ.fn, aEJ.gB, aEJ.mixed⟩
theorem bUI : gI Tryz.prog 93 a0B 624 aZ9 (nU a0A 1000000 bJU) := dN (fZ bKI 100000) bTP
theorem bUJ : bO Tryz.prog 93 (eP a0B aZ9 a0A) := bU (by kernel_rfl) (by kernel_rfl) (by kernel_rfl) bUI
theorem aEK : (cfg aAD).Ok := gU (C := cfg aAC) aEJ bUJ
theorem bKJ : a4W.Ok := ⟨aEK.env, aEK.fn, aEK.gB, aEK.mixed⟩
theorem bUK : gI Tryz.prog 93 a0E 625 a0C (nU a0D 1000000 bJV) := dN (fZ bKJ 100000) bTQ
theorem bUL : bO Tryz.prog 93 (eP a0E a0C a0D) := bU (by kernel_rfl) (by kernel_rfl) (by kernel_rfl) bUK
theorem aEL : (cfg aAE).Ok := gU (C := cfg aAD) aEK bUL
theorem aL7 : aD8.Ok := ⟨aEL.env, aEL.fn, aEL.gB, aEL.mixed⟩
theorem aH0 : nQ Tryz.prog aVT := jZ (j4 (bD aL7 (fun _ _ _ _ _ e => by cases e) 100000) bB3)
theorem aWM : nQ Tryz.prog aVW := jZ (j4 (bD aL7 (bV aH0 (fun _ _ _ _ _ e => by cases e)) 100000) bB4)
theorem bCI : nQ Tryz.prog aVZ := jZ (j4 (bD aL7 (bV aWM (bV aH0 (fun _ _ _ _ _ e => by cases e))) 100000) bB5)
theorem bUM : gI Tryz.prog 93 a0H 625 a0F (nU a0G 1000000 bJW) := dN (bD aL7 (bV bCI (bV aWM (bV aH0 (fun _ _ _ _ _ e => by cases e)))) 100000) bTR
theorem bUN : bO Tryz.prog 93 (eP a0H a0F a0G) := bU (by kernel_rfl) (by kernel_rfl) (by kernel_rfl) bUM
theorem aEM : (cfg aAJ).Ok := gU (C := cfg aAE) aEL bUN
theorem bKK : a4X.Ok := ⟨aEM.env, aEM.fn, aEM.gB, aEM.mixed⟩
theorem bUO : gI Tryz.prog 93 a0K 625 a0I (nU a0J 1000000 bJX) := dN (fZ bKK 100000) bTS
theorem bUP : bO Tryz.prog 93 (eP a0K a0I a0J) := bU (by kernel_rfl) (by kernel_rfl) (by kernel_rfl) bUO
theorem aEN : (cfg aAK).Ok := gU (C := cfg aAJ) aEM bUP
theorem bKL : a4Y.Ok := ⟨aEN.env, aEN.fn, aEN.gB, aEN.mixed⟩
theorem bUQ : gI Tryz.prog 93 a0N 641 a0L (nU a0M 1000000 bJY) := dN (fZ bKL 100000) bTT
theorem bUR : bO Tryz.prog 93 (eP a0N a0L a0M) := bU (by kernel_rfl) (by kernel_rfl) (by kernel_rfl) bUQ
theorem aEO : (cfg aAL).Ok := gU (C := cfg aAK) aEN bUR
theorem bKM : a4Z.Ok := ⟨aEO.env, aEO.fn, aEO.gB, aEO.mixed⟩
theorem bUS : gI Tryz.prog 93 a0Q 641 a0O (nU a0P 1000000 bJZ) := dN (fZ bKM 100000) bTU
theorem bUT : bO Tryz.prog 93 (eP a0Q a0O a0P) := bU (by kernel_rfl) (by kernel_rfl) (by kernel_rfl) bUS
theorem aL8 : (cfg aV0).Ok := gU (C := cfg aAL) aEO bUT
theorem bUU : CXA.Ok := ⟨aL8.env, aL8.fn, aL8.gB, aL8.mixed⟩
end Go.Proofs.YtgomkbcokgeciaaGreat.K
