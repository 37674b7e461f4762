/- Calls, evaluated. -/
import Derived.Test.YtalggihohgmpiaaKeptA
open Go Go.Eng
set_option maxRecDepth 1000000
set_option linter.unusedVariables false
namespace Go.Proofs.Ytalggihohgmpiaa.K
theorem eA0 : retR (run (cbVA orcE) 100000 (.call 37 aA0.toArray (hpAt 19 hA0))) vA0 1000000 nA0 = true := by kernel_rfl
theorem eA2 : retR (run (cbVA orcA1) 100000 (.call 37 aA2.toArray (hpAt 30 hA2))) vA2 1000000 nA2 = true := by kernel_rfl
theorem eA4 : retR (run (cbVA orcA3) 100000 (.call 37 aA4.toArray (hpAt 42 hA4))) vA4 1000000 nA4 = true := by kernel_rfl
theorem eA6 : retR (run (cbVA orcA5) 100000 (.call 37 aA6.toArray (hpAt 43 hA6))) vA6 1000000 nA6 = true := by kernel_rfl
theorem eA8 : retR (run (cbVA orcA7) 100000 (.call 37 aA8.toArray (hpAt 44 hA8))) vA8 1000000 nA8 = true := by kernel_rfl
theorem eA10 : retR (run (cbVA orcA9) 100000 (.call 37 aA10.toArray (hpAt 68 hA10))) vA10 1000000 nA10 = true := by kernel_rfl
theorem eA11 : retR (run (cbVA orcA10) 100000 (.call 37 aA11.toArray (hpAt 69 hA11))) vA11 1000000 nA11 = true := by kernel_rfl
theorem eA12 : retR (run (cbVA orcA11) 100000 (.call 37 aA12.toArray (hpAt 70 hA12))) vA12 1000000 nA12 = true := by kernel_rfl
theorem eA13 : retR (run (cbVA orcA12) 100000 (.call 37 aA13.toArray (hpAt 70 hA13))) vA13 1000000 nA13 = true := by kernel_rfl
theorem eA14 : retR (run (cbVA orcA13) 100000 (.call 37 aA14.toArray (hpAt 71 hA14))) vA14 1000000 nA14 = true := by kernel_rfl
theorem eA15 : retR (run (cbVA orcA14) 100000 (.call 34 aA15.toArray (hpAt 73 hA15))) vA15 1000000 nA15 = true := by kernel_rfl
theorem eA16 : retR (run (cbVA orcA15) 100000 (.call 37 aA16.toArray (hpAt 74 hA16))) vA16 1000000 nA16 = true := by kernel_rfl
theorem eA17 : retR (run (cbVA orcA16) 100000 (.call 37 aA17.toArray (hpAt 74 hA17))) vA17 1000000 nA17 = true := by kernel_rfl
theorem eA18 : retR (run (cbVA orcA17) 100000 (.call 34 aA18.toArray (hpAt 76 hA18))) vA18 1000000 nA18 = true := by kernel_rfl
theorem eA19 : retR (run (cbVA orcA18) 100000 (.call 37 aA19.toArray (hpAt 77 hA19))) vA19 1000000 nA19 = true := by kernel_rfl
theorem eA20 : retR (run (cbVA orcA19) 100000 (.call 37 aA20.toArray (hpAt 78 hA20))) vA20 1000000 nA20 = true := by kernel_rfl
theorem eA21 : retR (run (cbVA orcA20) 100000 (.call 34 aA21.toArray (hpAt 80 hA21))) vA21 1000000 nA21 = true := by kernel_rfl
theorem eA22 : retR (run (cbVA orcA21) 100000 (.call 37 aA22.toArray (hpAt 81 hA22))) vA22 1000000 nA22 = true := by kernel_rfl
theorem eA23 : retR (run (cbVA orcA22) 100000 (.call 34 aA23.toArray (hpAt 83 hA23))) vA23 1000000 nA23 = true := by kernel_rfl
theorem eA24 : retR (run (cbVA orcA23) 100000 (.call 37 aA24.toArray (hpAt 84 hA24))) vA24 1000000 nA24 = true := by kernel_rfl
theorem eA25 : retR (run (cbVA orcA24) 100000 (.call 34 aA25.toArray (hpAt 86 hA25))) vA25 1000000 nA25 = true := by kernel_rfl
theorem eA26 : retR (run (cbVA orcA25) 100000 (.call 37 aA26.toArray (hpAt 87 hA26))) vA26 1000000 nA26 = true := by kernel_rfl
theorem eA27 : retR (run (cbVA orcA26) 100000 (.call 37 aA27.toArray (hpAt 88 hA27))) vA27 1000000 nA27 = true := by kernel_rfl
theorem eA28 : retR (run (cbVA orcA27) 100000 (.call 37 aA28.toArray (hpAt 88 hA28))) vA28 1000000 nA28 = true := by kernel_rfl
theorem eA29 : retR (run (cbVA orcA28) 100000 (.call 37 aA29.toArray (hpAt 89 hA29))) vA29 1000000 nA29 = true := by kernel_rfl
theorem eA30 : retR (run (cbVA orcA29) 100000 (.call 34 aA30.toArray (hpAt 91 hA30))) vA30 1000000 nA30 = true := by kernel_rfl
theorem eA31 : retR (run (cbVA orcA30) 100000 (.call 37 aA31.toArray (hpAt 92 hA31))) vA31 1000000 nA31 = true := by kernel_rfl
theorem eA32 : retR (run (cbVA orcA31) 100000 (.call 37 aA32.toArray (hpAt 92 hA32))) vA32 1000000 nA32 = true := by kernel_rfl
theorem eA33 : retR (run (cbVA orcA32) 100000 (.call 34 aA33.toArray (hpAt 94 hA33))) vA33 1000000 nA33 = true := by kernel_rfl
theorem eA34 : retR (run (cbVA orcA33) 100000 (.call 37 aA34.toArray (hpAt 95 hA34))) vA34 1000000 nA34 = true := by kernel_rfl
theorem eA35 : retR (run (cbVA orcA34) 100000 (.call 37 aA35.toArray (hpAt 96 hA35))) vA35 1000000 nA35 = true := by kernel_rfl
theorem eA36 : retR (run (cbVA orcA35) 100000 (.call 34 aA36.toArray (hpAt 98 hA36))) vA36 1000000 nA36 = true := by kernel_rfl
theorem eA37 : retR (run (cbVA orcA36) 100000 (.call 37 aA37.toArray (hpAt 99 hA37))) vA37 1000000 nA37 = true := by kernel_rfl
theorem eA38 : retR (run (cbVA orcA37) 100000 (.call 34 aA38.toArray (hpAt 101 hA38))) vA38 1000000 nA38 = true := by kernel_rfl
theorem eA39 : retR (run (cbVA orcA38) 100000 (.call 37 aA39.toArray (hpAt 102 hA39))) vA39 1000000 nA39 = true := by kernel_rfl
theorem eA40 : retR (run (cbVA orcA39) 100000 (.call 34 aA40.toArray (hpAt 104 hA40))) vA40 1000000 nA40 = true := by kernel_rfl
theorem eA41 : retR (run (cbVA orcA40) 100000 (.call 37 aA41.toArray (hpAt 105 hA41))) vA41 1000000 nA41 = true := by kernel_rfl
theorem eA42 : retR (run (cbVA orcA41) 100000 (.call 37 aA42.toArray (hpAt 106 hA42))) vA42 1000000 nA42 = true := by kernel_rfl
theorem eA43 : retR (run (cbVA orcA42) 100000 (.call 37 aA43.toArray (hpAt 106 hA43))) vA43 1000000 nA43 = true := by kernel_rfl
theorem eA44 : retR (run (cbVA orcA43) 100000 (.call 37 aA44.toArray (hpAt 107 hA44))) vA44 1000000 nA44 = true := by kernel_rfl
end Go.Proofs.Ytalggihohgmpiaa.K
