/- Calls, evaluated. -/
import Derived.Test.YtalggihohgmpiaaKeptA
open Go Go.Eng
set_option maxRecDepth 1000000
set_option linter.unusedVariables false
namespace Go.Proofs.Ytalggihohgmpiaa.K
theorem eA45 : retR (run (cbVA orcA44) 100000 (.call 34 aA45.toArray (hpAt 109 hA45))) vA45 1000000 nA45 = true := by kernel_rfl
theorem eA46 : retR (run (cbVA orcA45) 100000 (.call 37 aA46.toArray (hpAt 110 hA46))) vA46 1000000 nA46 = true := by kernel_rfl
theorem eA47 : retR (run (cbVA orcA46) 100000 (.call 37 aA47.toArray (hpAt 110 hA47))) vA47 1000000 nA47 = true := by kernel_rfl
theorem eA48 : retR (run (cbVA orcA47) 100000 (.call 34 aA48.toArray (hpAt 112 hA48))) vA48 1000000 nA48 = true := by kernel_rfl
theorem eA49 : retR (run (cbVA orcA48) 100000 (.call 37 aA49.toArray (hpAt 113 hA49))) vA49 1000000 nA49 = true := by kernel_rfl
theorem eA50 : retR (run (cbVA orcA49) 100000 (.call 37 aA50.toArray (hpAt 114 hA50))) vA50 1000000 nA50 = true := by kernel_rfl
theorem eA51 : retR (run (cbVA orcA50) 100000 (.call 34 aA51.toArray (hpAt 116 hA51))) vA51 1000000 nA51 = true := by kernel_rfl
theorem eA52 : retR (run (cbVA orcA51) 100000 (.call 37 aA52.toArray (hpAt 117 hA52))) vA52 1000000 nA52 = true := by kernel_rfl
theorem eA53 : retR (run (cbVA orcA52) 100000 (.call 34 aA53.toArray (hpAt 119 hA53))) vA53 1000000 nA53 = true := by kernel_rfl
theorem eA54 : retR (run (cbVA orcA53) 100000 (.call 37 aA54.toArray (hpAt 120 hA54))) vA54 1000000 nA54 = true := by kernel_rfl
theorem eA55 : retR (run (cbVA orcA54) 100000 (.call 34 aA55.toArray (hpAt 122 hA55))) vA55 1000000 nA55 = true := by kernel_rfl
theorem eA56 : retR (run (cbVA orcA55) 100000 (.call 37 aA56.toArray (hpAt 123 hA56))) vA56 1000000 nA56 = true := by kernel_rfl
theorem eA57 : retR (run (cbVA orcA56) 100000 (.call 37 aA57.toArray (hpAt 124 hA57))) vA57 1000000 nA57 = true := by kernel_rfl
theorem eA58 : retR (run (cbVA orcA57) 100000 (.call 37 aA58.toArray (hpAt 125 hA58))) vA58 1000000 nA58 = true := by kernel_rfl
theorem eA59 : retR (run (cbVA orcA58) 100000 (.call 37 aA59.toArray (hpAt 126 hA59))) vA59 1000000 nA59 = true := by kernel_rfl
theorem eA60 : retR (run (cbVA orcA59) 100000 (.call 37 aA60.toArray (hpAt 126 hA60))) vA60 1000000 nA60 = true := by kernel_rfl
theorem eA61 : retR (run (cbVA orcA60) 100000 (.call 34 aA61.toArray (hpAt 128 hA61))) vA61 1000000 nA61 = true := by kernel_rfl
theorem eA62 : retR (run (cbVA orcA61) 100000 (.call 37 aA62.toArray (hpAt 129 hA62))) vA62 1000000 nA62 = true := by kernel_rfl
theorem eA63 : retR (run (cbVA orcA62) 100000 (.call 34 aA63.toArray (hpAt 131 hA63))) vA63 1000000 nA63 = true := by kernel_rfl
theorem eA64 : retR (run (cbVA orcA63) 100000 (.call 37 aA64.toArray (hpAt 132 hA64))) vA64 1000000 nA64 = true := by kernel_rfl
theorem eA65 : retR (run (cbVA orcA64) 100000 (.call 37 aA65.toArray (hpAt 132 hA65))) vA65 1000000 nA65 = true := by kernel_rfl
theorem eA66 : retR (run (cbVA orcA65) 100000 (.call 37 aA66.toArray (hpAt 133 hA66))) vA66 1000000 nA66 = true := by kernel_rfl
theorem eA67 : retR (run (cbVA orcA66) 100000 (.call 34 aA67.toArray (hpAt 135 hA67))) vA67 1000000 nA67 = true := by kernel_rfl
theorem eA68 : retR (run (cbVA orcA67) 100000 (.call 37 aA68.toArray (hpAt 136 hA68))) vA68 1000000 nA68 = true := by kernel_rfl
theorem eA69 : retR (run (cbVA orcA68) 100000 (.call 34 aA69.toArray (hpAt 138 hA69))) vA69 1000000 nA69 = true := by kernel_rfl
theorem eA70 : retR (run (cbVA orcA69) 100000 (.call 37 aA70.toArray (hpAt 139 hA70))) vA70 1000000 nA70 = true := by kernel_rfl
theorem eA71 : retR (run (cbVA orcA70) 100000 (.call 34 aA71.toArray (hpAt 141 hA71))) vA71 1000000 nA71 = true := by kernel_rfl
theorem eA72 : retR (run (cbVA orcA71) 100000 (.call 37 aA72.toArray (hpAt 142 hA72))) vA72 1000000 nA72 = true := by kernel_rfl
theorem eA73 : retR (run (cbVA orcA72) 100000 (.call 37 aA73.toArray (hpAt 143 hA73))) vA73 1000000 nA73 = true := by kernel_rfl
theorem eA74 : retR (run (cbVA orcA73) 100000 (.call 37 aA74.toArray (hpAt 144 hA74))) vA74 1000000 nA74 = true := by kernel_rfl
theorem eA75 : retR (run (cbVA orcA74) 100000 (.call 34 aA75.toArray (hpAt 146 hA75))) vA75 1000000 nA75 = true := by kernel_rfl
theorem eA76 : retR (run (cbVA orcA75) 100000 (.call 37 aA76.toArray (hpAt 147 hA76))) vA76 1000000 nA76 = true := by kernel_rfl
theorem eA77 : retR (run (cbVA orcA76) 100000 (.call 37 aA77.toArray (hpAt 147 hA77))) vA77 1000000 nA77 = true := by kernel_rfl
theorem eA78 : retR (run (cbVA orcA77) 100000 (.call 34 aA78.toArray (hpAt 149 hA78))) vA78 1000000 nA78 = true := by kernel_rfl
theorem eA79 : retR (run (cbVA orcA78) 100000 (.call 37 aA79.toArray (hpAt 150 hA79))) vA79 1000000 nA79 = true := by kernel_rfl
theorem eA80 : retR (run (cbVA orcA79) 100000 (.call 37 aA80.toArray (hpAt 150 hA80))) vA80 1000000 nA80 = true := by kernel_rfl
theorem eA81 : retR (run (cbVA orcA80) 100000 (.call 37 aA81.toArray (hpAt 151 hA81))) vA81 1000000 nA81 = true := by kernel_rfl
theorem eA82 : retR (run (cbVA orcA81) 100000 (.call 34 aA82.toArray (hpAt 153 hA82))) vA82 1000000 nA82 = true := by kernel_rfl
theorem eA83 : retR (run (cbVA orcA82) 100000 (.call 37 aA83.toArray (hpAt 154 hA83))) vA83 1000000 nA83 = true := by kernel_rfl
theorem eA84 : retR (run (cbVA orcA83) 100000 (.call 37 aA84.toArray (hpAt 154 hA84))) vA84 1000000 nA84 = true := by kernel_rfl
end Go.Proofs.Ytalggihohgmpiaa.K
