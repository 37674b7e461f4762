/- Calls, evaluated. -/
import Derived.Test.YtalggihohgmpiaaKeptA
open Go Go.Eng
set_option maxRecDepth 1000000
set_option linter.unusedVariables false
namespace Go.Proofs.Ytalggihohgmpiaa.K
theorem eA85 : retR (run (cbVA orcA84) 100000 (.call 34 aA85.toArray (hpAt 156 hA85))) vA85 1000000 nA85 = true := by kernel_rfl
theorem eA86 : retR (run (cbVA orcA85) 100000 (.call 37 aA86.toArray (hpAt 157 hA86))) vA86 1000000 nA86 = true := by kernel_rfl
theorem eA87 : retR (run (cbVA orcA86) 100000 (.call 37 aA87.toArray (hpAt 158 hA87))) vA87 1000000 nA87 = true := by kernel_rfl
theorem eA88 : retR (run (cbVA orcA87) 100000 (.call 37 aA88.toArray (hpAt 159 hA88))) vA88 1000000 nA88 = true := by kernel_rfl
theorem eA89 : retR (run (cbVA orcA88) 100000 (.call 34 aA89.toArray (hpAt 161 hA89))) vA89 1000000 nA89 = true := by kernel_rfl
theorem eA90 : retR (run (cbVA orcA89) 100000 (.call 37 aA90.toArray (hpAt 162 hA90))) vA90 1000000 nA90 = true := by kernel_rfl
theorem eA91 : retR (run (cbVA orcA90) 100000 (.call 34 aA91.toArray (hpAt 164 hA91))) vA91 1000000 nA91 = true := by kernel_rfl
theorem eA92 : retR (run (cbVA orcA91) 100000 (.call 37 aA92.toArray (hpAt 165 hA92))) vA92 1000000 nA92 = true := by kernel_rfl
theorem eA93 : retR (run (cbVA orcA92) 100000 (.call 34 aA93.toArray (hpAt 167 hA93))) vA93 1000000 nA93 = true := by kernel_rfl
theorem eA94 : retR (run (cbVA orcA93) 100000 (.call 37 aA94.toArray (hpAt 168 hA94))) vA94 1000000 nA94 = true := by kernel_rfl
theorem eA95 : retR (run (cbVA orcA94) 100000 (.call 37 aA95.toArray (hpAt 168 hA95))) vA95 1000000 nA95 = true := by kernel_rfl
theorem eA96 : retR (run (cbVA orcA95) 100000 (.call 37 aA96.toArray (hpAt 169 hA96))) vA96 1000000 nA96 = true := by kernel_rfl
theorem eA97 : retR (run (cbVA orcA96) 100000 (.call 34 aA97.toArray (hpAt 171 hA97))) vA97 1000000 nA97 = true := by kernel_rfl
theorem eA98 : retR (run (cbVA orcA97) 100000 (.call 37 aA98.toArray (hpAt 172 hA98))) vA98 1000000 nA98 = true := by kernel_rfl
theorem eA99 : retR (run (cbVA orcA98) 100000 (.call 34 aA99.toArray (hpAt 174 hA99))) vA99 1000000 nA99 = true := by kernel_rfl
theorem eA100 : retR (run (cbVA orcA99) 100000 (.call 37 aA100.toArray (hpAt 175 hA100))) vA100 1000000 nA100 = true := by kernel_rfl
theorem eA101 : retR (run (cbVA orcA100) 100000 (.call 34 aA101.toArray (hpAt 177 hA101))) vA101 1000000 nA101 = true := by kernel_rfl
theorem eA102 : retR (run (cbVA orcA101) 100000 (.call 37 aA102.toArray (hpAt 178 hA102))) vA102 1000000 nA102 = true := by kernel_rfl
theorem eA103 : retR (run (cbVA orcA102) 100000 (.call 37 aA103.toArray (hpAt 179 hA103))) vA103 1000000 nA103 = true := by kernel_rfl
theorem eA104 : retR (run (cbVA orcA103) 100000 (.call 37 aA104.toArray (hpAt 180 hA104))) vA104 1000000 nA104 = true := by kernel_rfl
theorem eA105 : retR (run (cbVA orcA104) 100000 (.call 37 aA105.toArray (hpAt 181 hA105))) vA105 1000000 nA105 = true := by kernel_rfl
theorem eA106 : retR (run (cbVA orcA105) 100000 (.call 37 aA106.toArray (hpAt 181 hA106))) vA106 1000000 nA106 = true := by kernel_rfl
theorem eA107 : retR (run (cbVA orcA106) 100000 (.call 34 aA107.toArray (hpAt 183 hA107))) vA107 1000000 nA107 = true := by kernel_rfl
theorem eA108 : retR (run (cbVA orcA107) 100000 (.call 37 aA108.toArray (hpAt 184 hA108))) vA108 1000000 nA108 = true := by kernel_rfl
theorem eA109 : retR (run (cbVA orcA108) 100000 (.call 34 aA109.toArray (hpAt 186 hA109))) vA109 1000000 nA109 = true := by kernel_rfl
theorem eA110 : retR (run (cbVA orcA109) 100000 (.call 37 aA110.toArray (hpAt 187 hA110))) vA110 1000000 nA110 = true := by kernel_rfl
theorem eA111 : retR (run (cbVA orcA110) 100000 (.call 37 aA111.toArray (hpAt 188 hA111))) vA111 1000000 nA111 = true := by kernel_rfl
theorem eA112 : retR (run (cbVA orcA111) 100000 (.call 34 aA112.toArray (hpAt 190 hA112))) vA112 1000000 nA112 = true := by kernel_rfl
theorem eA113 : retR (run (cbVA orcA112) 100000 (.call 37 aA113.toArray (hpAt 191 hA113))) vA113 1000000 nA113 = true := by kernel_rfl
theorem eA114 : retR (run (cbVA orcA113) 100000 (.call 37 aA114.toArray (hpAt 191 hA114))) vA114 1000000 nA114 = true := by kernel_rfl
theorem eA115 : retR (run (cbVA orcA114) 100000 (.call 34 aA115.toArray (hpAt 193 hA115))) vA115 1000000 nA115 = true := by kernel_rfl
theorem eA116 : retR (run (cbVA orcA115) 100000 (.call 37 aA116.toArray (hpAt 194 hA116))) vA116 1000000 nA116 = true := by kernel_rfl
theorem eA117 : retR (run (cbVA orcA116) 100000 (.call 37 aA117.toArray (hpAt 195 hA117))) vA117 1000000 nA117 = true := by kernel_rfl
theorem eA118 : retR (run (cbVA orcA117) 100000 (.call 34 aA118.toArray (hpAt 197 hA118))) vA118 1000000 nA118 = true := by kernel_rfl
theorem eA119 : retR (run (cbVA orcA118) 100000 (.call 37 aA119.toArray (hpAt 198 hA119))) vA119 1000000 nA119 = true := by kernel_rfl
theorem eA120 : retR (run (cbVA orcA119) 100000 (.call 34 aA120.toArray (hpAt 200 hA120))) vA120 1000000 nA120 = true := by kernel_rfl
theorem eA121 : retR (run (cbVA orcA120) 100000 (.call 37 aA121.toArray (hpAt 201 hA121))) vA121 1000000 nA121 = true := by kernel_rfl
theorem eA122 : retR (run (cbVA orcA121) 100000 (.call 34 aA122.toArray (hpAt 203 hA122))) vA122 1000000 nA122 = true := by kernel_rfl
theorem eA123 : retR (run (cbVA orcA122) 100000 (.call 37 aA123.toArray (hpAt 204 hA123))) vA123 1000000 nA123 = true := by kernel_rfl
theorem eA124 : retR (run (cbVA orcA123) 100000 (.call 37 aA124.toArray (hpAt 205 hA124))) vA124 1000000 nA124 = true := by kernel_rfl
end Go.Proofs.Ytalggihohgmpiaa.K
