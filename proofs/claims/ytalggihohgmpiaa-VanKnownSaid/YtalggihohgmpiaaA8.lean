/- Calls, evaluated. -/
import Derived.Test.YtalggihohgmpiaaKeptA
open Go Go.Eng
set_option maxRecDepth 1000000
set_option linter.unusedVariables false
namespace Go.Proofs.Ytalggihohgmpiaa.K
theorem eA125 : retR (run (cbVA orcA124) 100000 (.call 37 aA125.toArray (hpAt 206 hA125))) vA125 1000000 nA125 = true := by kernel_rfl
theorem eA126 : retR (run (cbVA orcA125) 100000 (.call 34 aA126.toArray (hpAt 208 hA126))) vA126 1000000 nA126 = true := by kernel_rfl
theorem eA127 : retR (run (cbVA orcA126) 100000 (.call 37 aA127.toArray (hpAt 209 hA127))) vA127 1000000 nA127 = true := by kernel_rfl
theorem eA128 : retR (run (cbVA orcA127) 100000 (.call 34 aA128.toArray (hpAt 211 hA128))) vA128 1000000 nA128 = true := by kernel_rfl
theorem eA129 : retR (run (cbVA orcA128) 100000 (.call 37 aA129.toArray (hpAt 212 hA129))) vA129 1000000 nA129 = true := by kernel_rfl
theorem eA130 : retR (run (cbVA orcA129) 100000 (.call 34 aA130.toArray (hpAt 214 hA130))) vA130 1000000 nA130 = true := by kernel_rfl
theorem eA131 : retR (run (cbVA orcA130) 100000 (.call 37 aA131.toArray (hpAt 215 hA131))) vA131 1000000 nA131 = true := by kernel_rfl
theorem eA132 : retR (run (cbVA orcA131) 100000 (.call 37 aA132.toArray (hpAt 216 hA132))) vA132 1000000 nA132 = true := by kernel_rfl
theorem eA133 : retR (run (cbVA orcA132) 100000 (.call 34 aA133.toArray (hpAt 218 hA133))) vA133 1000000 nA133 = true := by kernel_rfl
theorem eA134 : retR (run (cbVA orcA133) 100000 (.call 37 aA134.toArray (hpAt 219 hA134))) vA134 1000000 nA134 = true := by kernel_rfl
theorem eA135 : retR (run (cbVA orcA134) 100000 (.call 37 aA135.toArray (hpAt 219 hA135))) vA135 1000000 nA135 = true := by kernel_rfl
theorem eA136 : retR (run (cbVA orcA135) 100000 (.call 34 aA136.toArray (hpAt 221 hA136))) vA136 1000000 nA136 = true := by kernel_rfl
theorem eA137 : retR (run (cbVA orcA136) 100000 (.call 37 aA137.toArray (hpAt 222 hA137))) vA137 1000000 nA137 = true := by kernel_rfl
theorem eA138 : retR (run (cbVA orcA137) 100000 (.call 37 aA138.toArray (hpAt 223 hA138))) vA138 1000000 nA138 = true := by kernel_rfl
theorem eA139 : retR (run (cbVA orcA138) 100000 (.call 34 aA139.toArray (hpAt 225 hA139))) vA139 1000000 nA139 = true := by kernel_rfl
theorem eA140 : retR (run (cbVA orcA139) 100000 (.call 37 aA140.toArray (hpAt 226 hA140))) vA140 1000000 nA140 = true := by kernel_rfl
theorem eA141 : retR (run (cbVA orcA140) 100000 (.call 34 aA141.toArray (hpAt 228 hA141))) vA141 1000000 nA141 = true := by kernel_rfl
theorem eA142 : retR (run (cbVA orcA141) 100000 (.call 37 aA142.toArray (hpAt 229 hA142))) vA142 1000000 nA142 = true := by kernel_rfl
theorem eA143 : retR (run (cbVA orcA142) 100000 (.call 34 aA143.toArray (hpAt 231 hA143))) vA143 1000000 nA143 = true := by kernel_rfl
theorem eA144 : retR (run (cbVA orcA143) 100000 (.call 37 aA144.toArray (hpAt 232 hA144))) vA144 1000000 nA144 = true := by kernel_rfl
theorem eA145 : retR (run (cbVA orcA144) 100000 (.call 37 aA145.toArray (hpAt 233 hA145))) vA145 1000000 nA145 = true := by kernel_rfl
theorem eA146 : retR (run (cbVA orcA145) 100000 (.call 37 aA146.toArray (hpAt 234 hA146))) vA146 1000000 nA146 = true := by kernel_rfl
theorem eA147 : retR (run (cbVA orcA146) 100000 (.call 34 aA147.toArray (hpAt 236 hA147))) vA147 1000000 nA147 = true := by kernel_rfl
theorem eA148 : retR (run (cbVA orcA147) 100000 (.call 37 aA148.toArray (hpAt 237 hA148))) vA148 1000000 nA148 = true := by kernel_rfl
theorem eA149 : retR (run (cbVA orcA148) 100000 (.call 34 aA149.toArray (hpAt 239 hA149))) vA149 1000000 nA149 = true := by kernel_rfl
theorem eA150 : retR (run (cbVA orcA149) 100000 (.call 37 aA150.toArray (hpAt 240 hA150))) vA150 1000000 nA150 = true := by kernel_rfl
theorem eA151 : retR (run (cbVA orcA150) 100000 (.call 34 aA151.toArray (hpAt 242 hA151))) vA151 1000000 nA151 = true := by kernel_rfl
theorem eA152 : retR (run (cbVA orcA151) 100000 (.call 37 aA152.toArray (hpAt 243 hA152))) vA152 1000000 nA152 = true := by kernel_rfl
theorem eA153 : retR (run (cbVA orcA152) 100000 (.call 37 aA153.toArray (hpAt 244 hA153))) vA153 1000000 nA153 = true := by kernel_rfl
theorem eA154 : retR (run (cbVA orcA153) 100000 (.call 34 aA154.toArray (hpAt 246 hA154))) vA154 1000000 nA154 = true := by kernel_rfl
theorem eA155 : retR (run (cbVA orcA154) 100000 (.call 37 aA155.toArray (hpAt 247 hA155))) vA155 1000000 nA155 = true := by kernel_rfl
theorem eA156 : retR (run (cbVA orcA155) 100000 (.call 37 aA156.toArray (hpAt 247 hA156))) vA156 1000000 nA156 = true := by kernel_rfl
theorem eA157 : retR (run (cbVA orcA156) 100000 (.call 34 aA157.toArray (hpAt 249 hA157))) vA157 1000000 nA157 = true := by kernel_rfl
theorem eA158 : retR (run (cbVA orcA157) 100000 (.call 37 aA158.toArray (hpAt 250 hA158))) vA158 1000000 nA158 = true := by kernel_rfl
theorem eA159 : retR (run (cbVA orcA158) 100000 (.call 37 aA159.toArray (hpAt 251 hA159))) vA159 1000000 nA159 = true := by kernel_rfl
theorem eA160 : retR (run (cbVA orcA159) 100000 (.call 34 aA160.toArray (hpAt 253 hA160))) vA160 1000000 nA160 = true := by kernel_rfl
theorem eA161 : retR (run (cbVA orcA160) 100000 (.call 37 aA161.toArray (hpAt 254 hA161))) vA161 1000000 nA161 = true := by kernel_rfl
theorem eA162 : retR (run (cbVA orcA161) 100000 (.call 34 aA162.toArray (hpAt 256 hA162))) vA162 1000000 nA162 = true := by kernel_rfl
theorem eA163 : retR (run (cbVA orcA162) 100000 (.call 37 aA163.toArray (hpAt 257 hA163))) vA163 1000000 nA163 = true := by kernel_rfl
theorem eA164 : retR (run (cbVA orcA163) 100000 (.call 34 aA164.toArray (hpAt 259 hA164))) vA164 1000000 nA164 = true := by kernel_rfl
end Go.Proofs.Ytalggihohgmpiaa.K
