/- Calls, evaluated. -/
import Derived.Test.YtalggihohgmpiaaKeptA
open Go Go.Eng
set_option maxRecDepth 1000000
set_option linter.unusedVariables false
namespace Go.Proofs.Ytalggihohgmpiaa.K
theorem eA166 : retR (run (cbVA orcA165) 100000 (.call 37 aA166.toArray (hpAt 265 hA166))) vA166 1000000 nA166 = true := by kernel_rfl
theorem eA167 : retR (run (cbVA orcA166) 100000 (.call 37 aA167.toArray (hpAt 266 hA167))) vA167 1000000 nA167 = true := by kernel_rfl
theorem eA168 : retR (run (cbVA orcA167) 100000 (.call 37 aA168.toArray (hpAt 267 hA168))) vA168 1000000 nA168 = true := by kernel_rfl
theorem eA169 : retR (run (cbVA orcA168) 100000 (.call 37 aA169.toArray (hpAt 268 hA169))) vA169 1000000 nA169 = true := by kernel_rfl
theorem eA171 : retR (run (cbVA orcA170) 100000 (.call 37 aA171.toArray (hpAt 290 hA171))) vA171 1000000 nA171 = true := by kernel_rfl
theorem eA172 : retR (run (cbVA orcA171) 100000 (.call 37 aA172.toArray (hpAt 291 hA172))) vA172 1000000 nA172 = true := by kernel_rfl
theorem eA173 : retR (run (cbVA orcA172) 100000 (.call 37 aA173.toArray (hpAt 292 hA173))) vA173 1000000 nA173 = true := by kernel_rfl
theorem eA174 : retR (run (cbVA orcA173) 100000 (.call 37 aA174.toArray (hpAt 293 hA174))) vA174 1000000 nA174 = true := by kernel_rfl
theorem eA175 : retR (run (cbVA orcA174) 100000 (.call 37 aA175.toArray (hpAt 295 hA175))) vA175 1000000 nA175 = true := by kernel_rfl
theorem eA176 : retR (run (cbVA orcA175) 100000 (.call 37 aA176.toArray (hpAt 297 hA176))) vA176 1000000 nA176 = true := by kernel_rfl
theorem eA177 : retR (run (cbVA orcA176) 100000 (.call 37 aA177.toArray (hpAt 298 hA177))) vA177 1000000 nA177 = true := by kernel_rfl
theorem eA178 : retR (run (cbVA orcA177) 100000 (.call 37 aA178.toArray (hpAt 300 hA178))) vA178 1000000 nA178 = true := by kernel_rfl
theorem eA179 : retR (run (cbVA orcA178) 100000 (.call 37 aA179.toArray (hpAt 302 hA179))) vA179 1000000 nA179 = true := by kernel_rfl
theorem eA180 : retR (run (cbVA orcA179) 100000 (.call 37 aA180.toArray (hpAt 303 hA180))) vA180 1000000 nA180 = true := by kernel_rfl
theorem eA181 : retR (run (cbVA orcA180) 100000 (.call 37 aA181.toArray (hpAt 304 hA181))) vA181 1000000 nA181 = true := by kernel_rfl
theorem eA182 : retR (run (cbVA orcA181) 100000 (.call 37 aA182.toArray (hpAt 306 hA182))) vA182 1000000 nA182 = true := by kernel_rfl
theorem eA183 : retR (run (cbVA orcA182) 100000 (.call 37 aA183.toArray (hpAt 308 hA183))) vA183 1000000 nA183 = true := by kernel_rfl
theorem eA184 : retR (run (cbVA orcA183) 100000 (.call 37 aA184.toArray (hpAt 309 hA184))) vA184 1000000 nA184 = true := by kernel_rfl
theorem eA185 : retR (run (cbVA orcA184) 100000 (.call 37 aA185.toArray (hpAt 311 hA185))) vA185 1000000 nA185 = true := by kernel_rfl
theorem eA186 : retR (run (cbVA orcA185) 100000 (.call 37 aA186.toArray (hpAt 313 hA186))) vA186 1000000 nA186 = true := by kernel_rfl
theorem eA187 : retR (run (cbVA orcA186) 100000 (.call 37 aA187.toArray (hpAt 314 hA187))) vA187 1000000 nA187 = true := by kernel_rfl
theorem eA188 : retR (run (cbVA orcA187) 100000 (.call 37 aA188.toArray (hpAt 315 hA188))) vA188 1000000 nA188 = true := by kernel_rfl
theorem eA189 : retR (run (cbVA orcA188) 100000 (.call 37 aA189.toArray (hpAt 316 hA189))) vA189 1000000 nA189 = true := by kernel_rfl
theorem eA190 : retR (run (cbVA orcA189) 100000 (.call 37 aA190.toArray (hpAt 318 hA190))) vA190 1000000 nA190 = true := by kernel_rfl
theorem eA191 : retR (run (cbVA orcA190) 100000 (.call 37 aA191.toArray (hpAt 320 hA191))) vA191 1000000 nA191 = true := by kernel_rfl
theorem eA192 : retR (run (cbVA orcA191) 100000 (.call 37 aA192.toArray (hpAt 321 hA192))) vA192 1000000 nA192 = true := by kernel_rfl
theorem eA193 : retR (run (cbVA orcA192) 100000 (.call 37 aA193.toArray (hpAt 323 hA193))) vA193 1000000 nA193 = true := by kernel_rfl
theorem eA194 : retR (run (cbVA orcA193) 100000 (.call 37 aA194.toArray (hpAt 325 hA194))) vA194 1000000 nA194 = true := by kernel_rfl
theorem eA195 : retR (run (cbVA orcA194) 100000 (.call 37 aA195.toArray (hpAt 326 hA195))) vA195 1000000 nA195 = true := by kernel_rfl
theorem eA196 : retR (run (cbVA orcA195) 100000 (.call 37 aA196.toArray (hpAt 327 hA196))) vA196 1000000 nA196 = true := by kernel_rfl
theorem eA197 : retR (run (cbVA orcA196) 100000 (.call 37 aA197.toArray (hpAt 329 hA197))) vA197 1000000 nA197 = true := by kernel_rfl
theorem eA198 : retR (run (cbVA orcA197) 100000 (.call 37 aA198.toArray (hpAt 331 hA198))) vA198 1000000 nA198 = true := by kernel_rfl
theorem eA199 : retR (run (cbVA orcA198) 100000 (.call 37 aA199.toArray (hpAt 332 hA199))) vA199 1000000 nA199 = true := by kernel_rfl
theorem eA200 : retR (run (cbVA orcA199) 100000 (.call 37 aA200.toArray (hpAt 334 hA200))) vA200 1000000 nA200 = true := by kernel_rfl
theorem eA205 : retR (run (cbVA orcA204) 100000 (.call 37 aA205.toArray (hpAt 363 hA205))) vA205 1000000 nA205 = true := by kernel_rfl
theorem eA206 : retR (run (cbVA orcA205) 100000 (.call 37 aA206.toArray (hpAt 364 hA206))) vA206 1000000 nA206 = true := by kernel_rfl
theorem eA207 : retR (run (cbVA orcA206) 100000 (.call 37 aA207.toArray (hpAt 365 hA207))) vA207 1000000 nA207 = true := by kernel_rfl
theorem eA208 : retR (run (cbVA orcA207) 100000 (.call 37 aA208.toArray (hpAt 365 hA208))) vA208 1000000 nA208 = true := by kernel_rfl
theorem eA209 : retR (run (cbVA orcA208) 100000 (.call 37 aA209.toArray (hpAt 366 hA209))) vA209 1000000 nA209 = true := by kernel_rfl
theorem eA210 : retR (run (cbVA orcA209) 100000 (.call 37 aA210.toArray (hpAt 368 hA210))) vA210 1000000 nA210 = true := by kernel_rfl
end Go.Proofs.Ytalggihohgmpiaa.K
