/- Calls, evaluated. -/
import Derived.Test.YtalggihohgmpiaaKeptA
open Go Go.Eng
set_option maxRecDepth 1000000
set_option linter.unusedVariables false
namespace Go.Proofs.Ytalggihohgmpiaa.K
theorem eA211 : retR (run (cbVA orcA210) 100000 (.call 37 aA211.toArray (hpAt 368 hA211))) vA211 1000000 nA211 = true := by kernel_rfl
theorem eA212 : retR (run (cbVA orcA211) 100000 (.call 37 aA212.toArray (hpAt 370 hA212))) vA212 1000000 nA212 = true := by kernel_rfl
theorem eA213 : retR (run (cbVA orcA212) 100000 (.call 37 aA213.toArray (hpAt 371 hA213))) vA213 1000000 nA213 = true := by kernel_rfl
theorem eA214 : retR (run (cbVA orcA213) 100000 (.call 37 aA214.toArray (hpAt 373 hA214))) vA214 1000000 nA214 = true := by kernel_rfl
theorem eA215 : retR (run (cbVA orcA214) 100000 (.call 37 aA215.toArray (hpAt 375 hA215))) vA215 1000000 nA215 = true := by kernel_rfl
theorem eA216 : retR (run (cbVA orcA215) 100000 (.call 37 aA216.toArray (hpAt 377 hA216))) vA216 1000000 nA216 = true := by kernel_rfl
theorem eA217 : retR (run (cbVA orcA216) 100000 (.call 37 aA217.toArray (hpAt 378 hA217))) vA217 1000000 nA217 = true := by kernel_rfl
theorem eA218 : retR (run (cbVA orcA217) 100000 (.call 37 aA218.toArray (hpAt 379 hA218))) vA218 1000000 nA218 = true := by kernel_rfl
theorem eA219 : retR (run (cbVA orcA218) 100000 (.call 37 aA219.toArray (hpAt 379 hA219))) vA219 1000000 nA219 = true := by kernel_rfl
theorem eA220 : retR (run (cbVA orcA219) 100000 (.call 37 aA220.toArray (hpAt 381 hA220))) vA220 1000000 nA220 = true := by kernel_rfl
theorem eA221 : retR (run (cbVA orcA220) 100000 (.call 37 aA221.toArray (hpAt 383 hA221))) vA221 1000000 nA221 = true := by kernel_rfl
theorem eA222 : retR (run (cbVA orcA221) 100000 (.call 37 aA222.toArray (hpAt 384 hA222))) vA222 1000000 nA222 = true := by kernel_rfl
theorem eA223 : retR (run (cbVA orcA222) 100000 (.call 37 aA223.toArray (hpAt 386 hA223))) vA223 1000000 nA223 = true := by kernel_rfl
theorem eA224 : retR (run (cbVA orcA223) 100000 (.call 37 aA224.toArray (hpAt 386 hA224))) vA224 1000000 nA224 = true := by kernel_rfl
theorem eA225 : retR (run (cbVA orcA224) 100000 (.call 37 aA225.toArray (hpAt 388 hA225))) vA225 1000000 nA225 = true := by kernel_rfl
theorem eA226 : retR (run (cbVA orcA225) 100000 (.call 37 aA226.toArray (hpAt 389 hA226))) vA226 1000000 nA226 = true := by kernel_rfl
theorem eA227 : retR (run (cbVA orcA226) 100000 (.call 37 aA227.toArray (hpAt 391 hA227))) vA227 1000000 nA227 = true := by kernel_rfl
theorem eA228 : retR (run (cbVA orcA227) 100000 (.call 37 aA228.toArray (hpAt 393 hA228))) vA228 1000000 nA228 = true := by kernel_rfl
theorem eA229 : retR (run (cbVA orcA228) 100000 (.call 37 aA229.toArray (hpAt 395 hA229))) vA229 1000000 nA229 = true := by kernel_rfl
theorem eA230 : retR (run (cbVA orcA229) 100000 (.call 37 aA230.toArray (hpAt 396 hA230))) vA230 1000000 nA230 = true := by kernel_rfl
theorem eA231 : retR (run (cbVA orcA230) 100000 (.call 37 aA231.toArray (hpAt 397 hA231))) vA231 1000000 nA231 = true := by kernel_rfl
theorem eA232 : retR (run (cbVA orcA231) 100000 (.call 37 aA232.toArray (hpAt 397 hA232))) vA232 1000000 nA232 = true := by kernel_rfl
theorem eA233 : retR (run (cbVA orcA232) 100000 (.call 37 aA233.toArray (hpAt 399 hA233))) vA233 1000000 nA233 = true := by kernel_rfl
theorem eA234 : retR (run (cbVA orcA233) 100000 (.call 37 aA234.toArray (hpAt 401 hA234))) vA234 1000000 nA234 = true := by kernel_rfl
theorem eA235 : retR (run (cbVA orcA234) 100000 (.call 37 aA235.toArray (hpAt 402 hA235))) vA235 1000000 nA235 = true := by kernel_rfl
theorem eA236 : retR (run (cbVA orcA235) 100000 (.call 37 aA236.toArray (hpAt 404 hA236))) vA236 1000000 nA236 = true := by kernel_rfl
theorem eA237 : retR (run (cbVA orcA236) 100000 (.call 37 aA237.toArray (hpAt 404 hA237))) vA237 1000000 nA237 = true := by kernel_rfl
theorem eA238 : retR (run (cbVA orcA237) 100000 (.call 37 aA238.toArray (hpAt 406 hA238))) vA238 1000000 nA238 = true := by kernel_rfl
theorem eA239 : retR (run (cbVA orcA238) 100000 (.call 37 aA239.toArray (hpAt 407 hA239))) vA239 1000000 nA239 = true := by kernel_rfl
theorem eA240 : retR (run (cbVA orcA239) 100000 (.call 37 aA240.toArray (hpAt 409 hA240))) vA240 1000000 nA240 = true := by kernel_rfl
theorem eA241 : retR (run (cbVA orcA240) 100000 (.call 37 aA241.toArray (hpAt 411 hA241))) vA241 1000000 nA241 = true := by kernel_rfl
theorem eA242 : retR (run (cbVA orcA241) 100000 (.call 37 aA242.toArray (hpAt 413 hA242))) vA242 1000000 nA242 = true := by kernel_rfl
theorem eA243 : retR (run (cbVA orcA242) 100000 (.call 37 aA243.toArray (hpAt 414 hA243))) vA243 1000000 nA243 = true := by kernel_rfl
theorem eA244 : retR (run (cbVA orcA243) 100000 (.call 37 aA244.toArray (hpAt 415 hA244))) vA244 1000000 nA244 = true := by kernel_rfl
theorem eA245 : retR (run (cbVA orcA244) 100000 (.call 37 aA245.toArray (hpAt 416 hA245))) vA245 1000000 nA245 = true := by kernel_rfl
theorem eA246 : retR (run (cbVA orcA245) 100000 (.call 37 aA246.toArray (hpAt 416 hA246))) vA246 1000000 nA246 = true := by kernel_rfl
theorem eA247 : retR (run (cbVA orcA246) 100000 (.call 37 aA247.toArray (hpAt 418 hA247))) vA247 1000000 nA247 = true := by kernel_rfl
theorem eA248 : retR (run (cbVA orcA247) 100000 (.call 37 aA248.toArray (hpAt 420 hA248))) vA248 1000000 nA248 = true := by kernel_rfl
theorem eA249 : retR (run (cbVA orcA248) 100000 (.call 37 aA249.toArray (hpAt 420 hA249))) vA249 1000000 nA249 = true := by kernel_rfl
theorem eA250 : retR (run (cbVA orcA249) 100000 (.call 37 aA250.toArray (hpAt 421 hA250))) vA250 1000000 nA250 = true := by kernel_rfl
end Go.Proofs.Ytalggihohgmpiaa.K
