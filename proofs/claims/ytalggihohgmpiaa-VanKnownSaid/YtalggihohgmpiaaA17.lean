/- Calls, evaluated. -/
import Derived.Test.YtalggihohgmpiaaKeptA
open Go Go.Eng
set_option maxRecDepth 1000000
set_option linter.unusedVariables false
namespace Go.Proofs.Ytalggihohgmpiaa.K
theorem eA251 : retR (run (cbVA orcA250) 100000 (.call 37 aA251.toArray (hpAt 423 hA251))) vA251 1000000 nA251 = true := by kernel_rfl
theorem eA252 : retR (run (cbVA orcA251) 100000 (.call 37 aA252.toArray (hpAt 425 hA252))) vA252 1000000 nA252 = true := by kernel_rfl
theorem eA253 : retR (run (cbVA orcA252) 100000 (.call 37 aA253.toArray (hpAt 427 hA253))) vA253 1000000 nA253 = true := by kernel_rfl
theorem eA254 : retR (run (cbVA orcA253) 100000 (.call 37 aA254.toArray (hpAt 428 hA254))) vA254 1000000 nA254 = true := by kernel_rfl
theorem eA255 : retR (run (cbVA orcA254) 100000 (.call 37 aA255.toArray (hpAt 429 hA255))) vA255 1000000 nA255 = true := by kernel_rfl
theorem eA256 : retR (run (cbVA orcA255) 100000 (.call 37 aA256.toArray (hpAt 431 hA256))) vA256 1000000 nA256 = true := by kernel_rfl
theorem eA257 : retR (run (cbVA orcA256) 100000 (.call 37 aA257.toArray (hpAt 431 hA257))) vA257 1000000 nA257 = true := by kernel_rfl
theorem eA258 : retR (run (cbVA orcA257) 100000 (.call 37 aA258.toArray (hpAt 433 hA258))) vA258 1000000 nA258 = true := by kernel_rfl
theorem eA259 : retR (run (cbVA orcA258) 100000 (.call 37 aA259.toArray (hpAt 433 hA259))) vA259 1000000 nA259 = true := by kernel_rfl
theorem eA260 : retR (run (cbVA orcA259) 100000 (.call 37 aA260.toArray (hpAt 434 hA260))) vA260 1000000 nA260 = true := by kernel_rfl
theorem eA261 : retR (run (cbVA orcA260) 100000 (.call 37 aA261.toArray (hpAt 436 hA261))) vA261 1000000 nA261 = true := by kernel_rfl
theorem eA262 : retR (run (cbVA orcA261) 100000 (.call 37 aA262.toArray (hpAt 436 hA262))) vA262 1000000 nA262 = true := by kernel_rfl
theorem eA263 : retR (run (cbVA orcA262) 100000 (.call 37 aA263.toArray (hpAt 438 hA263))) vA263 1000000 nA263 = true := by kernel_rfl
theorem eA264 : retR (run (cbVA orcA263) 100000 (.call 37 aA264.toArray (hpAt 439 hA264))) vA264 1000000 nA264 = true := by kernel_rfl
theorem eA265 : retR (run (cbVA orcA264) 100000 (.call 37 aA265.toArray (hpAt 440 hA265))) vA265 1000000 nA265 = true := by kernel_rfl
theorem eA266 : retR (run (cbVA orcA265) 100000 (.call 37 aA266.toArray (hpAt 442 hA266))) vA266 1000000 nA266 = true := by kernel_rfl
theorem eA267 : retR (run (cbVA orcA266) 100000 (.call 37 aA267.toArray (hpAt 444 hA267))) vA267 1000000 nA267 = true := by kernel_rfl
theorem eA268 : retR (run (cbVA orcA267) 100000 (.call 37 aA268.toArray (hpAt 446 hA268))) vA268 1000000 nA268 = true := by kernel_rfl
theorem eA269 : retR (run (cbVA orcA268) 100000 (.call 37 aA269.toArray (hpAt 446 hA269))) vA269 1000000 nA269 = true := by kernel_rfl
theorem eA270 : retR (run (cbVA orcA269) 100000 (.call 37 aA270.toArray (hpAt 447 hA270))) vA270 1000000 nA270 = true := by kernel_rfl
theorem eA271 : retR (run (cbVA orcA270) 100000 (.call 37 aA271.toArray (hpAt 449 hA271))) vA271 1000000 nA271 = true := by kernel_rfl
theorem eA272 : retR (run (cbVA orcA271) 100000 (.call 37 aA272.toArray (hpAt 451 hA272))) vA272 1000000 nA272 = true := by kernel_rfl
theorem eA273 : retR (run (cbVA orcA272) 100000 (.call 37 aA273.toArray (hpAt 453 hA273))) vA273 1000000 nA273 = true := by kernel_rfl
theorem eA274 : retR (run (cbVA orcA273) 100000 (.call 37 aA274.toArray (hpAt 454 hA274))) vA274 1000000 nA274 = true := by kernel_rfl
theorem eA275 : retR (run (cbVA orcA274) 100000 (.call 37 aA275.toArray (hpAt 455 hA275))) vA275 1000000 nA275 = true := by kernel_rfl
theorem eA276 : retR (run (cbVA orcA275) 100000 (.call 37 aA276.toArray (hpAt 456 hA276))) vA276 1000000 nA276 = true := by kernel_rfl
theorem eA277 : retR (run (cbVA orcA276) 100000 (.call 37 aA277.toArray (hpAt 456 hA277))) vA277 1000000 nA277 = true := by kernel_rfl
theorem eA278 : retR (run (cbVA orcA277) 100000 (.call 37 aA278.toArray (hpAt 458 hA278))) vA278 1000000 nA278 = true := by kernel_rfl
theorem eA279 : retR (run (cbVA orcA278) 100000 (.call 37 aA279.toArray (hpAt 460 hA279))) vA279 1000000 nA279 = true := by kernel_rfl
theorem eA280 : retR (run (cbVA orcA279) 100000 (.call 37 aA280.toArray (hpAt 461 hA280))) vA280 1000000 nA280 = true := by kernel_rfl
theorem eA281 : retR (run (cbVA orcA280) 100000 (.call 37 aA281.toArray (hpAt 463 hA281))) vA281 1000000 nA281 = true := by kernel_rfl
theorem eA282 : retR (run (cbVA orcA281) 100000 (.call 37 aA282.toArray (hpAt 463 hA282))) vA282 1000000 nA282 = true := by kernel_rfl
theorem eA283 : retR (run (cbVA orcA282) 100000 (.call 37 aA283.toArray (hpAt 465 hA283))) vA283 1000000 nA283 = true := by kernel_rfl
theorem eA284 : retR (run (cbVA orcA283) 100000 (.call 37 aA284.toArray (hpAt 466 hA284))) vA284 1000000 nA284 = true := by kernel_rfl
theorem eA285 : retR (run (cbVA orcA284) 100000 (.call 37 aA285.toArray (hpAt 468 hA285))) vA285 1000000 nA285 = true := by kernel_rfl
theorem eA286 : retR (run (cbVA orcA285) 100000 (.call 37 aA286.toArray (hpAt 470 hA286))) vA286 1000000 nA286 = true := by kernel_rfl
theorem eA287 : retR (run (cbVA orcA286) 100000 (.call 37 aA287.toArray (hpAt 472 hA287))) vA287 1000000 nA287 = true := by kernel_rfl
theorem eA288 : retR (run (cbVA orcA287) 100000 (.call 37 aA288.toArray (hpAt 473 hA288))) vA288 1000000 nA288 = true := by kernel_rfl
theorem eA289 : retR (run (cbVA orcA288) 100000 (.call 37 aA289.toArray (hpAt 474 hA289))) vA289 1000000 nA289 = true := by kernel_rfl
theorem eA290 : retR (run (cbVA orcA289) 100000 (.call 37 aA290.toArray (hpAt 476 hA290))) vA290 1000000 nA290 = true := by kernel_rfl
end Go.Proofs.Ytalggihohgmpiaa.K
