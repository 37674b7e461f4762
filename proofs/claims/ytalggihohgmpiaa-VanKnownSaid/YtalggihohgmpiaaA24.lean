/- Calls, evaluated. -/
import Derived.Test.YtalggihohgmpiaaKeptA
open Go Go.Eng
set_option maxRecDepth 1000000
set_option linter.unusedVariables false
namespace Go.Proofs.Ytalggihohgmpiaa.K
theorem eA291 : retR (run (cbVA orcA290) 100000 (.call 37 aA291.toArray (hpAt 478 hA291))) vA291 1000000 nA291 = true := by kernel_rfl
theorem eA292 : retR (run (cbVA orcA291) 100000 (.call 37 aA292.toArray (hpAt 480 hA292))) vA292 1000000 nA292 = true := by kernel_rfl
theorem eA293 : retR (run (cbVA orcA292) 100000 (.call 37 aA293.toArray (hpAt 481 hA293))) vA293 1000000 nA293 = true := by kernel_rfl
theorem eA294 : retR (run (cbVA orcA293) 100000 (.call 37 aA294.toArray (hpAt 483 hA294))) vA294 1000000 nA294 = true := by kernel_rfl
theorem eA295 : retR (run (cbVA orcA294) 100000 (.call 37 aA295.toArray (hpAt 483 hA295))) vA295 1000000 nA295 = true := by kernel_rfl
theorem eA296 : retR (run (cbVA orcA295) 100000 (.call 37 aA296.toArray (hpAt 485 hA296))) vA296 1000000 nA296 = true := by kernel_rfl
theorem eA297 : retR (run (cbVA orcA296) 100000 (.call 37 aA297.toArray (hpAt 486 hA297))) vA297 1000000 nA297 = true := by kernel_rfl
theorem eA298 : retR (run (cbVA orcA297) 100000 (.call 37 aA298.toArray (hpAt 488 hA298))) vA298 1000000 nA298 = true := by kernel_rfl
theorem eA299 : retR (run (cbVA orcA298) 100000 (.call 37 aA299.toArray (hpAt 490 hA299))) vA299 1000000 nA299 = true := by kernel_rfl
theorem eA300 : retR (run (cbVA orcA299) 100000 (.call 37 aA300.toArray (hpAt 492 hA300))) vA300 1000000 nA300 = true := by kernel_rfl
theorem eA301 : retR (run (cbVA orcA300) 100000 (.call 37 aA301.toArray (hpAt 493 hA301))) vA301 1000000 nA301 = true := by kernel_rfl
theorem eA302 : retR (run (cbVA orcA301) 100000 (.call 37 aA302.toArray (hpAt 494 hA302))) vA302 1000000 nA302 = true := by kernel_rfl
theorem eA303 : retR (run (cbVA orcA302) 100000 (.call 37 aA303.toArray (hpAt 496 hA303))) vA303 1000000 nA303 = true := by kernel_rfl
theorem eA304 : retR (run (cbVA orcA303) 100000 (.call 37 aA304.toArray (hpAt 498 hA304))) vA304 1000000 nA304 = true := by kernel_rfl
theorem eA305 : retR (run (cbVA orcA304) 100000 (.call 37 aA305.toArray (hpAt 500 hA305))) vA305 1000000 nA305 = true := by kernel_rfl
theorem eA306 : retR (run (cbVA orcA305) 100000 (.call 37 aA306.toArray (hpAt 501 hA306))) vA306 1000000 nA306 = true := by kernel_rfl
theorem eA307 : retR (run (cbVA orcA306) 100000 (.call 37 aA307.toArray (hpAt 503 hA307))) vA307 1000000 nA307 = true := by kernel_rfl
theorem eA308 : retR (run (cbVA orcA307) 100000 (.call 37 aA308.toArray (hpAt 503 hA308))) vA308 1000000 nA308 = true := by kernel_rfl
theorem eA309 : retR (run (cbVA orcA308) 100000 (.call 37 aA309.toArray (hpAt 505 hA309))) vA309 1000000 nA309 = true := by kernel_rfl
theorem eA310 : retR (run (cbVA orcA309) 100000 (.call 37 aA310.toArray (hpAt 506 hA310))) vA310 1000000 nA310 = true := by kernel_rfl
theorem eA311 : retR (run (cbVA orcA310) 100000 (.call 37 aA311.toArray (hpAt 508 hA311))) vA311 1000000 nA311 = true := by kernel_rfl
theorem eA312 : retR (run (cbVA orcA311) 100000 (.call 37 aA312.toArray (hpAt 510 hA312))) vA312 1000000 nA312 = true := by kernel_rfl
theorem eA316 : retR (run (cbVA orcA315) 100000 (.call 37 aA316.toArray (hpAt 360 hA316))) vA316 1000000 nA316 = true := by kernel_rfl
theorem eA317 : retR (run (cbVA orcA316) 100000 (.call 37 aA317.toArray (hpAt 361 hA317))) vA317 1000000 nA317 = true := by kernel_rfl
theorem eA318 : retR (run (cbVA orcA317) 100000 (.call 37 aA318.toArray (hpAt 362 hA318))) vA318 1000000 nA318 = true := by kernel_rfl
theorem eA319 : retR (run (cbVA orcA318) 100000 (.call 37 aA319.toArray (hpAt 362 hA319))) vA319 1000000 nA319 = true := by kernel_rfl
theorem eA320 : retR (run (cbVA orcA319) 100000 (.call 37 aA320.toArray (hpAt 363 hA320))) vA320 1000000 nA320 = true := by kernel_rfl
theorem eA321 : retR (run (cbVA orcA320) 100000 (.call 37 aA321.toArray (hpAt 365 hA321))) vA321 1000000 nA321 = true := by kernel_rfl
theorem eA322 : retR (run (cbVA orcA321) 100000 (.call 37 aA322.toArray (hpAt 365 hA322))) vA322 1000000 nA322 = true := by kernel_rfl
theorem eA323 : retR (run (cbVA orcA322) 100000 (.call 37 aA323.toArray (hpAt 367 hA323))) vA323 1000000 nA323 = true := by kernel_rfl
theorem eA324 : retR (run (cbVA orcA323) 100000 (.call 37 aA324.toArray (hpAt 368 hA324))) vA324 1000000 nA324 = true := by kernel_rfl
theorem eA325 : retR (run (cbVA orcA324) 100000 (.call 37 aA325.toArray (hpAt 370 hA325))) vA325 1000000 nA325 = true := by kernel_rfl
theorem eA326 : retR (run (cbVA orcA325) 100000 (.call 37 aA326.toArray (hpAt 372 hA326))) vA326 1000000 nA326 = true := by kernel_rfl
theorem eA327 : retR (run (cbVA orcA326) 100000 (.call 37 aA327.toArray (hpAt 374 hA327))) vA327 1000000 nA327 = true := by kernel_rfl
theorem eA328 : retR (run (cbVA orcA327) 100000 (.call 37 aA328.toArray (hpAt 375 hA328))) vA328 1000000 nA328 = true := by kernel_rfl
theorem eA329 : retR (run (cbVA orcA328) 100000 (.call 37 aA329.toArray (hpAt 375 hA329))) vA329 1000000 nA329 = true := by kernel_rfl
theorem eA330 : retR (run (cbVA orcA329) 100000 (.call 37 aA330.toArray (hpAt 376 hA330))) vA330 1000000 nA330 = true := by kernel_rfl
theorem eA331 : retR (run (cbVA orcA330) 100000 (.call 37 aA331.toArray (hpAt 378 hA331))) vA331 1000000 nA331 = true := by kernel_rfl
theorem eA332 : retR (run (cbVA orcA331) 100000 (.call 37 aA332.toArray (hpAt 378 hA332))) vA332 1000000 nA332 = true := by kernel_rfl
theorem eA333 : retR (run (cbVA orcA332) 100000 (.call 37 aA333.toArray (hpAt 380 hA333))) vA333 1000000 nA333 = true := by kernel_rfl
end Go.Proofs.Ytalggihohgmpiaa.K
