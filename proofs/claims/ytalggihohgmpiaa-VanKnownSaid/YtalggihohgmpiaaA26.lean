/- Calls, evaluated. -/
import Derived.Test.YtalggihohgmpiaaKeptA
open Go Go.Eng
set_option maxRecDepth 1000000
set_option linter.unusedVariables false
namespace Go.Proofs.Ytalggihohgmpiaa.K
theorem eA374 : retR (run (cbVA orcA373) 100000 (.call 37 aA374.toArray (hpAt 433 hA374))) vA374 1000000 nA374 = true := by kernel_rfl
theorem eA375 : retR (run (cbVA orcA374) 100000 (.call 37 aA375.toArray (hpAt 434 hA375))) vA375 1000000 nA375 = true := by kernel_rfl
theorem eA376 : retR (run (cbVA orcA375) 100000 (.call 37 aA376.toArray (hpAt 436 hA376))) vA376 1000000 nA376 = true := by kernel_rfl
theorem eA377 : retR (run (cbVA orcA376) 100000 (.call 37 aA377.toArray (hpAt 438 hA377))) vA377 1000000 nA377 = true := by kernel_rfl
theorem eA378 : retR (run (cbVA orcA377) 100000 (.call 37 aA378.toArray (hpAt 440 hA378))) vA378 1000000 nA378 = true := by kernel_rfl
theorem eA379 : retR (run (cbVA orcA378) 100000 (.call 37 aA379.toArray (hpAt 441 hA379))) vA379 1000000 nA379 = true := by kernel_rfl
theorem eA380 : retR (run (cbVA orcA379) 100000 (.call 37 aA380.toArray (hpAt 442 hA380))) vA380 1000000 nA380 = true := by kernel_rfl
theorem eA381 : retR (run (cbVA orcA380) 100000 (.call 37 aA381.toArray (hpAt 443 hA381))) vA381 1000000 nA381 = true := by kernel_rfl
theorem eA382 : retR (run (cbVA orcA381) 100000 (.call 37 aA382.toArray (hpAt 443 hA382))) vA382 1000000 nA382 = true := by kernel_rfl
theorem eA383 : retR (run (cbVA orcA382) 100000 (.call 37 aA383.toArray (hpAt 445 hA383))) vA383 1000000 nA383 = true := by kernel_rfl
theorem eA384 : retR (run (cbVA orcA383) 100000 (.call 37 aA384.toArray (hpAt 447 hA384))) vA384 1000000 nA384 = true := by kernel_rfl
theorem eA385 : retR (run (cbVA orcA384) 100000 (.call 37 aA385.toArray (hpAt 448 hA385))) vA385 1000000 nA385 = true := by kernel_rfl
theorem eA386 : retR (run (cbVA orcA385) 100000 (.call 37 aA386.toArray (hpAt 450 hA386))) vA386 1000000 nA386 = true := by kernel_rfl
theorem eA387 : retR (run (cbVA orcA386) 100000 (.call 37 aA387.toArray (hpAt 450 hA387))) vA387 1000000 nA387 = true := by kernel_rfl
theorem eA388 : retR (run (cbVA orcA387) 100000 (.call 37 aA388.toArray (hpAt 452 hA388))) vA388 1000000 nA388 = true := by kernel_rfl
theorem eA389 : retR (run (cbVA orcA388) 100000 (.call 37 aA389.toArray (hpAt 453 hA389))) vA389 1000000 nA389 = true := by kernel_rfl
theorem eA390 : retR (run (cbVA orcA389) 100000 (.call 37 aA390.toArray (hpAt 455 hA390))) vA390 1000000 nA390 = true := by kernel_rfl
theorem eA391 : retR (run (cbVA orcA390) 100000 (.call 37 aA391.toArray (hpAt 457 hA391))) vA391 1000000 nA391 = true := by kernel_rfl
theorem eA392 : retR (run (cbVA orcA391) 100000 (.call 37 aA392.toArray (hpAt 459 hA392))) vA392 1000000 nA392 = true := by kernel_rfl
theorem eA393 : retR (run (cbVA orcA392) 100000 (.call 37 aA393.toArray (hpAt 460 hA393))) vA393 1000000 nA393 = true := by kernel_rfl
theorem eA394 : retR (run (cbVA orcA393) 100000 (.call 37 aA394.toArray (hpAt 461 hA394))) vA394 1000000 nA394 = true := by kernel_rfl
theorem eA395 : retR (run (cbVA orcA394) 100000 (.call 37 aA395.toArray (hpAt 463 hA395))) vA395 1000000 nA395 = true := by kernel_rfl
theorem eA396 : retR (run (cbVA orcA395) 100000 (.call 37 aA396.toArray (hpAt 465 hA396))) vA396 1000000 nA396 = true := by kernel_rfl
theorem eA397 : retR (run (cbVA orcA396) 100000 (.call 37 aA397.toArray (hpAt 467 hA397))) vA397 1000000 nA397 = true := by kernel_rfl
theorem eA398 : retR (run (cbVA orcA397) 100000 (.call 37 aA398.toArray (hpAt 468 hA398))) vA398 1000000 nA398 = true := by kernel_rfl
theorem eA399 : retR (run (cbVA orcA398) 100000 (.call 37 aA399.toArray (hpAt 470 hA399))) vA399 1000000 nA399 = true := by kernel_rfl
theorem eA400 : retR (run (cbVA orcA399) 100000 (.call 37 aA400.toArray (hpAt 470 hA400))) vA400 1000000 nA400 = true := by kernel_rfl
theorem eA401 : retR (run (cbVA orcA400) 100000 (.call 37 aA401.toArray (hpAt 472 hA401))) vA401 1000000 nA401 = true := by kernel_rfl
theorem eA402 : retR (run (cbVA orcA401) 100000 (.call 37 aA402.toArray (hpAt 473 hA402))) vA402 1000000 nA402 = true := by kernel_rfl
theorem eA403 : retR (run (cbVA orcA402) 100000 (.call 37 aA403.toArray (hpAt 475 hA403))) vA403 1000000 nA403 = true := by kernel_rfl
theorem eA404 : retR (run (cbVA orcA403) 100000 (.call 37 aA404.toArray (hpAt 477 hA404))) vA404 1000000 nA404 = true := by kernel_rfl
theorem eA405 : retR (run (cbVA orcA404) 100000 (.call 37 aA405.toArray (hpAt 479 hA405))) vA405 1000000 nA405 = true := by kernel_rfl
theorem eA406 : retR (run (cbVA orcA405) 100000 (.call 37 aA406.toArray (hpAt 480 hA406))) vA406 1000000 nA406 = true := by kernel_rfl
theorem eA407 : retR (run (cbVA orcA406) 100000 (.call 37 aA407.toArray (hpAt 481 hA407))) vA407 1000000 nA407 = true := by kernel_rfl
theorem eA408 : retR (run (cbVA orcA407) 100000 (.call 37 aA408.toArray (hpAt 483 hA408))) vA408 1000000 nA408 = true := by kernel_rfl
theorem eA409 : retR (run (cbVA orcA408) 100000 (.call 37 aA409.toArray (hpAt 485 hA409))) vA409 1000000 nA409 = true := by kernel_rfl
theorem eA410 : retR (run (cbVA orcA409) 100000 (.call 37 aA410.toArray (hpAt 487 hA410))) vA410 1000000 nA410 = true := by kernel_rfl
theorem eA411 : retR (run (cbVA orcA410) 100000 (.call 37 aA411.toArray (hpAt 488 hA411))) vA411 1000000 nA411 = true := by kernel_rfl
theorem eA412 : retR (run (cbVA orcA411) 100000 (.call 37 aA412.toArray (hpAt 490 hA412))) vA412 1000000 nA412 = true := by kernel_rfl
theorem eA413 : retR (run (cbVA orcA412) 100000 (.call 37 aA413.toArray (hpAt 490 hA413))) vA413 1000000 nA413 = true := by kernel_rfl
end Go.Proofs.Ytalggihohgmpiaa.K
