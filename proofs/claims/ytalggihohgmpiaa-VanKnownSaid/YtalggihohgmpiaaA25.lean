/- Calls, evaluated. -/
import Derived.Test.YtalggihohgmpiaaKeptA
open Go Go.Eng
set_option maxRecDepth 1000000
set_option linter.unusedVariables false
namespace Go.Proofs.Ytalggihohgmpiaa.K
theorem eA334 : retR (run (cbVA orcA333) 100000 (.call 37 aA334.toArray (hpAt 381 hA334))) vA334 1000000 nA334 = true := by kernel_rfl
theorem eA335 : retR (run (cbVA orcA334) 100000 (.call 37 aA335.toArray (hpAt 383 hA335))) vA335 1000000 nA335 = true := by kernel_rfl
theorem eA336 : retR (run (cbVA orcA335) 100000 (.call 37 aA336.toArray (hpAt 385 hA336))) vA336 1000000 nA336 = true := by kernel_rfl
theorem eA337 : retR (run (cbVA orcA336) 100000 (.call 37 aA337.toArray (hpAt 387 hA337))) vA337 1000000 nA337 = true := by kernel_rfl
theorem eA338 : retR (run (cbVA orcA337) 100000 (.call 37 aA338.toArray (hpAt 388 hA338))) vA338 1000000 nA338 = true := by kernel_rfl
theorem eA339 : retR (run (cbVA orcA338) 100000 (.call 37 aA339.toArray (hpAt 388 hA339))) vA339 1000000 nA339 = true := by kernel_rfl
theorem eA340 : retR (run (cbVA orcA339) 100000 (.call 37 aA340.toArray (hpAt 389 hA340))) vA340 1000000 nA340 = true := by kernel_rfl
theorem eA341 : retR (run (cbVA orcA340) 100000 (.call 37 aA341.toArray (hpAt 391 hA341))) vA341 1000000 nA341 = true := by kernel_rfl
theorem eA342 : retR (run (cbVA orcA341) 100000 (.call 37 aA342.toArray (hpAt 391 hA342))) vA342 1000000 nA342 = true := by kernel_rfl
theorem eA343 : retR (run (cbVA orcA342) 100000 (.call 37 aA343.toArray (hpAt 393 hA343))) vA343 1000000 nA343 = true := by kernel_rfl
theorem eA344 : retR (run (cbVA orcA343) 100000 (.call 37 aA344.toArray (hpAt 394 hA344))) vA344 1000000 nA344 = true := by kernel_rfl
theorem eA345 : retR (run (cbVA orcA344) 100000 (.call 37 aA345.toArray (hpAt 396 hA345))) vA345 1000000 nA345 = true := by kernel_rfl
theorem eA346 : retR (run (cbVA orcA345) 100000 (.call 37 aA346.toArray (hpAt 398 hA346))) vA346 1000000 nA346 = true := by kernel_rfl
theorem eA347 : retR (run (cbVA orcA346) 100000 (.call 37 aA347.toArray (hpAt 400 hA347))) vA347 1000000 nA347 = true := by kernel_rfl
theorem eA348 : retR (run (cbVA orcA347) 100000 (.call 37 aA348.toArray (hpAt 401 hA348))) vA348 1000000 nA348 = true := by kernel_rfl
theorem eA349 : retR (run (cbVA orcA348) 100000 (.call 37 aA349.toArray (hpAt 402 hA349))) vA349 1000000 nA349 = true := by kernel_rfl
theorem eA350 : retR (run (cbVA orcA349) 100000 (.call 37 aA350.toArray (hpAt 403 hA350))) vA350 1000000 nA350 = true := by kernel_rfl
theorem eA351 : retR (run (cbVA orcA350) 100000 (.call 37 aA351.toArray (hpAt 403 hA351))) vA351 1000000 nA351 = true := by kernel_rfl
theorem eA352 : retR (run (cbVA orcA351) 100000 (.call 37 aA352.toArray (hpAt 405 hA352))) vA352 1000000 nA352 = true := by kernel_rfl
theorem eA353 : retR (run (cbVA orcA352) 100000 (.call 37 aA353.toArray (hpAt 407 hA353))) vA353 1000000 nA353 = true := by kernel_rfl
theorem eA354 : retR (run (cbVA orcA353) 100000 (.call 37 aA354.toArray (hpAt 407 hA354))) vA354 1000000 nA354 = true := by kernel_rfl
theorem eA355 : retR (run (cbVA orcA354) 100000 (.call 37 aA355.toArray (hpAt 408 hA355))) vA355 1000000 nA355 = true := by kernel_rfl
theorem eA356 : retR (run (cbVA orcA355) 100000 (.call 37 aA356.toArray (hpAt 410 hA356))) vA356 1000000 nA356 = true := by kernel_rfl
theorem eA357 : retR (run (cbVA orcA356) 100000 (.call 37 aA357.toArray (hpAt 412 hA357))) vA357 1000000 nA357 = true := by kernel_rfl
theorem eA358 : retR (run (cbVA orcA357) 100000 (.call 37 aA358.toArray (hpAt 414 hA358))) vA358 1000000 nA358 = true := by kernel_rfl
theorem eA359 : retR (run (cbVA orcA358) 100000 (.call 37 aA359.toArray (hpAt 415 hA359))) vA359 1000000 nA359 = true := by kernel_rfl
theorem eA360 : retR (run (cbVA orcA359) 100000 (.call 37 aA360.toArray (hpAt 416 hA360))) vA360 1000000 nA360 = true := by kernel_rfl
theorem eA361 : retR (run (cbVA orcA360) 100000 (.call 37 aA361.toArray (hpAt 418 hA361))) vA361 1000000 nA361 = true := by kernel_rfl
theorem eA362 : retR (run (cbVA orcA361) 100000 (.call 37 aA362.toArray (hpAt 418 hA362))) vA362 1000000 nA362 = true := by kernel_rfl
theorem eA363 : retR (run (cbVA orcA362) 100000 (.call 37 aA363.toArray (hpAt 420 hA363))) vA363 1000000 nA363 = true := by kernel_rfl
theorem eA364 : retR (run (cbVA orcA363) 100000 (.call 37 aA364.toArray (hpAt 420 hA364))) vA364 1000000 nA364 = true := by kernel_rfl
theorem eA365 : retR (run (cbVA orcA364) 100000 (.call 37 aA365.toArray (hpAt 421 hA365))) vA365 1000000 nA365 = true := by kernel_rfl
theorem eA366 : retR (run (cbVA orcA365) 100000 (.call 37 aA366.toArray (hpAt 423 hA366))) vA366 1000000 nA366 = true := by kernel_rfl
theorem eA367 : retR (run (cbVA orcA366) 100000 (.call 37 aA367.toArray (hpAt 423 hA367))) vA367 1000000 nA367 = true := by kernel_rfl
theorem eA368 : retR (run (cbVA orcA367) 100000 (.call 37 aA368.toArray (hpAt 425 hA368))) vA368 1000000 nA368 = true := by kernel_rfl
theorem eA369 : retR (run (cbVA orcA368) 100000 (.call 37 aA369.toArray (hpAt 426 hA369))) vA369 1000000 nA369 = true := by kernel_rfl
theorem eA370 : retR (run (cbVA orcA369) 100000 (.call 37 aA370.toArray (hpAt 427 hA370))) vA370 1000000 nA370 = true := by kernel_rfl
theorem eA371 : retR (run (cbVA orcA370) 100000 (.call 37 aA371.toArray (hpAt 429 hA371))) vA371 1000000 nA371 = true := by kernel_rfl
theorem eA372 : retR (run (cbVA orcA371) 100000 (.call 37 aA372.toArray (hpAt 431 hA372))) vA372 1000000 nA372 = true := by kernel_rfl
theorem eA373 : retR (run (cbVA orcA372) 100000 (.call 37 aA373.toArray (hpAt 433 hA373))) vA373 1000000 nA373 = true := by kernel_rfl
end Go.Proofs.Ytalggihohgmpiaa.K
