/- Contracts of told functions: openPerson, costs, Cost. -/
import Derived.Test.YtepepiajmdpiiaaPlS9
open Go Go.Eng
set_option maxRecDepth 100000
set_option linter.unusedVariables false
namespace Go.Proofs.Ytepepiajmdpiiaa.K.L
theorem ZO {lo : Nat} {h h' : Hp} (e : h'.aI = h.aI) {s : Rm} {l : List Value} (a : QK lo h s l) : QK lo h' s l := a.sub fun i o x => by show h'.aI.get i = some o; rw [e]; exact x
theorem QK.loud {lo : Nat} {h : Hp} {s : Rm} {l : List Value} (a : QK lo h s l) (e : Int) : kI (.tuple (List.toArray [.agg (Array.mk l), .int .i64 e])) = false := by
 obtain ⟨r, mb, hb, rfl, A, _⟩ := a
 obtain ⟨vc, vo, vf, vp, rfl, h1, h2, h3, h4, _⟩ := A
 rw [lG]
 show List.all [.agg (Array.mk (fV vc vo vf vp ++ [.map (some mb)])), .int .i64 e] (dM 5) = false
 show (List.all (fV vc vo vf vp ++ [.map (some mb)]) (dM 4) && _) = false
 rw [List.all_append, show List.all [Value.map (some mb)] (dM 4) = false from rfl, Bool.and_false, Bool.false_and]
end Go.Proofs.Ytepepiajmdpiiaa.K.L
