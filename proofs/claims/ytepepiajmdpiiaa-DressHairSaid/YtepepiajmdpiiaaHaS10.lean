/- Contracts of told functions: openPerson, costs, Cost. -/
import Derived.Test.YtepepiajmdpiiaaHaS9
open Go Go.Eng
set_option maxRecDepth 100000
set_option linter.unusedVariables false
namespace Go.Proofs.Ytepepiajmdpiiaa.K.L
theorem aE5 {lo : Nat} {h h' : Hp} (e : h'.aG = h.aG) {s : Rm} {l : List Value} (a : UJ lo h s l) : UJ lo h' s l := a.sub fun i o x => by show h'.aG.get i = some o; rw [e]; exact x
theorem UJ.loud {lo : Nat} {h : Hp} {s : Rm} {l : List Value} (a : UJ lo h s l) (e : Int) : kL (.tuple (List.toArray [.agg (Array.mk l), .int .i64 e])) = false := by
 obtain ⟨r, mb, hb, rfl, A, _⟩ := a
 obtain ⟨vc, vo, vf, vp, rfl, h1, h2, h3, h4, _⟩ := A
 rw [nZ]
 show List.all [.agg (Array.mk (iF vc vo vf vp ++ [.map (some mb)])), .int .i64 e] (eZ 5) = false
 show (List.all (iF vc vo vf vp ++ [.map (some mb)]) (eZ 4) && _) = false
 rw [List.all_append, show List.all [Value.map (some mb)] (eZ 4) = false from rfl, Bool.and_false, Bool.false_and]
end Go.Proofs.Ytepepiajmdpiiaa.K.L
