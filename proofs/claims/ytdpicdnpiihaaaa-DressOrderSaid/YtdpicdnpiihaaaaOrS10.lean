/- Contracts of told functions: openPerson, costs, Cost. -/
import Derived.Test.YtdpicdnpiihaaaaOrS9
open Go Go.bI
set_option maxRecDepth 100000
set_option linter.unusedVariables false
namespace Go.Proofs.Ytdpicdnpiihaaaa.K.L
theorem aF8 {lo : Nat} {h h' : Hp} (e : h'.aC = h.aC) {s : Rm} {l : List Value} (a : GD lo h s l) : GD lo h' s l := a.sub fun i o x => by show h'.aC.get i = some o; rw [e]; exact x
theorem GD.loud {lo : Nat} {h : Hp} {s : Rm} {l : List Value} (a : GD lo h s l) (e : Int) : lD (.tuple (List.toArray [.agg (Array.mk l), .int .i64 e])) = false := by
 obtain ⟨r, mb, hb, rfl, A, _⟩ := a
 obtain ⟨vc, vo, vf, vp, rfl, h1, h2, h3, h4, _⟩ := A
 rw [pV]
 show List.all [.agg (Array.mk (dO vc vo vf vp ++ [.map (some mb)])), .int .i64 e] (fU 5) = false
 show (List.all (dO vc vo vf vp ++ [.map (some mb)]) (fU 4) && _) = false
 rw [List.all_append, show List.all [Value.map (some mb)] (fU 4) = false from rfl, Bool.and_false, Bool.false_and]
end Go.Proofs.Ytdpicdnpiihaaaa.K.L
