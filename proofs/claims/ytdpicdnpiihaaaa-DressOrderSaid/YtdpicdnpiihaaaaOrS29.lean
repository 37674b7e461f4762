/- Contracts of told functions: any plan of a room, its loops. -/
import Derived.Test.YtdpicdnpiihaaaaOrS28
open Go Go.bI
set_option maxRecDepth 100000
set_option linter.unusedVariables false
namespace Go.Proofs.Ytdpicdnpiihaaaa.K.L
theorem qZ.rw {hb h : Hp} {v : Value} {ns : List Int} (a : qZ hb h v ns) : RwA hb h 1 3 v ns.length (ns.map (Value.int .i64)) := by
 rcases a with ⟨h1, rfl⟩ | a
 ·exact .inl ⟨h1, rfl, rfl⟩
 ·exact .inr a
theorem RwA.in {hb h : Hp} {v : Value} {ns : List Int} (a : RwA hb h 1 3 v ns.length (ns.map (Value.int .i64))) : qZ hb h v ns := by
 rcases a with ⟨h1, h2, h3⟩ | a
 ·exact .inl ⟨h1, List.eq_nil_of_length_eq_zero h2⟩
 ·exact .inr a
end Go.Proofs.Ytdpicdnpiihaaaa.K.L
