/- Contracts of told functions: openPerson, costs, Cost. -/
import Derived.Test.YtdpicdnpiihaaaaLeS9
open Go Go.bK
set_option maxRecDepth 100000
set_option linter.unusedVariables false
namespace Go.Proofs.Ytdpicdnpiihaaaa.K.L
theorem aBD {lo : Nat} {h h' : Hp} (e : h'.aF = h.aF) {s : Rm} {l : List Value} (a : IQ lo h s l) : IQ lo h' s l := a.sub fun i o x => by show h'.aF.get i = some o; rw [e]; exact x
theorem IQ.loud {lo : Nat} {h : Hp} {s : Rm} {l : List Value} (a : IQ lo h s l) (e : Int) : kT (.tuple (List.toArray [.agg (Array.mk l), .int .i64 e])) = false := by
 obtain ⟨r, mb, hb, rfl, A, _⟩ := a
 obtain ⟨vc, vo, vf, vp, rfl, h1, h2, h3, h4, _⟩ := A
 rw [pK]
 show List.all [.agg (Array.mk (fP vc vo vf vp ++ [.map (some mb)])), .int .i64 e] (eX 5) = false
 show (List.all (fP vc vo vf vp ++ [.map (some mb)]) (eX 4) && _) = false
 rw [List.all_append, show List.all [Value.map (some mb)] (eX 4) = false from rfl, Bool.and_false, Bool.false_and]
end Go.Proofs.Ytdpicdnpiihaaaa.K.L
