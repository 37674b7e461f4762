/- Contracts of told functions: the reference's Allowed, Sum, Pays; the law about plans. -/
import Derived.Test.YtdpicdnpiihaaaaOrS24
open Go Go.bI
set_option maxRecDepth 100000
set_option linter.unusedVariables false
namespace Go.Proofs.Ytdpicdnpiihaaaa.K.L
def IQ : List Int → Int
 | [] => 0
 | x :: l => fP x + IQ l
theorem ZU : ∀ l : List Int, 0 ≤ IQ l
 | [] => Int.le_refl 0
 | x :: l => by
  have := ZU l
  unfold IQ fP
  omega
theorem UD : ∀ l : List Int, IQ l = 0 ↔ ∀ x ∈ l, fP x = 0
 | [] => ⟨fun _ x hx => (by cases hx), fun _ => rfl⟩
 | y :: l => by
  have ih := UD l
  have p := ZU l
  have q : 0 ≤ fP y := by unfold fP; omega
  constructor
  ·intro h x hx
   unfold IQ at h
   rcases List.mem_cons.1 hx with rfl | hx
   ·omega
   ·exact ih.1 (by omega) x hx
  ·intro h
   unfold IQ
   have a := h y (.head _)
   have b := ih.2 fun x hx => h x (.tail _ hx)
   omega
end Go.Proofs.Ytdpicdnpiihaaaa.K.L
open Go Go.bI
set_option maxRecDepth 100000
set_option linter.unusedVariables false
namespace Go.Proofs.Ytdpicdnpiihaaaa.K.L
end Go.Proofs.Ytdpicdnpiihaaaa.K.L
