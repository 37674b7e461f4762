/- Contracts of told functions: the reference's Allowed, Sum, Pays; the law about plans. -/
import Derived.Test.YtdpicdnpiihaaaaBoS24
open Go Go.bK
set_option maxRecDepth 100000
set_option linter.unusedVariables false
namespace Go.Proofs.Ytdpicdnpiihaaaa.K.L
def zR : List Int → Int
 | [] => 0
 | x :: l => eX x + zR l
theorem PN : ∀ l : List Int, 0 ≤ zR l
 | [] => Int.le_refl 0
 | x :: l => by
  have := PN l
  unfold zR eX
  omega
theorem TM : ∀ l : List Int, zR l = 0 ↔ ∀ x ∈ l, eX x = 0
 | [] => ⟨fun _ x hx => (by cases hx), fun _ => rfl⟩
 | y :: l => by
  have ih := TM l
  have p := PN l
  have q : 0 ≤ eX y := by unfold eX; omega
  constructor
  ·intro h x hx
   unfold zR at h
   rcases List.mem_cons.1 hx with rfl | hx
   ·omega
   ·exact ih.1 (by omega) x hx
  ·intro h
   unfold zR
   have a := h y (.head _)
   have b := ih.2 fun x hx => h x (.tail _ hx)
   omega
end Go.Proofs.Ytdpicdnpiihaaaa.K.L
open Go Go.bK
set_option maxRecDepth 100000
set_option linter.unusedVariables false
namespace Go.Proofs.Ytdpicdnpiihaaaa.K.L
end Go.Proofs.Ytdpicdnpiihaaaa.K.L
