/- Contracts of told functions: the reference's Allowed, Sum, Pays; the law about plans. -/
import Derived.Test.YtdpicdnpiihaaaaAsS24
open Go Go.bG
set_option maxRecDepth 100000
set_option linter.unusedVariables false
namespace Go.Proofs.Ytdpicdnpiihaaaa.K.L
def VL : List Int → Int
 | [] => 0
 | x :: l => iW x + VL l
theorem OX : ∀ l : List Int, 0 ≤ VL l
 | [] => Int.le_refl 0
 | x :: l => by
  have := OX l
  unfold VL iW
  omega
theorem JK : ∀ l : List Int, VL l = 0 ↔ ∀ x ∈ l, iW x = 0
 | [] => ⟨fun _ x hx => (by cases hx), fun _ => rfl⟩
 | y :: l => by
  have ih := JK l
  have p := OX l
  have q : 0 ≤ iW y := by unfold iW; omega
  constructor
  ·intro h x hx
   unfold VL at h
   rcases List.mem_cons.1 hx with rfl | hx
   ·omega
   ·exact ih.1 (by omega) x hx
  ·intro h
   unfold VL
   have a := h y (.head _)
   have b := ih.2 fun x hx => h x (.tail _ hx)
   omega
end Go.Proofs.Ytdpicdnpiihaaaa.K.L
open Go Go.bG
set_option maxRecDepth 100000
set_option linter.unusedVariables false
namespace Go.Proofs.Ytdpicdnpiihaaaa.K.L
end Go.Proofs.Ytdpicdnpiihaaaa.K.L
