/- Contracts of told functions: two looks at once; the reference's Kinds, One, Cost. -/
import Derived.Test.YtdpicdnpiihaaaaOrS13
open Go Go.bI
set_option maxRecDepth 100000
set_option linter.unusedVariables false
namespace Go.Proofs.Ytdpicdnpiihaaaa.K.L
theorem WU (h : Hp) {b : Nat} {c l : List Value} {e : TypeId} {s : Option Nat} (hg : h.get b = some (.cells c e s)) (hc : c.length = 3) (hl : l.length = 3) (hx : l.all oneCell = true) (hro : h.ro ≤ b) : mW env h 59 (.pointer (some ⟨b, 0, none⟩)) (.agg (Array.mk l)) = some (h.upd b (.cells l e s)) := by
 unfold mW
 rw [show addrOf (.pointer (some ⟨b, 0, none⟩)) = some ⟨b, 0, none⟩ from rfl]
 simp only [Option.bind_some, PT]
 show ok? (Nat.beq l.length 3) (putCells h ⟨b, 0, none⟩ l) = _
 rw [hl]
 show putCells h ⟨b, 0, none⟩ l = _
 unfold putCells
 simp only [ok?, hg]
 rw [show Nat.ble h.ro b = true from by rw [Nat.ble_eq]; exact hro]
 simp only
 rw [show Nat.ble (0 + l.length) c.length = true from by rw [Nat.ble_eq, hc, hl]; exact Nat.le_refl _, hx]
 rw [show c.drop (0 + l.length) = [] from List.drop_of_length_le (by rw [hc, hl]; exact Nat.le_refl _), List.append_nil]
 rfl
end Go.Proofs.Ytdpicdnpiihaaaa.K.L
