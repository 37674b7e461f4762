/- Rows of figures, cut off and laid anew. -/
import Derived.Test.YtdpicdnpiihaaaaOrS45
open Go Go.bI
set_option maxRecDepth 100000
set_option linter.unusedVariables false
namespace Go.Proofs.Ytdpicdnpiihaaaa.K.L
theorem IX : (env.ty.get 59).map (fun ti => ti.info.bytes) = some 48 := by kernel_rfl
theorem QN : (jR env 59).map (fun x => Nat.beq x.cells.size 3) = some true := by kernel_rfl
theorem a7E (h : Hp) : aU env h 23 0 (List.toArray []) = some (.slice (some ⟨h.next, 0, none⟩) 0 0, h.add (.cells [] 59 none)) := by kernel_rfl
theorem aUC {h : Hp} {b0 : Nat} (h0 : h.get b0 = some (.cells [] 59 none)) {b k cap : Nat} {M : List Value} (hk : 0 < k ∧ k ≤ 100) (hs : eY h ⟨b, 0, none⟩ (k * 3) = some M) :
  cB env h #[23, 23] (List.toArray [.slice (some ⟨b0, 0, none⟩) 0 0, .slice (some ⟨b, 0, none⟩) k cap]) = some (.slice (some ⟨h.next, 0, none⟩) k k, h.add (.cells M 59 (some 3))) := by
 obtain ⟨ti, hti⟩ : ∃ ti, env.ty.get 59 = some ti := by
  cases e : env.ty.get 59 with
  | none => have := IX; rw [e] at this; cases this
  | some ti => exact ⟨ti, rfl⟩
 have hb3 : ti.info.bytes = 48 := by have := IX; rw [hti] at this; simpa using this
 obtain ⟨z, hz'⟩ : ∃ z, jR env 59 = some z := by
  cases e : jR env 59 with
  | none => have := QN; rw [e] at this; cases this
  | some z => exact ⟨z, rfl⟩
 have hzs : Nat.beq z.cells.size 3 = true := by have := QN; rw [hz'] at this; simpa using this
 have hsrc : qH h k 3 (.slice (some ⟨b, 0, none⟩) k cap) = some M := hs
 have hre : kG h b0 = some none := by unfold kG; rw [h0]
 have hold : eY h ⟨b0, 0, none⟩ (0 * 3) = some [] := iH h0 rfl
 unfold cB
 rw [show (#[23, 23] : Array TypeId)[0]? = some 23 from rfl, show (#[23, 23] : Array TypeId)[1]? = some 23 from rfl, show (List.toArray [Value.slice (some ⟨b0, 0, none⟩) 0 0, .slice (some ⟨b, 0, none⟩) k cap])[0]? = some (.slice (some ⟨b0, 0, none⟩) 0 0) from rfl, show (List.toArray [Value.slice (some ⟨b0, 0, none⟩) 0 0, .slice (some ⟨b, 0, none⟩) k cap])[1]? = some (.slice (some ⟨b, 0, none⟩) k cap) from rfl]
 simp only [Option.bind_some, aE9, PT, hti, hz', wH, hb3]
 rw [show (Nat.blt 0 3 && Nat.blt 0 48 && Nat.ble 48 65536 && Nat.beq z.cells.size 3) = true from by rw [hzs]; rfl]
 simp only [ok?, hre, Option.bind_some]
 rw [show Nat.ble ((0 + k) * 48) 1099511627776 = true from by rw [Nat.ble_eq]; omega, show Nat.ble (0 + k) 0 = false from by cases e2 : Nat.ble (0 + k) 0 with | false => rfl | true => rw [Nat.ble_eq] at e2; omega]
 simp only [hold, hsrc, Option.bind_some, Nat.zero_add]
 rfl
end Go.Proofs.Ytdpicdnpiihaaaa.K.L
