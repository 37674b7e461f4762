/- Contracts of told functions: openPlan. -/
import Derived.Test.YtdpicdnpiihaaaaOrS17
open Go Go.bI
set_option maxRecDepth 100000
set_option linter.unusedVariables false
namespace Go.Proofs.Ytdpicdnpiihaaaa.K.L
theorem RwA.but {hb h h' : Hp} {z : Nat} {el : TypeId} {v : Value} {n : Nat} {c : List Value} {b : Nat} (hk : ∀ i o, i ≠ b → h.get i = some o → h'.get i = some o) (h2 : b < hb.next) (a : RwA hb h z el v n c) : RwA hb h' z el v n c := by
 rcases a with a | ⟨d, y1, y2, y3⟩
 ·exact .inl a
 ·exact .inr ⟨d, y1, y2, hk _ _ (by omega) y3⟩
theorem WT.low {hb h : Hp} {mb : Nat} {s : Rm} {P : Nat → Nat → Prop} (M : WT hb h mb s P) : ∀ o c e k, h.get o = some (.cells c e k) → mb ≠ o := by
 intro o c e k ho he
 obtain ⟨es, m1, _⟩ := M
 rw [he, ho] at m1; cases m1
end Go.Proofs.Ytdpicdnpiihaaaa.K.L
