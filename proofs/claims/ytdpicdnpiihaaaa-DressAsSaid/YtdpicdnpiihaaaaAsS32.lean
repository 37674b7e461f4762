/- Contracts of told functions: Clone of a plan, figures. -/
import Derived.Test.YtdpicdnpiihaaaaAsS31
open Go Go.bG
set_option maxRecDepth 100000
set_option linter.unusedVariables false
namespace Go.Proofs.Ytdpicdnpiihaaaa.K.L
theorem aFW (a : Option Addr) (n c : Nat) (ha : a.isSome = true) : pR env .eql 79 (Operand.tmp 3) (Operand.const (Value.slice none 0 0)) (.slice a n c) (.slice none 0 0) = some (.bool false) := by
 cases a with
 | none => cases ha
 | some a => kernel_rfl
theorem noC (h : Hp) : bB env h 79 0 (List.toArray []) = some (.slice (some ⟨h.next, 0, none⟩) 0 0, h.add (.cells [] 76 none)) := by kernel_rfl
def VN (h : Hp) (b : Nat) (l : List (Nat × Nat)) : Prop := ∃ k, h.get b = some (.cells (l.flatMap fG) 76 k) ∧ (k = some 2 ∨ (k = none ∧ l = []))
def LZ (b : Nat) (l : List (Nat × Nat)) : Value := .slice (some ⟨b, 0, none⟩) l.length l.length
theorem VN.sl {h : Hp} {b : Nat} {l : List (Nat × Nat)} (a : VN h b l) : lF h 2 (LZ b l) (l.map fG) := by
 obtain ⟨k, h1, h2⟩ := a
 refine .inr ⟨b, _, 76, k, by rw [List.length_map]; rfl, h1, h2.imp id And.left, fun i r hi => ?_⟩
 rw [List.getElem?_map] at hi
 cases hx : l[i]? with
 | none => rw [hx] at hi; cases hi
 | some c =>
  rw [hx] at hi
  cases hi
  have := (List.getElem?_eq_some_iff.1 hx).1
  exact ⟨rfl, by rw [xE]; omega, flat_get l i c hx⟩
theorem aB2 {h : Hp} (w : Wf h) {b : Nat} {l : List (Nat × Nat)} {k : Option Nat} (hg : h.get b = some (.cells (l.flatMap fG) 76 k)) (hl : l.length ≤ 100) : ∃ h' b', F96 [LZ b l] h = some (LZ b' l, h') ∧ aS h h' ∧ h.next ≤ b' ∧ VN h' b' l := by
 have start : F96 [LZ b l] h = aKB (aK T96 999999) (LZ b l) h := rfl
 rw [start]
 unfold aKB LZ
 rw [aFW _ _ _ rfl, aJ, aU, aG, if_neg (by simp), noC, aB]
 have g1 := aS.add w (.cells [] 76 none)
 have hg1 := g1.sub _ _ hg
 have c1 : (h.add (.cells [] 76 none)).get h.next = some (.cells [] 76 none) := by rw [bO, if_pos rfl]
 obtain ⟨ti, hti⟩ : ∃ ti, env.ty.get 76 = some ti := by
  cases e : env.ty.get 76 with
  | none => have := aDS; rw [e] at this; cases this
  | some ti => exact ⟨ti, rfl⟩
 have hb3 : ti.info.bytes = 16 := by have := aDS; rw [hti] at this; simpa using this
 obtain ⟨z, hz⟩ : ∃ z, mJ env 76 = some z := by
  cases e : mJ env 76 with
  | none => have := aMR; rw [e] at this; cases this
  | some z => exact ⟨z, rfl⟩
 have hzs : Nat.beq z.cells.size 2 = true := by have := aMR; rw [hz] at this; simpa using this
 have hsrc : rT (h.add (.cells [] 76 none)) l.length 2 (.slice (some ⟨b, 0, none⟩) l.length l.length) = some (l.flatMap fG) := by
  show fO _ ⟨b, 0, none⟩ (l.length * 2) = _
  exact oV hg1 (xE l)
 have hre : mF (h.add (.cells [] 76 none)) h.next = some none := by unfold mF; rw [c1]
 have hold : fO (h.add (.cells [] 76 none)) ⟨h.next, 0, none⟩ (0 * 2) = some [] := oV c1 rfl
 by_cases hn : l = []
 ·subst hn
  have res : fH env (h.add (.cells [] 76 none)) #[79, 79] (List.toArray [.slice (some ⟨h.next, 0, none⟩) 0 0, .slice (some ⟨b, 0, none⟩) 0 0]) = some (.slice (some ⟨h.next, 0, none⟩) 0 0, h.add (.cells [] 76 none)) := by
   unfold fH
   rw [show (#[79, 79] : Array TypeId)[0]? = some 79 from rfl, show (#[79, 79] : Array TypeId)[1]? = some 79 from rfl, show (List.toArray [Value.slice (some ⟨h.next, 0, none⟩) 0 0, .slice (some ⟨b, 0, none⟩) 0 0])[0]? = some (.slice (some ⟨h.next, 0, none⟩) 0 0) from rfl, show (List.toArray [Value.slice (some ⟨h.next, 0, none⟩) 0 0, .slice (some ⟨b, 0, none⟩) 0 0])[1]? = some (.slice (some ⟨b, 0, none⟩) 0 0) from rfl]
   simp only [Option.bind_some, aMQ, aBZ, hti, hz, CZ, hb3]
   rw [show (Nat.blt 0 2 && Nat.blt 0 16 && Nat.ble 16 65536 && Nat.beq z.cells.size 2) = true from by rw [hzs]; rfl]
   have a3N : rT (h.add (.cells [] 76 none)) 0 2 (.slice (some ⟨b, 0, none⟩) 0 0) = some [] := hsrc
   simp only [hre, Option.bind_some, a3N]
   rfl
  show ∃ h' b', (aO (fH env (h.add (.cells [] 76 none)) #[79, 79] (List.toArray [.slice (some ⟨h.next, 0, none⟩) 0 0, .slice (some ⟨b, 0, none⟩) 0 0])) fun v3 h3 => some (v3, h3)) = some (.slice (some ⟨b', 0, none⟩) 0 0, h') ∧ _
  rw [res, aB]
  exact ⟨_, _, rfl, g1, Nat.le_refl _, none, c1, .inr ⟨rfl, rfl⟩⟩
 have hn : 0 < l.length := by cases l with | nil => exact absurd rfl hn | cons a l => simp
 have res : fH env (h.add (.cells [] 76 none)) #[79, 79] (List.toArray [.slice (some ⟨h.next, 0, none⟩) 0 0, .slice (some ⟨b, 0, none⟩) l.length l.length]) = some (.slice (some ⟨h.next + 1, 0, none⟩) l.length l.length, (h.add (.cells [] 76 none)).add (.cells (l.flatMap fG) 76 (some 2))) := by
  unfold fH
  rw [show (#[79, 79] : Array TypeId)[0]? = some 79 from rfl, show (#[79, 79] : Array TypeId)[1]? = some 79 from rfl, show (List.toArray [Value.slice (some ⟨h.next, 0, none⟩) 0 0, .slice (some ⟨b, 0, none⟩) l.length l.length])[0]? = some (.slice (some ⟨h.next, 0, none⟩) 0 0) from rfl, show (List.toArray [Value.slice (some ⟨h.next, 0, none⟩) 0 0, .slice (some ⟨b, 0, none⟩) l.length l.length])[1]? = some (.slice (some ⟨b, 0, none⟩) l.length l.length) from rfl]
  simp only [Option.bind_some, aMQ, aBZ, hti, hz, CZ, hb3]
  rw [show (Nat.blt 0 2 && Nat.blt 0 16 && Nat.ble 16 65536 && Nat.beq z.cells.size 2) = true from by rw [hzs]; rfl]
  simp only [ok?, hre, Option.bind_some]
  rw [show Nat.ble ((0 + l.length) * 16) 1099511627776 = true from by rw [Nat.ble_eq]; omega, show Nat.ble (0 + l.length) 0 = false from by cases e : Nat.ble (0 + l.length) 0 with | false => rfl | true => rw [Nat.ble_eq] at e; omega]
  simp only [hold, hsrc, Option.bind_some, Nat.zero_add]
  rfl
 rw [res, aB]
 exact ⟨_, _, rfl, g1.trans (aS.add g1.wf _), by omega, some 2, by rw [bO, if_pos (show h.next + 1 = (h.add (.cells [] 76 none)).next from rfl)], .inl rfl⟩
theorem YS {h : Hp} (w : Wf h) {F : List Value → Hp → aF} {args : List Value} {h1 : Hp} {v : Value} (e : F args (dI h) = some (v, h1)) (hp : kW v = false) (g : aS (dI h) h1) :
  ∃ H W, aS h H ∧ (∀ i o, h.next ≤ i → h1.get i = some o → H.get i = some o) ∧ (Hp.mk H.next h.ro (aW W h.aD)) = H ∧
  ∀ k : Value → List (Nat × cB) → Nat → aF, (aO (cZ F args (Hp.mk h.next h.next h.aD)) fun v h12 => jG v h.next h12 fun w n => k v w n) = k v W H.next := by
 have hn : h.next ≤ h1.next := g.next
 obtain ⟨lg, ls⟩ := laid w g.wf hn
 refine ⟨_, fJ h1 h.next (Nat.sub h1.next h.next), lg, ls, rfl, fun k => ?_⟩
 unfold cZ
 rw [show (⟨(Hp.mk h.next h.next h.aD).next, (Hp.mk h.next h.next h.aD).next, (Hp.mk h.next h.next h.aD).aD⟩ : Hp) = dI h from rfl, e, aB, hp]
 show (jG v h.next (Hp.mk h1.next h.next h1.aD) fun w n => k v w n) = _
 unfold jG
 rw [hp]
 show bY (Nat.ble h.next h1.next) _ none = _
 rw [show Nat.ble h.next h1.next = true from by rw [Nat.ble_eq]; exact hn]
 have bl : ∀ n a, fJ (Hp.mk h1.next h.next h1.aD) a n = fJ h1 a n := by
  intro n
  induction n with
  | zero => intro a; rfl
  | succ n ih => intro a; unfold fJ; rw [show (Hp.mk h1.next h.next h1.aD).get a = h1.get a from rfl, ih]
 show k _ (fJ (Hp.mk h1.next h.next h1.aD) h.next (Nat.sub h1.next h.next)) h1.next = _
 rw [bl]
end Go.Proofs.Ytdpicdnpiihaaaa.K.L
