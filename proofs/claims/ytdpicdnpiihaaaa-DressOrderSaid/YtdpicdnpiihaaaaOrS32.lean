/- Contracts of told functions: Clone of a plan, figures. -/
import Derived.Test.YtdpicdnpiihaaaaOrS31
open Go Go.bI
set_option maxRecDepth 100000
set_option linter.unusedVariables false
namespace Go.Proofs.Ytdpicdnpiihaaaa.K.L
theorem aHD (a : Option Addr) (n c : Nat) (ha : a.isSome = true) : qQ env .eql 79 (Operand.tmp 3) (Operand.const (Value.slice none 0 0)) (.slice a n c) (.slice none 0 0) = some (.bool false) := by
 cases a with
 | none => cases ha
 | some a => kernel_rfl
theorem noC (h : Hp) : aU env h 79 0 (List.toArray []) = some (.slice (some ⟨h.next, 0, none⟩) 0 0, h.add (.cells [] 76 none)) := by kernel_rfl
def RJ (h : Hp) (b : Nat) (l : List (Nat × Nat)) : Prop := ∃ k, h.get b = some (.cells (l.flatMap iG) 76 k) ∧ (k = some 2 ∨ (k = none ∧ l = []))
def LQ (b : Nat) (l : List (Nat × Nat)) : Value := .slice (some ⟨b, 0, none⟩) l.length l.length
theorem RJ.sl {h : Hp} {b : Nat} {l : List (Nat × Nat)} (a : RJ h b l) : lV h 2 (LQ b l) (l.map iG) := by
 obtain ⟨k, h1, h2⟩ := a
 refine .inr ⟨b, _, 76, k, by rw [List.length_map]; rfl, h1, h2.imp id And.left, fun i r hi => ?_⟩
 rw [List.getElem?_map] at hi
 cases hx : l[i]? with
 | none => rw [hx] at hi; cases hi
 | some c =>
  rw [hx] at hi
  cases hi
  have := (List.getElem?_eq_some_iff.1 hx).1
  exact ⟨rfl, by rw [xS]; omega, flat_get l i c hx⟩
theorem aDD {h : Hp} (w : Wf h) {b : Nat} {l : List (Nat × Nat)} {k : Option Nat} (hg : h.get b = some (.cells (l.flatMap iG) 76 k)) (hl : l.length ≤ 100) : ∃ h' b', F96 [LQ b l] h = some (LQ b' l, h') ∧ aV h h' ∧ h.next ≤ b' ∧ RJ h' b' l := by
 have start : F96 [LQ b l] h = aLS (aN T96 999999) (LQ b l) h := rfl
 rw [start]
 unfold aLS LQ
 rw [aHD _ _ _ rfl, aM, aZ, aH, if_neg (by simp), noC, aB]
 have g1 := aV.add w (.cells [] 76 none)
 have hg1 := g1.sub _ _ hg
 have c1 : (h.add (.cells [] 76 none)).get h.next = some (.cells [] 76 none) := by rw [bD, if_pos rfl]
 obtain ⟨ti, hti⟩ : ∃ ti, env.ty.get 76 = some ti := by
  cases e : env.ty.get 76 with
  | none => have := aE5; rw [e] at this; cases this
  | some ti => exact ⟨ti, rfl⟩
 have hb3 : ti.info.bytes = 16 := by have := aE5; rw [hti] at this; simpa using this
 obtain ⟨z, hz⟩ : ∃ z, jR env 76 = some z := by
  cases e : jR env 76 with
  | none => have := aOE; rw [e] at this; cases this
  | some z => exact ⟨z, rfl⟩
 have hzs : Nat.beq z.cells.size 2 = true := by have := aOE; rw [hz] at this; simpa using this
 have hsrc : qH (h.add (.cells [] 76 none)) l.length 2 (.slice (some ⟨b, 0, none⟩) l.length l.length) = some (l.flatMap iG) := by
  show eY _ ⟨b, 0, none⟩ (l.length * 2) = _
  exact iH hg1 (xS l)
 have hre : kG (h.add (.cells [] 76 none)) h.next = some none := by unfold kG; rw [c1]
 have hold : eY (h.add (.cells [] 76 none)) ⟨h.next, 0, none⟩ (0 * 2) = some [] := iH c1 rfl
 by_cases hn : l = []
 ·subst hn
  have res : cB env (h.add (.cells [] 76 none)) #[79, 79] (List.toArray [.slice (some ⟨h.next, 0, none⟩) 0 0, .slice (some ⟨b, 0, none⟩) 0 0]) = some (.slice (some ⟨h.next, 0, none⟩) 0 0, h.add (.cells [] 76 none)) := by
   unfold cB
   rw [show (#[79, 79] : Array TypeId)[0]? = some 79 from rfl, show (#[79, 79] : Array TypeId)[1]? = some 79 from rfl, show (List.toArray [Value.slice (some ⟨h.next, 0, none⟩) 0 0, .slice (some ⟨b, 0, none⟩) 0 0])[0]? = some (.slice (some ⟨h.next, 0, none⟩) 0 0) from rfl, show (List.toArray [Value.slice (some ⟨h.next, 0, none⟩) 0 0, .slice (some ⟨b, 0, none⟩) 0 0])[1]? = some (.slice (some ⟨b, 0, none⟩) 0 0) from rfl]
   simp only [Option.bind_some, aOD, aC9, hti, hz, wH, hb3]
   rw [show (Nat.blt 0 2 && Nat.blt 0 16 && Nat.ble 16 65536 && Nat.beq z.cells.size 2) = true from by rw [hzs]; rfl]
   have a6Q : qH (h.add (.cells [] 76 none)) 0 2 (.slice (some ⟨b, 0, none⟩) 0 0) = some [] := hsrc
   simp only [hre, Option.bind_some, a6Q]
   rfl
  show ∃ h' b', (aK (cB env (h.add (.cells [] 76 none)) #[79, 79] (List.toArray [.slice (some ⟨h.next, 0, none⟩) 0 0, .slice (some ⟨b, 0, none⟩) 0 0])) fun v3 h3 => some (v3, h3)) = some (.slice (some ⟨b', 0, none⟩) 0 0, h') ∧ _
  rw [res, aB]
  exact ⟨_, _, rfl, g1, Nat.le_refl _, none, c1, .inr ⟨rfl, rfl⟩⟩
 have hn : 0 < l.length := by cases l with | nil => exact absurd rfl hn | cons a l => simp
 have res : cB env (h.add (.cells [] 76 none)) #[79, 79] (List.toArray [.slice (some ⟨h.next, 0, none⟩) 0 0, .slice (some ⟨b, 0, none⟩) l.length l.length]) = some (.slice (some ⟨h.next + 1, 0, none⟩) l.length l.length, (h.add (.cells [] 76 none)).add (.cells (l.flatMap iG) 76 (some 2))) := by
  unfold cB
  rw [show (#[79, 79] : Array TypeId)[0]? = some 79 from rfl, show (#[79, 79] : Array TypeId)[1]? = some 79 from rfl, show (List.toArray [Value.slice (some ⟨h.next, 0, none⟩) 0 0, .slice (some ⟨b, 0, none⟩) l.length l.length])[0]? = some (.slice (some ⟨h.next, 0, none⟩) 0 0) from rfl, show (List.toArray [Value.slice (some ⟨h.next, 0, none⟩) 0 0, .slice (some ⟨b, 0, none⟩) l.length l.length])[1]? = some (.slice (some ⟨b, 0, none⟩) l.length l.length) from rfl]
  simp only [Option.bind_some, aOD, aC9, hti, hz, wH, hb3]
  rw [show (Nat.blt 0 2 && Nat.blt 0 16 && Nat.ble 16 65536 && Nat.beq z.cells.size 2) = true from by rw [hzs]; rfl]
  simp only [ok?, hre, Option.bind_some]
  rw [show Nat.ble ((0 + l.length) * 16) 1099511627776 = true from by rw [Nat.ble_eq]; omega, show Nat.ble (0 + l.length) 0 = false from by cases e : Nat.ble (0 + l.length) 0 with | false => rfl | true => rw [Nat.ble_eq] at e; omega]
  simp only [hold, hsrc, Option.bind_some, Nat.zero_add]
  rfl
 rw [res, aB]
 exact ⟨_, _, rfl, g1.trans (aV.add g1.wf _), by omega, some 2, by rw [bD, if_pos (show h.next + 1 = (h.add (.cells [] 76 none)).next from rfl)], .inl rfl⟩
theorem UF {h : Hp} (w : Wf h) {F : List Value → Hp → aF} {args : List Value} {h1 : Hp} {v : Value} (e : F args (dF h) = some (v, h1)) (hp : lD v = false) (g : aV (dF h) h1) :
  ∃ H W, aV h H ∧ (∀ i o, h.next ≤ i → h1.get i = some o → H.get i = some o) ∧ (Hp.mk H.next h.ro (aG W h.aC)) = H ∧
  ∀ k : Value → List (Nat × bY) → Nat → aF, (aK (bQ F args (Hp.mk h.next h.next h.aC)) fun v h12 => eP v h.next h12 fun w n => k v w n) = k v W H.next := by
 have hn : h.next ≤ h1.next := g.next
 obtain ⟨lg, ls⟩ := laid w g.wf hn
 refine ⟨_, fZ h1 h.next (Nat.sub h1.next h.next), lg, ls, rfl, fun k => ?_⟩
 unfold bQ
 rw [show (⟨(Hp.mk h.next h.next h.aC).next, (Hp.mk h.next h.next h.aC).next, (Hp.mk h.next h.next h.aC).aC⟩ : Hp) = dF h from rfl, e, aB, hp]
 show (eP v h.next (Hp.mk h1.next h.next h1.aC) fun w n => k v w n) = _
 unfold eP
 rw [hp]
 show bU (Nat.ble h.next h1.next) _ none = _
 rw [show Nat.ble h.next h1.next = true from by rw [Nat.ble_eq]; exact hn]
 have bl : ∀ n a, fZ (Hp.mk h1.next h.next h1.aC) a n = fZ h1 a n := by
  intro n
  induction n with
  | zero => intro a; rfl
  | succ n ih => intro a; unfold fZ; rw [show (Hp.mk h1.next h.next h1.aC).get a = h1.get a from rfl, ih]
 show k _ (fZ (Hp.mk h1.next h.next h1.aC) h.next (Nat.sub h1.next h.next)) h1.next = _
 rw [bl]
end Go.Proofs.Ytdpicdnpiihaaaa.K.L
