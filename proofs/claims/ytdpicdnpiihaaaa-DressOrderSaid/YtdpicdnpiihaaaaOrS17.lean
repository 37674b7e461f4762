/- Contracts of told functions: rows that grow; openPlan. -/
import Derived.Test.YtdpicdnpiihaaaaOrS16
open Go Go.bI
set_option maxRecDepth 100000
set_option linter.unusedVariables false
namespace Go.Proofs.Ytdpicdnpiihaaaa.K.L
def RwA (hb h : Hp) (z : Nat) (el : TypeId) (v : Value) (n : Nat) (c : List Value) : Prop := (v = .slice none 0 0 ∧ n = 0 ∧ c = []) ∨ ∃ b, v = .slice (some ⟨b, 0, none⟩) n n ∧ hb.next ≤ b ∧ h.get b = some (.cells c el (some z))
def bIF (v : Value) (i : Nat) : Prop := ∀ b o n c, v = .slice (some ⟨b, o, none⟩) n c → i ≠ b
theorem aC5 {ty el : TypeId} {z B : Nat} (hu : gL env ty = some (.slice el)) (hz : gT env el = some z) (hz1 : 1 ≤ z) (hB : (env.ty.get el).map (fun ti => ti.info.bytes) = some B) (hB1 : 1 ≤ B ∧ B ≤ 65536) (hz0 : (jR env el).map (fun x => Nat.beq x.cells.size z) = some true)
  {hb h : Hp} (w : Wf hb) (g : aV hb h) {v : Value} {c : List Value} {n : Nat} (a : RwA hb h z el v n c) (hn : n ≤ 100) (hc : c.length = n * z) {x : List Value} (hx : x.length = z) (hxo : x.all oneCell = true) :
  ∃ v' h', cB env (h.add (.cells x el none)) #[ty, ty] (List.toArray [v, .slice (some ⟨h.next, 0, none⟩) 1 1]) = some (v', h') ∧ aV hb h' ∧ RwA hb h' z el v' (n + 1) (c ++ x) ∧ (∀ i o, bIF v i → h.get i = some o → h'.get i = some o) ∧ ∃ m, v' = .slice (some ⟨h.next + 1, 0, none⟩) m m := by
 have g1 : aV hb (h.add (.cells x el none)) := g.trans (aV.add g.wf _)
 have hxg : (h.add (.cells x el none)).get h.next = some (.cells x el none) := by rw [bD, if_pos rfl]
 have a6G : ∀ i o, h.get i = some o → (h.add (.cells x el none)).get i = some o := (aV.add g.wf (.cells x el none)).sub
 obtain ⟨ti, hti⟩ : ∃ ti, env.ty.get el = some ti := by
  cases e : env.ty.get el with
  | none => rw [e] at hB; cases hB
  | some ti => exact ⟨ti, rfl⟩
 have hb9 : ti.info.bytes = B := by rw [hti] at hB; simpa using hB
 obtain ⟨z0, hzz⟩ : ∃ z0, jR env el = some z0 := by
  cases e : jR env el with
  | none => rw [e] at hz0; cases hz0
  | some z0 => exact ⟨z0, rfl⟩
 have hzs : Nat.beq z0.cells.size z = true := by rw [hzz] at hz0; simpa using hz0
 have hsrc : qH (h.add (.cells x el none)) 1 z (.slice (some ⟨h.next, 0, none⟩) 1 1) = some x := by
  show eY _ ⟨h.next, 0, none⟩ (1 * z) = _
  exact iH hxg (by omega)
 unfold cB
 rw [show (#[ty, ty] : Array TypeId)[0]? = some ty from rfl, show (#[ty, ty] : Array TypeId)[1]? = some ty from rfl, show (List.toArray [v, .slice (some ⟨h.next, 0, none⟩) 1 1])[0]? = some v from rfl, show (List.toArray [v, .slice (some ⟨h.next, 0, none⟩) 1 1])[1]? = some (.slice (some ⟨h.next, 0, none⟩) 1 1) from rfl]
 simp only [Option.bind_some, hu, hz, hti, hzz, wH, hb9]
 rw [show (Nat.blt 0 z && Nat.blt 0 B && Nat.ble B 65536 && Nat.beq z0.cells.size z) = true from by
  rw [hzs, show Nat.blt 0 z = true from by rw [Nat.blt_eq]; omega, show Nat.blt 0 B = true from by rw [Nat.blt_eq]; omega, show Nat.ble B 65536 = true from by rw [Nat.ble_eq]; omega]; rfl]
 simp only [ok?]
 have hmul : (n + 1) * B ≤ 101 * 65536 := Nat.mul_le_mul (by omega) hB1.2
 rcases a with ⟨rfl, rfl, rfl⟩ | ⟨b, rfl, hle, hg⟩
 ·refine ⟨.slice (some ⟨h.next + 1, 0, none⟩) 1 1, (h.add (.cells x el none)).add (.cells x el (some z)), ?_, g1.trans (aV.add g1.wf _), .inr ⟨h.next + 1, rfl, by have := g.next; omega, by rw [bD, if_pos (show h.next + 1 = (h.add (.cells x el none)).next from rfl)]; rfl⟩, fun i o _ ho => (aV.add g1.wf _).sub _ _ (a6G _ _ ho), 1, rfl⟩
  simp only [hsrc, Option.bind_some]
  rw [show Nat.ble (1 * B) 1099511627776 = true from by rw [Nat.ble_eq]; omega]
  rfl
 ·have hlt : b < h.next := g.wf.2 b _ hg
  have hg1 : (h.add (.cells x el none)).get b = some (.cells c el (some z)) := by rw [bD, if_neg (by omega)]; exact hg
  have hre : kG (h.add (.cells x el none)) b = some (some z) := by unfold kG; rw [hg1]
  have hold : eY (h.add (.cells x el none)) ⟨b, 0, none⟩ (n * z) = some c := iH hg1 hc
  have hro : Nat.ble (h.add (.cells x el none)).ro b = true := by
   rw [Nat.ble_eq, FN, g.ro]
   have := w.1
   omega
  have gd := aV.del w g1 hle
  have hel : Nat.beq el el = true := Nat.beq_refl el
  refine ⟨.slice (some ⟨h.next + 1, 0, none⟩) (n + 1) (n + 1), ((h.add (.cells x el none)).del b).add (.cells (c ++ x) el (some z)), ?_, gd.trans (aV.add gd.wf _), .inr ⟨h.next + 1, by simp, by have := g.next; omega, ?_⟩, fun i o hi ho => ?_, n + 1, rfl⟩
  ·simp only [hre, Option.bind_some, hg1, hold, hsrc, hro, Nat.beq_refl, hxo]
   rw [show Nat.ble ((n + 1) * B) 1099511627776 = true from by rw [Nat.ble_eq]; omega]
   rfl
  ·rw [bD, if_pos (show h.next + 1 = ((h.add (.cells x el none)).del b).next from rfl)]
  ·have h1 := a6G i o ho
   have hne := hi b 0 n n rfl
   have hin := g1.wf.2 i o h1
   have bIH : ∀ j, ((h.add (.cells x el none)).del b).get j = if j = b then none else (h.add (.cells x el none)).get j := by
    intro j; unfold Hp.del Hp.get; simp only [T.get_put]
   have hnx : ((h.add (.cells x el none)).del b).next = (h.add (.cells x el none)).next := rfl
   rw [bD, if_neg (by rw [hnx]; omega), bIH, if_neg hne]; exact h1
theorem xS : ∀ l : List (Nat × Nat), (l.flatMap iG).length = l.length * 2
 | [] => rfl
 | c :: l => by
  rw [List.flatMap_cons, List.length_append, xS l]
  show 2 + l.length * 2 = (l.length + 1) * 2
  omega
theorem flat_get : ∀ (l : List (Nat × Nat)) (i : Nat) (c : Nat × Nat), l[i]? = some c → ∀ (k : Nat) (x : Value), (iG c)[k]? = some x → (l.flatMap iG)[i * 2 + k]? = some x
 | [], i, c, h, _, _, _ => by simp at h
 | d :: l, 0, c, h, k, x, hx => by
  simp at h; subst h
  have : k < (iG d).length := (List.getElem?_eq_some_iff.1 hx).1
  rw [List.flatMap_cons, Nat.zero_mul, Nat.zero_add, List.getElem?_append_left this]; exact hx
 | d :: l, i + 1, c, h, k, x, hx => by
  rw [List.flatMap_cons, List.getElem?_append_right (by show 2 ≤ (i + 1) * 2 + k; omega), show (i + 1) * 2 + k - (iG d).length = i * 2 + k by show (i + 1) * 2 + k - 2 = _; omega]
  exact flat_get l i c (by simpa using h) k x hx
theorem RwA.ch {hb h : Hp} {v : Value} {l : List (Nat × Nat)} (a : RwA hb h 2 76 v l.length (l.flatMap iG)) : lV h 2 v (l.map iG) := by
 rcases a with ⟨h1, h2, _⟩ | ⟨b, h1, _, h3⟩
 ·rw [List.eq_nil_of_length_eq_zero h2]; exact .inl ⟨h1, rfl⟩
 ·refine .inr ⟨b, _, 76, some 2, by rw [List.length_map]; exact h1, h3, .inl rfl, fun i r hi => ?_⟩
  rw [List.getElem?_map] at hi
  cases hx : l[i]? with
  | none => rw [hx] at hi; cases hi
  | some c =>
   rw [hx] at hi
   cases hi
   have := (List.getElem?_eq_some_iff.1 hx).1
   exact ⟨rfl, by rw [xS]; omega, flat_get l i c hx⟩
theorem aOD : gL env 79 = some (.slice 76) := by kernel_rfl
theorem aE5 : (env.ty.get 76).map (fun ti => ti.info.bytes) = some 16 := by kernel_rfl
theorem aOE : (jR env 76).map (fun z => Nat.beq z.cells.size 2) = some true := by kernel_rfl
theorem aE6 (h : Hp) (n : Nat) (v : Value) (a k i : Int) : G.aN (WK h) (n + 1) 1 (aD.v v (aD.i a (aD.i k (aD.i i aD.n)))) = WJ h (G.aN (WK h) n) v a k i := rfl
theorem aRX (h : Hp) (n : Nat) : G.aN (WK h) (n + 1) 2 aD.n = some (.int .i64 (-1)) := rfl
theorem ER {h : Hp} {v : Value} {l : List Int} (sl : bI.Rows h 1 v (l.map cZ)) (a : Int) (hl : l.length ≤ 900) : ∀ (m i n : Nat), i + m = l.length → m + 2 ≤ n → ∃ x : Int, G.aN (WK h) n 1 (aD.v v (aD.i a (aD.i (l.length : Int) (aD.i (i : Int) aD.n)))) = some (.int .i64 x) ∧ decide (x < 0) = !((l.drop i).contains a)
 | 0, i, n', hi, hn => by
  obtain ⟨n, rfl⟩ : ∃ n, n' = n + 2 := ⟨n' - 2, by omega⟩
  rw [aE6]
  unfold WJ
  rw [aQ, aW, aH, if_neg (by simp; omega), aRX, List.drop_of_length_le (by omega)]
  exact ⟨-1, rfl, rfl⟩
 | m + 1, i, n', hi, hn => by
  obtain ⟨n, rfl⟩ : ∃ n, n' = n + 1 := ⟨n' - 1, by omega⟩
  have hi' : i < l.length := by omega
  obtain ⟨q, hq, aq, _⟩ := sl.at (i := i) (r := cZ l[i]) (by rw [List.getElem?_map, List.getElem?_eq_getElem hi']; rfl)
  rw [aE6]
  unfold WJ
  rw [aQ, aW, aH, if_pos (by simp; omega), hq, aq.j6 (x := .int .i64 l[i]) rfl, aI, aQ, cK, aH, List.drop_eq_getElem_cons hi', List.contains_cons]
  by_cases c : a = l[i]
  ·rw [if_pos (by simpa using c)]
   exact ⟨(i : Int), rfl, by rw [c]; simp⟩
  ·rw [if_neg (by simpa using c), show Int.add (i : Int) (Int.ofNat 1) = ((i + 1 : Nat) : Int) from rfl, wrap64_in _ (by omega) (by omega)]
   obtain ⟨x, e1, e2⟩ := ER sl a hl m (i + 1) n (by omega) (by omega)
   exact ⟨x, e1, by rw [e2]; simp [c]⟩
theorem RF {h : Hp} {v : Value} {l : List Int} (sl : bI.Rows h 1 v (l.map cZ)) (a : Int) (hl : l.length ≤ 900) : F90 [v, .int .i64 a] h = some (.bool (l.contains a)) := by
 obtain ⟨x, e1, e2⟩ := ER sl a hl l.length 0 999999 (by omega) (by omega)
 have e3 : aKY [v, .int .i64 a] h = some (.int .i64 x) := by
  show plainO (aCN h (G.aN (WK h) 999999) v a) = _
  unfold aCN
  rw [sl.len, List.length_map, show (Int.ofNat 0) = ((0 : Nat) : Int) from rfl, e1]
  rfl
 show plainO (aKZ h (G.aN (T90 h) 999999) v a) = _
 unfold aKZ
 rw [e3, aM, aI, aR, aW, show (Int.ofNat 0) = (0 : Int) from rfl, e2, List.drop_zero, Bool.not_not]
 rfl
end Go.Proofs.Ytdpicdnpiihaaaa.K.L
