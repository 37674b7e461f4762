/- Contracts of told functions: a list of names that grows. -/
import Derived.Test.YtaegcofpbihmhaaS7
open Go Go.Eng
set_option maxRecDepth 100000
set_option linter.unusedVariables false
namespace Go.Proofs.Ytaegcofpbihmhaa.K.L
theorem fig38_at (h : Hp) (g : Fg) : F38 [.agg (Array.mk g.row)] h = some (.int .i64 (if !(inB 0 364 g.day && inB 0 364 g.til) then 7 else if !(inB 0 15 g.needs) then 7 else if g.til < g.day then 2 else 0)) := by
  show plainO (P38x0 h (G.rec' (T38 h) 999999) (.agg (Array.mk g.row))) = _
  have step : ∀ (a : Value) (b c d : Int), G.rec' (T38 h) 999999 1 (PAL.v a (PAL.i b (PAL.i c (PAL.i d PAL.n)))) = P38x1 h (G.rec' (T38 h) 999998) a b c d := fun a b c d => rfl
  unfold P38x0
  try unfold ki
  rw [rowCells, forceL_eq, nthR_get _ _ 1 (.int .i64 g.day) rfl, intK_int, in39_at, optK_some', boolK_bool, boolN_eq, ifB_if, show (Int.ofNat 0) = (0 : Int) from rfl, show (Int.ofNat 364) = (364 : Int) from rfl]
  cases inB 0 364 g.day with
  | false => rw [if_pos (by rfl)]; simp; rfl
  | true =>
  rw [if_neg (by simp), nthR_get _ _ 2 (.int .i64 g.til) rfl, intK_int, in39_at, optK_some', boolK_bool, boolN_eq, ifB_if]
  cases inB 0 364 g.til with
  | false => rw [if_pos (by rfl)]; simp; rfl
  | true =>
  rw [if_neg (by simp), nthR_get _ _ 3 (.int .i64 g.needs) rfl, intK_int, in39_at, optK_some', boolK_bool, boolN_eq, ifB_if, show (Int.ofNat 15) = (15 : Int) from rfl]
  cases inB 0 15 g.needs with
  | false => rw [if_pos (by rfl)]; simp; rfl
  | true =>
  rw [if_neg (by simp)]
  show plainO (G.rec' (T38 h) 999999 1 (PAL.v (.string g.nm) (PAL.i g.day (PAL.i g.til (PAL.i g.needs PAL.n))))) = _
  rw [step]
  unfold P38x1
  try unfold ki
  rw [boolZ_eq, ltZ_dec, ifB_if]
  by_cases hd : g.til < g.day
  · rw [if_pos (by simpa using hd)]; simp [hd]; rfl
  · rw [if_neg (by simpa using hd)]; simp [hd]; rfl
theorem one74 (h : Hp) (s : ByteArray) : buildSliceV env h 74 1 (List.toArray [(0, (Value.string s))]) = some (.slice (some ⟨h.next, 0, none⟩) 1 1, h.add (.cells [.string s] 9 none)) := by kernel_rfl
theorem und74 : undP env 74 = some (.slice 9) := by kernel_rfl
theorem size9 : sizeP env 9 = some 1 := by kernel_rfl
theorem zero9 : (zeroP env 9).map (fun z => Nat.beq z.cells.size 1) = some true := by kernel_rfl
theorem info9 : (env.ty.get 9).map (fun ti => Nat.blt 0 ti.info.bytes && Nat.ble ti.info.bytes 65536) = some true := by kernel_rfl
theorem bytes9 : (env.ty.get 9).map (fun ti => ti.info.bytes) = some 16 := by kernel_rfl
def NmA (hb h : Hp) (v : Value) (ns : List ByteArray) : Prop := (v = .slice none 0 0 ∧ ns = []) ∨ ∃ b, v = .slice (some ⟨b, 0, none⟩) ns.length ns.length ∧ hb.next ≤ b ∧ h.get b = some (.cells (ns.map Value.string) 9 (some 1))
theorem NmA.rows {hb h : Hp} {v : Value} {ns : List ByteArray} (a : NmA hb h v ns) : Eng.Rows h 1 v (ns.map fun x => [Value.string x]) := by
  rcases a with ⟨rfl, rfl⟩ | ⟨b, rfl, _, h2⟩
  · exact .inl ⟨0, rfl, rfl⟩
  · refine .inr ⟨b, 0, ns.length, _, 9, some 1, by rw [List.length_map], fun _ => h2, fun i r hi => ?_⟩
    rw [List.getElem?_map] at hi
    cases hx : ns[i]? with
    | none => rw [hx] at hi; cases hi
    | some x =>
      rw [hx] at hi
      cases hi
      have := (List.getElem?_eq_some_iff.1 hx).1
      refine ⟨rfl, by simp; omega, fun k y hy => ?_⟩
      cases k with
      | zero =>
        simp at hy; subst hy
        rw [Nat.zero_add, Nat.mul_one, Nat.add_zero, List.getElem?_map, hx]; rfl
      | succ k => simp at hy
theorem Grew.del {hb h : Hp} (w : Wf hb) (g : Grew hb h) {b : Nat} (hle : hb.next ≤ b) : Grew hb (h.del b) := by
  have get : ∀ i, (h.del b).get i = if i = b then none else h.get i := by
    intro i; unfold Hp.del Hp.get; simp only [T.get_put]
  refine ⟨⟨g.wf.1, fun i o e => ?_⟩, fun i o e => ?_, g.next, g.ro⟩
  · rw [get] at e
    split at e
    · cases e
    · exact g.wf.2 i o e
  · have := w.2 i o e
    rw [get, if_neg (by omega)]; exact g.sub i o e
theorem cellsN_row {h : Hp} {b n : Nat} {c : List Value} {t : TypeId} {s : Option Nat} (hg : h.get b = some (.cells c t s)) (hn : c.length = n) : cellsN h ⟨b, 0, none⟩ n = some c := by
  unfold cellsN
  simp only [hg, List.drop_zero]
  rw [List.take_of_length_le (by omega), hn, Nat.beq_refl]
  rfl
theorem append_nm {hb h : Hp} (w : Wf hb) (g : Grew hb h) {v : Value} {ns : List ByteArray} (a : NmA hb h v ns) (hlen : ns.length ≤ 100) (s : ByteArray) :
    ∃ v' h', appendV env (h.add (.cells [.string s] 9 none)) #[74, 74] (List.toArray [v, .slice (some ⟨h.next, 0, none⟩) 1 1]) = some (v', h') ∧ Grew hb h' ∧ NmA hb h' v' (ns ++ [s]) := by
  have g1 : Grew hb (h.add (.cells [.string s] 9 none)) := g.trans (Grew.add g.wf _)
  have hx : (h.add (.cells [.string s] 9 none)).get h.next = some (.cells [.string s] 9 none) := by rw [get_add, if_pos rfl]
  obtain ⟨ti, hti⟩ : ∃ ti, env.ty.get 9 = some ti := by
    cases e : env.ty.get 9 with
    | none => have := bytes9; rw [e] at this; cases this
    | some ti => exact ⟨ti, rfl⟩
  have hb9 : ti.info.bytes = 16 := by have := bytes9; rw [hti] at this; simpa using this
  obtain ⟨z, hz⟩ : ∃ z, zeroP env 9 = some z := by
    cases e : zeroP env 9 with
    | none => have := zero9; rw [e] at this; cases this
    | some z => exact ⟨z, rfl⟩
  have hzs : Nat.beq z.cells.size 1 = true := by have := zero9; rw [hz] at this; simpa using this
  have hsrc : srcV (h.add (.cells [.string s] 9 none)) 1 1 (.slice (some ⟨h.next, 0, none⟩) 1 1) = some [.string s] := by
    show cellsN _ ⟨h.next, 0, none⟩ (1 * 1) = _
    exact cellsN_row hx rfl
  unfold appendV
  rw [show (#[74, 74] : Array TypeId)[0]? = some 74 from rfl, show (#[74, 74] : Array TypeId)[1]? = some 74 from rfl, show (List.toArray [v, .slice (some ⟨h.next, 0, none⟩) 1 1])[0]? = some v from rfl, show (List.toArray [v, .slice (some ⟨h.next, 0, none⟩) 1 1])[1]? = some (.slice (some ⟨h.next, 0, none⟩) 1 1) from rfl]
  simp only [Option.bind_some, und74, size9, hti, hz, lenV, hb9]
  rw [show (Nat.blt 0 1 && Nat.blt 0 16 && Nat.ble 16 65536 && Nat.beq z.cells.size 1) = true from by rw [hzs]; rfl]
  simp only [ok?]
  rcases a with ⟨rfl, rfl⟩ | ⟨b, rfl, hle, hg⟩
  · refine ⟨.slice (some ⟨h.next + 1, 0, none⟩) 1 1, (h.add (.cells [.string s] 9 none)).add (.cells [.string s] 9 (some 1)), ?_, g1.trans (Grew.add g1.wf _), .inr ⟨h.next + 1, rfl, by have := g.next; omega, by rw [get_add, if_pos (show h.next + 1 = (h.add (.cells [.string s] 9 none)).next from rfl)]; rfl⟩⟩
    simp only [hsrc, Option.bind_some]
    rfl
  · have hlt : b < h.next := g.wf.2 b _ hg
    have hg1 : (h.add (.cells [.string s] 9 none)).get b = some (.cells (ns.map Value.string) 9 (some 1)) := by rw [get_add, if_neg (by omega)]; exact hg
    have hre : rowEs (h.add (.cells [.string s] 9 none)) b = some (some 1) := by unfold rowEs; rw [hg1]
    have hold : cellsN (h.add (.cells [.string s] 9 none)) ⟨b, 0, none⟩ (ns.length * 1) = some (ns.map Value.string) := cellsN_row hg1 (by simp)
    have hro : Nat.ble (h.add (.cells [.string s] 9 none)).ro b = true := by
      rw [Nat.ble_eq, add_ro, g.ro]
      have := w.1
      omega
    have gd := Grew.del w g1 hle
    refine ⟨.slice (some ⟨h.next + 1, 0, none⟩) (ns.length + 1) (ns.length + 1), ((h.add (.cells [.string s] 9 none)).del b).add (.cells (ns.map Value.string ++ [.string s]) 9 (some 1)), ?_, gd.trans (Grew.add gd.wf _), .inr ⟨h.next + 1, by simp, by have := g.next; omega, ?_⟩⟩
    · simp only [hre, Option.bind_some, hg1, hold, hsrc, hro, Nat.beq_refl]
      rw [show Nat.ble ((ns.length + 1) * 16) 1099511627776 = true from by rw [Nat.ble_eq]; omega]
      rfl
    · rw [get_add, if_pos (show h.next + 1 = ((h.add (.cells [.string s] 9 none)).del b).next from rfl)]; simp
end Go.Proofs.Ytaegcofpbihmhaa.K.L
