/- Contracts of told functions: valid, turn; slices cut and joined. -/
import Derived.Test.YtdpicdnpiihaaaaOrS26
open Go Go.bI
set_option maxRecDepth 100000
set_option linter.unusedVariables false
namespace Go.Proofs.Ytdpicdnpiihaaaa.K.L
theorem PZ {h : Hp} (w : Wf h) {s : Rm} {r : List Value} (a : FU h s r) : ∃ h', F37 [.agg (Array.mk r)] h = some (.bool (decide ((fC s).2.2 = 0)), h') := by
 have start : F37 [.agg (Array.mk r)] h = aM8 (aN T37 999999) (.agg (Array.mk r)) h := rfl
 rw [start]
 unfold aM8
 have hr4 := a.len
 rw [fF, bT]
 have g0 := aV.add w (.cells r 25 none)
 have a0 : At (h.add (.cells r 25 none)) (.pointer (some ⟨h.next, 0, none⟩)) r := At.new
 obtain ⟨h2, e2⟩ := aC4 (h := dF (h.add (.cells r 25 none))) (fM g0.wf) (a.sub g0.sub)
 rw [a0.eX (z := 4) hr4, bO e2 rfl, aB]
 unfold aRV
 rw [bG (v := .int .i64 (fC s).1) rfl, aI, bG (v := .int .i64 (fC s).2.1) rfl, aI, bG (v := .int .i64 (fC s).2.2) rfl, aI, aQ, cK]
 exact ⟨_, rfl⟩
theorem ZV {ρ : Type} {k : IntKind} {a : Int} (f : Int → Option ρ) : rR k (some (.int k a)) f = f a := by
 show aS k (.int k a) f = _
 exact aI k a f
theorem aFC {h : Hp} {b0 : Nat} (h0 : h.get b0 = some (.cells [] 3 none)) {b o m c : Nat} {M : List Int} (hm : M.length = m) (hm1 : m ≤ 100) (hs : m ≠ 0 → eY h ⟨b, o, none⟩ m = some (M.map (Value.int .i64))) (hz : m = 0 → ∃ c t s, h.get b = some (.cells c t s)) :
  cB env h #[22, 22] (List.toArray [.slice (some ⟨b0, 0, none⟩) 0 0, .slice (some ⟨b, o, none⟩) m c]) = some (if m = 0 then (.slice (some ⟨b0, 0, none⟩) 0 0, h) else (.slice (some ⟨h.next, 0, none⟩) m m, h.add (.cells (M.map (Value.int .i64)) 3 (some 1)))) := by
 obtain ⟨ti, hti⟩ : ∃ ti, env.ty.get 3 = some ti := by
  cases e : env.ty.get 3 with
  | none => have := CB; rw [e] at this; cases this
  | some ti => exact ⟨ti, rfl⟩
 have hb3 : ti.info.bytes = 8 := by have := CB; rw [hti] at this; simpa using this
 obtain ⟨z, hz'⟩ : ∃ z, jR env 3 = some z := by
  cases e : jR env 3 with
  | none => have := LJ; rw [e] at this; cases this
  | some z => exact ⟨z, rfl⟩
 have hzs : Nat.beq z.cells.size 1 = true := by have := LJ; rw [hz'] at this; simpa using this
 have hsrc : qH h m 1 (.slice (some ⟨b, o, none⟩) m c) = some (M.map (Value.int .i64)) := by
  show eY h ⟨b, o, none⟩ (m * 1) = _
  rw [Nat.mul_one]
  by_cases e : m = 0
  ·obtain ⟨c, t, s, hc⟩ := hz e
   unfold eY
   simp only [hc, e, List.take_zero]
   rw [List.eq_nil_of_length_eq_zero (hm.trans e)]
   rfl
  ·exact hs e
 have hre : kG h b0 = some none := by unfold kG; rw [h0]
 have hold : eY h ⟨b0, 0, none⟩ (0 * 1) = some [] := iH h0 rfl
 unfold cB
 rw [show (#[22, 22] : Array TypeId)[0]? = some 22 from rfl, show (#[22, 22] : Array TypeId)[1]? = some 22 from rfl, show (List.toArray [Value.slice (some ⟨b0, 0, none⟩) 0 0, .slice (some ⟨b, o, none⟩) m c])[0]? = some (.slice (some ⟨b0, 0, none⟩) 0 0) from rfl, show (List.toArray [Value.slice (some ⟨b0, 0, none⟩) 0 0, .slice (some ⟨b, o, none⟩) m c])[1]? = some (.slice (some ⟨b, o, none⟩) m c) from rfl]
 simp only [Option.bind_some, PW, LH, hti, hz', wH, hb3]
 rw [show (Nat.blt 0 1 && Nat.blt 0 8 && Nat.ble 8 65536 && Nat.beq z.cells.size 1) = true from by rw [hzs]; rfl]
 simp only [ok?, hre, Option.bind_some]
 rw [show Nat.ble ((0 + m) * 8) 1099511627776 = true from by rw [Nat.ble_eq]; omega]
 by_cases e : m = 0
 ·subst e
  rw [if_pos rfl]
  simp only [hsrc, Option.bind_some]
 ·rw [if_neg e, show Nat.ble (0 + m) 0 = false from by cases e2 : Nat.ble (0 + m) 0 with | false => rfl | true => rw [Nat.ble_eq] at e2; omega]
  simp only [hold, hsrc, Option.bind_some, Nat.zero_add]
  rfl
end Go.Proofs.Ytdpicdnpiihaaaa.K.L
