/- Contracts of told functions: valid, turn; slices cut and joined. -/
import Derived.Test.YtdpicdnpiihaaaaLeS26
open Go Go.bK
set_option maxRecDepth 100000
set_option linter.unusedVariables false
namespace Go.Proofs.Ytdpicdnpiihaaaa.K.L
theorem aC9 {h : Hp} (w : Wf h) {s : Rm} {r : List Value} (a : zC h s r) : ∃ h', F37 [.agg (Array.mk r)] h = some (.bool (decide ((gD s).2.2 = 0)), h') := by
 have start : F37 [.agg (Array.mk r)] h = aNC (aI T37 999999) (.agg (Array.mk r)) h := rfl
 rw [start]
 unfold aNC
 have hr4 := a.len
 rw [dN, aX]
 have g0 := aR.add w (.cells r 25 none)
 have a0 : At (h.add (.cells r 25 none)) (.pointer (some ⟨h.next, 0, none⟩)) r := At.new
 obtain ⟨h2, e2⟩ := PU (h := bY (h.add (.cells r 25 none))) (eF g0.wf) (a.sub g0.sub)
 rw [a0.dL (z := 4) hr4, aZ e2 rfl, aB]
 unfold aOI
 rw [bP (v := .int .i64 (gD s).1) rfl, aG, bP (v := .int .i64 (gD s).2.1) rfl, aG, bP (v := .int .i64 (gD s).2.2) rfl, aG, aH, aY]
 exact ⟨_, rfl⟩
theorem aO5 {a b : Int} (h0 : 0 ≤ a) (hb : 0 < b) : l8 env .rem 3 (.int .i64 a) (.int .i64 b) = some (.int .i64 (a % b)) := by
 unfold l8 qR
 rw [show GK .rem (.int .i64 a) (.int .i64 b) = none from rfl]
 simp only
 rw [fF rfl]
 simp only [Op.intDiv]
 rw [if_neg (by omega)]
 rw [Int.tmod_eq_emod_of_nonneg h0]
 rfl
theorem CL {ρ : Type} {k : IntKind} {a : Int} (f : Int → Option ρ) : sI k (some (.int k a)) f = f a := by
 show aU k (.int k a) f = _
 exact aG k a f
def EW (n : Nat) : List Value := [.int .u8 (n : Int)]
theorem aHB {h : Hp} {v : Value} {xs : List Nat} (sl : bK.Rows h 1 v (xs.map EW)) (hb : ∀ x ∈ xs, x ≤ 255) (n : Nat) : ∃ t : Nat, F46 [v, .int .i64 (n : Int)] h = some (.int .i64 (t : Int)) ∧ t ≤ 255 := by
 show ∃ t : Nat, plainO (aND h (G.aI (T46 h) 999999) v (n : Int)) = _ ∧ _
 unfold aND
 rw [sl.len, List.length_map, aH, aY, aC]
 by_cases c : xs.length = 0
 ·rw [if_pos (by simp [c])]; exact ⟨0, rfl, by omega⟩
 ·have hlt : n % xs.length < xs.length := Nat.mod_lt _ (by omega)
  obtain ⟨q, hq, aq, _⟩ := sl.at (i := n % xs.length) (r := EW xs[n % xs.length]) (by rw [List.getElem?_map, List.getElem?_eq_getElem hlt]; rfl)
  have b := hb _ (List.getElem_mem hlt)
  rw [if_neg (by simpa using c), sl.len, List.length_map, aO5 (by omega) (by omega), CL, show ((n : Int) % (xs.length : Int)) = ((n % xs.length : Nat) : Int) from (Int.natCast_emod _ _).symm, hq, aq.gL (x := .int .u8 (xs[n % xs.length] : Int)) rfl, aG, wrap64_in _ (by omega) (by omega)]
  exact ⟨_, rfl, b⟩
theorem ZZ {hb h : Hp} {v : Value} {L : List Int} (a : oL hb h v L) (hL : L ≠ []) : ∃ b, v = .slice (some ⟨b, 0, none⟩) L.length L.length ∧ hb.next ≤ b ∧ h.get b = some (.cells (L.map (Value.int .i64)) 3 (some 1)) := by
 rcases a with ⟨_, h2⟩ | a
 ·exact absurd h2 hL
 ·exact a
theorem aSK {h : Hp} {b n k : Nat} {c : List Value} (hg : h.get b = some (.cells c 3 (some 1))) (hk : k ≤ n) (hn : 0 < n) : fM env h 22 (.slice (some ⟨b, 0, none⟩) n n) none (some (.int .i64 (k : Int))) none = some (.slice (some ⟨b, 0, none⟩) k k) := by
 have hb : jV none (some (.int .i64 (k : Int))) n n = some (0, k) := by
  unfold jV
  rw [show ((k : Nat) : Int) = Int.ofNat k from rfl]
  simp only [tX, Option.bind_some]
  rw [show Nat.ble k n = true from by rw [Nat.ble_eq]; omega]
  rfl
 have hr : kI h b = some (some 1) := by unfold kI; rw [hg]
 unfold fM
 simp only [CF, Option.bind_some, zO]
 rw [hr]
 simp only [Option.bind_some, Nat.beq_refl, hb, ok?]
 rw [show Nat.beq n 0 = false from by cases n with | zero => omega | succ n => rfl]
 rfl
theorem Z0 {h : Hp} {b n k : Nat} {c : List Value} (hg : h.get b = some (.cells c 3 (some 1))) (hk : k < n) : ∃ o, fM env h 22 (.slice (some ⟨b, 0, none⟩) n n) (some (.int .i64 ((k + 1 : Nat) : Int))) none none = some (.slice (some ⟨b, o, none⟩) (n - (k + 1)) (n - (k + 1))) ∧ (k + 1 < n → o = k + 1) := by
 have hb : jV (some (.int .i64 ((k + 1 : Nat) : Int))) none n n = some (k + 1, n) := by
  unfold jV
  rw [show (((k + 1 : Nat) : Int)) = Int.ofNat (k + 1) from rfl]
  simp only [tX, Option.bind_some]
  rw [show Nat.ble (k + 1) n = true from by rw [Nat.ble_eq]; omega]
  rfl
 have hr : kI h b = some (some 1) := by unfold kI; rw [hg]
 have e : fM env h 22 (.slice (some ⟨b, 0, none⟩) n n) (some (.int .i64 ((k + 1 : Nat) : Int))) none none = some (.slice (some (cond (Nat.beq n (k + 1)) ⟨b, 0, none⟩ (Addr.add ⟨b, 0, none⟩ ((k + 1) * 1)))) (n - (k + 1)) (n - (k + 1))) := by
  unfold fM
  simp only [CF, Option.bind_some, zO]
  rw [hr]
  simp only [Option.bind_some, Nat.beq_refl, hb, ok?]
 by_cases c1 : n = k + 1
 ·refine ⟨0, by rw [e, c1, Nat.beq_refl]; rfl, fun x => by omega⟩
 ·refine ⟨k + 1, ?_, fun _ => rfl⟩
  rw [e, show Nat.beq n (k + 1) = false from by cases hq : Nat.beq n (k + 1) with | false => rfl | true => exact absurd (Nat.eq_of_beq_eq_true hq) c1]
  show some (Value.slice (some ⟨b, 0 + (k + 1) * 1, none⟩) _ _) = _
  rw [show 0 + (k + 1) * 1 = k + 1 by omega]
theorem aFF {h : Hp} {b0 : Nat} (h0 : h.get b0 = some (.cells [] 3 none)) {b o m c : Nat} {M : List Int} (hm : M.length = m) (hm1 : m ≤ 100) (hs : m ≠ 0 → eO h ⟨b, o, none⟩ m = some (M.map (Value.int .i64))) (hz : m = 0 → ∃ c t s, h.get b = some (.cells c t s)) :
  dW env h #[22, 22] (List.toArray [.slice (some ⟨b0, 0, none⟩) 0 0, .slice (some ⟨b, o, none⟩) m c]) = some (if m = 0 then (.slice (some ⟨b0, 0, none⟩) 0 0, h) else (.slice (some ⟨h.next, 0, none⟩) m m, h.add (.cells (M.map (Value.int .i64)) 3 (some 1)))) := by
 obtain ⟨ti, hti⟩ : ∃ ti, env.ty.get 3 = some ti := by
  cases e : env.ty.get 3 with
  | none => have := FZ; rw [e] at this; cases this
  | some ti => exact ⟨ti, rfl⟩
 have hb3 : ti.info.bytes = 8 := by have := FZ; rw [hti] at this; simpa using this
 obtain ⟨z, hz'⟩ : ∃ z, lC env 3 = some z := by
  cases e : lC env 3 with
  | none => have := QI; rw [e] at this; cases this
  | some z => exact ⟨z, rfl⟩
 have hzs : Nat.beq z.cells.size 1 = true := by have := QI; rw [hz'] at this; simpa using this
 have hsrc : rH h m 1 (.slice (some ⟨b, o, none⟩) m c) = some (M.map (Value.int .i64)) := by
  show eO h ⟨b, o, none⟩ (m * 1) = _
  rw [Nat.mul_one]
  by_cases e : m = 0
  ·obtain ⟨c, t, s, hc⟩ := hz e
   unfold eO
   simp only [hc, e, List.take_zero]
   rw [List.eq_nil_of_length_eq_zero (hm.trans e)]
   rfl
  ·exact hs e
 have hre : kI h b0 = some none := by unfold kI; rw [h0]
 have hold : eO h ⟨b0, 0, none⟩ (0 * 1) = some [] := kZ h0 rfl
 unfold dW
 rw [show (#[22, 22] : Array TypeId)[0]? = some 22 from rfl, show (#[22, 22] : Array TypeId)[1]? = some 22 from rfl, show (List.toArray [Value.slice (some ⟨b0, 0, none⟩) 0 0, .slice (some ⟨b, o, none⟩) m c])[0]? = some (.slice (some ⟨b0, 0, none⟩) 0 0) from rfl, show (List.toArray [Value.slice (some ⟨b0, 0, none⟩) 0 0, .slice (some ⟨b, o, none⟩) m c])[1]? = some (.slice (some ⟨b, o, none⟩) m c) from rfl]
 simp only [Option.bind_some, CF, zO, hti, hz', zQ, hb3]
 rw [show (Nat.blt 0 1 && Nat.blt 0 8 && Nat.ble 8 65536 && Nat.beq z.cells.size 1) = true from by rw [hzs]; rfl]
 simp only [ok?, hre, Option.bind_some]
 rw [show Nat.ble ((0 + m) * 8) 1099511627776 = true from by rw [Nat.ble_eq]; omega]
 by_cases e : m = 0
 ·subst e
  rw [if_pos rfl]
  simp only [hsrc, Option.bind_some]
 ·rw [if_neg e, show Nat.ble (0 + m) 0 = false from by cases e2 : Nat.ble (0 + m) 0 with | false => rfl | true => rw [Nat.ble_eq] at e2; omega]
  simp only [hold, hsrc, Option.bind_some, Nat.zero_add]
  rfl
theorem aO6 {h : Hp} {b1 : Nat} {K : List Int} (h1 : h.get b1 = some (.cells (K.map (Value.int .i64)) 3 (some 1))) (hro : h.ro ≤ b1) (hK : K.length ≤ 100) {b o m c : Nat} {M : List Int} (hm : M.length = m) (hm1 : m ≤ 100) (hs : m ≠ 0 → eO h ⟨b, o, none⟩ m = some (M.map (Value.int .i64))) :
  dW env h #[22, 22] (List.toArray [.slice (some ⟨b1, 0, none⟩) K.length K.length, .slice (some ⟨b, o, none⟩) m c]) = some (if m = 0 then (.slice (some ⟨b1, 0, none⟩) K.length K.length, h) else (.slice (some ⟨h.next, 0, none⟩) (K.length + m) (K.length + m), (h.del b1).add (.cells ((K ++ M).map (Value.int .i64)) 3 (some 1)))) := by
 obtain ⟨ti, hti⟩ : ∃ ti, env.ty.get 3 = some ti := by
  cases e : env.ty.get 3 with
  | none => have := FZ; rw [e] at this; cases this
  | some ti => exact ⟨ti, rfl⟩
 have hb3 : ti.info.bytes = 8 := by have := FZ; rw [hti] at this; simpa using this
 obtain ⟨z, hz'⟩ : ∃ z, lC env 3 = some z := by
  cases e : lC env 3 with
  | none => have := QI; rw [e] at this; cases this
  | some z => exact ⟨z, rfl⟩
 have hzs : Nat.beq z.cells.size 1 = true := by have := QI; rw [hz'] at this; simpa using this
 have hre : kI h b1 = some (some 1) := by unfold kI; rw [h1]
 have hold : eO h ⟨b1, 0, none⟩ (K.length * 1) = some (K.map (Value.int .i64)) := kZ h1 (by simp)
 unfold dW
 rw [show (#[22, 22] : Array TypeId)[0]? = some 22 from rfl, show (#[22, 22] : Array TypeId)[1]? = some 22 from rfl, show (List.toArray [Value.slice (some ⟨b1, 0, none⟩) K.length K.length, .slice (some ⟨b, o, none⟩) m c])[0]? = some (.slice (some ⟨b1, 0, none⟩) K.length K.length) from rfl, show (List.toArray [Value.slice (some ⟨b1, 0, none⟩) K.length K.length, .slice (some ⟨b, o, none⟩) m c])[1]? = some (.slice (some ⟨b, o, none⟩) m c) from rfl]
 simp only [Option.bind_some, CF, zO, hti, hz', zQ, hb3]
 rw [show (Nat.blt 0 1 && Nat.blt 0 8 && Nat.ble 8 65536 && Nat.beq z.cells.size 1) = true from by rw [hzs]; rfl]
 simp only [ok?, hre, Option.bind_some]
 rw [show Nat.ble ((K.length + m) * 8) 1099511627776 = true from by rw [Nat.ble_eq]; omega]
 by_cases e : m = 0
 ·subst e
  rw [if_pos rfl]
 ·have hsrc : rH h m 1 (.slice (some ⟨b, o, none⟩) m c) = some (M.map (Value.int .i64)) := by
   show eO h ⟨b, o, none⟩ (m * 1) = _
   rw [Nat.mul_one]; exact hs e
  rw [if_neg e, show Nat.beq m 0 = false from by cases m with | zero => exact absurd rfl e | succ m => rfl]
  simp only
  rw [show Nat.ble h.ro b1 = true from by rw [Nat.ble_eq]; exact hro]
  simp only [h1, hold, hsrc, Option.bind_some, Nat.beq_refl, Bool.and_self, PZ, List.map_append]
  rfl
end Go.Proofs.Ytdpicdnpiihaaaa.K.L
